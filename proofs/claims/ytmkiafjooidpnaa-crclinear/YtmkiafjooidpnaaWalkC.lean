/- The contracts of crc.Of and crc.More: a text's check sum, however it is parted; how one goes on. -/
import Derived.Test.YtmkiafjooidpnaaWalkB
namespace Go.Proofs.Ytmkiafjooidpnaa
open Go.RowKit

theorem Bs.later {w w' : World} {a : Option Addr} {len : Nat} {zs : List Int} (h : Bs w a len zs) (hb : Below w.heap.size w w') : Bs w' a len zs := by
  obtain ⟨h1, h2, h3⟩ := h
  refine ⟨h1, h2, fun hp => ?_⟩
  obtain ⟨b, off, e, hc⟩ := h3 hp
  exact ⟨b, off, e, fun i hi => cell_later hb (hc i hi)⟩

/-- A slice of slices of bytes that reads so. -/
def Parts (w : World) (a : Option Addr) (n : Nat) (ps : List (List Int)) : Prop :=
  ps.length = n ∧ (0 < n → ∃ b off, a = some ⟨b, off, none⟩ ∧ ∀ i, i < n → ∃ a' len cap, w.cell? ⟨b, off + i, none⟩ = some (.slice a' len cap) ∧ len ≤ maxLen ∧ Bs w a' len (ps.getD i []))

theorem Parts.later {w w' : World} {a : Option Addr} {n : Nat} {ps : List (List Int)} (h : Parts w a n ps) (hb : Below w.heap.size w w') : Parts w' a n ps := by
  obtain ⟨h1, h2⟩ := h
  refine ⟨h1, fun hp => ?_⟩
  obtain ⟨b, off, e, hc⟩ := h2 hp
  refine ⟨b, off, e, fun i hi => ?_⟩
  obtain ⟨a', len, cap, hc1, hm, hbs⟩ := hc i hi
  exact ⟨a', len, cap, cell_later hb hc1, hm, hbs.later hb⟩

theorem flat_snoc (ps : List (List Int)) (k : Nat) (h : k < ps.length) : (ps.take (k + 1)).flatten = (ps.take k).flatten ++ ps.getD k [] := by
  rw [List.take_succ_eq_append_getElem h, List.flatten_append]; simp [List.getD_eq_getElem?_getD, h]

theorem parts_bytes {w : World} {a : Option Addr} {n : Nat} {ps : List (List Int)} (h : Parts w a n ps) (k : Nat) : ∀ c ∈ (ps.take k).flatten, 0 ≤ c ∧ c < 256 := by
  obtain ⟨h1, h2⟩ := h
  intro c hc
  rw [List.mem_flatten] at hc
  obtain ⟨l, hl, hcl⟩ := hc
  obtain ⟨i, hi, rfl⟩ := List.mem_iff_getElem.1 (List.mem_of_mem_take hl)
  obtain ⟨b, off, _, hcell⟩ := h2 (by omega)
  obtain ⟨_, _, _, _, _, hbs⟩ := hcell i (by omega)
  exact hbs.2.1 c (by simpa [List.getD_eq_getElem?_getD, hi] using hcl)

/-- The table, written out. -/
theorem isTable_new (w : World) : IsTable (w.alloc (.cells #[.int .u32 (stps 4 0 : Nat), .int .u32 (stps 4 1 : Nat), .int .u32 (stps 4 2 : Nat), .int .u32 (stps 4 3 : Nat), .int .u32 (stps 4 4 : Nat), .int .u32 (stps 4 5 : Nat), .int .u32 (stps 4 6 : Nat), .int .u32 (stps 4 7 : Nat), .int .u32 (stps 4 8 : Nat), .int .u32 (stps 4 9 : Nat), .int .u32 (stps 4 10 : Nat), .int .u32 (stps 4 11 : Nat), .int .u32 (stps 4 12 : Nat), .int .u32 (stps 4 13 : Nat), .int .u32 (stps 4 14 : Nat), .int .u32 (stps 4 15 : Nat)] 40)) w.heap.size := by
  intro i hi
  have h : i = 0 ∨ i = 1 ∨ i = 2 ∨ i = 3 ∨ i = 4 ∨ i = 5 ∨ i = 6 ∨ i = 7 ∨ i = 8 ∨ i = 9 ∨ i = 10 ∨ i = 11 ∨ i = 12 ∨ i = 13 ∨ i = 14 ∨ i = 15 := by omega
  rcases h with rfl | rfl | rfl | rfl | rfl | rfl | rfl | rfl | rfl | rfl | rfl | rfl | rfl | rfl | rfl | rfl <;> simp [go_sem]

theorem not_u32 (r : Nat) (h : r < 4294967296) : bits BinOp.xor IntKind.u32 IntKind.u32.max (r : Int) = ((4294967295 - r : Nat) : Int) := by
  have e := u32_xor_nat 4294967295 r (by omega) h
  rw [ones_xor r h] at e
  exact e
theorem u32_unsigned : IntKind.u32.signed = false := rfl

/-- The check sum of a text. -/
def crcSum (zs : List Int) : Nat := 4294967295 - crcRun 4294967295 zs

set_option maxHeartbeats 400000 in
theorem more_any (s : Nat) (hs : s < 4294967296) (a : Option Addr) (len cap : Nat) (zs : List Int) (w : World) (hb : Bs w a len zs) (hm : len ≤ maxLen) :
    Calls Try.prog 12 #[.int .u32 (s : Int), .slice a len cap] w fun e w' => e = .returned (.int .u32 ((4294967295 - crcRun (4294967295 - s) zs : Nat) : Int)) ∧ Below w.heap.size w w' := by
  have hsg := u32_unsigned
  go_enter Try.func12, Try.ntmps12
  go_wp2_with fail
  refine (makeTable_any _).mono ?_
  rintro e w1 ⟨rfl, hb1⟩
  go_wp2_with fail
  rw [not_u32 s hs]
  have hb2 := hb1.trans ((Below.refl w.heap.size w1).alloc hb1.size (.cells #[.int .u32 (stps 4 0 : Nat), .int .u32 (stps 4 1 : Nat), .int .u32 (stps 4 2 : Nat), .int .u32 (stps 4 3 : Nat), .int .u32 (stps 4 4 : Nat), .int .u32 (stps 4 5 : Nat), .int .u32 (stps 4 6 : Nat), .int .u32 (stps 4 7 : Nat), .int .u32 (stps 4 8 : Nat), .int .u32 (stps 4 9 : Nat), .int .u32 (stps 4 10 : Nat), .int .u32 (stps 4 11 : Nat), .int .u32 (stps 4 12 : Nat), .int .u32 (stps 4 13 : Nat), .int .u32 (stps 4 14 : Nat), .int .u32 (stps 4 15 : Nat)] 40))
  refine (take_any w1.heap.size _ (by omega) a len cap zs _ (isTable_new w1) (hb.later hb2) hm).mono ?_
  rintro e w2 ⟨rfl, rfl⟩
  go_wp2_with fail
  rw [not_u32 _ (crcRun_lt _ _ (by omega) hb.2.1)]
  go_ret
  exact ⟨rfl, hb2⟩

set_option maxHeartbeats 400000 in
theorem of_any (a : Option Addr) (n cap : Nat) (ps : List (List Int)) (w : World) (hp : Parts w a n ps) (hn : n ≤ maxLen) :
    Calls Try.prog 11 #[.slice a n cap] w fun e w' => e = .returned (.int .u32 ((crcSum ps.flatten : Nat) : Int)) ∧ Below w.heap.size w w' := by
  have hsg := u32_unsigned
  unfold maxLen at hn
  go_enter Try.func11, Try.ntmps11
  go_wp2_with fail
  refine (makeTable_any _).mono ?_
  rintro e w1 ⟨rfl, hb1⟩
  have hb2 := hb1.trans ((Below.refl w.heap.size w1).alloc hb1.size (.cells #[.int .u32 (stps 4 0 : Nat), .int .u32 (stps 4 1 : Nat), .int .u32 (stps 4 2 : Nat), .int .u32 (stps 4 3 : Nat), .int .u32 (stps 4 4 : Nat), .int .u32 (stps 4 5 : Nat), .int .u32 (stps 4 6 : Nat), .int .u32 (stps 4 7 : Nat), .int .u32 (stps 4 8 : Nat), .int .u32 (stps 4 9 : Nat), .int .u32 (stps 4 10 : Nat), .int .u32 (stps 4 11 : Nat), .int .u32 (stps 4 12 : Nat), .int .u32 (stps 4 13 : Nat), .int .u32 (stps 4 14 : Nat), .int .u32 (stps 4 15 : Nat)] 40))
  have ht := isTable_new w1
  go_wp2_with fail
  generalize w1.alloc (.cells #[.int .u32 (stps 4 0 : Nat), .int .u32 (stps 4 1 : Nat), .int .u32 (stps 4 2 : Nat), .int .u32 (stps 4 3 : Nat), .int .u32 (stps 4 4 : Nat), .int .u32 (stps 4 5 : Nat), .int .u32 (stps 4 6 : Nat), .int .u32 (stps 4 7 : Nat), .int .u32 (stps 4 8 : Nat), .int .u32 (stps 4 9 : Nat), .int .u32 (stps 4 10 : Nat), .int .u32 (stps 4 11 : Nat), .int .u32 (stps 4 12 : Nat), .int .u32 (stps 4 13 : Nat), .int .u32 (stps 4 14 : Nat), .int .u32 (stps 4 15 : Nat)] 40) = W at hb2 ht ⊢
  obtain ⟨hl, hc⟩ := hp.later hb2
  have hby : ∀ k, ∀ c ∈ (ps.take k).flatten, 0 ≤ c ∧ c < 256 := parts_bytes hp
  go_loop [4, 10] (fun x i => ∃ k : Nat, k ≤ n ∧ i = .int .i64 k ∧ x = .int .u32 ((crcRun 4294967295 (ps.take k).flatten : Nat) : Int)) (fun _ i => n - (intOf i).toNat)
  case atStart => exact ⟨0, by omega, rfl, rfl⟩
  case round =>
    obtain ⟨k, hk, rfl, rfl⟩ := hrel
    have hs := crcRun_lt 4294967295 (ps.take k).flatten (by omega) (hby k)
    by_cases hlt : k < n
    · obtain ⟨b, off, rfl, hcell⟩ := hc (by omega)
      obtain ⟨a', len, cap', hck, hm, hbs⟩ := hcell k hlt
      have HS : Hid (crcRun 4294967295 (ps.take (k + 1)).flatten = crcRun (crcRun 4294967295 (ps.take k).flatten) (ps.getD k [])) := by
        rw [flat_snoc ps k (by omega), crcRun_append]; rfl
      clear hc hcell hby
      go_wp2_with fail
      refine (take_any w1.heap.size _ hs a' len cap' _ W ht hbs hm).mono ?_
      rintro e w' ⟨rfl, rfl⟩
      go_wp2_with fail
      refine ⟨⟨k + 1, by omega, by go_num, val_int ?_⟩, by simp [intOf]; omega⟩
      rw [HS.out]; simp [List.getD_eq_getElem?_getD, show k < ps.length by omega]
    · go_wp2
      rw [not_u32 _ hs]
      go_ret
      exact ⟨ret_int (by rw [List.take_of_length_le (by omega)]; rfl), hb2⟩
end Go.Proofs.Ytmkiafjooidpnaa

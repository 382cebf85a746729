/- C1, CA, CB, CC, CD, CE, CT, CR, CP, J1, J2, J3, J4, J5, J6, J7, J9, C2, J10, J11, J12: laid together. -/
import Derived.Laws.BitsAllLaws
import Derived.WalkKit
import Derived.WalkSpells
import Derived.WalkLawsBesides
import Derived.Below
import Derived.Handy
import Derived.Lib.SlBytesConst
import Derived.Laws.BytesArg
import Derived.Laws.OwnMore
import Derived.OwnWalk
import Derived.BigQuiet
import Derived.RangeFuncNested
import Derived.RangeFuncBound
import Derived.RangeFuncCalls
import Derived.RangeFuncLeaves
import Derived.Shelf.Abstract
import Derived.Shelf.RegionOpen
import Derived.OwnWalkIn
import Derived.TacticsInMore
import Derived.LoopNIn
import Derived.LoopIn
import Derived.Lib.AppendZeros
import Derived.Deep.DeepAppendRoom
import Derived.ProofKit
import Derived.OpenShut
import Derived.ShutString
import Derived.ChangeOld
import Derived.Deep.Slices
import Derived.Test.YtfmjknknckjdiaaRows
namespace Go.Proofs.Ytfmjknknckjdiaa

/-- One bit's shift of a register. -/
def stp (r : Nat) : Nat := if r % 2 = 1 then (r / 2) ^^^ 3988292384 else r / 2

/-- So many shifts, one behind the other. -/
def stps : Nat → Nat → Nat
  | 0, r => r
  | k + 1, r => stps k (stp r)

/-- What stands in the register behind a row of bytes. -/
def crcRun (r : Nat) (l : List Int) : Nat := l.foldl (fun r c => stps 8 (r ^^^ c.toNat)) r

theorem stp_lt (r : Nat) (h : r < 4294967296) : stp r < 4294967296 := by
  unfold stp
  split
  · exact Nat.xor_lt_two_pow (n := 32) (by omega) (by omega)
  · omega

theorem stps_lt (k : Nat) : ∀ r, r < 4294967296 → stps k r < 4294967296 := by
  induction k with
  | zero => intro r h; exact h
  | succ k ih => intro r h; exact ih _ (stp_lt r h)

theorem stps_succ (k : Nat) : ∀ r, stps (k + 1) r = stp (stps k r) := by
  induction k with
  | zero => intro r; rfl
  | succ k ih => intro r; exact ih (stp r)

theorem stps_add (j : Nat) : ∀ k r, stps (j + k) r = stps k (stps j r) := by
  induction j with
  | zero => intro k r; simp [stps]
  | succ j ih => intro k r; rw [show j + 1 + k = (j + k) + 1 from by omega]; exact ih k (stp r)

/-- Two numbers are one if their bits are. -/
theorem xor_half (a b : Nat) : (a ^^^ b) / 2 = a / 2 ^^^ b / 2 := by
  apply Nat.eq_of_testBit_eq
  intro i
  simp [Nat.testBit_div_two, Nat.testBit_xor]

theorem xor_par (a b : Nat) : (a ^^^ b) % 2 = (a % 2 + b % 2) % 2 := by
  have h : (a ^^^ b) % 2 = (a % 2) ^^^ (b % 2) := by
    have := @Nat.xor_mod_two_pow a b 1
    simpa using this
  rw [h]
  rcases Nat.mod_two_eq_zero_or_one a with ha | ha <;> rcases Nat.mod_two_eq_zero_or_one b with hb | hb <;> simp [ha, hb]

/-- A shift goes through exclusive or. -/
theorem stp_xor (a b : Nat) : stp (a ^^^ b) = stp a ^^^ stp b := by
  unfold stp
  rw [xor_half, xor_par]
  rcases Nat.mod_two_eq_zero_or_one a with ha | ha <;> rcases Nat.mod_two_eq_zero_or_one b with hb | hb
  · simp [ha, hb]
  · simp [ha, hb, Nat.xor_assoc]
  · simp [ha, hb]
    rw [Nat.xor_assoc, Nat.xor_assoc, Nat.xor_comm 3988292384]
  · simp [ha, hb]
    rw [Nat.xor_assoc, ← Nat.xor_assoc 3988292384, Nat.xor_comm 3988292384, Nat.xor_assoc, Nat.xor_self, Nat.xor_zero]

theorem stps_xor (k : Nat) : ∀ a b, stps k (a ^^^ b) = stps k a ^^^ stps k b := by
  induction k with
  | zero => intro a b; rfl
  | succ k ih => intro a b; show stps k (stp (a ^^^ b)) = _; rw [stp_xor]; exact ih _ _

theorem stp_zero : stp 0 = 0 := by decide
theorem stps_zero (k : Nat) : stps k 0 = 0 := by
  induction k with
  | zero => rfl
  | succ k ih => rw [stps_succ, ih, stp_zero]

/-- A shift of what ends in a 0 only halves it. -/
theorem stp_even (r : Nat) (h : r % 2 = 0) : stp r = r / 2 := by
  unfold stp; rw [if_neg (by omega)]

theorem stps_low (k : Nat) : ∀ q, stps k (q * 2 ^ k) = q := by
  induction k with
  | zero => intro q; simp [stps]
  | succ k ih =>
    intro q
    show stps k (stp (q * 2 ^ (k + 1))) = q
    rw [stp_even _ (by rw [Nat.pow_succ, ← Nat.mul_assoc]; omega), show q * 2 ^ (k + 1) / 2 = q * 2 ^ k from by rw [Nat.pow_succ, ← Nat.mul_assoc]; omega]
    exact ih q

theorem split_low (r k : Nat) : r = (r / 2 ^ k * 2 ^ k) ^^^ (r % 2 ^ k) := by
  apply Nat.eq_of_testBit_eq
  intro i
  rw [Nat.testBit_xor, Nat.testBit_mod_two_pow, ← Nat.shiftLeft_eq, Nat.testBit_shiftLeft, Nat.testBit_div_two_pow]
  by_cases h : i < k
  · simp [h, show ¬ k ≤ i from by omega]
  · simp [h, show k ≤ i from by omega]

/-- A step of k shifts: what is above moves down, what is below is put to it. -/
theorem stps_split (k r : Nat) : stps k r = (r / 2 ^ k) ^^^ stps k (r % 2 ^ k) := by
  conv => lhs; rw [split_low r k]
  rw [stps_xor, stps_low]

theorem stps_four (r : Nat) : stps 4 r = (r / 16) ^^^ stps 4 (r % 16) := stps_split 4 r

/-- All bits turned. -/
theorem ones_xor (s : Nat) (h : s < 4294967296) : 4294967295 ^^^ s = 4294967295 - s := by
  apply Nat.eq_of_testBit_eq
  intro i
  rw [Nat.testBit_xor, show 4294967295 = 2 ^ 32 - 1 from rfl, Nat.testBit_two_pow_sub_one, show 2 ^ 32 - 1 - s = 2 ^ 32 - (s + 1) from by omega, Nat.testBit_two_pow_sub_succ (by omega)]
  by_cases hi : i < 32
  · simp [hi]
  · have : s.testBit i = false := Nat.testBit_lt_two_pow (Nat.lt_of_lt_of_le h (Nat.pow_le_pow_right (show 0 < 2 by omega) (show 32 ≤ i by omega)))
    simp [hi, this]

theorem crcRun_nil (r : Nat) : crcRun r [] = r := rfl
theorem crcRun_append (r : Nat) (a b : List Int) : crcRun r (a ++ b) = crcRun (crcRun r a) b := by simp [crcRun]
theorem crcRun_snoc (r : Nat) (a : List Int) (c : Int) : crcRun r (a ++ [c]) = stps 8 (crcRun r a ^^^ c.toNat) := by simp [crcRun]

theorem crcRun_lt (r : Nat) (l : List Int) (h : r < 4294967296) (hl : ∀ c ∈ l, 0 ≤ c ∧ c < 256) : crcRun r l < 4294967296 := by
  induction l generalizing r with
  | nil => exact h
  | cons c l ih =>
    have hc := hl c (by simp)
    exact ih _ (stps_lt 8 _ (Nat.xor_lt_two_pow (n := 32) (by omega) (by omega))) (fun d hd => hl d (by simp [hd]))

end Go.Proofs.Ytfmjknknckjdiaa

namespace Go.Proofs.Ytfmjknknckjdiaa
open Go.RowKit

theorem val_int {k : IntKind} {a b : Int} (h : a = b) : Value.int k a = Value.int k b := by rw [h]
theorem ret_int {k : IntKind} {a b : Int} (h : a = b) : Ending.returned (.int k a) = .returned (.int k b) := by rw [h]

theorem stp_odd_int (r : Nat) (hr : r < 4294967296) (h : (bits BinOp.and IntKind.u32 (r : Int) 1 == 1) = true) :
    bits BinOp.xor IntKind.u32 ((r : Int) / 2) 3988292384 = ((stp r : Nat) : Int) := by
  have e := u32_and_nat r 1 hr (by omega)
  simp only [Int.cast_ofNat_Int, nat_mask1] at e
  rw [e] at h
  have h1 : r % 2 = 1 := by simp at h; omega
  have x := u32_xor_nat (r / 2) 3988292384 (by omega) (by omega)
  simp only [Int.natCast_ediv, Int.cast_ofNat_Int] at x
  rw [x]; unfold stp; rw [if_pos h1]

theorem stp_even_int (r : Nat) (hr : r < 4294967296) (h : (bits BinOp.and IntKind.u32 (r : Int) 1 == 1) = false) :
    ((r : Int) / 2) = ((stp r : Nat) : Int) := by
  have e := u32_and_nat r 1 hr (by omega)
  simp only [Int.cast_ofNat_Int, nat_mask1] at e
  rw [e] at h
  have h1 : ¬ r % 2 = 1 := by simp at h; omega
  unfold stp; rw [if_neg h1]; omega

set_option maxHeartbeats 400000 in
theorem shift_any (r : Nat) (hr : r < 4294967296) (w : World) :
    Calls Try.prog 37 #[.int .u32 (r : Int), .int .i64 4] w fun e w' => e = .returned (.int .u32 ((stps 4 r : Nat) : Int)) ∧ w' = w := by
  go_enter Try.func37, Try.ntmps37
  go_wp2
  go_loop [0, 7] (fun x i => ∃ k : Nat, k ≤ 4 ∧ i = .int .i64 k ∧ x = .int .u32 ((stps k r : Nat) : Int)) (fun _ i => 4 - (intOf i).toNat)
  case atStart => exact ⟨0, by omega, rfl, rfl⟩
  case round =>
    obtain ⟨k, hk, rfl, rfl⟩ := hrel
    have hs := stps_lt k r hr
    by_cases hlt : k < 4
    · go_wp2
      all_goals refine ⟨⟨k + 1, by omega, by go_num, val_int ?_⟩, by simp [intOf]; omega⟩
      · rw [stps_succ]; exact stp_odd_int _ hs ‹_›
      · rw [stps_succ]; exact stp_even_int _ hs ‹_›
    · go_wp2
      obtain rfl : k = 4 := by omega
      go_ret
      exact ⟨rfl, rfl⟩

/-- The table of sixteen words lies at a block. -/
def IsTable (w : World) (b : Nat) : Prop := ∀ i : Nat, i < 16 → w.cell? ⟨b, i, none⟩ = some (.int .u32 ((stps 4 i : Nat) : Int))

set_option maxHeartbeats 400000 in
theorem move_any (b r : Nat) (hr : r < 4294967296) (w : World) (ht : IsTable w b) :
    Calls Try.prog 38 #[.pointer (some ⟨b, 0, none⟩), .int .u32 (r : Int)] w fun e w' => e = .returned (.int .u32 ((stps 4 r : Nat) : Int)) ∧ w' = w := by
  have hc := ht (r % 16) (by omega)
  go_enter Try.func38, Try.ntmps38
  go_wp2
  go_ret
  refine ⟨ret_int ?_, rfl⟩
  have x := u32_xor_nat (r / 16) (stps 4 (r % 16)) (by omega) (stps_lt 4 _ (by omega))
  simp only [Int.natCast_ediv, Int.cast_ofNat_Int] at x
  rw [x, stps_four r]

/-- A slice of bytes that reads so: its elements alone; of its spare room nothing is said. -/
def Bs (w : World) (a : Option Addr) (len : Nat) (zs : List Int) : Prop :=
  zs.length = len ∧ (∀ z ∈ zs, 0 ≤ z ∧ z < 256) ∧ (0 < len → ∃ b off, a = some ⟨b, off, none⟩ ∧ ∀ i, i < len → w.cell? ⟨b, off + i, none⟩ = some (.int .u8 (zs.getD i 0)))

theorem take_snoc (l : List Int) (k : Nat) (h : k < l.length) : l.take (k + 1) = l.take k ++ [l.getD k 0] := by
  rw [List.take_succ_eq_append_getElem h]; simp [h]

theorem getD_mem {l : List Int} {k : Nat} (h : k < l.length) : l.getD k 0 ∈ l := by
  simp [List.getD_eq_getElem?_getD, h]

set_option maxHeartbeats 400000 in
theorem take_any (b r : Nat) (hr : r < 4294967296) (a : Option Addr) (len cap : Nat) (zs : List Int) (w : World) (ht : IsTable w b) (hb : Bs w a len zs) (hm : len ≤ maxLen) :
    Calls Try.prog 33 #[.pointer (some ⟨b, 0, none⟩), .int .u32 (r : Int), .slice a len cap] w fun e w' => e = .returned (.int .u32 ((crcRun r zs : Nat) : Int)) ∧ w' = w := by
  unfold maxLen at hm
  obtain ⟨hz, hby, hc⟩ := hb
  go_enter Try.func33, Try.ntmps33
  go_wp2
  go_loop [1, 11] (fun x i => ∃ k : Nat, k ≤ len ∧ i = .int .i64 k ∧ x = .int .u32 ((crcRun r (zs.take k) : Nat) : Int)) (fun _ i => len - (intOf i).toNat)
  case atStart => exact ⟨0, by omega, rfl, rfl⟩
  case round =>
    obtain ⟨k, hk, rfl, rfl⟩ := hrel
    have hs := crcRun_lt r (zs.take k) hr (fun c h => hby c (List.mem_of_mem_take h))
    by_cases hlt : k < len
    · obtain ⟨b', off, rfl, hcell⟩ := hc (by omega)
      have hck := hcell k hlt
      have hbk := hby _ (getD_mem (l := zs) (k := k) (by omega))
      have hts := take_snoc zs k (by omega)
      generalize hcc : zs.getD k 0 = c at *
      obtain ⟨c, rfl⟩ := Int.eq_ofNat_of_zero_le hbk.1
      have hc256 : c < 256 := by omega
      have HS : Hid (crcRun r (zs.take (k + 1)) = stps 8 (crcRun r (zs.take k) ^^^ c)) := by rw [hts, crcRun_snoc]; rfl
      clear hts hcc hc hcell hbk
      have hx := Nat.xor_lt_two_pow (n := 32) hs (show c < 2 ^ 32 by omega)
      have Hxi : Hid (bits .xor .u32 ((crcRun r (zs.take k) : Nat) : Int) (c : Int) = ((crcRun r (zs.take k) ^^^ c : Nat) : Int)) := u32_xor_nat _ _ hs (by omega)
      go_wp2_with fail
      rw [Hxi.out]
      refine (move_any b _ hx w ht).mono ?_
      rintro e w' ⟨rfl, rfl⟩
      go_wp2_with fail
      refine (move_any b _ (stps_lt 4 _ hx) _ ht).mono ?_
      rintro e w' ⟨rfl, rfl⟩
      go_wp2_with fail
      refine ⟨⟨k + 1, by omega, by go_num, val_int ?_⟩, by simp [intOf]; omega⟩
      rw [HS.out, ← stps_add]
    · go_wp2
      go_ret
      exact ⟨ret_int (by rw [List.take_of_length_le (by omega)]), rfl⟩

end Go.Proofs.Ytfmjknknckjdiaa

namespace Go.Proofs.Ytfmjknknckjdiaa
open Go.RowKit

set_option maxHeartbeats 400000 in
theorem makeTable_any (w : World) :
    Calls Try.prog 32 #[] w fun e w' => e = .returned (.agg #[.int .u32 (stps 4 0 : Nat), .int .u32 (stps 4 1 : Nat), .int .u32 (stps 4 2 : Nat), .int .u32 (stps 4 3 : Nat), .int .u32 (stps 4 4 : Nat), .int .u32 (stps 4 5 : Nat), .int .u32 (stps 4 6 : Nat), .int .u32 (stps 4 7 : Nat), .int .u32 (stps 4 8 : Nat), .int .u32 (stps 4 9 : Nat), .int .u32 (stps 4 10 : Nat), .int .u32 (stps 4 11 : Nat), .int .u32 (stps 4 12 : Nat), .int .u32 (stps 4 13 : Nat), .int .u32 (stps 4 14 : Nat), .int .u32 (stps 4 15 : Nat)]) ∧ Below w.heap.size w w' := by
  go_enter Try.func32, Try.ntmps32
  go_wp2
  refine wp_loop_rounds 17 ?_
  iterate 16
    rw [rounds_succ]
    go_wp2_with fail
    refine (shift_any _ (by decide) _).mono ?_
    rintro e w' ⟨rfl, rfl⟩
    go_wp2_with fail
  rw [rounds_succ]
  go_wp2
  exact bodyPost_ret (v := .agg #[.int .u32 (stps 4 0 : Nat), .int .u32 (stps 4 1 : Nat), .int .u32 (stps 4 2 : Nat), .int .u32 (stps 4 3 : Nat), .int .u32 (stps 4 4 : Nat), .int .u32 (stps 4 5 : Nat), .int .u32 (stps 4 6 : Nat), .int .u32 (stps 4 7 : Nat), .int .u32 (stps 4 8 : Nat), .int .u32 (stps 4 9 : Nat), .int .u32 (stps 4 10 : Nat), .int .u32 (stps 4 11 : Nat), .int .u32 (stps 4 12 : Nat), .int .u32 (stps 4 13 : Nat), .int .u32 (stps 4 14 : Nat), .int .u32 (stps 4 15 : Nat)]) (by simp [results, Try.results32, go_sem]) rfl ⟨rfl, ((Below.refl _ _).alloc (Nat.le_refl _) _).alloc (by simp) _⟩

end Go.Proofs.Ytfmjknknckjdiaa

namespace Go.Proofs.Ytfmjknknckjdiaa
open Go.RowKit

theorem Bs.later {w w' : World} {a : Option Addr} {len : Nat} {zs : List Int} (h : Bs w a len zs) (hb : Below w.heap.size w w') : Bs w' a len zs := by
  obtain ⟨h1, h2, h3⟩ := h
  refine ⟨h1, h2, fun hp => ?_⟩
  obtain ⟨b, off, e, hc⟩ := h3 hp
  exact ⟨b, off, e, fun i hi => cell_later hb (hc i hi)⟩

/-- A slice of slices of bytes that reads so. -/
def Parts (w : World) (a : Option Addr) (n : Nat) (ps : List (List Int)) : Prop :=
  ps.length = n ∧ (0 < n → ∃ b off, a = some ⟨b, off, none⟩ ∧ ∀ i, i < n → ∃ a' len cap, w.cell? ⟨b, off + i, none⟩ = some (.slice a' len cap) ∧ len ≤ maxLen ∧ Bs w a' len (ps.getD i []))

theorem Parts.later {w w' : World} {a : Option Addr} {n : Nat} {ps : List (List Int)} (h : Parts w a n ps) (hb : Below w.heap.size w w') : Parts w' a n ps := by
  obtain ⟨h1, h2⟩ := h
  refine ⟨h1, fun hp => ?_⟩
  obtain ⟨b, off, e, hc⟩ := h2 hp
  refine ⟨b, off, e, fun i hi => ?_⟩
  obtain ⟨a', len, cap, hc1, hm, hbs⟩ := hc i hi
  exact ⟨a', len, cap, cell_later hb hc1, hm, hbs.later hb⟩

theorem flat_snoc (ps : List (List Int)) (k : Nat) (h : k < ps.length) : (ps.take (k + 1)).flatten = (ps.take k).flatten ++ ps.getD k [] := by
  rw [List.take_succ_eq_append_getElem h, List.flatten_append]; simp [List.getD_eq_getElem?_getD, h]

theorem parts_bytes {w : World} {a : Option Addr} {n : Nat} {ps : List (List Int)} (h : Parts w a n ps) (k : Nat) : ∀ c ∈ (ps.take k).flatten, 0 ≤ c ∧ c < 256 := by
  obtain ⟨h1, h2⟩ := h
  intro c hc
  rw [List.mem_flatten] at hc
  obtain ⟨l, hl, hcl⟩ := hc
  obtain ⟨i, hi, rfl⟩ := List.mem_iff_getElem.1 (List.mem_of_mem_take hl)
  obtain ⟨b, off, _, hcell⟩ := h2 (by omega)
  obtain ⟨_, _, _, _, _, hbs⟩ := hcell i (by omega)
  exact hbs.2.1 c (by simpa [List.getD_eq_getElem?_getD, hi] using hcl)

/-- The table, written out. -/
theorem isTable_new (w : World) : IsTable (w.alloc (.cells #[.int .u32 (stps 4 0 : Nat), .int .u32 (stps 4 1 : Nat), .int .u32 (stps 4 2 : Nat), .int .u32 (stps 4 3 : Nat), .int .u32 (stps 4 4 : Nat), .int .u32 (stps 4 5 : Nat), .int .u32 (stps 4 6 : Nat), .int .u32 (stps 4 7 : Nat), .int .u32 (stps 4 8 : Nat), .int .u32 (stps 4 9 : Nat), .int .u32 (stps 4 10 : Nat), .int .u32 (stps 4 11 : Nat), .int .u32 (stps 4 12 : Nat), .int .u32 (stps 4 13 : Nat), .int .u32 (stps 4 14 : Nat), .int .u32 (stps 4 15 : Nat)] 62)) w.heap.size := by
  intro i hi
  have h : i = 0 ∨ i = 1 ∨ i = 2 ∨ i = 3 ∨ i = 4 ∨ i = 5 ∨ i = 6 ∨ i = 7 ∨ i = 8 ∨ i = 9 ∨ i = 10 ∨ i = 11 ∨ i = 12 ∨ i = 13 ∨ i = 14 ∨ i = 15 := by omega
  rcases h with rfl | rfl | rfl | rfl | rfl | rfl | rfl | rfl | rfl | rfl | rfl | rfl | rfl | rfl | rfl | rfl <;> simp [go_sem]

theorem not_u32 (r : Nat) (h : r < 4294967296) : bits BinOp.xor IntKind.u32 IntKind.u32.max (r : Int) = ((4294967295 - r : Nat) : Int) := by
  have e := u32_xor_nat 4294967295 r (by omega) h
  rw [ones_xor r h] at e
  exact e
theorem u32_unsigned : IntKind.u32.signed = false := rfl

/-- The check sum of a text. -/
def crcSum (zs : List Int) : Nat := 4294967295 - crcRun 4294967295 zs

set_option maxHeartbeats 400000 in
theorem of_any (a : Option Addr) (n cap : Nat) (ps : List (List Int)) (w : World) (hp : Parts w a n ps) (hn : n ≤ maxLen) :
    Calls Try.prog 24 #[.slice a n cap] w fun e w' => e = .returned (.int .u32 ((crcSum ps.flatten : Nat) : Int)) ∧ Below w.heap.size w w' := by
  have hsg := u32_unsigned
  unfold maxLen at hn
  go_enter Try.func24, Try.ntmps24
  go_wp2_with fail
  refine (makeTable_any _).mono ?_
  rintro e w1 ⟨rfl, hb1⟩
  have hb2 := hb1.trans ((Below.refl w.heap.size w1).alloc hb1.size (.cells #[.int .u32 (stps 4 0 : Nat), .int .u32 (stps 4 1 : Nat), .int .u32 (stps 4 2 : Nat), .int .u32 (stps 4 3 : Nat), .int .u32 (stps 4 4 : Nat), .int .u32 (stps 4 5 : Nat), .int .u32 (stps 4 6 : Nat), .int .u32 (stps 4 7 : Nat), .int .u32 (stps 4 8 : Nat), .int .u32 (stps 4 9 : Nat), .int .u32 (stps 4 10 : Nat), .int .u32 (stps 4 11 : Nat), .int .u32 (stps 4 12 : Nat), .int .u32 (stps 4 13 : Nat), .int .u32 (stps 4 14 : Nat), .int .u32 (stps 4 15 : Nat)] 62))
  have ht := isTable_new w1
  go_wp2_with fail
  generalize w1.alloc (.cells #[.int .u32 (stps 4 0 : Nat), .int .u32 (stps 4 1 : Nat), .int .u32 (stps 4 2 : Nat), .int .u32 (stps 4 3 : Nat), .int .u32 (stps 4 4 : Nat), .int .u32 (stps 4 5 : Nat), .int .u32 (stps 4 6 : Nat), .int .u32 (stps 4 7 : Nat), .int .u32 (stps 4 8 : Nat), .int .u32 (stps 4 9 : Nat), .int .u32 (stps 4 10 : Nat), .int .u32 (stps 4 11 : Nat), .int .u32 (stps 4 12 : Nat), .int .u32 (stps 4 13 : Nat), .int .u32 (stps 4 14 : Nat), .int .u32 (stps 4 15 : Nat)] 62) = W at hb2 ht ⊢
  obtain ⟨hl, hc⟩ := hp.later hb2
  have hby : ∀ k, ∀ c ∈ (ps.take k).flatten, 0 ≤ c ∧ c < 256 := parts_bytes hp
  go_loop [4, 10] (fun x i => ∃ k : Nat, k ≤ n ∧ i = .int .i64 k ∧ x = .int .u32 ((crcRun 4294967295 (ps.take k).flatten : Nat) : Int)) (fun _ i => n - (intOf i).toNat)
  case atStart => exact ⟨0, by omega, rfl, rfl⟩
  case round =>
    obtain ⟨k, hk, rfl, rfl⟩ := hrel
    have hs := crcRun_lt 4294967295 (ps.take k).flatten (by omega) (hby k)
    by_cases hlt : k < n
    · obtain ⟨b, off, rfl, hcell⟩ := hc (by omega)
      obtain ⟨a', len, cap', hck, hm, hbs⟩ := hcell k hlt
      have HS : Hid (crcRun 4294967295 (ps.take (k + 1)).flatten = crcRun (crcRun 4294967295 (ps.take k).flatten) (ps.getD k [])) := by
        rw [flat_snoc ps k (by omega), crcRun_append]; rfl
      clear hc hcell hby
      go_wp2_with fail
      refine (take_any w1.heap.size _ hs a' len cap' _ W ht hbs hm).mono ?_
      rintro e w' ⟨rfl, rfl⟩
      go_wp2_with fail
      refine ⟨⟨k + 1, by omega, by go_num, val_int ?_⟩, by simp [intOf]; omega⟩
      rw [HS.out]; simp [List.getD_eq_getElem?_getD, show k < ps.length by omega]
    · go_wp2
      rw [not_u32 _ hs]
      go_ret
      exact ⟨ret_int (by rw [List.take_of_length_le (by omega)]; rfl), hb2⟩
end Go.Proofs.Ytfmjknknckjdiaa

namespace Go.Proofs.Ytfmjknknckjdiaa
open Go.RowKit

/-- A row that the call itself has made, in its last block. -/
theorem bs_new (w : World) (zs : List Int) (fr : Nat × Nat) (hz : ∀ z ∈ zs, 0 ≤ z ∧ z < 256) : Bs (w.alloc (.cells (zs.map (Value.int .u8)).toArray 5 fr)) (some ⟨w.heap.size, 0, none⟩) zs.length zs := by
  refine ⟨rfl, hz, fun _ => ⟨_, _, rfl, fun i hi => ?_⟩⟩
  rw [World.cell?_alloc_mark]
  simp [hi]

theorem parts_none (w : World) (a : Option Addr) : Parts w a 0 [] := ⟨rfl, fun h => absurd h (by omega)⟩

theorem parts_one {w : World} {b : Nat} {a1 : Option Addr} {l1 c1 : Nat} {z1 : List Int} (h1 : w.cell? ⟨b, 0, none⟩ = some (.slice a1 l1 c1)) (m1 : l1 ≤ maxLen) (k1 : Bs w a1 l1 z1) : Parts w (some ⟨b, 0, none⟩) 1 [z1] := by
  refine ⟨rfl, fun _ => ⟨_, _, rfl, fun i hi => ?_⟩⟩
  obtain rfl : i = 0 := by omega
  exact ⟨a1, l1, c1, h1, m1, k1⟩

theorem parts_two {w : World} {b : Nat} {a1 a2 : Option Addr} {l1 c1 l2 c2 : Nat} {z1 z2 : List Int} (h1 : w.cell? ⟨b, 0, none⟩ = some (.slice a1 l1 c1)) (m1 : l1 ≤ maxLen) (k1 : Bs w a1 l1 z1)
    (h2 : w.cell? ⟨b, 1, none⟩ = some (.slice a2 l2 c2)) (m2 : l2 ≤ maxLen) (k2 : Bs w a2 l2 z2) : Parts w (some ⟨b, 0, none⟩) 2 [z1, z2] := by
  refine ⟨rfl, fun _ => ⟨_, _, rfl, fun i hi => ?_⟩⟩
  rcases (show i = 0 ∨ i = 1 by omega) with rfl | rfl
  · exact ⟨a1, l1, c1, h1, m1, k1⟩
  · exact ⟨a2, l2, c2, h2, m2, k2⟩

theorem example_sum : crcSum [49, 50, 51, 52, 53, 54, 55, 56, 57] = 3421780262 := by decide +kernel

end Go.Proofs.Ytfmjknknckjdiaa

namespace Go.Proofs.Ytfmjknknckjdiaa
open Go.RowKit

theorem conv_bs {w : World} {a : Option Addr} {len : Nat} {zs : List Int} (h : Bs w a len zs) (cap : Nat) :
    (convert 22 9 (.slice a len cap)).run Try.prog w = .ok (.string (strOfNums zs)) w := by
  obtain ⟨h1, h2, h3⟩ := h
  rcases Nat.eq_zero_or_pos len with rfl | hp
  · obtain rfl : zs = [] := List.length_eq_zero_iff.1 h1
    cases a with
    | none => exact run_convert_bytes_nil w 22 5 Try.underlying22 Try.underlying5 0 cap 9 Try.underlying9
    | some x =>
      rw [run_convert_bytes_string w 22 9 5 _ 0 cap Try.underlying22 Try.underlying5 Try.underlying9, run_bytesToString w x 0 cap [] (run_loadCells_list (P := Try.prog) w x [] (fun j v hj => by simp at hj))]
      rfl
  · obtain ⟨b, off, rfl, hc⟩ := h3 hp
    exact run_convert_bytes_arg w 22 5 Try.underlying22 Try.underlying5 b off len cap zs h1 hc 9 Try.underlying9

theorem strOfNums_inj {x y : List Int} (hx : ∀ z ∈ x, 0 ≤ z ∧ z < 256) (hy : ∀ z ∈ y, 0 ≤ z ∧ z < 256) (h : (strOfNums x).toList = (strOfNums y).toList) : x = y := by
  have h1 : x.map (fun n => UInt8.ofNat n.toNat) = y.map (fun n => UInt8.ofNat n.toNat) := by
    rw [← strOfNums_data, ← strOfNums_data, ← ByteArray.toList_eq, ← ByteArray.toList_eq, h]
  have h2 : ∀ l : List Int, (∀ z ∈ l, 0 ≤ z ∧ z < 256) → (l.map (fun n => UInt8.ofNat n.toNat)).map (fun u => ((u.toNat : Nat) : Int)) = l := by
    intro l hl
    rw [List.map_map]
    conv => rhs; rw [← List.map_id l]
    apply List.map_congr_left
    intro z hz
    have := hl z hz
    simp
    omega
  rw [← h2 x hx, ← h2 y hy, h1]

theorem str_beq {x y : List Int} (hx : ∀ z ∈ x, 0 ≤ z ∧ z < 256) (hy : ∀ z ∈ y, 0 ≤ z ∧ z < 256) : ((strOfNums x).toList == (strOfNums y).toList) = decide (x = y) := by
  by_cases h : x = y
  · subst h; simp
  · rw [decide_eq_false h]
    exact beq_eq_false_iff_ne.2 (fun e => h (strOfNums_inj hx hy e))

set_option maxHeartbeats 400000 in
theorem same_any {w : World} {a b : Option Addr} {la ca lb cb : Nat} {x y : List Int} (hx : Bs w a la x) (hy : Bs w b lb y) :
    Calls Try.prog 12 #[.slice a la ca, .slice b lb cb] w fun e w' => e = .returned (.bool (decide (x = y))) ∧ w' = w := by
  have k1 := conv_bs hx ca
  have k2 := conv_bs hy cb
  go_enter Try.func12, Try.ntmps12
  go_wp2
  rw [str_beq hx.2.1 hy.2.1]
  go_ret
  exact ⟨rfl, rfl⟩

theorem info5 : (Try.prog.info? 5).map (fun i => (i.zero, i.size, i.bytes)) = some (some (.int .u8 0), 1, 1) := by kernel_rfl

/-- The cells of a row of bytes. -/
def byteVals (zs : List Int) : List Value := zs.map (Value.int .u8)

/-- An owned row of bytes reads as a slice. -/
theorem bs_owned {w : World} {base : Nat} {v : Value} {n : Nat} {zs : List Int} (h : w.ownsRow base 5 1 v n (byteVals zs)) (hz : ∀ z ∈ zs, 0 ≤ z ∧ z < 256) :
    ∃ a cap, v = .slice a n cap ∧ Bs w a n zs ∧ n ≤ cap ∧ n ≤ maxLen := by
  have hl : zs.length = n := by have := h.1; simpa [byteVals] using this
  rcases h.2 with ⟨rfl, rfl⟩ | ⟨g, cap, cur, rfl, hb, hg, hnc, hcm, hcs, ht⟩
  · exact ⟨none, 0, rfl, ⟨hl, hz, fun h => absurd h (by omega)⟩, Nat.le_refl _, Nat.zero_le _⟩
  · refine ⟨_, cap, rfl, ⟨hl, hz, fun _ => ⟨g, 0, rfl, fun i hi => ?_⟩⟩, hnc, by omega⟩
    have := h.cellAt i (by omega)
    rw [Nat.zero_add, this]
    simp [byteVals, show i < zs.length by omega]

/-- Bytes are put behind a row of the call's own. -/
theorem run_append_bs (w : World) (base ty : Nat) (v : Value) (n : Nat) (xs : List Value) (hown : w.ownsRow base 5 1 v n xs) (a : Option Addr) (m c : Nat) (zs : List Int) (hb : Bs w a m zs)
    (hbytes : n + m ≤ 140737488355328) (hbase : base ≤ w.heap.size) :
    ∃ v' w', (Builtin.append_ #[22, 22] ty #[v, .slice a m c]).run Try.prog w = .ok v' w' ∧ w'.ownsRow base 5 1 v' (n + m) (xs ++ byteVals zs) ∧ w.grownBy w' v.ownBlock := by
  obtain ⟨i0, hi, hz0, hz1, hz2⟩ := info_parts info5
  obtain ⟨h1, h2, h3⟩ := hb
  cases a with
  | none =>
    obtain rfl : m = 0 := by
      rcases Nat.eq_zero_or_pos m with h | h
      · exact h
      · obtain ⟨_, _, e, _⟩ := h3 h; cases e
    obtain rfl : zs = [] := List.length_eq_zero_iff.1 h1
    refine ⟨v, w, ?_, by simpa [byteVals] using hown, ⟨rfl, rfl, rfl, Nat.le_refl _, fun _ _ _ => rfl⟩⟩
    rcases hown.2 with ⟨rfl, rfl⟩ | ⟨g, cap, cur, rfl, _, _, hnc, _⟩
    · simp [Builtin.append_, run_underlying Try.underlying22, sizeOf, typeInfo, hi, Builtin.lenOf, Builtin.firstCells]
    · simp [Builtin.append_, run_underlying Try.underlying22, sizeOf, typeInfo, hi, Builtin.lenOf, Builtin.firstCells, hnc, storeCells]
  | some ad =>
    have hnews : ∀ j u, (byteVals zs)[j]? = some u → w.cell? (ad.add j) = some u := by
      intro j u hj
      have hjl : j < zs.length := by
        rcases Nat.lt_or_ge j zs.length with h | h
        · exact h
        · rw [List.getElem?_eq_none (by simpa [byteVals] using h)] at hj; cases hj
      obtain ⟨b, off, e, hc⟩ := h3 (by omega)
      cases e
      have := hc j (by omega)
      rw [Addr.add_lit, this]
      simp [byteVals, hjl] at hj
      simp [hjl, hj]
    obtain ⟨v', w', hr, h4, h5, _⟩ := run_append_own (P := Try.prog) w base 22 ty 5 i0 (.int .u8 0) 1 1 Try.underlying22 hi hz0 hz1 hz2 rfl (by decide) v n xs hown ad m c (byteVals zs) (by simp [byteVals, h1]) hnews
      (by intro u hu; simp [byteVals] at hu; obtain ⟨z, _, rfl⟩ := hu; rfl) (by unfold maxLen; omega) (by omega) hbase
    exact ⟨v', w', hr, h4, h5⟩

theorem wpList_append_bs {w : World} {ops : Array Oper} {rest : List Oper} {o : Oper} {a : Act} {Q : Exit → Act → World → Prop} (hgd : o.guard = none) (s x : Operand)
    (ho : o.op = .call { callee := .builtin .append, args := #[s, x], argTypes := #[22, 22] }) (base : Nat)
    (v : Value) (n : Nat) (xs : List Value) (hs : a.eval s = v) (hown : w.ownsRow base 5 1 v n xs) (ad : Option Addr) (m c : Nat) (zs : List Int) (hx : a.eval x = .slice ad m c) (hb : Bs w ad m zs)
    (hbytes : n + m ≤ 140737488355328) (hbase : base ≤ w.heap.size)
    (h : ∀ v' w', w'.ownsRow base 5 1 v' (n + m) (xs ++ byteVals zs) → w.grownBy w' v.ownBlock → wpList Try.prog ops Q rest (a.put o.dst v') w') : wpList Try.prog ops Q (o :: rest) a w := by
  refine wpList_plain hgd fun K hK => ?_
  obtain ⟨v', w', hr, h2, h3⟩ := run_append_bs w base o.type v n xs hown ad m c zs hb hbytes hbase
  unfold Oper.wp execOp
  simp only [ho, resolve, invoke, builtin, Sem.run_bind, Sem.run_pure, Result.andThen_ok, List.map_toArray, List.map_cons, List.map_nil, hs, hx, hr]
  exact hK _ _ (h v' w' h2 h3)

theorem hide1 {p : Prop} (h : p) : Hid p := h

/-- The four bytes of a sum, the lowest first. -/
def bytesOf (s : Nat) : List Int := [((s % 256 : Nat) : Int), ((s / 256 % 256 : Nat) : Int), ((s / 65536 % 256 : Nat) : Int), ((s / 16777216 % 256 : Nat) : Int)]

theorem bytesOf_bytes (s : Nat) : ∀ z ∈ bytesOf s, 0 ≤ z ∧ z < 256 := by
  intro z hz
  simp only [bytesOf, List.mem_cons, List.not_mem_nil, or_false] at hz
  omega

theorem below_one (w : World) (o : Obj) : Below w.heap.size w (w.alloc o) := (Below.refl _ _).alloc (Nat.le_refl _) _

theorem bs_one (w : World) (z : Int) (hz : 0 ≤ z ∧ z < 256) : Bs (w.alloc (.cells #[.int .u8 z] 5)) (some ⟨w.heap.size, 0, none⟩) 1 [z] := bs_new w [z] (0, 0) (by simpa using hz)

theorem below_app {B : Nat} {w wr w' : World} {v : Value} {n : Nat} {xs : List Value} {o : Obj} (hb : Below B w wr) (hB : B ≤ w.heap.size) (hown : wr.ownsRow B 5 1 v n xs) (hg : (wr.alloc o).grownBy w' v.ownBlock) : Below B w w' :=
  (hb.alloc (Nat.le_trans hB hb.size) o).grown hg (by have := hb.size; simp; omega) (fun k e => (hown.lt k e).1)

set_option maxHeartbeats 400000 in
theorem bytes_any (s : Nat) (hs : s < 4294967296) (w : World) :
    Calls Try.prog 23 #[.int .u32 (s : Int)] w fun e w' => e = .returned (.slice (some ⟨w.heap.size, 0, none⟩) 4 4) ∧ Bs w' (some ⟨w.heap.size, 0, none⟩) 4 (bytesOf s) ∧ Below w.heap.size w w' := by
  have hn := bs_new w (bytesOf s) (0, 0) (bytesOf_bytes s)
  have e4 : (bytesOf s).map (Value.int .u8) = [.int .u8 ((s : Int) % 256), .int .u8 ((s : Int) / 256 % 256), .int .u8 ((s : Int) / 65536 % 256), .int .u8 ((s : Int) / 16777216)] := by
    have : s / 16777216 % 256 = s / 16777216 := by omega
    simp [bytesOf, this]
  rw [e4] at hn
  have HN := hide1 hn
  clear hn e4
  go_enter Try.func23, Try.ntmps23
  go_wp2
  go_ret
  exact ⟨rfl, HN.out, below_one _ _⟩

set_option maxHeartbeats 400000 in
theorem refBytes_own (s : Nat) (hs : s < 4294967296) (w : World) :
    Calls Try.prog 26 #[.int .u32 (s : Int)] w fun e w' => ∃ v, e = .returned v ∧ w'.ownsRow w.heap.size 5 1 v 4 (byteVals (bytesOf s)) ∧ Below w.heap.size w w' := by
  have hown0 := World.ownsRow_nil w w.heap.size 5 1
  go_enter Try.func26, Try.ntmps26
  go_wp2
  refine wp_loop_rounds 5 ?_
  rw [rounds_succ]
  go_wp2_with (at_builtin; refine wpList_append_bs rfl (.tmp 9) (.tmp 13) rfl w.heap.size _ 0 [] rfl (hown0.alloc _) _ 1 1 [(s : Int) % 256] rfl (bs_one _ _ (by omega)) (by omega) (by simp) ?_; intro v1 w1 hown1 hg1)
  have hb1 := below_app (Below.refl w.heap.size w) (Nat.le_refl _) hown0 hg1
  clear hown0 hg1
  rw [rounds_succ]
  go_wp2_with (at_builtin; refine wpList_append_bs rfl (.tmp 9) (.tmp 13) rfl w.heap.size _ (0 + 1) _ rfl (hown1.alloc _) _ 1 1 [(s : Int) / 256 % 256] rfl (bs_one _ _ (by omega)) (by omega) (by have := hb1.size; simp; omega) ?_; intro v2 w2 hown2 hg2)
  have hb2 := below_app hb1 (Nat.le_refl _) hown1 hg2
  clear hown1 hg2
  rw [rounds_succ]
  go_wp2_with (at_builtin; refine wpList_append_bs rfl (.tmp 9) (.tmp 13) rfl w.heap.size _ (0 + 1 + 1) _ rfl (hown2.alloc _) _ 1 1 [_] rfl (bs_one _ _ (by omega)) (by omega) (by have := hb2.size; simp; omega) ?_; intro v3 w3 hown3 hg3)
  have hb3 := below_app hb2 (Nat.le_refl _) hown2 hg3
  clear hown2 hg3
  rw [rounds_succ]
  go_wp2_with (at_builtin; refine wpList_append_bs rfl (.tmp 9) (.tmp 13) rfl w.heap.size _ (0 + 1 + 1 + 1) _ rfl (hown3.alloc _) _ 1 1 [_] rfl (bs_one _ _ (by omega)) (by omega) (by have := hb3.size; simp; omega) ?_; intro v4 w4 hown4 hg4)
  have hb4 := below_app hb3 (Nat.le_refl _) hown3 hg4
  clear hown3 hg4
  rw [rounds_succ]
  go_wp2
  go_ret
  have e4 : ([] ++ byteVals [(s : Int) % 256] ++ byteVals [(s : Int) / 256 % 256] ++ byteVals [(s : Int) / 256 / 256 % 256] ++ byteVals [(s : Int) / 256 / 256 / 256 % 256]) = byteVals (bytesOf s) := by
    have h3 : (s : Int) / 256 / 256 % 256 = (s : Int) / 65536 % 256 := by omega
    have h4 : (s : Int) / 256 / 256 / 256 % 256 = (s : Int) / 16777216 % 256 := by omega
    simp [byteVals, bytesOf, h3, h4]
  rw [e4] at hown4
  exact ⟨_, rfl, hown4, hb4⟩

theorem refBytes_any (s : Nat) (hs : s < 4294967296) (w : World) :
    Calls Try.prog 26 #[.int .u32 (s : Int)] w fun e w' => ∃ a cap, e = .returned (.slice a 4 cap) ∧ Bs w' a 4 (bytesOf s) ∧ Below w.heap.size w w' := by
  refine (refBytes_own s hs w).mono ?_
  rintro e w' ⟨v, rfl, hown, hb⟩
  obtain ⟨a, cap, rfl, hbs, _, _⟩ := bs_owned hown (bytesOf_bytes s)
  exact ⟨a, cap, rfl, hbs, hb⟩
end Go.Proofs.Ytfmjknknckjdiaa

namespace Go.Proofs.Ytfmjknknckjdiaa
open Go.RowKit

set_option maxHeartbeats 400000 in
theorem take_no (a : Option Addr) (len cap : Nat) (h : ¬ len = 4) (w : World) :
    Calls Try.prog 39 #[.slice a len cap] w fun e w' => e = .returned (.tuple #[.int .u32 0, .bool false]) ∧ w' = w := by
  have hne : ((len : Int) != 4) = true := by simp; omega
  go_enter Try.func39, Try.ntmps39
  go_wp2
  go_ret2
  exact ⟨rfl, rfl⟩

theorem or_four (c0 c1 c2 c3 : Nat) (k0 : c0 < 256) (k1 : c1 < 256) (k2 : c2 < 256) (k3 : c3 < 256) :
    bits BinOp.or IntKind.u32 (bits BinOp.or IntKind.u32 (bits BinOp.or IntKind.u32 (c0 : Int) ((c1 : Int) * 256)) ((c2 : Int) * 65536)) ((c3 : Int) * 16777216) = ((c0 + 256 * c1 + 65536 * c2 + 16777216 * c3 : Nat) : Int) := by
  have j1 : c0 ||| (c1 * 256) = c0 + 256 * c1 := by rw [Nat.or_comm, nat_join 8 (c1 * 256) c0 (by omega) (by omega)]; omega
  have j2 : (c0 + 256 * c1) ||| (c2 * 65536) = c0 + 256 * c1 + 65536 * c2 := by rw [Nat.or_comm, nat_join 16 (c2 * 65536) _ (by omega) (by omega)]; omega
  have j3 : (c0 + 256 * c1 + 65536 * c2) ||| (c3 * 16777216) = c0 + 256 * c1 + 65536 * c2 + 16777216 * c3 := by rw [Nat.or_comm, nat_join 24 (c3 * 16777216) _ (by omega) (by omega)]; omega
  have e1 := u32_or_nat c0 (c1 * 256) (by omega) (by omega)
  have e2 := u32_or_nat (c0 + 256 * c1) (c2 * 65536) (by omega) (by omega)
  have e3 := u32_or_nat (c0 + 256 * c1 + 65536 * c2) (c3 * 16777216) (by omega) (by omega)
  rw [j1] at e1; rw [j2] at e2; rw [j3] at e3
  have f1 : ((c1 : Int) * 256) = ((c1 * 256 : Nat) : Int) := by omega
  have f2 : ((c2 : Int) * 65536) = ((c2 * 65536 : Nat) : Int) := by omega
  have f3 : ((c3 : Int) * 16777216) = ((c3 * 16777216 : Nat) : Int) := by omega
  rw [f1, f2, f3, e1, e2, e3]

set_option maxHeartbeats 400000 in
theorem take_yes (b off cap : Nat) (c0 c1 c2 c3 : Nat) (k0 : c0 < 256) (k1 : c1 < 256) (k2 : c2 < 256) (k3 : c3 < 256) (w : World)
    (h0 : w.cell? ⟨b, off, none⟩ = some (.int .u8 (c0 : Int))) (h1 : w.cell? ⟨b, off + 1, none⟩ = some (.int .u8 (c1 : Int))) (h2 : w.cell? ⟨b, off + 2, none⟩ = some (.int .u8 (c2 : Int))) (h3 : w.cell? ⟨b, off + 3, none⟩ = some (.int .u8 (c3 : Int))) :
    Calls Try.prog 39 #[.slice (some ⟨b, off, none⟩) 4 cap] w fun e w' => e = .returned (.tuple #[.int .u32 ((c0 + 256 * c1 + 65536 * c2 + 16777216 * c3 : Nat) : Int), .bool true]) ∧ Below w.heap.size w w' := by
  go_enter Try.func39, Try.ntmps39
  go_wp2
  go_quiet (fail)
  go_wp2
  go_ret2
  refine ⟨?_, below_drewN (Below.refl _ _) nq⟩
  rw [or_four c0 c1 c2 c3 k0 k1 k2 k3]
  rfl

/-- The number of four bytes, the lowest first. -/
def numOf (zs : List Int) : Nat := (zs.getD 0 0).toNat + 256 * (zs.getD 1 0).toNat + 65536 * (zs.getD 2 0).toNat + 16777216 * (zs.getD 3 0).toNat

theorem take_four {w : World} {a : Option Addr} {zs : List Int} (cap : Nat) (hb : Bs w a 4 zs) :
    Calls Try.prog 39 #[.slice a 4 cap] w fun e w' => e = .returned (.tuple #[.int .u32 ((numOf zs : Nat) : Int), .bool true]) ∧ Below w.heap.size w w' := by
  obtain ⟨h1, h2, h3⟩ := hb
  obtain ⟨b, off, rfl, hc⟩ := h3 (by omega)
  have g : ∀ i, i < 4 → ((zs.getD i 0).toNat : Int) = zs.getD i 0 ∧ (zs.getD i 0).toNat < 256 := fun i hi => by
    have := h2 _ (getD_mem (l := zs) (k := i) (by omega))
    omega
  have c : ∀ i, i < 4 → w.cell? ⟨b, off + i, none⟩ = some (.int .u8 ((zs.getD i 0).toNat : Int)) := fun i hi => by rw [(g i hi).1]; exact hc i hi
  exact take_yes b off cap _ _ _ _ (g 0 (by omega)).2 (g 1 (by omega)).2 (g 2 (by omega)).2 (g 3 (by omega)).2 w (c 0 (by omega)) (c 1 (by omega)) (c 2 (by omega)) (c 3 (by omega))

theorem numOf_lt (zs : List Int) (hl : zs.length = 4) (hz : ∀ z ∈ zs, 0 ≤ z ∧ z < 256) : numOf zs < 4294967296 := by
  have g : ∀ i, i < 4 → (zs.getD i 0).toNat < 256 := fun i hi => by
    have := hz _ (getD_mem (l := zs) (k := i) (by omega))
    omega
  have := g 0 (by omega); have := g 1 (by omega); have := g 2 (by omega); have := g 3 (by omega)
  unfold numOf; omega

theorem numOf_bytesOf (s : Nat) (h : s < 4294967296) : numOf (bytesOf s) = s := by
  simp [numOf, bytesOf]; omega

theorem bytesOf_numOf (zs : List Int) (hl : zs.length = 4) (hz : ∀ z ∈ zs, 0 ≤ z ∧ z < 256) : bytesOf (numOf zs) = zs := by
  match zs, hl with
  | [a, b, c, d], _ =>
    have ha := hz a (by simp); have hb := hz b (by simp); have hc := hz c (by simp); have hd := hz d (by simp)
    obtain ⟨a, rfl⟩ := Int.eq_ofNat_of_zero_le ha.1
    obtain ⟨b, rfl⟩ := Int.eq_ofNat_of_zero_le hb.1
    obtain ⟨c, rfl⟩ := Int.eq_ofNat_of_zero_le hc.1
    obtain ⟨d, rfl⟩ := Int.eq_ofNat_of_zero_le hd.1
    have e : numOf [(a : Int), (b : Int), (c : Int), (d : Int)] = a + 256 * b + 65536 * c + 16777216 * d := by simp [numOf]
    rw [e]
    unfold bytesOf
    have e1 : (a + 256 * b + 65536 * c + 16777216 * d) % 256 = a := by omega
    have e2 : (a + 256 * b + 65536 * c + 16777216 * d) / 256 % 256 = b := by omega
    have e3 : (a + 256 * b + 65536 * c + 16777216 * d) / 65536 % 256 = c := by omega
    have e4 : (a + 256 * b + 65536 * c + 16777216 * d) / 16777216 % 256 = d := by omega
    rw [e1, e2, e3, e4]

/-- What the walk is told of a slice of integers that came in: nil, or a row of 'cap' cells, the first 'len' of them its elements. -/
def IsRow (k : IntKind) (w : World) (a : Option Addr) (len cap : Nat) (zs : List Int) : Prop :=
  (a = none ∧ len = 0 ∧ cap = 0 ∧ zs = []) ∨
  ∃ x, a = some x ∧ len ≤ cap ∧ cap ≤ maxLen ∧ zs.length = cap ∧ (∀ i, i < zs.length → w.cell? (x.add i) = some (.int k (zs.getD i 0))) ∧ ∀ n ∈ zs, (Lit.int k n).wf = true

theorem bs_of_row {w : World} {a : Option Addr} {len cap : Nat} {zs : List Int} (h : IsRow .u8 w a len cap zs) : Bs w a len (zs.take len) ∧ len ≤ maxLen := by
  rcases h with ⟨rfl, rfl, rfl, rfl⟩ | ⟨x, rfl, hl, hm, hz, hcell, hwz⟩
  · exact ⟨⟨rfl, fun z hz => by simp at hz, fun h => absurd h (by omega)⟩, Nat.zero_le _⟩
  · refine ⟨⟨by simp; omega, fun z hz' => ?_, fun hp => ?_⟩, by omega⟩
    · have := hwz z (List.mem_of_mem_take hz')
      simp only [Lit.wf, Bool.and_eq_true, decide_eq_true_eq] at this
      have e1 : IntKind.u8.min = 0 := rfl
      have e2 : IntKind.u8.max = 255 := rfl
      omega
    · obtain ⟨b, off, spot⟩ := x
      have hc := hcell 0 (by omega)
      have hspot : spot = none := by simpa [Addr.add] using World.cell?_spot hc
      subst hspot
      refine ⟨b, off, rfl, fun i hi => ?_⟩
      have := hcell i (by omega)
      rw [Addr.add_lit] at this
      rw [this]
      simp [List.getD_eq_getElem?_getD, hi]
end Go.Proofs.Ytfmjknknckjdiaa

namespace Go.Proofs.Ytfmjknknckjdiaa
open Go.RowKit

/-- Bit number i of a text. -/
def bitAt (zs : List Int) (i : Nat) : Nat := (zs.getD (i / 8) 0).toNat / 2 ^ (i % 8) % 2

/-- The register behind the first so many bits. -/
def bitRun (zs : List Int) : Nat → Nat
  | 0 => 4294967295
  | i + 1 => stp (bitRun zs i ^^^ bitAt zs i)

theorem bitAt_lt (zs : List Int) (i : Nat) : bitAt zs i < 2 := by unfold bitAt; omega

theorem bitRun_lt (zs : List Int) (i : Nat) : bitRun zs i < 4294967296 := by
  induction i with
  | zero => show 4294967295 < 4294967296; omega
  | succ i ih => exact stp_lt _ (Nat.xor_lt_two_pow (n := 32) ih (by have := bitAt_lt zs i; omega))

theorem stp_bit (x b : Nat) (hb : b < 2) : stp (x ^^^ b) = if x % 2 = b then x / 2 else x / 2 ^^^ 3988292384 := by
  unfold stp
  rw [xor_half, xor_par]
  rcases (show b = 0 ∨ b = 1 by omega) with rfl | rfl <;> rcases Nat.mod_two_eq_zero_or_one x with h | h <;> simp [h]

theorem and_one (x : Nat) (h : x < 4294967296) : bits BinOp.and IntKind.u32 (x : Int) 1 = ((x % 2 : Nat) : Int) := by
  have e := u32_and_nat x 1 h (by omega)
  simp only [Int.cast_ofNat_Int, nat_mask1] at e
  exact e

theorem and_bit (c n : Nat) (h : c < 256) : bits BinOp.and IntKind.u32 ((c : Int) / 2 ^ n % 4294967296) 1 = ((c / 2 ^ n % 2 : Nat) : Int) := by
  have hl : c / 2 ^ n < 4294967296 := Nat.lt_of_le_of_lt (Nat.div_le_self _ _) (by omega)
  have e : (c : Int) / 2 ^ n % 4294967296 = ((c / 2 ^ n : Nat) : Int) := by
    have : ((c / 2 ^ n : Nat) : Int) = (c : Int) / 2 ^ n := by simp
    rw [← this]; generalize c / 2 ^ n = q at hl ⊢; omega
  rw [e]; exact and_one _ hl

theorem ref_odd (x c n : Nat) (hx : x < 4294967296) (hc : c < 256) (h : (bits BinOp.and IntKind.u32 (x : Int) 1 != bits BinOp.and IntKind.u32 ((c : Int) / 2 ^ n % 4294967296) 1) = true) :
    bits BinOp.xor IntKind.u32 ((x : Int) / 2) 3988292384 = ((stp (x ^^^ (c / 2 ^ n % 2)) : Nat) : Int) := by
  rw [and_one x hx, and_bit c n hc] at h
  have h1 : ¬ x % 2 = c / 2 ^ n % 2 := by intro e; rw [e] at h; simp at h
  have x1 := u32_xor_nat (x / 2) 3988292384 (by omega) (by omega)
  simp only [Int.natCast_ediv, Int.cast_ofNat_Int] at x1
  rw [x1, stp_bit _ _ (by omega), if_neg h1]

theorem ref_even (x c n : Nat) (hx : x < 4294967296) (hc : c < 256) (h : (bits BinOp.and IntKind.u32 (x : Int) 1 != bits BinOp.and IntKind.u32 ((c : Int) / 2 ^ n % 4294967296) 1) = false) :
    ((x : Int) / 2) = ((stp (x ^^^ (c / 2 ^ n % 2)) : Nat) : Int) := by
  rw [and_one x hx, and_bit c n hc] at h
  have h1 : x % 2 = c / 2 ^ n % 2 := by
    have := bne_eq_false_iff_eq.1 h
    omega
  rw [stp_bit _ _ (by omega), if_pos h1]; omega

theorem stp_down (x c : Nat) : stp (x ^^^ c) = stp (x ^^^ (c % 2)) ^^^ (c / 2) := by
  have e := split_low c 1
  simp only [Nat.pow_one] at e
  have h2 : stp (c / 2 * 2) = c / 2 := by rw [stp_even _ (by omega)]; omega
  have h3 : stp c = c / 2 ^^^ stp (c % 2) := by
    conv => lhs; rw [e]
    rw [stp_xor, h2]
  rw [stp_xor, stp_xor, h3, Nat.xor_assoc, Nat.xor_comm (stp (c % 2))]

theorem bitRun_byte (zs : List Int) (k j : Nat) (hj : j ≤ 8) : bitRun zs (8 * k + j) ^^^ ((zs.getD k 0).toNat / 2 ^ j) = stps j (bitRun zs (8 * k) ^^^ (zs.getD k 0).toNat) := by
  induction j with
  | zero => simp [stps]
  | succ j ih =>
    have e1 : bitAt zs (8 * k + j) = (zs.getD k 0).toNat / 2 ^ j % 2 := by
      unfold bitAt
      rw [show (8 * k + j) / 8 = k from by omega, show (8 * k + j) % 8 = j from by omega]
    rw [stps_succ, ← ih (by omega)]
    show stp (bitRun zs (8 * k + j) ^^^ bitAt zs (8 * k + j)) ^^^ _ = _
    rw [e1, stp_down (bitRun zs (8 * k + j)) ((zs.getD k 0).toNat / 2 ^ j), Nat.pow_succ, Nat.div_div_eq_div_mul]

theorem bitRun_crc (zs : List Int) (hz : ∀ z ∈ zs, 0 ≤ z ∧ z < 256) (k : Nat) (hk : k ≤ zs.length) : bitRun zs (8 * k) = crcRun 4294967295 (zs.take k) := by
  induction k with
  | zero => rfl
  | succ k ih =>
    have h := bitRun_byte zs k 8 (by omega)
    have hc := hz _ (getD_mem (l := zs) (k := k) (by omega))
    rw [show (zs.getD k 0).toNat / 2 ^ 8 = 0 from by omega, Nat.xor_zero] at h
    rw [show 8 * (k + 1) = 8 * k + 8 from by omega, h, take_snoc zs k (by omega), crcRun_snoc, ih (by omega)]

set_option maxHeartbeats 400000 in
theorem refOf_any (a : Option Addr) (len cap : Nat) (zs : List Int) (w : World) (hb : Bs w a len zs) (hm : len ≤ 1000000) :
    Calls Try.prog 27 #[.slice a len cap] w fun e w' => e = .returned (.int .u32 ((crcSum zs : Nat) : Int)) ∧ w' = w := by
  obtain ⟨hz, hby, hc⟩ := hb
  go_enter Try.func27, Try.ntmps27
  go_wp2
  go_loop [3, 4] (fun x i => ∃ k : Nat, k ≤ 8 * len ∧ i = .int .i64 k ∧ x = .int .u32 ((bitRun zs k : Nat) : Int)) (fun _ i => 8 * len - (intOf i).toNat)
  case atStart => exact ⟨0, by omega, rfl, rfl⟩
  case round =>
    obtain ⟨k, hk, rfl, rfl⟩ := hrel
    have hs := bitRun_lt zs k
    by_cases hlt : k < 8 * len
    · obtain ⟨b', off, rfl, hcell⟩ := hc (by omega)
      have hck := hcell (k / 8) (by omega)
      have hbk := hby _ (getD_mem (l := zs) (k := k / 8) (by omega))
      have hba : bitAt zs k = (zs.getD (k / 8) 0).toNat / 2 ^ (k % 8) % 2 := rfl
      generalize hcc : zs.getD (k / 8) 0 = c at *
      obtain ⟨c, rfl⟩ := Int.eq_ofNat_of_zero_le hbk.1
      have hc256 : c < 256 := by omega
      have HB := hide1 hba
      clear hcc hc hcell hbk hba
      go_wp2
      all_goals refine ⟨⟨k + 1, by omega, by go_num, val_int ?_⟩, by simp [intOf]; omega⟩
      · show _ = ((stp (bitRun zs k ^^^ bitAt zs k) : Nat) : Int)
        rw [HB.out]; exact ref_odd _ _ _ hs hc256 ‹_›
      · show _ = ((stp (bitRun zs k ^^^ bitAt zs k) : Nat) : Int)
        rw [HB.out]; exact ref_even _ _ _ hs hc256 ‹_›
    · go_wp2
      go_ret
      have e : k = 8 * len := by omega
      refine ⟨ret_int ?_, rfl⟩
      unfold crcSum
      have h1 := bitRun_crc zs hby len (by omega)
      rw [List.take_of_length_le (by omega)] at h1
      rw [← h1, ← e]
      omega
end Go.Proofs.Ytfmjknknckjdiaa

namespace Go.Proofs.Ytfmjknknckjdiaa
open Go.RowKit

theorem owned_form {w : World} {base : Nat} {v : Value} {n : Nat} {zs : List Int} (h : w.ownsRow base 5 1 v n (byteVals zs)) (hn : 0 < n) :
    ∃ g cap, v = .slice (some ⟨g, 0, none⟩) n cap ∧ base ≤ g ∧ n ≤ cap ∧ cap ≤ maxLen ∧ ∀ j, j < n → w.cell? ⟨g, j, none⟩ = some (.int .u8 (zs.getD j 0)) := by
  have hl : zs.length = n := by have := h.1; simpa [byteVals] using this
  rcases h.2 with ⟨rfl, rfl⟩ | ⟨g, cap, cur, rfl, hb, hg, hnc, hcm, hcs, ht⟩
  · omega
  · refine ⟨g, cap, rfl, hb, hnc, hcm, fun j hj => ?_⟩
    have := h.cellAt j (by omega)
    rw [this]
    simp [byteVals, show j < zs.length by omega]

/-- A copy with its two marks. -/
def Kpt (w : World) (g len cap : Nat) (zs : List Int) : Prop :=
  zs.length = len ∧ (∀ z ∈ zs, 0 ≤ z ∧ z < 256) ∧ len + 2 ≤ cap ∧ cap ≤ maxLen ∧ ∀ j, j < len + 2 → w.cell? ⟨g, j, none⟩ = some (.int .u8 ((zs ++ [165, 90]).getD j 0))

theorem Kpt.later {w w' : World} {g len cap : Nat} {zs : List Int} (h : Kpt w g len cap zs) (hb : Below w.heap.size w w') : Kpt w' g len cap zs :=
  ⟨h.1, h.2.1, h.2.2.1, h.2.2.2.1, fun j hj => cell_later hb (h.2.2.2.2 j hj)⟩

theorem Kpt.bs {w : World} {g len cap : Nat} {zs : List Int} (h : Kpt w g len cap zs) : Bs w (some ⟨g, 0, none⟩) len zs := by
  obtain ⟨h1, h2, _, _, h5⟩ := h
  refine ⟨h1, h2, fun _ => ⟨g, 0, rfl, fun i hi => ?_⟩⟩
  rw [Nat.zero_add, h5 i (by omega)]
  simp [List.getD_eq_getElem?_getD, List.getElem?_append, show i < zs.length by omega]

theorem bs_two (w : World) : Bs (w.alloc (.cells #[.int .u8 165, .int .u8 90] 5)) (some ⟨w.heap.size, 0, none⟩) 2 [165, 90] := bs_new w [165, 90] (0, 0) (by decide)

theorem copy_end {w : World} {base : Nat} {v : Value} {len : Nat} {zs : List Int} (h : w.ownsRow base 5 1 v (0 + len + 2) ([] ++ byteVals zs ++ byteVals [165, 90])) :
    ∃ g cap, v = .slice (some ⟨g, 0, none⟩) (len + 2) cap ∧ len + 2 ≤ cap ∧ cap ≤ maxLen ∧ ∀ j, j < len + 2 → w.cell? ⟨g, j, none⟩ = some (.int .u8 ((zs ++ [165, 90]).getD j 0)) := by
  have e : [] ++ byteVals zs ++ byteVals [165, 90] = byteVals (zs ++ [165, 90]) := by simp [byteVals]
  rw [e, Nat.zero_add] at h
  obtain ⟨g, cap, hv, _, h2, h3, h4⟩ := owned_form h (by omega)
  exact ⟨g, cap, hv, h2, h3, h4⟩

set_option maxHeartbeats 400000 in
theorem copy_any (a : Option Addr) (len cap : Nat) (zs : List Int) (w : World) (hb : Bs w a len zs) (hm : len ≤ 1000000) :
    Calls Try.prog 9 #[.slice a len cap] w fun e w' => ∃ g cap', e = .returned (.slice (some ⟨g, 0, none⟩) len cap') ∧ Kpt w' g len cap' zs ∧ Below w.heap.size w w' := by
  obtain ⟨i0, hi, hz0, hz1, hz2⟩ := info_parts info5
  obtain ⟨w1, hmk, hown0, hg0⟩ := run_make_own (P := Try.prog) w w.heap.size 22 5 i0 (.int .u8 0) 1 Try.underlying22 hi hz0 hz1 .i64 .i64 (len + 2) (by rw [hz2]; omega) (by unfold maxLen; omega) (Nat.le_refl _)
  have ec : ((len + 2 : Nat) : Int) = (len : Int) + 2 := by omega
  rw [ec] at hmk
  have hb1 : Below w.heap.size w w1 := (Below.refl _ _).grown hg0 (Nat.le_refl _) (fun k e => by cases e)
  have hbs1 := hb.later hb1
  clear ec hi hz0 hz1 hz2 hg0
  go_enter Try.func9, Try.ntmps9
  go_wp2_with (first
    | (at_builtin; refine wpList_append_bs rfl (.tmp 6) (.tmp 7) rfl w.heap.size (.slice (some ⟨w.heap.size, 0, none⟩) 0 (len + 2)) 0 [] rfl hown0 a len cap zs rfl hbs1 (by omega) hb1.size ?_; intro v2 w2 hown2 hg2; have hb2 := hb1.grown hg2 hb1.size (fun k e => (hown0.lt k e).1); clear hown0 hg2)
    | (at_builtin; refine wpList_append_bs rfl (.tmp 8) (.tmp 9) rfl w.heap.size v2 (0 + len) ([] ++ byteVals zs) rfl (hown2.alloc _) _ 2 2 [165, 90] rfl (bs_two _) (by omega) (by have := hb2.size; simp; omega) ?_; intro v3 w3 hown3 hg3; have hb3 := below_app hb2 (Nat.le_refl _) hown2 hg3; have hx3 := copy_end hown3; obtain ⟨g, cap3, hv3, hcap3, hm3, hc3⟩ := hx3; clear hown2 hg3 hown3))
  go_ret
  exact ⟨g, cap3, rfl, ⟨hb.1, hb.2.1, hcap3, hm3, hc3⟩, hb3⟩

set_option maxHeartbeats 400000 in
theorem kept_any (g len cap : Nat) (a : Option Addr) (cap' : Nat) (zs : List Int) (w : World) (hk : Kpt w g len cap zs) (hb : Bs w a len zs) :
    Calls Try.prog 13 #[.slice (some ⟨g, 0, none⟩) len cap, .slice a len cap'] w fun e w' => e = .returned (.bool true) ∧ w' = w := by
  have k1 := conv_bs hk.bs cap
  have k2 := conv_bs hb cap'
  obtain ⟨h1, h2, h3, h4, h5⟩ := hk
  unfold maxLen at h4
  have c1 : w.cell? ⟨g, len, none⟩ = some (.int .u8 165) := by
    have := h5 len (by omega)
    simpa [List.getD_eq_getElem?_getD, List.getElem?_append, h1] using this
  have c2 : w.cell? ⟨g, len + 1, none⟩ = some (.int .u8 90) := by
    have := h5 (len + 1) (by omega)
    simpa [List.getD_eq_getElem?_getD, List.getElem?_append, h1] using this
  clear h5
  go_enter Try.func13, Try.ntmps13
  go_wp2
  go_ret
  exact ⟨rfl, rfl⟩

theorem more_sum (x y : List Int) (hx : ∀ z ∈ x, 0 ≤ z ∧ z < 256) : 4294967295 - crcRun (4294967295 - crcSum x) y = crcSum (x ++ y) := by
  have h := crcRun_lt 4294967295 x (by omega) hx
  unfold crcSum
  rw [show 4294967295 - (4294967295 - crcRun 4294967295 x) = crcRun 4294967295 x from by omega, crcRun_append]

theorem crcSum_lt (x : List Int) : crcSum x < 4294967296 := by unfold crcSum; omega

theorem ownsRow_empty (w : World) (base : Nat) (hb : base ≤ w.heap.size) : (w.alloc (.cells #[] 5)).ownsRow base 5 1 (.slice (some ⟨w.heap.size, 0, none⟩) 0 0) 0 [] :=
  World.ownsRow_lit w #[] 0 hb (Nat.zero_le _) rfl

theorem parts_new1 (w : World) {a1 : Option Addr} {l1 c1 : Nat} {z1 : List Int} (k1 : Bs w a1 l1 z1) (m1 : l1 ≤ maxLen) : Parts (w.alloc (.cells #[.slice a1 l1 c1] 22)) (some ⟨w.heap.size, 0, none⟩) 1 [z1] :=
  parts_one (c1 := c1) (by rw [World.cell?_alloc_mark]; rfl) m1 (k1.later (below_one _ _))

theorem parts_new2 (w : World) {a1 a2 : Option Addr} {l1 c1 l2 c2 : Nat} {z1 z2 : List Int} (k1 : Bs w a1 l1 z1) (m1 : l1 ≤ maxLen) (k2 : Bs w a2 l2 z2) (m2 : l2 ≤ maxLen) :
    Parts (w.alloc (.cells #[.slice a1 l1 c1, .slice a2 l2 c2] 22)) (some ⟨w.heap.size, 0, none⟩) 2 [z1, z2] :=
  parts_two (c1 := c1) (c2 := c2) (by rw [World.cell?_alloc_mark]; rfl) m1 (k1.later (below_one _ _)) (by rw [World.cell?_alloc_mark]; rfl) m2 (k2.later (below_one _ _))
end Go.Proofs.Ytfmjknknckjdiaa

namespace Go.Proofs.Ytfmjknknckjdiaa
open Go.RowKit

def IsB (zs : List Int) : Prop := ∀ z ∈ zs, 0 ≤ z ∧ z < 256
theorem IsB.take {zs : List Int} (h : IsB zs) (k : Nat) : IsB (zs.take k) := fun z hz => h z (List.mem_of_mem_take hz)
theorem IsB.drop {zs : List Int} (h : IsB zs) (k : Nat) : IsB (zs.drop k) := fun z hz => h z (List.mem_of_mem_drop hz)
theorem IsB.app {x y : List Int} (h : IsB x) (k : IsB y) : IsB (x ++ y) := fun z hz => by
  rcases List.mem_append.1 hz with h1 | h1
  · exact h z h1
  · exact k z h1
theorem IsB.left {x y : List Int} (h : IsB (x ++ y)) : IsB x := fun z hz => h z (List.mem_append_left _ hz)
theorem IsB.right {x y : List Int} (h : IsB (x ++ y)) : IsB y := fun z hz => h z (List.mem_append_right _ hz)
theorem IsB.nil : IsB [] := fun z hz => by simp at hz

/-- The record of a payload. -/
def put (p : List Int) : List Int := bytesOf p.length ++ bytesOf (crcSum (bytesOf p.length ++ p)) ++ p
theorem bytesOf_length (s : Nat) : (bytesOf s).length = 4 := rfl
theorem put_length (p : List Int) : (put p).length = 8 + p.length := by simp [put, bytesOf_length]; omega
theorem put_bytes {p : List Int} (h : IsB p) : IsB (put p) := IsB.app (IsB.app (bytesOf_bytes _) (bytesOf_bytes _)) h

/-- How many bytes the payload has of the record with which a row begins; none, if no whole one stands there. -/
def rec1 (zs : List Int) : Option Nat :=
  if 8 ≤ zs.length ∧ numOf (zs.take 4) ≤ 65536 ∧ numOf (zs.take 4) + 8 ≤ zs.length ∧ crcSum (zs.take 4 ++ (zs.drop 8).take (numOf (zs.take 4))) = numOf ((zs.drop 4).take 4) then some (numOf (zs.take 4)) else none

theorem rec1_some {zs : List Int} {n : Nat} (h : rec1 zs = some n) : 8 ≤ zs.length ∧ n = numOf (zs.take 4) ∧ n ≤ 65536 ∧ n + 8 ≤ zs.length ∧ crcSum (zs.take 4 ++ (zs.drop 8).take n) = numOf ((zs.drop 4).take 4) := by
  unfold rec1 at h
  split at h
  · rename_i hc; cases h; exact ⟨hc.1, rfl, hc.2⟩
  · cases h

theorem put_take4 (p t : List Int) : (put p ++ t).take 4 = bytesOf p.length := by
  rw [put, List.append_assoc, List.append_assoc, List.take_left' (bytesOf_length _)]
theorem put_drop4 (p t : List Int) : (put p ++ t).drop 4 = bytesOf (crcSum (bytesOf p.length ++ p)) ++ (p ++ t) := by
  have : put p ++ t = bytesOf p.length ++ (bytesOf (crcSum (bytesOf p.length ++ p)) ++ (p ++ t)) := by simp [put, List.append_assoc]
  rw [this, List.drop_left' (bytesOf_length _)]
theorem put_drop8 (p t : List Int) : (put p ++ t).drop 8 = p ++ t := by
  have : put p ++ t = (bytesOf p.length ++ bytesOf (crcSum (bytesOf p.length ++ p))) ++ (p ++ t) := by simp [put, List.append_assoc]
  rw [this, List.drop_left' (by simp [bytesOf_length])]
theorem put_drop (p t : List Int) : (put p ++ t).drop (8 + p.length) = t := List.drop_left' (put_length p)

theorem rec1_put (p t : List Int) (hp : p.length ≤ 65536) : rec1 (put p ++ t) = some p.length := by
  have h1 : numOf ((put p ++ t).take 4) = p.length := by rw [put_take4]; exact numOf_bytesOf _ (by omega)
  unfold rec1
  rw [h1, if_pos]
  refine ⟨by rw [List.length_append, put_length]; omega, hp, by rw [List.length_append, put_length]; omega, ?_⟩
  rw [put_take4, put_drop8, put_drop4, List.take_left' rfl, List.take_left' (bytesOf_length _), numOf_bytesOf _ (crcSum_lt _)]

/-- A row that begins with a record is that record, and what stands behind. -/
theorem rec1_is {zs : List Int} {n : Nat} (hz : IsB zs) (h : rec1 zs = some n) : zs = put ((zs.drop 8).take n) ++ zs.drop (8 + n) ∧ ((zs.drop 8).take n).length = n := by
  obtain ⟨h8, hn, hle, hl, hs⟩ := rec1_some h
  have hlen : ((zs.drop 8).take n).length = n := by simp; omega
  refine ⟨?_, hlen⟩
  have b1 : bytesOf n = zs.take 4 := by rw [hn]; exact bytesOf_numOf _ (by simp; omega) (hz.take 4)
  have b2 : bytesOf (crcSum (bytesOf n ++ (zs.drop 8).take n)) = (zs.drop 4).take 4 := by
    rw [b1, hs]; exact bytesOf_numOf _ (by simp; omega) ((hz.drop 4).take 4)
  unfold put
  rw [hlen, b2, b1]
  have e1 : zs.drop 8 = (zs.drop 8).take n ++ zs.drop (8 + n) := by
    conv => lhs; rw [← List.take_append_drop n (zs.drop 8), List.drop_drop]
  have e2 : zs.drop 4 = (zs.drop 4).take 4 ++ zs.drop 8 := by
    conv => lhs; rw [← List.take_append_drop 4 (zs.drop 4), List.drop_drop]
  conv => lhs; rw [← List.take_append_drop 4 zs, e2, e1]
  simp [List.append_assoc]

/-- The records of a row: where each begins, how many bytes its payload has. -/
def recsN : Nat → Nat → List Int → List (Nat × Nat)
  | 0, _, _ => []
  | f + 1, i, zs => match rec1 zs with
    | none => []
    | some n => (i, n) :: recsN f (i + 8 + n) (zs.drop (8 + n))
def recs (zs : List Int) : List (Nat × Nat) := recsN (zs.length + 1) 0 zs

theorem recsN_none {f i : Nat} {zs : List Int} (h : rec1 zs = none) : recsN f i zs = [] := by
  cases f with
  | zero => rfl
  | succ f => simp [recsN, h]
theorem recsN_some {f i n : Nat} {zs : List Int} (h : rec1 zs = some n) : recsN (f + 1) i zs = (i, n) :: recsN f (i + 8 + n) (zs.drop (8 + n)) := by simp [recsN, h]

/-- Where the records of payloads begin. -/
def offs : Nat → List (List Int) → List (Nat × Nat)
  | _, [] => []
  | i, p :: ps => (i, p.length) :: offs (i + 8 + p.length) ps
/-- How many bytes the records of payloads have. -/
def szs : List (List Int) → Nat
  | [] => 0
  | p :: ps => 8 + p.length + szs ps
def puts (ps : List (List Int)) : List Int := (ps.map put).flatten
theorem puts_nil : puts [] = [] := rfl
theorem puts_cons (p : List Int) (ps : List (List Int)) : puts (p :: ps) = put p ++ puts ps := rfl
theorem puts_app (ps qs : List (List Int)) : puts (ps ++ qs) = puts ps ++ puts qs := by simp [puts]
theorem puts_length (ps : List (List Int)) : (puts ps).length = szs ps := by
  induction ps with
  | nil => rfl
  | cons p ps ih => rw [puts_cons, List.length_append, put_length, ih]; rfl
theorem szs_app (ps qs : List (List Int)) : szs (ps ++ qs) = szs ps + szs qs := by
  rw [← puts_length, puts_app, List.length_append, puts_length, puts_length]
theorem szs_ge (ps : List (List Int)) : ps.length ≤ szs ps := by
  induction ps with
  | nil => exact Nat.le_refl _
  | cons p ps ih => simp [szs]; omega

theorem recsN_puts (ps : List (List Int)) (hps : ∀ p ∈ ps, p.length ≤ 65536) : ∀ (t : List Int) (f i : Nat), rec1 t = none → ps.length ≤ f → recsN f i (puts ps ++ t) = offs i ps := by
  induction ps with
  | nil => intro t f i ht _; rw [puts_nil, List.nil_append, recsN_none ht]; rfl
  | cons p ps ih =>
    intro t f i ht hf
    cases f with
    | zero => simp at hf
    | succ f =>
      rw [puts_cons, List.append_assoc, recsN_some (rec1_put p _ (hps p (by simp))), put_drop, ih (fun q hq => hps q (by simp [hq])) t f _ ht (by simpa using hf)]
      rfl
theorem recs_puts (ps : List (List Int)) (hps : ∀ p ∈ ps, p.length ≤ 65536) (t : List Int) (ht : rec1 t = none) : recs (puts ps ++ t) = offs 0 ps :=
  recsN_puts ps hps t _ 0 ht (by rw [List.length_append, puts_length]; have := szs_ge ps; omega)

/-- Every row of bytes is the records of payloads, and behind them what begins with none. -/
theorem parse (k : Nat) : ∀ zs : List Int, zs.length ≤ k → IsB zs → ∃ ps t, zs = puts ps ++ t ∧ rec1 t = none ∧ (∀ p ∈ ps, p.length ≤ 65536 ∧ IsB p) ∧ IsB t := by
  induction k with
  | zero =>
    intro zs hk hz
    obtain rfl : zs = [] := List.length_eq_zero_iff.1 (by omega)
    exact ⟨[], [], rfl, rfl, by simp, hz⟩
  | succ k ih =>
    intro zs hk hz
    cases h : rec1 zs with
    | none => exact ⟨[], zs, rfl, h, by simp, hz⟩
    | some n =>
      obtain ⟨e, hl⟩ := rec1_is hz h
      obtain ⟨h8, _, hle, hln, _⟩ := rec1_some h
      obtain ⟨ps, t, e2, ht, hps, hbt⟩ := ih (zs.drop (8 + n)) (by simp; omega) (hz.drop _)
      refine ⟨(zs.drop 8).take n :: ps, t, ?_, ht, ?_, hbt⟩
      · rw [puts_cons, List.append_assoc, ← e2]; exact e
      · intro p hp
        rcases List.mem_cons.1 hp with rfl | hp
        · exact ⟨by omega, (hz.drop 8).take n⟩
        · exact hps p hp

/-- How far a row is whole, by its records. -/
def endOf (i : Nat) (l : List (Nat × Nat)) : Nat := l.foldl (fun _ x => x.1 + 8 + x.2) i
theorem endOf_snoc (i : Nat) (l : List (Nat × Nat)) (x : Nat × Nat) : endOf i (l ++ [x]) = x.1 + 8 + x.2 := by simp [endOf]
theorem endOf_offs (ps : List (List Int)) : ∀ i, endOf i (offs i ps) = i + szs ps := by
  induction ps with
  | nil => intro i; rfl
  | cons p ps ih =>
    intro i
    have := ih (i + 8 + p.length)
    simp only [endOf, offs, List.foldl_cons] at this ⊢
    rw [this]; simp [szs]; omega
theorem offs_length (ps : List (List Int)) : ∀ i, (offs i ps).length = ps.length := by
  induction ps with
  | nil => intro i; rfl
  | cons p ps ih => intro i; simp [offs, ih]
theorem offs_app (ps qs : List (List Int)) : ∀ i, offs i (ps ++ qs) = offs i ps ++ offs (i + szs ps) qs := by
  induction ps with
  | nil => intro i; rfl
  | cons p ps ih =>
    intro i
    simp only [List.cons_append, offs, ih, szs]
    congr 3
    omega

/-- A row that is cut off within a record begins with none. -/
theorem rec1_cut (p : List Int) (m : Nat) (hm : m < 8 + p.length) (hp : p.length ≤ 65536) : rec1 ((put p).take m) = none := by
  cases h : rec1 ((put p).take m) with
  | none => rfl
  | some n =>
    obtain ⟨h8, hn, _, hl, _⟩ := rec1_some h
    have hml : ((put p).take m).length = m := by rw [List.length_take, put_length]; omega
    have e : ((put p).take m).take 4 = bytesOf p.length := by
      rw [List.take_take, Nat.min_eq_left (by omega)]
      have := put_take4 p []
      rwa [List.append_nil] at this
    rw [e, numOf_bytesOf _ (by omega)] at hn
    omega
end Go.Proofs.Ytfmjknknckjdiaa

namespace Go.Proofs.Ytfmjknknckjdiaa
open Go.RowKit

set_option maxHeartbeats 400000 in
theorem size_in (n : Nat) (hn : n ≤ 65536) (w : World) : Calls Try.prog 15 #[.int .i64 (n : Int)] w fun e w' => e = .returned (.int .i64 ((8 + n : Nat) : Int)) ∧ w' = w := by
  go_enter Try.func15, Try.ntmps15
  go_wp2
  go_ret
  exact ⟨ret_int (by omega), rfl⟩

set_option maxHeartbeats 400000 in
theorem size_out (n : Int) (hn : n < 0 ∨ 65536 < n) (w : World) : Calls Try.prog 15 #[.int .i64 n] w fun e w' => e = .returned (.int .i64 0) ∧ w' = w := by
  rcases hn with h | h
  · go_enter Try.func15, Try.ntmps15
    go_wp2
    go_ret
    exact ⟨rfl, rfl⟩
  · go_enter Try.func15, Try.ntmps15
    go_wp2
    go_ret
    exact ⟨rfl, rfl⟩

theorem bl2 {w w1 w2 : World} (h : Below w.heap.size w w1) (k : Below w1.heap.size w1 w2) : Below w.heap.size w w2 := h.trans (k.mono h.size)

/-- A piece of bytes. -/
theorem Bs.sub {w : World} {b off len : Nat} {zs : List Int} (h : Bs w (some ⟨b, off, none⟩) len zs) (i n : Nat) (hi : i + n ≤ len) : Bs w (some ⟨b, off + i, none⟩) n ((zs.drop i).take n) := by
  obtain ⟨h1, h2, h3⟩ := h
  refine ⟨by simp; omega, (IsB.drop h2 i).take n, fun hp => ⟨b, off + i, rfl, fun j hj => ?_⟩⟩
  obtain ⟨b', off', e, hc⟩ := h3 (by omega)
  cases e
  rw [show off + i + j = off + (i + j) by omega, hc _ (by omega)]
  simp [hj]
theorem bs_nil {w : World} (a : Option Addr) : Bs w a 0 [] := ⟨rfl, by simp, fun h => absurd h (by omega)⟩

/-- Where a payload lies. -/
def pad (b off cap : Nat) : Option Addr := some ⟨b, if cap = 8 then off else off + 8, none⟩

set_option maxHeartbeats 400000 in
theorem first_short (a : Option Addr) (len cap : Nat) (w : World) (h8 : len < 8) :
    Calls Try.prog 36 #[.slice a len cap] w fun e w' => e = .returned (.tuple #[.slice none 0 0, .bool false]) ∧ w' = w := by
  go_enter Try.func36, Try.ntmps36
  go_wp2
  go_ret2
  exact ⟨rfl, rfl⟩

set_option maxHeartbeats 800000 in
theorem first_long (b off len cap : Nat) (zs : List Int) (w : World) (hb : Bs w (some ⟨b, off, none⟩) len zs) (h8 : 8 ≤ len) (hc : len ≤ cap) (hm : cap ≤ 9223372036854775807) (n : Nat) (hn : n = numOf (zs.take 4)) (h1 : 65536 < n ∨ len < n + 8)
   : Calls Try.prog 36 #[.slice (some ⟨b, off, none⟩) len cap] w fun e w' => e = .returned (.tuple #[.slice none 0 0, .bool false]) ∧ Below w.heap.size w w' := by
  have k1 := hb.sub 0 4 (by omega)
  have k2 := hb.sub 4 4 (by omega)
  rw [List.drop_zero, Nat.add_zero] at k1
  have hlt := numOf_lt (zs.take 4) k1.1 k1.2.1
  rw [← hn] at hlt
  have HN := hide1 hn
  clear hn
  by_cases hbig : 65536 < n
  · clear h1
    go_enter Try.func36, Try.ntmps36
    go_wp2_with fail
    refine (take_four _ k1).mono ?_
    rintro e w1 ⟨rfl, hb1⟩
    rw [← HN.out]
    go_wp2_with fail
    refine (take_four _ (k2.later hb1)).mono ?_
    rintro e w2 ⟨rfl, hb2⟩
    clear k2
    go_wp2_with fail
    go_ret2
    exact ⟨rfl, bl2 hb1 hb2⟩
  · have h3 : len < n + 8 := by omega
    clear h1
    go_enter Try.func36, Try.ntmps36
    go_wp2_with fail
    refine (take_four _ k1).mono ?_
    rintro e w1 ⟨rfl, hb1⟩
    rw [← HN.out]
    go_wp2_with fail
    refine (take_four _ (k2.later hb1)).mono ?_
    rintro e w2 ⟨rfl, hb2⟩
    clear k2
    go_wp2_with fail
    go_ret2
    exact ⟨rfl, bl2 hb1 hb2⟩

theorem flat2 (x y : List Int) : [x, y].flatten = x ++ y := by simp
theorem eq_dec (x y : Nat) : ((x : Int) == (y : Int)) = decide (x = y) := by
  by_cases h : x = y
  · subst h; simp
  · rw [decide_eq_false h]; simp; omega

set_option maxHeartbeats 800000 in
theorem first_in (b off len cap : Nat) (zs : List Int) (w : World) (hb : Bs w (some ⟨b, off, none⟩) len zs) (h8 : 8 ≤ len) (hc : len ≤ cap) (hm : cap ≤ 9223372036854775807) (n : Nat) (hn : n = numOf (zs.take 4)) (h1 : n ≤ 65536) (h2 : n + 8 ≤ len)
   : Calls Try.prog 36 #[.slice (some ⟨b, off, none⟩) len cap] w fun e w' => e = .returned (.tuple #[.slice (pad b off cap) n (cap - 8), .bool (decide (crcSum (zs.take 4 ++ (zs.drop 8).take n) = numOf ((zs.drop 4).take 4)))]) ∧ Below w.heap.size w w' := by
  have k1 := hb.sub 0 4 (by omega)
  have k2 := hb.sub 4 4 (by omega)
  have k3 := hb.sub 8 n (by omega)
  rw [List.drop_zero, Nat.add_zero] at k1
  have HN := hide1 hn
  clear hn
  by_cases h9 : cap = 8
  · obtain rfl : n = 0 := by omega
    obtain rfl : len = 8 := by omega
    subst h9
    go_enter Try.func36, Try.ntmps36
    go_wp2_with fail
    refine (take_four _ k1).mono ?_
    rintro e w1 ⟨rfl, hb1⟩
    rw [← HN.out]
    go_wp2_with fail
    refine (take_four _ (k2.later hb1)).mono ?_
    rintro e w2 ⟨rfl, hb2⟩
    clear k2
    have hb3 := bl2 hb1 hb2
    go_wp2_with fail
    refine (of_any _ 2 2 [zs.take 4, (zs.drop 8).take 0] _ (parts_new2 w2 (k1.later hb3) (by unfold maxLen; omega) (bs_nil _) (by unfold maxLen; omega)) (by unfold maxLen; omega)).mono ?_
    rintro e w3 ⟨rfl, hb4⟩
    rw [flat2]
    go_wp2_with fail
    go_ret2
    rw [eq_dec]
    exact ⟨by simp [pad], bl2 hb3 (bl2 (below_one w2 _) hb4)⟩
  · go_enter Try.func36, Try.ntmps36
    go_wp2_with fail
    refine (take_four _ k1).mono ?_
    rintro e w1 ⟨rfl, hb1⟩
    rw [← HN.out]
    go_wp2_with fail
    refine (take_four _ (k2.later hb1)).mono ?_
    rintro e w2 ⟨rfl, hb2⟩
    clear k2
    have hb3 := bl2 hb1 hb2
    go_wp2_with fail
    refine (of_any _ 2 2 [zs.take 4, (zs.drop 8).take n] _ (parts_new2 w2 (k1.later hb3) (by unfold maxLen; omega) (k3.later hb3) (by unfold maxLen; omega)) (by unfold maxLen; omega)).mono ?_
    rintro e w3 ⟨rfl, hb4⟩
    rw [flat2]
    go_wp2_with fail
    go_ret2
    rw [eq_dec]
    exact ⟨by simp [pad, h9], bl2 hb3 (bl2 (below_one w2 _) hb4)⟩
end Go.Proofs.Ytfmjknknckjdiaa

namespace Go.Proofs.Ytfmjknknckjdiaa
open Go.RowKit Go.Shelf
attribute [local go_sem] Oper.semAt_some

theorem first_some {b off len cap n : Nat} {zs : List Int} {w : World} (hb : Bs w (some ⟨b, off, none⟩) len zs) (hc : len ≤ cap) (hm : cap ≤ 9223372036854775807) (h : rec1 zs = some n) :
    Calls Try.prog 36 #[.slice (some ⟨b, off, none⟩) len cap] w fun e w' => e = .returned (.tuple #[.slice (pad b off cap) n (cap - 8), .bool true]) ∧ Below w.heap.size w w' := by
  obtain ⟨h8, hn, hle, hl, hs⟩ := rec1_some h
  rw [hb.1] at h8 hl
  have := first_in b off len cap zs w hb h8 hc hm n hn hle hl
  rw [decide_eq_true hs] at this
  exact this

theorem first_none {a : Option Addr} {len cap : Nat} {zs : List Int} {w : World} (hb : Bs w a len zs) (hc : len ≤ cap) (hm : cap ≤ 9223372036854775807) (h : rec1 zs = none) :
    Calls Try.prog 36 #[.slice a len cap] w fun e w' => (∃ s, e = .returned (.tuple #[s, .bool false])) ∧ Below w.heap.size w w' := by
  by_cases h8 : len < 8
  · refine (first_short a len cap w h8).mono ?_
    rintro e w' ⟨rfl, rfl⟩
    exact ⟨⟨_, rfl⟩, Below.refl _ _⟩
  · obtain ⟨b, off, rfl, _⟩ := hb.2.2 (by omega)
    by_cases h1 : 65536 < numOf (zs.take 4) ∨ len < numOf (zs.take 4) + 8
    · refine (first_long b off len cap zs w hb (by omega) hc hm _ rfl h1).mono ?_
      rintro e w' ⟨rfl, hb'⟩
      exact ⟨⟨_, rfl⟩, hb'⟩
    · refine (first_in b off len cap zs w hb (by omega) hc hm _ rfl (by omega) (by omega)).mono ?_
      rintro e w' ⟨rfl, hb'⟩
      rw [decide_eq_false]
      · exact ⟨⟨_, rfl⟩, hb'⟩
      · intro hs
        have : rec1 zs = some (numOf (zs.take 4)) := by
          unfold rec1; rw [if_pos ⟨by rw [hb.1]; omega, by omega, by rw [hb.1]; omega, hs⟩]
        rw [h] at this; cases this

/-- A record's place in a row. -/
abbrev RI (zs : List Int) : Type := { x : Nat × Nat // rec1 (zs.drop x.1) = some x.2 }
/-- What the iterator hands on. -/
def ryi (b off cap : Nat) {zs : List Int} (x : RI zs) : Array Value := #[.int .i64 ((x.1.1 : Nat) : Int), .slice (pad b (off + x.1.1) (cap - x.1.1)) x.1.2 (cap - x.1.1 - 8)]
/-- What a round must keep: two blocks. -/
def Two (p g : Nat) (A B : World) : Prop := B.heap[p]? = A.heap[p]? ∧ B.heap[g]? = A.heap[g]?

theorem Bs.kept {w w' : World} {b off len : Nat} {zs : List Int} (h : Bs w (some ⟨b, off, none⟩) len zs) (hk : w'.heap[b]? = w.heap[b]?) : Bs w' (some ⟨b, off, none⟩) len zs := by
  obtain ⟨h1, h2, h3⟩ := h
  refine ⟨h1, h2, fun hp => ?_⟩
  obtain ⟨b', off', e, hc⟩ := h3 hp
  cases e
  exact ⟨_, _, rfl, fun i hi => (World.cell?_of_block hk).trans (hc i hi)⟩
theorem grown_of {w w' : World} (h : Below w.heap.size w w') : w.grownBy w' none := ⟨h.os, h.tape, h.output, h.size, fun k hk _ => h.block k hk⟩

set_option maxRecDepth 100000 in
set_option maxHeartbeats 4000000 in
theorem recs_in (l p b off len cap : Nat) (zs : List Int) (hl : 0 < len) (hc : len ≤ cap) (hm : cap ≤ 9223372036854775807) (J Jx : List (RI zs) → World → Prop) (W : World) (hJ : AbidesFrom W.heap.size J)
    (hY : ∀ pre x W, J pre W → pre.length < len → YieldAt Fence.wide 3 Try.prog l (ryi b off cap x) W fun e W' =>
      (e = .returned (.bool true) ∧ J (pre ++ [x]) W' ∧ Two p b W W') ∨ (e = .returned (.bool false) ∧ Jx (pre ++ [x]) W'))
    (hp : W.cell? ⟨p, 0, none⟩ = some (.slice (some ⟨b, off, none⟩) len cap)) (hb : Bs W (some ⟨b, off, none⟩) len zs) (h0 : J [] W) :
    CallsIn Fence.wide 4 Try.prog 35 #[.func (.yield l) #[] #[], .pointer (some ⟨p, 0, none⟩)] W fun e W' => (∃ v, e = .returned v) ∧
      ((∃ ys : List (RI zs), ys.map (·.1) = recs zs ∧ J ys W') ∨ (∃ pre : List (RI zs), pre.map (·.1) <+: recs zs ∧ Jx pre W')) := by
  refine callsIn_of_wp Try.func35 rfl trivial ?_ rfl
  simp only [Try.ntmps35, List.size_toArray, List.length_cons, List.length_nil, Nat.reduceAdd, Nat.reduceSub, Array.replicate_succ, Array.replicate_zero, List.push_toArray, List.append_toArray, List.nil_append, List.cons_append]
  gi_wp2
  gi_loopw [3] (fun i wr => ∃ (k f : Nat) (pre : List (RI zs)), k ≤ len ∧ i = .int .i64 (k : Int) ∧ recs zs = pre.map (·.1) ++ recsN f k (zs.drop k) ∧ len < k + f ∧ pre.length ≤ k ∧ J pre wr ∧ wr.cell? ⟨p, 0, none⟩ = some (.slice (some ⟨b, off, none⟩) len cap) ∧ Bs wr (some ⟨b, off, none⟩) len zs)
    (fun i _ => len - (intOf i).toNat)
  case atStart => exact ⟨0, zs.length + 1, [], Nat.zero_le _, by simp, rfl, by rw [hb.1]; omega, Nat.le_refl _, h0, hp, hb⟩
  case round =>
    obtain ⟨k, f, pre, hk, rfl, hrs, hf, hpl, hJs, hp', hb'⟩ := hrel
    have hlz : (zs.drop k).length = len - k := by rw [List.length_drop, hb.1]
    cases hr : rec1 (zs.drop k) with
    | none =>
      have ebs : ∀ a, (k < len → a = some ⟨b, off + k, none⟩) → Bs wr a (len - k) (zs.drop k) := by
        intro a ha
        by_cases hkl : k < len
        · rw [ha hkl]
          have := hb'.sub k (len - k) (by omega)
          rwa [List.take_of_length_le (by omega)] at this
        · rw [show len - k = 0 by omega, List.length_eq_zero_iff.1 (show (zs.drop k).length = 0 by omega)]
          exact bs_nil _
      have hend : recs zs = pre.map (·.1) := by rw [hrs, recsN_none hr, List.append_nil]
      by_cases hkc : k = cap
      · gi_wp2
        refine ⟨trivial, ?_⟩
        refine (callsIn_wide.2 (first_short _ 0 0 wr (by omega))).mono ?_
        rintro e W3 ⟨rfl, rfl⟩
        gi_wp2
        refine ⟨fun _ h => (by cases h), ?_⟩
        gi_wp2
        refine bodyPost_ret (results_none rfl _ _ _) rfl ?_
        exact ⟨⟨_, rfl⟩, .inl ⟨pre, hend.symm, hJs⟩⟩
      · gi_wp2
        refine ⟨trivial, ?_⟩
        refine (callsIn_wide.2 (first_none (ebs (some ⟨b, off + k, none⟩) (fun _ => rfl)) (by omega) (by omega) hr)).mono ?_
        rintro e W3 ⟨⟨s, rfl⟩, hb3⟩
        gi_wp2
        refine ⟨fun _ h => (by cases h), ?_⟩
        gi_wp2
        refine bodyPost_ret (results_none rfl _ _ _) rfl ?_
        exact ⟨⟨_, rfl⟩, .inl ⟨pre, hend.symm, hJ _ _ _ none hJs (grown_of hb3) (fun r e => by cases e)⟩⟩
    | some n =>
      obtain ⟨h8, -, hle, hln, -⟩ := rec1_some hr
      rw [hlz] at h8 hln
      have hbk : Bs wr (some ⟨b, off + k, none⟩) (len - k) (zs.drop k) := by
        have := hb'.sub k (len - k) (by omega)
        rwa [List.take_of_length_le (by omega)] at this
      obtain ⟨f, rfl⟩ : ∃ f', f = f' + 1 := ⟨f - 1, by omega⟩
      rw [recsN_some hr, List.drop_drop] at hrs
      have HRS := hide1 hrs
      clear hrs
      gi_wp2
      refine ⟨trivial, ?_⟩
      refine (callsIn_wide.2 (first_some hbk (by omega) (by omega) hr)).mono ?_
      rintro e W3 ⟨rfl, hb3⟩
      have hJ3 := hJ _ _ _ none hJs (grown_of hb3) (fun r e => by cases e)
      have hp3 := cell_later hb3 hp'
      have hb3' := hb'.later hb3
      obtain ⟨fn, tmps, assign, body, hy, hR⟩ := hY pre ⟨(k, n), hr⟩ W3 hJ3 (by omega)
      clear hY hJs hp' hb' hb3 hJ3
      dsimp only [ryi] at hy
      gi_wp2
      refine hR.mono ?_
      rintro e W4 (⟨rfl, hJ4, hk4⟩ | ⟨rfl, hJx4⟩)
      · gi_wp2
        refine ⟨trivial, ?_⟩
        refine (callsIn_wide.2 (size_in n hle W4)).mono ?_
        rintro e W5 ⟨rfl, rfl⟩
        gi_wp2
        go_roundw
        case rel => exact ⟨k + 8 + n, f, pre ++ [⟨(k, n), hr⟩], by omega, by congr 1; omega, by rw [HRS.out, List.map_append, List.append_assoc]; simp [Nat.add_assoc], by omega, by simp; omega, hJ4, (World.cell?_of_block hk4.1).trans hp3, hb3'.kept hk4.2⟩
        case measure => simp [intOf]; omega
      · gi_wp2
        refine bodyPost_ret (results_none rfl _ _ _) rfl ?_
        refine ⟨⟨_, rfl⟩, .inr ⟨_, ?_, hJx4⟩⟩
        rw [HRS.out, List.map_append]
        exact List.prefix_append_right_inj _ |>.2 ⟨recsN f (k + 8 + n) (zs.drop (k + (8 + n))), by simp⟩

/-- The iterator, whatever loop goes over it. -/
theorem recs_stops (p b off len cap : Nat) (zs : List Int) (hl : 0 < len) (hc : len ≤ cap) (hm : cap ≤ 9223372036854775807) (w : World) (hp : w.cell? ⟨p, 0, none⟩ = some (.slice (some ⟨b, off, none⟩) len cap)) (hb : Bs w (some ⟨b, off, none⟩) len zs) :
    SeqStopsK Fence.wide 4 Try.prog 35 #[.pointer (some ⟨p, 0, none⟩)] (ryi b off cap (zs := zs)) (Two p b) (fun ys => ys.map (·.1) = recs zs) (fun pre => pre.map (·.1) <+: recs zs) len w :=
  fun l J Jx W hW hJ _ hY h0 => recs_in l p b off len cap zs hl hc hm J Jx W hJ hY (cell_later hW hp) (hb.later hW) h0

theorem two_t {p g : Nat} {A B C : World} (h : Two p g A B) (k : Two p g B C) : Two p g A C := ⟨k.1.trans h.1, k.2.trans h.2⟩
theorem two_b {p g : Nat} {w : World} (hp : p < w.heap.size) (hg : g < w.heap.size) (W : World) (l : Nat) (o o' : Obj) (hl : w.heap.size ≤ l) (_ : W.heap[l]? = some o) (_ : o.isCells = false) (_ : o.isWalk = false) : Two p g W (W.putObj l o') :=
  ⟨World.putObj_heap_other (by omega), World.putObj_heap_other (by omega)⟩
end Go.Proofs.Ytfmjknknckjdiaa

namespace Go.Proofs.Ytfmjknknckjdiaa
open Go.RowKit Go.Shelf
attribute [local go_sem] Oper.semAt_some

set_option maxHeartbeats 400000 in
theorem records_d (a : Option Addr) (len cap : Nat) (w : World) :
    Calls Try.prog 31 #[.slice a len cap] w fun e w' => e = .returned (.func (.func 35) #[] #[.pointer (some ⟨w.heap.size, 0, none⟩)]) ∧ w' = w.alloc (.cells #[.slice a len cap] 22) := by
  go_enter Try.func31, Try.ntmps31
  go_wp2
  go_ret
  exact ⟨rfl, rfl⟩

theorem rec1_nil : rec1 [] = none := rfl

set_option maxRecDepth 100000 in
set_option maxHeartbeats 4000000 in
theorem recs_in0 (l p cap : Nat) (a : Option Addr) (W : World)
    (hp : W.cell? ⟨p, 0, none⟩ = some (.slice a 0 cap)) (J : World → Prop) (h0 : J W) :
    CallsIn Fence.wide 4 Try.prog 35 #[.func (.yield l) #[] #[], .pointer (some ⟨p, 0, none⟩)] W fun e W' => (∃ v, e = .returned v) ∧ J W' := by
  refine callsIn_of_wp Try.func35 rfl trivial ?_ rfl
  simp only [Try.ntmps35, List.size_toArray, List.length_cons, List.length_nil, Nat.reduceAdd, Nat.reduceSub, Array.replicate_succ, Array.replicate_zero, List.push_toArray, List.append_toArray, List.nil_append, List.cons_append]
  gi_wp2
  gi_loopw [3] (fun i wr => i = .int .i64 0 ∧ J wr ∧ wr.cell? ⟨p, 0, none⟩ = some (.slice a 0 cap)) (fun _ _ => 0)
  case atStart => exact ⟨by simp, h0, hp⟩
  case round =>
    obtain ⟨rfl, hJ, hc⟩ := hrel
    cases a with
    | none =>
      gi_wp2
      all_goals
        refine ⟨trivial, ?_⟩
        refine (callsIn_wide.2 (first_short _ 0 _ wr (by omega))).mono ?_
        rintro e W3 ⟨rfl, rfl⟩
        gi_wp2
        refine ⟨fun _ h => (by cases h), ?_⟩
        gi_wp2
        refine bodyPost_ret (results_none rfl _ _ _) rfl ?_
        exact ⟨⟨_, rfl⟩, hJ⟩
    | some x =>
      gi_wp2
      all_goals
        refine ⟨trivial, ?_⟩
        refine (callsIn_wide.2 (first_short _ 0 _ wr (by omega))).mono ?_
        rintro e W3 ⟨rfl, rfl⟩
        gi_wp2
        refine ⟨fun _ h => (by cases h), ?_⟩
        gi_wp2
        refine bodyPost_ret (results_none rfl _ _ _) rfl ?_
        exact ⟨⟨_, rfl⟩, hJ⟩

/-- The iterator over any row. -/
theorem recs_any {p len cap : Nat} {a : Option Addr} {zs : List Int} {w : World} (hp : w.cell? ⟨p, 0, none⟩ = some (.slice a len cap)) (hb : Bs w a len zs) (hc : len ≤ cap) (hm : cap ≤ 9223372036854775807) :
    ∃ b off, (b = p ∨ (0 < len ∧ a = some ⟨b, off, none⟩)) ∧ SeqStopsK Fence.wide 4 Try.prog 35 #[.pointer (some ⟨p, 0, none⟩)] (ryi b off cap (zs := zs)) (Two p b) (fun ys => ys.map (·.1) = recs zs) (fun pre => pre.map (·.1) <+: recs zs) len w := by
  rcases Nat.eq_zero_or_pos len with rfl | hl
  · obtain rfl : zs = [] := List.length_eq_zero_iff.1 hb.1
    refine ⟨p, 0, .inl rfl, fun l J Jx W hW hJ _ hY h0 => ?_⟩
    refine (recs_in0 l p cap a W (cell_later hW hp) (J []) h0).mono ?_
    rintro e W' ⟨hv, hj⟩
    exact ⟨hv, .inl ⟨[], rfl, hj⟩⟩
  · obtain ⟨b, off, rfl, _⟩ := hb.2.2 hl
    exact ⟨b, off, .inr ⟨hl, rfl⟩, recs_stops p b off len cap zs hl hc hm w hp hb⟩

theorem ri_le {zs : List Int} (x : RI zs) : x.1.1 + 8 + x.1.2 ≤ zs.length ∧ x.1.2 ≤ 65536 := by
  obtain ⟨h8, -, hle, hln, -⟩ := rec1_some x.2
  simp at h8 hln
  omega

theorem cell_lt {w : World} {p : Addr} {v : Value} (h : w.cell? p = some v) : p.block < w.heap.size := by
  unfold World.cell? at h
  rcases Nat.lt_or_ge p.block w.heap.size with h1 | h1
  · exact h1
  · rw [Array.getElem?_eq_none h1] at h; cases h
theorem cell_of_box_l {W : World} {B : Nat} {v : Value} {t : TypeId} (h : W.heap[B]? = some (.cells #[v] t (0, 0))) : W.cell? ⟨B, 0, none⟩ = some v ∧ W.frozen? ⟨B, 0, none⟩ = false := by
  constructor <;> simp [World.cell?, World.frozen?, h]
theorem cell_new_l (W : World) (v : Value) (t : TypeId) : (W.alloc (.cells #[v] t)).cell? ⟨W.heap.size, 0, none⟩ = some v ∧ (W.alloc (.cells #[v] t)).frozen? ⟨W.heap.size, 0, none⟩ = false :=
  cell_of_box_l (World.alloc_heap_new W _)
theorem cell_alloc_l {W : World} {a : Addr} {v : Value} (o : Obj) (h : W.cell? a = some v) : (W.alloc o).cell? a = some v := cell_kept h (World.grownBy_alloc W o none) (fun r e => by cases e)
theorem frozen_alloc_l {W : World} {a : Addr} {v : Value} (o : Obj) (h : W.cell? a = some v) (hf : W.frozen? a = false) : (W.alloc o).frozen? a = false := (frozen_kept h (World.grownBy_alloc W o none) (fun r e => by cases e)).trans hf

/-- What the caller's own cell holds, and that nothing else has turned. -/
def Cel (w : World) (E : Nat) (v : Value) (W : World) : Prop := (W.cell? ⟨E, 0, none⟩ = some v ∧ W.frozen? ⟨E, 0, none⟩ = false) ∧ Below w.heap.size w W
theorem cel_own {β : Type} (w : World) (E : Nat) (f : β → Value) {B : Nat} (hB : w.heap.size ≤ B) : OwnFrom B (fun s W => Cel w E (f s) W) :=
  OwnFrom.and (Own.from (fun _ _ _ _ hs hg hr => ⟨cell_kept hs.1 hg hr, (frozen_kept hs.1 hg hr).trans hs.2⟩) _) (ownFrom_below (Nat.le_refl _) hB)
theorem setCell_other (W : World) (E : Nat) (v : Value) {k : Nat} (h : k ≠ E) : (W.setCell ⟨E, 0, none⟩ v).heap[k]? = W.heap[k]? := Below.heap_setCell W ⟨E, 0, none⟩ v k h
theorem cel_set {w W : World} {E : Nat} {v : Value} (h : Cel w E v W) (hE : w.heap.size ≤ E) (u : Value) : Cel w E u (W.setCell ⟨E, 0, none⟩ u) :=
  ⟨⟨World.cell?_setCell_same' _ _ _ (by rw [h.1.1]; rfl), by rw [World.frozen?_setCell]; exact h.1.2⟩, h.2.setCell (p := ⟨E, 0, none⟩) hE _⟩
theorem cel_val {w W : World} {E : Nat} {v u : Value} (h : Cel w E v W) (e : v = u) : Cel w E u W := e ▸ h
theorem bs_lt {w : World} {b off len : Nat} {zs : List Int} (h : Bs w (some ⟨b, off, none⟩) len zs) (hl : 0 < len) : b < w.heap.size := by
  obtain ⟨b', off', e, hc⟩ := h.2.2 hl
  cases e
  exact cell_lt (hc 0 hl)

set_option maxRecDepth 100000 in
set_option maxHeartbeats 4000000 in
theorem whole_in (a : Option Addr) (len cap : Nat) (zs : List Int) (w : World) (hb : Bs w a len zs) (hc : len ≤ cap) (hm : cap ≤ 9223372036854775807) :
    CallsIn Fence.wide 5 Try.prog 19 #[.slice a len cap] w fun e W' => e = .returned (.int .i64 ((endOf 0 (recs zs) : Nat) : Int)) ∧ Below w.heap.size w W' := by
  refine callsIn_of_wp_marks Try.func19 rfl trivial ?_ rfl
  simp only [Try.ntmps19, List.size_toArray, List.length_cons, List.length_nil, Nat.reduceAdd, Nat.reduceSub, Array.replicate_succ, Array.replicate_zero, List.push_toArray, List.append_toArray, List.nil_append, List.cons_append]
  gi_wp2_with (refine ⟨trivial, ?_⟩; gi_at_call 31; refine (callsIn_wide.2 (records_d _ _ _ _)).mono ?_; rintro e w' ⟨rfl, rfl⟩)
  have hs := cell_new_l w (.int .i64 0) 3
  have hr := cell_new_l (w.alloc (.cells #[.int .i64 0] 3)) (.slice a len cap) 22
  rw [World.size_alloc] at hr
  have hB0 : Below w.heap.size w ((w.alloc (.cells #[.int .i64 0] 3)).alloc (.cells #[.slice a len cap] 22)) := ((Below.refl _ w).alloc (Nat.le_refl _) _).alloc (by simp) _
  have hz0 : Cel w w.heap.size (.int .i64 0) ((w.alloc (.cells #[.int .i64 0] 3)).alloc (.cells #[.slice a len cap] 22)) := ⟨⟨cell_alloc_l _ hs.1, frozen_alloc_l _ hs.1 hs.2⟩, hB0⟩
  obtain ⟨b, off, hbp, hseq⟩ := recs_any hr.1 (hb.later hB0) hc hm
  have hbE : b ≠ w.heap.size := by
    rcases hbp with rfl | ⟨hl, rfl⟩
    · omega
    · have := bs_lt hb hl; omega
  have hsz : ((w.alloc (.cells #[.int .i64 0] 3)).alloc (.cells #[.slice a len cap] 22)).heap.size = w.heap.size + 1 + 1 := by simp
  have hbl : b < ((w.alloc (.cells #[.int .i64 0] 3)).alloc (.cells #[.slice a len cap] 22)).heap.size := by
    rcases hbp with rfl | ⟨hl, rfl⟩
    · omega
    · have := bs_lt hb hl; omega
  generalize (w.alloc (.cells #[.int .i64 0] 3)).alloc (.cells #[.slice a len cap] 22) = W0 at hseq hz0 hsz hbl hr ⊢
  refine wpIn_rangeFunc_ownF (F := Fence.wide) (n := 5) rfl (by decide) (gf := 35) (lb := #[.pointer (some ⟨w.heap.size + 1, 0, none⟩)]) rfl trivial (enters_of Try.func35 (by kernel_rfl) rfl)
    hseq two_t (two_b (by omega) hbl) (Below.refl _ _) (fun _ => rfl)
    (fun pre W => Cel w w.heap.size (.int .i64 ((endOf 0 (pre.map (·.1)) : Nat) : Int)) W) (fun _ _ _ => False)
    (cel_own w w.heap.size _ (by omega)) (fun _ _ _ _ _ hs _ _ => hs) hz0
    (fun x => { tmps := #[.slice a len cap, undef, .int .i64 0, .pointer (some ⟨w.heap.size, 0, none⟩), .int .i64 ((x.1.1 : Nat) : Int), .slice (pad b (off + x.1.1) (cap - x.1.1)) x.1.2 (cap - x.1.1 - 8), .slice a len cap, .func (.func 35) #[] #[.pointer (some ⟨w.heap.size + 1, 0, none⟩)], .int .i64 ((x.1.1 : Nat) : Int), .slice (pad b (off + x.1.1) (cap - x.1.1)) x.1.2 (cap - x.1.1 - 8), undef, undef, undef, undef, undef, undef], defers := [] }) ?assign ?body ?done ?stop
  case assign =>
    intro l x W K hK
    dsimp only [ryi]
    gi_wp2
    exact hK
  case body =>
    rintro l pre ⟨⟨k, n⟩, hx⟩ W hC _
    obtain ⟨h1, h2⟩ := ri_le ⟨(k, n), hx⟩
    rw [hb.1] at h1
    have hcl := hC.1.1
    have hfr := hC.1.2
    dsimp only at h1 h2 ⊢
    gi_wp2_with (refine ⟨trivial, ?_⟩; gi_at_call 15; refine (CallsIn.inRound l (callsIn_wide.2 (size_in n h2 _))).mono ?_; rintro e w' ⟨rfl, rfl⟩)
    refine ⟨KeepsOthers.setCell _ _ _, ⟨setCell_other _ _ _ (by omega), setCell_other _ _ _ hbE⟩, cel_val (cel_set hC (Nat.le_refl _) _) (val_int ?_)⟩
    rw [List.map_append, List.map_singleton, endOf_snoc]
    dsimp only
    omega
  case done =>
    rintro D ys W hD hys hC hK
    have hcl := hC.1.1
    gi_wp2
    refine ⟨by simp, .inl ⟨_, _, rfl, run_takeDeferred hK, ?_⟩⟩
    exact ⟨_, results_tmp rfl _ _ _, by rw [← hys]; rfl, hC.2.trans (belowK_b (w := w) (Nat.le_refl _) W D _ _ (by omega) hK rfl rfl)⟩
  case stop =>
    rintro D c pre W _ _ h _
    exact h.elim
set_option maxRecDepth 100000 in
set_option maxHeartbeats 4000000 in
theorem count_in (a : Option Addr) (len cap : Nat) (zs : List Int) (w : World) (hb : Bs w a len zs) (hc : len ≤ cap) (hm : cap ≤ 9223372036854775807) :
    CallsIn Fence.wide 5 Try.prog 21 #[.slice a len cap] w fun e W' => e = .returned (.int .i64 ((recs zs).length : Int)) ∧ Below w.heap.size w W' := by
  refine callsIn_of_wp_marks Try.func21 rfl trivial ?_ rfl
  simp only [Try.ntmps21, List.size_toArray, List.length_cons, List.length_nil, Nat.reduceAdd, Nat.reduceSub, Array.replicate_succ, Array.replicate_zero, List.push_toArray, List.append_toArray, List.nil_append, List.cons_append]
  gi_wp2_with (refine ⟨trivial, ?_⟩; gi_at_call 31; refine (callsIn_wide.2 (records_d _ _ _ _)).mono ?_; rintro e w' ⟨rfl, rfl⟩)
  have hs := cell_new_l w (.int .i64 0) 3
  have hr := cell_new_l (w.alloc (.cells #[.int .i64 0] 3)) (.slice a len cap) 22
  rw [World.size_alloc] at hr
  have hB0 : Below w.heap.size w ((w.alloc (.cells #[.int .i64 0] 3)).alloc (.cells #[.slice a len cap] 22)) := ((Below.refl _ w).alloc (Nat.le_refl _) _).alloc (by simp) _
  have hz0 : Cel w w.heap.size (.int .i64 0) ((w.alloc (.cells #[.int .i64 0] 3)).alloc (.cells #[.slice a len cap] 22)) := ⟨⟨cell_alloc_l _ hs.1, frozen_alloc_l _ hs.1 hs.2⟩, hB0⟩
  obtain ⟨b, off, hbp, hseq⟩ := recs_any hr.1 (hb.later hB0) hc hm
  have hbE : b ≠ w.heap.size := by
    rcases hbp with rfl | ⟨hl, rfl⟩
    · omega
    · have := bs_lt hb hl; omega
  have hsz : ((w.alloc (.cells #[.int .i64 0] 3)).alloc (.cells #[.slice a len cap] 22)).heap.size = w.heap.size + 1 + 1 := by simp
  have hbl : b < ((w.alloc (.cells #[.int .i64 0] 3)).alloc (.cells #[.slice a len cap] 22)).heap.size := by
    rcases hbp with rfl | ⟨hl, rfl⟩
    · omega
    · have := bs_lt hb hl; omega
  generalize (w.alloc (.cells #[.int .i64 0] 3)).alloc (.cells #[.slice a len cap] 22) = W0 at hseq hz0 hsz hbl hr ⊢
  refine wpIn_rangeFunc_ownF (F := Fence.wide) (n := 5) rfl (by decide) (gf := 35) (lb := #[.pointer (some ⟨w.heap.size + 1, 0, none⟩)]) rfl trivial (enters_of Try.func35 (by kernel_rfl) rfl)
    hseq two_t (two_b (by omega) hbl) (Below.refl _ _) (fun _ => rfl)
    (fun pre W => Cel w w.heap.size (.int .i64 ((pre.length : Nat) : Int)) W) (fun _ _ _ => False)
    (cel_own w w.heap.size _ (by omega)) (fun _ _ _ _ _ hs _ _ => hs) hz0
    (fun x => { tmps := #[.slice a len cap, undef, .int .i64 0, .pointer (some ⟨w.heap.size, 0, none⟩), .slice a len cap, .func (.func 35) #[] #[.pointer (some ⟨w.heap.size + 1, 0, none⟩)], .int .i64 ((x.1.1 : Nat) : Int), .slice (pad b (off + x.1.1) (cap - x.1.1)) x.1.2 (cap - x.1.1 - 8), undef, undef, undef], defers := [] }) ?assign ?body ?done ?stop
  case assign =>
    intro l x W K hK
    dsimp only [ryi]
    gi_wp2
    exact hK
  case body =>
    rintro l pre x W hC hlt
    have hcl := hC.1.1
    have hfr := hC.1.2
    gi_wp2
    refine ⟨KeepsOthers.setCell _ _ _, ⟨setCell_other _ _ _ (by omega), setCell_other _ _ _ hbE⟩, cel_val (cel_set hC (Nat.le_refl _) _) (val_int ?_)⟩
    rw [List.length_append]
    simp
  case done =>
    rintro D ys W hD hys hC hK
    have hcl := hC.1.1
    gi_wp2
    refine ⟨by simp, .inl ⟨_, _, rfl, run_takeDeferred hK, ?_⟩⟩
    exact ⟨_, results_tmp rfl _ _ _, by rw [← hys, List.length_map]; rfl, hC.2.trans (belowK_b (w := w) (Nat.le_refl _) W D _ _ (by omega) hK rfl rfl)⟩
  case stop =>
    rintro D c pre W _ _ h _
    exact h.elim

theorem whole_d (a : Option Addr) (len cap : Nat) (zs : List Int) (w : World) (hb : Bs w a len zs) (hc : len ≤ cap) (hm : cap ≤ 9223372036854775807) :
    Calls Try.prog 19 #[.slice a len cap] w fun e W' => e = .returned (.int .i64 ((endOf 0 (recs zs) : Nat) : Int)) ∧ Below w.heap.size w W' := callsIn_wide.1 (whole_in a len cap zs w hb hc hm)
theorem count_d (a : Option Addr) (len cap : Nat) (zs : List Int) (w : World) (hb : Bs w a len zs) (hc : len ≤ cap) (hm : cap ≤ 9223372036854775807) :
    Calls Try.prog 21 #[.slice a len cap] w fun e W' => e = .returned (.int .i64 ((recs zs).length : Int)) ∧ Below w.heap.size w W' := callsIn_wide.1 (count_in a len cap zs w hb hc hm)
end Go.Proofs.Ytfmjknknckjdiaa

namespace Go.Proofs.Ytfmjknknckjdiaa
open Go.RowKit

theorem zeros_size (n : Nat) : (Builtin.zeroCells #[Value.int .u8 0] n).size = n := by simp [Builtin.zeroCells]

set_option maxHeartbeats 800000 in
theorem grow_nil (n : Nat) (h0 : 0 < n) (hm : n ≤ 140737488355328) (w : World) :
    Calls Try.prog 34 #[.slice none 0 0, .int .i64 (n : Int)] w fun e w' => ∃ cap, e = .returned (.slice (some ⟨w.heap.size, 0, none⟩) 0 cap) ∧ n ≤ cap ∧ w'.ownsRow w.heap.size 5 1 (.slice (some ⟨w.heap.size, 0, none⟩) 0 cap) 0 [] ∧ Below w.heap.size w w' := by
  obtain ⟨i0, hi, hz0, hz1, hz2⟩ := info_parts info5
  have hr : ∀ ty w, (Builtin.append_ #[22, 3] ty #[.slice none 0 0, .int .i64 (n : Int)]).run Try.prog w = _ := fun ty w => Lib.run_append_nil_zeros (P := Try.prog) w 22 3 ty 5 i0 (.int .u8 0) .i64 .i64 Try.underlying22 Try.underlying3 hi hz0 n h0 (by rw [hz1]; decide) (by omega) (by rw [hz2]; omega)
  have hge := grownCap_ge w n 0 5
  have hle := grownCap_le_maxLen w n 0 5 (by unfold maxLen; omega)
  have hr0 := fun ty => hr ty w
  clear hi hz0 hz1 hz2 hr
  generalize grownCap w n 0 5 = G at hr0 hge hle
  go_enter Try.func34, Try.ntmps34
  go_wp2_with (at_builtin; refine Lib.wpList_append_run _ rfl _ _ _ _ rfl _ _ rfl rfl _ _ (hr0 _) ?_)
  go_ret
  refine ⟨G, rfl, hge, ⟨rfl, .inr ⟨w.heap.size, G, _, rfl, Nat.le_refl _, World.alloc_heap_new w.drew _, Nat.zero_le _, hle, ?_, by simp⟩⟩, ((Below.refl _ w).drew).alloc (Nat.le_refl _) _⟩
  rw [Array.size_append, zeros_size, zeros_size]; omega

/-- How many bytes the first k parts have. -/
def fL (ps : List (List Int)) (k : Nat) : Nat := (ps.take k).flatten.length

set_option maxHeartbeats 800000 in
theorem concat_d (a : Option Addr) (n cap : Nat) (ps : List (List Int)) (w : World) (hp : Parts w a n ps) (hn : n ≤ maxLen) (h0 : 0 < ps.flatten.length) (hm : ps.flatten.length ≤ 140737488355328) :
    Calls Try.prog 25 #[.slice a n cap] w fun e w' => ∃ v, e = .returned v ∧ w'.ownsRow w.heap.size 5 1 v ps.flatten.length (byteVals ps.flatten) ∧ Below w.heap.size w w' := by
  unfold maxLen at hn
  obtain ⟨hl, hc⟩ := hp
  have hfl : fL ps n = ps.flatten.length := by unfold fL; rw [List.take_of_length_le (by omega)]
  rw [← hfl] at h0 hm ⊢
  have HF := hide1 hfl
  clear hfl
  have hmono : ∀ k, fL ps k ≤ fL ps n := by
    intro k
    rw [HF.out]
    unfold fL
    conv => rhs; rw [← List.take_append_drop k ps, List.flatten_append, List.length_append]
    omega
  have f0 : fL ps 0 = 0 := rfl
  go_enter Try.func25, Try.ntmps25
  go_wp2
  go_loop [3, 11] (fun x i => ∃ k : Nat, k ≤ n ∧ i = .int .i64 k ∧ x = .int .i64 ((fL ps k : Nat) : Int)) (fun _ i => n - (intOf i).toNat)
  case atStart => exact ⟨0, by omega, rfl, rfl⟩
  case round =>
    obtain ⟨k, hk, rfl, rfl⟩ := hrel
    by_cases hlt : k < n
    · obtain ⟨b, off, rfl, hcell⟩ := hc (by omega)
      obtain ⟨a', len, cap', hck, hm', hbs⟩ := hcell k hlt
      have hle : fL ps (k + 1) = fL ps k + len := by unfold fL; rw [flat_snoc ps k (by omega), List.length_append, hbs.1]
      have hle2 := hmono (k + 1)
      have HS := hide1 hle
      clear hc hcell hmono
      go_wp2
      refine ⟨⟨k + 1, by omega, by go_num, val_int ?_⟩, by simp [intOf]; omega⟩
      rw [HS.out]; omega
    · obtain rfl : k = n := by omega
      clear hlt
      go_wp2_with fail
      refine (grow_nil _ h0 hm _).mono ?_
      rintro e w1 ⟨cap1, rfl, hcap1, hown1, hb1⟩
      go_wp2_with fail
      go_loopw [6, 27] (fun x i wr => ∃ j : Nat, j ≤ k ∧ i = .int .i64 j ∧ wr.ownsRow w.heap.size 5 1 x (fL ps j) (byteVals (ps.take j).flatten) ∧ Below w.heap.size w wr) (fun _ i _ => k - (intOf i).toNat)
      case atStart => exact ⟨0, by omega, rfl, hown1, hb1⟩
      case round =>
        obtain ⟨j, hj, rfl, hown, hbw⟩ := hrel
        by_cases hjk : j < k
        · obtain ⟨b, off, rfl, hcell⟩ := hc (by omega)
          obtain ⟨a', len, cap', hck, hm', hbs⟩ := hcell j hjk
          have hle : fL ps (j + 1) = fL ps j + len := by unfold fL; rw [flat_snoc ps j (by omega), List.length_append, hbs.1]
          have hfs : byteVals (ps.take (j + 1)).flatten = byteVals (ps.take j).flatten ++ byteVals (ps.getD j []) := by rw [flat_snoc ps j (by omega)]; simp [byteVals]
          have hle2 := hmono (j + 1)
          have HS := hide1 hle
          have HT := hide1 hfs
          have hck' := cell_later hbw hck
          have hbs' := hbs.later hbw
          clear hc hcell hmono hfs hck hbs
          go_wp2_with (at_builtin; refine wpList_append_bs rfl (.tmp 31) (.tmp 32) rfl w.heap.size _ _ _ rfl hown _ len cap' _ rfl hbs' (by omega) hbw.size ?_; intro v2 w2 hown2 hg2; have hb2 := hbw.grown hg2 hbw.size (fun k e => (hown.lt k e).1))
          go_roundw
          case rel => exact ⟨j + 1, by omega, by go_num, by rw [HS.out, HT.out]; exact hown2, hb2⟩
          case measure => simp [intOf]; omega
        · obtain rfl : j = k := by omega
          go_wp2
          go_ret
          rw [List.take_of_length_le (by omega)] at hown
          exact ⟨_, rfl, hown, hbw⟩
theorem parts_new3 (w : World) {a1 a2 a3 : Option Addr} {l1 c1 l2 c2 l3 c3 : Nat} {z1 z2 z3 : List Int} (k1 : Bs w a1 l1 z1) (m1 : l1 ≤ maxLen) (k2 : Bs w a2 l2 z2) (m2 : l2 ≤ maxLen) (k3 : Bs w a3 l3 z3) (m3 : l3 ≤ maxLen) :
    Parts (w.alloc (.cells #[.slice a1 l1 c1, .slice a2 l2 c2, .slice a3 l3 c3] 22)) (some ⟨w.heap.size, 0, none⟩) 3 [z1, z2, z3] := by
  refine ⟨rfl, fun _ => ⟨_, _, rfl, fun i hi => ?_⟩⟩
  rcases (show i = 0 ∨ i = 1 ∨ i = 2 by omega) with rfl | rfl | rfl
  · exact ⟨a1, l1, c1, by rw [World.cell?_alloc_mark]; rfl, m1, k1.later (below_one _ _)⟩
  · exact ⟨a2, l2, c2, by rw [World.cell?_alloc_mark]; rfl, m2, k2.later (below_one _ _)⟩
  · exact ⟨a3, l3, c3, by rw [World.cell?_alloc_mark]; rfl, m3, k3.later (below_one _ _)⟩
theorem owns_weak {w : World} {base base' : Nat} {e : TypeId} {size : Nat} {v : Value} {n : Nat} {xs : List Value} (h : w.ownsRow base' e size v n xs) (hb : base ≤ base') : w.ownsRow base e size v n xs := by
  obtain ⟨h1, h2⟩ := h
  refine ⟨h1, ?_⟩
  rcases h2 with h2 | ⟨g, cap, cur, e1, h3, h4⟩
  · exact .inl h2
  · exact .inr ⟨g, cap, cur, e1, Nat.le_trans hb h3, h4⟩
theorem flat3 (x y z : List Int) : [x, y, z].flatten = x ++ y ++ z := by simp

set_option maxHeartbeats 800000 in
theorem put_no (a : Option Addr) (len cap : Nat) (w : World) (h : 65536 < len) :
    Calls Try.prog 10 #[.slice a len cap] w fun e w' => e = .returned (.tuple #[.slice none 0 0, .iface 33 (.int .i64 10)]) ∧ w' = w := by
  go_enter Try.func10, Try.ntmps10
  go_wp2
  go_ret2
  exact ⟨rfl, rfl⟩

set_option maxHeartbeats 800000 in
theorem put_d (a : Option Addr) (len cap : Nat) (zs : List Int) (w : World) (hb : Bs w a len zs) (h : len ≤ 65536) :
    Calls Try.prog 10 #[.slice a len cap] w fun e w' => ∃ v, e = .returned (.tuple #[v, .nilIface]) ∧ w'.ownsRow w.heap.size 5 1 v (8 + len) (byteVals (put zs)) ∧ Below w.heap.size w w' := by
  have el := hb.1
  go_enter Try.func10, Try.ntmps10
  go_wp2_with fail
  refine (bytes_any len (by omega) _).mono ?_
  rintro e w1 ⟨rfl, hs1, hb1⟩
  go_wp2_with fail
  refine (of_any _ 2 2 [bytesOf len, zs] _ (parts_new2 w1 hs1 (by unfold maxLen; omega) (hb.later hb1) (by unfold maxLen; omega)) (by unfold maxLen; omega)).mono ?_
  rintro e w2 ⟨rfl, hb2⟩
  rw [flat2]
  have hb2' := bl2 (below_one w1 _) hb2
  have hs2 := hs1.later hb2'
  have hb3 := bl2 hb1 hb2'
  clear hs1 hb1 hb2 hb2'
  go_wp2_with fail
  refine (bytes_any _ (crcSum_lt _) _).mono ?_
  rintro e w3 ⟨rfl, hs3, hb4⟩
  have hb5 := bl2 hb3 hb4
  have hs2' := hs2.later hb4
  clear hs2 hb4
  go_wp2_with fail
  refine (concat_d _ 3 3 [bytesOf len, bytesOf (crcSum (bytesOf len ++ zs)), zs] _ (parts_new3 w3 hs2' (by unfold maxLen; omega) hs3 (by unfold maxLen; omega) (hb.later hb5) (by unfold maxLen; omega)) (by unfold maxLen; omega) (by rw [flat3]; simp [bytesOf_length]; omega) (by rw [flat3]; simp [bytesOf_length]; omega)).mono ?_
  rintro e w4 ⟨v, rfl, hown, hb6⟩
  rw [flat3, show bytesOf len ++ bytesOf (crcSum (bytesOf len ++ zs)) ++ zs = put zs by unfold put; rw [el], put_length, el] at hown
  have hb7 := bl2 hb5 (bl2 (below_one w3 _) hb6)
  have hsz : w.heap.size ≤ (w3.alloc (.cells #[.slice (some ⟨w.heap.size, 0, none⟩) 4 4, .slice (some ⟨w2.heap.size, 0, none⟩) 4 4, .slice a len cap] 22)).heap.size := by have := hb5.size; simp; omega
  have hown' := owns_weak hown hsz
  clear hown hb6
  go_wp2_with fail
  go_ret2
  exact ⟨_, rfl, hown', hb7⟩
end Go.Proofs.Ytfmjknknckjdiaa

namespace Go.Proofs.Ytfmjknknckjdiaa
open Go.RowKit

/-- An append of bytes onto a row of the call's own leaves what the row had: the elder slice reads on. -/
theorem run_append_keep (w : World) (base ty g n cap : Nat) (xs : List Value) (hown : w.ownsRow base 5 1 (.slice (some ⟨g, 0, none⟩) n cap) n xs) (ad : Addr) (m c : Nat) (zs : List Int) (hb : Bs w (some ad) m zs)
    (hbytes : n + m ≤ 140737488355328) (hbase : base ≤ w.heap.size) :
    ∃ v' w', (Builtin.append_ #[22, 22] ty #[.slice (some ⟨g, 0, none⟩) n cap, .slice (some ad) m c]).run Try.prog w = .ok v' w' ∧ w'.ownsRow base 5 1 v' (n + m) (xs ++ byteVals zs) ∧ w.grownBy w' (some g) ∧ ∀ j, j < n → w'.cell? ⟨g, j, none⟩ = w.cell? ⟨g, j, none⟩ := by
  obtain ⟨v', w', hr, h1, h2⟩ := run_append_bs w base ty _ n xs hown (some ad) m c zs hb hbytes hbase
  refine ⟨v', w', hr, h1, h2, fun j hj => ?_⟩
  obtain ⟨i0, hi, hz0, hz1, hz2⟩ := info_parts info5
  have hl : xs.length = n := by have := hown.1; omega
  have hnews : ∀ j u, (byteVals zs)[j]? = some u → w.cell? (ad.add j) = some u := by
    intro j u hj
    have hjl : j < zs.length := by
      rcases Nat.lt_or_ge j zs.length with h | h
      · exact h
      · rw [List.getElem?_eq_none (by simpa [byteVals] using h)] at hj; cases hj
    obtain ⟨b, off, e, hc⟩ := hb.2.2 (by have := hb.1; omega)
    cases e
    have := hc j (by have := hb.1; omega)
    rw [Addr.add_lit, this]
    simp [byteVals, hjl] at hj
    simp [hjl, hj]
  by_cases hroom : n + m ≤ cap
  · obtain ⟨w2, hr2, _, _⟩ := run_append_own_spare (P := Try.prog) w base 22 ty 5 i0 1 Try.underlying22 hi hz1 g n cap xs hown ad m c (byteVals zs) (by simp [byteVals, hb.1]) hnews
      (by intro u hu; simp [byteVals] at hu; obtain ⟨z, _, rfl⟩ := hu; rfl) hroom
    rw [hr] at hr2
    cases hr2
    rw [h1.cellAt j (by omega), hown.cellAt j (by omega), List.getElem?_append_left (by omega)]
  · have hr2 := run_append_grow (P := Try.prog) w 22 ty 5 i0 (.int .u8 0) Try.underlying22 hi hz0 ⟨g, 0, none⟩ n cap xs (by rw [hz1]; omega) (hown.cells rfl) ad m c (byteVals zs) (by rw [hz1]; simp [byteVals, hb.1]) hnews (by omega) (by omega) (growslice_fits (by omega) (by rw [hz2]; omega))
    rw [hr] at hr2
    cases hr2
    have hlt := (hown.lt g rfl).2
    exact World.cell?_of_block (Below.heap_alloc w.drew _ g hlt)

theorem wpList_append_keep {w : World} {ops : Array Oper} {rest : List Oper} {o : Oper} {a : Act} {Q : Exit → Act → World → Prop} (hgd : Region.wanted o (yielded ops a.tmps) = true) (s x : Operand)
    (ho : o.op = .call { callee := .builtin .append, args := #[s, x], argTypes := #[22, 22] }) (base g n cap : Nat) (xs : List Value) (hs : a.eval s = .slice (some ⟨g, 0, none⟩) n cap) (hown : w.ownsRow base 5 1 (.slice (some ⟨g, 0, none⟩) n cap) n xs) (ad : Addr) (m c : Nat) (zs : List Int) (hx : a.eval x = .slice (some ad) m c) (hb : Bs w (some ad) m zs)
    (hbytes : n + m ≤ 140737488355328) (hbase : base ≤ w.heap.size)
    (h : ∀ v' w', w'.ownsRow base 5 1 v' (n + m) (xs ++ byteVals zs) → w.grownBy w' (some g) → (∀ j, j < n → w'.cell? ⟨g, j, none⟩ = w.cell? ⟨g, j, none⟩) → wpList Try.prog ops Q rest (a.put o.dst v') w') : wpList Try.prog ops Q (o :: rest) a w := by
  refine wpList_step fun K hK => ?_
  rw [if_pos hgd]
  obtain ⟨v', w', hr, h2, h3, h4⟩ := run_append_keep w base o.type g n cap xs hown ad m c zs hb hbytes hbase
  unfold Oper.wp execOp
  simp only [ho, resolve, invoke, builtin, Sem.run_bind, Sem.run_pure, Result.andThen_ok, List.map_toArray, List.map_cons, List.map_nil, hs, hx, hr]
  exact hK _ _ (h v' w' h2 h3 h4)

theorem babc : IsB [97, 98, 99] := show ∀ z ∈ [(97 : Int), 98, 99], 0 ≤ z ∧ z < 256 by decide
theorem owned_cap {w : World} {base : Nat} {e : TypeId} {size : Nat} {a : Option Addr} {n l cap : Nat} {xs : List Value} (h : w.ownsRow base e size (.slice a l cap) n xs) : cap ≤ 9223372036854775807 := by
  rcases h.2 with ⟨h1, _⟩ | ⟨g, c, cur, h1, _, _, _, h2, _⟩
  · cases h1; omega
  · cases h1; unfold maxLen at h2; omega
theorem stopAt {p : Prop} (h : Hid p) : p := h.out
theorem endOf_put (ps : List (List Int)) (hps : ∀ p ∈ ps, p.length ≤ 65536) (t : List Int) (ht : rec1 t = none) : endOf 0 (recs (puts ps ++ t)) = szs ps := by
  rw [recs_puts ps hps t ht, endOf_offs, Nat.zero_add]
theorem count_put (ps : List (List Int)) (hps : ∀ p ∈ ps, p.length ≤ 65536) (t : List Int) (ht : rec1 t = none) : (recs (puts ps ++ t)).length = ps.length := by
  rw [recs_puts ps hps t ht, offs_length]
theorem put_zero (p : List Int) : (byteVals (put p))[0]? = some (.int .u8 ((p.length % 256 : Nat) : Int)) := rfl

set_option maxHeartbeats 800000 in
theorem alive_d (w : World) : Calls Try.prog 8 #[] w fun e w' => e = .returned (.bool true) ∧ Below w.heap.size w w' := by
  have kc := fun (w : World) (C : Array Value) (n c : Nat) => Lib.run_convert_bytes_const (P := Try.prog) w 22 5 C n c Try.underlying22 Try.underlying5
  have hn : Bs (w.alloc (.cells #[.int .u8 97, .int .u8 98, .int .u8 99] 5 (3, 4))) (some ⟨w.heap.size, 0, none⟩) 3 [97, 98, 99] := bs_new w [97, 98, 99] (3, 4) (by decide)
  go_enter Try.func8, Try.ntmps8
  go_wp2_with fail
  refine (put_d _ 3 3 [97, 98, 99] _ hn (by omega)).mono ?_
  rintro e w1 ⟨v, rfl, hown, hb1⟩
  have hb1' := bl2 (below_one w _) hb1
  have hlen : (8 + 3 : Nat) = 10 + 1 := rfl
  rw [hlen] at hown
  obtain ⟨g, cap, rfl⟩ := ownsRow_succ hown
  have hc0 := hown.cellAt 0 (by omega)
  rw [put_zero] at hc0
  have hc0' := cell_alloc_l (.cells #[.int .u8 1] 5) hc0
  have hown := owns_weak (base := w.heap.size) hown (by simp)
  go_wp2_with (at_builtin; refine stopAt ?_)
  refine hide1 ?_
  refine wpList_append_keep rfl (.tmp 23) (.tmp 24) rfl w.heap.size _ _ _ _ rfl (hown.alloc _) _ 1 1 [1] rfl (bs_one _ _ (by decide)) (by omega) (by have := hb1'.size; simp; omega) ?_
  intro v2 w2 hown2 hg2 hkeep
  have hb2 : Below w.heap.size w w2 := (hb1'.alloc (by have := hb1'.size; omega) _).grown hg2 (by have := hb1'.size; simp; omega) (fun k e => by cases e; exact (hown.lt _ rfl).1)
  have hbs1 := bs_owned (hown.alloc (.cells #[.int .u8 1] 5)) (put_bytes babc)
  have hcap := owned_cap hown
  obtain ⟨_, _, e1, hbs1, hle1, _⟩ := hbs1
  cases e1
  have hbs1' : Bs w2 (some ⟨g, 0, none⟩) 11 (put [97, 98, 99]) := by
    obtain ⟨q1, q2, q3⟩ := hbs1
    refine ⟨q1, q2, fun hp => ?_⟩
    obtain ⟨b', off', e, hc⟩ := q3 hp
    cases e
    exact ⟨_, _, rfl, fun i hi => by rw [Nat.zero_add, hkeep i hi, ← hc i hi, Nat.zero_add]⟩
  have e12 : byteVals (put [97, 98, 99]) ++ byteVals [1] = byteVals (put [97, 98, 99] ++ [1]) := by simp [byteVals]
  rw [e12] at hown2
  obtain ⟨a2, cap2, rfl, hbs2, hle2, _⟩ := bs_owned hown2 ((put_bytes babc).app (show ∀ z ∈ [(1 : Int)], 0 ≤ z ∧ z < 256 by decide))
  have hwh : endOf 0 (recs (put [97, 98, 99] ++ [1])) = 11 := endOf_put [[97, 98, 99]] (by simp) [1] rfl
  have hct : (recs (put [97, 98, 99])).length = 1 := by have := count_put [[97, 98, 99]] (by simp) [] rfl; rwa [List.append_nil] at this
  have hm2 := owned_cap hown2
  go_wp2_with fail
  refine (whole_d _ _ _ _ _ hbs2 hle2 hm2).mono ?_
  rintro e w3 ⟨rfl, hb3⟩
  rw [hwh]
  go_wp2_with fail
  refine (count_d _ _ _ _ _ (hbs1'.later hb3) hle1 hcap).mono ?_
  rintro e w4 ⟨rfl, hb4⟩
  rw [hct]
  go_wp2_with fail
  go_ret
  exact ⟨rfl, bl2 hb2 (bl2 hb3 hb4)⟩
end Go.Proofs.Ytfmjknknckjdiaa

namespace Go.Proofs.Ytfmjknknckjdiaa
open Go.RowKit

theorem byteVals_app (x y : List Int) : byteVals x ++ byteVals y = byteVals (x ++ y) := by simp [byteVals]
theorem puts_snoc (ps : List (List Int)) (k : Nat) (h : k < ps.length) : puts (ps.take (k + 1)) = puts (ps.take k) ++ put (ps.getD k []) := by
  rw [List.take_succ_eq_append_getElem h, puts_app]
  simp [puts, List.getD_eq_getElem?_getD, h]
theorem szs_snoc (ps : List (List Int)) (k : Nat) (h : k < ps.length) : szs (ps.take (k + 1)) = szs (ps.take k) + (8 + (ps.getD k []).length) := by
  rw [← puts_length, puts_snoc ps k h, List.length_append, puts_length, put_length]
theorem puts_bytes {ps : List (List Int)} (h : ∀ p ∈ ps, IsB p) : IsB (puts ps) := by
  induction ps with
  | nil => exact IsB.nil
  | cons p ps ih => rw [puts_cons]; exact (put_bytes (h p (by simp))).app (ih fun q hq => h q (by simp [hq]))
theorem parts_is {w : World} {a : Option Addr} {n : Nat} {ps : List (List Int)} (h : Parts w a n ps) : ∀ p ∈ ps, IsB p := by
  intro p hp
  obtain ⟨i, hi, rfl⟩ := List.mem_iff_getElem.1 hp
  obtain ⟨b, off, _, hcell⟩ := h.2 (by have := h.1; omega)
  obtain ⟨_, _, _, _, _, hbs⟩ := hcell i (by have := h.1; omega)
  have := hbs.2.1
  unfold IsB
  simpa [List.getD_eq_getElem?_getD, hi] using this

theorem Bs.pre {w : World} {a : Option Addr} {len : Nat} {zs : List Int} (h : Bs w a len zs) (n : Nat) (hn : n ≤ len) : Bs w a n (zs.take n) := by
  obtain ⟨h1, h2, h3⟩ := h
  refine ⟨by simp; omega, IsB.take h2 n, fun hp => ?_⟩
  obtain ⟨b, off, e, hc⟩ := h3 (by omega)
  refine ⟨b, off, e, fun i hi => ?_⟩
  rw [hc i (by omega)]
  simp [hi]

/-- What the first records have come to: at most so long. -/
def Row (w : World) (ps : List (List Int)) (k : Nat) (x : Value) (wr : World) : Prop :=
  wr.ownsRow w.heap.size 5 1 x (szs (ps.take k)) (byteVals (puts (ps.take k))) ∧ Below w.heap.size w wr ∧ szs (ps.take k) ≤ 308 * k ∧ ∀ p ∈ ps.take k, p.length ≤ 300

theorem row_next {w wr w1 w2 : World} {ps : List (List Int)} {k : Nat} {x v2 : Value} (hk : k < ps.length) (h : Row w ps k x wr) (hb1 : Below wr.heap.size wr w1) (hp : (ps.getD k []).length ≤ 300)
    (hown2 : w2.ownsRow w.heap.size 5 1 v2 (szs (ps.take k) + (8 + (ps.getD k []).length)) (byteVals (puts (ps.take k)) ++ byteVals (put (ps.getD k [])))) (hg : w1.grownBy w2 x.ownBlock) : Row w ps (k + 1) v2 w2 := by
  obtain ⟨h1, h2, h3, h4⟩ := h
  refine ⟨?_, ?_, ?_, ?_⟩
  · rw [szs_snoc ps k hk, puts_snoc ps k hk, ← byteVals_app]; exact hown2
  · have h5 := bl2 h2 hb1
    exact h5.grown hg h5.size (fun j e => (h1.lt j e).1)
  · rw [szs_snoc ps k hk]; omega
  · intro p hp'
    rw [List.take_succ_eq_append_getElem hk] at hp'
    rcases List.mem_append.1 hp' with h | h
    · exact h4 p h
    · simp at h; subst h; simpa [List.getD_eq_getElem?_getD, hk] using hp

theorem owns_later {w w' : World} {base : Nat} {v : Value} {n : Nat} {xs : List Value} (h : w.ownsRow base 5 1 v n xs) (hb : Below w.heap.size w w') : w'.ownsRow base 5 1 v n xs :=
  h.kept (grown_of hb) (by cases v.ownBlock with | none => exact .inl rfl | some k => exact .inr (by simp))

set_option maxRecDepth 100000 in
set_option maxHeartbeats 2000000 in
theorem joins_walk (a : Option Addr) (n cap : Nat) (ps : List (List Int)) (ab : Option Addr) (lb cb : Nat) (zb : List Int) (w : World) (hp : Parts w a n ps) (hn : n ≤ maxLen) (hb : Bs w ab lb zb) (hlc : lb ≤ cb) (hcm : cb ≤ 9223372036854775807) :
    Calls Try.prog 7 #[.slice a n cap, .slice ab lb cb] w fun e w' => e = .returned (.bool true) ∧ Below w.heap.size w w' := by
  unfold maxLen at hn
  go_enter Try.func7, Try.ntmps7
  go_wp2_with fail
  refine (alive_d _).mono ?_
  rintro e w1 ⟨rfl, hb1⟩
  by_cases hl : 2000 < lb
  · go_wp2_with fail
    go_ret
    exact ⟨rfl, hb1⟩
  · have hp1 := hp.later hb1
    have hbb1 := hb.later hb1
    have hown0 := owns_weak (base := w.heap.size) (ownsRow_empty w1 w1.heap.size (Nat.le_refl _)) hb1.size
    have hb2 : Below w.heap.size w (w1.alloc (.cells #[] 5)) := hb1.alloc hb1.size _
    go_wp2_with fail
    go_loopw [5, 20] (fun x i wr => ∃ k : Nat, k ≤ n ∧ k ≤ 11 ∧ i = .int .i64 k ∧ Row w ps k x wr) (fun _ i _ => n - (intOf i).toNat)
    case atStart => exact ⟨0, by omega, by omega, rfl, hown0, hb2, Nat.zero_le _, by simp⟩
    case round =>
      obtain ⟨k, hk, hk11, rfl, hrow⟩ := hrel
      by_cases hlt : k < n
      · obtain ⟨b, off, rfl, hcell⟩ := hp.2 (by omega)
        obtain ⟨a', len, cap', hck, hm', hbs⟩ := hcell k hlt
        have hck' := cell_later hrow.2.1 hck
        have hbs' := hbs.later hrow.2.1
        clear hcell hck hbs
        by_cases h10 : 10 < k
        · go_wp2
          go_ret
          exact ⟨rfl, hrow.2.1⟩
        · by_cases h300 : 300 < len
          · go_wp2
            go_ret
            exact ⟨rfl, hrow.2.1⟩
          · go_wp2_with fail
            refine (put_d _ len cap' _ _ hbs' (by omega)).mono ?_
            rintro e w2 ⟨v, rfl, hown, hb3⟩
            have el := hbs'.1
            obtain ⟨a2, cap2, rfl, hbs2, hle2, _⟩ := bs_owned hown (put_bytes hbs'.2.1)
            have hsz : szs (ps.take k) + (8 + len) ≤ 140737488355328 := by have := hrow.2.2.1; omega
            have hbz := (bl2 hrow.2.1 hb3).size
            have hnx := @row_next w wr w2
            go_wp2_with (at_builtin; refine wpList_append_bs rfl (.tmp 39) (.tmp 40) rfl w.heap.size _ _ _ rfl (owns_later hrow.1 hb3) _ _ _ _ rfl hbs2 hsz hbz ?_; intro v3 w3 hown3 hg3)
            go_roundw
            case rel => exact ⟨k + 1, by omega, by omega, by go_num, row_next (by have := hp.1; omega) hrow hb3 (by omega) (by rw [el]; exact hown3) hg3⟩
            case measure => simp [intOf]; omega
      · obtain rfl : k = n := by omega
        have hpl := hp.1
        unfold Row at hrow
        rw [List.take_of_length_le (by omega)] at hrow
        obtain ⟨hown, hbw, hsz, hps⟩ := hrow
        obtain ⟨a5, c5, rfl, hbs5, hle5, _⟩ := bs_owned hown (puts_bytes (parts_is hp))
        have hown6 := owns_weak (base := w.heap.size) (ownsRow_empty wr wr.heap.size (Nat.le_refl _)) hbw.size
        have hbe := below_one wr (.cells #[] 5)
        have hbs5' := hbs5.later hbe
        go_wp2_with (at_builtin; refine stopAt ?_)
        refine hide1 ?_
        refine wpList_append_bs rfl (.tmp 43) (.tmp 44) rfl w.heap.size _ _ _ rfl hown6 _ _ _ _ rfl hbs5' (by omega) (bl2 hbw hbe).size ?_
        intro v7 w7 hown7 hg7
        have hb7 : Below w.heap.size w w7 := (bl2 hbw hbe).grown hg7 (bl2 hbw hbe).size (fun j e => (hown6.lt j e).1)
        clear hown6 hg7 hbs5' hbe
        go_wp2_with (at_builtin; refine wpList_append_bs rfl (.tmp 45) (.tmp 46) rfl w.heap.size _ _ _ rfl hown7 _ _ _ _ rfl (hb.later hb7) (by omega) hb7.size ?_; intro v8 w8 hown8 hg8; have hb8 := hb7.grown hg8 hb7.size (fun j e => (hown7.lt j e).1); refine stopAt ?_)
        refine hide1 ?_
        rw [Nat.zero_add, List.nil_append, byteVals_app] at hown8
        obtain ⟨qs, t, ez, ht, hqs, hbt⟩ := parse _ zb (Nat.le_refl _) hb.2.1
        have hpq : ∀ p ∈ ps ++ qs, p.length ≤ 65536 := by
          intro p h
          rcases List.mem_append.1 h with h | h
          · have := hps p h; omega
          · exact (hqs p h).1
        have e0 : puts ps ++ zb = puts (ps ++ qs) ++ t := by rw [ez, puts_app, List.append_assoc]
        have f1 : endOf 0 (recs (puts ps ++ zb)) = szs ps + szs qs := by rw [e0, endOf_put _ hpq t ht, szs_app]
        have f2 : endOf 0 (recs zb) = szs qs := by rw [ez]; exact endOf_put qs (fun p h => (hqs p h).1) t ht
        have f3 : (recs (puts ps ++ zb)).length = ps.length + qs.length := by rw [e0, count_put _ hpq t ht, List.length_append]
        have f4 : (recs zb).length = qs.length := by rw [ez]; exact count_put qs (fun p h => (hqs p h).1) t ht
        have f5 : (puts ps ++ zb).take (szs ps + szs qs) = puts (ps ++ qs) := by rw [e0, List.take_left' (by rw [puts_length, szs_app])]
        have f6 : endOf 0 (recs (puts (ps ++ qs))) = szs ps + szs qs := by
          have := endOf_put (ps ++ qs) hpq [] rfl
          rwa [List.append_nil, szs_app] at this
        have f7 : (recs (puts (ps ++ qs))).length = ps.length + qs.length := by
          have := count_put (ps ++ qs) hpq [] rfl
          rwa [List.append_nil, List.length_append] at this
        have hqb : szs qs ≤ lb := by rw [← hb.1, ez, List.length_append, puts_length]; omega
        have hqc := szs_ge qs
        obtain ⟨a8, c8, rfl, hbs8, hle8, _⟩ := bs_owned hown8 ((puts_bytes (parts_is hp)).app hb.2.1)
        have hc8 := owned_cap hown8
        have hbs9 := hbs8.pre (szs ps + szs qs) (by omega)
        rw [f5] at hbs9
        have F1 := hide1 f1; have F2 := hide1 f2; have F3 := hide1 f3; have F4 := hide1 f4; have F6 := hide1 f6; have F7 := hide1 f7
        clear f1 f2 f3 f4 f5 f6 f7 ez e0 hown8 hown7 hg8 hown hb7 hpq hps hqs
        generalize szs ps = A at *
        generalize szs qs = B at *
        generalize qs.length = C at *
        go_wp2_with fail
        refine (whole_d _ _ _ _ _ hbs8 hle8 hc8).mono ?_
        rintro e w9 ⟨rfl, hb9⟩
        rw [F1.out]
        have hbs8' := hbs8.later hb9
        have hbs9' := hbs9.later hb9
        have hbb9 := bl2 hb8 hb9
        clear hbs8 hbs9 hb9 hb8
        go_wp2_with fail
        refine (whole_d _ _ _ _ _ (hb.later hbb9) hlc hcm).mono ?_
        rintro e w10 ⟨rfl, hb10⟩
        rw [F2.out]
        replace hbb9 := bl2 hbb9 hb10
        replace hbs8' := hbs8'.later hb10
        replace hbs9' := hbs9'.later hb10
        clear hb10
        go_wp2_with fail
        refine (count_d _ _ _ _ _ hbs8' hle8 hc8).mono ?_
        rintro e w11 ⟨rfl, hb10⟩
        rw [F3.out]
        replace hbb9 := bl2 hbb9 hb10
        replace hbs8' := hbs8'.later hb10
        replace hbs9' := hbs9'.later hb10
        clear hb10
        go_wp2_with fail
        refine (count_d _ _ _ _ _ (hb.later hbb9) hlc hcm).mono ?_
        rintro e w12 ⟨rfl, hb10⟩
        rw [F4.out]
        replace hbb9 := bl2 hbb9 hb10
        replace hbs8' := hbs8'.later hb10
        replace hbs9' := hbs9'.later hb10
        clear hb10
        go_wp2_with fail
        refine (whole_d _ _ _ _ _ hbs9' (by omega) hc8).mono ?_
        rintro e w13 ⟨rfl, hb10⟩
        rw [F6.out]
        replace hbb9 := bl2 hbb9 hb10
        replace hbs8' := hbs8'.later hb10
        replace hbs9' := hbs9'.later hb10
        clear hb10
        go_wp2_with fail
        refine (count_d _ _ _ _ _ hbs9' (by omega) hc8).mono ?_
        rintro e w14 ⟨rfl, hb10⟩
        rw [F7.out]
        replace hbb9 := bl2 hbb9 hb10
        replace hbs8' := hbs8'.later hb10
        clear hb10
        go_wp2_with fail
        refine (count_d _ _ _ _ _ hbs8' hle8 hc8).mono ?_
        rintro e w15 ⟨rfl, hb10⟩
        rw [F3.out]
        replace hbb9 := bl2 hbb9 hb10
        clear hb10
        go_wp2_with fail
        go_ret
        exact ⟨rfl, hbb9⟩
end Go.Proofs.Ytfmjknknckjdiaa

namespace Go.Proofs.Ytfmjknknckjdiaa
open Go.RowKit

set_option maxHeartbeats 800000 in
theorem refPut_no (a : Option Addr) (len cap : Nat) (w : World) (h : 65536 < len) :
    Calls Try.prog 11 #[.slice a len cap] w fun e w' => e = .returned (.tuple #[.slice none 0 0, .bool false]) ∧ w' = w := by
  go_enter Try.func11, Try.ntmps11
  go_wp2
  go_ret2
  exact ⟨rfl, rfl⟩

set_option maxHeartbeats 800000 in
theorem refPut_d (a : Option Addr) (len cap : Nat) (zs : List Int) (w : World) (hb : Bs w a len zs) (h : len ≤ 65536) :
    Calls Try.prog 11 #[.slice a len cap] w fun e w' => ∃ v, e = .returned (.tuple #[v, .bool true]) ∧ w'.ownsRow w.heap.size 5 1 v (8 + len) (byteVals (put zs)) ∧ Below w.heap.size w w' := by
  have el := hb.1
  go_enter Try.func11, Try.ntmps11
  go_wp2_with fail
  refine (refBytes_own len (by omega) _).mono ?_
  rintro e w1 ⟨v1, rfl, hown1, hb1⟩
  obtain ⟨a1, c1, rfl, hbs1, hle1, _⟩ := bs_owned hown1 (bytesOf_bytes _)
  have hown0 := ownsRow_empty w1 w1.heap.size (Nat.le_refl _)
  have hbe := below_one w1 (.cells #[] 5)
  have hbs1' := hbs1.later hbe
  go_wp2_with (at_builtin; refine stopAt ?_)
  refine hide1 ?_
  refine wpList_append_bs rfl (.tmp 13) (.tmp 14) rfl w1.heap.size _ _ _ rfl hown0 _ _ _ _ rfl hbs1' (by omega) hbe.size ?_
  intro v2 w2 hown2 hg2
  have hb2 : Below w1.heap.size w1 w2 := hbe.grown hg2 hbe.size (fun j e => (hown0.lt j e).1)
  clear hown0 hbe hbs1' hg2
  go_wp2_with (at_builtin; refine wpList_append_bs rfl (.tmp 15) (.tmp 16) rfl w1.heap.size _ _ _ rfl hown2 _ _ _ _ rfl (hb.later (bl2 hb1 hb2)) (by omega) hb2.size ?_; intro v3 w3 hown3 hg3; have hb3 := hb2.grown hg3 hb2.size (fun j e => (hown2.lt j e).1); refine stopAt ?_)
  refine hide1 ?_
  rw [List.nil_append, byteVals_app] at hown3
  obtain ⟨a3, c3, rfl, hbs3, hle3, _⟩ := bs_owned hown3 (IsB.app (bytesOf_bytes _) hb.2.1)
  clear hown2 hg3 hown3 hb2
  go_wp2_with fail
  refine (refOf_any _ _ _ _ _ hbs3 (by omega)).mono ?_
  rintro e w4 ⟨rfl, rfl⟩
  have hown1' := owns_later hown1 hb3
  have hbw := bl2 hb1 hb3
  clear hown1 hbs1 hbs3 hb3 hb1
  go_wp2_with fail
  refine (refBytes_own _ (crcSum_lt _) _).mono ?_
  rintro e w5 ⟨v5, rfl, hown5, hb5⟩
  obtain ⟨a5, c5, rfl, hbs5, hle5, _⟩ := bs_owned hown5 (bytesOf_bytes _)
  have hown6 := owns_later hown1' hb5
  have hbw5 := bl2 hbw hb5
  clear hown1' hbw hb5 hown5
  go_wp2_with (at_builtin; refine stopAt ?_)
  refine hide1 ?_
  refine wpList_append_bs rfl (.tmp 19) (.tmp 21) rfl w.heap.size _ _ _ rfl hown6 _ _ _ _ rfl hbs5 (by omega) hbw5.size ?_
  intro v7 w7 hown7 hg7
  have hb7 := hbw5.grown hg7 hbw5.size (fun j e => (hown6.lt j e).1)
  clear hown6 hg7 hbs5 hbw5
  go_wp2_with (at_builtin; refine wpList_append_bs rfl (.tmp 22) (.tmp 23) rfl w.heap.size _ _ _ rfl hown7 _ _ _ _ rfl (hb.later hb7) (by omega) hb7.size ?_; intro v8 w8 hown8 hg8; have hb8 := hb7.grown hg8 hb7.size (fun j e => (hown7.lt j e).1); refine stopAt ?_)
  refine hide1 ?_
  rw [byteVals_app, byteVals_app, show bytesOf len ++ bytesOf (crcSum (bytesOf len ++ zs)) ++ zs = put zs by unfold put; rw [el], show 4 + 4 + len = 8 + len from rfl] at hown8
  go_wp2_with fail
  go_ret2
  exact ⟨_, rfl, hown8, hb8⟩
end Go.Proofs.Ytfmjknknckjdiaa

namespace Go.Proofs.Ytfmjknknckjdiaa

theorem xor_eq_zero {a b : Nat} (h : a ^^^ b = 0) : a = b := by
  have : a ^^^ b ^^^ b = b := by rw [h, Nat.zero_xor]
  rwa [Nat.xor_assoc, Nat.xor_self, Nat.xor_zero] at this

theorem stp_ne (r : Nat) (h : r < 4294967296) (hn : r ≠ 0) : stp r ≠ 0 := by
  unfold stp
  split
  · intro e
    have := xor_eq_zero e
    omega
  · omega

theorem stps_ne (k : Nat) : ∀ r, r < 4294967296 → r ≠ 0 → stps k r ≠ 0 := by
  induction k with
  | zero => intro r _ h; exact h
  | succ k ih => intro r h hn; exact ih _ (stp_lt r h) (stp_ne r h hn)

/-- What is put to the register ahead of a row comes out behind it, shifted. -/
theorem crcRun_put (l : List Int) : ∀ r d, crcRun (r ^^^ d) l = crcRun r l ^^^ stps (8 * l.length) d := by
  induction l with
  | nil => intro r d; rfl
  | cons c l ih =>
    intro r d
    have e : (r ^^^ d) ^^^ c.toNat = (r ^^^ c.toNat) ^^^ d := by rw [Nat.xor_assoc, Nat.xor_comm d, ← Nat.xor_assoc]
    show crcRun (stps 8 ((r ^^^ d) ^^^ c.toNat)) l = crcRun (stps 8 (r ^^^ c.toNat)) l ^^^ stps (8 * (l.length + 1)) d
    rw [e, stps_xor, ih, show 8 * (l.length + 1) = 8 + 8 * l.length from by omega, stps_add]

/-- Four bytes changed: the register behind them. -/
theorem crcRun_four (r c0 c1 c2 c3 v : Nat) (hv : v < 4294967296) :
    crcRun r [((c0 ^^^ (v % 256) : Nat) : Int), ((c1 ^^^ (v / 256 % 256) : Nat) : Int), ((c2 ^^^ (v / 65536 % 256) : Nat) : Int), ((c3 ^^^ (v / 16777216 % 256) : Nat) : Int)] =
    crcRun r [(c0 : Int), (c1 : Int), (c2 : Int), (c3 : Int)] ^^^ stps 32 v := by
  have step : ∀ x c b d : Nat, stps 8 ((x ^^^ d) ^^^ (c ^^^ b)) = stps 8 (x ^^^ c) ^^^ stps 8 (d ^^^ b) := by
    intro x c b d
    rw [← stps_xor]
    congr 1
    rw [Nat.xor_assoc, Nat.xor_assoc, ← Nat.xor_assoc d, Nat.xor_comm d, Nat.xor_assoc c]
  have hq : ∀ q, stps 8 (q % 256) = stps 8 q ^^^ q / 256 := by
    intro q
    have := stps_split 8 q
    rw [this, Nat.xor_comm, ← Nat.xor_assoc, Nat.xor_self, Nat.zero_xor]
  have s0 : stps 8 (r ^^^ (c0 ^^^ (v % 256))) = stps 8 (r ^^^ c0) ^^^ (stps 8 v ^^^ v / 256) := by
    have := step r c0 (v % 256) 0
    rw [Nat.xor_zero, Nat.zero_xor, hq] at this
    exact this
  have inner : ∀ d q, stps 8 ((d ^^^ q) ^^^ (q % 256)) = stps 8 d ^^^ q / 256 := by
    intro d q
    rw [stps_xor, stps_xor, hq, Nat.xor_assoc, ← Nat.xor_assoc (stps 8 q), Nat.xor_self, Nat.zero_xor]
  have s1 : ∀ x, stps 8 ((x ^^^ (stps 8 v ^^^ v / 256)) ^^^ (c1 ^^^ (v / 256 % 256))) = stps 8 (x ^^^ c1) ^^^ (stps 16 v ^^^ v / 65536) := by
    intro x
    rw [step, inner, show v / 256 / 256 = v / 65536 from by omega, show (16 : Nat) = 8 + 8 from rfl, stps_add]
  have s2 : ∀ x, stps 8 ((x ^^^ (stps 16 v ^^^ v / 65536)) ^^^ (c2 ^^^ (v / 65536 % 256))) = stps 8 (x ^^^ c2) ^^^ (stps 24 v ^^^ v / 16777216) := by
    intro x
    rw [step, inner, show v / 65536 / 256 = v / 16777216 from by omega, show (24 : Nat) = 16 + 8 from rfl, stps_add]
  have s3 : ∀ x, stps 8 ((x ^^^ (stps 24 v ^^^ v / 16777216)) ^^^ (c3 ^^^ (v / 16777216 % 256))) = stps 8 (x ^^^ c3) ^^^ stps 32 v := by
    intro x
    rw [step, inner, show v / 16777216 / 256 = 0 from by omega, Nat.xor_zero, show (32 : Nat) = 24 + 8 from rfl, stps_add]
  show stps 8 (stps 8 (stps 8 (stps 8 (r ^^^ (c0 ^^^ (v % 256))) ^^^ (c1 ^^^ (v / 256 % 256))) ^^^ (c2 ^^^ (v / 65536 % 256))) ^^^ (c3 ^^^ (v / 16777216 % 256))) =
    stps 8 (stps 8 (stps 8 (stps 8 (r ^^^ c0) ^^^ c1) ^^^ c2) ^^^ c3) ^^^ stps 32 v
  rw [s0, s1, s2, s3]

theorem crcRun_found (x y : List Int) (c0 c1 c2 c3 v : Nat) (hv : v < 4294967296) (hn : v ≠ 0) :
    crcRun 4294967295 (x ++ ([((c0 ^^^ (v % 256) : Nat) : Int), ((c1 ^^^ (v / 256 % 256) : Nat) : Int), ((c2 ^^^ (v / 65536 % 256) : Nat) : Int), ((c3 ^^^ (v / 16777216 % 256) : Nat) : Int)] ++ y)) ≠
    crcRun 4294967295 (x ++ ([(c0 : Int), (c1 : Int), (c2 : Int), (c3 : Int)] ++ y)) := by
  rw [crcRun_append, crcRun_append, crcRun_append, crcRun_append, crcRun_four _ _ _ _ _ _ hv, crcRun_put]
  intro e
  have h1 := stps_ne (8 * y.length) _ (stps_lt 32 v hv) (stps_ne 32 v hv hn)
  apply h1
  have h2 : ∀ a b : Nat, a ^^^ b = a → b = 0 := by
    intro a b h
    have : a ^^^ (a ^^^ b) = a ^^^ a := by rw [h]
    rwa [← Nat.xor_assoc, Nat.xor_self, Nat.zero_xor] at this
  exact h2 _ _ e

/-- Three rows, put together by exclusive or: the first so many places. -/
def xorRow (a b c : List Int) (k : Nat) : List Int := (List.range k).map fun i => (((a.getD i 0).toNat ^^^ (b.getD i 0).toNat ^^^ (c.getD i 0).toNat : Nat) : Int)

theorem xorRow_succ (a b c : List Int) (k : Nat) : xorRow a b c (k + 1) = xorRow a b c k ++ [(((a.getD k 0).toNat ^^^ (b.getD k 0).toNat ^^^ (c.getD k 0).toNat : Nat) : Int)] := by
  unfold xorRow; rw [List.range_succ, List.map_append]; rfl

theorem takeSnoc (l : List Int) (k : Nat) (h : k < l.length) : l.take (k + 1) = l.take k ++ [l.getD k 0] := by
  rw [List.take_succ_eq_append_getElem h]; simp [h]

theorem crcRun_linear (a b c : List Int) (k : Nat) (ha : k ≤ a.length) (hb : k ≤ b.length) (hc : k ≤ c.length) :
    crcRun 4294967295 (xorRow a b c k) = crcRun 4294967295 (a.take k) ^^^ crcRun 4294967295 (b.take k) ^^^ crcRun 4294967295 (c.take k) := by
  induction k with
  | zero => simp [xorRow, crcRun_nil]
  | succ k ih =>
    rw [xorRow_succ, takeSnoc a k (by omega), takeSnoc b k (by omega), takeSnoc c k (by omega), crcRun_snoc, crcRun_snoc, crcRun_snoc, crcRun_snoc, ih (by omega) (by omega) (by omega), Int.toNat_natCast]
    rw [← stps_xor, ← stps_xor]
    congr 1
    generalize crcRun 4294967295 (a.take k) = A
    generalize crcRun 4294967295 (b.take k) = B
    generalize crcRun 4294967295 (c.take k) = C
    generalize (a.getD k 0).toNat = x
    generalize (b.getD k 0).toNat = y
    generalize (c.getD k 0).toNat = z
    apply Nat.eq_of_testBit_eq
    intro i
    simp only [Nat.testBit_xor]
    cases A.testBit i <;> cases B.testBit i <;> cases C.testBit i <;> cases x.testBit i <;> cases y.testBit i <;> cases z.testBit i <;> rfl

theorem not_xor3 (a b c : Nat) (ha : a < 4294967296) (hb : b < 4294967296) (hc : c < 4294967296) :
    4294967295 - (a ^^^ b ^^^ c) = (4294967295 - a) ^^^ (4294967295 - b) ^^^ (4294967295 - c) := by
  have h := Nat.xor_lt_two_pow (n := 32) (Nat.xor_lt_two_pow (n := 32) ha hb) hc
  rw [← ones_xor a ha, ← ones_xor b hb, ← ones_xor c hc, ← ones_xor _ h]
  generalize 4294967295 = o
  apply Nat.eq_of_testBit_eq
  intro i
  simp only [Nat.testBit_xor]
  cases a.testBit i <;> cases b.testBit i <;> cases c.testBit i <;> cases o.testBit i <;> rfl

end Go.Proofs.Ytfmjknknckjdiaa

namespace Go.Proofs.Ytfmjknknckjdiaa
open Go.RowKit

theorem crcRun_one (r c v : Nat) (X Y : List Int) (hv : v < 4294967296) (hn : v ≠ 0) : crcRun r (X ++ ([((c ^^^ v : Nat) : Int)] ++ Y)) ≠ crcRun r (X ++ ([(c : Int)] ++ Y)) := by
  rw [crcRun_append, crcRun_append, crcRun_append, crcRun_append]
  have e : ∀ q, crcRun q [((c ^^^ v : Nat) : Int)] = crcRun q [(c : Int)] ^^^ stps 8 v := by
    intro q
    show stps 8 (q ^^^ (c ^^^ v)) = stps 8 (q ^^^ c) ^^^ stps 8 v
    rw [← Nat.xor_assoc, stps_xor]
  rw [e, crcRun_put]
  intro h
  have h1 := stps_ne (8 * Y.length) _ (stps_lt 8 v hv) (stps_ne 8 v hv hn)
  apply h1
  have h2 : ∀ a b : Nat, a ^^^ b = a → b = 0 := by
    intro a b h
    have : a ^^^ (a ^^^ b) = a ^^^ a := by rw [h]
    rwa [← Nat.xor_assoc, Nat.xor_self, Nat.zero_xor] at this
  exact h2 _ _ h

/-- A record with one byte of its payload changed is none. -/
theorem rec1_found (p z : List Int) (K c v : Nat) (hp : IsB p) (hl : p.length ≤ 65536) (hK : K < p.length) (hc : p[K]? = some (c : Int)) (hc2 : c < 256) (hv : v < 256) (hn : v ≠ 0) : rec1 ((put p).set (8 + K) ((c ^^^ v : Nat) : Int) ++ z) = none := by
  have hx := Nat.xor_lt_two_pow (n := 8) hc2 hv
  have es : (put p).set (8 + K) ((c ^^^ v : Nat) : Int) = (bytesOf p.length ++ bytesOf (crcSum (bytesOf p.length ++ p))) ++ p.set K ((c ^^^ v : Nat) : Int) := by
    unfold put
    rw [List.set_append_right _ _ (by simp [bytesOf_length])]
    simp [bytesOf_length]
  have ep : p = p.take K ++ ([(c : Int)] ++ p.drop (K + 1)) := by
    conv => lhs; rw [← List.take_append_drop K p, List.drop_eq_getElem_cons hK]
    have : p[K] = (c : Int) := by rw [List.getElem?_eq_getElem hK] at hc; exact Option.some.inj hc
    rw [this]; rfl
  have eq : p.set K ((c ^^^ v : Nat) : Int) = p.take K ++ ([((c ^^^ v : Nat) : Int)] ++ p.drop (K + 1)) := by
    conv => lhs; rw [ep]
    rw [List.set_append_right _ _ (by simp; omega), show K - (p.take K).length = 0 by simp; omega]
    rfl
  have hq : IsB (p.set K ((c ^^^ v : Nat) : Int)) := by
    rw [eq]
    refine (hp.take K).app (IsB.app ?_ (hp.drop _))
    intro z hz
    simp only [List.mem_cons, List.not_mem_nil, or_false] at hz
    subst hz
    omega
  have hne : crcSum (bytesOf p.length ++ p.set K ((c ^^^ v : Nat) : Int)) ≠ crcSum (bytesOf p.length ++ p) := by
    have l1 := crcRun_lt 4294967295 _ (by omega) (IsB.app (bytesOf_bytes p.length) hq)
    have l2 := crcRun_lt 4294967295 _ (by omega) (IsB.app (bytesOf_bytes p.length) hp)
    have h := crcRun_one 4294967295 c v (bytesOf p.length ++ p.take K) (p.drop (K + 1)) (by omega) hn
    rw [List.append_assoc, List.append_assoc, ← eq, ← ep] at h
    unfold crcSum
    omega
  generalize hY : ((c ^^^ v : Nat) : Int) = Y at *
  have t4 : ((put p).set (8 + K) Y ++ z).take 4 = bytesOf p.length := by rw [es, List.append_assoc, List.append_assoc, List.take_left' (bytesOf_length _)]
  have d4 : (((put p).set (8 + K) Y ++ z).drop 4).take 4 = bytesOf (crcSum (bytesOf p.length ++ p)) := by rw [es, List.append_assoc, List.append_assoc, List.drop_left' (bytesOf_length _), List.take_left' (bytesOf_length _)]
  have d8 : (((put p).set (8 + K) Y ++ z).drop 8).take p.length = p.set K Y := by
    rw [es, List.append_assoc (bytesOf p.length ++ _), List.drop_left' (by simp [bytesOf_length]), List.take_left' (by simp)]
  cases h : rec1 ((put p).set (8 + K) Y ++ z) with
  | none => rfl
  | some n =>
    obtain ⟨_, hn2, _, _, hs⟩ := rec1_some h
    rw [t4, numOf_bytesOf _ (by omega)] at hn2
    subst hn2
    rw [t4, d4, d8, numOf_bytesOf _ (crcSum_lt _)] at hs
    exact absurd hs hne

theorem place1 (a : Int) (len : Nat) (h4 : 0 < len) (h5 : len ≤ 5000) : ∃ K : Nat, wrap64 ((IntKind.u64.wrap a).tmod (len : Int)) = (K : Int) ∧ K < len := by
  have e : IntKind.u64.wrap a = a % 18446744073709551616 := IntKind.wrap_u64 a
  have h0 : 0 ≤ a % 18446744073709551616 := by omega
  rw [e, Int.tmod_eq_emod_of_nonneg h0]
  have h1 := Int.emod_nonneg (a % 18446744073709551616) (show (len : Int) ≠ 0 by omega)
  have h2 := Int.emod_lt_of_pos (a % 18446744073709551616) (show 0 < (len : Int) by omega)
  generalize (a % 18446744073709551616) % (len : Int) = q at h1 h2
  refine ⟨q.toNat, ?_, by omega⟩
  go_arith

theorem read_at {base : Nat} {W : World} {g len cap : Nat} {zs : List Int} (hown : W.ownsRow base 5 1 (.slice (some ⟨g, 0, none⟩) len cap) len (byteVals zs)) (j : Nat) (hj : j < len) (c : Nat) (hc : zs[j]? = some (c : Int)) :
    W.cell? ⟨g, j, none⟩ = some (.int .u8 (c : Int)) := by
  rw [hown.cellAt j (by omega)]
  simp [byteVals, hc]

theorem store_step {B : Nat} {w W : World} {g len cap : Nat} {zs : List Int} (hown : W.ownsRow B 5 1 (.slice (some ⟨g, 0, none⟩) len cap) len (byteVals zs)) (hC : Below B w W) (j : Nat) (y : Int) :
    (W.setCell ⟨g, j, none⟩ (.int .u8 y)).ownsRow B 5 1 (.slice (some ⟨g, 0, none⟩) len cap) len (byteVals (zs.set j y)) ∧ Below B w (W.setCell ⟨g, j, none⟩ (.int .u8 y)) := by
  obtain ⟨h1, _⟩ := hown.stored j (.int .u8 y)
  refine ⟨?_, hC.setCell (p := ⟨g, j, none⟩) (hown.lt g rfl).1 _⟩
  have e : byteVals (zs.set j y) = (byteVals zs).set j (.int .u8 y) := by simp [byteVals, List.map_set]
  rw [e]; exact h1

theorem byte_at {p : List Int} (hp : IsB p) {K : Nat} (h : K < p.length) : ∃ c : Nat, p[K]? = some (c : Int) ∧ c < 256 := by
  have := hp _ (List.getElem_mem h)
  exact ⟨p[K].toNat, by rw [List.getElem?_eq_getElem h]; congr 1; omega, by omega⟩
end Go.Proofs.Ytfmjknknckjdiaa

namespace Go.Proofs.Ytfmjknknckjdiaa
open Go.RowKit

set_option maxRecDepth 100000 in
set_option maxHeartbeats 2000000 in
theorem spoilt_early (aa : Option Addr) (la ca : Nat) (ab : Option Addr) (lb cb : Nat) (ac : Option Addr) (lc cc : Nat) (at_ : Int) (v : Nat) (w : World)
    (h : 300 < la ∨ 300 < lb ∨ 300 < lc ∨ lb = 0 ∨ v = 0) :
    Calls Try.prog 22 #[.slice aa la ca, .slice ab lb cb, .slice ac lc cc, .int .i64 at_, .int .u8 (v : Int)] w fun e w' => e = .returned (.bool true) ∧ Below w.heap.size w w' := by
  by_cases c1 : 300 < la
  · go_enter Try.func22, Try.ntmps22
    go_wp2_with fail
    refine (alive_d _).mono ?_
    rintro e w1 ⟨rfl, hb1⟩
    go_wp2_with fail
    go_ret
    exact ⟨rfl, hb1⟩
  by_cases c2 : 300 < lb
  · go_enter Try.func22, Try.ntmps22
    go_wp2_with fail
    refine (alive_d _).mono ?_
    rintro e w1 ⟨rfl, hb1⟩
    go_wp2_with fail
    go_ret
    exact ⟨rfl, hb1⟩
  by_cases c3 : 300 < lc
  · go_enter Try.func22, Try.ntmps22
    go_wp2_with fail
    refine (alive_d _).mono ?_
    rintro e w1 ⟨rfl, hb1⟩
    go_wp2_with fail
    go_ret
    exact ⟨rfl, hb1⟩
  by_cases c4 : lb = 0
  · subst c4
    go_enter Try.func22, Try.ntmps22
    go_wp2_with fail
    refine (alive_d _).mono ?_
    rintro e w1 ⟨rfl, hb1⟩
    go_wp2_with fail
    go_ret
    exact ⟨rfl, hb1⟩
  have hlb : ((lb : Int) == 0) = false := by simp; omega
  by_cases c5 : v = 0
  · subst c5
    go_enter Try.func22, Try.ntmps22
    go_wp2_with fail
    refine (alive_d _).mono ?_
    rintro e w1 ⟨rfl, hb1⟩
    go_wp2_with fail
    go_ret
    exact ⟨rfl, hb1⟩
  omega

set_option maxRecDepth 100000 in
set_option maxHeartbeats 2000000 in
theorem spoilt_main (aa : Option Addr) (la ca : Nat) (za : List Int) (ab : Option Addr) (lb cb : Nat) (zb : List Int) (ac : Option Addr) (lc cc : Nat) (zc : List Int) (at_ : Int) (v : Nat) (hv : v < 256) (w : World)
    (ha : Bs w aa la za) (hb : Bs w ab lb zb) (hc : Bs w ac lc zc) (c1 : ¬ 300 < la) (c2 : ¬ 300 < lb) (c3 : ¬ 300 < lc) (c4 : ¬ lb = 0) (c5 : ¬ v = 0) :
    Calls Try.prog 22 #[.slice aa la ca, .slice ab lb cb, .slice ac lc cc, .int .i64 at_, .int .u8 (v : Int)] w fun e w' => e = .returned (.bool true) ∧ Below w.heap.size w w' := by
  have hlb : ((lb : Int) == 0) = false := by simp; omega
  have hvb : ((v : Int) == 0) = false := by simp; omega
  obtain ⟨K, hK, hK3⟩ := place1 at_ lb (by omega) (by omega)
  have HK := hide1 hK
  have hzb := hb.1
  obtain ⟨c, hcb, hc2⟩ := byte_at hb.2.1 (show K < zb.length by omega)
  have hf := rec1_found zb (put zc) K c v hb.2.1 (by omega) (by omega) hcb hc2 hv c5
  have hx := u8_xor_nat c v hc2 hv
  have HX := hide1 hx
  have HF := hide1 hf
  have hxl := Nat.xor_lt_two_pow (n := 8) hc2 hv
  clear hK hx hf
  go_enter Try.func22, Try.ntmps22
  go_wp2_with fail
  refine (alive_d _).mono ?_
  rintro e w1 ⟨rfl, hb1⟩
  go_wp2_with fail
  refine (refPut_d _ la ca _ _ (ha.later hb1) (by omega)).mono ?_
  rintro e w2 ⟨vx, rfl, hownx, hb2⟩
  obtain ⟨ax, cx, rfl, hbsx, _, _⟩ := bs_owned hownx (put_bytes ha.2.1)
  replace hb2 := bl2 hb1 hb2
  clear hb1 hownx
  go_wp2_with fail
  refine (refPut_d _ lb cb _ _ (hb.later hb2) (by omega)).mono ?_
  rintro e w3 ⟨vy, rfl, howny, hb3⟩
  have e8 : 8 + lb = 7 + lb + 1 := by omega
  rw [e8] at howny
  obtain ⟨g, cy, rfl⟩ := ownsRow_succ howny
  have hg3 := (howny.lt g rfl).2
  go_wp2_with fail
  refine (refPut_d _ lc cc _ _ (hc.later (bl2 hb2 hb3)) (by omega)).mono ?_
  rintro e w4 ⟨vz, rfl, hownz, hb4⟩
  have howny4 := owns_later howny hb4
  have hb24 := bl2 hb3 hb4
  have r0 := read_at howny4 (8 + K) (by omega) c (by rw [show put zb = (bytesOf zb.length ++ bytesOf (crcSum (bytesOf zb.length ++ zb))) ++ zb from rfl, List.getElem?_append_right (by simp [bytesOf_length]), ← hcb]; congr 1; simp [bytesOf_length])
  have f0 := howny4.frozenAt (8 + K)
  have hK := HK.out
  clear howny
  obtain ⟨az, cz, rfl, hbsz0, _, _⟩ := bs_owned hownz (put_bytes hc.2.1)
  go_wp2_with (at_builtin; refine stopAt ?_)
  rw [HX.out]
  obtain ⟨hownY, hBW⟩ := store_step howny4 hb24 (8 + K) ((c ^^^ v : Nat) : Int)
  have hownZ := ownsRow_setCell_below hownz (a := ⟨g, 8 + K, none⟩) hg3 (.int .u8 ((c ^^^ v : Nat) : Int))
  clear hK r0 f0 howny4 hownz hbsz0 hb4 hb3 hb24
  have hsz : (w4.setCell ⟨g, 8 + K, none⟩ (.int .u8 ((c ^^^ v : Nat) : Int))).heap.size = w4.heap.size := by simp
  generalize w4.setCell ⟨g, 8 + K, none⟩ (.int .u8 ((c ^^^ v : Nat) : Int)) = W at hownY hBW hownZ hsz ⊢
  rw [← hsz]
  have hbsX := hbsx.later hBW
  have hbW := bl2 hb2 hBW
  have hYb : IsB ((put zb).set (8 + K) ((c ^^^ v : Nat) : Int)) := by
    intro z hz
    rcases List.mem_or_eq_of_mem_set hz with h | h
    · exact put_bytes hb.2.1 z h
    · subst h; omega
  obtain ⟨_, _, ey, hbsY, _, _⟩ := bs_owned hownY hYb
  cases ey
  obtain ⟨_, _, ez, hbsZ, _, _⟩ := bs_owned hownZ (put_bytes hc.2.1)
  cases ez
  clear hownY hownZ hbsx hBW hb2
  generalize (put zb).set (8 + K) ((c ^^^ v : Nat) : Int) = Y at hbsY hYb HF
  have eY := hbsY.1
  have hown0 := ownsRow_empty W W.heap.size (Nat.le_refl _)
  have hbe := below_one W (.cells #[] 5)
  refine hide1 ?_
  refine wpList_append_bs rfl (.tmp 70) (.tmp 71) rfl W.heap.size _ _ _ rfl hown0 _ _ _ _ rfl (hbsX.later hbe) (by omega) hbe.size ?_
  intro v5 w5 hown5 hg5
  have hb5 : Below W.heap.size W w5 := hbe.grown hg5 hbe.size (fun j e => (hown0.lt j e).1)
  clear hown0 hbe hg5
  go_wp2_with (at_builtin; refine wpList_append_bs rfl (.tmp 72) (.tmp 73) rfl W.heap.size _ _ _ rfl hown5 _ _ _ _ rfl (hbsY.later hb5) (by omega) hb5.size ?_; intro v6 w6 hown6 hg6; have hb6 := hb5.grown hg6 hb5.size (fun j e => (hown5.lt j e).1); refine stopAt ?_)
  refine hide1 ?_
  clear hown5 hg6 hb5
  go_wp2_with (at_builtin; refine wpList_append_bs rfl (.tmp 74) (.tmp 75) rfl W.heap.size _ _ _ rfl hown6 _ _ _ _ rfl (hbsZ.later hb6) (by omega) hb6.size ?_; intro v7 w7 hown7 hg7; have hb7 := hb6.grown hg7 hb6.size (fun j e => (hown6.lt j e).1); refine stopAt ?_)
  refine hide1 ?_
  clear hown6 hg7 hb6
  rw [Nat.zero_add, List.nil_append, byteVals_app, byteVals_app] at hown7
  obtain ⟨a7, c7, rfl, hbs7, hle7, _⟩ := bs_owned hown7 (((put_bytes ha.2.1).app hYb).app (put_bytes hc.2.1))
  have hc7 := owned_cap hown7
  have hend : endOf 0 (recs (put za ++ Y ++ put zc)) = 8 + la := by
    have := endOf_put [za] (by intro p hp; simp at hp; subst hp; have := ha.1; omega) (Y ++ put zc) HF.out
    rw [puts_cons, puts_nil, List.append_nil, ← List.append_assoc] at this
    rw [this]; simp [szs, ha.1]
  have HE := hide1 hend
  clear hend hown7
  go_wp2_with fail
  refine (whole_d _ _ _ _ _ hbs7 hle7 hc7).mono ?_
  rintro e w8 ⟨rfl, hb8⟩
  rw [HE.out]
  go_wp2_with fail
  go_ret
  exact ⟨rfl, bl2 hbW (bl2 hb7 hb8)⟩

set_option maxRecDepth 100000 in
set_option maxHeartbeats 2000000 in
theorem spoilt_walk (aa : Option Addr) (la ca : Nat) (za : List Int) (ab : Option Addr) (lb cb : Nat) (zb : List Int) (ac : Option Addr) (lc cc : Nat) (zc : List Int) (at_ : Int) (v : Nat) (hv : v < 256) (w : World)
    (ha : Bs w aa la za) (hb : Bs w ab lb zb) (hc : Bs w ac lc zc) :
    Calls Try.prog 22 #[.slice aa la ca, .slice ab lb cb, .slice ac lc cc, .int .i64 at_, .int .u8 (v : Int)] w fun e w' => e = .returned (.bool true) ∧ Below w.heap.size w w' := by
  by_cases h : 300 < la ∨ 300 < lb ∨ 300 < lc ∨ lb = 0 ∨ v = 0
  · exact spoilt_early aa la ca ab lb cb ac lc cc at_ v w h
  · exact spoilt_main aa la ca za ab lb cb zb ac lc cc zc at_ v hv w ha hb hc (by omega) (by omega) (by omega) (by omega) (by omega)
end Go.Proofs.Ytfmjknknckjdiaa

namespace Go.Proofs.Ytfmjknknckjdiaa
open Go.ChangeShapes Go.WideShapes Go.ChangeAt Go.RowKit

set_option maxHeartbeats 800000 in
theorem finds_walk (aa : Option Addr) (la ca : Nat) (za : List Int) (ab : Option Addr) (lb cb : Nat) (zb : List Int) (ac : Option Addr) (lc cc : Nat) (zc : List Int) (at_ : Int) (v : Nat) (hv : v < 256) (w : World)
    (ha : Bs w aa la za) (hb : Bs w ab lb zb) (hc : Bs w ac lc zc) :
    Calls Try.prog 6 #[.agg #[.slice aa la ca, .slice ab lb cb, .slice ac lc cc, .int .i64 at_, .int .u8 (v : Int)]] w fun e w' => e = .returned (.bool true) ∧ Below w.heap.size w w' := by
  go_enter Try.func6, Try.ntmps6
  go_wp2_with fail
  have hb1 := below_one w (.cells #[.slice aa la ca, .slice ab lb cb, .slice ac lc cc, .int .i64 at_, .int .u8 (v : Int)] 50)
  refine (spoilt_walk aa la ca za ab lb cb zb ac lc cc zc at_ v hv _ (ha.later hb1) (hb.later hb1) (hc.later hb1)).mono ?_
  rintro e w2 ⟨rfl, hb2⟩
  go_wp2_with fail
  go_ret
  exact ⟨rfl, bl2 hb1 hb2⟩

section
variable {H : Type} {enc : TypeId × Value → H} {W : World} {held : Bool}
theorem five {α : Type} : ∀ {l : List α}, l.length = 5 → ∃ a b c d e, l = [a, b, c, d, e]
  | [a, b, c, d, e], _ => ⟨a, b, c, d, e, rfl⟩
/-- Bytes that came in. -/
theorem bs_in {n : Nat} {v : Value} {x : DataW H × List MemPlace} (h : DataW.trod enc Try.prog W 0 (fun _ => true) true n 22 [v] = some x) : ∃ ab lb cb zs, v = .slice ab lb cb ∧ Bs W ab lb zs := by
  rcases open_ints Try.underlying22 Try.underlying5 (by kernel_rfl) h with ⟨hcs, _⟩ | ⟨a, len, cap, zs, hcs, _, hl, hm, hz, _, hc, hw⟩
  · cases hcs
    exact ⟨none, 0, 0, _, rfl, (bs_of_row (.inl ⟨rfl, rfl, rfl, rfl⟩)).1⟩
  · cases hcs
    exact ⟨some a, len, cap, _, rfl, (bs_of_row (.inr ⟨_, rfl, hl, hm, by simpa using hz, hc, hw⟩)).1⟩

theorem spoil_in {n : Nat} {cs : List Value} {x : DataW H × List MemPlace} (hl : cs.length = 5) (h2 : DataW.trod enc Try.prog W 0 (fun _ => true) true n 50 cs = some x) :
    ∃ aa la ca za ab lb cb zb ac lc cc zc at_ v, cs = [.slice aa la ca, .slice ab lb cb, .slice ac lc cc, .int .i64 at_, .int .u8 ((v : Nat) : Int)] ∧ v < 256 ∧ Bs W aa la za ∧ Bs W ab lb zb ∧ Bs W ac lc zc := by
  obtain ⟨xs, m, _, _, _, hxl, hf⟩ := DataW.trod_struct Try.underlying50 h2
  obtain ⟨v0, v1, v2, v3, v4, rfl⟩ := five hl
  obtain ⟨y0, y1, y2, y3, y4, rfl⟩ := five hxl
  have c1 : Try.prog.cellsOf 22 = 1 := by kernel_rfl
  have c2 : Try.prog.cellsOf 3 = 1 := by kernel_rfl
  have c3 : Try.prog.cellsOf 5 = 1 := by kernel_rfl
  have g0 : DataW.trod enc Try.prog W 0 (fun _ => true) true m 22 (([v0, v1, v2, v3, v4].drop 0).take (Try.prog.cellsOf 22)) = some y0 := hf 0 _ rfl
  rw [c1] at g0
  replace g0 : DataW.trod enc Try.prog W 0 (fun _ => true) true m 22 [v0] = some y0 := g0
  have g1 : DataW.trod enc Try.prog W 0 (fun _ => true) true m 22 (([v0, v1, v2, v3, v4].drop 1).take (Try.prog.cellsOf 22)) = some y1 := hf 1 _ rfl
  rw [c1] at g1
  replace g1 : DataW.trod enc Try.prog W 0 (fun _ => true) true m 22 [v1] = some y1 := g1
  have g2 : DataW.trod enc Try.prog W 0 (fun _ => true) true m 22 (([v0, v1, v2, v3, v4].drop 2).take (Try.prog.cellsOf 22)) = some y2 := hf 2 _ rfl
  rw [c1] at g2
  replace g2 : DataW.trod enc Try.prog W 0 (fun _ => true) true m 22 [v2] = some y2 := g2
  have g3 : DataW.trod enc Try.prog W 0 (fun _ => true) true m 3 (([v0, v1, v2, v3, v4].drop 3).take (Try.prog.cellsOf 3)) = some y3 := hf 3 _ rfl
  rw [c2] at g3
  replace g3 : DataW.trod enc Try.prog W 0 (fun _ => true) true m 3 [v3] = some y3 := g3
  have g4 : DataW.trod enc Try.prog W 0 (fun _ => true) true m 5 (([v0, v1, v2, v3, v4].drop 4).take (Try.prog.cellsOf 5)) = some y4 := hf 4 _ rfl
  rw [c3] at g4
  replace g4 : DataW.trod enc Try.prog W 0 (fun _ => true) true m 5 [v4] = some y4 := g4
  obtain ⟨aa, la, ca, za, e0, ha⟩ := bs_in g0
  obtain ⟨ab, lb, cb, zb, e1, hb⟩ := bs_in g1
  obtain ⟨ac, lc, cc, zc, e2, hc⟩ := bs_in g2
  obtain ⟨nn, e3, _, _⟩ := DataW.trod_int Try.underlying3 g3
  obtain ⟨vv, e4, _, hw⟩ := DataW.trod_int Try.underlying5 g4
  cases e3; cases e4; subst e0; subst e1; subst e2
  have hv : 0 ≤ vv ∧ vv < 256 := by
    have h := hw
    simp only [Lit.wf, Bool.and_eq_true, decide_eq_true_eq] at h
    have e1 : IntKind.u8.min = 0 := rfl
    have e2 : IntKind.u8.max = 255 := rfl
    omega
  obtain ⟨k, rfl⟩ := Int.eq_ofNat_of_zero_le hv.1
  exact ⟨aa, la, ca, za, ab, lb, cb, zb, ac, lc, cc, zc, nn, k, rfl, by omega, ha, hb, hc⟩
end
end Go.Proofs.Ytfmjknknckjdiaa

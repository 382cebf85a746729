/- C1, CA, CB, CC, CD, CE, CT, CR, CP, J1, J2, J3, J4, J5, J6, J7, J13, J14, J15, J16, J17, J19: laid together. -/
import Derived.Laws.BitsAllLaws
import Derived.WalkKit
import Derived.WalkSpells
import Derived.WalkLawsBesides
import Derived.Below
import Derived.Handy
import Derived.Lib.SlBytesConst
import Derived.Laws.BytesArg
import Derived.Laws.OwnMore
import Derived.OwnWalk
import Derived.BigQuiet
import Derived.RangeFuncNested
import Derived.RangeFuncBound
import Derived.RangeFuncCalls
import Derived.RangeFuncLeaves
import Derived.Shelf.Abstract
import Derived.Shelf.RegionOpen
import Derived.OwnWalkIn
import Derived.TacticsInMore
import Derived.LoopNIn
import Derived.LoopIn
import Derived.Lib.AppendZeros
import Derived.Deep.DeepAppendRoom
import Derived.Deep.RegionHeld3
import Derived.Test.YtfmjknknckjdiaaRows
namespace Go.Proofs.Ytfmjknknckjdiaa

/-- One bit's shift of a register. -/
def stp (r : Nat) : Nat := if r % 2 = 1 then (r / 2) ^^^ 3988292384 else r / 2

/-- So many shifts, one behind the other. -/
def stps : Nat → Nat → Nat
  | 0, r => r
  | k + 1, r => stps k (stp r)

/-- What stands in the register behind a row of bytes. -/
def crcRun (r : Nat) (l : List Int) : Nat := l.foldl (fun r c => stps 8 (r ^^^ c.toNat)) r

theorem stp_lt (r : Nat) (h : r < 4294967296) : stp r < 4294967296 := by
  unfold stp
  split
  · exact Nat.xor_lt_two_pow (n := 32) (by omega) (by omega)
  · omega

theorem stps_lt (k : Nat) : ∀ r, r < 4294967296 → stps k r < 4294967296 := by
  induction k with
  | zero => intro r h; exact h
  | succ k ih => intro r h; exact ih _ (stp_lt r h)

theorem stps_succ (k : Nat) : ∀ r, stps (k + 1) r = stp (stps k r) := by
  induction k with
  | zero => intro r; rfl
  | succ k ih => intro r; exact ih (stp r)

theorem stps_add (j : Nat) : ∀ k r, stps (j + k) r = stps k (stps j r) := by
  induction j with
  | zero => intro k r; simp [stps]
  | succ j ih => intro k r; rw [show j + 1 + k = (j + k) + 1 from by omega]; exact ih k (stp r)

/-- Two numbers are one if their bits are. -/
theorem xor_half (a b : Nat) : (a ^^^ b) / 2 = a / 2 ^^^ b / 2 := by
  apply Nat.eq_of_testBit_eq
  intro i
  simp [Nat.testBit_div_two, Nat.testBit_xor]

theorem xor_par (a b : Nat) : (a ^^^ b) % 2 = (a % 2 + b % 2) % 2 := by
  have h : (a ^^^ b) % 2 = (a % 2) ^^^ (b % 2) := by
    have := @Nat.xor_mod_two_pow a b 1
    simpa using this
  rw [h]
  rcases Nat.mod_two_eq_zero_or_one a with ha | ha <;> rcases Nat.mod_two_eq_zero_or_one b with hb | hb <;> simp [ha, hb]

/-- A shift goes through exclusive or. -/
theorem stp_xor (a b : Nat) : stp (a ^^^ b) = stp a ^^^ stp b := by
  unfold stp
  rw [xor_half, xor_par]
  rcases Nat.mod_two_eq_zero_or_one a with ha | ha <;> rcases Nat.mod_two_eq_zero_or_one b with hb | hb
  · simp [ha, hb]
  · simp [ha, hb, Nat.xor_assoc]
  · simp [ha, hb]
    rw [Nat.xor_assoc, Nat.xor_assoc, Nat.xor_comm 3988292384]
  · simp [ha, hb]
    rw [Nat.xor_assoc, ← Nat.xor_assoc 3988292384, Nat.xor_comm 3988292384, Nat.xor_assoc, Nat.xor_self, Nat.xor_zero]

theorem stps_xor (k : Nat) : ∀ a b, stps k (a ^^^ b) = stps k a ^^^ stps k b := by
  induction k with
  | zero => intro a b; rfl
  | succ k ih => intro a b; show stps k (stp (a ^^^ b)) = _; rw [stp_xor]; exact ih _ _

theorem stp_zero : stp 0 = 0 := by decide
theorem stps_zero (k : Nat) : stps k 0 = 0 := by
  induction k with
  | zero => rfl
  | succ k ih => rw [stps_succ, ih, stp_zero]

/-- A shift of what ends in a 0 only halves it. -/
theorem stp_even (r : Nat) (h : r % 2 = 0) : stp r = r / 2 := by
  unfold stp; rw [if_neg (by omega)]

theorem stps_low (k : Nat) : ∀ q, stps k (q * 2 ^ k) = q := by
  induction k with
  | zero => intro q; simp [stps]
  | succ k ih =>
    intro q
    show stps k (stp (q * 2 ^ (k + 1))) = q
    rw [stp_even _ (by rw [Nat.pow_succ, ← Nat.mul_assoc]; omega), show q * 2 ^ (k + 1) / 2 = q * 2 ^ k from by rw [Nat.pow_succ, ← Nat.mul_assoc]; omega]
    exact ih q

theorem split_low (r k : Nat) : r = (r / 2 ^ k * 2 ^ k) ^^^ (r % 2 ^ k) := by
  apply Nat.eq_of_testBit_eq
  intro i
  rw [Nat.testBit_xor, Nat.testBit_mod_two_pow, ← Nat.shiftLeft_eq, Nat.testBit_shiftLeft, Nat.testBit_div_two_pow]
  by_cases h : i < k
  · simp [h, show ¬ k ≤ i from by omega]
  · simp [h, show k ≤ i from by omega]

/-- A step of k shifts: what is above moves down, what is below is put to it. -/
theorem stps_split (k r : Nat) : stps k r = (r / 2 ^ k) ^^^ stps k (r % 2 ^ k) := by
  conv => lhs; rw [split_low r k]
  rw [stps_xor, stps_low]

theorem stps_four (r : Nat) : stps 4 r = (r / 16) ^^^ stps 4 (r % 16) := stps_split 4 r

/-- All bits turned. -/
theorem ones_xor (s : Nat) (h : s < 4294967296) : 4294967295 ^^^ s = 4294967295 - s := by
  apply Nat.eq_of_testBit_eq
  intro i
  rw [Nat.testBit_xor, show 4294967295 = 2 ^ 32 - 1 from rfl, Nat.testBit_two_pow_sub_one, show 2 ^ 32 - 1 - s = 2 ^ 32 - (s + 1) from by omega, Nat.testBit_two_pow_sub_succ (by omega)]
  by_cases hi : i < 32
  · simp [hi]
  · have : s.testBit i = false := Nat.testBit_lt_two_pow (Nat.lt_of_lt_of_le h (Nat.pow_le_pow_right (show 0 < 2 by omega) (show 32 ≤ i by omega)))
    simp [hi, this]

theorem crcRun_nil (r : Nat) : crcRun r [] = r := rfl
theorem crcRun_append (r : Nat) (a b : List Int) : crcRun r (a ++ b) = crcRun (crcRun r a) b := by simp [crcRun]
theorem crcRun_snoc (r : Nat) (a : List Int) (c : Int) : crcRun r (a ++ [c]) = stps 8 (crcRun r a ^^^ c.toNat) := by simp [crcRun]

theorem crcRun_lt (r : Nat) (l : List Int) (h : r < 4294967296) (hl : ∀ c ∈ l, 0 ≤ c ∧ c < 256) : crcRun r l < 4294967296 := by
  induction l generalizing r with
  | nil => exact h
  | cons c l ih =>
    have hc := hl c (by simp)
    exact ih _ (stps_lt 8 _ (Nat.xor_lt_two_pow (n := 32) (by omega) (by omega))) (fun d hd => hl d (by simp [hd]))

end Go.Proofs.Ytfmjknknckjdiaa

namespace Go.Proofs.Ytfmjknknckjdiaa
open Go.RowKit

theorem val_int {k : IntKind} {a b : Int} (h : a = b) : Value.int k a = Value.int k b := by rw [h]
theorem ret_int {k : IntKind} {a b : Int} (h : a = b) : Ending.returned (.int k a) = .returned (.int k b) := by rw [h]

theorem stp_odd_int (r : Nat) (hr : r < 4294967296) (h : (bits BinOp.and IntKind.u32 (r : Int) 1 == 1) = true) :
    bits BinOp.xor IntKind.u32 ((r : Int) / 2) 3988292384 = ((stp r : Nat) : Int) := by
  have e := u32_and_nat r 1 hr (by omega)
  simp only [Int.cast_ofNat_Int, nat_mask1] at e
  rw [e] at h
  have h1 : r % 2 = 1 := by simp at h; omega
  have x := u32_xor_nat (r / 2) 3988292384 (by omega) (by omega)
  simp only [Int.natCast_ediv, Int.cast_ofNat_Int] at x
  rw [x]; unfold stp; rw [if_pos h1]

theorem stp_even_int (r : Nat) (hr : r < 4294967296) (h : (bits BinOp.and IntKind.u32 (r : Int) 1 == 1) = false) :
    ((r : Int) / 2) = ((stp r : Nat) : Int) := by
  have e := u32_and_nat r 1 hr (by omega)
  simp only [Int.cast_ofNat_Int, nat_mask1] at e
  rw [e] at h
  have h1 : ¬ r % 2 = 1 := by simp at h; omega
  unfold stp; rw [if_neg h1]; omega

set_option maxHeartbeats 400000 in
theorem shift_any (r : Nat) (hr : r < 4294967296) (w : World) :
    Calls Try.prog 37 #[.int .u32 (r : Int), .int .i64 4] w fun e w' => e = .returned (.int .u32 ((stps 4 r : Nat) : Int)) ∧ w' = w := by
  go_enter Try.func37, Try.ntmps37
  go_wp2
  go_loop [0, 7] (fun x i => ∃ k : Nat, k ≤ 4 ∧ i = .int .i64 k ∧ x = .int .u32 ((stps k r : Nat) : Int)) (fun _ i => 4 - (intOf i).toNat)
  case atStart => exact ⟨0, by omega, rfl, rfl⟩
  case round =>
    obtain ⟨k, hk, rfl, rfl⟩ := hrel
    have hs := stps_lt k r hr
    by_cases hlt : k < 4
    · go_wp2
      all_goals refine ⟨⟨k + 1, by omega, by go_num, val_int ?_⟩, by simp [intOf]; omega⟩
      · rw [stps_succ]; exact stp_odd_int _ hs ‹_›
      · rw [stps_succ]; exact stp_even_int _ hs ‹_›
    · go_wp2
      obtain rfl : k = 4 := by omega
      go_ret
      exact ⟨rfl, rfl⟩

/-- The table of sixteen words lies at a block. -/
def IsTable (w : World) (b : Nat) : Prop := ∀ i : Nat, i < 16 → w.cell? ⟨b, i, none⟩ = some (.int .u32 ((stps 4 i : Nat) : Int))

set_option maxHeartbeats 400000 in
theorem move_any (b r : Nat) (hr : r < 4294967296) (w : World) (ht : IsTable w b) :
    Calls Try.prog 38 #[.pointer (some ⟨b, 0, none⟩), .int .u32 (r : Int)] w fun e w' => e = .returned (.int .u32 ((stps 4 r : Nat) : Int)) ∧ w' = w := by
  have hc := ht (r % 16) (by omega)
  go_enter Try.func38, Try.ntmps38
  go_wp2
  go_ret
  refine ⟨ret_int ?_, rfl⟩
  have x := u32_xor_nat (r / 16) (stps 4 (r % 16)) (by omega) (stps_lt 4 _ (by omega))
  simp only [Int.natCast_ediv, Int.cast_ofNat_Int] at x
  rw [x, stps_four r]

/-- A slice of bytes that reads so: its elements alone; of its spare room nothing is said. -/
def Bs (w : World) (a : Option Addr) (len : Nat) (zs : List Int) : Prop :=
  zs.length = len ∧ (∀ z ∈ zs, 0 ≤ z ∧ z < 256) ∧ (0 < len → ∃ b off, a = some ⟨b, off, none⟩ ∧ ∀ i, i < len → w.cell? ⟨b, off + i, none⟩ = some (.int .u8 (zs.getD i 0)))

theorem take_snoc (l : List Int) (k : Nat) (h : k < l.length) : l.take (k + 1) = l.take k ++ [l.getD k 0] := by
  rw [List.take_succ_eq_append_getElem h]; simp [h]

theorem getD_mem {l : List Int} {k : Nat} (h : k < l.length) : l.getD k 0 ∈ l := by
  simp [List.getD_eq_getElem?_getD, h]

set_option maxHeartbeats 400000 in
theorem take_any (b r : Nat) (hr : r < 4294967296) (a : Option Addr) (len cap : Nat) (zs : List Int) (w : World) (ht : IsTable w b) (hb : Bs w a len zs) (hm : len ≤ maxLen) :
    Calls Try.prog 33 #[.pointer (some ⟨b, 0, none⟩), .int .u32 (r : Int), .slice a len cap] w fun e w' => e = .returned (.int .u32 ((crcRun r zs : Nat) : Int)) ∧ w' = w := by
  unfold maxLen at hm
  obtain ⟨hz, hby, hc⟩ := hb
  go_enter Try.func33, Try.ntmps33
  go_wp2
  go_loop [1, 11] (fun x i => ∃ k : Nat, k ≤ len ∧ i = .int .i64 k ∧ x = .int .u32 ((crcRun r (zs.take k) : Nat) : Int)) (fun _ i => len - (intOf i).toNat)
  case atStart => exact ⟨0, by omega, rfl, rfl⟩
  case round =>
    obtain ⟨k, hk, rfl, rfl⟩ := hrel
    have hs := crcRun_lt r (zs.take k) hr (fun c h => hby c (List.mem_of_mem_take h))
    by_cases hlt : k < len
    · obtain ⟨b', off, rfl, hcell⟩ := hc (by omega)
      have hck := hcell k hlt
      have hbk := hby _ (getD_mem (l := zs) (k := k) (by omega))
      have hts := take_snoc zs k (by omega)
      generalize hcc : zs.getD k 0 = c at *
      obtain ⟨c, rfl⟩ := Int.eq_ofNat_of_zero_le hbk.1
      have hc256 : c < 256 := by omega
      have HS : Hid (crcRun r (zs.take (k + 1)) = stps 8 (crcRun r (zs.take k) ^^^ c)) := by rw [hts, crcRun_snoc]; rfl
      clear hts hcc hc hcell hbk
      have hx := Nat.xor_lt_two_pow (n := 32) hs (show c < 2 ^ 32 by omega)
      have Hxi : Hid (bits .xor .u32 ((crcRun r (zs.take k) : Nat) : Int) (c : Int) = ((crcRun r (zs.take k) ^^^ c : Nat) : Int)) := u32_xor_nat _ _ hs (by omega)
      go_wp2_with fail
      rw [Hxi.out]
      refine (move_any b _ hx w ht).mono ?_
      rintro e w' ⟨rfl, rfl⟩
      go_wp2_with fail
      refine (move_any b _ (stps_lt 4 _ hx) _ ht).mono ?_
      rintro e w' ⟨rfl, rfl⟩
      go_wp2_with fail
      refine ⟨⟨k + 1, by omega, by go_num, val_int ?_⟩, by simp [intOf]; omega⟩
      rw [HS.out, ← stps_add]
    · go_wp2
      go_ret
      exact ⟨ret_int (by rw [List.take_of_length_le (by omega)]), rfl⟩

end Go.Proofs.Ytfmjknknckjdiaa

namespace Go.Proofs.Ytfmjknknckjdiaa
open Go.RowKit

set_option maxHeartbeats 400000 in
theorem makeTable_any (w : World) :
    Calls Try.prog 32 #[] w fun e w' => e = .returned (.agg #[.int .u32 (stps 4 0 : Nat), .int .u32 (stps 4 1 : Nat), .int .u32 (stps 4 2 : Nat), .int .u32 (stps 4 3 : Nat), .int .u32 (stps 4 4 : Nat), .int .u32 (stps 4 5 : Nat), .int .u32 (stps 4 6 : Nat), .int .u32 (stps 4 7 : Nat), .int .u32 (stps 4 8 : Nat), .int .u32 (stps 4 9 : Nat), .int .u32 (stps 4 10 : Nat), .int .u32 (stps 4 11 : Nat), .int .u32 (stps 4 12 : Nat), .int .u32 (stps 4 13 : Nat), .int .u32 (stps 4 14 : Nat), .int .u32 (stps 4 15 : Nat)]) ∧ Below w.heap.size w w' := by
  go_enter Try.func32, Try.ntmps32
  go_wp2
  refine wp_loop_rounds 17 ?_
  iterate 16
    rw [rounds_succ]
    go_wp2_with fail
    refine (shift_any _ (by decide) _).mono ?_
    rintro e w' ⟨rfl, rfl⟩
    go_wp2_with fail
  rw [rounds_succ]
  go_wp2
  exact bodyPost_ret (v := .agg #[.int .u32 (stps 4 0 : Nat), .int .u32 (stps 4 1 : Nat), .int .u32 (stps 4 2 : Nat), .int .u32 (stps 4 3 : Nat), .int .u32 (stps 4 4 : Nat), .int .u32 (stps 4 5 : Nat), .int .u32 (stps 4 6 : Nat), .int .u32 (stps 4 7 : Nat), .int .u32 (stps 4 8 : Nat), .int .u32 (stps 4 9 : Nat), .int .u32 (stps 4 10 : Nat), .int .u32 (stps 4 11 : Nat), .int .u32 (stps 4 12 : Nat), .int .u32 (stps 4 13 : Nat), .int .u32 (stps 4 14 : Nat), .int .u32 (stps 4 15 : Nat)]) (by simp [results, Try.results32, go_sem]) rfl ⟨rfl, ((Below.refl _ _).alloc (Nat.le_refl _) _).alloc (by simp) _⟩

end Go.Proofs.Ytfmjknknckjdiaa

namespace Go.Proofs.Ytfmjknknckjdiaa
open Go.RowKit

theorem Bs.later {w w' : World} {a : Option Addr} {len : Nat} {zs : List Int} (h : Bs w a len zs) (hb : Below w.heap.size w w') : Bs w' a len zs := by
  obtain ⟨h1, h2, h3⟩ := h
  refine ⟨h1, h2, fun hp => ?_⟩
  obtain ⟨b, off, e, hc⟩ := h3 hp
  exact ⟨b, off, e, fun i hi => cell_later hb (hc i hi)⟩

/-- A slice of slices of bytes that reads so. -/
def Parts (w : World) (a : Option Addr) (n : Nat) (ps : List (List Int)) : Prop :=
  ps.length = n ∧ (0 < n → ∃ b off, a = some ⟨b, off, none⟩ ∧ ∀ i, i < n → ∃ a' len cap, w.cell? ⟨b, off + i, none⟩ = some (.slice a' len cap) ∧ len ≤ maxLen ∧ Bs w a' len (ps.getD i []))

theorem Parts.later {w w' : World} {a : Option Addr} {n : Nat} {ps : List (List Int)} (h : Parts w a n ps) (hb : Below w.heap.size w w') : Parts w' a n ps := by
  obtain ⟨h1, h2⟩ := h
  refine ⟨h1, fun hp => ?_⟩
  obtain ⟨b, off, e, hc⟩ := h2 hp
  refine ⟨b, off, e, fun i hi => ?_⟩
  obtain ⟨a', len, cap, hc1, hm, hbs⟩ := hc i hi
  exact ⟨a', len, cap, cell_later hb hc1, hm, hbs.later hb⟩

theorem flat_snoc (ps : List (List Int)) (k : Nat) (h : k < ps.length) : (ps.take (k + 1)).flatten = (ps.take k).flatten ++ ps.getD k [] := by
  rw [List.take_succ_eq_append_getElem h, List.flatten_append]; simp [List.getD_eq_getElem?_getD, h]

theorem parts_bytes {w : World} {a : Option Addr} {n : Nat} {ps : List (List Int)} (h : Parts w a n ps) (k : Nat) : ∀ c ∈ (ps.take k).flatten, 0 ≤ c ∧ c < 256 := by
  obtain ⟨h1, h2⟩ := h
  intro c hc
  rw [List.mem_flatten] at hc
  obtain ⟨l, hl, hcl⟩ := hc
  obtain ⟨i, hi, rfl⟩ := List.mem_iff_getElem.1 (List.mem_of_mem_take hl)
  obtain ⟨b, off, _, hcell⟩ := h2 (by omega)
  obtain ⟨_, _, _, _, _, hbs⟩ := hcell i (by omega)
  exact hbs.2.1 c (by simpa [List.getD_eq_getElem?_getD, hi] using hcl)

/-- The table, written out. -/
theorem isTable_new (w : World) : IsTable (w.alloc (.cells #[.int .u32 (stps 4 0 : Nat), .int .u32 (stps 4 1 : Nat), .int .u32 (stps 4 2 : Nat), .int .u32 (stps 4 3 : Nat), .int .u32 (stps 4 4 : Nat), .int .u32 (stps 4 5 : Nat), .int .u32 (stps 4 6 : Nat), .int .u32 (stps 4 7 : Nat), .int .u32 (stps 4 8 : Nat), .int .u32 (stps 4 9 : Nat), .int .u32 (stps 4 10 : Nat), .int .u32 (stps 4 11 : Nat), .int .u32 (stps 4 12 : Nat), .int .u32 (stps 4 13 : Nat), .int .u32 (stps 4 14 : Nat), .int .u32 (stps 4 15 : Nat)] 62)) w.heap.size := by
  intro i hi
  have h : i = 0 ∨ i = 1 ∨ i = 2 ∨ i = 3 ∨ i = 4 ∨ i = 5 ∨ i = 6 ∨ i = 7 ∨ i = 8 ∨ i = 9 ∨ i = 10 ∨ i = 11 ∨ i = 12 ∨ i = 13 ∨ i = 14 ∨ i = 15 := by omega
  rcases h with rfl | rfl | rfl | rfl | rfl | rfl | rfl | rfl | rfl | rfl | rfl | rfl | rfl | rfl | rfl | rfl <;> simp [go_sem]

theorem not_u32 (r : Nat) (h : r < 4294967296) : bits BinOp.xor IntKind.u32 IntKind.u32.max (r : Int) = ((4294967295 - r : Nat) : Int) := by
  have e := u32_xor_nat 4294967295 r (by omega) h
  rw [ones_xor r h] at e
  exact e
theorem u32_unsigned : IntKind.u32.signed = false := rfl

/-- The check sum of a text. -/
def crcSum (zs : List Int) : Nat := 4294967295 - crcRun 4294967295 zs

set_option maxHeartbeats 400000 in
theorem of_any (a : Option Addr) (n cap : Nat) (ps : List (List Int)) (w : World) (hp : Parts w a n ps) (hn : n ≤ maxLen) :
    Calls Try.prog 24 #[.slice a n cap] w fun e w' => e = .returned (.int .u32 ((crcSum ps.flatten : Nat) : Int)) ∧ Below w.heap.size w w' := by
  have hsg := u32_unsigned
  unfold maxLen at hn
  go_enter Try.func24, Try.ntmps24
  go_wp2_with fail
  refine (makeTable_any _).mono ?_
  rintro e w1 ⟨rfl, hb1⟩
  have hb2 := hb1.trans ((Below.refl w.heap.size w1).alloc hb1.size (.cells #[.int .u32 (stps 4 0 : Nat), .int .u32 (stps 4 1 : Nat), .int .u32 (stps 4 2 : Nat), .int .u32 (stps 4 3 : Nat), .int .u32 (stps 4 4 : Nat), .int .u32 (stps 4 5 : Nat), .int .u32 (stps 4 6 : Nat), .int .u32 (stps 4 7 : Nat), .int .u32 (stps 4 8 : Nat), .int .u32 (stps 4 9 : Nat), .int .u32 (stps 4 10 : Nat), .int .u32 (stps 4 11 : Nat), .int .u32 (stps 4 12 : Nat), .int .u32 (stps 4 13 : Nat), .int .u32 (stps 4 14 : Nat), .int .u32 (stps 4 15 : Nat)] 62))
  have ht := isTable_new w1
  go_wp2_with fail
  generalize w1.alloc (.cells #[.int .u32 (stps 4 0 : Nat), .int .u32 (stps 4 1 : Nat), .int .u32 (stps 4 2 : Nat), .int .u32 (stps 4 3 : Nat), .int .u32 (stps 4 4 : Nat), .int .u32 (stps 4 5 : Nat), .int .u32 (stps 4 6 : Nat), .int .u32 (stps 4 7 : Nat), .int .u32 (stps 4 8 : Nat), .int .u32 (stps 4 9 : Nat), .int .u32 (stps 4 10 : Nat), .int .u32 (stps 4 11 : Nat), .int .u32 (stps 4 12 : Nat), .int .u32 (stps 4 13 : Nat), .int .u32 (stps 4 14 : Nat), .int .u32 (stps 4 15 : Nat)] 62) = W at hb2 ht ⊢
  obtain ⟨hl, hc⟩ := hp.later hb2
  have hby : ∀ k, ∀ c ∈ (ps.take k).flatten, 0 ≤ c ∧ c < 256 := parts_bytes hp
  go_loop [4, 10] (fun x i => ∃ k : Nat, k ≤ n ∧ i = .int .i64 k ∧ x = .int .u32 ((crcRun 4294967295 (ps.take k).flatten : Nat) : Int)) (fun _ i => n - (intOf i).toNat)
  case atStart => exact ⟨0, by omega, rfl, rfl⟩
  case round =>
    obtain ⟨k, hk, rfl, rfl⟩ := hrel
    have hs := crcRun_lt 4294967295 (ps.take k).flatten (by omega) (hby k)
    by_cases hlt : k < n
    · obtain ⟨b, off, rfl, hcell⟩ := hc (by omega)
      obtain ⟨a', len, cap', hck, hm, hbs⟩ := hcell k hlt
      have HS : Hid (crcRun 4294967295 (ps.take (k + 1)).flatten = crcRun (crcRun 4294967295 (ps.take k).flatten) (ps.getD k [])) := by
        rw [flat_snoc ps k (by omega), crcRun_append]; rfl
      clear hc hcell hby
      go_wp2_with fail
      refine (take_any w1.heap.size _ hs a' len cap' _ W ht hbs hm).mono ?_
      rintro e w' ⟨rfl, rfl⟩
      go_wp2_with fail
      refine ⟨⟨k + 1, by omega, by go_num, val_int ?_⟩, by simp [intOf]; omega⟩
      rw [HS.out]; simp [List.getD_eq_getElem?_getD, show k < ps.length by omega]
    · go_wp2
      rw [not_u32 _ hs]
      go_ret
      exact ⟨ret_int (by rw [List.take_of_length_le (by omega)]; rfl), hb2⟩
end Go.Proofs.Ytfmjknknckjdiaa

namespace Go.Proofs.Ytfmjknknckjdiaa
open Go.RowKit

/-- A row that the call itself has made, in its last block. -/
theorem bs_new (w : World) (zs : List Int) (fr : Nat × Nat) (hz : ∀ z ∈ zs, 0 ≤ z ∧ z < 256) : Bs (w.alloc (.cells (zs.map (Value.int .u8)).toArray 5 fr)) (some ⟨w.heap.size, 0, none⟩) zs.length zs := by
  refine ⟨rfl, hz, fun _ => ⟨_, _, rfl, fun i hi => ?_⟩⟩
  rw [World.cell?_alloc_mark]
  simp [hi]

theorem parts_none (w : World) (a : Option Addr) : Parts w a 0 [] := ⟨rfl, fun h => absurd h (by omega)⟩

theorem parts_one {w : World} {b : Nat} {a1 : Option Addr} {l1 c1 : Nat} {z1 : List Int} (h1 : w.cell? ⟨b, 0, none⟩ = some (.slice a1 l1 c1)) (m1 : l1 ≤ maxLen) (k1 : Bs w a1 l1 z1) : Parts w (some ⟨b, 0, none⟩) 1 [z1] := by
  refine ⟨rfl, fun _ => ⟨_, _, rfl, fun i hi => ?_⟩⟩
  obtain rfl : i = 0 := by omega
  exact ⟨a1, l1, c1, h1, m1, k1⟩

theorem parts_two {w : World} {b : Nat} {a1 a2 : Option Addr} {l1 c1 l2 c2 : Nat} {z1 z2 : List Int} (h1 : w.cell? ⟨b, 0, none⟩ = some (.slice a1 l1 c1)) (m1 : l1 ≤ maxLen) (k1 : Bs w a1 l1 z1)
    (h2 : w.cell? ⟨b, 1, none⟩ = some (.slice a2 l2 c2)) (m2 : l2 ≤ maxLen) (k2 : Bs w a2 l2 z2) : Parts w (some ⟨b, 0, none⟩) 2 [z1, z2] := by
  refine ⟨rfl, fun _ => ⟨_, _, rfl, fun i hi => ?_⟩⟩
  rcases (show i = 0 ∨ i = 1 by omega) with rfl | rfl
  · exact ⟨a1, l1, c1, h1, m1, k1⟩
  · exact ⟨a2, l2, c2, h2, m2, k2⟩

theorem example_sum : crcSum [49, 50, 51, 52, 53, 54, 55, 56, 57] = 3421780262 := by decide +kernel

end Go.Proofs.Ytfmjknknckjdiaa

namespace Go.Proofs.Ytfmjknknckjdiaa
open Go.RowKit

theorem conv_bs {w : World} {a : Option Addr} {len : Nat} {zs : List Int} (h : Bs w a len zs) (cap : Nat) :
    (convert 22 9 (.slice a len cap)).run Try.prog w = .ok (.string (strOfNums zs)) w := by
  obtain ⟨h1, h2, h3⟩ := h
  rcases Nat.eq_zero_or_pos len with rfl | hp
  · obtain rfl : zs = [] := List.length_eq_zero_iff.1 h1
    cases a with
    | none => exact run_convert_bytes_nil w 22 5 Try.underlying22 Try.underlying5 0 cap 9 Try.underlying9
    | some x =>
      rw [run_convert_bytes_string w 22 9 5 _ 0 cap Try.underlying22 Try.underlying5 Try.underlying9, run_bytesToString w x 0 cap [] (run_loadCells_list (P := Try.prog) w x [] (fun j v hj => by simp at hj))]
      rfl
  · obtain ⟨b, off, rfl, hc⟩ := h3 hp
    exact run_convert_bytes_arg w 22 5 Try.underlying22 Try.underlying5 b off len cap zs h1 hc 9 Try.underlying9

theorem strOfNums_inj {x y : List Int} (hx : ∀ z ∈ x, 0 ≤ z ∧ z < 256) (hy : ∀ z ∈ y, 0 ≤ z ∧ z < 256) (h : (strOfNums x).toList = (strOfNums y).toList) : x = y := by
  have h1 : x.map (fun n => UInt8.ofNat n.toNat) = y.map (fun n => UInt8.ofNat n.toNat) := by
    rw [← strOfNums_data, ← strOfNums_data, ← ByteArray.toList_eq, ← ByteArray.toList_eq, h]
  have h2 : ∀ l : List Int, (∀ z ∈ l, 0 ≤ z ∧ z < 256) → (l.map (fun n => UInt8.ofNat n.toNat)).map (fun u => ((u.toNat : Nat) : Int)) = l := by
    intro l hl
    rw [List.map_map]
    conv => rhs; rw [← List.map_id l]
    apply List.map_congr_left
    intro z hz
    have := hl z hz
    simp
    omega
  rw [← h2 x hx, ← h2 y hy, h1]

theorem str_beq {x y : List Int} (hx : ∀ z ∈ x, 0 ≤ z ∧ z < 256) (hy : ∀ z ∈ y, 0 ≤ z ∧ z < 256) : ((strOfNums x).toList == (strOfNums y).toList) = decide (x = y) := by
  by_cases h : x = y
  · subst h; simp
  · rw [decide_eq_false h]
    exact beq_eq_false_iff_ne.2 (fun e => h (strOfNums_inj hx hy e))

set_option maxHeartbeats 400000 in
theorem same_any {w : World} {a b : Option Addr} {la ca lb cb : Nat} {x y : List Int} (hx : Bs w a la x) (hy : Bs w b lb y) :
    Calls Try.prog 12 #[.slice a la ca, .slice b lb cb] w fun e w' => e = .returned (.bool (decide (x = y))) ∧ w' = w := by
  have k1 := conv_bs hx ca
  have k2 := conv_bs hy cb
  go_enter Try.func12, Try.ntmps12
  go_wp2
  rw [str_beq hx.2.1 hy.2.1]
  go_ret
  exact ⟨rfl, rfl⟩

theorem info5 : (Try.prog.info? 5).map (fun i => (i.zero, i.size, i.bytes)) = some (some (.int .u8 0), 1, 1) := by kernel_rfl

/-- The cells of a row of bytes. -/
def byteVals (zs : List Int) : List Value := zs.map (Value.int .u8)

/-- An owned row of bytes reads as a slice. -/
theorem bs_owned {w : World} {base : Nat} {v : Value} {n : Nat} {zs : List Int} (h : w.ownsRow base 5 1 v n (byteVals zs)) (hz : ∀ z ∈ zs, 0 ≤ z ∧ z < 256) :
    ∃ a cap, v = .slice a n cap ∧ Bs w a n zs ∧ n ≤ cap ∧ n ≤ maxLen := by
  have hl : zs.length = n := by have := h.1; simpa [byteVals] using this
  rcases h.2 with ⟨rfl, rfl⟩ | ⟨g, cap, cur, rfl, hb, hg, hnc, hcm, hcs, ht⟩
  · exact ⟨none, 0, rfl, ⟨hl, hz, fun h => absurd h (by omega)⟩, Nat.le_refl _, Nat.zero_le _⟩
  · refine ⟨_, cap, rfl, ⟨hl, hz, fun _ => ⟨g, 0, rfl, fun i hi => ?_⟩⟩, hnc, by omega⟩
    have := h.cellAt i (by omega)
    rw [Nat.zero_add, this]
    simp [byteVals, show i < zs.length by omega]

/-- Bytes are put behind a row of the call's own. -/
theorem run_append_bs (w : World) (base ty : Nat) (v : Value) (n : Nat) (xs : List Value) (hown : w.ownsRow base 5 1 v n xs) (a : Option Addr) (m c : Nat) (zs : List Int) (hb : Bs w a m zs)
    (hbytes : n + m ≤ 140737488355328) (hbase : base ≤ w.heap.size) :
    ∃ v' w', (Builtin.append_ #[22, 22] ty #[v, .slice a m c]).run Try.prog w = .ok v' w' ∧ w'.ownsRow base 5 1 v' (n + m) (xs ++ byteVals zs) ∧ w.grownBy w' v.ownBlock := by
  obtain ⟨i0, hi, hz0, hz1, hz2⟩ := info_parts info5
  obtain ⟨h1, h2, h3⟩ := hb
  cases a with
  | none =>
    obtain rfl : m = 0 := by
      rcases Nat.eq_zero_or_pos m with h | h
      · exact h
      · obtain ⟨_, _, e, _⟩ := h3 h; cases e
    obtain rfl : zs = [] := List.length_eq_zero_iff.1 h1
    refine ⟨v, w, ?_, by simpa [byteVals] using hown, ⟨rfl, rfl, rfl, Nat.le_refl _, fun _ _ _ => rfl⟩⟩
    rcases hown.2 with ⟨rfl, rfl⟩ | ⟨g, cap, cur, rfl, _, _, hnc, _⟩
    · simp [Builtin.append_, run_underlying Try.underlying22, sizeOf, typeInfo, hi, Builtin.lenOf, Builtin.firstCells]
    · simp [Builtin.append_, run_underlying Try.underlying22, sizeOf, typeInfo, hi, Builtin.lenOf, Builtin.firstCells, hnc, storeCells]
  | some ad =>
    have hnews : ∀ j u, (byteVals zs)[j]? = some u → w.cell? (ad.add j) = some u := by
      intro j u hj
      have hjl : j < zs.length := by
        rcases Nat.lt_or_ge j zs.length with h | h
        · exact h
        · rw [List.getElem?_eq_none (by simpa [byteVals] using h)] at hj; cases hj
      obtain ⟨b, off, e, hc⟩ := h3 (by omega)
      cases e
      have := hc j (by omega)
      rw [Addr.add_lit, this]
      simp [byteVals, hjl] at hj
      simp [hjl, hj]
    obtain ⟨v', w', hr, h4, h5, _⟩ := run_append_own (P := Try.prog) w base 22 ty 5 i0 (.int .u8 0) 1 1 Try.underlying22 hi hz0 hz1 hz2 rfl (by decide) v n xs hown ad m c (byteVals zs) (by simp [byteVals, h1]) hnews
      (by intro u hu; simp [byteVals] at hu; obtain ⟨z, _, rfl⟩ := hu; rfl) (by unfold maxLen; omega) (by omega) hbase
    exact ⟨v', w', hr, h4, h5⟩

theorem wpList_append_bs {w : World} {ops : Array Oper} {rest : List Oper} {o : Oper} {a : Act} {Q : Exit → Act → World → Prop} (hgd : o.guard = none) (s x : Operand)
    (ho : o.op = .call { callee := .builtin .append, args := #[s, x], argTypes := #[22, 22] }) (base : Nat)
    (v : Value) (n : Nat) (xs : List Value) (hs : a.eval s = v) (hown : w.ownsRow base 5 1 v n xs) (ad : Option Addr) (m c : Nat) (zs : List Int) (hx : a.eval x = .slice ad m c) (hb : Bs w ad m zs)
    (hbytes : n + m ≤ 140737488355328) (hbase : base ≤ w.heap.size)
    (h : ∀ v' w', w'.ownsRow base 5 1 v' (n + m) (xs ++ byteVals zs) → w.grownBy w' v.ownBlock → wpList Try.prog ops Q rest (a.put o.dst v') w') : wpList Try.prog ops Q (o :: rest) a w := by
  refine wpList_plain hgd fun K hK => ?_
  obtain ⟨v', w', hr, h2, h3⟩ := run_append_bs w base o.type v n xs hown ad m c zs hb hbytes hbase
  unfold Oper.wp execOp
  simp only [ho, resolve, invoke, builtin, Sem.run_bind, Sem.run_pure, Result.andThen_ok, List.map_toArray, List.map_cons, List.map_nil, hs, hx, hr]
  exact hK _ _ (h v' w' h2 h3)

theorem hide1 {p : Prop} (h : p) : Hid p := h

/-- The four bytes of a sum, the lowest first. -/
def bytesOf (s : Nat) : List Int := [((s % 256 : Nat) : Int), ((s / 256 % 256 : Nat) : Int), ((s / 65536 % 256 : Nat) : Int), ((s / 16777216 % 256 : Nat) : Int)]

theorem bytesOf_bytes (s : Nat) : ∀ z ∈ bytesOf s, 0 ≤ z ∧ z < 256 := by
  intro z hz
  simp only [bytesOf, List.mem_cons, List.not_mem_nil, or_false] at hz
  omega

theorem below_one (w : World) (o : Obj) : Below w.heap.size w (w.alloc o) := (Below.refl _ _).alloc (Nat.le_refl _) _

theorem bs_one (w : World) (z : Int) (hz : 0 ≤ z ∧ z < 256) : Bs (w.alloc (.cells #[.int .u8 z] 5)) (some ⟨w.heap.size, 0, none⟩) 1 [z] := bs_new w [z] (0, 0) (by simpa using hz)

theorem below_app {B : Nat} {w wr w' : World} {v : Value} {n : Nat} {xs : List Value} {o : Obj} (hb : Below B w wr) (hB : B ≤ w.heap.size) (hown : wr.ownsRow B 5 1 v n xs) (hg : (wr.alloc o).grownBy w' v.ownBlock) : Below B w w' :=
  (hb.alloc (Nat.le_trans hB hb.size) o).grown hg (by have := hb.size; simp; omega) (fun k e => (hown.lt k e).1)

set_option maxHeartbeats 400000 in
theorem bytes_any (s : Nat) (hs : s < 4294967296) (w : World) :
    Calls Try.prog 23 #[.int .u32 (s : Int)] w fun e w' => e = .returned (.slice (some ⟨w.heap.size, 0, none⟩) 4 4) ∧ Bs w' (some ⟨w.heap.size, 0, none⟩) 4 (bytesOf s) ∧ Below w.heap.size w w' := by
  have hn := bs_new w (bytesOf s) (0, 0) (bytesOf_bytes s)
  have e4 : (bytesOf s).map (Value.int .u8) = [.int .u8 ((s : Int) % 256), .int .u8 ((s : Int) / 256 % 256), .int .u8 ((s : Int) / 65536 % 256), .int .u8 ((s : Int) / 16777216)] := by
    have : s / 16777216 % 256 = s / 16777216 := by omega
    simp [bytesOf, this]
  rw [e4] at hn
  have HN := hide1 hn
  clear hn e4
  go_enter Try.func23, Try.ntmps23
  go_wp2
  go_ret
  exact ⟨rfl, HN.out, below_one _ _⟩

set_option maxHeartbeats 400000 in
theorem refBytes_own (s : Nat) (hs : s < 4294967296) (w : World) :
    Calls Try.prog 26 #[.int .u32 (s : Int)] w fun e w' => ∃ v, e = .returned v ∧ w'.ownsRow w.heap.size 5 1 v 4 (byteVals (bytesOf s)) ∧ Below w.heap.size w w' := by
  have hown0 := World.ownsRow_nil w w.heap.size 5 1
  go_enter Try.func26, Try.ntmps26
  go_wp2
  refine wp_loop_rounds 5 ?_
  rw [rounds_succ]
  go_wp2_with (at_builtin; refine wpList_append_bs rfl (.tmp 9) (.tmp 13) rfl w.heap.size _ 0 [] rfl (hown0.alloc _) _ 1 1 [(s : Int) % 256] rfl (bs_one _ _ (by omega)) (by omega) (by simp) ?_; intro v1 w1 hown1 hg1)
  have hb1 := below_app (Below.refl w.heap.size w) (Nat.le_refl _) hown0 hg1
  clear hown0 hg1
  rw [rounds_succ]
  go_wp2_with (at_builtin; refine wpList_append_bs rfl (.tmp 9) (.tmp 13) rfl w.heap.size _ (0 + 1) _ rfl (hown1.alloc _) _ 1 1 [(s : Int) / 256 % 256] rfl (bs_one _ _ (by omega)) (by omega) (by have := hb1.size; simp; omega) ?_; intro v2 w2 hown2 hg2)
  have hb2 := below_app hb1 (Nat.le_refl _) hown1 hg2
  clear hown1 hg2
  rw [rounds_succ]
  go_wp2_with (at_builtin; refine wpList_append_bs rfl (.tmp 9) (.tmp 13) rfl w.heap.size _ (0 + 1 + 1) _ rfl (hown2.alloc _) _ 1 1 [_] rfl (bs_one _ _ (by omega)) (by omega) (by have := hb2.size; simp; omega) ?_; intro v3 w3 hown3 hg3)
  have hb3 := below_app hb2 (Nat.le_refl _) hown2 hg3
  clear hown2 hg3
  rw [rounds_succ]
  go_wp2_with (at_builtin; refine wpList_append_bs rfl (.tmp 9) (.tmp 13) rfl w.heap.size _ (0 + 1 + 1 + 1) _ rfl (hown3.alloc _) _ 1 1 [_] rfl (bs_one _ _ (by omega)) (by omega) (by have := hb3.size; simp; omega) ?_; intro v4 w4 hown4 hg4)
  have hb4 := below_app hb3 (Nat.le_refl _) hown3 hg4
  clear hown3 hg4
  rw [rounds_succ]
  go_wp2
  go_ret
  have e4 : ([] ++ byteVals [(s : Int) % 256] ++ byteVals [(s : Int) / 256 % 256] ++ byteVals [(s : Int) / 256 / 256 % 256] ++ byteVals [(s : Int) / 256 / 256 / 256 % 256]) = byteVals (bytesOf s) := by
    have h3 : (s : Int) / 256 / 256 % 256 = (s : Int) / 65536 % 256 := by omega
    have h4 : (s : Int) / 256 / 256 / 256 % 256 = (s : Int) / 16777216 % 256 := by omega
    simp [byteVals, bytesOf, h3, h4]
  rw [e4] at hown4
  exact ⟨_, rfl, hown4, hb4⟩

theorem refBytes_any (s : Nat) (hs : s < 4294967296) (w : World) :
    Calls Try.prog 26 #[.int .u32 (s : Int)] w fun e w' => ∃ a cap, e = .returned (.slice a 4 cap) ∧ Bs w' a 4 (bytesOf s) ∧ Below w.heap.size w w' := by
  refine (refBytes_own s hs w).mono ?_
  rintro e w' ⟨v, rfl, hown, hb⟩
  obtain ⟨a, cap, rfl, hbs, _, _⟩ := bs_owned hown (bytesOf_bytes s)
  exact ⟨a, cap, rfl, hbs, hb⟩
end Go.Proofs.Ytfmjknknckjdiaa

namespace Go.Proofs.Ytfmjknknckjdiaa
open Go.RowKit

set_option maxHeartbeats 400000 in
theorem take_no (a : Option Addr) (len cap : Nat) (h : ¬ len = 4) (w : World) :
    Calls Try.prog 39 #[.slice a len cap] w fun e w' => e = .returned (.tuple #[.int .u32 0, .bool false]) ∧ w' = w := by
  have hne : ((len : Int) != 4) = true := by simp; omega
  go_enter Try.func39, Try.ntmps39
  go_wp2
  go_ret2
  exact ⟨rfl, rfl⟩

theorem or_four (c0 c1 c2 c3 : Nat) (k0 : c0 < 256) (k1 : c1 < 256) (k2 : c2 < 256) (k3 : c3 < 256) :
    bits BinOp.or IntKind.u32 (bits BinOp.or IntKind.u32 (bits BinOp.or IntKind.u32 (c0 : Int) ((c1 : Int) * 256)) ((c2 : Int) * 65536)) ((c3 : Int) * 16777216) = ((c0 + 256 * c1 + 65536 * c2 + 16777216 * c3 : Nat) : Int) := by
  have j1 : c0 ||| (c1 * 256) = c0 + 256 * c1 := by rw [Nat.or_comm, nat_join 8 (c1 * 256) c0 (by omega) (by omega)]; omega
  have j2 : (c0 + 256 * c1) ||| (c2 * 65536) = c0 + 256 * c1 + 65536 * c2 := by rw [Nat.or_comm, nat_join 16 (c2 * 65536) _ (by omega) (by omega)]; omega
  have j3 : (c0 + 256 * c1 + 65536 * c2) ||| (c3 * 16777216) = c0 + 256 * c1 + 65536 * c2 + 16777216 * c3 := by rw [Nat.or_comm, nat_join 24 (c3 * 16777216) _ (by omega) (by omega)]; omega
  have e1 := u32_or_nat c0 (c1 * 256) (by omega) (by omega)
  have e2 := u32_or_nat (c0 + 256 * c1) (c2 * 65536) (by omega) (by omega)
  have e3 := u32_or_nat (c0 + 256 * c1 + 65536 * c2) (c3 * 16777216) (by omega) (by omega)
  rw [j1] at e1; rw [j2] at e2; rw [j3] at e3
  have f1 : ((c1 : Int) * 256) = ((c1 * 256 : Nat) : Int) := by omega
  have f2 : ((c2 : Int) * 65536) = ((c2 * 65536 : Nat) : Int) := by omega
  have f3 : ((c3 : Int) * 16777216) = ((c3 * 16777216 : Nat) : Int) := by omega
  rw [f1, f2, f3, e1, e2, e3]

set_option maxHeartbeats 400000 in
theorem take_yes (b off cap : Nat) (c0 c1 c2 c3 : Nat) (k0 : c0 < 256) (k1 : c1 < 256) (k2 : c2 < 256) (k3 : c3 < 256) (w : World)
    (h0 : w.cell? ⟨b, off, none⟩ = some (.int .u8 (c0 : Int))) (h1 : w.cell? ⟨b, off + 1, none⟩ = some (.int .u8 (c1 : Int))) (h2 : w.cell? ⟨b, off + 2, none⟩ = some (.int .u8 (c2 : Int))) (h3 : w.cell? ⟨b, off + 3, none⟩ = some (.int .u8 (c3 : Int))) :
    Calls Try.prog 39 #[.slice (some ⟨b, off, none⟩) 4 cap] w fun e w' => e = .returned (.tuple #[.int .u32 ((c0 + 256 * c1 + 65536 * c2 + 16777216 * c3 : Nat) : Int), .bool true]) ∧ Below w.heap.size w w' := by
  go_enter Try.func39, Try.ntmps39
  go_wp2
  go_quiet (fail)
  go_wp2
  go_ret2
  refine ⟨?_, below_drewN (Below.refl _ _) nq⟩
  rw [or_four c0 c1 c2 c3 k0 k1 k2 k3]
  rfl

/-- The number of four bytes, the lowest first. -/
def numOf (zs : List Int) : Nat := (zs.getD 0 0).toNat + 256 * (zs.getD 1 0).toNat + 65536 * (zs.getD 2 0).toNat + 16777216 * (zs.getD 3 0).toNat

theorem take_four {w : World} {a : Option Addr} {zs : List Int} (cap : Nat) (hb : Bs w a 4 zs) :
    Calls Try.prog 39 #[.slice a 4 cap] w fun e w' => e = .returned (.tuple #[.int .u32 ((numOf zs : Nat) : Int), .bool true]) ∧ Below w.heap.size w w' := by
  obtain ⟨h1, h2, h3⟩ := hb
  obtain ⟨b, off, rfl, hc⟩ := h3 (by omega)
  have g : ∀ i, i < 4 → ((zs.getD i 0).toNat : Int) = zs.getD i 0 ∧ (zs.getD i 0).toNat < 256 := fun i hi => by
    have := h2 _ (getD_mem (l := zs) (k := i) (by omega))
    omega
  have c : ∀ i, i < 4 → w.cell? ⟨b, off + i, none⟩ = some (.int .u8 ((zs.getD i 0).toNat : Int)) := fun i hi => by rw [(g i hi).1]; exact hc i hi
  exact take_yes b off cap _ _ _ _ (g 0 (by omega)).2 (g 1 (by omega)).2 (g 2 (by omega)).2 (g 3 (by omega)).2 w (c 0 (by omega)) (c 1 (by omega)) (c 2 (by omega)) (c 3 (by omega))

theorem numOf_lt (zs : List Int) (hl : zs.length = 4) (hz : ∀ z ∈ zs, 0 ≤ z ∧ z < 256) : numOf zs < 4294967296 := by
  have g : ∀ i, i < 4 → (zs.getD i 0).toNat < 256 := fun i hi => by
    have := hz _ (getD_mem (l := zs) (k := i) (by omega))
    omega
  have := g 0 (by omega); have := g 1 (by omega); have := g 2 (by omega); have := g 3 (by omega)
  unfold numOf; omega

theorem numOf_bytesOf (s : Nat) (h : s < 4294967296) : numOf (bytesOf s) = s := by
  simp [numOf, bytesOf]; omega

theorem bytesOf_numOf (zs : List Int) (hl : zs.length = 4) (hz : ∀ z ∈ zs, 0 ≤ z ∧ z < 256) : bytesOf (numOf zs) = zs := by
  match zs, hl with
  | [a, b, c, d], _ =>
    have ha := hz a (by simp); have hb := hz b (by simp); have hc := hz c (by simp); have hd := hz d (by simp)
    obtain ⟨a, rfl⟩ := Int.eq_ofNat_of_zero_le ha.1
    obtain ⟨b, rfl⟩ := Int.eq_ofNat_of_zero_le hb.1
    obtain ⟨c, rfl⟩ := Int.eq_ofNat_of_zero_le hc.1
    obtain ⟨d, rfl⟩ := Int.eq_ofNat_of_zero_le hd.1
    have e : numOf [(a : Int), (b : Int), (c : Int), (d : Int)] = a + 256 * b + 65536 * c + 16777216 * d := by simp [numOf]
    rw [e]
    unfold bytesOf
    have e1 : (a + 256 * b + 65536 * c + 16777216 * d) % 256 = a := by omega
    have e2 : (a + 256 * b + 65536 * c + 16777216 * d) / 256 % 256 = b := by omega
    have e3 : (a + 256 * b + 65536 * c + 16777216 * d) / 65536 % 256 = c := by omega
    have e4 : (a + 256 * b + 65536 * c + 16777216 * d) / 16777216 % 256 = d := by omega
    rw [e1, e2, e3, e4]

/-- What the walk is told of a slice of integers that came in: nil, or a row of 'cap' cells, the first 'len' of them its elements. -/
def IsRow (k : IntKind) (w : World) (a : Option Addr) (len cap : Nat) (zs : List Int) : Prop :=
  (a = none ∧ len = 0 ∧ cap = 0 ∧ zs = []) ∨
  ∃ x, a = some x ∧ len ≤ cap ∧ cap ≤ maxLen ∧ zs.length = cap ∧ (∀ i, i < zs.length → w.cell? (x.add i) = some (.int k (zs.getD i 0))) ∧ ∀ n ∈ zs, (Lit.int k n).wf = true

theorem bs_of_row {w : World} {a : Option Addr} {len cap : Nat} {zs : List Int} (h : IsRow .u8 w a len cap zs) : Bs w a len (zs.take len) ∧ len ≤ maxLen := by
  rcases h with ⟨rfl, rfl, rfl, rfl⟩ | ⟨x, rfl, hl, hm, hz, hcell, hwz⟩
  · exact ⟨⟨rfl, fun z hz => by simp at hz, fun h => absurd h (by omega)⟩, Nat.zero_le _⟩
  · refine ⟨⟨by simp; omega, fun z hz' => ?_, fun hp => ?_⟩, by omega⟩
    · have := hwz z (List.mem_of_mem_take hz')
      simp only [Lit.wf, Bool.and_eq_true, decide_eq_true_eq] at this
      have e1 : IntKind.u8.min = 0 := rfl
      have e2 : IntKind.u8.max = 255 := rfl
      omega
    · obtain ⟨b, off, spot⟩ := x
      have hc := hcell 0 (by omega)
      have hspot : spot = none := by simpa [Addr.add] using World.cell?_spot hc
      subst hspot
      refine ⟨b, off, rfl, fun i hi => ?_⟩
      have := hcell i (by omega)
      rw [Addr.add_lit] at this
      rw [this]
      simp [List.getD_eq_getElem?_getD, hi]
end Go.Proofs.Ytfmjknknckjdiaa

namespace Go.Proofs.Ytfmjknknckjdiaa
open Go.RowKit

/-- Bit number i of a text. -/
def bitAt (zs : List Int) (i : Nat) : Nat := (zs.getD (i / 8) 0).toNat / 2 ^ (i % 8) % 2

/-- The register behind the first so many bits. -/
def bitRun (zs : List Int) : Nat → Nat
  | 0 => 4294967295
  | i + 1 => stp (bitRun zs i ^^^ bitAt zs i)

theorem bitAt_lt (zs : List Int) (i : Nat) : bitAt zs i < 2 := by unfold bitAt; omega

theorem bitRun_lt (zs : List Int) (i : Nat) : bitRun zs i < 4294967296 := by
  induction i with
  | zero => show 4294967295 < 4294967296; omega
  | succ i ih => exact stp_lt _ (Nat.xor_lt_two_pow (n := 32) ih (by have := bitAt_lt zs i; omega))

theorem stp_bit (x b : Nat) (hb : b < 2) : stp (x ^^^ b) = if x % 2 = b then x / 2 else x / 2 ^^^ 3988292384 := by
  unfold stp
  rw [xor_half, xor_par]
  rcases (show b = 0 ∨ b = 1 by omega) with rfl | rfl <;> rcases Nat.mod_two_eq_zero_or_one x with h | h <;> simp [h]

theorem and_one (x : Nat) (h : x < 4294967296) : bits BinOp.and IntKind.u32 (x : Int) 1 = ((x % 2 : Nat) : Int) := by
  have e := u32_and_nat x 1 h (by omega)
  simp only [Int.cast_ofNat_Int, nat_mask1] at e
  exact e

theorem and_bit (c n : Nat) (h : c < 256) : bits BinOp.and IntKind.u32 ((c : Int) / 2 ^ n % 4294967296) 1 = ((c / 2 ^ n % 2 : Nat) : Int) := by
  have hl : c / 2 ^ n < 4294967296 := Nat.lt_of_le_of_lt (Nat.div_le_self _ _) (by omega)
  have e : (c : Int) / 2 ^ n % 4294967296 = ((c / 2 ^ n : Nat) : Int) := by
    have : ((c / 2 ^ n : Nat) : Int) = (c : Int) / 2 ^ n := by simp
    rw [← this]; generalize c / 2 ^ n = q at hl ⊢; omega
  rw [e]; exact and_one _ hl

theorem ref_odd (x c n : Nat) (hx : x < 4294967296) (hc : c < 256) (h : (bits BinOp.and IntKind.u32 (x : Int) 1 != bits BinOp.and IntKind.u32 ((c : Int) / 2 ^ n % 4294967296) 1) = true) :
    bits BinOp.xor IntKind.u32 ((x : Int) / 2) 3988292384 = ((stp (x ^^^ (c / 2 ^ n % 2)) : Nat) : Int) := by
  rw [and_one x hx, and_bit c n hc] at h
  have h1 : ¬ x % 2 = c / 2 ^ n % 2 := by intro e; rw [e] at h; simp at h
  have x1 := u32_xor_nat (x / 2) 3988292384 (by omega) (by omega)
  simp only [Int.natCast_ediv, Int.cast_ofNat_Int] at x1
  rw [x1, stp_bit _ _ (by omega), if_neg h1]

theorem ref_even (x c n : Nat) (hx : x < 4294967296) (hc : c < 256) (h : (bits BinOp.and IntKind.u32 (x : Int) 1 != bits BinOp.and IntKind.u32 ((c : Int) / 2 ^ n % 4294967296) 1) = false) :
    ((x : Int) / 2) = ((stp (x ^^^ (c / 2 ^ n % 2)) : Nat) : Int) := by
  rw [and_one x hx, and_bit c n hc] at h
  have h1 : x % 2 = c / 2 ^ n % 2 := by
    have := bne_eq_false_iff_eq.1 h
    omega
  rw [stp_bit _ _ (by omega), if_pos h1]; omega

theorem stp_down (x c : Nat) : stp (x ^^^ c) = stp (x ^^^ (c % 2)) ^^^ (c / 2) := by
  have e := split_low c 1
  simp only [Nat.pow_one] at e
  have h2 : stp (c / 2 * 2) = c / 2 := by rw [stp_even _ (by omega)]; omega
  have h3 : stp c = c / 2 ^^^ stp (c % 2) := by
    conv => lhs; rw [e]
    rw [stp_xor, h2]
  rw [stp_xor, stp_xor, h3, Nat.xor_assoc, Nat.xor_comm (stp (c % 2))]

theorem bitRun_byte (zs : List Int) (k j : Nat) (hj : j ≤ 8) : bitRun zs (8 * k + j) ^^^ ((zs.getD k 0).toNat / 2 ^ j) = stps j (bitRun zs (8 * k) ^^^ (zs.getD k 0).toNat) := by
  induction j with
  | zero => simp [stps]
  | succ j ih =>
    have e1 : bitAt zs (8 * k + j) = (zs.getD k 0).toNat / 2 ^ j % 2 := by
      unfold bitAt
      rw [show (8 * k + j) / 8 = k from by omega, show (8 * k + j) % 8 = j from by omega]
    rw [stps_succ, ← ih (by omega)]
    show stp (bitRun zs (8 * k + j) ^^^ bitAt zs (8 * k + j)) ^^^ _ = _
    rw [e1, stp_down (bitRun zs (8 * k + j)) ((zs.getD k 0).toNat / 2 ^ j), Nat.pow_succ, Nat.div_div_eq_div_mul]

theorem bitRun_crc (zs : List Int) (hz : ∀ z ∈ zs, 0 ≤ z ∧ z < 256) (k : Nat) (hk : k ≤ zs.length) : bitRun zs (8 * k) = crcRun 4294967295 (zs.take k) := by
  induction k with
  | zero => rfl
  | succ k ih =>
    have h := bitRun_byte zs k 8 (by omega)
    have hc := hz _ (getD_mem (l := zs) (k := k) (by omega))
    rw [show (zs.getD k 0).toNat / 2 ^ 8 = 0 from by omega, Nat.xor_zero] at h
    rw [show 8 * (k + 1) = 8 * k + 8 from by omega, h, take_snoc zs k (by omega), crcRun_snoc, ih (by omega)]

set_option maxHeartbeats 400000 in
theorem refOf_any (a : Option Addr) (len cap : Nat) (zs : List Int) (w : World) (hb : Bs w a len zs) (hm : len ≤ 1000000) :
    Calls Try.prog 27 #[.slice a len cap] w fun e w' => e = .returned (.int .u32 ((crcSum zs : Nat) : Int)) ∧ w' = w := by
  obtain ⟨hz, hby, hc⟩ := hb
  go_enter Try.func27, Try.ntmps27
  go_wp2
  go_loop [3, 4] (fun x i => ∃ k : Nat, k ≤ 8 * len ∧ i = .int .i64 k ∧ x = .int .u32 ((bitRun zs k : Nat) : Int)) (fun _ i => 8 * len - (intOf i).toNat)
  case atStart => exact ⟨0, by omega, rfl, rfl⟩
  case round =>
    obtain ⟨k, hk, rfl, rfl⟩ := hrel
    have hs := bitRun_lt zs k
    by_cases hlt : k < 8 * len
    · obtain ⟨b', off, rfl, hcell⟩ := hc (by omega)
      have hck := hcell (k / 8) (by omega)
      have hbk := hby _ (getD_mem (l := zs) (k := k / 8) (by omega))
      have hba : bitAt zs k = (zs.getD (k / 8) 0).toNat / 2 ^ (k % 8) % 2 := rfl
      generalize hcc : zs.getD (k / 8) 0 = c at *
      obtain ⟨c, rfl⟩ := Int.eq_ofNat_of_zero_le hbk.1
      have hc256 : c < 256 := by omega
      have HB := hide1 hba
      clear hcc hc hcell hbk hba
      go_wp2
      all_goals refine ⟨⟨k + 1, by omega, by go_num, val_int ?_⟩, by simp [intOf]; omega⟩
      · show _ = ((stp (bitRun zs k ^^^ bitAt zs k) : Nat) : Int)
        rw [HB.out]; exact ref_odd _ _ _ hs hc256 ‹_›
      · show _ = ((stp (bitRun zs k ^^^ bitAt zs k) : Nat) : Int)
        rw [HB.out]; exact ref_even _ _ _ hs hc256 ‹_›
    · go_wp2
      go_ret
      have e : k = 8 * len := by omega
      refine ⟨ret_int ?_, rfl⟩
      unfold crcSum
      have h1 := bitRun_crc zs hby len (by omega)
      rw [List.take_of_length_le (by omega)] at h1
      rw [← h1, ← e]
      omega
end Go.Proofs.Ytfmjknknckjdiaa

namespace Go.Proofs.Ytfmjknknckjdiaa
open Go.RowKit

theorem owned_form {w : World} {base : Nat} {v : Value} {n : Nat} {zs : List Int} (h : w.ownsRow base 5 1 v n (byteVals zs)) (hn : 0 < n) :
    ∃ g cap, v = .slice (some ⟨g, 0, none⟩) n cap ∧ base ≤ g ∧ n ≤ cap ∧ cap ≤ maxLen ∧ ∀ j, j < n → w.cell? ⟨g, j, none⟩ = some (.int .u8 (zs.getD j 0)) := by
  have hl : zs.length = n := by have := h.1; simpa [byteVals] using this
  rcases h.2 with ⟨rfl, rfl⟩ | ⟨g, cap, cur, rfl, hb, hg, hnc, hcm, hcs, ht⟩
  · omega
  · refine ⟨g, cap, rfl, hb, hnc, hcm, fun j hj => ?_⟩
    have := h.cellAt j (by omega)
    rw [this]
    simp [byteVals, show j < zs.length by omega]

/-- A copy with its two marks. -/
def Kpt (w : World) (g len cap : Nat) (zs : List Int) : Prop :=
  zs.length = len ∧ (∀ z ∈ zs, 0 ≤ z ∧ z < 256) ∧ len + 2 ≤ cap ∧ cap ≤ maxLen ∧ ∀ j, j < len + 2 → w.cell? ⟨g, j, none⟩ = some (.int .u8 ((zs ++ [165, 90]).getD j 0))

theorem Kpt.later {w w' : World} {g len cap : Nat} {zs : List Int} (h : Kpt w g len cap zs) (hb : Below w.heap.size w w') : Kpt w' g len cap zs :=
  ⟨h.1, h.2.1, h.2.2.1, h.2.2.2.1, fun j hj => cell_later hb (h.2.2.2.2 j hj)⟩

theorem Kpt.bs {w : World} {g len cap : Nat} {zs : List Int} (h : Kpt w g len cap zs) : Bs w (some ⟨g, 0, none⟩) len zs := by
  obtain ⟨h1, h2, _, _, h5⟩ := h
  refine ⟨h1, h2, fun _ => ⟨g, 0, rfl, fun i hi => ?_⟩⟩
  rw [Nat.zero_add, h5 i (by omega)]
  simp [List.getD_eq_getElem?_getD, List.getElem?_append, show i < zs.length by omega]

theorem bs_two (w : World) : Bs (w.alloc (.cells #[.int .u8 165, .int .u8 90] 5)) (some ⟨w.heap.size, 0, none⟩) 2 [165, 90] := bs_new w [165, 90] (0, 0) (by decide)

theorem copy_end {w : World} {base : Nat} {v : Value} {len : Nat} {zs : List Int} (h : w.ownsRow base 5 1 v (0 + len + 2) ([] ++ byteVals zs ++ byteVals [165, 90])) :
    ∃ g cap, v = .slice (some ⟨g, 0, none⟩) (len + 2) cap ∧ len + 2 ≤ cap ∧ cap ≤ maxLen ∧ ∀ j, j < len + 2 → w.cell? ⟨g, j, none⟩ = some (.int .u8 ((zs ++ [165, 90]).getD j 0)) := by
  have e : [] ++ byteVals zs ++ byteVals [165, 90] = byteVals (zs ++ [165, 90]) := by simp [byteVals]
  rw [e, Nat.zero_add] at h
  obtain ⟨g, cap, hv, _, h2, h3, h4⟩ := owned_form h (by omega)
  exact ⟨g, cap, hv, h2, h3, h4⟩

set_option maxHeartbeats 400000 in
theorem copy_any (a : Option Addr) (len cap : Nat) (zs : List Int) (w : World) (hb : Bs w a len zs) (hm : len ≤ 1000000) :
    Calls Try.prog 9 #[.slice a len cap] w fun e w' => ∃ g cap', e = .returned (.slice (some ⟨g, 0, none⟩) len cap') ∧ Kpt w' g len cap' zs ∧ Below w.heap.size w w' := by
  obtain ⟨i0, hi, hz0, hz1, hz2⟩ := info_parts info5
  obtain ⟨w1, hmk, hown0, hg0⟩ := run_make_own (P := Try.prog) w w.heap.size 22 5 i0 (.int .u8 0) 1 Try.underlying22 hi hz0 hz1 .i64 .i64 (len + 2) (by rw [hz2]; omega) (by unfold maxLen; omega) (Nat.le_refl _)
  have ec : ((len + 2 : Nat) : Int) = (len : Int) + 2 := by omega
  rw [ec] at hmk
  have hb1 : Below w.heap.size w w1 := (Below.refl _ _).grown hg0 (Nat.le_refl _) (fun k e => by cases e)
  have hbs1 := hb.later hb1
  clear ec hi hz0 hz1 hz2 hg0
  go_enter Try.func9, Try.ntmps9
  go_wp2_with (first
    | (at_builtin; refine wpList_append_bs rfl (.tmp 6) (.tmp 7) rfl w.heap.size (.slice (some ⟨w.heap.size, 0, none⟩) 0 (len + 2)) 0 [] rfl hown0 a len cap zs rfl hbs1 (by omega) hb1.size ?_; intro v2 w2 hown2 hg2; have hb2 := hb1.grown hg2 hb1.size (fun k e => (hown0.lt k e).1); clear hown0 hg2)
    | (at_builtin; refine wpList_append_bs rfl (.tmp 8) (.tmp 9) rfl w.heap.size v2 (0 + len) ([] ++ byteVals zs) rfl (hown2.alloc _) _ 2 2 [165, 90] rfl (bs_two _) (by omega) (by have := hb2.size; simp; omega) ?_; intro v3 w3 hown3 hg3; have hb3 := below_app hb2 (Nat.le_refl _) hown2 hg3; have hx3 := copy_end hown3; obtain ⟨g, cap3, hv3, hcap3, hm3, hc3⟩ := hx3; clear hown2 hg3 hown3))
  go_ret
  exact ⟨g, cap3, rfl, ⟨hb.1, hb.2.1, hcap3, hm3, hc3⟩, hb3⟩

set_option maxHeartbeats 400000 in
theorem kept_any (g len cap : Nat) (a : Option Addr) (cap' : Nat) (zs : List Int) (w : World) (hk : Kpt w g len cap zs) (hb : Bs w a len zs) :
    Calls Try.prog 13 #[.slice (some ⟨g, 0, none⟩) len cap, .slice a len cap'] w fun e w' => e = .returned (.bool true) ∧ w' = w := by
  have k1 := conv_bs hk.bs cap
  have k2 := conv_bs hb cap'
  obtain ⟨h1, h2, h3, h4, h5⟩ := hk
  unfold maxLen at h4
  have c1 : w.cell? ⟨g, len, none⟩ = some (.int .u8 165) := by
    have := h5 len (by omega)
    simpa [List.getD_eq_getElem?_getD, List.getElem?_append, h1] using this
  have c2 : w.cell? ⟨g, len + 1, none⟩ = some (.int .u8 90) := by
    have := h5 (len + 1) (by omega)
    simpa [List.getD_eq_getElem?_getD, List.getElem?_append, h1] using this
  clear h5
  go_enter Try.func13, Try.ntmps13
  go_wp2
  go_ret
  exact ⟨rfl, rfl⟩

theorem more_sum (x y : List Int) (hx : ∀ z ∈ x, 0 ≤ z ∧ z < 256) : 4294967295 - crcRun (4294967295 - crcSum x) y = crcSum (x ++ y) := by
  have h := crcRun_lt 4294967295 x (by omega) hx
  unfold crcSum
  rw [show 4294967295 - (4294967295 - crcRun 4294967295 x) = crcRun 4294967295 x from by omega, crcRun_append]

theorem crcSum_lt (x : List Int) : crcSum x < 4294967296 := by unfold crcSum; omega

theorem ownsRow_empty (w : World) (base : Nat) (hb : base ≤ w.heap.size) : (w.alloc (.cells #[] 5)).ownsRow base 5 1 (.slice (some ⟨w.heap.size, 0, none⟩) 0 0) 0 [] :=
  World.ownsRow_lit w #[] 0 hb (Nat.zero_le _) rfl

theorem parts_new1 (w : World) {a1 : Option Addr} {l1 c1 : Nat} {z1 : List Int} (k1 : Bs w a1 l1 z1) (m1 : l1 ≤ maxLen) : Parts (w.alloc (.cells #[.slice a1 l1 c1] 22)) (some ⟨w.heap.size, 0, none⟩) 1 [z1] :=
  parts_one (c1 := c1) (by rw [World.cell?_alloc_mark]; rfl) m1 (k1.later (below_one _ _))

theorem parts_new2 (w : World) {a1 a2 : Option Addr} {l1 c1 l2 c2 : Nat} {z1 z2 : List Int} (k1 : Bs w a1 l1 z1) (m1 : l1 ≤ maxLen) (k2 : Bs w a2 l2 z2) (m2 : l2 ≤ maxLen) :
    Parts (w.alloc (.cells #[.slice a1 l1 c1, .slice a2 l2 c2] 22)) (some ⟨w.heap.size, 0, none⟩) 2 [z1, z2] :=
  parts_two (c1 := c1) (c2 := c2) (by rw [World.cell?_alloc_mark]; rfl) m1 (k1.later (below_one _ _)) (by rw [World.cell?_alloc_mark]; rfl) m2 (k2.later (below_one _ _))
end Go.Proofs.Ytfmjknknckjdiaa

namespace Go.Proofs.Ytfmjknknckjdiaa
open Go.RowKit

def IsB (zs : List Int) : Prop := ∀ z ∈ zs, 0 ≤ z ∧ z < 256
theorem IsB.take {zs : List Int} (h : IsB zs) (k : Nat) : IsB (zs.take k) := fun z hz => h z (List.mem_of_mem_take hz)
theorem IsB.drop {zs : List Int} (h : IsB zs) (k : Nat) : IsB (zs.drop k) := fun z hz => h z (List.mem_of_mem_drop hz)
theorem IsB.app {x y : List Int} (h : IsB x) (k : IsB y) : IsB (x ++ y) := fun z hz => by
  rcases List.mem_append.1 hz with h1 | h1
  · exact h z h1
  · exact k z h1
theorem IsB.left {x y : List Int} (h : IsB (x ++ y)) : IsB x := fun z hz => h z (List.mem_append_left _ hz)
theorem IsB.right {x y : List Int} (h : IsB (x ++ y)) : IsB y := fun z hz => h z (List.mem_append_right _ hz)
theorem IsB.nil : IsB [] := fun z hz => by simp at hz

/-- The record of a payload. -/
def put (p : List Int) : List Int := bytesOf p.length ++ bytesOf (crcSum (bytesOf p.length ++ p)) ++ p
theorem bytesOf_length (s : Nat) : (bytesOf s).length = 4 := rfl
theorem put_length (p : List Int) : (put p).length = 8 + p.length := by simp [put, bytesOf_length]; omega
theorem put_bytes {p : List Int} (h : IsB p) : IsB (put p) := IsB.app (IsB.app (bytesOf_bytes _) (bytesOf_bytes _)) h

/-- How many bytes the payload has of the record with which a row begins; none, if no whole one stands there. -/
def rec1 (zs : List Int) : Option Nat :=
  if 8 ≤ zs.length ∧ numOf (zs.take 4) ≤ 65536 ∧ numOf (zs.take 4) + 8 ≤ zs.length ∧ crcSum (zs.take 4 ++ (zs.drop 8).take (numOf (zs.take 4))) = numOf ((zs.drop 4).take 4) then some (numOf (zs.take 4)) else none

theorem rec1_some {zs : List Int} {n : Nat} (h : rec1 zs = some n) : 8 ≤ zs.length ∧ n = numOf (zs.take 4) ∧ n ≤ 65536 ∧ n + 8 ≤ zs.length ∧ crcSum (zs.take 4 ++ (zs.drop 8).take n) = numOf ((zs.drop 4).take 4) := by
  unfold rec1 at h
  split at h
  · rename_i hc; cases h; exact ⟨hc.1, rfl, hc.2⟩
  · cases h

theorem put_take4 (p t : List Int) : (put p ++ t).take 4 = bytesOf p.length := by
  rw [put, List.append_assoc, List.append_assoc, List.take_left' (bytesOf_length _)]
theorem put_drop4 (p t : List Int) : (put p ++ t).drop 4 = bytesOf (crcSum (bytesOf p.length ++ p)) ++ (p ++ t) := by
  have : put p ++ t = bytesOf p.length ++ (bytesOf (crcSum (bytesOf p.length ++ p)) ++ (p ++ t)) := by simp [put, List.append_assoc]
  rw [this, List.drop_left' (bytesOf_length _)]
theorem put_drop8 (p t : List Int) : (put p ++ t).drop 8 = p ++ t := by
  have : put p ++ t = (bytesOf p.length ++ bytesOf (crcSum (bytesOf p.length ++ p))) ++ (p ++ t) := by simp [put, List.append_assoc]
  rw [this, List.drop_left' (by simp [bytesOf_length])]
theorem put_drop (p t : List Int) : (put p ++ t).drop (8 + p.length) = t := List.drop_left' (put_length p)

theorem rec1_put (p t : List Int) (hp : p.length ≤ 65536) : rec1 (put p ++ t) = some p.length := by
  have h1 : numOf ((put p ++ t).take 4) = p.length := by rw [put_take4]; exact numOf_bytesOf _ (by omega)
  unfold rec1
  rw [h1, if_pos]
  refine ⟨by rw [List.length_append, put_length]; omega, hp, by rw [List.length_append, put_length]; omega, ?_⟩
  rw [put_take4, put_drop8, put_drop4, List.take_left' rfl, List.take_left' (bytesOf_length _), numOf_bytesOf _ (crcSum_lt _)]

/-- A row that begins with a record is that record, and what stands behind. -/
theorem rec1_is {zs : List Int} {n : Nat} (hz : IsB zs) (h : rec1 zs = some n) : zs = put ((zs.drop 8).take n) ++ zs.drop (8 + n) ∧ ((zs.drop 8).take n).length = n := by
  obtain ⟨h8, hn, hle, hl, hs⟩ := rec1_some h
  have hlen : ((zs.drop 8).take n).length = n := by simp; omega
  refine ⟨?_, hlen⟩
  have b1 : bytesOf n = zs.take 4 := by rw [hn]; exact bytesOf_numOf _ (by simp; omega) (hz.take 4)
  have b2 : bytesOf (crcSum (bytesOf n ++ (zs.drop 8).take n)) = (zs.drop 4).take 4 := by
    rw [b1, hs]; exact bytesOf_numOf _ (by simp; omega) ((hz.drop 4).take 4)
  unfold put
  rw [hlen, b2, b1]
  have e1 : zs.drop 8 = (zs.drop 8).take n ++ zs.drop (8 + n) := by
    conv => lhs; rw [← List.take_append_drop n (zs.drop 8), List.drop_drop]
  have e2 : zs.drop 4 = (zs.drop 4).take 4 ++ zs.drop 8 := by
    conv => lhs; rw [← List.take_append_drop 4 (zs.drop 4), List.drop_drop]
  conv => lhs; rw [← List.take_append_drop 4 zs, e2, e1]
  simp [List.append_assoc]

/-- The records of a row: where each begins, how many bytes its payload has. -/
def recsN : Nat → Nat → List Int → List (Nat × Nat)
  | 0, _, _ => []
  | f + 1, i, zs => match rec1 zs with
    | none => []
    | some n => (i, n) :: recsN f (i + 8 + n) (zs.drop (8 + n))
def recs (zs : List Int) : List (Nat × Nat) := recsN (zs.length + 1) 0 zs

theorem recsN_none {f i : Nat} {zs : List Int} (h : rec1 zs = none) : recsN f i zs = [] := by
  cases f with
  | zero => rfl
  | succ f => simp [recsN, h]
theorem recsN_some {f i n : Nat} {zs : List Int} (h : rec1 zs = some n) : recsN (f + 1) i zs = (i, n) :: recsN f (i + 8 + n) (zs.drop (8 + n)) := by simp [recsN, h]

/-- Where the records of payloads begin. -/
def offs : Nat → List (List Int) → List (Nat × Nat)
  | _, [] => []
  | i, p :: ps => (i, p.length) :: offs (i + 8 + p.length) ps
/-- How many bytes the records of payloads have. -/
def szs : List (List Int) → Nat
  | [] => 0
  | p :: ps => 8 + p.length + szs ps
def puts (ps : List (List Int)) : List Int := (ps.map put).flatten
theorem puts_nil : puts [] = [] := rfl
theorem puts_cons (p : List Int) (ps : List (List Int)) : puts (p :: ps) = put p ++ puts ps := rfl
theorem puts_app (ps qs : List (List Int)) : puts (ps ++ qs) = puts ps ++ puts qs := by simp [puts]
theorem puts_length (ps : List (List Int)) : (puts ps).length = szs ps := by
  induction ps with
  | nil => rfl
  | cons p ps ih => rw [puts_cons, List.length_append, put_length, ih]; rfl
theorem szs_app (ps qs : List (List Int)) : szs (ps ++ qs) = szs ps + szs qs := by
  rw [← puts_length, puts_app, List.length_append, puts_length, puts_length]
theorem szs_ge (ps : List (List Int)) : ps.length ≤ szs ps := by
  induction ps with
  | nil => exact Nat.le_refl _
  | cons p ps ih => simp [szs]; omega

theorem recsN_puts (ps : List (List Int)) (hps : ∀ p ∈ ps, p.length ≤ 65536) : ∀ (t : List Int) (f i : Nat), rec1 t = none → ps.length ≤ f → recsN f i (puts ps ++ t) = offs i ps := by
  induction ps with
  | nil => intro t f i ht _; rw [puts_nil, List.nil_append, recsN_none ht]; rfl
  | cons p ps ih =>
    intro t f i ht hf
    cases f with
    | zero => simp at hf
    | succ f =>
      rw [puts_cons, List.append_assoc, recsN_some (rec1_put p _ (hps p (by simp))), put_drop, ih (fun q hq => hps q (by simp [hq])) t f _ ht (by simpa using hf)]
      rfl
theorem recs_puts (ps : List (List Int)) (hps : ∀ p ∈ ps, p.length ≤ 65536) (t : List Int) (ht : rec1 t = none) : recs (puts ps ++ t) = offs 0 ps :=
  recsN_puts ps hps t _ 0 ht (by rw [List.length_append, puts_length]; have := szs_ge ps; omega)

/-- Every row of bytes is the records of payloads, and behind them what begins with none. -/
theorem parse (k : Nat) : ∀ zs : List Int, zs.length ≤ k → IsB zs → ∃ ps t, zs = puts ps ++ t ∧ rec1 t = none ∧ (∀ p ∈ ps, p.length ≤ 65536 ∧ IsB p) ∧ IsB t := by
  induction k with
  | zero =>
    intro zs hk hz
    obtain rfl : zs = [] := List.length_eq_zero_iff.1 (by omega)
    exact ⟨[], [], rfl, rfl, by simp, hz⟩
  | succ k ih =>
    intro zs hk hz
    cases h : rec1 zs with
    | none => exact ⟨[], zs, rfl, h, by simp, hz⟩
    | some n =>
      obtain ⟨e, hl⟩ := rec1_is hz h
      obtain ⟨h8, _, hle, hln, _⟩ := rec1_some h
      obtain ⟨ps, t, e2, ht, hps, hbt⟩ := ih (zs.drop (8 + n)) (by simp; omega) (hz.drop _)
      refine ⟨(zs.drop 8).take n :: ps, t, ?_, ht, ?_, hbt⟩
      · rw [puts_cons, List.append_assoc, ← e2]; exact e
      · intro p hp
        rcases List.mem_cons.1 hp with rfl | hp
        · exact ⟨by omega, (hz.drop 8).take n⟩
        · exact hps p hp

/-- How far a row is whole, by its records. -/
def endOf (i : Nat) (l : List (Nat × Nat)) : Nat := l.foldl (fun _ x => x.1 + 8 + x.2) i
theorem endOf_snoc (i : Nat) (l : List (Nat × Nat)) (x : Nat × Nat) : endOf i (l ++ [x]) = x.1 + 8 + x.2 := by simp [endOf]
theorem endOf_offs (ps : List (List Int)) : ∀ i, endOf i (offs i ps) = i + szs ps := by
  induction ps with
  | nil => intro i; rfl
  | cons p ps ih =>
    intro i
    have := ih (i + 8 + p.length)
    simp only [endOf, offs, List.foldl_cons] at this ⊢
    rw [this]; simp [szs]; omega
theorem offs_length (ps : List (List Int)) : ∀ i, (offs i ps).length = ps.length := by
  induction ps with
  | nil => intro i; rfl
  | cons p ps ih => intro i; simp [offs, ih]
theorem offs_app (ps qs : List (List Int)) : ∀ i, offs i (ps ++ qs) = offs i ps ++ offs (i + szs ps) qs := by
  induction ps with
  | nil => intro i; rfl
  | cons p ps ih =>
    intro i
    simp only [List.cons_append, offs, ih, szs]
    congr 3
    omega

/-- A row that is cut off within a record begins with none. -/
theorem rec1_cut (p : List Int) (m : Nat) (hm : m < 8 + p.length) (hp : p.length ≤ 65536) : rec1 ((put p).take m) = none := by
  cases h : rec1 ((put p).take m) with
  | none => rfl
  | some n =>
    obtain ⟨h8, hn, _, hl, _⟩ := rec1_some h
    have hml : ((put p).take m).length = m := by rw [List.length_take, put_length]; omega
    have e : ((put p).take m).take 4 = bytesOf p.length := by
      rw [List.take_take, Nat.min_eq_left (by omega)]
      have := put_take4 p []
      rwa [List.append_nil] at this
    rw [e, numOf_bytesOf _ (by omega)] at hn
    omega
end Go.Proofs.Ytfmjknknckjdiaa

namespace Go.Proofs.Ytfmjknknckjdiaa
open Go.RowKit

set_option maxHeartbeats 400000 in
theorem size_in (n : Nat) (hn : n ≤ 65536) (w : World) : Calls Try.prog 15 #[.int .i64 (n : Int)] w fun e w' => e = .returned (.int .i64 ((8 + n : Nat) : Int)) ∧ w' = w := by
  go_enter Try.func15, Try.ntmps15
  go_wp2
  go_ret
  exact ⟨ret_int (by omega), rfl⟩

set_option maxHeartbeats 400000 in
theorem size_out (n : Int) (hn : n < 0 ∨ 65536 < n) (w : World) : Calls Try.prog 15 #[.int .i64 n] w fun e w' => e = .returned (.int .i64 0) ∧ w' = w := by
  rcases hn with h | h
  · go_enter Try.func15, Try.ntmps15
    go_wp2
    go_ret
    exact ⟨rfl, rfl⟩
  · go_enter Try.func15, Try.ntmps15
    go_wp2
    go_ret
    exact ⟨rfl, rfl⟩

theorem bl2 {w w1 w2 : World} (h : Below w.heap.size w w1) (k : Below w1.heap.size w1 w2) : Below w.heap.size w w2 := h.trans (k.mono h.size)

/-- A piece of bytes. -/
theorem Bs.sub {w : World} {b off len : Nat} {zs : List Int} (h : Bs w (some ⟨b, off, none⟩) len zs) (i n : Nat) (hi : i + n ≤ len) : Bs w (some ⟨b, off + i, none⟩) n ((zs.drop i).take n) := by
  obtain ⟨h1, h2, h3⟩ := h
  refine ⟨by simp; omega, (IsB.drop h2 i).take n, fun hp => ⟨b, off + i, rfl, fun j hj => ?_⟩⟩
  obtain ⟨b', off', e, hc⟩ := h3 (by omega)
  cases e
  rw [show off + i + j = off + (i + j) by omega, hc _ (by omega)]
  simp [hj]
theorem bs_nil {w : World} (a : Option Addr) : Bs w a 0 [] := ⟨rfl, by simp, fun h => absurd h (by omega)⟩

/-- Where a payload lies. -/
def pad (b off cap : Nat) : Option Addr := some ⟨b, if cap = 8 then off else off + 8, none⟩

set_option maxHeartbeats 400000 in
theorem first_short (a : Option Addr) (len cap : Nat) (w : World) (h8 : len < 8) :
    Calls Try.prog 36 #[.slice a len cap] w fun e w' => e = .returned (.tuple #[.slice none 0 0, .bool false]) ∧ w' = w := by
  go_enter Try.func36, Try.ntmps36
  go_wp2
  go_ret2
  exact ⟨rfl, rfl⟩

set_option maxHeartbeats 800000 in
theorem first_long (b off len cap : Nat) (zs : List Int) (w : World) (hb : Bs w (some ⟨b, off, none⟩) len zs) (h8 : 8 ≤ len) (hc : len ≤ cap) (hm : cap ≤ 9223372036854775807) (n : Nat) (hn : n = numOf (zs.take 4)) (h1 : 65536 < n ∨ len < n + 8)
   : Calls Try.prog 36 #[.slice (some ⟨b, off, none⟩) len cap] w fun e w' => e = .returned (.tuple #[.slice none 0 0, .bool false]) ∧ Below w.heap.size w w' := by
  have k1 := hb.sub 0 4 (by omega)
  have k2 := hb.sub 4 4 (by omega)
  rw [List.drop_zero, Nat.add_zero] at k1
  have hlt := numOf_lt (zs.take 4) k1.1 k1.2.1
  rw [← hn] at hlt
  have HN := hide1 hn
  clear hn
  by_cases hbig : 65536 < n
  · clear h1
    go_enter Try.func36, Try.ntmps36
    go_wp2_with fail
    refine (take_four _ k1).mono ?_
    rintro e w1 ⟨rfl, hb1⟩
    rw [← HN.out]
    go_wp2_with fail
    refine (take_four _ (k2.later hb1)).mono ?_
    rintro e w2 ⟨rfl, hb2⟩
    clear k2
    go_wp2_with fail
    go_ret2
    exact ⟨rfl, bl2 hb1 hb2⟩
  · have h3 : len < n + 8 := by omega
    clear h1
    go_enter Try.func36, Try.ntmps36
    go_wp2_with fail
    refine (take_four _ k1).mono ?_
    rintro e w1 ⟨rfl, hb1⟩
    rw [← HN.out]
    go_wp2_with fail
    refine (take_four _ (k2.later hb1)).mono ?_
    rintro e w2 ⟨rfl, hb2⟩
    clear k2
    go_wp2_with fail
    go_ret2
    exact ⟨rfl, bl2 hb1 hb2⟩

theorem flat2 (x y : List Int) : [x, y].flatten = x ++ y := by simp
theorem eq_dec (x y : Nat) : ((x : Int) == (y : Int)) = decide (x = y) := by
  by_cases h : x = y
  · subst h; simp
  · rw [decide_eq_false h]; simp; omega

set_option maxHeartbeats 800000 in
theorem first_in (b off len cap : Nat) (zs : List Int) (w : World) (hb : Bs w (some ⟨b, off, none⟩) len zs) (h8 : 8 ≤ len) (hc : len ≤ cap) (hm : cap ≤ 9223372036854775807) (n : Nat) (hn : n = numOf (zs.take 4)) (h1 : n ≤ 65536) (h2 : n + 8 ≤ len)
   : Calls Try.prog 36 #[.slice (some ⟨b, off, none⟩) len cap] w fun e w' => e = .returned (.tuple #[.slice (pad b off cap) n (cap - 8), .bool (decide (crcSum (zs.take 4 ++ (zs.drop 8).take n) = numOf ((zs.drop 4).take 4)))]) ∧ Below w.heap.size w w' := by
  have k1 := hb.sub 0 4 (by omega)
  have k2 := hb.sub 4 4 (by omega)
  have k3 := hb.sub 8 n (by omega)
  rw [List.drop_zero, Nat.add_zero] at k1
  have HN := hide1 hn
  clear hn
  by_cases h9 : cap = 8
  · obtain rfl : n = 0 := by omega
    obtain rfl : len = 8 := by omega
    subst h9
    go_enter Try.func36, Try.ntmps36
    go_wp2_with fail
    refine (take_four _ k1).mono ?_
    rintro e w1 ⟨rfl, hb1⟩
    rw [← HN.out]
    go_wp2_with fail
    refine (take_four _ (k2.later hb1)).mono ?_
    rintro e w2 ⟨rfl, hb2⟩
    clear k2
    have hb3 := bl2 hb1 hb2
    go_wp2_with fail
    refine (of_any _ 2 2 [zs.take 4, (zs.drop 8).take 0] _ (parts_new2 w2 (k1.later hb3) (by unfold maxLen; omega) (bs_nil _) (by unfold maxLen; omega)) (by unfold maxLen; omega)).mono ?_
    rintro e w3 ⟨rfl, hb4⟩
    rw [flat2]
    go_wp2_with fail
    go_ret2
    rw [eq_dec]
    exact ⟨by simp [pad], bl2 hb3 (bl2 (below_one w2 _) hb4)⟩
  · go_enter Try.func36, Try.ntmps36
    go_wp2_with fail
    refine (take_four _ k1).mono ?_
    rintro e w1 ⟨rfl, hb1⟩
    rw [← HN.out]
    go_wp2_with fail
    refine (take_four _ (k2.later hb1)).mono ?_
    rintro e w2 ⟨rfl, hb2⟩
    clear k2
    have hb3 := bl2 hb1 hb2
    go_wp2_with fail
    refine (of_any _ 2 2 [zs.take 4, (zs.drop 8).take n] _ (parts_new2 w2 (k1.later hb3) (by unfold maxLen; omega) (k3.later hb3) (by unfold maxLen; omega)) (by unfold maxLen; omega)).mono ?_
    rintro e w3 ⟨rfl, hb4⟩
    rw [flat2]
    go_wp2_with fail
    go_ret2
    rw [eq_dec]
    exact ⟨by simp [pad, h9], bl2 hb3 (bl2 (below_one w2 _) hb4)⟩
end Go.Proofs.Ytfmjknknckjdiaa

namespace Go.Proofs.Ytfmjknknckjdiaa
open Go.RowKit Go.Shelf
attribute [local go_sem] Oper.semAt_some

theorem first_some {b off len cap n : Nat} {zs : List Int} {w : World} (hb : Bs w (some ⟨b, off, none⟩) len zs) (hc : len ≤ cap) (hm : cap ≤ 9223372036854775807) (h : rec1 zs = some n) :
    Calls Try.prog 36 #[.slice (some ⟨b, off, none⟩) len cap] w fun e w' => e = .returned (.tuple #[.slice (pad b off cap) n (cap - 8), .bool true]) ∧ Below w.heap.size w w' := by
  obtain ⟨h8, hn, hle, hl, hs⟩ := rec1_some h
  rw [hb.1] at h8 hl
  have := first_in b off len cap zs w hb h8 hc hm n hn hle hl
  rw [decide_eq_true hs] at this
  exact this

theorem first_none {a : Option Addr} {len cap : Nat} {zs : List Int} {w : World} (hb : Bs w a len zs) (hc : len ≤ cap) (hm : cap ≤ 9223372036854775807) (h : rec1 zs = none) :
    Calls Try.prog 36 #[.slice a len cap] w fun e w' => (∃ s, e = .returned (.tuple #[s, .bool false])) ∧ Below w.heap.size w w' := by
  by_cases h8 : len < 8
  · refine (first_short a len cap w h8).mono ?_
    rintro e w' ⟨rfl, rfl⟩
    exact ⟨⟨_, rfl⟩, Below.refl _ _⟩
  · obtain ⟨b, off, rfl, _⟩ := hb.2.2 (by omega)
    by_cases h1 : 65536 < numOf (zs.take 4) ∨ len < numOf (zs.take 4) + 8
    · refine (first_long b off len cap zs w hb (by omega) hc hm _ rfl h1).mono ?_
      rintro e w' ⟨rfl, hb'⟩
      exact ⟨⟨_, rfl⟩, hb'⟩
    · refine (first_in b off len cap zs w hb (by omega) hc hm _ rfl (by omega) (by omega)).mono ?_
      rintro e w' ⟨rfl, hb'⟩
      rw [decide_eq_false]
      · exact ⟨⟨_, rfl⟩, hb'⟩
      · intro hs
        have : rec1 zs = some (numOf (zs.take 4)) := by
          unfold rec1; rw [if_pos ⟨by rw [hb.1]; omega, by omega, by rw [hb.1]; omega, hs⟩]
        rw [h] at this; cases this

/-- A record's place in a row. -/
abbrev RI (zs : List Int) : Type := { x : Nat × Nat // rec1 (zs.drop x.1) = some x.2 }
/-- What the iterator hands on. -/
def ryi (b off cap : Nat) {zs : List Int} (x : RI zs) : Array Value := #[.int .i64 ((x.1.1 : Nat) : Int), .slice (pad b (off + x.1.1) (cap - x.1.1)) x.1.2 (cap - x.1.1 - 8)]
/-- What a round must keep: two blocks. -/
def Two (p g : Nat) (A B : World) : Prop := B.heap[p]? = A.heap[p]? ∧ B.heap[g]? = A.heap[g]?

theorem Bs.kept {w w' : World} {b off len : Nat} {zs : List Int} (h : Bs w (some ⟨b, off, none⟩) len zs) (hk : w'.heap[b]? = w.heap[b]?) : Bs w' (some ⟨b, off, none⟩) len zs := by
  obtain ⟨h1, h2, h3⟩ := h
  refine ⟨h1, h2, fun hp => ?_⟩
  obtain ⟨b', off', e, hc⟩ := h3 hp
  cases e
  exact ⟨_, _, rfl, fun i hi => (World.cell?_of_block hk).trans (hc i hi)⟩
theorem grown_of {w w' : World} (h : Below w.heap.size w w') : w.grownBy w' none := ⟨h.os, h.tape, h.output, h.size, fun k hk _ => h.block k hk⟩

set_option maxRecDepth 100000 in
set_option maxHeartbeats 4000000 in
theorem recs_in (l p b off len cap : Nat) (zs : List Int) (hl : 0 < len) (hc : len ≤ cap) (hm : cap ≤ 9223372036854775807) (J Jx : List (RI zs) → World → Prop) (W : World) (hJ : AbidesFrom W.heap.size J)
    (hY : ∀ pre x W, J pre W → pre.length < len → (pre.map (·.1) ++ [x.1]) <+: recs zs → YieldAt Fence.wide 3 Try.prog l (ryi b off cap x) W fun e W' =>
      (e = .returned (.bool true) ∧ J (pre ++ [x]) W' ∧ Two p b W W') ∨ (e = .returned (.bool false) ∧ Jx (pre ++ [x]) W'))
    (hp : W.cell? ⟨p, 0, none⟩ = some (.slice (some ⟨b, off, none⟩) len cap)) (hb : Bs W (some ⟨b, off, none⟩) len zs) (h0 : J [] W) :
    CallsIn Fence.wide 4 Try.prog 35 #[.func (.yield l) #[] #[], .pointer (some ⟨p, 0, none⟩)] W fun e W' => (∃ v, e = .returned v) ∧
      ((∃ ys : List (RI zs), ys.map (·.1) = recs zs ∧ J ys W') ∨ (∃ pre : List (RI zs), pre.map (·.1) <+: recs zs ∧ Jx pre W')) := by
  refine callsIn_of_wp Try.func35 rfl trivial ?_ rfl
  simp only [Try.ntmps35, List.size_toArray, List.length_cons, List.length_nil, Nat.reduceAdd, Nat.reduceSub, Array.replicate_succ, Array.replicate_zero, List.push_toArray, List.append_toArray, List.nil_append, List.cons_append]
  gi_wp2
  gi_loopw [3] (fun i wr => ∃ (k f : Nat) (pre : List (RI zs)), k ≤ len ∧ i = .int .i64 (k : Int) ∧ recs zs = pre.map (·.1) ++ recsN f k (zs.drop k) ∧ len < k + f ∧ pre.length ≤ k ∧ J pre wr ∧ wr.cell? ⟨p, 0, none⟩ = some (.slice (some ⟨b, off, none⟩) len cap) ∧ Bs wr (some ⟨b, off, none⟩) len zs)
    (fun i _ => len - (intOf i).toNat)
  case atStart => exact ⟨0, zs.length + 1, [], Nat.zero_le _, by simp, rfl, by rw [hb.1]; omega, Nat.le_refl _, h0, hp, hb⟩
  case round =>
    obtain ⟨k, f, pre, hk, rfl, hrs, hf, hpl, hJs, hp', hb'⟩ := hrel
    have hlz : (zs.drop k).length = len - k := by rw [List.length_drop, hb.1]
    cases hr : rec1 (zs.drop k) with
    | none =>
      have ebs : ∀ a, (k < len → a = some ⟨b, off + k, none⟩) → Bs wr a (len - k) (zs.drop k) := by
        intro a ha
        by_cases hkl : k < len
        · rw [ha hkl]
          have := hb'.sub k (len - k) (by omega)
          rwa [List.take_of_length_le (by omega)] at this
        · rw [show len - k = 0 by omega, List.length_eq_zero_iff.1 (show (zs.drop k).length = 0 by omega)]
          exact bs_nil _
      have hend : recs zs = pre.map (·.1) := by rw [hrs, recsN_none hr, List.append_nil]
      by_cases hkc : k = cap
      · gi_wp2
        refine ⟨trivial, ?_⟩
        refine (callsIn_wide.2 (first_short _ 0 0 wr (by omega))).mono ?_
        rintro e W3 ⟨rfl, rfl⟩
        gi_wp2
        refine ⟨fun _ h => (by cases h), ?_⟩
        gi_wp2
        refine bodyPost_ret (results_none rfl _ _ _) rfl ?_
        exact ⟨⟨_, rfl⟩, .inl ⟨pre, hend.symm, hJs⟩⟩
      · gi_wp2
        refine ⟨trivial, ?_⟩
        refine (callsIn_wide.2 (first_none (ebs (some ⟨b, off + k, none⟩) (fun _ => rfl)) (by omega) (by omega) hr)).mono ?_
        rintro e W3 ⟨⟨s, rfl⟩, hb3⟩
        gi_wp2
        refine ⟨fun _ h => (by cases h), ?_⟩
        gi_wp2
        refine bodyPost_ret (results_none rfl _ _ _) rfl ?_
        exact ⟨⟨_, rfl⟩, .inl ⟨pre, hend.symm, hJ _ _ _ none hJs (grown_of hb3) (fun r e => by cases e)⟩⟩
    | some n =>
      obtain ⟨h8, -, hle, hln, -⟩ := rec1_some hr
      rw [hlz] at h8 hln
      have hbk : Bs wr (some ⟨b, off + k, none⟩) (len - k) (zs.drop k) := by
        have := hb'.sub k (len - k) (by omega)
        rwa [List.take_of_length_le (by omega)] at this
      obtain ⟨f, rfl⟩ : ∃ f', f = f' + 1 := ⟨f - 1, by omega⟩
      rw [recsN_some hr, List.drop_drop] at hrs
      have HRS := hide1 hrs
      clear hrs
      gi_wp2
      refine ⟨trivial, ?_⟩
      refine (callsIn_wide.2 (first_some hbk (by omega) (by omega) hr)).mono ?_
      rintro e W3 ⟨rfl, hb3⟩
      have hJ3 := hJ _ _ _ none hJs (grown_of hb3) (fun r e => by cases e)
      have hp3 := cell_later hb3 hp'
      have hb3' := hb'.later hb3
      obtain ⟨fn, tmps, assign, body, hy, hR⟩ := hY pre ⟨(k, n), hr⟩ W3 hJ3 (by omega) (by rw [HRS.out]; exact (List.prefix_append_right_inj _).2 ⟨recsN f (k + 8 + n) (zs.drop (k + (8 + n))), by simp⟩)
      clear hY hJs hp' hb' hb3 hJ3
      dsimp only [ryi] at hy
      gi_wp2
      refine hR.mono ?_
      rintro e W4 (⟨rfl, hJ4, hk4⟩ | ⟨rfl, hJx4⟩)
      · gi_wp2
        refine ⟨trivial, ?_⟩
        refine (callsIn_wide.2 (size_in n hle W4)).mono ?_
        rintro e W5 ⟨rfl, rfl⟩
        gi_wp2
        go_roundw
        case rel => exact ⟨k + 8 + n, f, pre ++ [⟨(k, n), hr⟩], by omega, by congr 1; omega, by rw [HRS.out, List.map_append, List.append_assoc]; simp [Nat.add_assoc], by omega, by simp; omega, hJ4, (World.cell?_of_block hk4.1).trans hp3, hb3'.kept hk4.2⟩
        case measure => simp [intOf]; omega
      · gi_wp2
        refine bodyPost_ret (results_none rfl _ _ _) rfl ?_
        refine ⟨⟨_, rfl⟩, .inr ⟨_, ?_, hJx4⟩⟩
        rw [HRS.out, List.map_append]
        exact List.prefix_append_right_inj _ |>.2 ⟨recsN f (k + 8 + n) (zs.drop (k + (8 + n))), by simp⟩

/-- The iterator, whatever loop goes over it. -/
theorem recs_stops (p b off len cap : Nat) (zs : List Int) (hl : 0 < len) (hc : len ≤ cap) (hm : cap ≤ 9223372036854775807) (w : World) (hp : w.cell? ⟨p, 0, none⟩ = some (.slice (some ⟨b, off, none⟩) len cap)) (hb : Bs w (some ⟨b, off, none⟩) len zs) :
    SeqStopsK Fence.wide 4 Try.prog 35 #[.pointer (some ⟨p, 0, none⟩)] (ryi b off cap (zs := zs)) (Two p b) (fun ys => ys.map (·.1) = recs zs) (fun pre => pre.map (·.1) <+: recs zs) len w :=
  fun l J Jx W hW hJ _ hY h0 => recs_in l p b off len cap zs hl hc hm J Jx W hJ (fun pre x W h1 h2 _ => hY pre x W h1 h2) (cell_later hW hp) (hb.later hW) h0

theorem two_t {p g : Nat} {A B C : World} (h : Two p g A B) (k : Two p g B C) : Two p g A C := ⟨k.1.trans h.1, k.2.trans h.2⟩
theorem two_b {p g : Nat} {w : World} (hp : p < w.heap.size) (hg : g < w.heap.size) (W : World) (l : Nat) (o o' : Obj) (hl : w.heap.size ≤ l) (_ : W.heap[l]? = some o) (_ : o.isCells = false) (_ : o.isWalk = false) : Two p g W (W.putObj l o') :=
  ⟨World.putObj_heap_other (by omega), World.putObj_heap_other (by omega)⟩
end Go.Proofs.Ytfmjknknckjdiaa

namespace Go.Proofs.Ytfmjknknckjdiaa
open Go.RowKit Go.Shelf
attribute [local go_sem] Oper.semAt_some

set_option maxHeartbeats 400000 in
theorem records_d (a : Option Addr) (len cap : Nat) (w : World) :
    Calls Try.prog 31 #[.slice a len cap] w fun e w' => e = .returned (.func (.func 35) #[] #[.pointer (some ⟨w.heap.size, 0, none⟩)]) ∧ w' = w.alloc (.cells #[.slice a len cap] 22) := by
  go_enter Try.func31, Try.ntmps31
  go_wp2
  go_ret
  exact ⟨rfl, rfl⟩

theorem rec1_nil : rec1 [] = none := rfl

set_option maxRecDepth 100000 in
set_option maxHeartbeats 4000000 in
theorem recs_in0 (l p cap : Nat) (a : Option Addr) (W : World)
    (hp : W.cell? ⟨p, 0, none⟩ = some (.slice a 0 cap)) (J : World → Prop) (h0 : J W) :
    CallsIn Fence.wide 4 Try.prog 35 #[.func (.yield l) #[] #[], .pointer (some ⟨p, 0, none⟩)] W fun e W' => (∃ v, e = .returned v) ∧ J W' := by
  refine callsIn_of_wp Try.func35 rfl trivial ?_ rfl
  simp only [Try.ntmps35, List.size_toArray, List.length_cons, List.length_nil, Nat.reduceAdd, Nat.reduceSub, Array.replicate_succ, Array.replicate_zero, List.push_toArray, List.append_toArray, List.nil_append, List.cons_append]
  gi_wp2
  gi_loopw [3] (fun i wr => i = .int .i64 0 ∧ J wr ∧ wr.cell? ⟨p, 0, none⟩ = some (.slice a 0 cap)) (fun _ _ => 0)
  case atStart => exact ⟨by simp, h0, hp⟩
  case round =>
    obtain ⟨rfl, hJ, hc⟩ := hrel
    cases a with
    | none =>
      gi_wp2
      all_goals
        refine ⟨trivial, ?_⟩
        refine (callsIn_wide.2 (first_short _ 0 _ wr (by omega))).mono ?_
        rintro e W3 ⟨rfl, rfl⟩
        gi_wp2
        refine ⟨fun _ h => (by cases h), ?_⟩
        gi_wp2
        refine bodyPost_ret (results_none rfl _ _ _) rfl ?_
        exact ⟨⟨_, rfl⟩, hJ⟩
    | some x =>
      gi_wp2
      all_goals
        refine ⟨trivial, ?_⟩
        refine (callsIn_wide.2 (first_short _ 0 _ wr (by omega))).mono ?_
        rintro e W3 ⟨rfl, rfl⟩
        gi_wp2
        refine ⟨fun _ h => (by cases h), ?_⟩
        gi_wp2
        refine bodyPost_ret (results_none rfl _ _ _) rfl ?_
        exact ⟨⟨_, rfl⟩, hJ⟩

/-- The iterator over any row. -/
theorem recs_any {p len cap : Nat} {a : Option Addr} {zs : List Int} {w : World} (hp : w.cell? ⟨p, 0, none⟩ = some (.slice a len cap)) (hb : Bs w a len zs) (hc : len ≤ cap) (hm : cap ≤ 9223372036854775807) :
    ∃ b off, (b = p ∨ (0 < len ∧ a = some ⟨b, off, none⟩)) ∧ SeqStopsK Fence.wide 4 Try.prog 35 #[.pointer (some ⟨p, 0, none⟩)] (ryi b off cap (zs := zs)) (Two p b) (fun ys => ys.map (·.1) = recs zs) (fun pre => pre.map (·.1) <+: recs zs) len w := by
  rcases Nat.eq_zero_or_pos len with rfl | hl
  · obtain rfl : zs = [] := List.length_eq_zero_iff.1 hb.1
    refine ⟨p, 0, .inl rfl, fun l J Jx W hW hJ _ hY h0 => ?_⟩
    refine (recs_in0 l p cap a W (cell_later hW hp) (J []) h0).mono ?_
    rintro e W' ⟨hv, hj⟩
    exact ⟨hv, .inl ⟨[], rfl, hj⟩⟩
  · obtain ⟨b, off, rfl, _⟩ := hb.2.2 hl
    exact ⟨b, off, .inr ⟨hl, rfl⟩, recs_stops p b off len cap zs hl hc hm w hp hb⟩

theorem ri_le {zs : List Int} (x : RI zs) : x.1.1 + 8 + x.1.2 ≤ zs.length ∧ x.1.2 ≤ 65536 := by
  obtain ⟨h8, -, hle, hln, -⟩ := rec1_some x.2
  simp at h8 hln
  omega

theorem cell_lt {w : World} {p : Addr} {v : Value} (h : w.cell? p = some v) : p.block < w.heap.size := by
  unfold World.cell? at h
  rcases Nat.lt_or_ge p.block w.heap.size with h1 | h1
  · exact h1
  · rw [Array.getElem?_eq_none h1] at h; cases h
theorem cell_of_box_l {W : World} {B : Nat} {v : Value} {t : TypeId} (h : W.heap[B]? = some (.cells #[v] t (0, 0))) : W.cell? ⟨B, 0, none⟩ = some v ∧ W.frozen? ⟨B, 0, none⟩ = false := by
  constructor <;> simp [World.cell?, World.frozen?, h]
theorem cell_new_l (W : World) (v : Value) (t : TypeId) : (W.alloc (.cells #[v] t)).cell? ⟨W.heap.size, 0, none⟩ = some v ∧ (W.alloc (.cells #[v] t)).frozen? ⟨W.heap.size, 0, none⟩ = false :=
  cell_of_box_l (World.alloc_heap_new W _)
theorem cell_alloc_l {W : World} {a : Addr} {v : Value} (o : Obj) (h : W.cell? a = some v) : (W.alloc o).cell? a = some v := cell_kept h (World.grownBy_alloc W o none) (fun r e => by cases e)
theorem frozen_alloc_l {W : World} {a : Addr} {v : Value} (o : Obj) (h : W.cell? a = some v) (hf : W.frozen? a = false) : (W.alloc o).frozen? a = false := (frozen_kept h (World.grownBy_alloc W o none) (fun r e => by cases e)).trans hf

/-- What the caller's own cell holds, and that nothing else has turned. -/
def Cel (w : World) (E : Nat) (v : Value) (W : World) : Prop := (W.cell? ⟨E, 0, none⟩ = some v ∧ W.frozen? ⟨E, 0, none⟩ = false) ∧ Below w.heap.size w W
theorem cel_own {β : Type} (w : World) (E : Nat) (f : β → Value) {B : Nat} (hB : w.heap.size ≤ B) : OwnFrom B (fun s W => Cel w E (f s) W) :=
  OwnFrom.and (Own.from (fun _ _ _ _ hs hg hr => ⟨cell_kept hs.1 hg hr, (frozen_kept hs.1 hg hr).trans hs.2⟩) _) (ownFrom_below (Nat.le_refl _) hB)
theorem setCell_other (W : World) (E : Nat) (v : Value) {k : Nat} (h : k ≠ E) : (W.setCell ⟨E, 0, none⟩ v).heap[k]? = W.heap[k]? := Below.heap_setCell W ⟨E, 0, none⟩ v k h
theorem cel_set {w W : World} {E : Nat} {v : Value} (h : Cel w E v W) (hE : w.heap.size ≤ E) (u : Value) : Cel w E u (W.setCell ⟨E, 0, none⟩ u) :=
  ⟨⟨World.cell?_setCell_same' _ _ _ (by rw [h.1.1]; rfl), by rw [World.frozen?_setCell]; exact h.1.2⟩, h.2.setCell (p := ⟨E, 0, none⟩) hE _⟩
theorem cel_val {w W : World} {E : Nat} {v u : Value} (h : Cel w E v W) (e : v = u) : Cel w E u W := e ▸ h
theorem bs_lt {w : World} {b off len : Nat} {zs : List Int} (h : Bs w (some ⟨b, off, none⟩) len zs) (hl : 0 < len) : b < w.heap.size := by
  obtain ⟨b', off', e, hc⟩ := h.2.2 hl
  cases e
  exact cell_lt (hc 0 hl)

set_option maxRecDepth 100000 in
set_option maxHeartbeats 4000000 in
theorem whole_in (a : Option Addr) (len cap : Nat) (zs : List Int) (w : World) (hb : Bs w a len zs) (hc : len ≤ cap) (hm : cap ≤ 9223372036854775807) :
    CallsIn Fence.wide 5 Try.prog 19 #[.slice a len cap] w fun e W' => e = .returned (.int .i64 ((endOf 0 (recs zs) : Nat) : Int)) ∧ Below w.heap.size w W' := by
  refine callsIn_of_wp_marks Try.func19 rfl trivial ?_ rfl
  simp only [Try.ntmps19, List.size_toArray, List.length_cons, List.length_nil, Nat.reduceAdd, Nat.reduceSub, Array.replicate_succ, Array.replicate_zero, List.push_toArray, List.append_toArray, List.nil_append, List.cons_append]
  gi_wp2_with (refine ⟨trivial, ?_⟩; gi_at_call 31; refine (callsIn_wide.2 (records_d _ _ _ _)).mono ?_; rintro e w' ⟨rfl, rfl⟩)
  have hs := cell_new_l w (.int .i64 0) 3
  have hr := cell_new_l (w.alloc (.cells #[.int .i64 0] 3)) (.slice a len cap) 22
  rw [World.size_alloc] at hr
  have hB0 : Below w.heap.size w ((w.alloc (.cells #[.int .i64 0] 3)).alloc (.cells #[.slice a len cap] 22)) := ((Below.refl _ w).alloc (Nat.le_refl _) _).alloc (by simp) _
  have hz0 : Cel w w.heap.size (.int .i64 0) ((w.alloc (.cells #[.int .i64 0] 3)).alloc (.cells #[.slice a len cap] 22)) := ⟨⟨cell_alloc_l _ hs.1, frozen_alloc_l _ hs.1 hs.2⟩, hB0⟩
  obtain ⟨b, off, hbp, hseq⟩ := recs_any hr.1 (hb.later hB0) hc hm
  have hbE : b ≠ w.heap.size := by
    rcases hbp with rfl | ⟨hl, rfl⟩
    · omega
    · have := bs_lt hb hl; omega
  have hsz : ((w.alloc (.cells #[.int .i64 0] 3)).alloc (.cells #[.slice a len cap] 22)).heap.size = w.heap.size + 1 + 1 := by simp
  have hbl : b < ((w.alloc (.cells #[.int .i64 0] 3)).alloc (.cells #[.slice a len cap] 22)).heap.size := by
    rcases hbp with rfl | ⟨hl, rfl⟩
    · omega
    · have := bs_lt hb hl; omega
  generalize (w.alloc (.cells #[.int .i64 0] 3)).alloc (.cells #[.slice a len cap] 22) = W0 at hseq hz0 hsz hbl hr ⊢
  refine wpIn_rangeFunc_ownF (F := Fence.wide) (n := 5) rfl (by decide) (gf := 35) (lb := #[.pointer (some ⟨w.heap.size + 1, 0, none⟩)]) rfl trivial (enters_of Try.func35 (by kernel_rfl) rfl)
    hseq two_t (two_b (by omega) hbl) (Below.refl _ _) (fun _ => rfl)
    (fun pre W => Cel w w.heap.size (.int .i64 ((endOf 0 (pre.map (·.1)) : Nat) : Int)) W) (fun _ _ _ => False)
    (cel_own w w.heap.size _ (by omega)) (fun _ _ _ _ _ hs _ _ => hs) hz0
    (fun x => { tmps := #[.slice a len cap, undef, .int .i64 0, .pointer (some ⟨w.heap.size, 0, none⟩), .int .i64 ((x.1.1 : Nat) : Int), .slice (pad b (off + x.1.1) (cap - x.1.1)) x.1.2 (cap - x.1.1 - 8), .slice a len cap, .func (.func 35) #[] #[.pointer (some ⟨w.heap.size + 1, 0, none⟩)], .int .i64 ((x.1.1 : Nat) : Int), .slice (pad b (off + x.1.1) (cap - x.1.1)) x.1.2 (cap - x.1.1 - 8), undef, undef, undef, undef, undef, undef], defers := [] }) ?assign ?body ?done ?stop
  case assign =>
    intro l x W K hK
    dsimp only [ryi]
    gi_wp2
    exact hK
  case body =>
    rintro l pre ⟨⟨k, n⟩, hx⟩ W hC _
    obtain ⟨h1, h2⟩ := ri_le ⟨(k, n), hx⟩
    rw [hb.1] at h1
    have hcl := hC.1.1
    have hfr := hC.1.2
    dsimp only at h1 h2 ⊢
    gi_wp2_with (refine ⟨trivial, ?_⟩; gi_at_call 15; refine (CallsIn.inRound l (callsIn_wide.2 (size_in n h2 _))).mono ?_; rintro e w' ⟨rfl, rfl⟩)
    refine ⟨KeepsOthers.setCell _ _ _, ⟨setCell_other _ _ _ (by omega), setCell_other _ _ _ hbE⟩, cel_val (cel_set hC (Nat.le_refl _) _) (val_int ?_)⟩
    rw [List.map_append, List.map_singleton, endOf_snoc]
    dsimp only
    omega
  case done =>
    rintro D ys W hD hys hC hK
    have hcl := hC.1.1
    gi_wp2
    refine ⟨by simp, .inl ⟨_, _, rfl, run_takeDeferred hK, ?_⟩⟩
    exact ⟨_, results_tmp rfl _ _ _, by rw [← hys]; rfl, hC.2.trans (belowK_b (w := w) (Nat.le_refl _) W D _ _ (by omega) hK rfl rfl)⟩
  case stop =>
    rintro D c pre W _ _ h _
    exact h.elim
set_option maxRecDepth 100000 in
set_option maxHeartbeats 4000000 in
theorem count_in (a : Option Addr) (len cap : Nat) (zs : List Int) (w : World) (hb : Bs w a len zs) (hc : len ≤ cap) (hm : cap ≤ 9223372036854775807) :
    CallsIn Fence.wide 5 Try.prog 21 #[.slice a len cap] w fun e W' => e = .returned (.int .i64 ((recs zs).length : Int)) ∧ Below w.heap.size w W' := by
  refine callsIn_of_wp_marks Try.func21 rfl trivial ?_ rfl
  simp only [Try.ntmps21, List.size_toArray, List.length_cons, List.length_nil, Nat.reduceAdd, Nat.reduceSub, Array.replicate_succ, Array.replicate_zero, List.push_toArray, List.append_toArray, List.nil_append, List.cons_append]
  gi_wp2_with (refine ⟨trivial, ?_⟩; gi_at_call 31; refine (callsIn_wide.2 (records_d _ _ _ _)).mono ?_; rintro e w' ⟨rfl, rfl⟩)
  have hs := cell_new_l w (.int .i64 0) 3
  have hr := cell_new_l (w.alloc (.cells #[.int .i64 0] 3)) (.slice a len cap) 22
  rw [World.size_alloc] at hr
  have hB0 : Below w.heap.size w ((w.alloc (.cells #[.int .i64 0] 3)).alloc (.cells #[.slice a len cap] 22)) := ((Below.refl _ w).alloc (Nat.le_refl _) _).alloc (by simp) _
  have hz0 : Cel w w.heap.size (.int .i64 0) ((w.alloc (.cells #[.int .i64 0] 3)).alloc (.cells #[.slice a len cap] 22)) := ⟨⟨cell_alloc_l _ hs.1, frozen_alloc_l _ hs.1 hs.2⟩, hB0⟩
  obtain ⟨b, off, hbp, hseq⟩ := recs_any hr.1 (hb.later hB0) hc hm
  have hbE : b ≠ w.heap.size := by
    rcases hbp with rfl | ⟨hl, rfl⟩
    · omega
    · have := bs_lt hb hl; omega
  have hsz : ((w.alloc (.cells #[.int .i64 0] 3)).alloc (.cells #[.slice a len cap] 22)).heap.size = w.heap.size + 1 + 1 := by simp
  have hbl : b < ((w.alloc (.cells #[.int .i64 0] 3)).alloc (.cells #[.slice a len cap] 22)).heap.size := by
    rcases hbp with rfl | ⟨hl, rfl⟩
    · omega
    · have := bs_lt hb hl; omega
  generalize (w.alloc (.cells #[.int .i64 0] 3)).alloc (.cells #[.slice a len cap] 22) = W0 at hseq hz0 hsz hbl hr ⊢
  refine wpIn_rangeFunc_ownF (F := Fence.wide) (n := 5) rfl (by decide) (gf := 35) (lb := #[.pointer (some ⟨w.heap.size + 1, 0, none⟩)]) rfl trivial (enters_of Try.func35 (by kernel_rfl) rfl)
    hseq two_t (two_b (by omega) hbl) (Below.refl _ _) (fun _ => rfl)
    (fun pre W => Cel w w.heap.size (.int .i64 ((pre.length : Nat) : Int)) W) (fun _ _ _ => False)
    (cel_own w w.heap.size _ (by omega)) (fun _ _ _ _ _ hs _ _ => hs) hz0
    (fun x => { tmps := #[.slice a len cap, undef, .int .i64 0, .pointer (some ⟨w.heap.size, 0, none⟩), .slice a len cap, .func (.func 35) #[] #[.pointer (some ⟨w.heap.size + 1, 0, none⟩)], .int .i64 ((x.1.1 : Nat) : Int), .slice (pad b (off + x.1.1) (cap - x.1.1)) x.1.2 (cap - x.1.1 - 8), undef, undef, undef], defers := [] }) ?assign ?body ?done ?stop
  case assign =>
    intro l x W K hK
    dsimp only [ryi]
    gi_wp2
    exact hK
  case body =>
    rintro l pre x W hC hlt
    have hcl := hC.1.1
    have hfr := hC.1.2
    gi_wp2
    refine ⟨KeepsOthers.setCell _ _ _, ⟨setCell_other _ _ _ (by omega), setCell_other _ _ _ hbE⟩, cel_val (cel_set hC (Nat.le_refl _) _) (val_int ?_)⟩
    rw [List.length_append]
    simp
  case done =>
    rintro D ys W hD hys hC hK
    have hcl := hC.1.1
    gi_wp2
    refine ⟨by simp, .inl ⟨_, _, rfl, run_takeDeferred hK, ?_⟩⟩
    exact ⟨_, results_tmp rfl _ _ _, by rw [← hys, List.length_map]; rfl, hC.2.trans (belowK_b (w := w) (Nat.le_refl _) W D _ _ (by omega) hK rfl rfl)⟩
  case stop =>
    rintro D c pre W _ _ h _
    exact h.elim

theorem whole_d (a : Option Addr) (len cap : Nat) (zs : List Int) (w : World) (hb : Bs w a len zs) (hc : len ≤ cap) (hm : cap ≤ 9223372036854775807) :
    Calls Try.prog 19 #[.slice a len cap] w fun e W' => e = .returned (.int .i64 ((endOf 0 (recs zs) : Nat) : Int)) ∧ Below w.heap.size w W' := callsIn_wide.1 (whole_in a len cap zs w hb hc hm)
theorem count_d (a : Option Addr) (len cap : Nat) (zs : List Int) (w : World) (hb : Bs w a len zs) (hc : len ≤ cap) (hm : cap ≤ 9223372036854775807) :
    Calls Try.prog 21 #[.slice a len cap] w fun e W' => e = .returned (.int .i64 ((recs zs).length : Int)) ∧ Below w.heap.size w W' := callsIn_wide.1 (count_in a len cap zs w hb hc hm)
end Go.Proofs.Ytfmjknknckjdiaa

namespace Go.Proofs.Ytfmjknknckjdiaa
open Go.RowKit

theorem zeros_size (n : Nat) : (Builtin.zeroCells #[Value.int .u8 0] n).size = n := by simp [Builtin.zeroCells]

set_option maxHeartbeats 800000 in
theorem grow_nil (n : Nat) (h0 : 0 < n) (hm : n ≤ 140737488355328) (w : World) :
    Calls Try.prog 34 #[.slice none 0 0, .int .i64 (n : Int)] w fun e w' => ∃ cap, e = .returned (.slice (some ⟨w.heap.size, 0, none⟩) 0 cap) ∧ n ≤ cap ∧ w'.ownsRow w.heap.size 5 1 (.slice (some ⟨w.heap.size, 0, none⟩) 0 cap) 0 [] ∧ Below w.heap.size w w' := by
  obtain ⟨i0, hi, hz0, hz1, hz2⟩ := info_parts info5
  have hr : ∀ ty w, (Builtin.append_ #[22, 3] ty #[.slice none 0 0, .int .i64 (n : Int)]).run Try.prog w = _ := fun ty w => Lib.run_append_nil_zeros (P := Try.prog) w 22 3 ty 5 i0 (.int .u8 0) .i64 .i64 Try.underlying22 Try.underlying3 hi hz0 n h0 (by rw [hz1]; decide) (by omega) (by rw [hz2]; omega)
  have hge := grownCap_ge w n 0 5
  have hle := grownCap_le_maxLen w n 0 5 (by unfold maxLen; omega)
  have hr0 := fun ty => hr ty w
  clear hi hz0 hz1 hz2 hr
  generalize grownCap w n 0 5 = G at hr0 hge hle
  go_enter Try.func34, Try.ntmps34
  go_wp2_with (at_builtin; refine Lib.wpList_append_run _ rfl _ _ _ _ rfl _ _ rfl rfl _ _ (hr0 _) ?_)
  go_ret
  refine ⟨G, rfl, hge, ⟨rfl, .inr ⟨w.heap.size, G, _, rfl, Nat.le_refl _, World.alloc_heap_new w.drew _, Nat.zero_le _, hle, ?_, by simp⟩⟩, ((Below.refl _ w).drew).alloc (Nat.le_refl _) _⟩
  rw [Array.size_append, zeros_size, zeros_size]; omega

/-- How many bytes the first k parts have. -/
def fL (ps : List (List Int)) (k : Nat) : Nat := (ps.take k).flatten.length

set_option maxHeartbeats 800000 in
theorem concat_d (a : Option Addr) (n cap : Nat) (ps : List (List Int)) (w : World) (hp : Parts w a n ps) (hn : n ≤ maxLen) (h0 : 0 < ps.flatten.length) (hm : ps.flatten.length ≤ 140737488355328) :
    Calls Try.prog 25 #[.slice a n cap] w fun e w' => ∃ v, e = .returned v ∧ w'.ownsRow w.heap.size 5 1 v ps.flatten.length (byteVals ps.flatten) ∧ Below w.heap.size w w' := by
  unfold maxLen at hn
  obtain ⟨hl, hc⟩ := hp
  have hfl : fL ps n = ps.flatten.length := by unfold fL; rw [List.take_of_length_le (by omega)]
  rw [← hfl] at h0 hm ⊢
  have HF := hide1 hfl
  clear hfl
  have hmono : ∀ k, fL ps k ≤ fL ps n := by
    intro k
    rw [HF.out]
    unfold fL
    conv => rhs; rw [← List.take_append_drop k ps, List.flatten_append, List.length_append]
    omega
  have f0 : fL ps 0 = 0 := rfl
  go_enter Try.func25, Try.ntmps25
  go_wp2
  go_loop [3, 11] (fun x i => ∃ k : Nat, k ≤ n ∧ i = .int .i64 k ∧ x = .int .i64 ((fL ps k : Nat) : Int)) (fun _ i => n - (intOf i).toNat)
  case atStart => exact ⟨0, by omega, rfl, rfl⟩
  case round =>
    obtain ⟨k, hk, rfl, rfl⟩ := hrel
    by_cases hlt : k < n
    · obtain ⟨b, off, rfl, hcell⟩ := hc (by omega)
      obtain ⟨a', len, cap', hck, hm', hbs⟩ := hcell k hlt
      have hle : fL ps (k + 1) = fL ps k + len := by unfold fL; rw [flat_snoc ps k (by omega), List.length_append, hbs.1]
      have hle2 := hmono (k + 1)
      have HS := hide1 hle
      clear hc hcell hmono
      go_wp2
      refine ⟨⟨k + 1, by omega, by go_num, val_int ?_⟩, by simp [intOf]; omega⟩
      rw [HS.out]; omega
    · obtain rfl : k = n := by omega
      clear hlt
      go_wp2_with fail
      refine (grow_nil _ h0 hm _).mono ?_
      rintro e w1 ⟨cap1, rfl, hcap1, hown1, hb1⟩
      go_wp2_with fail
      go_loopw [6, 27] (fun x i wr => ∃ j : Nat, j ≤ k ∧ i = .int .i64 j ∧ wr.ownsRow w.heap.size 5 1 x (fL ps j) (byteVals (ps.take j).flatten) ∧ Below w.heap.size w wr) (fun _ i _ => k - (intOf i).toNat)
      case atStart => exact ⟨0, by omega, rfl, hown1, hb1⟩
      case round =>
        obtain ⟨j, hj, rfl, hown, hbw⟩ := hrel
        by_cases hjk : j < k
        · obtain ⟨b, off, rfl, hcell⟩ := hc (by omega)
          obtain ⟨a', len, cap', hck, hm', hbs⟩ := hcell j hjk
          have hle : fL ps (j + 1) = fL ps j + len := by unfold fL; rw [flat_snoc ps j (by omega), List.length_append, hbs.1]
          have hfs : byteVals (ps.take (j + 1)).flatten = byteVals (ps.take j).flatten ++ byteVals (ps.getD j []) := by rw [flat_snoc ps j (by omega)]; simp [byteVals]
          have hle2 := hmono (j + 1)
          have HS := hide1 hle
          have HT := hide1 hfs
          have hck' := cell_later hbw hck
          have hbs' := hbs.later hbw
          clear hc hcell hmono hfs hck hbs
          go_wp2_with (at_builtin; refine wpList_append_bs rfl (.tmp 31) (.tmp 32) rfl w.heap.size _ _ _ rfl hown _ len cap' _ rfl hbs' (by omega) hbw.size ?_; intro v2 w2 hown2 hg2; have hb2 := hbw.grown hg2 hbw.size (fun k e => (hown.lt k e).1))
          go_roundw
          case rel => exact ⟨j + 1, by omega, by go_num, by rw [HS.out, HT.out]; exact hown2, hb2⟩
          case measure => simp [intOf]; omega
        · obtain rfl : j = k := by omega
          go_wp2
          go_ret
          rw [List.take_of_length_le (by omega)] at hown
          exact ⟨_, rfl, hown, hbw⟩
theorem parts_new3 (w : World) {a1 a2 a3 : Option Addr} {l1 c1 l2 c2 l3 c3 : Nat} {z1 z2 z3 : List Int} (k1 : Bs w a1 l1 z1) (m1 : l1 ≤ maxLen) (k2 : Bs w a2 l2 z2) (m2 : l2 ≤ maxLen) (k3 : Bs w a3 l3 z3) (m3 : l3 ≤ maxLen) :
    Parts (w.alloc (.cells #[.slice a1 l1 c1, .slice a2 l2 c2, .slice a3 l3 c3] 22)) (some ⟨w.heap.size, 0, none⟩) 3 [z1, z2, z3] := by
  refine ⟨rfl, fun _ => ⟨_, _, rfl, fun i hi => ?_⟩⟩
  rcases (show i = 0 ∨ i = 1 ∨ i = 2 by omega) with rfl | rfl | rfl
  · exact ⟨a1, l1, c1, by rw [World.cell?_alloc_mark]; rfl, m1, k1.later (below_one _ _)⟩
  · exact ⟨a2, l2, c2, by rw [World.cell?_alloc_mark]; rfl, m2, k2.later (below_one _ _)⟩
  · exact ⟨a3, l3, c3, by rw [World.cell?_alloc_mark]; rfl, m3, k3.later (below_one _ _)⟩
theorem owns_weak {w : World} {base base' : Nat} {e : TypeId} {size : Nat} {v : Value} {n : Nat} {xs : List Value} (h : w.ownsRow base' e size v n xs) (hb : base ≤ base') : w.ownsRow base e size v n xs := by
  obtain ⟨h1, h2⟩ := h
  refine ⟨h1, ?_⟩
  rcases h2 with h2 | ⟨g, cap, cur, e1, h3, h4⟩
  · exact .inl h2
  · exact .inr ⟨g, cap, cur, e1, Nat.le_trans hb h3, h4⟩
theorem flat3 (x y z : List Int) : [x, y, z].flatten = x ++ y ++ z := by simp

set_option maxHeartbeats 800000 in
theorem put_no (a : Option Addr) (len cap : Nat) (w : World) (h : 65536 < len) :
    Calls Try.prog 10 #[.slice a len cap] w fun e w' => e = .returned (.tuple #[.slice none 0 0, .iface 33 (.int .i64 10)]) ∧ w' = w := by
  go_enter Try.func10, Try.ntmps10
  go_wp2
  go_ret2
  exact ⟨rfl, rfl⟩

set_option maxHeartbeats 800000 in
theorem put_d (a : Option Addr) (len cap : Nat) (zs : List Int) (w : World) (hb : Bs w a len zs) (h : len ≤ 65536) :
    Calls Try.prog 10 #[.slice a len cap] w fun e w' => ∃ v, e = .returned (.tuple #[v, .nilIface]) ∧ w'.ownsRow w.heap.size 5 1 v (8 + len) (byteVals (put zs)) ∧ Below w.heap.size w w' := by
  have el := hb.1
  go_enter Try.func10, Try.ntmps10
  go_wp2_with fail
  refine (bytes_any len (by omega) _).mono ?_
  rintro e w1 ⟨rfl, hs1, hb1⟩
  go_wp2_with fail
  refine (of_any _ 2 2 [bytesOf len, zs] _ (parts_new2 w1 hs1 (by unfold maxLen; omega) (hb.later hb1) (by unfold maxLen; omega)) (by unfold maxLen; omega)).mono ?_
  rintro e w2 ⟨rfl, hb2⟩
  rw [flat2]
  have hb2' := bl2 (below_one w1 _) hb2
  have hs2 := hs1.later hb2'
  have hb3 := bl2 hb1 hb2'
  clear hs1 hb1 hb2 hb2'
  go_wp2_with fail
  refine (bytes_any _ (crcSum_lt _) _).mono ?_
  rintro e w3 ⟨rfl, hs3, hb4⟩
  have hb5 := bl2 hb3 hb4
  have hs2' := hs2.later hb4
  clear hs2 hb4
  go_wp2_with fail
  refine (concat_d _ 3 3 [bytesOf len, bytesOf (crcSum (bytesOf len ++ zs)), zs] _ (parts_new3 w3 hs2' (by unfold maxLen; omega) hs3 (by unfold maxLen; omega) (hb.later hb5) (by unfold maxLen; omega)) (by unfold maxLen; omega) (by rw [flat3]; simp [bytesOf_length]; omega) (by rw [flat3]; simp [bytesOf_length]; omega)).mono ?_
  rintro e w4 ⟨v, rfl, hown, hb6⟩
  rw [flat3, show bytesOf len ++ bytesOf (crcSum (bytesOf len ++ zs)) ++ zs = put zs by unfold put; rw [el], put_length, el] at hown
  have hb7 := bl2 hb5 (bl2 (below_one w3 _) hb6)
  have hsz : w.heap.size ≤ (w3.alloc (.cells #[.slice (some ⟨w.heap.size, 0, none⟩) 4 4, .slice (some ⟨w2.heap.size, 0, none⟩) 4 4, .slice a len cap] 22)).heap.size := by have := hb5.size; simp; omega
  have hown' := owns_weak hown hsz
  clear hown hb6
  go_wp2_with fail
  go_ret2
  exact ⟨_, rfl, hown', hb7⟩
end Go.Proofs.Ytfmjknknckjdiaa

namespace Go.Proofs.Ytfmjknknckjdiaa
open Go.RowKit

/-- An append of bytes onto a row of the call's own leaves what the row had: the elder slice reads on. -/
theorem run_append_keep (w : World) (base ty g n cap : Nat) (xs : List Value) (hown : w.ownsRow base 5 1 (.slice (some ⟨g, 0, none⟩) n cap) n xs) (ad : Addr) (m c : Nat) (zs : List Int) (hb : Bs w (some ad) m zs)
    (hbytes : n + m ≤ 140737488355328) (hbase : base ≤ w.heap.size) :
    ∃ v' w', (Builtin.append_ #[22, 22] ty #[.slice (some ⟨g, 0, none⟩) n cap, .slice (some ad) m c]).run Try.prog w = .ok v' w' ∧ w'.ownsRow base 5 1 v' (n + m) (xs ++ byteVals zs) ∧ w.grownBy w' (some g) ∧ ∀ j, j < n → w'.cell? ⟨g, j, none⟩ = w.cell? ⟨g, j, none⟩ := by
  obtain ⟨v', w', hr, h1, h2⟩ := run_append_bs w base ty _ n xs hown (some ad) m c zs hb hbytes hbase
  refine ⟨v', w', hr, h1, h2, fun j hj => ?_⟩
  obtain ⟨i0, hi, hz0, hz1, hz2⟩ := info_parts info5
  have hl : xs.length = n := by have := hown.1; omega
  have hnews : ∀ j u, (byteVals zs)[j]? = some u → w.cell? (ad.add j) = some u := by
    intro j u hj
    have hjl : j < zs.length := by
      rcases Nat.lt_or_ge j zs.length with h | h
      · exact h
      · rw [List.getElem?_eq_none (by simpa [byteVals] using h)] at hj; cases hj
    obtain ⟨b, off, e, hc⟩ := hb.2.2 (by have := hb.1; omega)
    cases e
    have := hc j (by have := hb.1; omega)
    rw [Addr.add_lit, this]
    simp [byteVals, hjl] at hj
    simp [hjl, hj]
  by_cases hroom : n + m ≤ cap
  · obtain ⟨w2, hr2, _, _⟩ := run_append_own_spare (P := Try.prog) w base 22 ty 5 i0 1 Try.underlying22 hi hz1 g n cap xs hown ad m c (byteVals zs) (by simp [byteVals, hb.1]) hnews
      (by intro u hu; simp [byteVals] at hu; obtain ⟨z, _, rfl⟩ := hu; rfl) hroom
    rw [hr] at hr2
    cases hr2
    rw [h1.cellAt j (by omega), hown.cellAt j (by omega), List.getElem?_append_left (by omega)]
  · have hr2 := run_append_grow (P := Try.prog) w 22 ty 5 i0 (.int .u8 0) Try.underlying22 hi hz0 ⟨g, 0, none⟩ n cap xs (by rw [hz1]; omega) (hown.cells rfl) ad m c (byteVals zs) (by rw [hz1]; simp [byteVals, hb.1]) hnews (by omega) (by omega) (growslice_fits (by omega) (by rw [hz2]; omega))
    rw [hr] at hr2
    cases hr2
    have hlt := (hown.lt g rfl).2
    exact World.cell?_of_block (Below.heap_alloc w.drew _ g hlt)

theorem wpList_append_keep {w : World} {ops : Array Oper} {rest : List Oper} {o : Oper} {a : Act} {Q : Exit → Act → World → Prop} (hgd : Region.wanted o (yielded ops a.tmps) = true) (s x : Operand)
    (ho : o.op = .call { callee := .builtin .append, args := #[s, x], argTypes := #[22, 22] }) (base g n cap : Nat) (xs : List Value) (hs : a.eval s = .slice (some ⟨g, 0, none⟩) n cap) (hown : w.ownsRow base 5 1 (.slice (some ⟨g, 0, none⟩) n cap) n xs) (ad : Addr) (m c : Nat) (zs : List Int) (hx : a.eval x = .slice (some ad) m c) (hb : Bs w (some ad) m zs)
    (hbytes : n + m ≤ 140737488355328) (hbase : base ≤ w.heap.size)
    (h : ∀ v' w', w'.ownsRow base 5 1 v' (n + m) (xs ++ byteVals zs) → w.grownBy w' (some g) → (∀ j, j < n → w'.cell? ⟨g, j, none⟩ = w.cell? ⟨g, j, none⟩) → wpList Try.prog ops Q rest (a.put o.dst v') w') : wpList Try.prog ops Q (o :: rest) a w := by
  refine wpList_step fun K hK => ?_
  rw [if_pos hgd]
  obtain ⟨v', w', hr, h2, h3, h4⟩ := run_append_keep w base o.type g n cap xs hown ad m c zs hb hbytes hbase
  unfold Oper.wp execOp
  simp only [ho, resolve, invoke, builtin, Sem.run_bind, Sem.run_pure, Result.andThen_ok, List.map_toArray, List.map_cons, List.map_nil, hs, hx, hr]
  exact hK _ _ (h v' w' h2 h3 h4)

theorem babc : IsB [97, 98, 99] := show ∀ z ∈ [(97 : Int), 98, 99], 0 ≤ z ∧ z < 256 by decide
theorem owned_cap {w : World} {base : Nat} {e : TypeId} {size : Nat} {a : Option Addr} {n l cap : Nat} {xs : List Value} (h : w.ownsRow base e size (.slice a l cap) n xs) : cap ≤ 9223372036854775807 := by
  rcases h.2 with ⟨h1, _⟩ | ⟨g, c, cur, h1, _, _, _, h2, _⟩
  · cases h1; omega
  · cases h1; unfold maxLen at h2; omega
theorem stopAt {p : Prop} (h : Hid p) : p := h.out
theorem endOf_put (ps : List (List Int)) (hps : ∀ p ∈ ps, p.length ≤ 65536) (t : List Int) (ht : rec1 t = none) : endOf 0 (recs (puts ps ++ t)) = szs ps := by
  rw [recs_puts ps hps t ht, endOf_offs, Nat.zero_add]
theorem count_put (ps : List (List Int)) (hps : ∀ p ∈ ps, p.length ≤ 65536) (t : List Int) (ht : rec1 t = none) : (recs (puts ps ++ t)).length = ps.length := by
  rw [recs_puts ps hps t ht, offs_length]
theorem put_zero (p : List Int) : (byteVals (put p))[0]? = some (.int .u8 ((p.length % 256 : Nat) : Int)) := rfl

set_option maxHeartbeats 800000 in
theorem alive_d (w : World) : Calls Try.prog 8 #[] w fun e w' => e = .returned (.bool true) ∧ Below w.heap.size w w' := by
  have kc := fun (w : World) (C : Array Value) (n c : Nat) => Lib.run_convert_bytes_const (P := Try.prog) w 22 5 C n c Try.underlying22 Try.underlying5
  have hn : Bs (w.alloc (.cells #[.int .u8 97, .int .u8 98, .int .u8 99] 5 (3, 4))) (some ⟨w.heap.size, 0, none⟩) 3 [97, 98, 99] := bs_new w [97, 98, 99] (3, 4) (by decide)
  go_enter Try.func8, Try.ntmps8
  go_wp2_with fail
  refine (put_d _ 3 3 [97, 98, 99] _ hn (by omega)).mono ?_
  rintro e w1 ⟨v, rfl, hown, hb1⟩
  have hb1' := bl2 (below_one w _) hb1
  have hlen : (8 + 3 : Nat) = 10 + 1 := rfl
  rw [hlen] at hown
  obtain ⟨g, cap, rfl⟩ := ownsRow_succ hown
  have hc0 := hown.cellAt 0 (by omega)
  rw [put_zero] at hc0
  have hc0' := cell_alloc_l (.cells #[.int .u8 1] 5) hc0
  have hown := owns_weak (base := w.heap.size) hown (by simp)
  go_wp2_with (at_builtin; refine stopAt ?_)
  refine hide1 ?_
  refine wpList_append_keep rfl (.tmp 23) (.tmp 24) rfl w.heap.size _ _ _ _ rfl (hown.alloc _) _ 1 1 [1] rfl (bs_one _ _ (by decide)) (by omega) (by have := hb1'.size; simp; omega) ?_
  intro v2 w2 hown2 hg2 hkeep
  have hb2 : Below w.heap.size w w2 := (hb1'.alloc (by have := hb1'.size; omega) _).grown hg2 (by have := hb1'.size; simp; omega) (fun k e => by cases e; exact (hown.lt _ rfl).1)
  have hbs1 := bs_owned (hown.alloc (.cells #[.int .u8 1] 5)) (put_bytes babc)
  have hcap := owned_cap hown
  obtain ⟨_, _, e1, hbs1, hle1, _⟩ := hbs1
  cases e1
  have hbs1' : Bs w2 (some ⟨g, 0, none⟩) 11 (put [97, 98, 99]) := by
    obtain ⟨q1, q2, q3⟩ := hbs1
    refine ⟨q1, q2, fun hp => ?_⟩
    obtain ⟨b', off', e, hc⟩ := q3 hp
    cases e
    exact ⟨_, _, rfl, fun i hi => by rw [Nat.zero_add, hkeep i hi, ← hc i hi, Nat.zero_add]⟩
  have e12 : byteVals (put [97, 98, 99]) ++ byteVals [1] = byteVals (put [97, 98, 99] ++ [1]) := by simp [byteVals]
  rw [e12] at hown2
  obtain ⟨a2, cap2, rfl, hbs2, hle2, _⟩ := bs_owned hown2 ((put_bytes babc).app (show ∀ z ∈ [(1 : Int)], 0 ≤ z ∧ z < 256 by decide))
  have hwh : endOf 0 (recs (put [97, 98, 99] ++ [1])) = 11 := endOf_put [[97, 98, 99]] (by simp) [1] rfl
  have hct : (recs (put [97, 98, 99])).length = 1 := by have := count_put [[97, 98, 99]] (by simp) [] rfl; rwa [List.append_nil] at this
  have hm2 := owned_cap hown2
  go_wp2_with fail
  refine (whole_d _ _ _ _ _ hbs2 hle2 hm2).mono ?_
  rintro e w3 ⟨rfl, hb3⟩
  rw [hwh]
  go_wp2_with fail
  refine (count_d _ _ _ _ _ (hbs1'.later hb3) hle1 hcap).mono ?_
  rintro e w4 ⟨rfl, hb4⟩
  rw [hct]
  go_wp2_with fail
  go_ret
  exact ⟨rfl, bl2 hb2 (bl2 hb3 hb4)⟩
end Go.Proofs.Ytfmjknknckjdiaa

namespace Go.Proofs.Ytfmjknknckjdiaa
open Go.RowKit

theorem byteVals_app (x y : List Int) : byteVals x ++ byteVals y = byteVals (x ++ y) := by simp [byteVals]
theorem puts_snoc (ps : List (List Int)) (k : Nat) (h : k < ps.length) : puts (ps.take (k + 1)) = puts (ps.take k) ++ put (ps.getD k []) := by
  rw [List.take_succ_eq_append_getElem h, puts_app]
  simp [puts, List.getD_eq_getElem?_getD, h]
theorem szs_snoc (ps : List (List Int)) (k : Nat) (h : k < ps.length) : szs (ps.take (k + 1)) = szs (ps.take k) + (8 + (ps.getD k []).length) := by
  rw [← puts_length, puts_snoc ps k h, List.length_append, puts_length, put_length]
theorem puts_bytes {ps : List (List Int)} (h : ∀ p ∈ ps, IsB p) : IsB (puts ps) := by
  induction ps with
  | nil => exact IsB.nil
  | cons p ps ih => rw [puts_cons]; exact (put_bytes (h p (by simp))).app (ih fun q hq => h q (by simp [hq]))
theorem parts_is {w : World} {a : Option Addr} {n : Nat} {ps : List (List Int)} (h : Parts w a n ps) : ∀ p ∈ ps, IsB p := by
  intro p hp
  obtain ⟨i, hi, rfl⟩ := List.mem_iff_getElem.1 hp
  obtain ⟨b, off, _, hcell⟩ := h.2 (by have := h.1; omega)
  obtain ⟨_, _, _, _, _, hbs⟩ := hcell i (by have := h.1; omega)
  have := hbs.2.1
  unfold IsB
  simpa [List.getD_eq_getElem?_getD, hi] using this

theorem Bs.pre {w : World} {a : Option Addr} {len : Nat} {zs : List Int} (h : Bs w a len zs) (n : Nat) (hn : n ≤ len) : Bs w a n (zs.take n) := by
  obtain ⟨h1, h2, h3⟩ := h
  refine ⟨by simp; omega, IsB.take h2 n, fun hp => ?_⟩
  obtain ⟨b, off, e, hc⟩ := h3 (by omega)
  refine ⟨b, off, e, fun i hi => ?_⟩
  rw [hc i (by omega)]
  simp [hi]

/-- What the first records have come to: at most so long. -/
def Row (w : World) (ps : List (List Int)) (k : Nat) (x : Value) (wr : World) : Prop :=
  wr.ownsRow w.heap.size 5 1 x (szs (ps.take k)) (byteVals (puts (ps.take k))) ∧ Below w.heap.size w wr ∧ szs (ps.take k) ≤ 308 * k ∧ ∀ p ∈ ps.take k, p.length ≤ 300

theorem row_next {w wr w1 w2 : World} {ps : List (List Int)} {k : Nat} {x v2 : Value} (hk : k < ps.length) (h : Row w ps k x wr) (hb1 : Below wr.heap.size wr w1) (hp : (ps.getD k []).length ≤ 300)
    (hown2 : w2.ownsRow w.heap.size 5 1 v2 (szs (ps.take k) + (8 + (ps.getD k []).length)) (byteVals (puts (ps.take k)) ++ byteVals (put (ps.getD k [])))) (hg : w1.grownBy w2 x.ownBlock) : Row w ps (k + 1) v2 w2 := by
  obtain ⟨h1, h2, h3, h4⟩ := h
  refine ⟨?_, ?_, ?_, ?_⟩
  · rw [szs_snoc ps k hk, puts_snoc ps k hk, ← byteVals_app]; exact hown2
  · have h5 := bl2 h2 hb1
    exact h5.grown hg h5.size (fun j e => (h1.lt j e).1)
  · rw [szs_snoc ps k hk]; omega
  · intro p hp'
    rw [List.take_succ_eq_append_getElem hk] at hp'
    rcases List.mem_append.1 hp' with h | h
    · exact h4 p h
    · simp at h; subst h; simpa [List.getD_eq_getElem?_getD, hk] using hp

theorem owns_later {w w' : World} {base : Nat} {v : Value} {n : Nat} {xs : List Value} (h : w.ownsRow base 5 1 v n xs) (hb : Below w.heap.size w w') : w'.ownsRow base 5 1 v n xs :=
  h.kept (grown_of hb) (by cases v.ownBlock with | none => exact .inl rfl | some k => exact .inr (by simp))

set_option maxRecDepth 100000 in
set_option maxHeartbeats 2000000 in
theorem joins_walk (a : Option Addr) (n cap : Nat) (ps : List (List Int)) (ab : Option Addr) (lb cb : Nat) (zb : List Int) (w : World) (hp : Parts w a n ps) (hn : n ≤ maxLen) (hb : Bs w ab lb zb) (hlc : lb ≤ cb) (hcm : cb ≤ 9223372036854775807) :
    Calls Try.prog 7 #[.slice a n cap, .slice ab lb cb] w fun e w' => e = .returned (.bool true) ∧ Below w.heap.size w w' := by
  unfold maxLen at hn
  go_enter Try.func7, Try.ntmps7
  go_wp2_with fail
  refine (alive_d _).mono ?_
  rintro e w1 ⟨rfl, hb1⟩
  by_cases hl : 2000 < lb
  · go_wp2_with fail
    go_ret
    exact ⟨rfl, hb1⟩
  · have hp1 := hp.later hb1
    have hbb1 := hb.later hb1
    have hown0 := owns_weak (base := w.heap.size) (ownsRow_empty w1 w1.heap.size (Nat.le_refl _)) hb1.size
    have hb2 : Below w.heap.size w (w1.alloc (.cells #[] 5)) := hb1.alloc hb1.size _
    go_wp2_with fail
    go_loopw [5, 20] (fun x i wr => ∃ k : Nat, k ≤ n ∧ k ≤ 11 ∧ i = .int .i64 k ∧ Row w ps k x wr) (fun _ i _ => n - (intOf i).toNat)
    case atStart => exact ⟨0, by omega, by omega, rfl, hown0, hb2, Nat.zero_le _, by simp⟩
    case round =>
      obtain ⟨k, hk, hk11, rfl, hrow⟩ := hrel
      by_cases hlt : k < n
      · obtain ⟨b, off, rfl, hcell⟩ := hp.2 (by omega)
        obtain ⟨a', len, cap', hck, hm', hbs⟩ := hcell k hlt
        have hck' := cell_later hrow.2.1 hck
        have hbs' := hbs.later hrow.2.1
        clear hcell hck hbs
        by_cases h10 : 10 < k
        · go_wp2
          go_ret
          exact ⟨rfl, hrow.2.1⟩
        · by_cases h300 : 300 < len
          · go_wp2
            go_ret
            exact ⟨rfl, hrow.2.1⟩
          · go_wp2_with fail
            refine (put_d _ len cap' _ _ hbs' (by omega)).mono ?_
            rintro e w2 ⟨v, rfl, hown, hb3⟩
            have el := hbs'.1
            obtain ⟨a2, cap2, rfl, hbs2, hle2, _⟩ := bs_owned hown (put_bytes hbs'.2.1)
            have hsz : szs (ps.take k) + (8 + len) ≤ 140737488355328 := by have := hrow.2.2.1; omega
            have hbz := (bl2 hrow.2.1 hb3).size
            have hnx := @row_next w wr w2
            go_wp2_with (at_builtin; refine wpList_append_bs rfl (.tmp 39) (.tmp 40) rfl w.heap.size _ _ _ rfl (owns_later hrow.1 hb3) _ _ _ _ rfl hbs2 hsz hbz ?_; intro v3 w3 hown3 hg3)
            go_roundw
            case rel => exact ⟨k + 1, by omega, by omega, by go_num, row_next (by have := hp.1; omega) hrow hb3 (by omega) (by rw [el]; exact hown3) hg3⟩
            case measure => simp [intOf]; omega
      · obtain rfl : k = n := by omega
        have hpl := hp.1
        unfold Row at hrow
        rw [List.take_of_length_le (by omega)] at hrow
        obtain ⟨hown, hbw, hsz, hps⟩ := hrow
        obtain ⟨a5, c5, rfl, hbs5, hle5, _⟩ := bs_owned hown (puts_bytes (parts_is hp))
        have hown6 := owns_weak (base := w.heap.size) (ownsRow_empty wr wr.heap.size (Nat.le_refl _)) hbw.size
        have hbe := below_one wr (.cells #[] 5)
        have hbs5' := hbs5.later hbe
        go_wp2_with (at_builtin; refine stopAt ?_)
        refine hide1 ?_
        refine wpList_append_bs rfl (.tmp 43) (.tmp 44) rfl w.heap.size _ _ _ rfl hown6 _ _ _ _ rfl hbs5' (by omega) (bl2 hbw hbe).size ?_
        intro v7 w7 hown7 hg7
        have hb7 : Below w.heap.size w w7 := (bl2 hbw hbe).grown hg7 (bl2 hbw hbe).size (fun j e => (hown6.lt j e).1)
        clear hown6 hg7 hbs5' hbe
        go_wp2_with (at_builtin; refine wpList_append_bs rfl (.tmp 45) (.tmp 46) rfl w.heap.size _ _ _ rfl hown7 _ _ _ _ rfl (hb.later hb7) (by omega) hb7.size ?_; intro v8 w8 hown8 hg8; have hb8 := hb7.grown hg8 hb7.size (fun j e => (hown7.lt j e).1); refine stopAt ?_)
        refine hide1 ?_
        rw [Nat.zero_add, List.nil_append, byteVals_app] at hown8
        obtain ⟨qs, t, ez, ht, hqs, hbt⟩ := parse _ zb (Nat.le_refl _) hb.2.1
        have hpq : ∀ p ∈ ps ++ qs, p.length ≤ 65536 := by
          intro p h
          rcases List.mem_append.1 h with h | h
          · have := hps p h; omega
          · exact (hqs p h).1
        have e0 : puts ps ++ zb = puts (ps ++ qs) ++ t := by rw [ez, puts_app, List.append_assoc]
        have f1 : endOf 0 (recs (puts ps ++ zb)) = szs ps + szs qs := by rw [e0, endOf_put _ hpq t ht, szs_app]
        have f2 : endOf 0 (recs zb) = szs qs := by rw [ez]; exact endOf_put qs (fun p h => (hqs p h).1) t ht
        have f3 : (recs (puts ps ++ zb)).length = ps.length + qs.length := by rw [e0, count_put _ hpq t ht, List.length_append]
        have f4 : (recs zb).length = qs.length := by rw [ez]; exact count_put qs (fun p h => (hqs p h).1) t ht
        have f5 : (puts ps ++ zb).take (szs ps + szs qs) = puts (ps ++ qs) := by rw [e0, List.take_left' (by rw [puts_length, szs_app])]
        have f6 : endOf 0 (recs (puts (ps ++ qs))) = szs ps + szs qs := by
          have := endOf_put (ps ++ qs) hpq [] rfl
          rwa [List.append_nil, szs_app] at this
        have f7 : (recs (puts (ps ++ qs))).length = ps.length + qs.length := by
          have := count_put (ps ++ qs) hpq [] rfl
          rwa [List.append_nil, List.length_append] at this
        have hqb : szs qs ≤ lb := by rw [← hb.1, ez, List.length_append, puts_length]; omega
        have hqc := szs_ge qs
        obtain ⟨a8, c8, rfl, hbs8, hle8, _⟩ := bs_owned hown8 ((puts_bytes (parts_is hp)).app hb.2.1)
        have hc8 := owned_cap hown8
        have hbs9 := hbs8.pre (szs ps + szs qs) (by omega)
        rw [f5] at hbs9
        have F1 := hide1 f1; have F2 := hide1 f2; have F3 := hide1 f3; have F4 := hide1 f4; have F6 := hide1 f6; have F7 := hide1 f7
        clear f1 f2 f3 f4 f5 f6 f7 ez e0 hown8 hown7 hg8 hown hb7 hpq hps hqs
        generalize szs ps = A at *
        generalize szs qs = B at *
        generalize qs.length = C at *
        go_wp2_with fail
        refine (whole_d _ _ _ _ _ hbs8 hle8 hc8).mono ?_
        rintro e w9 ⟨rfl, hb9⟩
        rw [F1.out]
        have hbs8' := hbs8.later hb9
        have hbs9' := hbs9.later hb9
        have hbb9 := bl2 hb8 hb9
        clear hbs8 hbs9 hb9 hb8
        go_wp2_with fail
        refine (whole_d _ _ _ _ _ (hb.later hbb9) hlc hcm).mono ?_
        rintro e w10 ⟨rfl, hb10⟩
        rw [F2.out]
        replace hbb9 := bl2 hbb9 hb10
        replace hbs8' := hbs8'.later hb10
        replace hbs9' := hbs9'.later hb10
        clear hb10
        go_wp2_with fail
        refine (count_d _ _ _ _ _ hbs8' hle8 hc8).mono ?_
        rintro e w11 ⟨rfl, hb10⟩
        rw [F3.out]
        replace hbb9 := bl2 hbb9 hb10
        replace hbs8' := hbs8'.later hb10
        replace hbs9' := hbs9'.later hb10
        clear hb10
        go_wp2_with fail
        refine (count_d _ _ _ _ _ (hb.later hbb9) hlc hcm).mono ?_
        rintro e w12 ⟨rfl, hb10⟩
        rw [F4.out]
        replace hbb9 := bl2 hbb9 hb10
        replace hbs8' := hbs8'.later hb10
        replace hbs9' := hbs9'.later hb10
        clear hb10
        go_wp2_with fail
        refine (whole_d _ _ _ _ _ hbs9' (by omega) hc8).mono ?_
        rintro e w13 ⟨rfl, hb10⟩
        rw [F6.out]
        replace hbb9 := bl2 hbb9 hb10
        replace hbs8' := hbs8'.later hb10
        replace hbs9' := hbs9'.later hb10
        clear hb10
        go_wp2_with fail
        refine (count_d _ _ _ _ _ hbs9' (by omega) hc8).mono ?_
        rintro e w14 ⟨rfl, hb10⟩
        rw [F7.out]
        replace hbb9 := bl2 hbb9 hb10
        replace hbs8' := hbs8'.later hb10
        clear hb10
        go_wp2_with fail
        refine (count_d _ _ _ _ _ hbs8' hle8 hc8).mono ?_
        rintro e w15 ⟨rfl, hb10⟩
        rw [F3.out]
        replace hbb9 := bl2 hbb9 hb10
        clear hb10
        go_wp2_with fail
        go_ret
        exact ⟨rfl, hbb9⟩
end Go.Proofs.Ytfmjknknckjdiaa

namespace Go.Proofs.Ytfmjknknckjdiaa
open Go.RowKit Go.Shelf
attribute [local go_sem] Oper.semAt_some

/-- An iterator that hands on N items: item k is told by k and by something of β (where it lies), and reads so (Rd) in the world in which it is handed on. A round must keep the blocks of S. -/
def SeqC {β : Type} (gf : Nat) (lb : Array Value) (enc : Nat → β → Array Value) (Rd : Nat → β → World → Prop) (S : Nat → Prop) (N : Nat) (w : World) : Prop :=
  ∀ (l : Nat) (J Jx : Nat → World → Prop) (W : World), Below w.heap.size w W → W.heap.size = w.heap.size + 2 → OwnFrom W.heap.size J → OwnFrom W.heap.size Jx →
    (∀ k v W1, k < N → J k W1 → Rd k v W1 → YieldAt Fence.wide 3 Try.prog l (enc k v) W1 fun e W' =>
      (e = .returned (.bool true) ∧ J (k + 1) W' ∧ (∀ j, S j → W'.heap[j]? = W1.heap[j]?) ∧ KeepsFrom (w.heap.size + 2) W1 W') ∨ (e = .returned (.bool false) ∧ Jx k W' ∧ KeepsFrom (w.heap.size + 2) W1 W')) →
    J 0 W → CallsIn Fence.wide 4 Try.prog gf (#[.func (.yield l) #[] #[]] ++ lb) W fun e W' => (∃ v, e = .returned v) ∧ (J N W' ∨ ∃ k, k < N ∧ Jx k W')

/-- How a round may end. -/
def outC (B : Nat) (S : Nat → Prop) (I : Nat → World → Prop) (Ix : Code → Nat → World → Prop) (k : Nat) (W : World) : Exit → Act → World → Prop
  | .normal, _, W' => KeepsFrom B W W' ∧ (∀ j, S j → W'.heap[j]? = W.heap[j]?) ∧ I (k + 1) W'
  | .ret, _, W' => KeepsFrom B W W' ∧ Ix .ret k W'
  | .exit id, _, W' => KeepsFrom B W W' ∧ Ix (.exit id) k W'
  | _, _, _ => False

section
variable {β : Type} {enc : Nat → β → Array Value} {Rd : Nat → β → World → Prop} {S : Nat → Prop} {I : Nat → World → Prop} {Ix : Code → Nat → World → Prop} {B : Nat}

/-- The loop's record and the block of the rounds' deferred calls stand. -/
def Bk (B : Nat) (r : Loop) (W : World) : Prop := W.heap[B + 1]? = some (.loop r) ∧ W.heap[B]? = some (.deferred (some []))
theorem Bk.grown {r : Loop} {W W' : World} {row : Option Nat} (h : Bk B r W) (hg : W.grownBy W' row) (hr : ∀ x, row = some x → B + 2 ≤ x) : Bk B r W' :=
  ⟨(hg.block _ (Array.getElem?_eq_some_iff.1 h.1).1 (fun e => by have := hr _ e.symm; omega)).trans h.1, (hg.block _ (Array.getElem?_eq_some_iff.1 h.2).1 (fun e => by have := hr _ e.symm; omega)).trans h.2⟩
theorem Bk.put {r : Loop} {W : World} (h : Bk B r W) (r' : Loop) : Bk B r' (W.putObj (B + 1) (.loop r')) :=
  ⟨World.putObj_heap_same (Array.getElem?_eq_some_iff.1 h.1).1, (World.putObj_heap_other (by omega)).trans h.2⟩
theorem Bk.keeps {r : Loop} {W W' : World} (h : Bk B r W) (hk : KeepsFrom B W W') : Bk B r W' := ⟨hk.same _ _ (Nat.le_succ B) h.1 rfl, hk.same _ _ (Nat.le_refl B) h.2 rfl⟩
theorem kf_mono {B B' : Nat} {W W' : World} (h : KeepsFrom B W W') (hB : B ≤ B') : KeepsFrom B' W W' := ⟨h.size, fun k o hk h1 h2 => h.same k o (Nat.le_trans hB hk) h1 h2⟩
theorem kf_put (W : World) (o : Obj) : KeepsFrom (B + 2) W (W.putObj (B + 1) o) := KeepsFrom.of_grownBy (grownBy_putObj' W (B + 1) o) (fun j e => by cases e; omega)

/-- One round. -/
theorem round_cnt {r : Loop} (hrs : r.state = .ready) (hrp : r.pending = none) (hS : ¬ S (B + 1)) (hI : OwnFrom B I) (hIx : ∀ c, OwnFrom B (Ix c)) (hRd : ∀ k v W o, Rd k v W → (∃ r, W.heap[B + 1]? = some (.loop r)) → Rd k v (W.putObj (B + 1) o))
    (hps : ∀ k v, (enc k v).size = r.params.size) (k : Nat) (v : β) (hround : ∀ (l : Nat) (W : World) (Kq : Act → World → Prop), (∀ a', (∀ W2, I k W2 → Rd k v W2 → r.body.wpIn (Fence.wide.inRound l) 3 Try.prog (outC B S I Ix k W2) a' W2) → Kq a' W) →
      r.assign.wpIn (Fence.wide.inRound l) 3 Try.prog (Exit.then Kq (fun _ _ _ => False)) { tmps := (r.params.zip (enc k v)).foldl (fun t (p, v) => t.setIfInBounds p v) r.tmps, defers := [] } W) (W : World) (hi : I k W) (hbk : Bk B r W) (hrd : Rd k v W) {R : Ending → World → Prop}
    (hR1 : ∀ W', I (k + 1) W' ∧ Bk B r W' → (∀ j, S j → W'.heap[j]? = W.heap[j]?) → KeepsFrom (B + 2) W W' → R (.returned (.bool true)) W')
    (hR2 : ∀ c W', Ix c k W' → Bk B { r with state := .done, pending := some c } W' → KeepsFrom (B + 2) W W' → R (.returned (.bool false)) W') :
    YieldAt Fence.wide 3 Try.prog (B + 1) (enc k v) W R := by
  refine ⟨r.fn, _, r.assign, r.body, run_yield hbk.1 (hps k v), roundIn_of_wpIn trivial (hround (B + 1) W _ fun a' hbody => ⟨_, run_beginRound hbk.1 hrs, ?_⟩)⟩
  have hb2 := hbk.put { r with state := .busy }
  have hi2 := hI.putObj (.loop { r with state := .busy }) hi (Nat.le_succ B) hbk.1 rfl
  have hrd2 := hRd k v W (.loop { r with state := .busy }) hrd ⟨_, hbk.1⟩
  have hk2 := kf_put (B := B) W (.loop { r with state := .busy })
  have hs2 : ∀ j, S j → (W.putObj (B + 1) (.loop { r with state := .busy })).heap[j]? = W.heap[j]? := fun j hj => World.putObj_heap_other (fun e => hS (e ▸ hj))
  have back : ({ ({ r with state := .busy } : Loop) with state := .ready, pending := none } : Loop) = r := by cases r; simp_all
  refine wpIn_mono (hbody _ hi2 hrd2) ?_
  rintro e a3 W3 hp
  cases e with
  | normal =>
    have hb3 := hb2.keeps hp.1
    have hr := run_endRound (P := Try.prog) none hb3.1
    simp only [Option.isNone_none, if_true] at hr
    rw [back] at hr
    have h4 := hI.putObj (.loop r) hp.2.2 (Nat.le_succ B) hb3.1 rfl
    exact ⟨_, _, hr, hR1 _ ⟨h4, hb3.put r⟩ (fun j hj => (World.putObj_heap_other (fun e => hS (by rw [← e]; exact hj))).trans ((hp.2.1 j hj).trans (hs2 j hj))) ((hk2.trans (kf_mono hp.1 (Nat.le_add_right B 2))).trans (kf_put _ _))⟩
  | ret =>
    have hb3 := hb2.keeps hp.1
    have hr := run_endRound (P := Try.prog) (some .ret) hb3.1
    exact ⟨_, _, hr, hR2 .ret _ ((hIx _).putObj _ hp.2 (Nat.le_succ B) hb3.1 rfl) (hb3.put _) ((hk2.trans (kf_mono hp.1 (Nat.le_add_right B 2))).trans (kf_put _ _))⟩
  | exit id =>
    have hb3 := hb2.keeps hp.1
    have hr := run_endRound (P := Try.prog) (some (.exit id)) hb3.1
    exact ⟨_, _, hr, hR2 (.exit id) _ ((hIx _).putObj _ hp.2 (Nat.le_succ B) hb3.1 rfl) (hb3.put _) ((hk2.trans (kf_mono hp.1 (Nat.le_add_right B 2))).trans (kf_put _ _))⟩
  | goto t => exact hp.elim
  | panic ch => exact hp.elim
  | outgrown => exact hp.elim
end

/-- The statement 'for .. := range g', over such an iterator. -/
theorem range_cnt2 {β : Type} {g : Operand} {ps : Array Tmp} {assign body : Code} {Q : Exit → Act → World → Prop} {a : Act} {w : World} {gf : Nat} {lb : Array Value} (hg : a.eval g = .func (.func gf) #[] lb) (eg : ∀ args w, (callFunc gf args).run Try.prog w = .ok (.enter gf args) w)
    {enc : Nat → β → Array Value} {Rd : Nat → β → World → Prop} {S : Nat → Prop} {N : Nat} (hseq : SeqC gf lb enc Rd S N w) (hps : ∀ k v, (enc k v).size = ps.size) (hS : ¬ S (w.heap.size + 1))
    (hRd : ∀ k v W o, Rd k v W → (∃ r, W.heap[w.heap.size + 1]? = some (.loop r)) → Rd k v (W.putObj (w.heap.size + 1) o))
    (I : Nat → World → Prop) (Ix : Code → Nat → World → Prop) (hI : OwnFrom w.heap.size I) (hIx : ∀ c, OwnFrom w.heap.size (Ix c)) (h0 : I 0 w)
    (hround : ∀ (l k : Nat) (v : β) (W : World) (Kq : Act → World → Prop), k < N → (∀ a', (∀ W2, I k W2 → Rd k v W2 → body.wpIn (Fence.wide.inRound l) 3 Try.prog (outC w.heap.size S I Ix k W2) a' W2) → Kq a' W) →
      assign.wpIn (Fence.wide.inRound l) 3 Try.prog (Exit.then Kq (fun _ _ _ => False)) { tmps := (ps.zip (enc k v)).foldl (fun t (p, v) => t.setIfInBounds p v) a.tmps, defers := [] } W)
    (hdone : ∀ (D : Nat) (W : World), w.heap.size ≤ D → I N W → W.heap[D]? = some (.deferred (some [])) → Q .normal { a with defers := { target := .collected D, args := #[] } :: a.defers } W)
    (hstop : ∀ (D : Nat) (c : Code) (k : Nat) (W : World), w.heap.size ≤ D → k < N → Ix c k W → W.heap[D]? = some (.deferred (some [])) → c.wpIn Fence.wide 5 Try.prog Q { a with defers := { target := .collected D, args := #[] } :: a.defers } W) :
    (Code.rangeFunc g ps assign body).wpIn Fence.wide 5 Try.prog Q a w := by
  refine wpIn_rangeFunc ?_
  intro fn _
  generalize hr : ({ state := .ready, pending := none, fn := fn, tmps := a.tmps, params := ps, assign := assign, body := body, defers := w.heap.size } : Loop) = r
  have hb0 : Bk w.heap.size r ((w.alloc (.deferred (some []))).alloc (.loop r)) := by
    refine ⟨?_, (Below.heap_alloc _ _ _ (by simp)).trans (World.alloc_heap_new w _)⟩
    have := World.alloc_heap_new (w.alloc (.deferred (some []))) (.loop r)
    rwa [World.size_alloc] at this
  have hi0 : I 0 ((w.alloc (.deferred (some []))).alloc (.loop r)) := hI.alloc _ (hI.alloc _ h0)
  have hbe : Below w.heap.size w ((w.alloc (.deferred (some []))).alloc (.loop r)) := ((Below.refl _ w).alloc (Nat.le_refl _) _).alloc (by simp) _
  have hsz : ((w.alloc (.deferred (some []))).alloc (.loop r)).heap.size = w.heap.size + 2 := by simp
  have hen := run_enterLoop_outer (P := Try.prog) (w := w) fn a.tmps ps assign body
  rw [hr] at hen
  generalize (w.alloc (.deferred (some []))).alloc (.loop r) = W1 at hb0 hi0 hbe hen hsz
  refine ⟨w.heap.size + 1, [{ target := .collected w.heap.size, args := #[] }], W1, { target := .fn (.func gf) lb, args := #[.func (.yield (w.heap.size + 1)) #[] #[]] }, W1, gf, #[.func (.yield (w.heap.size + 1)) #[] #[]] ++ lb, W1, hen, ?_, fun _ _ => trivial, ?_, fun _ => by omega, ?_⟩
  · simp only [resolve, hg]; simp [go_sem]
  · simp [invoke, go_sem, eg]
  · refine (hseq (w.heap.size + 1) (fun k W => I k W ∧ Bk w.heap.size r W) (fun k W => ∃ c, Ix c k W ∧ Bk w.heap.size { r with state := .done, pending := some c } W) W1 hbe hsz ?_ ?_ ?_ ⟨hi0, hb0⟩).mono ?_
    · intro s A B row hs hg' hrow
      exact ⟨hI s A B row hs.1 hg' (fun x e => ⟨Nat.le_trans hbe.size (hrow x e).1, (hrow x e).2⟩), hs.2.grown hg' (fun x e => by have := (hrow x e).1; omega)⟩
    · rintro s A B row ⟨c, hc, hb⟩ hg' hrow
      exact ⟨c, hIx c s A B row hc hg' (fun x e => ⟨Nat.le_trans hbe.size (hrow x e).1, (hrow x e).2⟩), hb.grown hg' (fun x e => by have := (hrow x e).1; omega)⟩
    · intro k v W hk hj hrd
      subst hr
      exact round_cnt rfl rfl hS hI hIx hRd hps k v (fun l W Kq => hround l k v W Kq hk) W hj.1 hj.2 hrd (fun W' h1 h2 h3 => .inl ⟨rfl, h1, h2, h3⟩) (fun c W' h1 h2 h3 => .inr ⟨rfl, ⟨c, h1, h2⟩, h3⟩)
    · subst hr
      rintro e W2 ⟨⟨v, rfl⟩, (⟨hi, hb⟩ | ⟨k, hk, c, hi, hb⟩)⟩
      · exact ⟨none, _, run_endLoop hb.1 (by simp), hdone _ _ (Nat.le_refl _) (hI.putObj _ hi (Nat.le_succ _) hb.1 rfl) (hb.put _).2⟩
      · exact ⟨some c, _, run_endLoop hb.1 (by simp), hstop _ c k _ (Nat.le_refl _) hk ((hIx c).putObj _ hi (Nat.le_succ _) hb.1 rfl) (hb.put _).2⟩

theorem range_cnt {β : Type} {g : Operand} {ps : Array Tmp} {assign body : Code} {Q : Exit → Act → World → Prop} {a : Act} {w : World} {gf : Nat} {lb : Array Value} (hg : a.eval g = .func (.func gf) #[] lb) (eg : ∀ args w, (callFunc gf args).run Try.prog w = .ok (.enter gf args) w)
    {enc : Nat → β → Array Value} {Rd : Nat → β → World → Prop} {S : Nat → Prop} {N : Nat} (hseq : SeqC gf lb enc Rd S N w) (hps : ∀ k v, (enc k v).size = ps.size) (hS : ¬ S (w.heap.size + 1))
    (hRd : ∀ k v W o, Rd k v W → (∃ r, W.heap[w.heap.size + 1]? = some (.loop r)) → Rd k v (W.putObj (w.heap.size + 1) o))
    (I : Nat → World → Prop) (Ix : Code → Nat → World → Prop) (hI : OwnFrom w.heap.size I) (hIx : ∀ c, OwnFrom w.heap.size (Ix c)) (h0 : I 0 w) (a₁ : Nat → β → Act)
    (hassign : ∀ (l k : Nat) (v : β) (W : World) (K : Act → World → Prop), K (a₁ k v) W → assign.wpIn (Fence.wide.inRound l) 3 Try.prog (Exit.then K (fun _ _ _ => False)) { tmps := (ps.zip (enc k v)).foldl (fun t (p, v) => t.setIfInBounds p v) a.tmps, defers := [] } W)
    (hbody : ∀ (l k : Nat) (v : β) (W : World), k < N → I k W → Rd k v W → body.wpIn (Fence.wide.inRound l) 3 Try.prog (outC w.heap.size S I Ix k W) (a₁ k v) W)
    (hdone : ∀ (D : Nat) (W : World), w.heap.size ≤ D → I N W → W.heap[D]? = some (.deferred (some [])) → Q .normal { a with defers := { target := .collected D, args := #[] } :: a.defers } W)
    (hstop : ∀ (D : Nat) (c : Code) (k : Nat) (W : World), w.heap.size ≤ D → k < N → Ix c k W → W.heap[D]? = some (.deferred (some [])) → c.wpIn Fence.wide 5 Try.prog Q { a with defers := { target := .collected D, args := #[] } :: a.defers } W) :
    (Code.rangeFunc g ps assign body).wpIn Fence.wide 5 Try.prog Q a w := by
  exact range_cnt2 hg eg hseq hps hS hRd I Ix hI hIx h0 (fun l k v W Kq hk hK => hassign l k v W Kq (hK _ (fun W2 => hbody l k v W2 hk))) hdone hstop
end Go.Proofs.Ytfmjknknckjdiaa

namespace Go.Proofs.Ytfmjknknckjdiaa
open Go.RowKit Go.Shelf
attribute [local go_sem] Oper.semAt_some

/-- Record number k of a row. -/
def rk (zs : List Int) (k : Nat) : Nat × Nat := (recs zs).getD k (0, 0)
def N (zs : List Int) : Nat := (recs zs).length
theorem rk_ok {zs : List Int} (k : Nat) (h : k < N zs) : (recs zs)[k]? = some (rk zs k) := by
  unfold rk N at *
  rw [List.getElem?_eq_getElem h]; simp [List.getD_eq_getElem?_getD, h]

/-- The iterator over a row's records, by counting. -/
theorem rec_seq {p len cap : Nat} {a : Option Addr} {zs : List Int} {w : World} (hp : w.cell? ⟨p, 0, none⟩ = some (.slice a len cap)) (hb : Bs w a len zs) (hc : len ≤ cap) (hm : cap ≤ 9223372036854775807) :
    ∃ b off, ((len = 0 ∧ b = p) ∨ (0 < len ∧ a = some ⟨b, off, none⟩)) ∧ SeqC 35 #[.pointer (some ⟨p, 0, none⟩)] (fun k (_ : Unit) => #[.int .i64 (((rk zs k).1 : Nat) : Int), .slice (pad b (off + (rk zs k).1) (cap - (rk zs k).1)) (rk zs k).2 (cap - (rk zs k).1 - 8)]) (fun _ _ _ => True) (fun j => j = p ∨ j = b) (N zs) w := by
  rcases Nat.eq_zero_or_pos len with rfl | hl
  · obtain rfl : zs = [] := List.length_eq_zero_iff.1 hb.1
    refine ⟨p, 0, .inl ⟨rfl, rfl⟩, fun l J Jx W hW _ hJ _ hY h0 => ?_⟩
    refine (recs_in0 l p cap a W (cell_later hW hp) (J 0) h0).mono ?_
    rintro e W' ⟨hv, hj⟩
    exact ⟨hv, .inl hj⟩
  · obtain ⟨b, off, rfl, _⟩ := hb.2.2 hl
    refine ⟨b, off, .inr ⟨hl, rfl⟩, fun l J Jx W hW _ hJ _ hY h0 => ?_⟩
    refine (recs_in l p b off len cap zs hl hc hm (fun pre W => J pre.length W) (fun pre W => Jx (pre.length - 1) W ∧ 0 < pre.length) W ?_ ?_ (cell_later hW hp) (hb.later hW) h0).mono ?_
    · intro s A B row hs hg hrow
      exact hJ _ A B row hs hg (fun r e => ⟨(hrow r e).1, by obtain ⟨_, o, ho, hw⟩ := hrow r e; exact ⟨o, ho, Obj.not_cells_of_walk hw⟩⟩)
    · intro pre x W1 hj _ hpre
      have hlen : pre.length < N zs := by have := hpre.length_le; simp [N] at this ⊢; omega
      have ex : rk zs pre.length = x.1 := by
        obtain ⟨t, ht⟩ := hpre
        unfold rk
        rw [← ht]; simp [List.getD_eq_getElem?_getD]
      have := hY pre.length () W1 hlen hj trivial
      dsimp only at this
      rw [ex] at this
      refine YieldAt.mono this ?_
      rintro e W' (⟨rfl, h1, h2, h3⟩ | ⟨rfl, h1, _⟩)
      · exact .inl ⟨rfl, by simpa using h1, h2 p (.inl rfl), h2 b (.inr rfl)⟩
      · exact .inr ⟨rfl, by simpa using h1, by simp⟩
    · rintro e W' ⟨hv, (⟨ys, hys, hj⟩ | ⟨pre, hpre, hjx, hpos⟩)⟩
      · refine ⟨hv, .inl ?_⟩
        have : ys.length = N zs := by unfold N; rw [← hys, List.length_map]
        rw [← this]; exact hj
      · refine ⟨hv, .inr ⟨_, ?_, hjx⟩⟩
        have := hpre.length_le
        unfold N
        rw [List.length_map] at this
        omega

/-- Bytes put behind an empty row lie in the newest block. -/
theorem run_append_new (w : World) (ty g0 : Nat) (ad : Addr) (m c : Nat) (zs : List Int) (hb : Bs w (some ad) m zs) (h0 : 0 < m) (hbytes : m ≤ 140737488355328) :
    ∃ cap w', (Builtin.append_ #[22, 22] ty #[.slice (some ⟨g0, 0, none⟩) 0 0, .slice (some ad) m c]).run Try.prog w = .ok (.slice (some ⟨w.heap.size, 0, none⟩) m cap) w' ∧ w'.heap.size = w.heap.size + 1 ∧ w'.ownsRow w.heap.size 5 1 (.slice (some ⟨w.heap.size, 0, none⟩) m cap) m (byteVals zs) ∧ Below w.heap.size w w' := by
  obtain ⟨i0, hi, hz0, hz1, hz2⟩ := info_parts info5
  have hnews : ∀ j u, (byteVals zs)[j]? = some u → w.cell? (ad.add j) = some u := by
    intro j u hj
    have hjl : j < zs.length := by
      rcases Nat.lt_or_ge j zs.length with h | h
      · exact h
      · rw [List.getElem?_eq_none (by simpa [byteVals] using h)] at hj; cases hj
    obtain ⟨b, off, e, hc⟩ := hb.2.2 (by have := hb.1; omega)
    cases e
    have := hc j (by have := hb.1; omega)
    rw [Addr.add_lit, this]
    simp [byteVals, hjl] at hj
    simp [hjl, hj]
  have hr := run_append_grow (P := Try.prog) w 22 ty 5 i0 (.int .u8 0) Try.underlying22 hi hz0 ⟨g0, 0, none⟩ 0 0 [] (by simp) (fun j v hj => by simp at hj) ad m c (byteVals zs) (by rw [hz1]; simp [byteVals, hb.1]) hnews (by omega) (by omega) (growslice_fits (by omega) (by rw [hz2]; omega))
  have hge := grownCap_ge w (0 + m) 0 5
  have hle := grownCap_le_maxLen w (0 + m) 0 5 (by unfold maxLen; omega)
  generalize grownCap w (0 + m) 0 5 = G at hr hge hle
  rw [Nat.zero_add] at hr hge
  refine ⟨G, _, hr, by simp, ⟨by simp [byteVals, hb.1], .inr ⟨_, G, _, rfl, Nat.le_refl _, World.alloc_heap_new w.drew _, hge, hle, ?_, ?_⟩⟩, (Below.refl _ w).drew.alloc (Nat.le_refl _) _⟩
  · have := zeros_size (G - m)
    simp [byteVals, hb.1, Value.cells] at this ⊢
    omega
  · simp [byteVals, hb.1]

theorem eq_some (x : Addr) (len cap : Nat) (w : World) : (binOp .eql 22 (.slice (some x) len cap) (.slice none 0 0)).run Try.prog w = .ok (.bool false) w := by kernel_rfl

set_option maxHeartbeats 800000 in
theorem clone_d (x : Addr) (len cap : Nat) (zs : List Int) (w : World) (hb : Bs w (some x) len zs) (hm : len ≤ 140737488355328) :
    Calls Try.prog 29 #[.slice (some x) len cap] w fun e w' => ∃ g cap', e = .returned (.slice (some ⟨g, 0, none⟩) len cap') ∧ w'.heap.size = g + 1 ∧ w'.ownsRow w.heap.size 5 1 (.slice (some ⟨g, 0, none⟩) len cap') len (byteVals zs) ∧ Below w.heap.size w w' := by
  rcases Nat.eq_zero_or_pos len with rfl | hl
  · obtain rfl : zs = [] := List.length_eq_zero_iff.1 hb.1
    have hown := ownsRow_empty w w.heap.size (Nat.le_refl _)
    have hq := eq_some x 0 cap w
    go_enter Try.func29, Try.ntmps29
    go_wp2
    go_ret
    exact ⟨_, _, rfl, by simp, hown, below_one _ _⟩
  · obtain ⟨cp, w', hr, hsz, hown, hbl⟩ := run_append_new (w.alloc (.cells #[] 5)) 22 w.heap.size x len cap zs (hb.later (below_one _ _)) hl hm
    have hq := eq_some x len cap w
    rw [World.size_alloc] at hr hsz hown
    go_enter Try.func29, Try.ntmps29
    go_wp2_with (at_builtin; refine Lib.wpList_append_run _ rfl _ _ _ _ rfl _ _ rfl rfl _ _ hr ?_)
    go_ret
    exact ⟨_, _, rfl, hsz, owns_weak hown (Nat.le_succ _), bl2 (below_one _ _) hbl⟩
end Go.Proofs.Ytfmjknknckjdiaa

namespace Go.Proofs.Ytfmjknknckjdiaa
open Go.RowKit Go.Shelf
attribute [local go_sem] Oper.semAt_some

theorem recsN_rec (zs : List Int) (f : Nat) : ∀ i, ∀ x ∈ recsN f i (zs.drop i), rec1 (zs.drop x.1) = some x.2 := by
  induction f with
  | zero => intro i x hx; simp [recsN] at hx
  | succ f ih =>
    intro i x hx
    cases h : rec1 (zs.drop i) with
    | none => rw [recsN_none h] at hx; simp at hx
    | some n =>
      rw [recsN_some h, List.drop_drop] at hx
      rcases List.mem_cons.1 hx with rfl | hx
      · exact h
      · rw [show i + (8 + n) = i + 8 + n by omega] at hx
        exact ih _ x hx
theorem rk_rec {zs : List Int} {k : Nat} (h : k < N zs) : rec1 (zs.drop (rk zs k).1) = some (rk zs k).2 := by
  have := recsN_rec zs (zs.length + 1) 0 (rk zs k)
  rw [List.drop_zero] at this
  exact this (List.mem_of_getElem? (rk_ok k h))
theorem rk_le {zs : List Int} {k : Nat} (h : k < N zs) : (rk zs k).1 + 8 + (rk zs k).2 ≤ zs.length ∧ (rk zs k).2 ≤ 65536 := ri_le ⟨rk zs k, rk_rec h⟩

/-- The payload of record k. -/
def pay (zs : List Int) (k : Nat) : List Int := (zs.drop ((rk zs k).1 + 8)).take (rk zs k).2
/-- What is handed on reads so: it lies in the newest block, a row of the call's own. -/
def Rdc (zs : List Int) (k : Nat) (v : Value) (W : World) : Prop :=
  ∃ g cap, v = .slice (some ⟨g, 0, none⟩) (rk zs k).2 cap ∧ W.heap.size = g + 1 ∧ W.ownsRow 0 5 1 (.slice (some ⟨g, 0, none⟩) (rk zs k).2 cap) (rk zs k).2 (byteVals (pay zs k))

theorem roundIn_any {m n l l2 : Nat} {f : FuncId} {tmps : Array Value} {assign body : Code} {w : World} {R : Ending → World → Prop} (h : RoundIn Fence.wide m Try.prog l f tmps assign body w R) : RoundIn (Fence.wide.inRound l2) n Try.prog l f tmps assign body w R :=
  ⟨h.1, fun c cs _ => h.2 c cs (fun d hd => by cases hd)⟩

theorem bs_grown {W W' : World} {row : Option Nat} {a : Option Addr} {len : Nat} {zs : List Int} (h : Bs W a len zs) (hg : W.grownBy W' row) (hr : ∀ r, row = some r → ∃ o : Obj, W.heap[r]? = some o ∧ o.isCells = false) : Bs W' a len zs := by
  obtain ⟨h1, h2, h3⟩ := h
  refine ⟨h1, h2, fun hp => ?_⟩
  obtain ⟨b, off, e, hc⟩ := h3 hp
  exact ⟨b, off, e, fun i hi => cell_kept (hc i hi) hg hr⟩
theorem keeps_below {W W' : World} (h : Below W.heap.size W W') : KeepsOthers W W' := KeepsOthers.of_grownBy (grown_of h) (fun _ _ e => by cases e)
theorem bs_pad {W : World} {b off len cap k n : Nat} {zs : List Int} (h : Bs W (some ⟨b, off, none⟩) len zs) (hk : k + 8 + n ≤ len) (hc : len ≤ cap) : Bs W (pad b (off + k) (cap - k)) n ((zs.drop (k + 8)).take n) := by
  unfold pad
  by_cases h8 : cap - k = 8
  · obtain rfl : n = 0 := by omega
    rw [List.take_zero]
    exact bs_nil _
  · rw [if_neg h8, show off + k + 8 = off + (k + 8) by omega]
    exact h.sub (k + 8) n (by omega)

set_option maxRecDepth 100000 in
set_option maxHeartbeats 4000000 in
theorem all_seq {p len cap : Nat} {a : Option Addr} {zs : List Int} {w : World} (hp : w.cell? ⟨p, 0, none⟩ = some (.slice a len cap)) (hb : Bs w a len zs) (hc : len ≤ cap) (hm : cap ≤ 9223372036854775807) :
    SeqC 30 #[.pointer (some ⟨p, 0, none⟩)] (fun k (v : Value) => #[.int .i64 (((rk zs k).1 : Nat) : Int), v]) (Rdc zs) (fun j => (w.heap.size + 2 ≤ j ∧ j < w.heap.size + 6) ∨ ∃ off, a = some ⟨j, off, none⟩) (N zs) w := by
  intro l J Jx W hW hsz hJ hJx hY h0
  refine callsIn_wide.2 ((callsIn_wide (n := 5)).1 ?_)
  have HZ := hide1 hsz
  clear hsz
  have hpW := cell_later hW hp
  have hbW := hb.later hW
  refine callsIn_of_wp_marks Try.func30 rfl trivial ?_ rfl
  simp only [Try.ntmps30, List.size_toArray, List.length_cons, List.length_nil, Nat.reduceAdd, Nat.reduceSub, Array.replicate_succ, Array.replicate_zero, List.push_toArray, List.append_toArray, List.nil_append, List.cons_append]
  have hpW1 := cell_alloc_l (.cells #[.func (.yield l) #[] #[]] 60) hpW
  gi_wp2_with (refine ⟨trivial, ?_⟩; gi_at_call 31; refine (callsIn_wide.2 (records_d _ _ _ _)).mono ?_; rintro e w' ⟨rfl, rfl⟩)
  have hs := cell_new_l W (.func (.yield l) #[] #[]) 60
  have hr := cell_new_l (W.alloc (.cells #[.func (.yield l) #[] #[]] 60)) (.slice a len cap) 22
  rw [World.size_alloc] at hr
  have hB0 : Below W.heap.size W ((W.alloc (.cells #[.func (.yield l) #[] #[]] 60)).alloc (.cells #[.slice a len cap] 22)) := ((Below.refl _ W).alloc (Nat.le_refl _) _).alloc (by simp) _
  have hq0 := cell_alloc_l (.cells #[.slice a len cap] 22) hs.1
  have hz0 : ((W.alloc (.cells #[.func (.yield l) #[] #[]] 60)).alloc (.cells #[.slice a len cap] 22)).heap.size = w.heap.size + 4 := by have := HZ.out; simp; omega
  have hj0 : J 0 ((W.alloc (.cells #[.func (.yield l) #[] #[]] 60)).alloc (.cells #[.slice a len cap] 22)) := hJ.alloc _ (hJ.alloc _ h0)
  have hbW0 := hbW.later hB0
  obtain ⟨b, off, hbp, hseq⟩ := rec_seq hr.1 hbW0 hc hm
  have H0 := hide1 hz0
  clear hz0
  generalize (W.alloc (.cells #[.func (.yield l) #[] #[]] 60)).alloc (.cells #[.slice a len cap] 22) = W0 at hseq H0 hq0 hj0 hB0 hbW0 hr ⊢
  refine range_cnt (w := W0) (gf := 35) (lb := #[.pointer (some ⟨W.heap.size + 1, 0, none⟩)]) rfl (enters_of Try.func35 (by kernel_rfl) rfl) hseq (fun _ _ => rfl) ?hS (fun _ _ _ _ h _ => h)
    (fun k W1 => J k W1 ∧ W1.cell? ⟨W.heap.size, 0, none⟩ = some (.func (.yield l) #[] #[]) ∧ Bs W1 a len zs ∧ W0.heap.size ≤ W1.heap.size) (fun c k W1 => c = .ret ∧ Jx k W1) ?hI ?hIx ⟨hj0, hq0, hbW0, Nat.le_refl _⟩
    (fun k _ => { tmps := #[.func (.yield l) #[] #[], .pointer (some ⟨p, 0, none⟩), .pointer (some ⟨W.heap.size, 0, none⟩), .int .i64 (((rk zs k).1 : Nat) : Int), .slice (pad b (off + (rk zs k).1) (cap - (rk zs k).1)) (rk zs k).2 (cap - (rk zs k).1 - 8), .slice a len cap, .func (.func 35) #[] #[.pointer (some ⟨W.heap.size + 1, 0, none⟩)], .int .i64 (((rk zs k).1 : Nat) : Int), .slice (pad b (off + (rk zs k).1) (cap - (rk zs k).1)) (rk zs k).2 (cap - (rk zs k).1 - 8), undef, undef, undef, undef, undef, undef], defers := [] }) ?assign ?body ?done ?stop
  case hS =>
    have := HZ.out
    have := H0.out
    rintro (h | h)
    · omega
    · rcases hbp with ⟨_, rfl⟩ | ⟨hl, rfl⟩
      · omega
      · have := bs_lt hb hl; omega
  case hI =>
    intro s A B row hs hg hrow
    exact ⟨hJ s A B row hs.1 hg (fun r e => ⟨by have := (hrow r e).1; have := HZ.out; have := H0.out; omega, (hrow r e).2⟩), cell_kept hs.2.1 hg (fun r e => (hrow r e).2), bs_grown hs.2.2.1 hg (fun r e => (hrow r e).2), Nat.le_trans hs.2.2.2 hg.size⟩
  case hIx =>
    intro c s A B row hs hg hrow
    exact ⟨hs.1, hJx s A B row hs.2 hg (fun r e => ⟨by have := (hrow r e).1; have := HZ.out; have := H0.out; omega, (hrow r e).2⟩)⟩
  case assign =>
    intro l2 k v W1 K hK
    gi_wp2
    exact hK
  case body =>
    rintro l2 k _ W1 hk ⟨hj, hq, hbs, hws⟩ _
    obtain ⟨hr1, hr2⟩ := rk_le hk
    rw [hb.1] at hr1
    have hlen : 0 < len := by omega
    obtain ⟨hl, rfl⟩ : 0 < len ∧ a = some ⟨b, off, none⟩ := by
      rcases hbp with h | h
      · omega
      · exact h
    have hpd := bs_pad hbs hr1 hc
    obtain ⟨xp, hxp⟩ : ∃ xp, pad b (off + (rk zs k).1) (cap - (rk zs k).1) = some xp := ⟨_, rfl⟩
    rw [hxp] at hpd
    have hcl : ∀ Wx, Below W1.heap.size W1 Wx → Calls Try.prog 29 #[.slice (some xp) (rk zs k).2 (cap - (rk zs k).1 - 8)] Wx fun e W2 => ∃ g cp, e = .returned (.slice (some ⟨g, 0, none⟩) (rk zs k).2 cp) ∧ W2.heap.size = g + 1 ∧ W2.ownsRow W1.heap.size 5 1 (.slice (some ⟨g, 0, none⟩) (rk zs k).2 cp) (rk zs k).2 (byteVals (pay zs k)) ∧ Below W1.heap.size W1 W2 := by
      intro Wx hx
      refine (clone_d xp (rk zs k).2 (cap - (rk zs k).1 - 8) _ Wx (hpd.later hx) (by omega)).mono ?_
      rintro e W2 ⟨g, cp, rfl, h1, h2, h3⟩
      exact ⟨g, cp, rfl, h1, owns_weak h2 hx.size, bl2 hx h3⟩
    have hmx : Try.prog.follows .mixedOrders = true := by kernel_rfl
    rw [hxp]
    clear hseq hr hbW0 hB0 hj0 hq0
    have hYk : ∀ g cp W2, W2.heap.size = g + 1 → W2.ownsRow W1.heap.size 5 1 (.slice (some ⟨g, 0, none⟩) (rk zs k).2 cp) (rk zs k).2 (byteVals (pay zs k)) → Below W1.heap.size W1 W2 →
        YieldAt Fence.wide 3 Try.prog l #[.int .i64 (((rk zs k).1 : Nat) : Int), .slice (some ⟨g, 0, none⟩) (rk zs k).2 cp] W2 (fun e W' => ∃ bb, e = .returned (.bool bb) ∧ Hid (KeepsFrom (w.heap.size + 2) W2 W' ∧ (bb = true → J (k + 1) W' ∧ ∀ j, ((w.heap.size + 2 ≤ j ∧ j < w.heap.size + 6) ∨ ∃ off', some (⟨b, off, none⟩ : Addr) = some ⟨j, off', none⟩) → W'.heap[j]? = W2.heap[j]?) ∧ (bb = false → Jx k W'))) := fun g cp W2 h1 h2 h3 => by
      refine YieldAt.mono (hY k _ W2 hk (hJ k W1 W2 none hj (grown_of h3) (fun r e => by cases e)) ⟨g, cp, rfl, h1, owns_weak h2 (Nat.zero_le _)⟩) ?_
      rintro e W' (⟨rfl, q1, q2, q3⟩ | ⟨rfl, q1, q3⟩)
      · exact ⟨true, rfl, hide1 ⟨q3, fun _ => ⟨q1, q2⟩, fun h => by cases h⟩⟩
      · exact ⟨false, rfl, hide1 ⟨q3, (fun h => by cases h), fun _ => q1⟩⟩
    clear hY hJ hJx hj
    gi_wp2
    gi_region_with_o (first
      | (refine ⟨trivial, ?_⟩; gi_at_call 29; refine (CallsIn.inRound l2 (callsIn_wide.2 (hcl _ (by first | exact Below.refl _ _ | exact (Below.refl _ _).drew | exact (Below.refl _ _).drew.drew)))).mono ?_; rintro e W2 ⟨g, cp, rfl, hsz2, hown2, hb2⟩; obtain ⟨fn, tmps, assign, body, hy, hR⟩ := hYk g cp W2 hsz2 hown2 hb2; have hq2 := cell_later hb2 hq)
      | (refine (roundIn_any hR).mono ?_; rintro e W3 ⟨bb, rfl, hout⟩))
    all_goals
      have hk3 : KeepsFrom W0.heap.size W1 W3 := ((keeps_below hb2).from _).trans (kf_mono hout.out.1 (by have := H0.out; omega))
      cases bb with
      | false =>
        have q1 := hout.out.2.2 rfl
        gi_wp2
        exact ⟨hk3, rfl, q1⟩
      | true =>
        obtain ⟨q1, q2⟩ := hout.out.2.1 rfl
        gi_wp2
        refine ⟨hk3, fun j hj => ?_, q1, (World.cell?_of_block (q2 W.heap.size (.inl (by have := HZ.out; omega)))).trans hq2, (hbs.later hb2).kept (q2 b (.inr ⟨off, rfl⟩)), Nat.le_trans hws hk3.size⟩
        have hjl : j < W1.heap.size := by
          rcases hj with rfl | rfl
          · have := HZ.out; have := H0.out; omega
          · exact bs_lt hbs hlen
        refine (q2 j ?_).trans (hb2.block j hjl)
        rcases hj with rfl | rfl
        · exact .inl (by have := HZ.out; omega)
        · exact .inr ⟨off, rfl⟩
  case done =>
    rintro D W1 hD ⟨hj, _⟩ hK
    gi_wp2
    refine ⟨by simp, .inl ⟨_, _, rfl, run_takeDeferred hK, ?_⟩⟩
    exact ⟨_, results_none rfl _ _ _, ⟨_, rfl⟩, .inl (hJ.putObj _ hj (by have := HZ.out; have := H0.out; omega) hK rfl)⟩
  case stop =>
    rintro D c k W1 hD hk ⟨rfl, hj⟩ hK
    gi_wp2
    refine ⟨by simp, .inl ⟨_, _, rfl, run_takeDeferred hK, ?_⟩⟩
    exact ⟨_, results_none rfl _ _ _, ⟨_, rfl⟩, .inr ⟨k, hk, hJx.putObj _ hj (by have := HZ.out; have := H0.out; omega) hK rfl⟩⟩
end Go.Proofs.Ytfmjknknckjdiaa

namespace Go.Proofs.Ytfmjknknckjdiaa
open Go.RowKit Go.Shelf

theorem offs_getD (ps : List (List Int)) : ∀ (i k : Nat), k < ps.length → (offs i ps).getD k (0, 0) = (i + szs (ps.take k), (ps.getD k []).length) := by
  induction ps with
  | nil => intro i k h; simp at h
  | cons p ps ih =>
    intro i k h
    cases k with
    | zero => simp [offs, szs]
    | succ k =>
      have := ih (i + 8 + p.length) k (by simpa using h)
      simp only [offs, List.getD_cons_succ, List.take_succ_cons, szs] at this ⊢
      rw [this]
      congr 1
      omega
section
variable {ps : List (List Int)} (hps : ∀ p ∈ ps, p.length ≤ 65536)
include hps
theorem recs_p : recs (puts ps) = offs 0 ps := by
  have := recs_puts ps hps [] rfl
  rwa [List.append_nil] at this
theorem N_puts : N (puts ps) = ps.length := by unfold N; rw [recs_p hps, offs_length]
theorem rk_puts {k : Nat} (h : k < ps.length) : rk (puts ps) k = (szs (ps.take k), (ps.getD k []).length) := by
  unfold rk; rw [recs_p hps, offs_getD ps 0 k h, Nat.zero_add]
theorem pay_puts {k : Nat} (h : k < ps.length) : pay (puts ps) k = ps.getD k [] := by
  unfold pay
  rw [rk_puts hps h]
  have e : puts ps = puts (ps.take k) ++ (put (ps.getD k []) ++ puts (ps.drop (k + 1))) := by
    conv => lhs; rw [← List.take_append_drop k ps, puts_app, List.drop_eq_getElem_cons h, puts_cons]
    simp [List.getD_eq_getElem?_getD, h]
  dsimp only
  rw [← List.drop_drop, e, List.drop_left' (puts_length _), put_drop8, List.take_left' rfl]
end

set_option maxHeartbeats 800000 in
theorem clone_nil (w : World) : Calls Try.prog 29 #[.slice none 0 0] w fun e w' => e = .returned (.slice none 0 0) ∧ w' = w := by
  have hq := run_eql_nil_slice (P := Try.prog) w 22 5 none 0 0 0 0 Try.underlying22
  go_enter Try.func29, Try.ntmps29
  go_wp2
  go_ret
  exact ⟨rfl, rfl⟩

set_option maxHeartbeats 1000000 in
theorem all_d (a : Option Addr) (len cap : Nat) (ps : List (List Int)) (t : List Int) (w : World) (hb : Bs w a len (puts ps ++ t)) (hc : len ≤ cap) (hm : cap ≤ 9223372036854775807) (hnil : a = none → cap = 0) (ht : rec1 t = none) (hps : ∀ p ∈ ps, p.length ≤ 65536) (hsz : szs ps ≤ 140737488355328) :
    Calls Try.prog 18 #[.slice a len cap] w fun e w' => ∃ p a' c', e = .returned (.func (.func 30) #[] #[.pointer (some ⟨p, 0, none⟩)]) ∧ w'.cell? ⟨p, 0, none⟩ = some (.slice a' (szs ps) c') ∧ Bs w' a' (szs ps) (puts ps) ∧ szs ps ≤ c' ∧ c' ≤ 9223372036854775807 ∧
      (∀ j off, a' = some ⟨j, off, none⟩ → w.heap.size ≤ j ∧ j < w'.heap.size) ∧ Below w.heap.size w w' := by
  have hend := endOf_put ps hps t ht
  have hle : szs ps ≤ len := by rw [← hb.1, List.length_append, puts_length]; omega
  have hpre := hb.pre (szs ps) hle
  rw [List.take_left' (puts_length _)] at hpre
  cases a with
  | none =>
    obtain rfl := hnil rfl
    obtain rfl : len = 0 := by omega
    have h0 : szs ps = 0 := by omega
    rw [h0] at hend hpre ⊢
    go_enter Try.func18, Try.ntmps18
    go_wp2_with fail
    refine (whole_d _ _ _ _ _ hb hc hm).mono ?_
    rintro e w1 ⟨rfl, hb1⟩
    rw [hend]
    go_wp2_with fail
    refine (clone_nil _).mono ?_
    rintro e w2 ⟨rfl, rfl⟩
    go_wp2_with fail
    go_ret
    refine ⟨_, none, 0, rfl, ?_, hpre.later (bl2 hb1 (below_one _ _)), Nat.le_refl _, Nat.zero_le _, fun j off h => by (cases h), bl2 hb1 (below_one _ _)⟩
    first
      | exact (cell_new_l w2 _ 22).1
      | simp [go_sem]
  | some x =>
    have HE := hide1 hend
    clear hend
    generalize szs ps = A at *
    go_enter Try.func18, Try.ntmps18
    go_wp2_with fail
    refine (whole_d _ _ _ _ _ hb hc hm).mono ?_
    rintro e w1 ⟨rfl, hb1⟩
    rw [HE.out]
    go_wp2_with fail
    refine (clone_d x A cap _ _ (hpre.later hb1) hsz).mono ?_
    rintro e w2 ⟨g, cp, rfl, hz2, hown2, hb2⟩
    have hb3 := bl2 hb1 hb2
    have hown3 := hown2
    obtain ⟨_, _, e1, hbs2, hle2, _⟩ := bs_owned hown2 hpre.2.1
    cases e1
    go_wp2_with fail
    go_ret
    refine ⟨_, _, _, rfl, ?_, hbs2.later (below_one _ _), hle2, owned_cap hown3, fun j off h => by (cases h; exact ⟨Nat.le_trans hb1.size (hown3.lt _ rfl).1, by have := (hown3.lt _ rfl).2; simp; omega⟩), bl2 hb3 (below_one _ _)⟩
    rw [← hz2]
    exact (cell_new_l w2 _ 22).1
end Go.Proofs.Ytfmjknknckjdiaa

namespace Go.Proofs.Ytfmjknknckjdiaa
open Go.RowKit Go.Shelf

/-- Where the first k records end. -/
def endsL (ps : List (List Int)) (k : Nat) : List Value := (List.range (k + 1)).map fun j => .int .i64 ((szs (ps.take j) : Nat) : Int)
theorem endsL_succ (ps : List (List Int)) (k : Nat) : endsL ps (k + 1) = endsL ps k ++ [.int .i64 ((szs (ps.take (k + 1)) : Nat) : Int)] := by simp [endsL, List.range_succ]
theorem endsL_get (ps : List (List Int)) (k j : Nat) (h : j ≤ k) : (endsL ps k)[j]? = some (.int .i64 ((szs (ps.take j) : Nat) : Int)) := by simp [endsL, show j < k + 1 by omega]
theorem endsL_length (ps : List (List Int)) (k : Nat) : (endsL ps k).length = k + 1 := by simp [endsL]
theorem info3 : (Try.prog.info? 3).map (fun i => (i.zero, i.size, i.bytes)) = some (some (.int .i64 0), 1, 8) := by kernel_rfl
theorem szs_mono (ps : List (List Int)) {j k : Nat} (h : j ≤ k) : szs (ps.take j) ≤ szs (ps.take k) := by
  have e : ps.take j = (ps.take k).take j := by rw [List.take_take, Nat.min_eq_left h]
  rw [e, ← List.take_append_drop j (ps.take k)]
  conv => lhs; rw [List.take_append_drop]
  rw [szs_app]; omega

theorem own_type {w : World} {base base' : Nat} {e e' : TypeId} {v v' : Value} {n n' : Nat} {xs xs' : List Value} (h : w.ownsRow base e 1 v n xs) (h' : w.ownsRow base' e' 1 v' n' xs') (hne : e ≠ e') : v.ownBlock = none ∨ v.ownBlock ≠ v'.ownBlock := by
  rcases h.2 with ⟨rfl, _⟩ | ⟨g, cap, cur, rfl, _, hg, _⟩
  · exact .inl rfl
  · right
    rcases h'.2 with ⟨rfl, _⟩ | ⟨g', cap', cur', rfl, _, hg', _⟩
    · simp [Value.ownBlock]
    · intro e1
      simp only [Value.ownBlock, Option.some.injEq] at e1
      subst e1
      rw [hg] at hg'
      simp only [Option.some.injEq, Obj.cells.injEq] at hg'
      exact hne hg'.2.1
/-- A box of another type lies elsewhere. -/
theorem box_type {w : World} {base : Nat} {e t : TypeId} {v : Value} {n : Nat} {xs : List Value} {E : Nat} {cs : Array Value} (h : w.ownsRow base e 1 v n xs) (hE : w.heap[E]? = some (.cells cs t (0, 0))) (hne : e ≠ t) : some E ≠ v.ownBlock := by
  rcases h.2 with ⟨rfl, _⟩ | ⟨g, cap, cur, rfl, _, hg, _⟩
  · simp [Value.ownBlock]
  · intro e1
    simp only [Value.ownBlock, Option.some.injEq] at e1
    subst e1
    rw [hg] at hE
    simp only [Option.some.injEq, Obj.cells.injEq] at hE
    exact hne hE.2.1

theorem owns_laterE {w w' : World} {base : Nat} {e : TypeId} {v : Value} {n : Nat} {xs : List Value} (h : w.ownsRow base e 1 v n xs) (hb : Below w.heap.size w w') : w'.ownsRow base e 1 v n xs :=
  h.kept (grown_of hb) (by cases v.ownBlock with | none => exact .inl rfl | some k => exact .inr (by simp))
theorem setCell_box {w : World} {E : Nat} {v : Value} {t : TypeId} (h : w.heap[E]? = some (.cells #[v] t (0, 0))) (u : Value) : (w.setCell ⟨E, 0, none⟩ u).heap[E]? = some (.cells #[u] t (0, 0)) := by
  obtain ⟨hlt, he⟩ := Array.getElem?_eq_some_iff.1 h
  refine Array.getElem?_eq_some_iff.2 ⟨by simp [World.setCell, hlt], ?_⟩
  simp only [World.setCell, Array.getElem_modify, he, if_true]
  rfl

/-- The state of the first loop: the row of k records, and where each ends. -/
def BRow (B E : Nat) (w : World) (ps : List (List Int)) (k : Nat) (x : Value) (wr : World) : Prop :=
  wr.ownsRow B 5 1 x (szs (ps.take k)) (byteVals (puts (ps.take k))) ∧ Below B w wr ∧ szs (ps.take k) ≤ 308 * k ∧ (∀ p ∈ ps.take k, p.length ≤ 300) ∧
  ∃ ve, wr.heap[E]? = some (.cells #[ve] 47 (0, 0)) ∧ wr.ownsRow B 3 1 ve (k + 1) (endsL ps k)

theorem place2 (a : Int) (len : Nat) (h5 : len ≤ 100000) : ∃ K : Nat, wrap64 ((IntKind.u64.wrap a).tmod ((len : Int) + 1)) = (K : Int) ∧ K ≤ len := by
  have e : IntKind.u64.wrap a = a % 18446744073709551616 := IntKind.wrap_u64 a
  have h0 : 0 ≤ a % 18446744073709551616 := by omega
  rw [e, Int.tmod_eq_emod_of_nonneg h0]
  have h1 := Int.emod_nonneg (a % 18446744073709551616) (show ((len : Int) + 1) ≠ 0 by omega)
  have h2 := Int.emod_lt_of_pos (a % 18446744073709551616) (show 0 < ((len : Int) + 1) by omega)
  generalize (a % 18446744073709551616) % ((len : Int) + 1) = q at h1 h2
  refine ⟨q.toNat, ?_, by omega⟩
  go_arith

/-- A row that is cut off: the whole records ahead of the cut, and what begins with none. -/
theorem cut_row (ps : List (List Int)) (hps : ∀ p ∈ ps, p.length ≤ 300) (K l : Nat) (hl : l ≤ ps.length) (h1 : szs (ps.take l) ≤ K) (h2 : l < ps.length → K < szs (ps.take (l + 1))) :
    ∃ t, (puts ps).take K = puts (ps.take l) ++ t ∧ rec1 t = none := by
  by_cases hlt : l < ps.length
  · have e : puts ps = puts (ps.take l) ++ (put (ps.getD l []) ++ puts (ps.drop (l + 1))) := by
      conv => lhs; rw [← List.take_append_drop l ps, puts_app, List.drop_eq_getElem_cons hlt, puts_cons]
      simp [List.getD_eq_getElem?_getD, hlt]
    have h3 := h2 hlt
    rw [szs_snoc ps l hlt] at h3
    have hp : (ps.getD l []).length ≤ 300 := by
      have := hps (ps.getD l []) (by simp [List.getD_eq_getElem?_getD, hlt])
      exact this
    refine ⟨(put (ps.getD l [])).take (K - szs (ps.take l)), ?_, rec1_cut _ _ (by omega) (by omega)⟩
    rw [e, List.take_append, List.take_of_length_le (by rw [puts_length]; exact h1), puts_length, List.take_append_of_le_length (by rw [put_length]; omega)]
  · obtain rfl : l = ps.length := by omega
    rw [List.take_length] at h1 ⊢
    refine ⟨[], ?_, rfl⟩
    rw [List.append_nil, List.take_of_length_le (by rw [puts_length]; omega)]
theorem results_cb {fn : Func} {t : Tmp} (h : fn.results = #[.cell t 4]) (tmps : Array Value) {w : World} {g : Nat} {b : Bool} (ht : tmps.getD t undef = .pointer (some ⟨g, 0, none⟩)) (hc : w.cell? ⟨g, 0, none⟩ = some (.bool b)) : (results fn tmps).run Try.prog w = .ok (.bool b) w := by
  have ht2 : tmps[t]?.getD undef = .pointer (some ⟨g, 0, none⟩) := by simpa using ht
  simp [results, h, ht2, go_sem, hc]
/-- A return ahead of the range. -/
theorem ret_cb {fn : Func} {t : Tmp} (h : fn.results = #[.cell t 4]) {tmps : Array Value} {W : World} {g : Nat} {b : Bool} {R : Ending → World → Prop} (ht : tmps.getD t undef = .pointer (some ⟨g, 0, none⟩)) (hc : W.cell? ⟨g, 0, none⟩ = some (.bool b)) (hR : R (.returned (.bool b)) W) :
    bodyPostM Fence.wide 5 Try.prog fn R .ret { tmps := tmps, defers := [] } W := ⟨_, results_cb h tmps ht hc, hR⟩

/-- One record more. -/
theorem brow_next {B E : Nat} {w wr w2 w3 w5 : World} {ps : List (List Int)} {k : Nat} {x ve v3 v5 : Value} {o : Obj} (hB : B ≤ w.heap.size) (hEB : B ≤ E) (hk : k < ps.length) (h1 : wr.ownsRow B 5 1 x (szs (ps.take k)) (byteVals (puts (ps.take k)))) (h2 : Below B w wr) (h3 : szs (ps.take k) ≤ 308 * k) (h4 : ∀ p ∈ ps.take k, p.length ≤ 300)
    (hb2 : Below wr.heap.size wr w2) (hlen : (ps.getD k []).length ≤ 300)
    (ho3 : w3.ownsRow B 5 1 v3 (szs (ps.take k) + (8 + (ps.getD k []).length)) (byteVals (puts (ps.take k)) ++ byteVals (put (ps.getD k [])))) (hg3 : w2.grownBy w3 x.ownBlock)
    (hE3 : w3.heap[E]? = some (.cells #[ve] 47 (0, 0))) (hve3 : w3.ownsRow B 3 1 ve (k + 1) (endsL ps k))
    (ho5 : w5.ownsRow B 3 1 v5 (k + 1 + 1) (endsL ps k ++ [.int .i64 ((szs (ps.take k) + (8 + (ps.getD k []).length) : Nat) : Int)])) (hg5 : (w3.alloc o).grownBy w5 ve.ownBlock) :
    BRow B E w ps (k + 1) v3 (w5.setCell ⟨E, 0, none⟩ v5) := by
  have hs := szs_snoc ps k hk
  have hE5 : w5.heap[E]? = some (.cells #[ve] 47 (0, 0)) := by
    have hlt := (Array.getElem?_eq_some_iff.1 hE3).1
    have h6 := Below.heap_alloc w3 o E hlt
    rw [← hE3, ← h6]
    exact hg5.block E (by simp; omega) (box_type hve3 hE3 (by decide))
  have hx5 : w5.ownsRow B 5 1 v3 (szs (ps.take k) + (8 + (ps.getD k []).length)) (byteVals (puts (ps.take k)) ++ byteVals (put (ps.getD k []))) :=
    (ho3.alloc o).kept hg5 (own_type ho3 hve3 (by decide))
  have hset : ∀ j, j ≠ E → (w5.setCell ⟨E, 0, none⟩ v5).heap[j]? = w5.heap[j]? := fun j hj => setCell_other w5 E v5 hj
  have hkeep : ∀ {e : TypeId} {v : Value} {n : Nat} {xs : List Value}, w5.ownsRow B e 1 v n xs → e ≠ 47 → (w5.setCell ⟨E, 0, none⟩ v5).ownsRow B e 1 v n xs := by
    intro e v n xs h hne
    exact ownsRow_setCell_other h (box_type h hE5 hne).symm _
  refine ⟨?_, ?_, by rw [hs]; omega, ?_, v5, ?_, ?_⟩
  · rw [hs, puts_snoc ps k hk, ← byteVals_app]; exact hkeep hx5 (by decide)
  · have q1 : Below B w w2 := h2.trans (hb2.mono (Nat.le_trans hB h2.size))
    have q2 := q1.grown hg3 (Nat.le_trans hB q1.size) (fun j e => (h1.lt j e).1)
    have q3 := (q2.alloc (Nat.le_trans hB q2.size) o).grown hg5 (by have := q2.size; simp; omega) (fun j e => (hve3.lt j e).1)
    exact q3.setCell (p := ⟨E, 0, none⟩) hEB _
  · intro p hp'
    rw [List.take_succ_eq_append_getElem hk] at hp'
    rcases List.mem_append.1 hp' with h | h
    · exact h4 p h
    · simp at h; subst h; simpa [List.getD_eq_getElem?_getD, hk] using hlen
  · exact setCell_box hE5 v5
  · rw [endsL_succ, hs]; exact hkeep ho5 (by decide)

section
variable {wr w' w'' : World} {q E ge l : Nat} {vq vE vl : Value}
theorem sb_later (h : w'.cell? ⟨q, 0, none⟩ = some vq ∧ w'.cell? ⟨E, 0, none⟩ = some vE ∧ w'.cell? ⟨ge, l, none⟩ = some vl ∧ Hid (Below wr.heap.size wr w')) (hb : Below w'.heap.size w' w'') :
    w''.cell? ⟨q, 0, none⟩ = some vq ∧ w''.cell? ⟨E, 0, none⟩ = some vE ∧ w''.cell? ⟨ge, l, none⟩ = some vl ∧ Hid (Below wr.heap.size wr w'') :=
  ⟨cell_later hb h.1, cell_later hb h.2.1, cell_later hb h.2.2.1, hide1 (bl2 h.2.2.2.out hb)⟩
theorem sb_out (h : w'.cell? ⟨q, 0, none⟩ = some vq ∧ w'.cell? ⟨E, 0, none⟩ = some vE ∧ w'.cell? ⟨ge, l, none⟩ = some vl ∧ Hid (Below wr.heap.size wr w')) : Below wr.heap.size wr w' := h.2.2.2.out
end
theorem owned_nil {w : World} {base : Nat} {e : TypeId} {size : Nat} {a : Option Addr} {n l cap : Nat} {xs : List Value} (h : w.ownsRow base e size (.slice a l cap) n xs) (ha : a = none) : cap = 0 := by
  rcases h.2 with ⟨h1, _⟩ | ⟨g, c, cur, h1, _⟩
  · cases h1; rfl
  · cases h1; cases ha

theorem rdc_put {zs : List Int} {k L : Nat} {v : Value} {W : World} {o : Obj} (h : Rdc zs k v W) (hl : ∃ r, W.heap[L]? = some (.loop r)) : Rdc zs k v (W.putObj L o) := by
  obtain ⟨g, cap, rfl, hsz, hown⟩ := h
  obtain ⟨r, hr⟩ := hl
  exact ⟨g, cap, rfl, by rw [← hsz]; simp [World.putObj], ownsRow_putObj hown o hr rfl⟩
theorem cell_gr {w W : World} {X : Nat} {p : Addr} {v : Value} (hg : w.grownBy W (some X)) (hp : p.block ≠ X) (h : w.cell? p = some v) : W.cell? p = some v :=
  (World.cell?_of_block (hg.block _ (cell_lt h) (fun e => hp (Option.some.inj e)))).trans h
theorem gr_set {w W : World} {X : Nat} {v : Value} (hg : w.grownBy W (some X)) : w.grownBy (W.setCell ⟨X, 0, none⟩ v) (some X) :=
  ⟨hg.os, hg.tape, hg.output, by have := hg.size; simpa using this, fun j hj he => (setCell_other W X v (fun e => he (by rw [e]))).trans (hg.block j hj he)⟩
/-- What the range's rounds find: the count in its box, all else that lay as it lay. -/
def IB (wy : World) (X k : Nat) (W : World) : Prop := wy.grownBy W (some X) ∧ W.heap[X]? = some (.cells #[.int .i64 (k : Int)] 3 (0, 0))
theorem ib_own (wy : World) (X : Nat) (hX : X < wy.heap.size) : OwnFrom wy.heap.size (fun k W => IB wy X k W) := by
  intro s A B row hs hg hrow
  obtain ⟨h1, h2⟩ := hs
  refine ⟨⟨hg.os.trans h1.os, hg.tape.trans h1.tape, hg.output.trans h1.output, Nat.le_trans h1.size hg.size, fun j hj he => ?_⟩, ?_⟩
  · exact (hg.block j (Nat.lt_of_lt_of_le hj h1.size) (fun e => by have := (hrow j e.symm).1; omega)).trans (h1.block j hj he)
  · exact (hg.block X (Array.getElem?_eq_some_iff.1 h2).1 (fun e => by have := (hrow X e.symm).1; omega)).trans h2

theorem brow0 (w1 : World) (ps : List (List Int)) : BRow w1.heap.size (w1.heap.size + 1 + 1) w1 ps 0 (.slice (some ⟨w1.heap.size, 0, none⟩) 0 0) (((w1.alloc (.cells #[] 5)).alloc (.cells #[.int .i64 0] 3)).alloc (.cells #[.slice (some ⟨w1.heap.size + 1, 0, none⟩) 1 1] 47)) := by
  refine ⟨((ownsRow_empty w1 w1.heap.size (Nat.le_refl _)).alloc _).alloc _, (((Below.refl _ w1).alloc (Nat.le_refl _) _).alloc (by simp) _).alloc (by simp; omega) _, Nat.zero_le _, by simp, .slice (some ⟨w1.heap.size + 1, 0, none⟩) 1 1, ?_, ?_⟩
  · have := World.alloc_heap_new ((w1.alloc (.cells #[] 5)).alloc (.cells #[.int .i64 0] 3)) (.cells #[.slice (some ⟨w1.heap.size + 1, 0, none⟩) 1 1] 47)
    rwa [World.size_alloc, World.size_alloc] at this
  · have := World.ownsRow_lit (base := w1.heap.size) (e := 3) (size := 1) (w1.alloc (.cells #[] 5)) #[.int .i64 0] 1 (by simp) (by unfold maxLen; omega) rfl
    rw [World.size_alloc] at this
    exact this.alloc _
end Go.Proofs.Ytfmjknknckjdiaa

namespace Go.Proofs.Ytfmjknknckjdiaa
open Go.RowKit

/-- Mark number j of list number i. -/
def mk1 (i j : Nat) : Value := .int .u8 (((31 * i + 3 * j + 1) % 256 : Nat) : Int)
def mks (i n : Nat) : List Value := (List.range n).map (mk1 i)
theorem mks_length (i n : Nat) : (mks i n).length = n := by simp [mks]
theorem mks_succ (i n : Nat) : mks i (n + 1) = mks i n ++ [mk1 i n] := by simp [mks, List.range_succ]
theorem mks_get (i n j : Nat) (h : j < n) : (mks i n)[j]? = some (mk1 i j) := by simp [mks, h]

/-- The blocks of two values differ. -/
def Ne2 (u v : Value) : Prop := u.ownBlock = none ∨ u.ownBlock ≠ v.ownBlock
theorem Ne2.symm {u v : Value} (h : Ne2 u v) : Ne2 v u := by
  rcases h with h | h
  · cases hv : v.ownBlock with
    | none => exact .inl hv
    | some g => exact .inr (by rw [hv, h]; simp)
  · cases hv : v.ownBlock with
    | none => exact .inl hv
    | some g => exact .inr (fun e => h e.symm)

/-- n lists, each a row of bytes of its own, apart; the block of the list of lists. -/
structure Lists (B n Lb : Nat) (O : Nat → Value) (Lo : Nat → Nat) (W : World) : Prop where
  own : ∀ i, i < n → ∃ xs, W.ownsRow B 5 1 (O i) (Lo i) xs
  sep : ∀ i j, i < n → j < n → i ≠ j → Ne2 (O i) (O j)
  row : ∃ cs fr, W.heap[Lb]? = some (.cells cs 22 fr) ∧ ∀ i, i < n → cs[i]? = some (O i)
  big : ∀ i, i < n → Lo i ≤ 140737488351232
  few : n ≤ 1000

theorem box_type' {w : World} {base : Nat} {e t : TypeId} {v : Value} {n : Nat} {xs : List Value} {E : Nat} {cs : Array Value} {fr : Nat × Nat} (h : w.ownsRow base e 1 v n xs) (hE : w.heap[E]? = some (.cells cs t fr)) (hne : e ≠ t) : some E ≠ v.ownBlock := by
  rcases h.2 with ⟨rfl, _⟩ | ⟨g, cap, cur, rfl, _, hg, _⟩
  · simp [Value.ownBlock]
  · intro e1
    simp only [Value.ownBlock, Option.some.injEq] at e1
    subst e1
    rw [hg] at hE
    simp only [Option.some.injEq, Obj.cells.injEq] at hE
    exact hne hE.2.1

theorem Lists.cell {B n Lb : Nat} {O : Nat → Value} {Lo : Nat → Nat} {W : World} (h : Lists B n Lb O Lo W) {i : Nat} (hi : i < n) : W.cell? ⟨Lb, i, none⟩ = some (O i) := by
  obtain ⟨cs, fr, hc, hg⟩ := h.row
  simp [World.cell?, hc, hg i hi]

/-- A list is a slice. -/
theorem Lists.form {B n Lb : Nat} {O : Nat → Value} {Lo : Nat → Nat} {W : World} (h : Lists B n Lb O Lo W) {i : Nat} (hi : i < n) : ∃ a c, O i = .slice a (Lo i) c ∧ (0 < Lo i → ∃ g, a = some ⟨g, 0, none⟩) ∧ c ≤ 9223372036854775807 := by
  obtain ⟨xs, hx⟩ := h.own i hi
  have hc := hx.2
  rcases hc with ⟨e, h0⟩ | ⟨g, cap, cur, e, _, _, _, hcm, _⟩
  · exact ⟨none, 0, by rw [e, h0], fun hp => absurd hp (by omega), by omega⟩
  · exact ⟨_, cap, e, fun _ => ⟨g, rfl⟩, by unfold maxLen at hcm; omega⟩

/-- The state of the first loop: the first k lists are marked, and so are the first m of list k. -/
structure Mk (B n Lb : Nat) (O : Nat → Value) (Lo : Nat → Nat) (w : World) (k m : Nat) (W : World) : Prop where
  ls : Lists B n Lb O Lo W
  done : ∀ i, i < k → W.ownsRow B 5 1 (O i) (Lo i) (mks i (Lo i))
  now : k < n → ∃ xs, W.ownsRow B 5 1 (O k) (Lo k) xs ∧ xs.take m = mks k m
  bel : Below B w W
  ko : KeepsOthers w W

theorem Mk.store {B n Lb : Nat} {O : Nat → Value} {Lo : Nat → Nat} {w : World} {k m : Nat} {W : World} {g c : Nat} (h : Mk B n Lb O Lo w k m W) (hk : k < n) (hm : m < Lo k) (hO : O k = .slice (some ⟨g, 0, none⟩) (Lo k) c) : Mk B n Lb O Lo w k (m + 1) (W.setCell ⟨g, m, none⟩ (mk1 k m)) := by
  obtain ⟨xs, hx, ht⟩ := h.now hk
  have hx' := hx
  rw [hO] at hx'
  have hst := (hx'.stored m (mk1 k m)).1
  rw [← hO] at hst
  have hl : xs.length = Lo k := by have := hx.1; omega
  have hkeep : ∀ {e : TypeId} {v : Value} {l : Nat} {ys : List Value}, W.ownsRow B e 1 v l ys → Ne2 v (O k) → (W.setCell ⟨g, m, none⟩ (mk1 k m)).ownsRow B e 1 v l ys := by
    intro e v l ys hv hne
    refine ownsRow_setCell_other hv ?_ _
    rcases hne with h1 | h1
    · rw [h1]; simp
    · rw [hO] at h1; exact h1
  refine ⟨⟨?_, h.ls.sep, ?_, h.ls.big, h.ls.few⟩, ?_, ?_, ?_, h.ko.trans (KeepsOthers.setCell _ _ _)⟩
  · intro i hi
    by_cases e : i = k
    · subst e; exact ⟨_, hst⟩
    · obtain ⟨ys, hy⟩ := h.ls.own i hi
      exact ⟨ys, hkeep hy (h.ls.sep i k hi hk e)⟩
  · obtain ⟨cs, fr, hc, hg⟩ := h.ls.row
    refine ⟨cs, fr, ?_, hg⟩
    rw [Below.heap_setCell W ⟨g, m, none⟩ (mk1 k m) Lb (fun e => (box_type' hx' hc (by decide)) (by rw [e]; rfl)), hc]
  · intro i hi
    exact hkeep (h.done i hi) (h.ls.sep i k (by omega) hk (by omega))
  · intro _
    refine ⟨_, hst, ?_⟩
    rw [mks_succ, ← ht, List.take_add_one, List.take_set_of_le (Nat.le_refl m)]
    simp [hl, hm]
  · exact h.bel.setCell (p := ⟨g, m, none⟩) ((hx'.lt g rfl).1) _

theorem Mk.next {B n Lb : Nat} {O : Nat → Value} {Lo : Nat → Nat} {w : World} {k : Nat} {W : World} (h : Mk B n Lb O Lo w k (Lo k) W) (hk : k < n) : Mk B n Lb O Lo w (k + 1) 0 W := by
  obtain ⟨xs, hx, ht⟩ := h.now hk
  have hl : xs.length = Lo k := by have := hx.1; omega
  rw [List.take_of_length_le (by omega)] at ht
  refine ⟨h.ls, ?_, ?_, h.bel, h.ko⟩
  · intro i hi
    by_cases e : i = k
    · subst e; rw [← ht]; exact hx
    · exact h.done i (by omega)
  · intro hk1
    obtain ⟨ys, hy⟩ := h.ls.own (k + 1) hk1
    exact ⟨ys, hy, rfl⟩
end Go.Proofs.Ytfmjknknckjdiaa

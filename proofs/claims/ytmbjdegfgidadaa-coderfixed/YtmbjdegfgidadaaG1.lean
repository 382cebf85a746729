/- C1, CA, CB, CC, CD, CE, CT, CR, CP, BSh, B1, B2, B3, B4, B5, B6, B7, B8, B9, B10, B11, B12, B13, B14, B15, B16, B17, B23: laid together. -/
import Derived.Laws.BitsAllLaws
import Derived.WalkKit
import Derived.WalkSpells
import Derived.WalkLawsBesides
import Derived.Below
import Derived.Handy
import Derived.Lib.SlBytesConst
import Derived.Laws.BytesArg
import Derived.Laws.OwnMore
import Derived.OwnWalk
import Derived.BigQuiet
import Derived.Test.YtmbjdegfgidadaaProg
import Derived.Shelf.Small.Strs
import Derived.Shelf.Strings.Search1
import Derived.Shelf.Strings.Prefix
import Derived.Deep.Cut
import Derived.Lib.AppendStr
import Derived.Deep.RegionHeld3
import Derived.Deep.WholeRow
import Derived.Deep.MidRow
import Derived.Test.YtmbjdegfgidadaaRows
namespace Go.Proofs.Ytmbjdegfgidadaa

/-- One bit's shift of a register. -/
def stp (r : Nat) : Nat := if r % 2 = 1 then (r / 2) ^^^ 3988292384 else r / 2

/-- So many shifts, one behind the other. -/
def stps : Nat → Nat → Nat
  | 0, r => r
  | k + 1, r => stps k (stp r)

/-- What stands in the register behind a row of bytes. -/
def crcRun (r : Nat) (l : List Int) : Nat := l.foldl (fun r c => stps 8 (r ^^^ c.toNat)) r

theorem stp_lt (r : Nat) (h : r < 4294967296) : stp r < 4294967296 := by
  unfold stp
  split
  · exact Nat.xor_lt_two_pow (n := 32) (by omega) (by omega)
  · omega

theorem stps_lt (k : Nat) : ∀ r, r < 4294967296 → stps k r < 4294967296 := by
  induction k with
  | zero => intro r h; exact h
  | succ k ih => intro r h; exact ih _ (stp_lt r h)

theorem stps_succ (k : Nat) : ∀ r, stps (k + 1) r = stp (stps k r) := by
  induction k with
  | zero => intro r; rfl
  | succ k ih => intro r; exact ih (stp r)

theorem stps_add (j : Nat) : ∀ k r, stps (j + k) r = stps k (stps j r) := by
  induction j with
  | zero => intro k r; simp [stps]
  | succ j ih => intro k r; rw [show j + 1 + k = (j + k) + 1 from by omega]; exact ih k (stp r)

/-- Two numbers are one if their bits are. -/
theorem xor_half (a b : Nat) : (a ^^^ b) / 2 = a / 2 ^^^ b / 2 := by
  apply Nat.eq_of_testBit_eq
  intro i
  simp [Nat.testBit_div_two, Nat.testBit_xor]

theorem xor_par (a b : Nat) : (a ^^^ b) % 2 = (a % 2 + b % 2) % 2 := by
  have h : (a ^^^ b) % 2 = (a % 2) ^^^ (b % 2) := by
    have := @Nat.xor_mod_two_pow a b 1
    simpa using this
  rw [h]
  rcases Nat.mod_two_eq_zero_or_one a with ha | ha <;> rcases Nat.mod_two_eq_zero_or_one b with hb | hb <;> simp [ha, hb]

/-- A shift goes through exclusive or. -/
theorem stp_xor (a b : Nat) : stp (a ^^^ b) = stp a ^^^ stp b := by
  unfold stp
  rw [xor_half, xor_par]
  rcases Nat.mod_two_eq_zero_or_one a with ha | ha <;> rcases Nat.mod_two_eq_zero_or_one b with hb | hb
  · simp [ha, hb]
  · simp [ha, hb, Nat.xor_assoc]
  · simp [ha, hb]
    rw [Nat.xor_assoc, Nat.xor_assoc, Nat.xor_comm 3988292384]
  · simp [ha, hb]
    rw [Nat.xor_assoc, ← Nat.xor_assoc 3988292384, Nat.xor_comm 3988292384, Nat.xor_assoc, Nat.xor_self, Nat.xor_zero]

theorem stps_xor (k : Nat) : ∀ a b, stps k (a ^^^ b) = stps k a ^^^ stps k b := by
  induction k with
  | zero => intro a b; rfl
  | succ k ih => intro a b; show stps k (stp (a ^^^ b)) = _; rw [stp_xor]; exact ih _ _

theorem stp_zero : stp 0 = 0 := by decide
theorem stps_zero (k : Nat) : stps k 0 = 0 := by
  induction k with
  | zero => rfl
  | succ k ih => rw [stps_succ, ih, stp_zero]

/-- A shift of what ends in a 0 only halves it. -/
theorem stp_even (r : Nat) (h : r % 2 = 0) : stp r = r / 2 := by
  unfold stp; rw [if_neg (by omega)]

theorem stps_low (k : Nat) : ∀ q, stps k (q * 2 ^ k) = q := by
  induction k with
  | zero => intro q; simp [stps]
  | succ k ih =>
    intro q
    show stps k (stp (q * 2 ^ (k + 1))) = q
    rw [stp_even _ (by rw [Nat.pow_succ, ← Nat.mul_assoc]; omega), show q * 2 ^ (k + 1) / 2 = q * 2 ^ k from by rw [Nat.pow_succ, ← Nat.mul_assoc]; omega]
    exact ih q

theorem split_low (r k : Nat) : r = (r / 2 ^ k * 2 ^ k) ^^^ (r % 2 ^ k) := by
  apply Nat.eq_of_testBit_eq
  intro i
  rw [Nat.testBit_xor, Nat.testBit_mod_two_pow, ← Nat.shiftLeft_eq, Nat.testBit_shiftLeft, Nat.testBit_div_two_pow]
  by_cases h : i < k
  · simp [h, show ¬ k ≤ i from by omega]
  · simp [h, show k ≤ i from by omega]

/-- A step of k shifts: what is above moves down, what is below is put to it. -/
theorem stps_split (k r : Nat) : stps k r = (r / 2 ^ k) ^^^ stps k (r % 2 ^ k) := by
  conv => lhs; rw [split_low r k]
  rw [stps_xor, stps_low]

theorem stps_four (r : Nat) : stps 4 r = (r / 16) ^^^ stps 4 (r % 16) := stps_split 4 r

/-- All bits turned. -/
theorem ones_xor (s : Nat) (h : s < 4294967296) : 4294967295 ^^^ s = 4294967295 - s := by
  apply Nat.eq_of_testBit_eq
  intro i
  rw [Nat.testBit_xor, show 4294967295 = 2 ^ 32 - 1 from rfl, Nat.testBit_two_pow_sub_one, show 2 ^ 32 - 1 - s = 2 ^ 32 - (s + 1) from by omega, Nat.testBit_two_pow_sub_succ (by omega)]
  by_cases hi : i < 32
  · simp [hi]
  · have : s.testBit i = false := Nat.testBit_lt_two_pow (Nat.lt_of_lt_of_le h (Nat.pow_le_pow_right (show 0 < 2 by omega) (show 32 ≤ i by omega)))
    simp [hi, this]

theorem crcRun_nil (r : Nat) : crcRun r [] = r := rfl
theorem crcRun_append (r : Nat) (a b : List Int) : crcRun r (a ++ b) = crcRun (crcRun r a) b := by simp [crcRun]
theorem crcRun_snoc (r : Nat) (a : List Int) (c : Int) : crcRun r (a ++ [c]) = stps 8 (crcRun r a ^^^ c.toNat) := by simp [crcRun]

theorem crcRun_lt (r : Nat) (l : List Int) (h : r < 4294967296) (hl : ∀ c ∈ l, 0 ≤ c ∧ c < 256) : crcRun r l < 4294967296 := by
  induction l generalizing r with
  | nil => exact h
  | cons c l ih =>
    have hc := hl c (by simp)
    exact ih _ (stps_lt 8 _ (Nat.xor_lt_two_pow (n := 32) (by omega) (by omega))) (fun d hd => hl d (by simp [hd]))

end Go.Proofs.Ytmbjdegfgidadaa

namespace Go.Proofs.Ytmbjdegfgidadaa
open Go.RowKit

theorem val_int {k : IntKind} {a b : Int} (h : a = b) : Value.int k a = Value.int k b := by rw [h]
theorem ret_int {k : IntKind} {a b : Int} (h : a = b) : Ending.returned (.int k a) = .returned (.int k b) := by rw [h]

theorem stp_odd_int (r : Nat) (hr : r < 4294967296) (h : (bits BinOp.and IntKind.u32 (r : Int) 1 == 1) = true) :
    bits BinOp.xor IntKind.u32 ((r : Int) / 2) 3988292384 = ((stp r : Nat) : Int) := by
  have e := u32_and_nat r 1 hr (by omega)
  simp only [Int.cast_ofNat_Int, nat_mask1] at e
  rw [e] at h
  have h1 : r % 2 = 1 := by simp at h; omega
  have x := u32_xor_nat (r / 2) 3988292384 (by omega) (by omega)
  simp only [Int.natCast_ediv, Int.cast_ofNat_Int] at x
  rw [x]; unfold stp; rw [if_pos h1]

theorem stp_even_int (r : Nat) (hr : r < 4294967296) (h : (bits BinOp.and IntKind.u32 (r : Int) 1 == 1) = false) :
    ((r : Int) / 2) = ((stp r : Nat) : Int) := by
  have e := u32_and_nat r 1 hr (by omega)
  simp only [Int.cast_ofNat_Int, nat_mask1] at e
  rw [e] at h
  have h1 : ¬ r % 2 = 1 := by simp at h; omega
  unfold stp; rw [if_neg h1]; omega

/-- The table of sixteen words lies at a block. -/
def IsTable (w : World) (b : Nat) : Prop := ∀ i : Nat, i < 16 → w.cell? ⟨b, i, none⟩ = some (.int .u32 ((stps 4 i : Nat) : Int))

/-- A slice of bytes that reads so: its elements alone; of its spare room nothing is said. -/
def Bs (w : World) (a : Option Addr) (len : Nat) (zs : List Int) : Prop :=
  zs.length = len ∧ (∀ z ∈ zs, 0 ≤ z ∧ z < 256) ∧ (0 < len → ∃ b off, a = some ⟨b, off, none⟩ ∧ ∀ i, i < len → w.cell? ⟨b, off + i, none⟩ = some (.int .u8 (zs.getD i 0)))

theorem take_snoc (l : List Int) (k : Nat) (h : k < l.length) : l.take (k + 1) = l.take k ++ [l.getD k 0] := by
  rw [List.take_succ_eq_append_getElem h]; simp [h]

theorem getD_mem {l : List Int} {k : Nat} (h : k < l.length) : l.getD k 0 ∈ l := by
  simp [List.getD_eq_getElem?_getD, h]

end Go.Proofs.Ytmbjdegfgidadaa

namespace Go.Proofs.Ytmbjdegfgidadaa
open Go.RowKit

end Go.Proofs.Ytmbjdegfgidadaa

namespace Go.Proofs.Ytmbjdegfgidadaa
open Go.RowKit

theorem Bs.later {w w' : World} {a : Option Addr} {len : Nat} {zs : List Int} (h : Bs w a len zs) (hb : Below w.heap.size w w') : Bs w' a len zs := by
  obtain ⟨h1, h2, h3⟩ := h
  refine ⟨h1, h2, fun hp => ?_⟩
  obtain ⟨b, off, e, hc⟩ := h3 hp
  exact ⟨b, off, e, fun i hi => cell_later hb (hc i hi)⟩

/-- A slice of slices of bytes that reads so. -/
def Parts (w : World) (a : Option Addr) (n : Nat) (ps : List (List Int)) : Prop :=
  ps.length = n ∧ (0 < n → ∃ b off, a = some ⟨b, off, none⟩ ∧ ∀ i, i < n → ∃ a' len cap, w.cell? ⟨b, off + i, none⟩ = some (.slice a' len cap) ∧ len ≤ maxLen ∧ Bs w a' len (ps.getD i []))

theorem Parts.later {w w' : World} {a : Option Addr} {n : Nat} {ps : List (List Int)} (h : Parts w a n ps) (hb : Below w.heap.size w w') : Parts w' a n ps := by
  obtain ⟨h1, h2⟩ := h
  refine ⟨h1, fun hp => ?_⟩
  obtain ⟨b, off, e, hc⟩ := h2 hp
  refine ⟨b, off, e, fun i hi => ?_⟩
  obtain ⟨a', len, cap, hc1, hm, hbs⟩ := hc i hi
  exact ⟨a', len, cap, cell_later hb hc1, hm, hbs.later hb⟩

theorem flat_snoc (ps : List (List Int)) (k : Nat) (h : k < ps.length) : (ps.take (k + 1)).flatten = (ps.take k).flatten ++ ps.getD k [] := by
  rw [List.take_succ_eq_append_getElem h, List.flatten_append]; simp [List.getD_eq_getElem?_getD, h]

theorem parts_bytes {w : World} {a : Option Addr} {n : Nat} {ps : List (List Int)} (h : Parts w a n ps) (k : Nat) : ∀ c ∈ (ps.take k).flatten, 0 ≤ c ∧ c < 256 := by
  obtain ⟨h1, h2⟩ := h
  intro c hc
  rw [List.mem_flatten] at hc
  obtain ⟨l, hl, hcl⟩ := hc
  obtain ⟨i, hi, rfl⟩ := List.mem_iff_getElem.1 (List.mem_of_mem_take hl)
  obtain ⟨b, off, _, hcell⟩ := h2 (by omega)
  obtain ⟨_, _, _, _, _, hbs⟩ := hcell i (by omega)
  exact hbs.2.1 c (by simpa [List.getD_eq_getElem?_getD, hi] using hcl)

theorem not_u32 (r : Nat) (h : r < 4294967296) : bits BinOp.xor IntKind.u32 IntKind.u32.max (r : Int) = ((4294967295 - r : Nat) : Int) := by
  have e := u32_xor_nat 4294967295 r (by omega) h
  rw [ones_xor r h] at e
  exact e
theorem u32_unsigned : IntKind.u32.signed = false := rfl

/-- The check sum of a text. -/
def crcSum (zs : List Int) : Nat := 4294967295 - crcRun 4294967295 zs

end Go.Proofs.Ytmbjdegfgidadaa

namespace Go.Proofs.Ytmbjdegfgidadaa
open Go.RowKit

/-- A row that the call itself has made, in its last block. -/
theorem bs_new (w : World) (zs : List Int) (fr : Nat × Nat) (hz : ∀ z ∈ zs, 0 ≤ z ∧ z < 256) : Bs (w.alloc (.cells (zs.map (Value.int .u8)).toArray 5 fr)) (some ⟨w.heap.size, 0, none⟩) zs.length zs := by
  refine ⟨rfl, hz, fun _ => ⟨_, _, rfl, fun i hi => ?_⟩⟩
  rw [World.cell?_alloc_mark]
  simp [hi]

theorem parts_none (w : World) (a : Option Addr) : Parts w a 0 [] := ⟨rfl, fun h => absurd h (by omega)⟩

theorem parts_one {w : World} {b : Nat} {a1 : Option Addr} {l1 c1 : Nat} {z1 : List Int} (h1 : w.cell? ⟨b, 0, none⟩ = some (.slice a1 l1 c1)) (m1 : l1 ≤ maxLen) (k1 : Bs w a1 l1 z1) : Parts w (some ⟨b, 0, none⟩) 1 [z1] := by
  refine ⟨rfl, fun _ => ⟨_, _, rfl, fun i hi => ?_⟩⟩
  obtain rfl : i = 0 := by omega
  exact ⟨a1, l1, c1, h1, m1, k1⟩

theorem parts_two {w : World} {b : Nat} {a1 a2 : Option Addr} {l1 c1 l2 c2 : Nat} {z1 z2 : List Int} (h1 : w.cell? ⟨b, 0, none⟩ = some (.slice a1 l1 c1)) (m1 : l1 ≤ maxLen) (k1 : Bs w a1 l1 z1)
    (h2 : w.cell? ⟨b, 1, none⟩ = some (.slice a2 l2 c2)) (m2 : l2 ≤ maxLen) (k2 : Bs w a2 l2 z2) : Parts w (some ⟨b, 0, none⟩) 2 [z1, z2] := by
  refine ⟨rfl, fun _ => ⟨_, _, rfl, fun i hi => ?_⟩⟩
  rcases (show i = 0 ∨ i = 1 by omega) with rfl | rfl
  · exact ⟨a1, l1, c1, h1, m1, k1⟩
  · exact ⟨a2, l2, c2, h2, m2, k2⟩

theorem example_sum : crcSum [49, 50, 51, 52, 53, 54, 55, 56, 57] = 3421780262 := by decide +kernel

end Go.Proofs.Ytmbjdegfgidadaa

namespace Go.Proofs.Ytmbjdegfgidadaa
open Go.RowKit

theorem conv_bs {w : World} {a : Option Addr} {len : Nat} {zs : List Int} (h : Bs w a len zs) (cap : Nat) :
    (convert 22 9 (.slice a len cap)).run Try.prog w = .ok (.string (strOfNums zs)) w := by
  obtain ⟨h1, h2, h3⟩ := h
  rcases Nat.eq_zero_or_pos len with rfl | hp
  · obtain rfl : zs = [] := List.length_eq_zero_iff.1 h1
    cases a with
    | none => exact run_convert_bytes_nil w 22 5 Try.underlying22 Try.underlying5 0 cap 9 Try.underlying9
    | some x =>
      rw [run_convert_bytes_string w 22 9 5 _ 0 cap Try.underlying22 Try.underlying5 Try.underlying9, run_bytesToString w x 0 cap [] (run_loadCells_list (P := Try.prog) w x [] (fun j v hj => by simp at hj))]
      rfl
  · obtain ⟨b, off, rfl, hc⟩ := h3 hp
    exact run_convert_bytes_arg w 22 5 Try.underlying22 Try.underlying5 b off len cap zs h1 hc 9 Try.underlying9

theorem strOfNums_inj {x y : List Int} (hx : ∀ z ∈ x, 0 ≤ z ∧ z < 256) (hy : ∀ z ∈ y, 0 ≤ z ∧ z < 256) (h : (strOfNums x).toList = (strOfNums y).toList) : x = y := by
  have h1 : x.map (fun n => UInt8.ofNat n.toNat) = y.map (fun n => UInt8.ofNat n.toNat) := by
    rw [← strOfNums_data, ← strOfNums_data, ← ByteArray.toList_eq, ← ByteArray.toList_eq, h]
  have h2 : ∀ l : List Int, (∀ z ∈ l, 0 ≤ z ∧ z < 256) → (l.map (fun n => UInt8.ofNat n.toNat)).map (fun u => ((u.toNat : Nat) : Int)) = l := by
    intro l hl
    rw [List.map_map]
    conv => rhs; rw [← List.map_id l]
    apply List.map_congr_left
    intro z hz
    have := hl z hz
    simp
    omega
  rw [← h2 x hx, ← h2 y hy, h1]

theorem str_beq {x y : List Int} (hx : ∀ z ∈ x, 0 ≤ z ∧ z < 256) (hy : ∀ z ∈ y, 0 ≤ z ∧ z < 256) : ((strOfNums x).toList == (strOfNums y).toList) = decide (x = y) := by
  by_cases h : x = y
  · subst h; simp
  · rw [decide_eq_false h]
    exact beq_eq_false_iff_ne.2 (fun e => h (strOfNums_inj hx hy e))

set_option maxHeartbeats 400000 in
theorem same_any {w : World} {a b : Option Addr} {la ca lb cb : Nat} {x y : List Int} (hx : Bs w a la x) (hy : Bs w b lb y) :
    Calls Try.prog 15 #[.slice a la ca, .slice b lb cb] w fun e w' => e = .returned (.bool (decide (x = y))) ∧ w' = w := by
  have k1 := conv_bs hx ca
  have k2 := conv_bs hy cb
  go_enter Try.func15, Try.ntmps15
  go_wp2
  rw [str_beq hx.2.1 hy.2.1]
  go_ret
  exact ⟨rfl, rfl⟩

theorem info5 : (Try.prog.info? 5).map (fun i => (i.zero, i.size, i.bytes)) = some (some (.int .u8 0), 1, 1) := by kernel_rfl

/-- The cells of a row of bytes. -/
def byteVals (zs : List Int) : List Value := zs.map (Value.int .u8)

/-- An owned row of bytes reads as a slice. -/
theorem bs_owned {w : World} {base : Nat} {v : Value} {n : Nat} {zs : List Int} (h : w.ownsRow base 5 1 v n (byteVals zs)) (hz : ∀ z ∈ zs, 0 ≤ z ∧ z < 256) :
    ∃ a cap, v = .slice a n cap ∧ Bs w a n zs ∧ n ≤ cap ∧ n ≤ maxLen := by
  have hl : zs.length = n := by have := h.1; simpa [byteVals] using this
  rcases h.2 with ⟨rfl, rfl⟩ | ⟨g, cap, cur, rfl, hb, hg, hnc, hcm, hcs, ht⟩
  · exact ⟨none, 0, rfl, ⟨hl, hz, fun h => absurd h (by omega)⟩, Nat.le_refl _, Nat.zero_le _⟩
  · refine ⟨_, cap, rfl, ⟨hl, hz, fun _ => ⟨g, 0, rfl, fun i hi => ?_⟩⟩, hnc, by omega⟩
    have := h.cellAt i (by omega)
    rw [Nat.zero_add, this]
    simp [byteVals, show i < zs.length by omega]

/-- Bytes are put behind a row of the call's own. -/
theorem run_append_bs (w : World) (base ty : Nat) (v : Value) (n : Nat) (xs : List Value) (hown : w.ownsRow base 5 1 v n xs) (a : Option Addr) (m c : Nat) (zs : List Int) (hb : Bs w a m zs)
    (hbytes : n + m ≤ 140737488355328) (hbase : base ≤ w.heap.size) :
    ∃ v' w', (Builtin.append_ #[22, 22] ty #[v, .slice a m c]).run Try.prog w = .ok v' w' ∧ w'.ownsRow base 5 1 v' (n + m) (xs ++ byteVals zs) ∧ w.grownBy w' v.ownBlock := by
  obtain ⟨i0, hi, hz0, hz1, hz2⟩ := info_parts info5
  obtain ⟨h1, h2, h3⟩ := hb
  cases a with
  | none =>
    obtain rfl : m = 0 := by
      rcases Nat.eq_zero_or_pos m with h | h
      · exact h
      · obtain ⟨_, _, e, _⟩ := h3 h; cases e
    obtain rfl : zs = [] := List.length_eq_zero_iff.1 h1
    refine ⟨v, w, ?_, by simpa [byteVals] using hown, ⟨rfl, rfl, rfl, Nat.le_refl _, fun _ _ _ => rfl⟩⟩
    rcases hown.2 with ⟨rfl, rfl⟩ | ⟨g, cap, cur, rfl, _, _, hnc, _⟩
    · simp [Builtin.append_, run_underlying Try.underlying22, sizeOf, typeInfo, hi, Builtin.lenOf, Builtin.firstCells]
    · simp [Builtin.append_, run_underlying Try.underlying22, sizeOf, typeInfo, hi, Builtin.lenOf, Builtin.firstCells, hnc, storeCells]
  | some ad =>
    have hnews : ∀ j u, (byteVals zs)[j]? = some u → w.cell? (ad.add j) = some u := by
      intro j u hj
      have hjl : j < zs.length := by
        rcases Nat.lt_or_ge j zs.length with h | h
        · exact h
        · rw [List.getElem?_eq_none (by simpa [byteVals] using h)] at hj; cases hj
      obtain ⟨b, off, e, hc⟩ := h3 (by omega)
      cases e
      have := hc j (by omega)
      rw [Addr.add_lit, this]
      simp [byteVals, hjl] at hj
      simp [hjl, hj]
    obtain ⟨v', w', hr, h4, h5, _⟩ := run_append_own (P := Try.prog) w base 22 ty 5 i0 (.int .u8 0) 1 1 Try.underlying22 hi hz0 hz1 hz2 rfl (by decide) v n xs hown ad m c (byteVals zs) (by simp [byteVals, h1]) hnews
      (by intro u hu; simp [byteVals] at hu; obtain ⟨z, _, rfl⟩ := hu; rfl) (by unfold maxLen; omega) (by omega) hbase
    exact ⟨v', w', hr, h4, h5⟩

theorem wpList_append_bs {w : World} {ops : Array Oper} {rest : List Oper} {o : Oper} {a : Act} {Q : Exit → Act → World → Prop} (hgd : o.guard = none) (s x : Operand)
    (ho : o.op = .call { callee := .builtin .append, args := #[s, x], argTypes := #[22, 22] }) (base : Nat)
    (v : Value) (n : Nat) (xs : List Value) (hs : a.eval s = v) (hown : w.ownsRow base 5 1 v n xs) (ad : Option Addr) (m c : Nat) (zs : List Int) (hx : a.eval x = .slice ad m c) (hb : Bs w ad m zs)
    (hbytes : n + m ≤ 140737488355328) (hbase : base ≤ w.heap.size)
    (h : ∀ v' w', w'.ownsRow base 5 1 v' (n + m) (xs ++ byteVals zs) → w.grownBy w' v.ownBlock → wpList Try.prog ops Q rest (a.put o.dst v') w') : wpList Try.prog ops Q (o :: rest) a w := by
  refine wpList_plain hgd fun K hK => ?_
  obtain ⟨v', w', hr, h2, h3⟩ := run_append_bs w base o.type v n xs hown ad m c zs hb hbytes hbase
  unfold Oper.wp execOp
  simp only [ho, resolve, invoke, builtin, Sem.run_bind, Sem.run_pure, Result.andThen_ok, List.map_toArray, List.map_cons, List.map_nil, hs, hx, hr]
  exact hK _ _ (h v' w' h2 h3)

theorem hide1 {p : Prop} (h : p) : Hid p := h

/-- The four bytes of a sum, the lowest first. -/
def bytesOf (s : Nat) : List Int := [((s % 256 : Nat) : Int), ((s / 256 % 256 : Nat) : Int), ((s / 65536 % 256 : Nat) : Int), ((s / 16777216 % 256 : Nat) : Int)]

theorem bytesOf_bytes (s : Nat) : ∀ z ∈ bytesOf s, 0 ≤ z ∧ z < 256 := by
  intro z hz
  simp only [bytesOf, List.mem_cons, List.not_mem_nil, or_false] at hz
  omega

theorem below_one (w : World) (o : Obj) : Below w.heap.size w (w.alloc o) := (Below.refl _ _).alloc (Nat.le_refl _) _

theorem bs_one (w : World) (z : Int) (hz : 0 ≤ z ∧ z < 256) : Bs (w.alloc (.cells #[.int .u8 z] 5)) (some ⟨w.heap.size, 0, none⟩) 1 [z] := bs_new w [z] (0, 0) (by simpa using hz)

theorem below_app {B : Nat} {w wr w' : World} {v : Value} {n : Nat} {xs : List Value} {o : Obj} (hb : Below B w wr) (hB : B ≤ w.heap.size) (hown : wr.ownsRow B 5 1 v n xs) (hg : (wr.alloc o).grownBy w' v.ownBlock) : Below B w w' :=
  (hb.alloc (Nat.le_trans hB hb.size) o).grown hg (by have := hb.size; simp; omega) (fun k e => (hown.lt k e).1)

end Go.Proofs.Ytmbjdegfgidadaa

namespace Go.Proofs.Ytmbjdegfgidadaa
open Go.RowKit

theorem or_four (c0 c1 c2 c3 : Nat) (k0 : c0 < 256) (k1 : c1 < 256) (k2 : c2 < 256) (k3 : c3 < 256) :
    bits BinOp.or IntKind.u32 (bits BinOp.or IntKind.u32 (bits BinOp.or IntKind.u32 (c0 : Int) ((c1 : Int) * 256)) ((c2 : Int) * 65536)) ((c3 : Int) * 16777216) = ((c0 + 256 * c1 + 65536 * c2 + 16777216 * c3 : Nat) : Int) := by
  have j1 : c0 ||| (c1 * 256) = c0 + 256 * c1 := by rw [Nat.or_comm, nat_join 8 (c1 * 256) c0 (by omega) (by omega)]; omega
  have j2 : (c0 + 256 * c1) ||| (c2 * 65536) = c0 + 256 * c1 + 65536 * c2 := by rw [Nat.or_comm, nat_join 16 (c2 * 65536) _ (by omega) (by omega)]; omega
  have j3 : (c0 + 256 * c1 + 65536 * c2) ||| (c3 * 16777216) = c0 + 256 * c1 + 65536 * c2 + 16777216 * c3 := by rw [Nat.or_comm, nat_join 24 (c3 * 16777216) _ (by omega) (by omega)]; omega
  have e1 := u32_or_nat c0 (c1 * 256) (by omega) (by omega)
  have e2 := u32_or_nat (c0 + 256 * c1) (c2 * 65536) (by omega) (by omega)
  have e3 := u32_or_nat (c0 + 256 * c1 + 65536 * c2) (c3 * 16777216) (by omega) (by omega)
  rw [j1] at e1; rw [j2] at e2; rw [j3] at e3
  have f1 : ((c1 : Int) * 256) = ((c1 * 256 : Nat) : Int) := by omega
  have f2 : ((c2 : Int) * 65536) = ((c2 * 65536 : Nat) : Int) := by omega
  have f3 : ((c3 : Int) * 16777216) = ((c3 * 16777216 : Nat) : Int) := by omega
  rw [f1, f2, f3, e1, e2, e3]

/-- The number of four bytes, the lowest first. -/
def numOf (zs : List Int) : Nat := (zs.getD 0 0).toNat + 256 * (zs.getD 1 0).toNat + 65536 * (zs.getD 2 0).toNat + 16777216 * (zs.getD 3 0).toNat

theorem numOf_lt (zs : List Int) (hl : zs.length = 4) (hz : ∀ z ∈ zs, 0 ≤ z ∧ z < 256) : numOf zs < 4294967296 := by
  have g : ∀ i, i < 4 → (zs.getD i 0).toNat < 256 := fun i hi => by
    have := hz _ (getD_mem (l := zs) (k := i) (by omega))
    omega
  have := g 0 (by omega); have := g 1 (by omega); have := g 2 (by omega); have := g 3 (by omega)
  unfold numOf; omega

theorem numOf_bytesOf (s : Nat) (h : s < 4294967296) : numOf (bytesOf s) = s := by
  simp [numOf, bytesOf]; omega

theorem bytesOf_numOf (zs : List Int) (hl : zs.length = 4) (hz : ∀ z ∈ zs, 0 ≤ z ∧ z < 256) : bytesOf (numOf zs) = zs := by
  match zs, hl with
  | [a, b, c, d], _ =>
    have ha := hz a (by simp); have hb := hz b (by simp); have hc := hz c (by simp); have hd := hz d (by simp)
    obtain ⟨a, rfl⟩ := Int.eq_ofNat_of_zero_le ha.1
    obtain ⟨b, rfl⟩ := Int.eq_ofNat_of_zero_le hb.1
    obtain ⟨c, rfl⟩ := Int.eq_ofNat_of_zero_le hc.1
    obtain ⟨d, rfl⟩ := Int.eq_ofNat_of_zero_le hd.1
    have e : numOf [(a : Int), (b : Int), (c : Int), (d : Int)] = a + 256 * b + 65536 * c + 16777216 * d := by simp [numOf]
    rw [e]
    unfold bytesOf
    have e1 : (a + 256 * b + 65536 * c + 16777216 * d) % 256 = a := by omega
    have e2 : (a + 256 * b + 65536 * c + 16777216 * d) / 256 % 256 = b := by omega
    have e3 : (a + 256 * b + 65536 * c + 16777216 * d) / 65536 % 256 = c := by omega
    have e4 : (a + 256 * b + 65536 * c + 16777216 * d) / 16777216 % 256 = d := by omega
    rw [e1, e2, e3, e4]

/-- What the walk is told of a slice of integers that came in: nil, or a row of 'cap' cells, the first 'len' of them its elements. -/
def IsRow (k : IntKind) (w : World) (a : Option Addr) (len cap : Nat) (zs : List Int) : Prop :=
  (a = none ∧ len = 0 ∧ cap = 0 ∧ zs = []) ∨
  ∃ x, a = some x ∧ len ≤ cap ∧ cap ≤ maxLen ∧ zs.length = cap ∧ (∀ i, i < zs.length → w.cell? (x.add i) = some (.int k (zs.getD i 0))) ∧ ∀ n ∈ zs, (Lit.int k n).wf = true

theorem bs_of_row {w : World} {a : Option Addr} {len cap : Nat} {zs : List Int} (h : IsRow .u8 w a len cap zs) : Bs w a len (zs.take len) ∧ len ≤ maxLen := by
  rcases h with ⟨rfl, rfl, rfl, rfl⟩ | ⟨x, rfl, hl, hm, hz, hcell, hwz⟩
  · exact ⟨⟨rfl, fun z hz => by simp at hz, fun h => absurd h (by omega)⟩, Nat.zero_le _⟩
  · refine ⟨⟨by simp; omega, fun z hz' => ?_, fun hp => ?_⟩, by omega⟩
    · have := hwz z (List.mem_of_mem_take hz')
      simp only [Lit.wf, Bool.and_eq_true, decide_eq_true_eq] at this
      have e1 : IntKind.u8.min = 0 := rfl
      have e2 : IntKind.u8.max = 255 := rfl
      omega
    · obtain ⟨b, off, spot⟩ := x
      have hc := hcell 0 (by omega)
      have hspot : spot = none := by simpa [Addr.add] using World.cell?_spot hc
      subst hspot
      refine ⟨b, off, rfl, fun i hi => ?_⟩
      have := hcell i (by omega)
      rw [Addr.add_lit] at this
      rw [this]
      simp [List.getD_eq_getElem?_getD, hi]
end Go.Proofs.Ytmbjdegfgidadaa

namespace Go.Proofs.Ytmbjdegfgidadaa
open Go.RowKit

/-- Bit number i of a text. -/
def bitAt (zs : List Int) (i : Nat) : Nat := (zs.getD (i / 8) 0).toNat / 2 ^ (i % 8) % 2

/-- The register behind the first so many bits. -/
def bitRun (zs : List Int) : Nat → Nat
  | 0 => 4294967295
  | i + 1 => stp (bitRun zs i ^^^ bitAt zs i)

theorem bitAt_lt (zs : List Int) (i : Nat) : bitAt zs i < 2 := by unfold bitAt; omega

theorem bitRun_lt (zs : List Int) (i : Nat) : bitRun zs i < 4294967296 := by
  induction i with
  | zero => show 4294967295 < 4294967296; omega
  | succ i ih => exact stp_lt _ (Nat.xor_lt_two_pow (n := 32) ih (by have := bitAt_lt zs i; omega))

theorem stp_bit (x b : Nat) (hb : b < 2) : stp (x ^^^ b) = if x % 2 = b then x / 2 else x / 2 ^^^ 3988292384 := by
  unfold stp
  rw [xor_half, xor_par]
  rcases (show b = 0 ∨ b = 1 by omega) with rfl | rfl <;> rcases Nat.mod_two_eq_zero_or_one x with h | h <;> simp [h]

theorem and_one (x : Nat) (h : x < 4294967296) : bits BinOp.and IntKind.u32 (x : Int) 1 = ((x % 2 : Nat) : Int) := by
  have e := u32_and_nat x 1 h (by omega)
  simp only [Int.cast_ofNat_Int, nat_mask1] at e
  exact e

theorem and_bit (c n : Nat) (h : c < 256) : bits BinOp.and IntKind.u32 ((c : Int) / 2 ^ n % 4294967296) 1 = ((c / 2 ^ n % 2 : Nat) : Int) := by
  have hl : c / 2 ^ n < 4294967296 := Nat.lt_of_le_of_lt (Nat.div_le_self _ _) (by omega)
  have e : (c : Int) / 2 ^ n % 4294967296 = ((c / 2 ^ n : Nat) : Int) := by
    have : ((c / 2 ^ n : Nat) : Int) = (c : Int) / 2 ^ n := by simp
    rw [← this]; generalize c / 2 ^ n = q at hl ⊢; omega
  rw [e]; exact and_one _ hl

theorem ref_odd (x c n : Nat) (hx : x < 4294967296) (hc : c < 256) (h : (bits BinOp.and IntKind.u32 (x : Int) 1 != bits BinOp.and IntKind.u32 ((c : Int) / 2 ^ n % 4294967296) 1) = true) :
    bits BinOp.xor IntKind.u32 ((x : Int) / 2) 3988292384 = ((stp (x ^^^ (c / 2 ^ n % 2)) : Nat) : Int) := by
  rw [and_one x hx, and_bit c n hc] at h
  have h1 : ¬ x % 2 = c / 2 ^ n % 2 := by intro e; rw [e] at h; simp at h
  have x1 := u32_xor_nat (x / 2) 3988292384 (by omega) (by omega)
  simp only [Int.natCast_ediv, Int.cast_ofNat_Int] at x1
  rw [x1, stp_bit _ _ (by omega), if_neg h1]

theorem ref_even (x c n : Nat) (hx : x < 4294967296) (hc : c < 256) (h : (bits BinOp.and IntKind.u32 (x : Int) 1 != bits BinOp.and IntKind.u32 ((c : Int) / 2 ^ n % 4294967296) 1) = false) :
    ((x : Int) / 2) = ((stp (x ^^^ (c / 2 ^ n % 2)) : Nat) : Int) := by
  rw [and_one x hx, and_bit c n hc] at h
  have h1 : x % 2 = c / 2 ^ n % 2 := by
    have := bne_eq_false_iff_eq.1 h
    omega
  rw [stp_bit _ _ (by omega), if_pos h1]; omega

theorem stp_down (x c : Nat) : stp (x ^^^ c) = stp (x ^^^ (c % 2)) ^^^ (c / 2) := by
  have e := split_low c 1
  simp only [Nat.pow_one] at e
  have h2 : stp (c / 2 * 2) = c / 2 := by rw [stp_even _ (by omega)]; omega
  have h3 : stp c = c / 2 ^^^ stp (c % 2) := by
    conv => lhs; rw [e]
    rw [stp_xor, h2]
  rw [stp_xor, stp_xor, h3, Nat.xor_assoc, Nat.xor_comm (stp (c % 2))]

theorem bitRun_byte (zs : List Int) (k j : Nat) (hj : j ≤ 8) : bitRun zs (8 * k + j) ^^^ ((zs.getD k 0).toNat / 2 ^ j) = stps j (bitRun zs (8 * k) ^^^ (zs.getD k 0).toNat) := by
  induction j with
  | zero => simp [stps]
  | succ j ih =>
    have e1 : bitAt zs (8 * k + j) = (zs.getD k 0).toNat / 2 ^ j % 2 := by
      unfold bitAt
      rw [show (8 * k + j) / 8 = k from by omega, show (8 * k + j) % 8 = j from by omega]
    rw [stps_succ, ← ih (by omega)]
    show stp (bitRun zs (8 * k + j) ^^^ bitAt zs (8 * k + j)) ^^^ _ = _
    rw [e1, stp_down (bitRun zs (8 * k + j)) ((zs.getD k 0).toNat / 2 ^ j), Nat.pow_succ, Nat.div_div_eq_div_mul]

theorem bitRun_crc (zs : List Int) (hz : ∀ z ∈ zs, 0 ≤ z ∧ z < 256) (k : Nat) (hk : k ≤ zs.length) : bitRun zs (8 * k) = crcRun 4294967295 (zs.take k) := by
  induction k with
  | zero => rfl
  | succ k ih =>
    have h := bitRun_byte zs k 8 (by omega)
    have hc := hz _ (getD_mem (l := zs) (k := k) (by omega))
    rw [show (zs.getD k 0).toNat / 2 ^ 8 = 0 from by omega, Nat.xor_zero] at h
    rw [show 8 * (k + 1) = 8 * k + 8 from by omega, h, take_snoc zs k (by omega), crcRun_snoc, ih (by omega)]

end Go.Proofs.Ytmbjdegfgidadaa

namespace Go.Proofs.Ytmbjdegfgidadaa
open Go.RowKit

theorem owned_form {w : World} {base : Nat} {v : Value} {n : Nat} {zs : List Int} (h : w.ownsRow base 5 1 v n (byteVals zs)) (hn : 0 < n) :
    ∃ g cap, v = .slice (some ⟨g, 0, none⟩) n cap ∧ base ≤ g ∧ n ≤ cap ∧ cap ≤ maxLen ∧ ∀ j, j < n → w.cell? ⟨g, j, none⟩ = some (.int .u8 (zs.getD j 0)) := by
  have hl : zs.length = n := by have := h.1; simpa [byteVals] using this
  rcases h.2 with ⟨rfl, rfl⟩ | ⟨g, cap, cur, rfl, hb, hg, hnc, hcm, hcs, ht⟩
  · omega
  · refine ⟨g, cap, rfl, hb, hnc, hcm, fun j hj => ?_⟩
    have := h.cellAt j (by omega)
    rw [this]
    simp [byteVals, show j < zs.length by omega]

/-- A copy with its two marks. -/
def Kpt (w : World) (g len cap : Nat) (zs : List Int) : Prop :=
  zs.length = len ∧ (∀ z ∈ zs, 0 ≤ z ∧ z < 256) ∧ len + 2 ≤ cap ∧ cap ≤ maxLen ∧ ∀ j, j < len + 2 → w.cell? ⟨g, j, none⟩ = some (.int .u8 ((zs ++ [165, 90]).getD j 0))

theorem Kpt.later {w w' : World} {g len cap : Nat} {zs : List Int} (h : Kpt w g len cap zs) (hb : Below w.heap.size w w') : Kpt w' g len cap zs :=
  ⟨h.1, h.2.1, h.2.2.1, h.2.2.2.1, fun j hj => cell_later hb (h.2.2.2.2 j hj)⟩

theorem Kpt.bs {w : World} {g len cap : Nat} {zs : List Int} (h : Kpt w g len cap zs) : Bs w (some ⟨g, 0, none⟩) len zs := by
  obtain ⟨h1, h2, _, _, h5⟩ := h
  refine ⟨h1, h2, fun _ => ⟨g, 0, rfl, fun i hi => ?_⟩⟩
  rw [Nat.zero_add, h5 i (by omega)]
  simp [List.getD_eq_getElem?_getD, List.getElem?_append, show i < zs.length by omega]

theorem bs_two (w : World) : Bs (w.alloc (.cells #[.int .u8 165, .int .u8 90] 5)) (some ⟨w.heap.size, 0, none⟩) 2 [165, 90] := bs_new w [165, 90] (0, 0) (by decide)

theorem copy_end {w : World} {base : Nat} {v : Value} {len : Nat} {zs : List Int} (h : w.ownsRow base 5 1 v (0 + len + 2) ([] ++ byteVals zs ++ byteVals [165, 90])) :
    ∃ g cap, v = .slice (some ⟨g, 0, none⟩) (len + 2) cap ∧ len + 2 ≤ cap ∧ cap ≤ maxLen ∧ ∀ j, j < len + 2 → w.cell? ⟨g, j, none⟩ = some (.int .u8 ((zs ++ [165, 90]).getD j 0)) := by
  have e : [] ++ byteVals zs ++ byteVals [165, 90] = byteVals (zs ++ [165, 90]) := by simp [byteVals]
  rw [e, Nat.zero_add] at h
  obtain ⟨g, cap, hv, _, h2, h3, h4⟩ := owned_form h (by omega)
  exact ⟨g, cap, hv, h2, h3, h4⟩

set_option maxHeartbeats 400000 in
theorem copy_any (a : Option Addr) (len cap : Nat) (zs : List Int) (w : World) (hb : Bs w a len zs) (hm : len ≤ 1000000) :
    Calls Try.prog 8 #[.slice a len cap] w fun e w' => ∃ g cap', e = .returned (.slice (some ⟨g, 0, none⟩) len cap') ∧ Kpt w' g len cap' zs ∧ Below w.heap.size w w' := by
  obtain ⟨i0, hi, hz0, hz1, hz2⟩ := info_parts info5
  obtain ⟨w1, hmk, hown0, hg0⟩ := run_make_own (P := Try.prog) w w.heap.size 22 5 i0 (.int .u8 0) 1 Try.underlying22 hi hz0 hz1 .i64 .i64 (len + 2) (by rw [hz2]; omega) (by unfold maxLen; omega) (Nat.le_refl _)
  have ec : ((len + 2 : Nat) : Int) = (len : Int) + 2 := by omega
  rw [ec] at hmk
  have hb1 : Below w.heap.size w w1 := (Below.refl _ _).grown hg0 (Nat.le_refl _) (fun k e => by cases e)
  have hbs1 := hb.later hb1
  clear ec hi hz0 hz1 hz2 hg0
  go_enter Try.func8, Try.ntmps8
  go_wp2_with (first
    | (at_builtin; refine wpList_append_bs rfl (.tmp 6) (.tmp 7) rfl w.heap.size (.slice (some ⟨w.heap.size, 0, none⟩) 0 (len + 2)) 0 [] rfl hown0 a len cap zs rfl hbs1 (by omega) hb1.size ?_; intro v2 w2 hown2 hg2; have hb2 := hb1.grown hg2 hb1.size (fun k e => (hown0.lt k e).1); clear hown0 hg2)
    | (at_builtin; refine wpList_append_bs rfl (.tmp 8) (.tmp 9) rfl w.heap.size v2 (0 + len) ([] ++ byteVals zs) rfl (hown2.alloc _) _ 2 2 [165, 90] rfl (bs_two _) (by omega) (by have := hb2.size; simp; omega) ?_; intro v3 w3 hown3 hg3; have hb3 := below_app hb2 (Nat.le_refl _) hown2 hg3; have hx3 := copy_end hown3; obtain ⟨g, cap3, hv3, hcap3, hm3, hc3⟩ := hx3; clear hown2 hg3 hown3))
  go_ret
  exact ⟨g, cap3, rfl, ⟨hb.1, hb.2.1, hcap3, hm3, hc3⟩, hb3⟩

set_option maxHeartbeats 400000 in
theorem kept_any (g len cap : Nat) (a : Option Addr) (cap' : Nat) (zs : List Int) (w : World) (hk : Kpt w g len cap zs) (hb : Bs w a len zs) :
    Calls Try.prog 16 #[.slice (some ⟨g, 0, none⟩) len cap, .slice a len cap'] w fun e w' => e = .returned (.bool true) ∧ w' = w := by
  have k1 := conv_bs hk.bs cap
  have k2 := conv_bs hb cap'
  obtain ⟨h1, h2, h3, h4, h5⟩ := hk
  unfold maxLen at h4
  have c1 : w.cell? ⟨g, len, none⟩ = some (.int .u8 165) := by
    have := h5 len (by omega)
    simpa [List.getD_eq_getElem?_getD, List.getElem?_append, h1] using this
  have c2 : w.cell? ⟨g, len + 1, none⟩ = some (.int .u8 90) := by
    have := h5 (len + 1) (by omega)
    simpa [List.getD_eq_getElem?_getD, List.getElem?_append, h1] using this
  clear h5
  go_enter Try.func16, Try.ntmps16
  go_wp2
  go_ret
  exact ⟨rfl, rfl⟩

theorem more_sum (x y : List Int) (hx : ∀ z ∈ x, 0 ≤ z ∧ z < 256) : 4294967295 - crcRun (4294967295 - crcSum x) y = crcSum (x ++ y) := by
  have h := crcRun_lt 4294967295 x (by omega) hx
  unfold crcSum
  rw [show 4294967295 - (4294967295 - crcRun 4294967295 x) = crcRun 4294967295 x from by omega, crcRun_append]

theorem crcSum_lt (x : List Int) : crcSum x < 4294967296 := by unfold crcSum; omega

theorem ownsRow_empty (w : World) (base : Nat) (hb : base ≤ w.heap.size) : (w.alloc (.cells #[] 5)).ownsRow base 5 1 (.slice (some ⟨w.heap.size, 0, none⟩) 0 0) 0 [] :=
  World.ownsRow_lit w #[] 0 hb (Nat.zero_le _) rfl

theorem parts_new1 (w : World) {a1 : Option Addr} {l1 c1 : Nat} {z1 : List Int} (k1 : Bs w a1 l1 z1) (m1 : l1 ≤ maxLen) : Parts (w.alloc (.cells #[.slice a1 l1 c1] 22)) (some ⟨w.heap.size, 0, none⟩) 1 [z1] :=
  parts_one (c1 := c1) (by rw [World.cell?_alloc_mark]; rfl) m1 (k1.later (below_one _ _))

theorem parts_new2 (w : World) {a1 a2 : Option Addr} {l1 c1 l2 c2 : Nat} {z1 z2 : List Int} (k1 : Bs w a1 l1 z1) (m1 : l1 ≤ maxLen) (k2 : Bs w a2 l2 z2) (m2 : l2 ≤ maxLen) :
    Parts (w.alloc (.cells #[.slice a1 l1 c1, .slice a2 l2 c2] 22)) (some ⟨w.heap.size, 0, none⟩) 2 [z1, z2] :=
  parts_two (c1 := c1) (c2 := c2) (by rw [World.cell?_alloc_mark]; rfl) m1 (k1.later (below_one _ _)) (by rw [World.cell?_alloc_mark]; rfl) m2 (k2.later (below_one _ _))
end Go.Proofs.Ytmbjdegfgidadaa

namespace Go.Proofs.Ytmbjdegfgidadaa
open Go.Shelf
def lays137_ren : Go.Shelf.Ren := ⟨fun | 137 => 31 | 217 => 33 | 266 => 35 | n => n, fun | 9 => 9 | 5 => 5 | 3 => 3 | n => n, fun | n => n⟩
theorem lays137 : Go.Proofs.Lays.n137 Try.prog lays137_ren := {
  mixed := by kernel_rfl
  f137 := Try.func31.trans (congrArg some (by kernel_rfl))
  f217 := Try.func33.trans (congrArg some (by kernel_rfl))
  f266 := Try.func35.trans (congrArg some (by kernel_rfl))
  t3 := Try.underlying3
  a3 := Try.isAgg3
  z3 := Try.sizeOf3
  v3 := Try.zeroValue3
  t5 := Try.underlying5
  a5 := Try.isAgg5
  z5 := Try.sizeOf5
  v5 := Try.zeroValue5
  t9 := Try.underlying9
  a9 := Try.isAgg9
  z9 := Try.sizeOf9
  v9 := Try.zeroValue9 }
def lays102_ren : Go.Shelf.Ren := ⟨fun | 102 => 27 | 209 => 32 | 207 => 34 | n => n, fun | 9 => 9 | 4 => 4 | 3 => 3 | n => n, fun | n => n⟩
theorem lays102 : Go.Proofs.Lays.n102 Try.prog lays102_ren := {
  mixed := by kernel_rfl
  f102 := Try.func27.trans (congrArg some (by kernel_rfl))
  f207 := Try.func34.trans (congrArg some (by kernel_rfl))
  f209 := Try.func32.trans (congrArg some (by kernel_rfl))
  t3 := Try.underlying3
  a3 := Try.isAgg3
  z3 := Try.sizeOf3
  v3 := Try.zeroValue3
  t4 := Try.underlying4
  a4 := Try.isAgg4
  z4 := Try.sizeOf4
  v4 := Try.zeroValue4
  t9 := Try.underlying9
  a9 := Try.isAgg9
  z9 := Try.sizeOf9
  v9 := Try.zeroValue9 }
open Go.RowKit in
/-- strings.IndexByte: "IndexByte returns the index of the first instance of c in s, or -1 if c is not present in s.": IT RETURNS 'Lib.indexByte s c'; the world is as it was. (LAID: no walk: one application.) -/
theorem strings_IndexByte (s : ByteArray) (c : Int) (w : World) :
    Calls Try.prog 31 #[.string s, .int .u8 c] w fun e w' => e = .returned (.int .i64 (Lib.indexByte s.data.toList c.toNat.toUInt8)) ∧ w' = w := Any.strings_IndexByte lays137 s c w
open Go.RowKit Go.Lib in
/-- strings.TrimSuffix: "TrimSuffix returns s without the provided trailing suffix string. If s doesn't end with suffix, s is returned unchanged.": IT RETURNS 'Lib.trimSuffix s suffix'; the world is as it was. (LAID: no walk: one application.) -/
theorem strings_TrimSuffix (s p : ByteArray) (w : World) (hs : s.size ≤ 9223372036854775807) :
    Calls Try.prog 27 #[.string s, .string p] w fun e w' => e = .returned (.string ⟨(Lib.trimSuffix s.data.toList p.data.toList).toArray⟩) ∧ w' = w := Any.strings_TrimSuffix lays102 s p w hs
end Go.Proofs.Ytmbjdegfgidadaa

namespace Go.Proofs.Ytmbjdegfgidadaa
open Go.RowKit

/-- All are bytes. -/
def Byt (l : List Int) : Prop := ∀ z ∈ l, 0 ≤ z ∧ z < 256

def hxS (n : Int) : Int := if n < 10 then 48 + n else 87 + n
def sxS (n : Int) : Int := if n < 26 then 65 + n else if n < 52 then 71 + n else if n < 62 then n - 4 else if n = 62 then 43 else 47

def hexC : ByteArray := ⟨#[48, 49, 50, 51, 52, 53, 54, 55, 56, 57, 97, 98, 99, 100, 101, 102]⟩
def sixC : ByteArray := ⟨#[65, 66, 67, 68, 69, 70, 71, 72, 73, 74, 75, 76, 77, 78, 79, 80, 81, 82, 83, 84, 85, 86, 87, 88, 89, 90, 97, 98, 99, 100, 101, 102, 103, 104, 105, 106, 107, 108, 109, 110, 111, 112, 113, 114, 115, 116, 117, 118, 119, 120, 121, 122, 48, 49, 50, 51, 52, 53, 54, 55, 56, 57, 43, 47]⟩

/-- The figures of bytes. -/
def hexE : List Int → List Int
  | [] => []
  | c :: r => hxS (c / 16) :: hxS (c % 16) :: hexE r

/-- The signs of bytes, with what is held of the byte ahead (0, 2 or 4 bits). -/
inductive Hv where | z | two (h : Int) | four (h : Int)
def sp6 : Hv → List Int → List Int
  | .z, [] => []
  | .two h, [] => [sxS (h * 16)]
  | .four h, [] => [sxS (h * 4)]
  | .z, c :: r => sxS (c / 4) :: sp6 (.two (c % 4)) r
  | .two h, c :: r => sxS ((h * 256 + c) / 16) :: sp6 (.four (c % 16)) r
  | .four h, c :: r => sxS ((h * 256 + c) / 64) :: sxS (c % 64) :: sp6 .z r

theorem hxS_byte {n : Int} (h : 0 ≤ n) (h1 : n < 16) : 0 ≤ hxS n ∧ hxS n < 256 := by unfold hxS; split <;> omega
theorem sxS_byte {n : Int} (h : 0 ≤ n) (h1 : n < 64) : 0 ≤ sxS n ∧ sxS n < 256 := by unfold sxS; split <;> (try split) <;> (try split) <;> (try split) <;> omega

theorem wrap_small (n : Nat) (h : n < 9223372036854775808) : IntKind.i64.wrap (n : Int) = (n : Int) := by
  have e : (n : Int) % 2 ^ 64 = n := Int.emod_eq_of_lt (by omega) (by omega)
  simp only [IntKind.wrap, IntKind.bits, IntKind.signed, e]
  rw [if_neg]
  simp
  omega
theorem ofInt_nat (i : Nat) (h : i < 18446744073709551616) : (BitVec.ofInt 64 (i : Int)).toNat = i := by
  simp only [BitVec.toNat_ofInt]; omega
theorem or_i (a b k : Nat) (h : b < 2 ^ k) (hs : a * 2 ^ k + b < 9223372036854775808) : bits .or .i64 ((a * 2 ^ k : Nat) : Int) (b : Int) = ((a * 2 ^ k + b : Nat) : Int) := by
  show IntKind.i64.wrap ((BitVec.ofInt 64 ((a * 2 ^ k : Nat) : Int) ||| BitVec.ofInt 64 (b : Int)).toNat : Int) = _
  rw [BitVec.toNat_or, ofInt_nat _ (by omega), ofInt_nat _ (by omega), Nat.mul_comm a, ← Nat.two_pow_add_eq_or_of_lt h, Nat.mul_comm]
  exact wrap_small _ hs
theorem and_i (a k : Nat) (ha : a < 9223372036854775808) (hk : 2 ^ k ≤ 9223372036854775808) : bits .and .i64 (a : Int) ((2 ^ k - 1 : Nat) : Int) = ((a % 2 ^ k : Nat) : Int) := by
  show IntKind.i64.wrap ((BitVec.ofInt 64 (a : Int) &&& BitVec.ofInt 64 ((2 ^ k - 1 : Nat) : Int)).toNat : Int) = _
  rw [BitVec.toNat_and, ofInt_nat _ (by omega), ofInt_nat _ (by omega), Nat.and_two_pow_sub_one_eq_mod]
  exact wrap_small _ (Nat.lt_of_le_of_lt (Nat.mod_le _ _) ha)

theorem stopAt {p : Prop} (h : Hid p) : p := h.out
theorem hexC_at (n : Nat) (h : n < hexC.size) : (((hexC[n]'h).toNat : Nat) : Int) = hxS n := by
  have : ∀ n : Fin 16, ((hexC[n.1]'n.2).toNat : Int) = hxS n.1 := by decide
  exact this ⟨n, h⟩
theorem sixC_at (n : Nat) (h : n < sixC.size) : (((sixC[n]'h).toNat : Nat) : Int) = sxS n := by
  have : ∀ n : Fin 64, ((sixC[n.1]'n.2).toNat : Int) = sxS n.1 := by decide
  exact this ⟨n, h⟩
theorem hexC_z : hexC.size = 16 := by decide
theorem sixC_z : sixC.size = 64 := by decide
theorem u8b (u : UInt8) : (0 : Int) ≤ ((u.toNat : Nat) : Int) ∧ ((u.toNat : Nat) : Int) < 256 := by have := u.toNat_lt; omega
theorem byteVals_app (a b : List Int) : byteVals a ++ byteVals b = byteVals (a ++ b) := by simp [byteVals]

/-- How long a slice is. -/
def slN : Value → Nat
  | .slice _ n _ => n
  | _ => 0
theorem own_slN {w : World} {B u : Nat} {v : Value} {n : Nat} {xs : List Value} (h : w.ownsRow B u 1 v n xs) : slN v = n := by
  rcases h.2 with ⟨rfl, rfl⟩ | ⟨g, cap, cur, rfl, _⟩ <;> rfl

theorem hexE_len : ∀ l, (hexE l).length = 2 * l.length
  | [] => rfl
  | c :: r => by simp [hexE, hexE_len r]; omega
theorem hexE_byt : ∀ l, Byt l → Byt (hexE l)
  | [], _ => by intro z hz; simp [hexE] at hz
  | c :: r, h => by
    intro z hz
    have hc := h c (by simp)
    simp only [hexE, List.mem_cons] at hz
    rcases hz with rfl | rfl | hz
    · exact hxS_byte (by omega) (by omega)
    · exact hxS_byte (by omega) (by omega)
    · exact hexE_byt r (fun z hz => h z (by simp [hz])) z hz
theorem hexE_app : ∀ a b, hexE (a ++ b) = hexE a ++ hexE b
  | [], b => rfl
  | c :: r, b => by simp [hexE, hexE_app r b]
end Go.Proofs.Ytmbjdegfgidadaa

namespace Go.Proofs.Ytmbjdegfgidadaa
open Go.RowKit

set_option maxHeartbeats 1000000 in
theorem spread4 (a : Option Addr) (len cap : Nat) (zs : List Int) (w : World) (hb : Bs w a len zs) (hm : len ≤ 1000000) :
    Calls Try.prog 25 #[.slice a len cap, .int .i64 4, .string hexC] w fun e w' => ∃ v, e = .returned v ∧ w'.ownsRow w.heap.size 5 1 v (2 * len) (byteVals (hexE zs)) ∧ Below w.heap.size w w' := by
  obtain ⟨hz, hby, hc⟩ := hb
  go_enter Try.func25, Try.ntmps25
  go_wp2
  go_loopw [7, 8, 9, 14] (fun v h k i wr => ∃ j : Nat, j ≤ len ∧ i = .int .i64 j ∧ h = .int .i64 0 ∧ k = .int .i64 0 ∧ wr.ownsRow w.heap.size 5 1 v (2 * j) (byteVals (hexE (zs.take j))) ∧ Below w.heap.size w wr) (fun _ _ _ i _ => len - (intOf i).toNat)
  case atStart => exact ⟨0, by omega, rfl, rfl, rfl, ⟨rfl, .inl ⟨rfl, rfl⟩⟩, Below.refl _ _⟩
  case round =>
    obtain ⟨j, hj, rfl, rfl, rfl, ho, hw⟩ := hrel
    by_cases hlt : j < len
    · obtain ⟨b', off, rfl, hcell⟩ := hc (by omega)
      have hck := cell_later hw (hcell j hlt)
      have hbk := hby _ (getD_mem (l := zs) (k := j) (by omega))
      have hts := hide1 (take_snoc zs j (by omega))
      generalize hcc : zs.getD j 0 = c at *
      obtain ⟨c, rfl⟩ := Int.eq_ofNat_of_zero_le hbk.1
      have hc256 : c < 256 := by omega
      clear hcc hc hcell hbk
      have Hor := hide1 (or_i 0 c 8 (by omega) (by omega))
      go_wp2_with fail
      have H1 : bits .or .i64 0 (c : Int) = (c : Int) := by have := Hor.out; simpa using this
      rw [H1]
      refine wp_loop_rounds 3 ?_
      rw [rounds_succ]
      have Han := hide1 (and_i c 4 (by omega) (by omega))
      have hZ := hexC_z
      have Hg := hide1 (hexC_at (c / 16) (by rw [hexC_z]; omega))
      go_wp2_with (at_builtin; refine wpList_append_bs rfl (.tmp 31) (.tmp 37) rfl w.heap.size _ _ _ rfl (ho.alloc _) _ 1 1 _ rfl (bs_one _ _ (u8b _)) (by omega) (by have := hw.size; simp; omega) ?_; intro v1 w1 ho1 hg1; have hw1 := below_app hw (Nat.le_refl _) ho hg1; refine stopAt ?_)
      refine hide1 ?_
      rw [Hg.out] at ho1
      clear ho hg1 hck
      go_wp2_with fail
      have H2 : bits .and .i64 (c : Int) 15 = ((c % 16 : Nat) : Int) := Han.out
      rw [H2, rounds_succ]
      have hd16 : c % 16 < 16 := Nat.mod_lt _ (by decide)
      have Hdc : Hid (((c % 16 : Nat) : Int) = (c : Int) % 16) := hide1 (by omega)
      have H3 : bits .and .i64 ((c % 16 : Nat) : Int) 0 = 0 := by have := and_i (c % 16) 0 (by omega) (by omega); rw [Nat.pow_zero, Nat.mod_one] at this; exact this
      clear H2 Han
      generalize c % 16 = d at *
      have Hg2 := hide1 (hexC_at d (by rw [hexC_z]; omega))

      go_wp2_with (at_builtin; refine wpList_append_bs rfl (.tmp 31) (.tmp 37) rfl w.heap.size _ _ _ rfl (ho1.alloc _) _ 1 1 _ rfl (bs_one _ _ (u8b _)) (by omega) (by have := hw1.size; simp; omega) ?_; intro v2 w2 ho2 hg2; have hw2 := below_app hw1 (Nat.le_refl _) ho1 hg2; refine stopAt ?_)
      refine hide1 ?_
      rw [Hg2.out] at ho2
      clear ho1 hg2 hw1
      go_wp2_with fail
      rw [rounds_succ]
      go_wp2_with fail
      go_roundw
      case rel =>
        refine ⟨j + 1, by omega, by go_num, rfl, rfl, ?_, hw2⟩
        rw [hts.out, hexE_app]
        rw [byteVals_app, byteVals_app, List.append_assoc] at ho2
        simp only [hexE]
        rw [← Hdc.out]
        exact ho2
      case measure => simp [intOf]; omega
    · go_wp2
      go_ret
      refine ⟨_, rfl, ?_, hw⟩
      obtain rfl : j = len := by omega
      rwa [List.take_of_length_le (by omega)] at ho
end Go.Proofs.Ytmbjdegfgidadaa

namespace Go.Proofs.Ytmbjdegfgidadaa
open Go.RowKit

/-- What is held between two bytes. -/
def HvI : Hv → Value → Value → Prop
  | .z, h, k => h = .int .i64 0 ∧ k = .int .i64 0
  | .two x, h, k => ∃ y : Nat, x = y ∧ y < 4 ∧ h = .int .i64 y ∧ k = .int .i64 2
  | .four x, h, k => ∃ y : Nat, x = y ∧ y < 16 ∧ h = .int .i64 y ∧ k = .int .i64 4
theorem drop_cons (l : List Int) (k : Nat) (h : k < l.length) : l.drop k = l.getD k 0 :: l.drop (k + 1) := by
  rw [List.drop_eq_getElem_cons h]; simp [List.getD_eq_getElem?_getD, h]

set_option maxHeartbeats 4000000 in
theorem spread6 (a : Option Addr) (len cap : Nat) (zs : List Int) (w : World) (hb : Bs w a len zs) (hm : len ≤ 1000000) :
    Calls Try.prog 25 #[.slice a len cap, .int .i64 6, .string sixC] w fun e w' => ∃ v, e = .returned v ∧ w'.ownsRow w.heap.size 5 1 v (sp6 .z zs).length (byteVals (sp6 .z zs)) ∧ Below w.heap.size w w' := by
  obtain ⟨hz, hby, hc⟩ := hb
  have hZ := sixC_z
  go_enter Try.func25, Try.ntmps25
  go_wp2
  go_loopw [7, 8, 9, 14] (fun v h k i wr => ∃ j : Nat, j ≤ len ∧ i = .int .i64 j ∧ ∃ st out n, HvI st h k ∧ sp6 .z zs = out ++ sp6 st (zs.drop j) ∧ n = out.length ∧ n ≤ 2 * j ∧ wr.ownsRow w.heap.size 5 1 v n (byteVals out) ∧ Below w.heap.size w wr) (fun _ _ _ i _ => len - (intOf i).toNat)
  case atStart => exact ⟨0, by omega, rfl, .z, [], 0, ⟨rfl, rfl⟩, by simp, rfl, by omega, ⟨rfl, .inl ⟨rfl, rfl⟩⟩, Below.refl _ _⟩
  case round =>
    obtain ⟨j, hj, rfl, st, out, n, hI, hS, hn, hn2, ho, hw⟩ := hrel
    by_cases hlt : j < len
    · obtain ⟨b', off, rfl, hcell⟩ := hc (by omega)
      have hck := cell_later hw (hcell j hlt)
      have hbk := hby _ (getD_mem (l := zs) (k := j) (by omega))
      rw [drop_cons zs j (by omega)] at hS
      generalize hcc : zs.getD j 0 = c at *
      obtain ⟨c, rfl⟩ := Int.eq_ofNat_of_zero_le hbk.1
      have hc256 : c < 256 := by omega
      clear hcc hc hcell hbk
      have hS := hide1 hS
      have hn := hide1 hn
      rcases st with _ | x | x
      · obtain ⟨rfl, rfl⟩ := hI
        have Hor := hide1 (or_i 0 c 8 (by omega) (by omega))
        go_wp2_with fail
        have H1 : bits .or .i64 0 (c : Int) = (c : Int) := by have := Hor.out; simpa using this
        rw [H1]
        clear H1 Hor
        refine wp_loop_rounds 3 ?_
        rw [rounds_succ]
        have Han : Hid (bits .and .i64 (c : Int) 3 = ((c % 4 : Nat) : Int)) := hide1 (and_i c 2 (by omega) (by omega))
        have Hg1 := hide1 (sixC_at (c / 4) (by rw [sixC_z]; omega))
        go_wp2_with (at_builtin; refine wpList_append_bs rfl (.tmp 31) (.tmp 37) rfl w.heap.size _ _ _ rfl (ho.alloc _) _ 1 1 _ rfl (bs_one _ _ (u8b _)) (by omega) (by have := hw.size; simp; omega) ?_; intro v1 w1 ho1 hg1; have hw1 := below_app hw (Nat.le_refl _) ho hg1; refine stopAt ?_)
        refine hide1 ?_
        rw [Hg1.out, byteVals_app] at ho1
        clear hck ho hg1
        go_wp2_with fail
        rw [Han.out, rounds_succ]
        go_wp2_with fail
        go_roundw
        case rel =>
          refine ⟨j + 1, by omega, by go_num, .two (c % 4), out ++ [sxS ((c / 4 : Nat) : Int)], _, ⟨c % 4, by omega, by omega, rfl, rfl⟩, ?_, by simp [hn.out], ?_, ho1, hw1⟩
          · rw [hS.out]; simp [sp6]
          · omega
        case measure => simp [intOf]; omega
      · obtain ⟨y, rfl, hy, rfl, rfl⟩ := hI
        have Hor := hide1 (or_i y c 8 (by omega) (by omega))
        go_wp2_with fail
        have H1 : bits .or .i64 ((y : Int) * 256) (c : Int) = ((y * 256 + c : Nat) : Int) := by have := Hor.out; simpa using this
        rw [H1]
        clear H1 Hor
        have HX : Hid (((y * 256 + c : Nat) : Int) = (y : Int) * 256 + c ∧ (y * 256 + c) % 16 = c % 16) := hide1 ⟨by omega, by omega⟩
        have hX : y * 256 + c < 1024 := by omega
        generalize y * 256 + c = X at *
        refine wp_loop_rounds 3 ?_
        rw [rounds_succ]
        have Han : Hid (bits .and .i64 (X : Int) 15 = ((X % 16 : Nat) : Int)) := hide1 (and_i X 4 (by omega) (by omega))
        have Hg1 := hide1 (sixC_at (X / 16) (by rw [sixC_z]; omega))
        go_wp2_with (at_builtin; refine wpList_append_bs rfl (.tmp 31) (.tmp 37) rfl w.heap.size _ _ _ rfl (ho.alloc _) _ 1 1 _ rfl (bs_one _ _ (u8b _)) (by omega) (by have := hw.size; simp; omega) ?_; intro v1 w1 ho1 hg1; have hw1 := below_app hw (Nat.le_refl _) ho hg1; refine stopAt ?_)
        refine hide1 ?_
        rw [Hg1.out, byteVals_app] at ho1
        clear hck ho hg1
        go_wp2_with fail
        rw [Han.out, HX.out.2, rounds_succ]
        go_wp2_with fail
        go_roundw
        case rel =>
          refine ⟨j + 1, by omega, by go_num, .four (c % 16), out ++ [sxS ((X / 16 : Nat) : Int)], _, ⟨c % 16, by omega, by omega, rfl, rfl⟩, ?_, by simp [hn.out], ?_, ho1, hw1⟩
          · rw [hS.out]; simp [sp6]; rw [← HX.out.1]
          · omega
        case measure => simp [intOf]; omega
      · obtain ⟨y, rfl, hy, rfl, rfl⟩ := hI
        have Hor := hide1 (or_i y c 8 (by omega) (by omega))
        go_wp2_with fail
        have H1 : bits .or .i64 ((y : Int) * 256) (c : Int) = ((y * 256 + c : Nat) : Int) := by have := Hor.out; simpa using this
        rw [H1]
        clear H1 Hor
        have HX : Hid (((y * 256 + c : Nat) : Int) = (y : Int) * 256 + c ∧ (y * 256 + c) % 64 = c % 64) := hide1 ⟨by omega, by omega⟩
        have hX : y * 256 + c < 4096 := by omega
        generalize y * 256 + c = X at *
        refine wp_loop_rounds 3 ?_
        rw [rounds_succ]
        have Han : Hid (bits .and .i64 (X : Int) 63 = ((X % 64 : Nat) : Int)) := hide1 (and_i X 6 (by omega) (by omega))
        have Hg1 := hide1 (sixC_at (X / 64) (by rw [sixC_z]; omega))
        go_wp2_with (at_builtin; refine wpList_append_bs rfl (.tmp 31) (.tmp 37) rfl w.heap.size _ _ _ rfl (ho.alloc _) _ 1 1 _ rfl (bs_one _ _ (u8b _)) (by omega) (by have := hw.size; simp; omega) ?_; intro v1 w1 ho1 hg1; have hw1 := below_app hw (Nat.le_refl _) ho hg1; refine stopAt ?_)
        refine hide1 ?_
        rw [Hg1.out, byteVals_app] at ho1
        clear hck ho hg1
        go_wp2_with fail
        rw [Han.out, HX.out.2, rounds_succ]
        have hd : c % 64 < 64 := Nat.mod_lt _ (by decide)
        have Hdc : Hid (((c % 64 : Nat) : Int) = (c : Int) % 64) := hide1 (by omega)
        clear Han
        have HX1 := hide1 HX.out.1
        clear HX
        generalize c % 64 = d at *
        have H3 : bits .and .i64 (d : Int) 0 = 0 := by have := and_i d 0 (by omega) (by omega); rw [Nat.pow_zero, Nat.mod_one] at this; exact this
        have Hg2 := hide1 (sixC_at d (by rw [sixC_z]; omega))
        go_wp2_with (at_builtin; refine wpList_append_bs rfl (.tmp 31) (.tmp 37) rfl w.heap.size _ _ _ rfl (ho1.alloc _) _ 1 1 _ rfl (bs_one _ _ (u8b _)) (by omega) (by have := hw1.size; simp; omega) ?_; intro v2 w2 ho2 hg2; have hw2 := below_app hw1 (Nat.le_refl _) ho1 hg2; refine stopAt ?_)
        refine hide1 ?_
        rw [Hg2.out, byteVals_app] at ho2
        clear hw ho1 hg2
        go_wp2_with fail
        rw [rounds_succ]
        go_wp2_with fail
        go_roundw
        case rel =>
          refine ⟨j + 1, by omega, by go_num, .z, out ++ [sxS ((X / 64 : Nat) : Int)] ++ [sxS (d : Int)], _, ⟨rfl, rfl⟩, ?_, by simp [hn.out], ?_, ho2, hw2⟩
          · rw [hS.out]; simp [sp6]; rw [← HX1.out, ← Hdc.out]; simp
          · omega
        case measure => simp [intOf]; omega
    · obtain rfl : j = len := by omega
      rw [List.drop_of_length_le (by omega)] at hS
      have hS := hide1 hS
      have hn := hide1 hn
      rcases st with _ | x | x
      · obtain ⟨rfl, rfl⟩ := hI
        go_wp2
        go_ret
        refine ⟨_, rfl, ?_, hw⟩
        rw [hS.out]; simp only [sp6, List.append_nil]; rw [← hn.out]; exact ho
      · obtain ⟨y, rfl, hy, rfl, rfl⟩ := hI
        have Hg1 := hide1 (sixC_at (y * 16) (by rw [sixC_z]; omega))
        go_wp2_with (at_builtin; refine wpList_append_bs rfl (.tmp 47) (.tmp 55) rfl w.heap.size _ _ _ rfl (ho.alloc _) _ 1 1 _ rfl (bs_one _ _ (u8b _)) (by omega) (by have := hw.size; simp; omega) ?_; intro v1 w1 ho1 hg1; have hw1 := below_app hw (Nat.le_refl _) ho hg1; refine stopAt ?_)
        refine hide1 ?_
        rw [Hg1.out, byteVals_app] at ho1
        clear hc ho hg1
        go_wp2_with fail
        go_ret
        refine ⟨_, rfl, ?_, hw1⟩
        rw [hS.out]; simp only [sp6, List.length_append, List.length_cons, List.length_nil]; rw [← hn.out]; simpa using ho1
      · obtain ⟨y, rfl, hy, rfl, rfl⟩ := hI
        have Hg1 := hide1 (sixC_at (y * 4) (by rw [sixC_z]; omega))
        go_wp2_with (at_builtin; refine wpList_append_bs rfl (.tmp 47) (.tmp 55) rfl w.heap.size _ _ _ rfl (ho.alloc _) _ 1 1 _ rfl (bs_one _ _ (u8b _)) (by omega) (by have := hw.size; simp; omega) ?_; intro v1 w1 ho1 hg1; have hw1 := below_app hw (Nat.le_refl _) ho hg1; refine stopAt ?_)
        refine hide1 ?_
        rw [Hg1.out, byteVals_app] at ho1
        clear hc ho hg1
        go_wp2_with fail
        go_ret
        refine ⟨_, rfl, ?_, hw1⟩
        rw [hS.out]; simp only [sp6, List.length_append, List.length_cons, List.length_nil]; rw [← hn.out]; simpa using ho1
end Go.Proofs.Ytmbjdegfgidadaa

namespace Go.Proofs.Ytmbjdegfgidadaa
open Go.RowKit

theorem wpList_fill {w : World} {ops : Array Oper} {rest : List Oper} {o : Oper} {a : Act} {Q : Exit → Act → World → Prop} (hgd : o.guard = none) (s : Operand)
    (ho : o.op = .call { callee := .builtin .append, args := #[s, .const (.string ⟨#[61]⟩)], argTypes := #[22, 9] }) (base : Nat)
    (v : Value) (n : Nat) (xs : List Value) (hs : a.eval s = v) (hown : w.ownsRow base 5 1 v n xs)
    (hbytes : n + 1 ≤ 140737488355328) (hbase : base ≤ w.heap.size)
    (h : ∀ v' w', w'.ownsRow base 5 1 v' (n + 1) (xs ++ byteVals [61]) → w.grownBy w' v.ownBlock → wpList Try.prog ops Q rest (a.put o.dst v') w') : wpList Try.prog ops Q (o :: rest) a w := by
  refine wpList_plain hgd fun K hK => ?_
  obtain ⟨i0, hi, hz0, hz1, hz2⟩ := info_parts info5
  obtain ⟨v', w', hr, h2, h3, _⟩ := Go.Lib.run_append_own_string (P := Try.prog) w base 22 9 o.type 5 i0 Try.underlying22 Try.underlying9 hi hz0 hz1 hz2 v n xs hown ⟨#[61]⟩ (by unfold maxLen; show n + 1 ≤ _; omega) hbytes hbase
  unfold Oper.wp execOp
  have hc : a.eval (.const (.string ⟨#[61]⟩)) = .string ⟨#[61]⟩ := rfl
  simp only [ho, resolve, invoke, builtin, Sem.run_bind, Sem.run_pure, Result.andThen_ok, List.map_toArray, List.map_cons, List.map_nil, hs, hc, hr]
  exact hK _ _ (h v' w' h2 h3)

theorem sp6_byt : ∀ (l : List Int) (st : Hv), Byt l → (match st with | .z => True | .two h => 0 ≤ h ∧ h < 4 | .four h => 0 ≤ h ∧ h < 16) → Byt (sp6 st l)
  | [], .z, _, _ => by intro z hz; simp [sp6] at hz
  | [], .two h, _, hh => by intro z hz; simp only [sp6, List.mem_singleton] at hz; subst hz; exact sxS_byte (by have := hh.1; omega) (by have := hh.2; omega)
  | [], .four h, _, hh => by intro z hz; simp only [sp6, List.mem_singleton] at hz; subst hz; exact sxS_byte (by have := hh.1; omega) (by have := hh.2; omega)
  | c :: r, .z, h, _ => by
    have hc := h c (by simp)
    intro z hz
    simp only [sp6, List.mem_cons] at hz
    rcases hz with rfl | hz
    · exact sxS_byte (by omega) (by omega)
    · exact sp6_byt r (.two (c % 4)) (fun z hz => h z (by simp [hz])) ⟨by omega, by omega⟩ z hz
  | c :: r, .two x, h, hh => by
    have hc := h c (by simp)
    have hh : 0 ≤ x ∧ x < 4 := hh
    intro z hz
    simp only [sp6, List.mem_cons] at hz
    rcases hz with rfl | hz
    · exact sxS_byte (by omega) (by omega)
    · exact sp6_byt r (.four (c % 16)) (fun z hz => h z (by simp [hz])) ⟨by omega, by omega⟩ z hz
  | c :: r, .four x, h, hh => by
    have hc := h c (by simp)
    have hh : 0 ≤ x ∧ x < 16 := hh
    intro z hz
    simp only [sp6, List.mem_cons] at hz
    rcases hz with rfl | rfl | hz
    · exact sxS_byte (by omega) (by omega)
    · exact sxS_byte (by omega) (by omega)
    · exact sp6_byt r .z (fun z hz => h z (by simp [hz])) trivial z hz
theorem sp6_len : ∀ (l : List Int) (st : Hv), (sp6 st l).length ≤ 2 * l.length + 1
  | [], .z => by simp [sp6]
  | [], .two h => by simp [sp6]
  | [], .four h => by simp [sp6]
  | c :: r, .z => by have := sp6_len r (.two (c % 4)); simp [sp6]; omega
  | c :: r, .two x => by have := sp6_len r (.four (c % 16)); simp [sp6]; omega
  | c :: r, .four x => by have := sp6_len r .z; simp [sp6]; omega

def fil : Nat → List Int
  | 1 => [61, 61, 61]
  | 2 => [61, 61]
  | 3 => [61]
  | _ => []
/-- The signs of six bits, filled up. -/
def b64E (l : List Int) : List Int := sp6 .z l ++ fil ((sp6 .z l).length % 4)
theorem fil_byt (n : Nat) : Byt (fil n) := by
  intro z hz
  unfold fil at hz
  split at hz <;> simp at hz <;> omega
theorem b64E_byt (l : List Int) (h : Byt l) : Byt (b64E l) := by
  intro z hz
  rcases List.mem_append.1 hz with h1 | h1
  · exact sp6_byt l .z h trivial z h1
  · exact fil_byt _ z h1
theorem fil_step {k : Nat} (h : k % 4 ≠ 0) : [61] ++ fil ((k + 1) % 4) = fil (k % 4) := by
  rcases (show k % 4 = 1 ∨ k % 4 = 2 ∨ k % 4 = 3 by omega) with e | e | e
  · rw [e, show (k + 1) % 4 = 2 by omega]; rfl
  · rw [e, show (k + 1) % 4 = 3 by omega]; rfl
  · rw [e, show (k + 1) % 4 = 0 by omega]; rfl

set_option maxHeartbeats 400000 in
theorem hex_d (a : Option Addr) (len cap : Nat) (zs : List Int) (w : World) (hb : Bs w a len zs) (hm : len ≤ 1000000) :
    Calls Try.prog 9 #[.slice a len cap] w fun e w' => e = .returned (.string (strOfNums (hexE zs))) ∧ Below w.heap.size w w' := by
  have hby := hexE_byt zs hb.2.1
  go_enter Try.func9, Try.ntmps9
  go_wp2_with fail
  refine (spread4 a len cap zs w hb hm).mono ?_
  rintro e w1 ⟨v, rfl, ho, hw⟩
  obtain ⟨a1, c1, rfl, hb1, _⟩ := bs_owned ho hby
  have k1 := conv_bs hb1 c1
  go_wp2
  go_ret
  exact ⟨rfl, hw⟩

set_option maxHeartbeats 400000 in
theorem base64_d (a : Option Addr) (len cap : Nat) (zs : List Int) (w : World) (hb : Bs w a len zs) (hm : len ≤ 1000000) :
    Calls Try.prog 10 #[.slice a len cap] w fun e w' => e = .returned (.string (strOfNums (b64E zs))) ∧ Below w.heap.size w w' := by
  have hby := b64E_byt zs hb.2.1
  have hl := sp6_len zs .z
  rw [hb.1] at hl
  obtain ⟨B, hB⟩ : ∃ B, Hid (B = b64E zs) := ⟨_, hide1 rfl⟩
  rw [← hB.out] at hby ⊢
  go_enter Try.func10, Try.ntmps10
  go_wp2_with fail
  refine (spread6 a len cap zs w hb hm).mono ?_
  rintro e w1 ⟨v, rfl, ho, hw⟩
  go_wp2_with fail
  have hE : sp6 .z zs ++ fil ((sp6 .z zs).length % 4) = B := hB.out.symm
  generalize sp6 .z zs = P at *
  generalize hn : P.length = n at *
  go_loopw [3] (fun v wr => ∃ (n : Nat) (P : List Int), P.length = n ∧ Hid (P ++ fil (n % 4) = B) ∧ n ≤ 2 * len + 4 ∧ n ≤ 2 * len + 1 + (n + 3) % 4 ∧ wr.ownsRow w.heap.size 5 1 v n (byteVals P) ∧ Below w.heap.size w wr) (fun v _ => 2 * len + 8 - slN v)
  case atStart => exact ⟨n, P, hn, hide1 hE, by omega, by omega, ho, hw⟩
  case round =>
    clear hE hn hl ho hw
    obtain ⟨n, P, hn, hE, hl, hl2, ho, hw⟩ := hrel
    by_cases h0 : n % 4 = 0
    · rw [h0] at hE
      have hP : P = B := by have := hE.out; simpa [fil] using this
      subst hP
      obtain ⟨a1, c1, rfl, hb1, _⟩ := bs_owned ho hby
      have k1 := conv_bs hb1 c1
      go_wp2
      go_ret
      exact ⟨rfl, hw⟩
    · have hBy : Byt P := fun z hz => hby z (by rw [← hE.out]; simp [hz])
      obtain ⟨a1, c1, rfl, hb1, _⟩ := bs_owned ho hBy
      clear hb1
      go_wp2_with (at_builtin; refine wpList_fill rfl (.tmp 10) rfl w.heap.size _ _ _ rfl ho (by omega) hw.size ?_; intro v1 w1 ho1 hg1; have hw1 := hw.grown hg1 hw.size (fun j e => (ho.lt j e).1); refine stopAt ?_)
      refine hide1 ?_
      rw [byteVals_app] at ho1
      clear ho hg1
      go_wp2_with fail
      go_roundw
      case rel => exact ⟨n + 1, P ++ [61], by simp [hn], hide1 (by rw [List.append_assoc, fil_step h0]; exact hE.out), by omega, by omega, ho1, hw1⟩
      case measure =>
        rw [own_slN ho1]
        show _ < 2 * len + 8 - n
        omega
end Go.Proofs.Ytmbjdegfgidadaa

namespace Go.Proofs.Ytmbjdegfgidadaa
open Go.RowKit

/-- Which number a sign stands for; less than 0: none. -/
def n4 (c : Int) : Int := Go.Lib.indexByte hexC.data.toList c.toNat.toUInt8
def n6 (c : Int) : Int := Go.Lib.indexByte sixC.data.toList c.toNat.toUInt8
set_option maxRecDepth 100000 in
theorem n4_all : ∀ c : Fin 256, (n4 c.1 < 0 ∧ n4 c.1 = -1) ∨ (0 ≤ n4 c.1 ∧ n4 c.1 < 16 ∧ hxS (n4 c.1) = c.1) := by decide +kernel
set_option maxRecDepth 100000 in
theorem n6_all : ∀ c : Fin 256, (n6 c.1 < 0 ∧ n6 c.1 = -1) ∨ (0 ≤ n6 c.1 ∧ n6 c.1 < 64 ∧ sxS (n6 c.1) = c.1) := by decide +kernel
set_option maxRecDepth 100000 in
theorem n4_hx' : ∀ c : Fin 16, n4 (hxS c.1) = c.1 := by decide +kernel
set_option maxRecDepth 100000 in
theorem n6_sx' : ∀ c : Fin 64, n6 (sxS c.1) = c.1 := by decide +kernel
theorem n4_b {c : Int} (h : 0 ≤ c ∧ c < 256) : (n4 c < 0 ∧ n4 c = -1) ∨ (0 ≤ n4 c ∧ n4 c < 16 ∧ hxS (n4 c) = c) := by
  obtain ⟨k, rfl⟩ := Int.eq_ofNat_of_zero_le h.1
  exact n4_all ⟨k, by omega⟩
theorem n6_b {c : Int} (h : 0 ≤ c ∧ c < 256) : (n6 c < 0 ∧ n6 c = -1) ∨ (0 ≤ n6 c ∧ n6 c < 64 ∧ sxS (n6 c) = c) := by
  obtain ⟨k, rfl⟩ := Int.eq_ofNat_of_zero_le h.1
  exact n6_all ⟨k, by omega⟩
theorem n4_hx {n : Int} (h : 0 ≤ n) (h1 : n < 16) : n4 (hxS n) = n := by
  obtain ⟨k, rfl⟩ := Int.eq_ofNat_of_zero_le h
  exact n4_hx' ⟨k, by omega⟩
theorem n6_sx {n : Int} (h : 0 ≤ n) (h1 : n < 64) : n6 (sxS n) = n := by
  obtain ⟨k, rfl⟩ := Int.eq_ofNat_of_zero_le h
  exact n6_sx' ⟨k, by omega⟩

/-- What is held between two signs. -/
inductive Gv where | z | two (h : Int) | four (h : Int) | six (h : Int)
/-- The bytes of figures (states z and four). -/
def ga4 : Gv → List Int → Option (List Int)
  | .z, [] => some []
  | _, [] => none
  | .z, c :: r => if n4 c < 0 then none else ga4 (.four (n4 c)) r
  | .four h, c :: r => if n4 c < 0 then none else (ga4 .z r).map ((h * 16 + n4 c) :: ·)
  | _, _ => none
/-- The bytes of signs of six bits. -/
def ga6 : Gv → List Int → Option (List Int)
  | .z, [] => some []
  | .two h, [] => if h = 0 then some [] else none
  | .four h, [] => if h = 0 then some [] else none
  | .six _, [] => none
  | .z, c :: r => if n6 c < 0 then none else ga6 (.six (n6 c)) r
  | .six h, c :: r => if n6 c < 0 then none else (ga6 (.four ((h * 64 + n6 c) % 16)) r).map ((h * 64 + n6 c) / 16 :: ·)
  | .four h, c :: r => if n6 c < 0 then none else (ga6 (.two ((h * 64 + n6 c) % 4)) r).map ((h * 64 + n6 c) / 4 :: ·)
  | .two h, c :: r => if n6 c < 0 then none else (ga6 .z r).map ((h * 64 + n6 c) :: ·)

/-- What a reading answers. -/
def AnG (o : Option (List Int)) (B : Nat) (e : Ending) (w : World) : Prop :=
  match o with
  | none => e = .returned (.tuple #[.slice none 0 0, .iface 37 (.int .i64 1)])
  | some l => ∃ v, e = .returned (.tuple #[v, .nilIface]) ∧ w.ownsRow B 5 1 v l.length (byteVals l)

theorem idx4 (c : Int) (w : World) : Calls Try.prog 31 #[.string hexC, .int .u8 c] w fun e w' => e = .returned (.int .i64 (n4 c)) ∧ w' = w := strings_IndexByte hexC c w
theorem idx6 (c : Int) (w : World) : Calls Try.prog 31 #[.string sixC, .int .u8 c] w fun e w' => e = .returned (.int .i64 (n6 c)) ∧ w' = w := strings_IndexByte sixC c w

theorem str_size (zs : List Int) : (strOfNums zs).size = zs.length := by
  have h := strOfNums_data zs
  show (strOfNums zs).data.size = _
  rw [← Array.length_toList, h]; simp
theorem str_at (zs : List Int) (hz : Byt zs) (j : Nat) (h : j < (strOfNums zs).size) : ((((strOfNums zs)[j]'h).toNat : Nat) : Int) = zs.getD j 0 := by
  have hj : j < zs.length := by rw [← str_size]; exact h
  have hd := strOfNums_data zs
  have h1 : (strOfNums zs)[j]'h = (strOfNums zs).data.toList[j]'(by rw [hd]; simpa using hj) := by
    rw [Array.getElem_toList]; rfl
  rw [h1]
  have h2 : ∀ (l : List UInt8) (e : (strOfNums zs).data.toList = l) (hl : j < l.length), (strOfNums zs).data.toList[j]'(by rw [e]; exact hl) = l[j] := by intro l e hl; subst e; rfl
  rw [h2 _ hd (by simpa using hj)]
  have hb := hz _ (getD_mem (l := zs) (k := j) hj)
  simp only [List.getElem_map]
  have : zs[j] = zs.getD j 0 := by simp [List.getD_eq_getElem?_getD, hj]
  rw [this]
  generalize zs.getD j 0 = z at *
  obtain ⟨k, rfl⟩ := Int.eq_ofNat_of_zero_le hb.1
  simp
  omega
end Go.Proofs.Ytmbjdegfgidadaa

namespace Go.Proofs.Ytmbjdegfgidadaa
open Go.RowKit

theorem map_app {o : Option (List Int)} {x : Int} (out : List Int) : (o.map (x :: ·)).map (out ++ ·) = o.map ((out ++ [x]) ++ ·) := by cases o <;> simp
def GvI : Gv → Value → Value → Prop
  | .z, h, k => h = .int .i64 0 ∧ k = .int .i64 0
  | .two x, h, k => ∃ y : Nat, x = y ∧ y < 4 ∧ h = .int .i64 y ∧ k = .int .i64 2
  | .four x, h, k => ∃ y : Nat, x = y ∧ y < 16 ∧ h = .int .i64 y ∧ k = .int .i64 4
  | .six x, h, k => ∃ y : Nat, x = y ∧ y < 64 ∧ h = .int .i64 y ∧ k = .int .i64 6
def nx4 (st : Gv) (d : Int) (r out : List Int) : Option (List Int) := match st with
  | .z => (ga4 (.four d) r).map (out ++ ·)
  | .four h => (ga4 .z r).map ((out ++ [h * 16 + d]) ++ ·)
  | _ => none
def nx6 (st : Gv) (d : Int) (r out : List Int) : Option (List Int) := match st with
  | .z => (ga6 (.six d) r).map (out ++ ·)
  | .six h => (ga6 (.four ((h * 64 + d) % 16)) r).map ((out ++ [(h * 64 + d) / 16]) ++ ·)
  | .four h => (ga6 (.two ((h * 64 + d) % 4)) r).map ((out ++ [(h * 64 + d) / 4]) ++ ·)
  | .two h => (ga6 .z r).map ((out ++ [h * 64 + d]) ++ ·)
theorem nx4_eq {st : Gv} {c : Int} {r out : List Int} (h : ¬ n4 c < 0) : (ga4 st (c :: r)).map (out ++ ·) = nx4 st (n4 c) r out := by
  rcases st with _ | x | x | x <;> simp only [ga4, nx4, h, if_false, map_app, Option.map_none]
theorem nx6_eq {st : Gv} {c : Int} {r out : List Int} (h : ¬ n6 c < 0) : (ga6 st (c :: r)).map (out ++ ·) = nx6 st (n6 c) r out := by
  rcases st with _ | x | x | x <;> simp only [ga6, nx6, h, if_false, map_app]
set_option maxHeartbeats 4000000 in
theorem gather4 (zs : List Int) (hz : Byt zs) (hm : zs.length ≤ 1000000) (w : World) :
    Calls Try.prog 26 #[.string (strOfNums zs), .int .i64 4, .string hexC] w fun e w' => AnG (ga4 .z zs) w.heap.size e w' ∧ Below w.heap.size w w' := by
  have hsz := str_size zs
  obtain ⟨S, hS⟩ : ∃ S, Hid (S = strOfNums zs) := ⟨_, hide1 rfl⟩
  have hat : ∀ j (h : j < S.size), (((S[j]'h).toNat : Nat) : Int) = zs.getD j 0 := by rw [hS.out]; exact str_at zs hz
  rw [← hS.out] at hsz ⊢
  generalize hL : zs.length = len at *
  obtain ⟨A, hA⟩ : ∃ A, Hid (A = ga4 .z zs) := ⟨_, hide1 rfl⟩
  rw [← hA.out]
  go_enter Try.func26, Try.ntmps26
  go_wp2_with fail
  go_loopw [8, 9, 10, 15] (fun v h k i wr => ∃ j : Nat, j ≤ len ∧ i = .int .i64 j ∧ ∃ st out n, GvI st h k ∧ Hid (A = (ga4 st (zs.drop j)).map (out ++ ·)) ∧ Hid (n = out.length) ∧ n ≤ j ∧ wr.ownsRow w.heap.size 5 1 v n (byteVals out) ∧ Below w.heap.size w wr ∧ (st = .z ∨ ∃ h, st = .four h)) (fun _ _ _ i _ => len - (intOf i).toNat)
  case atStart => exact ⟨0, by omega, rfl, .z, [], 0, ⟨rfl, rfl⟩, hide1 (by rw [hA.out]; simp), hide1 rfl, by omega, ⟨rfl, .inl ⟨rfl, rfl⟩⟩, Below.refl _ _, .inl rfl⟩
  case round =>
    obtain ⟨j, hj, rfl, st, out, n, hI, hE, hn, hn2, ho, hw, hst⟩ := hrel
    by_cases hlt : j < len
    · have hb := hz _ (getD_mem (l := zs) (k := j) (by omega))
      have hj2 : j < S.size := by omega
      have hx := hat j hj2
      have hE := hE.out
      rw [drop_cons zs j (by omega)] at hE
      generalize zs.getD j 0 = c at *
      have hc := n4_b hb
      have hE := hide1 hE
      clear hat hA hb
      go_wp2_with fail
      refine (idx4 _ _).mono ?_
      rintro e w1 ⟨rfl, rfl⟩

      rcases hc with ⟨hc, hc1⟩ | ⟨hc0, hc1, -⟩
      · have hE : A = none := by
          have h1 := hE.out
          rw [h1]
          rcases st with _ | x | x | x <;> simp [ga4, hc]
        rw [hc1]
        clear hc1 hc
        go_wp2_with fail
        go_ret2
        refine ⟨?_, hw⟩
        rw [hE]; rfl
      have hE : Hid (A = nx4 st (n4 c) (zs.drop (j + 1)) out) := hide1 (by rw [hE.out, nx4_eq (by omega)])
      clear hx
      generalize n4 c = d at *
      obtain ⟨d, rfl⟩ := Int.eq_ofNat_of_zero_le hc0
      have hd : d < 16 := by omega
      clear hc0 hc1
      rcases hst with rfl | ⟨x, rfl⟩
      · obtain ⟨rfl, rfl⟩ := hI
        have Hor := hide1 (or_i 0 d 4 (by omega) (by omega))
        have H1 : bits .or .i64 0 (d : Int) = (d : Int) := by have := Hor.out; simpa using this
        clear Hor
        go_wp2_with fail
        go_roundw
        case rel => exact ⟨j + 1, by omega, by go_num, .four d, out, n, ⟨d, rfl, hd, rfl, rfl⟩, hE, hn, by omega, ho, hw, .inr ⟨_, rfl⟩⟩
        case measure => simp [intOf]; omega
      · obtain ⟨y, rfl, hy, rfl, rfl⟩ := hI
        have Hor := hide1 (or_i y d 4 (by omega) (by omega))
        have H1 : bits .or .i64 ((y : Int) * 16) (d : Int) = ((y * 16 + d : Nat) : Int) := by have := Hor.out; simpa using this
        clear Hor
        have HX : Hid (((y * 16 + d : Nat) : Int) = (y : Int) * 16 + d) := hide1 (by omega)
        have hX : y * 16 + d < 256 := by omega
        generalize y * 16 + d = X at *
        have Han : bits .and .i64 (X : Int) 0 = 0 := (by have := and_i X 0 (by omega) (by omega); rw [Nat.pow_zero, Nat.mod_one] at this; exact this)
        go_wp2_with (at_builtin; refine wpList_append_bs rfl (.tmp 38) (.tmp 43) rfl w.heap.size _ _ _ rfl (ho.alloc _) _ 1 1 [(X : Int)] rfl (bs_one _ ((X : Int)) (by omega)) (by omega) (by have := hw.size; simp; omega) ?_; intro v1 w1 ho1 hg1; have hw1 := below_app hw (Nat.le_refl _) ho hg1; refine stopAt ?_)
        refine hide1 ?_
        rw [byteVals_app] at ho1
        clear ho hg1
        go_wp2_with fail
        go_roundw
        case rel =>
          refine ⟨j + 1, by omega, by go_num, .z, out ++ [(X : Int)], n + 1, ⟨rfl, rfl⟩, hide1 ?_, hide1 (by simp [hn.out]), by omega, ho1, hw1, .inl rfl⟩
          have h1 := hE.out
          simp only [nx4, ← HX.out] at h1
          exact h1
        case measure => simp [intOf]; omega
    · obtain rfl : j = len := by omega
      have hE := hE.out
      rw [List.drop_of_length_le (by omega)] at hE
      have hE := hide1 hE
      rcases hst with rfl | ⟨x, rfl⟩
      · obtain ⟨rfl, rfl⟩ := hI
        go_wp2_with fail
        go_ret2
        refine ⟨?_, hw⟩
        have h1 := hE.out
        rw [h1]
        simp only [ga4, Option.map_some, List.append_nil]
        exact ⟨_, rfl, by rw [← hn.out]; exact ho⟩
      · obtain ⟨y, rfl, hy, rfl, rfl⟩ := hI
        go_wp2_with fail
        go_ret2
        refine ⟨?_, hw⟩
        have h1 := hE.out
        rw [h1]
        simp only [ga4, Option.map_none]
        rfl
set_option maxHeartbeats 4000000 in
theorem gather6 (zs : List Int) (hz : Byt zs) (hm : zs.length ≤ 1000000) (w : World) :
    Calls Try.prog 26 #[.string (strOfNums zs), .int .i64 6, .string sixC] w fun e w' => AnG (ga6 .z zs) w.heap.size e w' ∧ Below w.heap.size w w' := by
  have hsz := str_size zs
  obtain ⟨S, hS⟩ : ∃ S, Hid (S = strOfNums zs) := ⟨_, hide1 rfl⟩
  have hat : ∀ j (h : j < S.size), (((S[j]'h).toNat : Nat) : Int) = zs.getD j 0 := by rw [hS.out]; exact str_at zs hz
  rw [← hS.out] at hsz ⊢
  generalize hL : zs.length = len at *
  obtain ⟨A, hA⟩ : ∃ A, Hid (A = ga6 .z zs) := ⟨_, hide1 rfl⟩
  rw [← hA.out]
  go_enter Try.func26, Try.ntmps26
  go_wp2_with fail
  go_loopw [8, 9, 10, 15] (fun v h k i wr => ∃ j : Nat, j ≤ len ∧ i = .int .i64 j ∧ ∃ st out n, GvI st h k ∧ Hid (A = (ga6 st (zs.drop j)).map (out ++ ·)) ∧ Hid (n = out.length) ∧ n ≤ j ∧ wr.ownsRow w.heap.size 5 1 v n (byteVals out) ∧ Below w.heap.size w wr) (fun _ _ _ i _ => len - (intOf i).toNat)
  case atStart => exact ⟨0, by omega, rfl, .z, [], 0, ⟨rfl, rfl⟩, hide1 (by rw [hA.out]; simp), hide1 rfl, by omega, ⟨rfl, .inl ⟨rfl, rfl⟩⟩, Below.refl _ _⟩
  case round =>
    obtain ⟨j, hj, rfl, st, out, n, hI, hE, hn, hn2, ho, hw⟩ := hrel
    by_cases hlt : j < len
    · have hb := hz _ (getD_mem (l := zs) (k := j) (by omega))
      have hj2 : j < S.size := by omega
      have hx := hat j hj2
      have hE := hE.out
      rw [drop_cons zs j (by omega)] at hE
      generalize zs.getD j 0 = c at *
      have hc := n6_b hb
      have hE := hide1 hE
      clear hat hA hb
      go_wp2_with fail
      refine (idx6 _ _).mono ?_
      rintro e w1 ⟨rfl, rfl⟩

      rcases hc with ⟨hc, hc1⟩ | ⟨hc0, hc1, -⟩
      · have hE : A = none := by
          have h1 := hE.out
          rw [h1]
          rcases st with _ | x | x | x <;> simp [ga6, hc]
        rw [hc1]
        clear hc1 hc
        go_wp2_with fail
        go_ret2
        refine ⟨?_, hw⟩
        rw [hE]; rfl
      have hE : Hid (A = nx6 st (n6 c) (zs.drop (j + 1)) out) := hide1 (by rw [hE.out, nx6_eq (by omega)])
      clear hx
      generalize n6 c = d at *
      obtain ⟨d, rfl⟩ := Int.eq_ofNat_of_zero_le hc0
      have hd : d < 64 := by omega
      clear hc0 hc1
      rcases st with _ | x | x | x
      · obtain ⟨rfl, rfl⟩ := hI
        have Hor := hide1 (or_i 0 d 6 (by omega) (by omega))
        have H1 : bits .or .i64 0 (d : Int) = (d : Int) := by have := Hor.out; simpa using this
        clear Hor
        go_wp2_with fail
        go_roundw
        case rel => exact ⟨j + 1, by omega, by go_num, .six d, out, n, ⟨d, rfl, hd, rfl, rfl⟩, hE, hn, by omega, ho, hw⟩
        case measure => simp [intOf]; omega
      · obtain ⟨y, rfl, hy, rfl, rfl⟩ := hI
        have Hor := hide1 (or_i y d 6 (by omega) (by omega))
        have H1 : bits .or .i64 ((y : Int) * 64) (d : Int) = ((y * 64 + d : Nat) : Int) := by have := Hor.out; simpa using this
        clear Hor
        have HX : Hid (((y * 64 + d : Nat) : Int) = (y : Int) * 64 + d) := hide1 (by omega)
        have hX : y * 64 + d < 256 := by omega
        generalize y * 64 + d = X at *
        have Han : bits .and .i64 (X : Int) 0 = 0 := (by have := and_i X 0 (by omega) (by omega); rw [Nat.pow_zero, Nat.mod_one] at this; exact this)
        go_wp2_with (at_builtin; refine wpList_append_bs rfl (.tmp 38) (.tmp 43) rfl w.heap.size _ _ _ rfl (ho.alloc _) _ 1 1 [(X : Int)] rfl (bs_one _ ((X : Int)) (by omega)) (by omega) (by have := hw.size; simp; omega) ?_; intro v1 w1 ho1 hg1; have hw1 := below_app hw (Nat.le_refl _) ho hg1; refine stopAt ?_)
        refine hide1 ?_
        rw [byteVals_app] at ho1
        clear ho hg1
        go_wp2_with fail
        go_roundw
        case rel =>
          refine ⟨j + 1, by omega, by go_num, .z, out ++ [(X : Int)], n + 1, ⟨rfl, rfl⟩, hide1 ?_, hide1 (by simp [hn.out]), by omega, ho1, hw1⟩
          have h1 := hE.out
          simp only [nx6, ← HX.out] at h1
          exact h1
        case measure => simp [intOf]; omega
      · obtain ⟨y, rfl, hy, rfl, rfl⟩ := hI
        have Hor := hide1 (or_i y d 6 (by omega) (by omega))
        have H1 : bits .or .i64 ((y : Int) * 64) (d : Int) = ((y * 64 + d : Nat) : Int) := by have := Hor.out; simpa using this
        clear Hor
        have HX : Hid (((y * 64 + d : Nat) : Int) = (y : Int) * 64 + d) := hide1 (by omega)
        have hX : y * 64 + d < 1024 := by omega
        generalize y * 64 + d = X at *
        have Han : bits .and .i64 (X : Int) 3 = ((X % 4 : Nat) : Int) := (and_i X 2 (by omega) (by omega))
        go_wp2_with (at_builtin; refine wpList_append_bs rfl (.tmp 38) (.tmp 43) rfl w.heap.size _ _ _ rfl (ho.alloc _) _ 1 1 [(X : Int) / 4] rfl (bs_one _ ((X : Int) / 4) (by omega)) (by omega) (by have := hw.size; simp; omega) ?_; intro v1 w1 ho1 hg1; have hw1 := below_app hw (Nat.le_refl _) ho hg1; refine stopAt ?_)
        refine hide1 ?_
        rw [byteVals_app] at ho1
        clear ho hg1
        go_wp2_with fail
        go_roundw
        case rel =>
          refine ⟨j + 1, by omega, by go_num, .two ((X % 4 : Nat) : Int), out ++ [(X : Int) / 4], n + 1, ⟨X % 4, rfl, by omega, rfl, rfl⟩, hide1 ?_, hide1 (by simp [hn.out]), by omega, ho1, hw1⟩
          have h1 := hE.out
          simp only [nx6, ← HX.out] at h1
          exact h1
        case measure => simp [intOf]; omega
      · obtain ⟨y, rfl, hy, rfl, rfl⟩ := hI
        have Hor := hide1 (or_i y d 6 (by omega) (by omega))
        have H1 : bits .or .i64 ((y : Int) * 64) (d : Int) = ((y * 64 + d : Nat) : Int) := by have := Hor.out; simpa using this
        clear Hor
        have HX : Hid (((y * 64 + d : Nat) : Int) = (y : Int) * 64 + d) := hide1 (by omega)
        have hX : y * 64 + d < 4096 := by omega
        generalize y * 64 + d = X at *
        have Han : bits .and .i64 (X : Int) 15 = ((X % 16 : Nat) : Int) := (and_i X 4 (by omega) (by omega))
        go_wp2_with (at_builtin; refine wpList_append_bs rfl (.tmp 38) (.tmp 43) rfl w.heap.size _ _ _ rfl (ho.alloc _) _ 1 1 [(X : Int) / 16] rfl (bs_one _ ((X : Int) / 16) (by omega)) (by omega) (by have := hw.size; simp; omega) ?_; intro v1 w1 ho1 hg1; have hw1 := below_app hw (Nat.le_refl _) ho hg1; refine stopAt ?_)
        refine hide1 ?_
        rw [byteVals_app] at ho1
        clear ho hg1
        go_wp2_with fail
        go_roundw
        case rel =>
          refine ⟨j + 1, by omega, by go_num, .four ((X % 16 : Nat) : Int), out ++ [(X : Int) / 16], n + 1, ⟨X % 16, rfl, by omega, rfl, rfl⟩, hide1 ?_, hide1 (by simp [hn.out]), by omega, ho1, hw1⟩
          have h1 := hE.out
          simp only [nx6, ← HX.out] at h1
          exact h1
        case measure => simp [intOf]; omega
    · obtain rfl : j = len := by omega
      have hE := hE.out
      rw [List.drop_of_length_le (by omega)] at hE
      have hE := hide1 hE
      rcases st with _ | x | x | x
      · obtain ⟨rfl, rfl⟩ := hI
        go_wp2_with fail
        go_ret2
        refine ⟨?_, hw⟩
        have h1 := hE.out
        rw [h1]
        simp only [ga6, Option.map_some, List.append_nil]
        exact ⟨_, rfl, by rw [← hn.out]; exact ho⟩
      · obtain ⟨y, rfl, hy, rfl, rfl⟩ := hI
        by_cases h0 : y = 0
        · subst h0
          go_wp2_with fail
          go_ret2
          refine ⟨?_, hw⟩
          have h1 := hE.out
          rw [h1]
          simp only [ga6, Int.natCast_zero, if_true, Option.map_some, List.append_nil]
          exact ⟨_, rfl, by rw [← hn.out]; exact ho⟩

        · go_wp2_with fail
          go_ret2
          refine ⟨?_, hw⟩
          have h1 := hE.out
          rw [h1]
          simp only [ga6, show ¬ ((y : Int) = 0) by omega, if_false, Option.map_none]
          rfl
      · obtain ⟨y, rfl, hy, rfl, rfl⟩ := hI
        by_cases h0 : y = 0
        · subst h0
          go_wp2_with fail
          go_ret2
          refine ⟨?_, hw⟩
          have h1 := hE.out
          rw [h1]
          simp only [ga6, Int.natCast_zero, if_true, Option.map_some, List.append_nil]
          exact ⟨_, rfl, by rw [← hn.out]; exact ho⟩

        · go_wp2_with fail
          go_ret2
          refine ⟨?_, hw⟩
          have h1 := hE.out
          rw [h1]
          simp only [ga6, show ¬ ((y : Int) = 0) by omega, if_false, Option.map_none]
          rfl
      · obtain ⟨y, rfl, hy, rfl, rfl⟩ := hI
        go_wp2_with fail
        go_ret2
        refine ⟨?_, hw⟩
        have h1 := hE.out
        rw [h1]
        simp only [ga6, Option.map_none]
        rfl
end Go.Proofs.Ytmbjdegfgidadaa

namespace Go.Proofs.Ytmbjdegfgidadaa
open Go.RowKit

set_option maxHeartbeats 400000 in
theorem unhex_d (zs : List Int) (hz : Byt zs) (hm : zs.length ≤ 1000000) (w : World) :
    Calls Try.prog 11 #[.string (strOfNums zs)] w fun e w' => AnG (ga4 .z zs) w.heap.size e w' ∧ Below w.heap.size w w' := by
  have H := gather4 zs hz hm w
  generalize ga4 .z zs = A at *
  go_enter Try.func11, Try.ntmps11
  go_wp2_with fail
  refine H.mono ?_
  rintro e w1 ⟨h1, hw⟩
  cases A with
  | none =>
    obtain rfl := h1
    go_wp2_with fail
    go_ret2
    exact ⟨rfl, hw⟩
  | some l =>
    obtain ⟨v, rfl, ho⟩ := h1
    go_wp2_with fail
    go_ret2
    exact ⟨⟨_, rfl, ho⟩, hw⟩

/-- A text without one '=' at its end. -/
def tr1 (l : List Int) : List Int := if l.getLast? = some 61 then l.dropLast else l
theorem tr1_snoc (l : List Int) (c : Int) : tr1 (l ++ [c]) = if c = 61 then l else l ++ [c] := by simp [tr1]
theorem tr1_nil : tr1 [] = [] := rfl
theorem snoc_cases (l : List Int) : l = [] ∨ ∃ r c, l = r ++ [c] := by
  rcases List.eq_nil_or_concat l with h | ⟨r, c, h⟩
  · exact .inl h
  · exact .inr ⟨r, c, by simpa using h⟩
theorem tr1_byt {l : List Int} (h : Byt l) : Byt (tr1 l) := by
  unfold tr1
  split
  · exact fun z hz => h z ((List.dropLast_sublist l).subset hz)
  · exact h
theorem tr1_len (l : List Int) : (tr1 l).length ≤ l.length := by unfold tr1; split <;> simp
theorem trim_str (zs : List Int) (hz : Byt zs) : (⟨(Go.Lib.trimSuffix (strOfNums zs).data.toList [61]).toArray⟩ : ByteArray) = strOfNums (tr1 zs) := by
  have hext : ∀ (l : List UInt8) (m : List Int), l = m.map (fun n => UInt8.ofNat n.toNat) → (⟨l.toArray⟩ : ByteArray) = strOfNums m := by
    intro l m h
    apply ByteArray.ext
    apply Array.ext'
    rw [strOfNums_data, h]
  apply hext
  rw [strOfNums_data]
  rcases snoc_cases zs with rfl | ⟨r, c, rfl⟩
  · rfl
  · rw [tr1_snoc]
    have hc := hz c (by simp)
    have hs : Go.Lib.hasSuffix (List.map (fun n : Int => UInt8.ofNat n.toNat) (r ++ [c])) [61] = decide (c = 61) := by
      unfold Go.Lib.hasSuffix
      obtain ⟨k, rfl⟩ := Int.eq_ofNat_of_zero_le hc.1
      have hk : k < 256 := by omega
      simp only [List.map_append, List.map_cons, List.map_nil, List.isSuffixOf, List.reverse_append, List.reverse_cons, List.reverse_nil, List.nil_append, List.cons_append, List.isPrefixOf, Bool.and_true, Int.toNat_natCast]
      by_cases e : k = 61
      · subst e; rfl
      · rw [decide_eq_false (by omega)]
        refine beq_eq_false_iff_ne.2 (fun h => e ?_)
        have := congrArg UInt8.toNat h
        simp at this
        omega
    unfold Go.Lib.trimSuffix
    rw [hs]
    by_cases e : c = 61
    · simp [e]
    · simp [e]

/-- Which bytes a text of signs of six bits is of. -/
def d64 (zs : List Int) : Option (List Int) := if zs.length % 4 = 0 then ga6 .z (tr1 (tr1 zs)) else none

set_option maxHeartbeats 400000 in
theorem unbase64_d (zs : List Int) (hz : Byt zs) (hm : zs.length ≤ 1000000) (w : World) :
    Calls Try.prog 12 #[.string (strOfNums zs)] w fun e w' => AnG (d64 zs) w.heap.size e w' ∧ Below w.heap.size w w' := by
  have H := gather6 (tr1 (tr1 zs)) (tr1_byt (tr1_byt hz)) (Nat.le_trans (tr1_len _) (Nat.le_trans (tr1_len _) hm)) w
  have T1 := trim_str zs hz
  have T2 := trim_str (tr1 zs) (tr1_byt hz)
  have hsz := str_size zs
  have hs1 := str_size (tr1 zs)
  have hl := tr1_len zs
  have C1 := strings_TrimSuffix (strOfNums zs) ⟨#[61]⟩ w (by omega)
  have C2 := strings_TrimSuffix (strOfNums (tr1 zs)) ⟨#[61]⟩ w (by omega)
  have C1 : Calls Try.prog 27 #[.string (strOfNums zs), .string ⟨#[61]⟩] w fun e w' => e = .returned (.string (strOfNums (tr1 zs))) ∧ w' = w := by rw [← T1]; exact C1
  have C2 : Calls Try.prog 27 #[.string (strOfNums (tr1 zs)), .string ⟨#[61]⟩] w fun e w' => e = .returned (.string (strOfNums (tr1 (tr1 zs)))) ∧ w' = w := by rw [← T2]; exact C2
  clear T1 T2 hs1 hl
  obtain ⟨A, hA⟩ : ∃ A, Hid (A = d64 zs) := ⟨_, hide1 rfl⟩
  rw [← hA.out]
  have hA1 := hA.out
  unfold d64 at hA1
  generalize hS : strOfNums zs = S at *
  generalize strOfNums (tr1 zs) = S1 at *
  generalize strOfNums (tr1 (tr1 zs)) = S2 at *
  generalize ga6 .z (tr1 (tr1 zs)) = A2 at *
  generalize zs.length = len at *
  by_cases h0 : len % 4 = 0
  · rw [if_pos h0] at hA1
    subst hA1
    clear hA
    go_enter Try.func12, Try.ntmps12
    go_wp2_with fail
    refine C1.mono ?_
    rintro e w1 ⟨rfl, rfl⟩
    go_wp2_with fail
    refine C2.mono ?_
    rintro e w1 ⟨rfl, rfl⟩
    go_wp2_with fail
    refine H.mono ?_
    rintro e w1 ⟨h1, hw⟩
    cases A with
    | none =>
      obtain rfl := h1
      go_wp2_with fail
      go_ret2
      exact ⟨rfl, hw⟩
    | some l =>
      obtain ⟨v, rfl, ho⟩ := h1
      go_wp2_with fail
      go_ret2
      exact ⟨⟨_, rfl, ho⟩, hw⟩
  · rw [if_neg h0] at hA1
    subst hA1
    clear hA H C1 C2
    go_enter Try.func12, Try.ntmps12
    go_wp2_with fail
    go_ret2
    exact ⟨rfl, Below.refl _ _⟩
end Go.Proofs.Ytmbjdegfgidadaa

namespace Go.Proofs.Ytmbjdegfgidadaa
open Go.RowKit

theorem Byt.tail {c : Int} {r : List Int} (h : Byt (c :: r)) : Byt r := fun z hz => h z (by simp [hz])
theorem Byt.head {c : Int} {r : List Int} (h : Byt (c :: r)) : 0 ≤ c ∧ c < 256 := h c (by simp)
theorem Byt.cons {c : Int} {r : List Int} (h : 0 ≤ c ∧ c < 256) (hr : Byt r) : Byt (c :: r) := by
  intro z hz
  rcases List.mem_cons.1 hz with rfl | hz
  · exact h
  · exact hr z hz
theorem Byt.nil : Byt [] := by intro z hz; simp at hz
theorem Byt.app {a b : List Int} (ha : Byt a) (hb : Byt b) : Byt (a ++ b) := by
  intro z hz
  rcases List.mem_append.1 hz with h | h
  · exact ha z h
  · exact hb z h

theorem ga4_hexE : ∀ l, Byt l → ga4 .z (hexE l) = some l
  | [], _ => rfl
  | c :: r, h => by
    have hc := h.head
    have h1 := n4_hx (n := c / 16) (by omega) (by omega)
    have h2 := n4_hx (n := c % 16) (by omega) (by omega)
    simp only [hexE, ga4, h1, h2, ga4_hexE r h.tail, show ¬ (c / 16 < 0) by omega, show ¬ (c % 16 < 0) by omega, if_false, Option.map_some]
    rw [show c / 16 * 16 + c % 16 = c by omega]
theorem hexE_ga4 : ∀ s l, Byt s → ga4 .z s = some l → hexE l = s ∧ Byt l
  | [], l, _, h => by simp only [ga4, Option.some.injEq] at h; subst h; exact ⟨rfl, Byt.nil⟩
  | [c], l, _, h => by simp only [ga4] at h; split at h <;> simp at h
  | c :: d :: r, l, hs, h => by
    have hc := n4_b hs.head
    have hd := n4_b hs.tail.head
    simp only [ga4] at h
    rcases hc with ⟨hc, _⟩ | ⟨c0, c1, c2⟩
    · simp [hc] at h
    rw [if_neg (by omega)] at h
    rcases hd with ⟨hd, _⟩ | ⟨d0, d1, d2⟩
    · simp [hd] at h
    rw [if_neg (by omega)] at h
    obtain ⟨m, hm, rfl⟩ := Option.map_eq_some_iff.1 h
    obtain ⟨h1, h2⟩ := hexE_ga4 r m hs.tail.tail hm
    refine ⟨?_, Byt.cons (by omega) h2⟩
    simp only [hexE, h1]
    rw [show (n4 c * 16 + n4 d) / 16 = n4 c by omega, show (n4 c * 16 + n4 d) % 16 = n4 d by omega, c2, d2]

/-- The reference's bytes of figures, before they are coded again. -/
def rd4 : List Int → List Int
  | c :: d :: r => (16 * n4 c + n4 d) % 256 :: rd4 r
  | _ => []
theorem rd4_hexE : ∀ l, Byt l → rd4 (hexE l) = l
  | [], _ => rfl
  | c :: r, h => by
    have hc := h.head
    have h1 := n4_hx (n := c / 16) (by omega) (by omega)
    have h2 := n4_hx (n := c % 16) (by omega) (by omega)
    simp only [hexE, rd4, h1, h2, rd4_hexE r h.tail]
    rw [show (16 * (c / 16) + c % 16) % 256 = c by omega]
theorem rd4_byt : ∀ l, Byt (rd4 l)
  | [] => Byt.nil
  | [_] => Byt.nil
  | c :: d :: r => by simp only [rd4]; exact Byt.cons (by omega) (rd4_byt r)
theorem rd4_len : ∀ l, (rd4 l).length = l.length / 2
  | [] => rfl
  | [_] => by simp [rd4]
  | c :: d :: r => by simp only [rd4, List.length_cons, rd4_len r]; omega
theorem ref4_eq (s : List Int) (hs : Byt s) : (if hexE (rd4 s) = s then some (rd4 s) else none) = ga4 .z s := by
  cases h : ga4 .z s with
  | none =>
    rw [if_neg]
    intro e
    rw [← e, ga4_hexE _ (rd4_byt s)] at h
    cases h
  | some l =>
    obtain ⟨h1, h2⟩ := hexE_ga4 s l hs h
    have h3 : rd4 s = l := by rw [← h1]; exact rd4_hexE l h2
    rw [h3, if_pos h1]

theorem sxS_ne {n : Int} (h : 0 ≤ n) (h1 : n < 64) : sxS n ≠ 61 := by unfold sxS; split <;> (try split) <;> (try split) <;> (try split) <;> omega

/-- Three bytes as four signs. -/
def f4 (a b c : Int) : List Int := [sxS (a / 4), sxS ((a % 4 * 256 + b) / 16), sxS ((b % 16 * 256 + c) / 64), sxS (c % 64)]
theorem sp6_three (a b c : Int) (r : List Int) : sp6 .z (a :: b :: c :: r) = f4 a b c ++ sp6 .z r := rfl
theorem b64E_three (a b c : Int) (r : List Int) : b64E (a :: b :: c :: r) = f4 a b c ++ b64E r := by
  unfold b64E
  rw [sp6_three, List.length_append, show (f4 a b c).length = 4 from rfl, show (4 + (sp6 .z r).length) % 4 = (sp6 .z r).length % 4 by omega, List.append_assoc]
theorem b64E_nil : b64E [] = [] := rfl
theorem b64E_one (a : Int) : b64E [a] = [sxS (a / 4), sxS (a % 4 * 16), 61, 61] := rfl
theorem b64E_two (a b : Int) : b64E [a, b] = [sxS (a / 4), sxS ((a % 4 * 256 + b) / 16), sxS (b % 16 * 4), 61] := rfl

theorem ga6_sp6 : ∀ l, Byt l → ga6 .z (sp6 .z l) = some l
  | [], _ => rfl
  | [a], h => by
    have ha := h.head
    simp only [sp6, ga6, n6_sx (n := a / 4) (by omega) (by omega), n6_sx (n := a % 4 * 16) (by omega) (by omega), show ¬ (a / 4 < 0) by omega, show ¬ (a % 4 * 16 < 0) by omega, if_false]
    rw [if_pos (by omega), Option.map_some, show (a / 4 * 64 + a % 4 * 16) / 16 = a by omega]
  | [a, b], h => by
    have ha := h.head
    have hb := h.tail.head
    simp only [sp6, ga6, n6_sx (n := a / 4) (by omega) (by omega), n6_sx (n := (a % 4 * 256 + b) / 16) (by omega) (by omega), n6_sx (n := b % 16 * 4) (by omega) (by omega), show ¬ (a / 4 < 0) by omega, show ¬ ((a % 4 * 256 + b) / 16 < 0) by omega, show ¬ (b % 16 * 4 < 0) by omega, if_false]
    rw [if_pos (by omega), Option.map_some, Option.map_some, show (a / 4 * 64 + (a % 4 * 256 + b) / 16) / 16 = a by omega, show ((a / 4 * 64 + (a % 4 * 256 + b) / 16) % 16 * 64 + b % 16 * 4) / 4 = b by omega]
  | a :: b :: c :: r, h => by
    have ha := h.head
    have hb := h.tail.head
    have hc := h.tail.tail.head
    have ih := ga6_sp6 r h.tail.tail.tail
    rw [sp6_three]
    simp only [f4, List.cons_append, List.nil_append, ga6, n6_sx (n := a / 4) (by omega) (by omega), n6_sx (n := (a % 4 * 256 + b) / 16) (by omega) (by omega), n6_sx (n := (b % 16 * 256 + c) / 64) (by omega) (by omega), n6_sx (n := c % 64) (by omega) (by omega), show ¬ (a / 4 < 0) by omega, show ¬ ((a % 4 * 256 + b) / 16 < 0) by omega, show ¬ ((b % 16 * 256 + c) / 64 < 0) by omega, show ¬ (c % 64 < 0) by omega, if_false, ih, Option.map_some]
    rw [show (a / 4 * 64 + (a % 4 * 256 + b) / 16) / 16 = a by omega, show ((a / 4 * 64 + (a % 4 * 256 + b) / 16) % 16 * 64 + (b % 16 * 256 + c) / 64) / 4 = b by omega, show ((a / 4 * 64 + (a % 4 * 256 + b) / 16) % 16 * 64 + (b % 16 * 256 + c) / 64) % 4 * 64 + c % 64 = c by omega]

theorem sp6_ga6 : ∀ s l, Byt s → ga6 .z s = some l → sp6 .z l = s ∧ Byt l
  | [], l, _, h => by simp only [ga6, Option.some.injEq] at h; subst h; exact ⟨rfl, Byt.nil⟩
  | [a], l, _, h => by simp only [ga6] at h; split at h <;> simp at h
  | [a, b], l, hs, h => by
    simp only [ga6] at h
    rcases n6_b hs.head with ⟨q, _⟩ | ⟨a0, a1, a2⟩
    · simp [q] at h
    rcases n6_b hs.tail.head with ⟨q, _⟩ | ⟨b0, b1, b2⟩
    · simp [q] at h
    rw [if_neg (by omega), if_neg (by omega)] at h
    by_cases e : (n6 a * 64 + n6 b) % 16 = 0
    · rw [if_pos e, Option.map_some, Option.some.injEq] at h
      subst h
      refine ⟨?_, Byt.cons (by omega) Byt.nil⟩
      simp only [sp6]
      rw [show (n6 a * 64 + n6 b) / 16 / 4 = n6 a by omega, show (n6 a * 64 + n6 b) / 16 % 4 * 16 = n6 b by omega, a2, b2]
    · simp [e] at h
  | [a, b, c], l, hs, h => by
    simp only [ga6] at h
    rcases n6_b hs.head with ⟨q, _⟩ | ⟨a0, a1, a2⟩
    · simp [q] at h
    rcases n6_b hs.tail.head with ⟨q, _⟩ | ⟨b0, b1, b2⟩
    · simp [q] at h
    rcases n6_b hs.tail.tail.head with ⟨q, _⟩ | ⟨c0, c1, c2⟩
    · simp [q] at h
    rw [if_neg (by omega), if_neg (by omega), if_neg (by omega)] at h
    by_cases e : ((n6 a * 64 + n6 b) % 16 * 64 + n6 c) % 4 = 0
    · rw [if_pos e, Option.map_some, Option.map_some, Option.some.injEq] at h
      subst h
      refine ⟨?_, Byt.cons (by omega) (Byt.cons (by omega) Byt.nil)⟩
      simp only [sp6]
      rw [show (n6 a * 64 + n6 b) / 16 / 4 = n6 a by omega, show ((n6 a * 64 + n6 b) / 16 % 4 * 256 + ((n6 a * 64 + n6 b) % 16 * 64 + n6 c) / 4) / 16 = n6 b by omega, show ((n6 a * 64 + n6 b) % 16 * 64 + n6 c) / 4 % 16 * 4 = n6 c by omega, a2, b2, c2]
    · simp [e] at h
  | a :: b :: c :: d :: r, l, hs, h => by
    simp only [ga6] at h
    rcases n6_b hs.head with ⟨q, _⟩ | ⟨a0, a1, a2⟩
    · simp [q] at h
    rcases n6_b hs.tail.head with ⟨q, _⟩ | ⟨b0, b1, b2⟩
    · simp [q] at h
    rcases n6_b hs.tail.tail.head with ⟨q, _⟩ | ⟨c0, c1, c2⟩
    · simp [q] at h
    rcases n6_b hs.tail.tail.tail.head with ⟨q, _⟩ | ⟨d0, d1, d2⟩
    · simp [q] at h
    rw [if_neg (by omega), if_neg (by omega), if_neg (by omega), if_neg (by omega)] at h
    obtain ⟨l1, h1, rfl⟩ := Option.map_eq_some_iff.1 h
    obtain ⟨l2, h2, rfl⟩ := Option.map_eq_some_iff.1 h1
    obtain ⟨l3, h3, rfl⟩ := Option.map_eq_some_iff.1 h2
    obtain ⟨e1, e2⟩ := sp6_ga6 r l3 hs.tail.tail.tail.tail h3
    refine ⟨?_, Byt.cons (by omega) (Byt.cons (by omega) (Byt.cons (by omega) e2))⟩
    rw [sp6_three, e1]
    simp only [f4, List.cons_append, List.nil_append]
    rw [show (n6 a * 64 + n6 b) / 16 / 4 = n6 a by omega, show ((n6 a * 64 + n6 b) / 16 % 4 * 256 + ((n6 a * 64 + n6 b) % 16 * 64 + n6 c) / 4) / 16 = n6 b by omega,
      show (((n6 a * 64 + n6 b) % 16 * 64 + n6 c) / 4 % 16 * 256 + (((n6 a * 64 + n6 b) % 16 * 64 + n6 c) % 4 * 64 + n6 d)) / 64 = n6 c by omega,
      show (((n6 a * 64 + n6 b) % 16 * 64 + n6 c) % 4 * 64 + n6 d) % 64 = n6 d by omega, a2, b2, c2, d2]
end Go.Proofs.Ytmbjdegfgidadaa

namespace Go.Proofs.Ytmbjdegfgidadaa
open Go.RowKit

theorem sp6_no : ∀ l, Byt l → (∀ z ∈ sp6 .z l, z ≠ 61) ∧ (sp6 .z l).length % 4 ≠ 1
  | [], _ => by simp [sp6]
  | [a], h => by
    have ha := h.head
    refine ⟨?_, by simp [sp6]⟩
    intro z hz
    simp only [sp6, List.mem_cons, List.not_mem_nil, or_false] at hz
    rcases hz with rfl | rfl <;> exact sxS_ne (by omega) (by omega)
  | [a, b], h => by
    have ha := h.head
    have hb := h.tail.head
    refine ⟨?_, by simp [sp6]⟩
    intro z hz
    simp only [sp6, List.mem_cons, List.not_mem_nil, or_false] at hz
    rcases hz with rfl | rfl | rfl <;> exact sxS_ne (by omega) (by omega)
  | a :: b :: c :: r, h => by
    have ha := h.head
    have hb := h.tail.head
    have hc := h.tail.tail.head
    obtain ⟨i1, i2⟩ := sp6_no r h.tail.tail.tail
    rw [sp6_three]
    refine ⟨?_, by rw [List.length_append, show (f4 a b c).length = 4 from rfl]; omega⟩
    intro z hz
    rcases List.mem_append.1 hz with hz | hz
    · simp only [f4, List.mem_cons, List.not_mem_nil, or_false] at hz
      rcases hz with rfl | rfl | rfl | rfl <;> exact sxS_ne (by omega) (by omega)
    · exact i1 z hz
theorem tr1_no {l : List Int} (h : ∀ z ∈ l, z ≠ 61) : tr1 l = l := by
  rcases snoc_cases l with rfl | ⟨r, c, rfl⟩
  · rfl
  · rw [tr1_snoc, if_neg (h c (by simp))]
theorem d64_b64E (l : List Int) (h : Byt l) : d64 (b64E l) = some l := by
  obtain ⟨h1, h2⟩ := sp6_no l h
  have g := ga6_sp6 l h
  unfold d64 b64E
  generalize sp6 .z l = t at *
  rcases (show t.length % 4 = 0 ∨ t.length % 4 = 2 ∨ t.length % 4 = 3 by omega) with e | e | e
  · rw [e]
    simp only [fil, List.append_nil]
    rw [if_pos e, tr1_no h1, tr1_no h1, g]
  · rw [e]
    simp only [fil]
    rw [if_pos (by simp; omega), show t ++ [61, 61] = (t ++ [61]) ++ [61] by simp, tr1_snoc, if_pos rfl, tr1_snoc, if_pos rfl, g]
  · rw [e]
    simp only [fil]
    rw [if_pos (by simp; omega), tr1_snoc, if_pos rfl, tr1_no h1, g]
theorem b64E_d64 (s l : List Int) (hs : Byt s) (h : d64 s = some l) : b64E l = s ∧ Byt l := by
  unfold d64 at h
  by_cases h0 : s.length % 4 = 0
  · rw [if_pos h0] at h
    obtain ⟨h1, h2⟩ := sp6_ga6 _ l (tr1_byt (tr1_byt hs)) h
    refine ⟨?_, h2⟩
    unfold b64E
    rw [h1]
    rcases snoc_cases s with rfl | ⟨r, c, rfl⟩
    · rfl
    · rw [tr1_snoc]
      by_cases hc : c = 61
      · rw [if_pos hc]
        rcases snoc_cases r with rfl | ⟨q, d, rfl⟩
        · simp at h0
        · rw [tr1_snoc]
          simp only [List.length_append, List.length_cons, List.length_nil] at h0
          by_cases hd : d = 61
          · rw [if_pos hd, show q.length % 4 = 2 by omega, hc, hd]; simp [fil]
          · rw [if_neg hd, show (q ++ [d]).length % 4 = 3 by simp; omega, hc]; simp [fil]
      · rw [if_neg hc, tr1_snoc, if_neg hc, h0]; simp [fil]
  · rw [if_neg h0] at h; cases h

/-- Which number a sign stands for; none: 0. -/
def p6 (c : Int) : Int := if n6 c < 0 then 0 else n6 c
def is61 (c : Int) : Nat := if c = 61 then 1 else 0
def four6 (a b c d : Int) : Int := ((p6 a * 64 + p6 b) * 64 + p6 c) * 64 + p6 d
def many6 (a b c d : Int) : Nat := 3 - (is61 a + is61 b + is61 c + is61 d)
def three6 (n : Int) : List Int := [n / 65536 % 256, n / 256 % 256, n % 256]
/-- The reference's bytes of signs, before they are coded again. -/
def rd6 : List Int → List Int
  | a :: b :: c :: d :: r => (three6 (four6 a b c d)).take (many6 a b c d) ++ rd6 r
  | _ => []
theorem p6_sx {n : Int} (h : 0 ≤ n) (h1 : n < 64) : p6 (sxS n) = n := by unfold p6; rw [n6_sx h h1, if_neg (by omega)]
theorem p6_61 : p6 61 = 0 := by decide +kernel
theorem is61_sx {n : Int} (h : 0 ≤ n) (h1 : n < 64) : is61 (sxS n) = 0 := by unfold is61; rw [if_neg (sxS_ne h h1)]
theorem p6_b {c : Int} (h : 0 ≤ c ∧ c < 256) : 0 ≤ p6 c ∧ p6 c < 64 := by
  unfold p6
  rcases n6_b h with ⟨a, _⟩ | ⟨a, b, _⟩
  · rw [if_pos a]; omega
  · rw [if_neg (by omega)]; omega
theorem rd6_b64E : ∀ l, Byt l → rd6 (b64E l) = l
  | [], _ => rfl
  | [a], h => by
    have ha := h.head
    rw [b64E_one]
    simp only [rd6, four6, many6, p6_61, is61_sx (n := a / 4) (by omega) (by omega), is61_sx (n := a % 4 * 16) (by omega) (by omega), p6_sx (n := a / 4) (by omega) (by omega), p6_sx (n := a % 4 * 16) (by omega) (by omega)]
    rw [show 3 - (0 + 0 + is61 61 + is61 61) = 1 from rfl]
    simp only [three6, List.take_succ_cons, List.take_zero, List.append_nil]
    rw [show (((a / 4 * 64 + a % 4 * 16) * 64 + 0) * 64 + 0) / 65536 % 256 = a by omega]
  | [a, b], h => by
    have ha := h.head
    have hb := h.tail.head
    rw [b64E_two]
    simp only [rd6, four6, many6, p6_61, is61_sx (n := a / 4) (by omega) (by omega), is61_sx (n := (a % 4 * 256 + b) / 16) (by omega) (by omega), is61_sx (n := b % 16 * 4) (by omega) (by omega), p6_sx (n := a / 4) (by omega) (by omega), p6_sx (n := (a % 4 * 256 + b) / 16) (by omega) (by omega), p6_sx (n := b % 16 * 4) (by omega) (by omega)]
    rw [show 3 - (0 + 0 + 0 + is61 61) = 2 from rfl]
    simp only [three6, List.take_succ_cons, List.take_zero, List.append_nil]
    rw [show (((a / 4 * 64 + (a % 4 * 256 + b) / 16) * 64 + b % 16 * 4) * 64 + 0) / 65536 % 256 = a by omega, show (((a / 4 * 64 + (a % 4 * 256 + b) / 16) * 64 + b % 16 * 4) * 64 + 0) / 256 % 256 = b by omega]
  | a :: b :: c :: r, h => by
    have ha := h.head
    have hb := h.tail.head
    have hc := h.tail.tail.head
    rw [b64E_three]
    simp only [f4, List.cons_append, List.nil_append, rd6, rd6_b64E r h.tail.tail.tail, four6, many6, is61_sx (n := a / 4) (by omega) (by omega), is61_sx (n := (a % 4 * 256 + b) / 16) (by omega) (by omega), is61_sx (n := (b % 16 * 256 + c) / 64) (by omega) (by omega), is61_sx (n := c % 64) (by omega) (by omega), p6_sx (n := a / 4) (by omega) (by omega), p6_sx (n := (a % 4 * 256 + b) / 16) (by omega) (by omega), p6_sx (n := (b % 16 * 256 + c) / 64) (by omega) (by omega), p6_sx (n := c % 64) (by omega) (by omega)]
    rw [show 3 - (0 + 0 + 0 + 0) = 3 from rfl]
    simp only [three6, List.take_succ_cons, List.take_zero, List.cons_append, List.nil_append]
    rw [show (((a / 4 * 64 + (a % 4 * 256 + b) / 16) * 64 + (b % 16 * 256 + c) / 64) * 64 + c % 64) / 65536 % 256 = a by omega, show (((a / 4 * 64 + (a % 4 * 256 + b) / 16) * 64 + (b % 16 * 256 + c) / 64) * 64 + c % 64) / 256 % 256 = b by omega, show (((a / 4 * 64 + (a % 4 * 256 + b) / 16) * 64 + (b % 16 * 256 + c) / 64) * 64 + c % 64) % 256 = c by omega]
theorem three6_byt (n : Int) (k : Nat) : Byt ((three6 n).take k) := by
  intro z hz
  have hz := List.mem_of_mem_take hz
  simp only [three6, List.mem_cons, List.not_mem_nil, or_false] at hz
  rcases hz with rfl | rfl | rfl <;> omega
theorem rd6_byt : ∀ l, Byt (rd6 l)
  | [] => Byt.nil
  | [_] => Byt.nil
  | [_, _] => Byt.nil
  | [_, _, _] => Byt.nil
  | a :: b :: c :: d :: r => by simp only [rd6]; exact Byt.app (three6_byt _ _) (rd6_byt r)
theorem rd6_len : ∀ l, (rd6 l).length ≤ l.length
  | [] => by simp [rd6]
  | [_] => by simp [rd6]
  | [_, _] => by simp [rd6]
  | [_, _, _] => by simp [rd6]
  | a :: b :: c :: d :: r => by
    have := rd6_len r
    have h3 : ((three6 (four6 a b c d)).take (many6 a b c d)).length ≤ 3 := by rw [List.length_take]; exact Nat.min_le_right _ _
    simp only [rd6, List.length_append, List.length_cons]; omega
theorem ref6_eq (s : List Int) (hs : Byt s) : (if b64E (rd6 s) = s then some (rd6 s) else none) = d64 s := by
  cases h : d64 s with
  | none =>
    rw [if_neg]
    intro e
    rw [← e, d64_b64E _ (rd6_byt s)] at h
    cases h
  | some l =>
    obtain ⟨h1, h2⟩ := b64E_d64 s l hs h
    have h3 : rd6 s = l := by rw [← h1]; exact rd6_b64E l h2
    rw [h3, if_pos h1]
theorem b64E_app : ∀ a b : List Int, a.length % 3 = 0 → b64E (a ++ b) = b64E a ++ b64E b
  | [], b, _ => rfl
  | [_], b, h => by simp at h
  | [_, _], b, h => by simp at h
  | x :: y :: z :: r, b, h => by
    rw [show x :: y :: z :: r ++ b = x :: y :: z :: (r ++ b) from rfl, b64E_three, b64E_three, b64E_app r b (by simp at h; omega), List.append_assoc]

/-- What the reference makes of up to three bytes: their number, then signs. -/
def num3 (a b c : Int) : Int := a * 65536 + b * 256 + c
def s4 (n : Int) : List Int := [sxS (n / 262144), sxS (n / 4096 % 64), sxS (n / 64 % 64), sxS (n % 64)]
theorem s4_three {a b c : Int} (hb : 0 ≤ b ∧ b < 256) (hc : 0 ≤ c ∧ c < 256) : s4 (num3 a b c) = f4 a b c := by
  unfold s4 f4 num3
  rw [show (a * 65536 + b * 256 + c) / 262144 = a / 4 by omega, show (a * 65536 + b * 256 + c) / 4096 % 64 = (a % 4 * 256 + b) / 16 by omega, show (a * 65536 + b * 256 + c) / 64 % 64 = (b % 16 * 256 + c) / 64 by omega, show (a * 65536 + b * 256 + c) % 64 = c % 64 by omega]
theorem s4_one {a : Int} : [sxS (num3 a 0 0 / 262144), sxS (num3 a 0 0 / 4096 % 64), 61, 61] = b64E [a] := by
  rw [b64E_one]
  unfold num3
  rw [show (a * 65536 + 0 * 256 + 0) / 262144 = a / 4 by omega, show (a * 65536 + 0 * 256 + 0) / 4096 % 64 = a % 4 * 16 by omega]
theorem s4_two {a b : Int} (hb : 0 ≤ b ∧ b < 256) : [sxS (num3 a b 0 / 262144), sxS (num3 a b 0 / 4096 % 64), sxS (num3 a b 0 / 64 % 64), 61] = b64E [a, b] := by
  rw [b64E_two]
  unfold num3
  rw [show (a * 65536 + b * 256 + 0) / 262144 = a / 4 by omega, show (a * 65536 + b * 256 + 0) / 4096 % 64 = (a % 4 * 256 + b) / 16 by omega, show (a * 65536 + b * 256 + 0) / 64 % 64 = b % 16 * 4 by omega]
end Go.Proofs.Ytmbjdegfgidadaa

namespace Go.Proofs.Ytmbjdegfgidadaa
open Go.RowKit Go.Maps

theorem bl2 {w w1 w2 : World} (h : Below w.heap.size w w1) (k : Below w1.heap.size w1 w2) : Below w.heap.size w w2 := h.trans (k.mono h.size)

theorem ex1 : strOfNums (hexE [0, 171]) = ⟨#[48, 48, 97, 98]⟩ := by decide +kernel
theorem ex2 : strOfNums (b64E [97]) = ⟨#[89, 81, 61, 61]⟩ := by decide +kernel
theorem ex3 : strOfNums (b64E [97, 98, 99]) = ⟨#[89, 87, 74, 106]⟩ := by decide +kernel

set_option maxHeartbeats 1000000 in
theorem alive_t (w : World) : Calls Try.prog 7 #[] w fun e w' => e = .returned (.bool true) ∧ Below w.heap.size w w' := by
  have kc := fun (w : World) (C : Array Value) (n c : Nat) => Lib.run_convert_bytes_const (P := Try.prog) w 22 5 C n c Try.underlying22 Try.underlying5
  go_enter Try.func7, Try.ntmps7
  go_wp2_with fail
  refine (hex_d _ 2 2 [0, 171] _ (bs_new w [0, 171] (0, 0) (by decide)) (by omega)).mono ?_
  rintro e w1 ⟨rfl, hw1⟩
  have hw1 := bl2 (below_one w _) hw1
  rw [ex1]
  go_wp2_with fail
  refine (base64_d _ 1 1 [97] _ (bs_new w1 [97] (1, 2) (by decide)) (by omega)).mono ?_
  rintro e w2 ⟨rfl, hw2⟩
  have hw2 := bl2 hw1 (bl2 (below_one w1 _) hw2)
  clear hw1
  rw [ex2]
  go_wp2_with fail
  refine (base64_d _ 3 3 [97, 98, 99] _ (bs_new w2 [97, 98, 99] (3, 4) (by decide)) (by omega)).mono ?_
  rintro e w3 ⟨rfl, hw3⟩
  have hw3 := bl2 hw2 (bl2 (below_one w2 _) hw3)
  clear hw2
  rw [ex3]
  go_wp2_with fail
  go_ret
  exact ⟨rfl, hw3⟩

theorem own_empty (w : World) : (w.alloc (.cells #[] 5)).ownsRow w.heap.size 5 1 (.slice (some ⟨w.heap.size, 0, none⟩) 0 0) 0 (byteVals []) := ⟨rfl, .inr ⟨w.heap.size, 0, #[], rfl, Nat.le_refl _, (MapKept.heap_alloc w _).1, Nat.le_refl _, by decide, rfl, rfl⟩⟩
theorem str_app (a b : List Int) : strOfNums a ++ strOfNums b = strOfNums (a ++ b) := by
  apply ByteArray.ext
  apply Array.ext'
  rw [ByteArray.data_append, Array.toList_append, strOfNums_data, strOfNums_data, strOfNums_data, List.map_append]
theorem str_eq {a b : List Int} (h : a = b) : ((strOfNums a).toList == (strOfNums b).toList) = true := by subst h; simp

theorem b64E_len (l : List Int) : (b64E l).length ≤ 2 * l.length + 4 := by
  have h := sp6_len l .z
  unfold b64E
  rw [List.length_append]
  have : ∀ n, (fil n).length ≤ 3 := by intro n; unfold fil; split <;> simp
  have := this ((sp6 .z l).length % 4)
  omega
/-- The first ones of a row of bytes. -/
theorem Bs.take {w : World} {a : Option Addr} {len : Nat} {zs : List Int} (h : Bs w a len zs) {k : Nat} (hk : k ≤ len) : Bs w a k (zs.take k) := by
  obtain ⟨h1, h2, h3⟩ := h
  refine ⟨by simp; omega, fun z hz => h2 z (List.mem_of_mem_take hz), fun hp => ?_⟩
  obtain ⟨b, off, rfl, hc⟩ := h3 (by omega)
  refine ⟨b, off, rfl, fun i hi => ?_⟩
  rw [hc i (by omega)]
  simp [List.getD_eq_getElem?_getD, hi]

set_option maxHeartbeats 4000000 in
theorem joins_walk (a : Option Addr) (len cap : Nat) (za : List Int) (b : Option Addr) (lb cb : Nat) (zb : List Int) (w : World) (ha : Bs w a len za) (hb : Bs w b lb zb) (hc : len ≤ cap) :
    Calls Try.prog 6 #[.slice a len cap, .slice b lb cb] w fun e w' => e = .returned (.bool true) ∧ Below w.heap.size w w' := by
  go_enter Try.func6, Try.ntmps6
  go_wp2_with fail
  refine (alive_t _).mono ?_
  rintro e w1 ⟨rfl, hw1⟩
  by_cases h1 : 1000 < len
  · go_wp2_with fail
    go_ret
    exact ⟨rfl, hw1⟩
  by_cases h2 : 1000 < lb
  · go_wp2_with fail
    go_ret
    exact ⟨rfl, hw1⟩
  have ha1 := ha.later hw1
  have hb1 := hb.later hw1
  have ho := own_empty w1
  have hwe := below_one w1 (.cells #[] 5)
  go_wp2_with (at_builtin; refine stopAt ?_)
  refine hide1 ?_
  refine wpList_append_bs rfl (.tmp 18) (.tmp 19) rfl w1.heap.size _ _ _ rfl ho _ _ _ _ rfl (ha1.later hwe) (by omega) hwe.size ?_
  intro v2 w2 ho2 hg2
  have hw2 : Below w1.heap.size w1 w2 := hwe.grown hg2 hwe.size (fun j e => (ho.lt j e).1)
  rw [byteVals_app, List.nil_append, Nat.zero_add] at ho2
  clear ho hwe hg2
  go_wp2_with (at_builtin; refine wpList_append_bs rfl (.tmp 20) (.tmp 21) rfl w1.heap.size _ _ _ rfl ho2 _ _ _ _ rfl (hb1.later hw2) (by omega) hw2.size ?_; intro v3 w3 ho3 hg3; have hw3 := hw2.grown hg3 hw2.size (fun j e => (ho2.lt j e).1); refine stopAt ?_)
  refine hide1 ?_
  rw [byteVals_app] at ho3
  have hab : Byt (za ++ zb) := Byt.app ha.2.1 hb.2.1
  obtain ⟨a3, c3, rfl, hb3, _⟩ := bs_owned ho3 hab
  clear ho2 hg3 hw2 ho3
  have hlt : len / 3 * 3 ≤ len := Nat.div_mul_le_self _ _
  have ht3 := ha1.take hlt
  have hw13 := bl2 hw1 hw3
  have ha3 := ha.later hw13
  have hb3' := hb.later hw13
  have ht3 := ha3.take hlt
  clear ha1 hb1 hw3
  have ho := own_empty w3
  have hwe := below_one w3 (.cells #[] 5)
  have hT : za.take (len / 3 * 3) = za.take (len / 3 * 3) := rfl
  have hT3 : (za.take (len / 3 * 3)).length % 3 = 0 := by rw [ht3.1]; omega
  generalize za.take (len / 3 * 3) = T at *
  obtain ⟨k, hk⟩ : ∃ k, Hid (k = len / 3 * 3) := ⟨_, hide1 rfl⟩
  have hkI : ((len : Int) / 3 * 3) = (k : Int) := by rw [hk.out]; omega
  rw [← hk.out] at hlt ht3
  go_wp2_with (at_builtin; refine stopAt ?_)
  refine hide1 ?_
  refine wpList_append_bs rfl (.tmp 29) (.tmp 30) rfl w3.heap.size _ _ _ rfl ho _ _ _ _ rfl (ht3.later hwe) (by omega) hwe.size ?_
  intro v4 w4 ho4 hg4
  have hw4 : Below w3.heap.size w3 w4 := hwe.grown hg4 hwe.size (fun j e => (ho.lt j e).1)
  rw [byteVals_app, List.nil_append, Nat.zero_add] at ho4
  clear ho hwe hg4
  go_wp2_with (at_builtin; refine wpList_append_bs rfl (.tmp 31) (.tmp 32) rfl w3.heap.size _ _ _ rfl ho4 _ _ _ _ rfl (hb3'.later hw4) (by omega) hw4.size ?_; intro v5 w5 ho5 hg5; have hw5 := hw4.grown hg5 hw4.size (fun j e => (ho4.lt j e).1); refine stopAt ?_)
  refine hide1 ?_
  rw [byteVals_app] at ho5
  have htb : Byt (T ++ zb) := Byt.app ht3.2.1 hb.2.1
  obtain ⟨a5, c5, rfl, hb5, _⟩ := bs_owned ho5 htb
  clear ho4 hg5 hw4 ho5
  have hw15 := bl2 hw13 hw5
  have ha5 := ha.later hw15
  have hbb5 := hb.later hw15
  have ht5 := ht3.later hw5
  have hx5 := hb3.later hw5
  clear ht3 hb3 ha3 hb3' hw5 hw13 hw1 hkI hT
  go_wp2_with fail
  refine (hex_d _ _ _ _ _ hx5 (by omega)).mono ?_
  rintro e w6 ⟨rfl, hw6⟩
  go_wp2_with fail
  refine (hex_d _ _ _ _ _ (ha5.later hw6) (by omega)).mono ?_
  rintro e w7 ⟨rfl, hw7⟩
  have hw7 := bl2 hw6 hw7
  go_wp2_with fail
  refine (hex_d _ _ _ _ _ (hbb5.later hw7) (by omega)).mono ?_
  rintro e w8 ⟨rfl, hw8⟩
  have hw8 := bl2 hw7 hw8
  clear hw7 hw6
  have E1 : strOfNums (hexE za) ++ strOfNums (hexE zb) = strOfNums (hexE (za ++ zb)) := by rw [str_app, hexE_app]
  have E2 : strOfNums (b64E T) ++ strOfNums (b64E zb) = strOfNums (b64E (T ++ zb)) := by rw [str_app, b64E_app T zb hT3]
  have z1 : (strOfNums (hexE za)).size ≤ 2000 := by rw [str_size, hexE_len, ha.1]; omega
  have z2 : (strOfNums (hexE zb)).size ≤ 2000 := by rw [str_size, hexE_len, hb.1]; omega
  have z3 : (strOfNums (b64E T)).size ≤ 100000 := by rw [str_size]; have := b64E_len T; rw [ht5.1] at this; omega
  have z4 : (strOfNums (b64E zb)).size ≤ 100000 := by rw [str_size]; have := b64E_len zb; rw [hb.1] at this; omega
  generalize strOfNums (hexE za) = S1 at *
  generalize strOfNums (hexE zb) = S2 at *
  generalize strOfNums (hexE (za ++ zb)) = S3 at *
  go_wp2_with fail
  refine (base64_d _ _ _ _ _ (hb5.later hw8) (by omega)).mono ?_
  rintro e w9 ⟨rfl, hw9⟩
  have hw9 := bl2 hw8 hw9
  go_wp2_with fail
  refine (base64_d _ _ _ _ _ (ht5.later hw9) (by omega)).mono ?_
  rintro e w10 ⟨rfl, hw10⟩
  have hw10 := bl2 hw9 hw10
  go_wp2_with fail
  refine (base64_d _ _ _ _ _ (hbb5.later hw10) (by omega)).mono ?_
  rintro e w11 ⟨rfl, hw11⟩
  have hw11 := bl2 hw10 hw11
  clear hw10 hw9 hw8
  generalize strOfNums (b64E T) = S4 at *
  generalize strOfNums (b64E zb) = S5 at *
  generalize strOfNums (b64E (T ++ zb)) = S6 at *
  go_wp2_with fail
  go_ret
  exact ⟨rfl, bl2 hw15 hw11⟩
end Go.Proofs.Ytmbjdegfgidadaa

namespace Go.Proofs.Ytmbjdegfgidadaa
open Go.RowKit

theorem step_append_bs {w : World} {ops : Array Oper} {o : Oper} {a : Act} {K : Act → World → Prop} {Q : Exit → Act → World → Prop} {E : Prop} (hgd : o.guard = none) (s x : Operand)
    (ho : o.op = .call { callee := .builtin .append, args := #[s, x], argTypes := #[22, 22] }) (base : Nat)
    (v : Value) (n : Nat) (xs : List Value) (hs : a.eval s = v) (hown : w.ownsRow base 5 1 v n xs) (ad : Option Addr) (m c : Nat) (zs : List Int) (hx : a.eval x = .slice ad m c) (hb : Bs w ad m zs)
    (hbytes : n + m ≤ 140737488355328) (hbase : base ≤ w.heap.size)
    (h : ∀ v' w', w'.ownsRow base 5 1 v' (n + m) (xs ++ byteVals zs) → w.grownBy w' v.ownBlock → K (a.put o.dst v') w') : if Region.wanted o (yielded ops a.tmps) = true then Oper.wp Try.prog o a w K Q else E := by
  have hw : Region.wanted o (yielded ops a.tmps) = true := by simp [Region.wanted, hgd]
  rw [if_pos hw]
  obtain ⟨v', w', hr, h2, h3⟩ := run_append_bs w base o.type v n xs hown ad m c zs hb hbytes hbase
  unfold Oper.wp execOp
  simp only [ho, resolve, invoke, builtin, Sem.run_bind, Sem.run_pure, Result.andThen_ok, List.map_toArray, List.map_cons, List.map_nil, hs, hx, hr]
  exact h v' w' h2 h3

theorem wrap_u8 (n : Nat) (h : n < 256) : IntKind.u8.wrap (n : Int) = (n : Int) := by
  have e : (n : Int) % 2 ^ 8 = n := Int.emod_eq_of_lt (by omega) (by omega)
  simp only [IntKind.wrap, IntKind.bits, IntKind.signed, e]
  simp
theorem bs_two' (w : World) (x y : Int) (hx : 0 ≤ x ∧ x < 256) (hy : 0 ≤ y ∧ y < 256) : Bs (w.alloc (.cells #[.int .u8 x, .int .u8 y] 5)) (some ⟨w.heap.size, 0, none⟩) 2 [x, y] := bs_new w [x, y] (0, 0) (by simp; omega)

set_option maxHeartbeats 4000000 in
theorem refHex_d (a : Option Addr) (len cap : Nat) (zs : List Int) (w : World) (hb : Bs w a len zs) (hm : len ≤ 1000000) :
    Calls Try.prog 13 #[.slice a len cap] w fun e w' => e = .returned (.string (strOfNums (hexE zs))) ∧ Below w.heap.size w w' := by
  have hbyE := hexE_byt zs hb.2.1
  obtain ⟨hz, hby, hc⟩ := hb
  go_enter Try.func13, Try.ntmps13
  go_wp2_with fail
  go_loopw [4, 5] (fun v i wr => ∃ j : Nat, j ≤ len ∧ i = .int .i64 j ∧ wr.ownsRow w.heap.size 5 1 v (2 * j) (byteVals (hexE (zs.take j))) ∧ Below w.heap.size w wr) (fun _ i _ => len - (intOf i).toNat)
  case atStart => exact ⟨0, by omega, rfl, ⟨rfl, .inl ⟨rfl, rfl⟩⟩, Below.refl _ _⟩
  case round =>
    obtain ⟨j, hj, rfl, ho, hw⟩ := hrel
    by_cases hlt : j < len
    · obtain ⟨b', off, rfl, hcell⟩ := hc (by omega)
      have hck := cell_later hw (hcell j hlt)
      have hbk := hby _ (getD_mem (l := zs) (k := j) (by omega))
      have hts := hide1 (take_snoc zs j (by omega))
      generalize hcc : zs.getD j 0 = c at *
      obtain ⟨c, rfl⟩ := Int.eq_ofNat_of_zero_le hbk.1
      have hc256 : c < 256 := by omega
      clear hcc hc hcell hbk
      have hZ := hexC_z
      obtain ⟨d1, hd1⟩ : ∃ d, Hid (d = c / 16) := ⟨_, hide1 rfl⟩
      obtain ⟨d2, hd2⟩ : ∃ d, Hid (d = c % 16) := ⟨_, hide1 rfl⟩
      have q1 : IntKind.u8.wrap ((c : Int) / 16) = (d1 : Int) := by rw [hd1.out, ← wrap_u8 (c / 16) (by omega)]; congr 1
      have q2 : (c : Int).tmod 16 = (d2 : Int) := by rw [hd2.out]; rfl
      have r1 : (d1 : Int) < 16 := by rw [hd1.out]; omega
      have r2 : (d2 : Int) < 16 := by rw [hd2.out]; omega
      have Hg := hexC_at d1 (by rw [hexC_z]; omega)
      have Hg2 := hexC_at d2 (by rw [hexC_z]; omega)
      go_wp2_with fail
      rw [show (⟨#[48, 49, 50, 51, 52, 53, 54, 55, 56, 57, 97, 98, 99, 100, 101, 102]⟩ : ByteArray) = hexC from rfl]
      have hoD : wr.drew.ownsRow w.heap.size 5 1 u4 (2 * j) (byteVals (hexE (zs.take j))) := ho
      have hwD : Below w.heap.size w wr.drew := hw.drew
      go_region_law (refine step_append_bs rfl (.tmp 12) (.tmp 27) rfl w.heap.size u4 (2 * j) (byteVals (hexE (zs.take j))) (by first | (simp [Act.eval]; done) | (simp [Act.eval, Act.put]; done) | rfl) (hoD.alloc _) (some ⟨wr.heap.size, 0, none⟩) 2 2 [hxS (d1 : Int), hxS (d2 : Int)] (by first | (simp [Act.eval]; done) | (simp [Act.eval, Act.put]; done) | rfl) (bs_two' wr.drew _ _ (hxS_byte (by omega) (by omega)) (hxS_byte (by omega) (by omega))) (by omega) (by have := hw.size; simp; omega) ?_; intro v1 w1 ho1 hg1; have hw1 := below_app hwD (Nat.le_refl _) hoD hg1)
      all_goals
        rw [byteVals_app] at ho1
        simp only [Act.put, List.setIfInBounds_toArray]
        rw [show hexC = (⟨#[48, 49, 50, 51, 52, 53, 54, 55, 56, 57, 97, 98, 99, 100, 101, 102]⟩ : ByteArray) from rfl]
        clear hck Hg Hg2 q1 q2 ho hoD hg1
        go_wp2_with fail
        go_roundw
        case rel =>
          refine ⟨j + 1, by omega, by go_num, ?_, hw1⟩
          rw [hts.out, hexE_app]
          simp only [hexE]
          rw [show (c : Int) / 16 = (d1 : Int) by rw [hd1.out]; omega, show (c : Int) % 16 = (d2 : Int) by rw [hd2.out]; omega]
          exact ho1
        case measure => simp [intOf]; omega
    · obtain rfl : j = len := by omega
      rw [List.take_of_length_le (by omega)] at ho
      obtain ⟨a1, c1, rfl, hb1, _⟩ := bs_owned ho hbyE
      have k1 := conv_bs hb1 c1
      go_wp2
      go_ret
      exact ⟨rfl, hw⟩
end Go.Proofs.Ytmbjdegfgidadaa

namespace Go.Proofs.Ytmbjdegfgidadaa
open Go.RowKit

set_option maxHeartbeats 1000000 in
theorem six_r (n : Nat) (h : n < 64) (w : World) : Calls Try.prog 28 #[.int .i64 (n : Int)] w fun e w' => e = .returned (.int .u8 (sxS n)) ∧ w' = w := by
  unfold sxS
  by_cases h1 : n < 26
  · go_enter Try.func28, Try.ntmps28
    go_wp2_with fail
    go_ret
    exact ⟨ret_int (by omega), rfl⟩
  by_cases h2 : n < 52
  · go_enter Try.func28, Try.ntmps28
    go_wp2_with fail
    go_ret
    exact ⟨ret_int (by omega), rfl⟩
  by_cases h3 : n < 62
  · go_enter Try.func28, Try.ntmps28
    go_wp2_with fail
    go_ret
    exact ⟨ret_int (by omega), rfl⟩
  by_cases h4 : n = 62
  · subst h4
    go_enter Try.func28, Try.ntmps28
    go_wp2_with fail
    go_ret
    exact ⟨rfl, rfl⟩
  obtain rfl : n = 63 := by omega
  go_enter Try.func28, Try.ntmps28
  go_wp2_with fail
  go_ret
  exact ⟨rfl, rfl⟩

set_option maxHeartbeats 1000000 in
theorem place6 (c : Int) (hc : 0 ≤ c ∧ c < 256) (w : World) : Calls Try.prog 29 #[.int .u8 c, .int .i64 6] w fun e w' => e = .returned (.int .i64 (n6 c)) ∧ w' = w := by
  go_enter Try.func29, Try.ntmps29
  go_wp2_with fail
  go_loop [5] (fun i => ∃ k : Nat, k ≤ 64 ∧ i = .int .i64 k ∧ ∀ m : Nat, m < k → sxS m ≠ c) (fun i => 64 - (intOf i).toNat)
  case atStart => exact ⟨0, by omega, rfl, fun m hm => absurd hm (by omega)⟩
  case round =>
    obtain ⟨k, hk, rfl, hno⟩ := hrel
    by_cases hlt : k < 64
    · go_wp2_with fail
      refine (six_r k hlt _).mono ?_
      rintro e w1 ⟨rfl, rfl⟩
      by_cases he : sxS k = c
      · have hn : n6 c = k := by rw [← he]; exact n6_sx (by omega) (by omega)
        have hb : (sxS k == c) = true := by simp [he]
        clear hno
        go_wp2_with fail
        go_ret
        first | exact ⟨rfl, rfl⟩ | exact ⟨ret_int hn.symm, rfl⟩
      · have hb : (sxS k == c) = false := by simp [he]
        go_wp2_with fail
        go_roundw
        case rel =>
          refine ⟨k + 1, by omega, by go_num, fun m hm => ?_⟩
          rcases (show m < k ∨ m = k by omega) with h | rfl
          · exact hno m h
          · exact he
        case measure => simp [intOf]; omega
    · have hn : n6 c = -1 := by
        rcases n6_b hc with ⟨_, h⟩ | ⟨h0, h1, h2⟩
        · exact h
        · exfalso
          refine hno (n6 c).toNat (by omega) ?_
          rw [Int.toNat_of_nonneg h0, h2]
      clear hno
      go_wp2_with fail
      go_ret
      first | exact ⟨rfl, rfl⟩ | exact ⟨ret_int hn.symm, rfl⟩

set_option maxHeartbeats 1000000 in
theorem place4 (c : Int) (hc : 0 ≤ c ∧ c < 256) (w : World) : Calls Try.prog 29 #[.int .u8 c, .int .i64 4] w fun e w' => e = .returned (.int .i64 (n4 c)) ∧ w' = w := by
  go_enter Try.func29, Try.ntmps29
  go_wp2_with fail
  go_loop [5] (fun i => ∃ k : Nat, k ≤ 64 ∧ i = .int .i64 k ∧ ∀ m : Nat, m < k → m < 16 → hxS m ≠ c) (fun i => 64 - (intOf i).toNat)
  case atStart => exact ⟨0, by omega, rfl, fun m hm => absurd hm (by omega)⟩
  case round =>
    obtain ⟨k, hk, rfl, hno⟩ := hrel
    by_cases hlt : k < 64
    · by_cases h16 : k < 16
      · have hZ := hexC_z
        have Hk : k < (⟨#[48, 49, 50, 51, 52, 53, 54, 55, 56, 57, 97, 98, 99, 100, 101, 102]⟩ : ByteArray).size := by rw [show (⟨#[48, 49, 50, 51, 52, 53, 54, 55, 56, 57, 97, 98, 99, 100, 101, 102]⟩ : ByteArray).size = 16 from rfl]; omega
        have Hg : ((((⟨#[48, 49, 50, 51, 52, 53, 54, 55, 56, 57, 97, 98, 99, 100, 101, 102]⟩ : ByteArray)[k]'Hk).toNat : Nat) : Int) = hxS k := hexC_at k Hk
        by_cases he : hxS k = c
        · have hn : n4 c = k := by rw [← he]; exact n4_hx (by omega) (by omega)
          have hb : (hxS k == c) = true := by simp [he]
          clear hno
          go_wp2_with fail
          go_ret
          first | exact ⟨rfl, rfl⟩ | exact ⟨ret_int hn.symm, rfl⟩
        · have hb : (hxS k == c) = false := by simp [he]
          go_wp2_with fail
          go_roundw
          case rel =>
            refine ⟨k + 1, by omega, by go_num, fun m hm hm2 => ?_⟩
            rcases (show m < k ∨ m = k by omega) with h | rfl
            · exact hno m h hm2
            · exact he
          case measure => simp [intOf]; omega
      · go_wp2_with fail
        go_roundw
        case rel =>
          refine ⟨k + 1, by omega, by go_num, fun m hm hm2 => ?_⟩
          exact hno m (by omega) hm2
        case measure => simp [intOf]; omega
    · have hn : n4 c = -1 := by
        rcases n4_b hc with ⟨_, h⟩ | ⟨h0, h1, h2⟩
        · exact h
        · exfalso
          refine hno (n4 c).toNat (by omega) (by omega) ?_
          rw [Int.toNat_of_nonneg h0, h2]
      clear hno
      go_wp2_with fail
      go_ret
      first | exact ⟨rfl, rfl⟩ | exact ⟨ret_int hn.symm, rfl⟩
end Go.Proofs.Ytmbjdegfgidadaa

namespace Go.Proofs.Ytmbjdegfgidadaa
open Go.RowKit Go.Maps

/-- A block of the call's own, a row of the call's own in another block. -/
structure Pl (w u : World) (g : Nat) (cs : Array Value) (t : TypeId) (v : Value) (n : Nat) (out : List Int) : Prop where
  row : u.heap[g]? = some (.cells cs t (0, 0))
  lo : w.heap.size ≤ g
  own : u.ownsRow w.heap.size 5 1 v n (byteVals out)
  ne : ∀ q, v.ownBlock = some q → q ≠ g
  bel : Below w.heap.size w u
theorem Pl.new {w u : World} {v : Value} {n : Nat} {out : List Int} (ho : u.ownsRow w.heap.size 5 1 v n (byteVals out)) (hw : Below w.heap.size w u) (cs : Array Value) (t : TypeId) : Pl w (u.alloc (.cells cs t)) u.heap.size cs t v n out :=
  ⟨(MapKept.heap_alloc u _).1, hw.size, ho.alloc _, fun q hq => by have := (ho.lt q hq).2; omega, hw.alloc hw.size _⟩
theorem own_ne {w u : World} {v : Value} {n : Nat} {xs : List Value} {B e : Nat} (h : w.ownsRow B e 1 v n xs) (hk : ∀ q, v.ownBlock = some q → u.heap[q]? = w.heap[q]?) : u.ownsRow B e 1 v n xs := by
  refine ⟨h.1, ?_⟩
  rcases h.2 with e | ⟨q, cap, cur, rfl, hb, hg, r⟩
  · exact .inl e
  · exact .inr ⟨q, cap, cur, rfl, hb, (hk q rfl).trans hg, r⟩
theorem Pl.set {w u : World} {g : Nat} {cs : Array Value} {t : TypeId} {v : Value} {n : Nat} {out : List Int} (h : Pl w u g cs t v n out) (i : Nat) (x : Value) : Pl w (u.setCell ⟨g, i, none⟩ x) g (cs.setIfInBounds i x) t v n out :=
  ⟨by simp [World.setCell, h.row, Array.getElem?_modify], h.lo, own_ne h.own fun q hq => Below.heap_setCell _ _ _ _ (by simpa using h.ne q hq), h.ne, h.bel.setCell h.lo _⟩
theorem Pl.cell {w u : World} {g : Nat} {cs : Array Value} {t : TypeId} {v : Value} {n : Nat} {out : List Int} (h : Pl w u g cs t v n out) (i : Nat) : u.cell? ⟨g, i, none⟩ = cs[i]? := by simp [World.cell?, h.row]
theorem Pl.froz {w u : World} {g : Nat} {cs : Array Value} {t : TypeId} {v : Value} {n : Nat} {out : List Int} (h : Pl w u g cs t v n out) (i : Nat) : u.frozen? ⟨g, i, none⟩ = false := by simp [World.frozen?, h.row]
theorem Pl.bs {w u : World} {g : Nat} {zs : List Int} {v : Value} {n : Nat} {out : List Int} (h : Pl w u g (zs.map (Value.int .u8)).toArray 5 v n out) (hz : Byt zs) : Bs u (some ⟨g, 0, none⟩) zs.length zs := by
  refine ⟨rfl, hz, fun _ => ⟨g, 0, rfl, fun i hi => ?_⟩⟩
  rw [Nat.zero_add, h.cell]
  simp [hi]
theorem six_i (n : Int) (h0 : 0 ≤ n) (h1 : n < 64) (w : World) : Calls Try.prog 28 #[.int .i64 n] w fun e w' => e = .returned (.int .u8 (sxS n)) ∧ w' = w := by
  obtain ⟨k, rfl⟩ := Int.eq_ofNat_of_zero_le h0
  exact six_r k (by omega) w
end Go.Proofs.Ytmbjdegfgidadaa

namespace Go.Proofs.Ytmbjdegfgidadaa
open Go.RowKit

theorem six_e (n y : Int) (h0 : 0 ≤ n) (h1 : n < 64) (hy : y = sxS n) (w : World) : Calls Try.prog 28 #[.int .i64 n] w fun e w' => e = .returned (.int .u8 y) ∧ w' = w := by rw [hy]; exact six_i n h0 h1 w

set_option maxHeartbeats 4000000 in
theorem refBase64_d (a : Option Addr) (len cap : Nat) (zs : List Int) (w : World) (hb : Bs w a len zs) (hm : len ≤ 1000000) :
    Calls Try.prog 14 #[.slice a len cap] w fun e w' => e = .returned (.string (strOfNums (b64E zs))) ∧ Below w.heap.size w w' := by
  have hbyE := b64E_byt zs hb.2.1
  obtain ⟨hz, hby, hc⟩ := hb
  obtain ⟨B, hB⟩ : ∃ B, Hid (B = b64E zs) := ⟨_, hide1 rfl⟩
  rw [← hB.out] at hbyE ⊢
  go_enter Try.func14, Try.ntmps14
  go_wp2_with fail
  go_loopw [3, 4] (fun v i wr => ∃ j : Nat, j ≤ len + 2 ∧ i = .int .i64 j ∧ ∃ out n, Hid (B = out ++ b64E (zs.drop j)) ∧ Hid (n = out.length) ∧ n ≤ 2 * j ∧ wr.ownsRow w.heap.size 5 1 v n (byteVals out) ∧ Below w.heap.size w wr) (fun _ i _ => len + 3 - (intOf i).toNat)
  case atStart => exact ⟨0, by omega, rfl, [], 0, hide1 (by rw [hB.out]; simp), hide1 rfl, by omega, ⟨rfl, .inl ⟨rfl, rfl⟩⟩, Below.refl _ _⟩
  case round =>
    clear hB
    obtain ⟨j, hj, rfl, out, n, hE, hn, hn2, ho, hw⟩ := hrel
    by_cases hlt : j < len
    · obtain ⟨b', off, rfl, hcell⟩ := hc (by omega)
      clear hc
      have hs := hw.size
      have hE := hE.out
      rcases (show j + 2 < len ∨ j + 2 = len ∨ j + 1 = len by omega) with h3 | h3 | h3
      · have g0 := hby _ (getD_mem (l := zs) (k := j) (by omega))
        have e0 := hcell j (by omega)
        have g1 := hby _ (getD_mem (l := zs) (k := j + 1) (by omega))
        have e1 := hcell (j + 1) (by omega)
        have g2 := hby _ (getD_mem (l := zs) (k := j + 2) (by omega))
        have e2 := hcell (j + 2) (by omega)
        rw [drop_cons zs j (by omega), drop_cons zs (j + 1) (by omega), drop_cons zs (j + 1 + 1) (by omega), b64E_three, ← s4_three g1 g2] at hE
        have hE := hide1 hE
        clear hcell
        generalize zs.getD j 0 = x0 at *
        generalize zs.getD (j + 1) 0 = x1 at *
        generalize zs.getD (j + 2) 0 = x2 at *
        obtain ⟨x0, rfl⟩ := Int.eq_ofNat_of_zero_le g0.1
        obtain ⟨x1, rfl⟩ := Int.eq_ofNat_of_zero_le g1.1
        obtain ⟨x2, rfl⟩ := Int.eq_ofNat_of_zero_le g2.1
        go_wp2_with fail
        have P0 := Pl.new ho hw #[.int .i64 0, .int .i64 0, .int .i64 0] 54
        clear ho
        generalize hgg : wr.heap.size = g at *
        generalize wr.alloc _ = d0 at *
        clear hgg hw
        refine wp_loop_rounds 4 ?_
        rw [rounds_succ]
        have c := cell_later P0.bel e0
        have k0 : d0.cell? ⟨g, 0, none⟩ = _ := P0.cell 0
        have f0 := P0.froz 0
        go_wp2_with fail
        have P1 : Pl w (d0.setCell ⟨g, 0, none⟩ (.int .i64 (x0 : Int))) g #[.int .i64 (x0 : Int), .int .i64 0, .int .i64 0] 54 u3 n out := P0.set 0 _
        clear c k0 f0 P0 e0
        generalize d0.setCell _ _ = d1 at *
        clear d0
        rw [rounds_succ]
        have c := cell_later P1.bel e1
        have k0 : d1.cell? ⟨g, 1, none⟩ = _ := P1.cell 1
        have f0 := P1.froz 1
        go_wp2_with fail
        have P2 : Pl w (d1.setCell ⟨g, 1, none⟩ (.int .i64 (x1 : Int))) g #[.int .i64 (x0 : Int), .int .i64 (x1 : Int), .int .i64 0] 54 u3 n out := P1.set 1 _
        clear c k0 f0 P1 e1
        generalize d1.setCell _ _ = d2 at *
        clear d1
        rw [rounds_succ]
        have c := cell_later P2.bel e2
        have k0 : d2.cell? ⟨g, 2, none⟩ = _ := P2.cell 2
        have f0 := P2.froz 2
        go_wp2_with fail
        have P3 : Pl w (d2.setCell ⟨g, 2, none⟩ (.int .i64 (x2 : Int))) g #[.int .i64 (x0 : Int), .int .i64 (x1 : Int), .int .i64 (x2 : Int)] 54 u3 n out := P2.set 2 _
        clear c k0 f0 P2 e2
        generalize d2.setCell _ _ = d3 at *
        clear d2
        rw [rounds_succ]
        have k0 : d3.cell? ⟨g, 0, none⟩ = _ := P3.cell 0
        have k1 : d3.cell? ⟨g, 1, none⟩ = _ := P3.cell 1
        have k2 : d3.cell? ⟨g, 2, none⟩ = _ := P3.cell 2
        obtain ⟨y0, hy0⟩ : ∃ y, Hid (y = sxS (num3 (x0 : Int) x1 x2 / 262144)) := ⟨_, hide1 rfl⟩
        have b0 : 0 ≤ y0 ∧ y0 < 256 := by rw [hy0.out]; exact sxS_byte (by unfold num3; omega) (by unfold num3; omega)
        obtain ⟨y1, hy1⟩ : ∃ y, Hid (y = sxS (num3 (x0 : Int) x1 x2 / 4096 % 64)) := ⟨_, hide1 rfl⟩
        have b1 : 0 ≤ y1 ∧ y1 < 256 := by rw [hy1.out]; exact sxS_byte (by unfold num3; omega) (by unfold num3; omega)
        obtain ⟨y2, hy2⟩ : ∃ y, Hid (y = sxS (num3 (x0 : Int) x1 x2 / 64 % 64)) := ⟨_, hide1 rfl⟩
        have b2 : 0 ≤ y2 ∧ y2 < 256 := by rw [hy2.out]; exact sxS_byte (by unfold num3; omega) (by unfold num3; omega)
        obtain ⟨y3, hy3⟩ : ∃ y, Hid (y = sxS (num3 (x0 : Int) x1 x2 % 64)) := ⟨_, hide1 rfl⟩
        have b3 : 0 ≤ y3 ∧ y3 < 256 := by rw [hy3.out]; exact sxS_byte (by unfold num3; omega) (by unfold num3; omega)
        go_wp2_with fail
        refine (six_e _ y0 (by omega) (by omega) (hy0.out.trans (congrArg sxS (by unfold num3; omega))) _).mono ?_
        rintro e uu0 ⟨rfl, rfl⟩
        go_wp2_with fail
        refine (six_e _ y1 (by omega) (by omega) (hy1.out.trans (congrArg sxS (by unfold num3; omega))) _).mono ?_
        rintro e uu1 ⟨rfl, rfl⟩
        go_wp2_with fail
        refine (six_e _ y2 (by omega) (by omega) (hy2.out.trans (congrArg sxS (by unfold num3; omega))) _).mono ?_
        rintro e uu2 ⟨rfl, rfl⟩
        go_wp2_with fail
        refine (six_e _ y3 (by omega) (by omega) (hy3.out.trans (congrArg sxS (by unfold num3; omega))) _).mono ?_
        rintro e uu3 ⟨rfl, rfl⟩
        clear k0 k1 k2
        go_wp2_with fail
        have Q0 := Pl.new P3.own P3.bel #[.int .u8 y0, .int .u8 y1, .int .u8 y2, .int .u8 y3] 5
        clear P3
        generalize uu3.heap.size = q at *
        generalize uu3.alloc _ = r0 at *
        refine wp_loop_rounds 5 ?_
        rw [rounds_succ]
        go_wp2_with fail
        rw [rounds_succ]
        go_wp2_with fail
        rw [rounds_succ]
        go_wp2_with fail
        rw [rounds_succ]
        go_wp2_with fail
        rw [rounds_succ]
        have hY : Byt [y0, y1, y2, y3] := by intro z hz; simp only [List.mem_cons, List.not_mem_nil, or_false] at hz; rcases hz with rfl | rfl | rfl | rfl <;> omega
        have hBs : Bs r0 (some ⟨q, 0, none⟩) 4 [y0, y1, y2, y3] := Pl.bs (zs := [y0, y1, y2, y3]) Q0 hY
        go_wp2_with (at_builtin; refine wpList_append_bs rfl (.tmp 75) (.tmp 76) rfl w.heap.size _ _ _ rfl Q0.own _ 4 4 [y0, y1, y2, y3] rfl hBs (by omega) Q0.bel.size ?_; intro v1 w1 ho1 hg1; have hw1 := Q0.bel.grown hg1 Q0.bel.size (fun j e => (Q0.own.lt j e).1); refine stopAt ?_)
        refine hide1 ?_
        rw [byteVals_app] at ho1
        clear Q0 hBs hg1
        go_wp2_with fail
        go_roundw
        case rel =>
          refine ⟨j + 3, by omega, by go_num, out ++ [y0, y1, y2, y3], n + 4, hide1 ?_, hide1 (by simp [hn.out]), by omega, ho1, hw1⟩
          rw [hE.out, hy0.out, hy1.out, hy2.out, hy3.out, List.append_assoc]; rfl
        case measure => simp [intOf]; omega
      · have g0 := hby _ (getD_mem (l := zs) (k := j) (by omega))
        have e0 := hcell j (by omega)
        have g1 := hby _ (getD_mem (l := zs) (k := j + 1) (by omega))
        have e1 := hcell (j + 1) (by omega)
        rw [drop_cons zs j (by omega), drop_cons zs (j + 1) (by omega), List.drop_of_length_le (by omega), ← s4_two g1] at hE
        have hE := hide1 hE
        clear hcell
        generalize zs.getD j 0 = x0 at *
        generalize zs.getD (j + 1) 0 = x1 at *
        obtain ⟨x0, rfl⟩ := Int.eq_ofNat_of_zero_le g0.1
        obtain ⟨x1, rfl⟩ := Int.eq_ofNat_of_zero_le g1.1
        go_wp2_with fail
        have P0 := Pl.new ho hw #[.int .i64 0, .int .i64 0, .int .i64 0] 54
        clear ho
        generalize hgg : wr.heap.size = g at *
        generalize wr.alloc _ = d0 at *
        clear hgg hw
        refine wp_loop_rounds 4 ?_
        rw [rounds_succ]
        have c := cell_later P0.bel e0
        have k0 : d0.cell? ⟨g, 0, none⟩ = _ := P0.cell 0
        have f0 := P0.froz 0
        go_wp2_with fail
        have P1 : Pl w (d0.setCell ⟨g, 0, none⟩ (.int .i64 (x0 : Int))) g #[.int .i64 (x0 : Int), .int .i64 0, .int .i64 0] 54 u3 n out := P0.set 0 _
        clear c k0 f0 P0 e0
        generalize d0.setCell _ _ = d1 at *
        clear d0
        rw [rounds_succ]
        have c := cell_later P1.bel e1
        have k0 : d1.cell? ⟨g, 1, none⟩ = _ := P1.cell 1
        have f0 := P1.froz 1
        go_wp2_with fail
        have P2 : Pl w (d1.setCell ⟨g, 1, none⟩ (.int .i64 (x1 : Int))) g #[.int .i64 (x0 : Int), .int .i64 (x1 : Int), .int .i64 0] 54 u3 n out := P1.set 1 _
        clear c k0 f0 P1 e1
        generalize d1.setCell _ _ = d2 at *
        clear d1
        rw [rounds_succ]
        have k0 : d2.cell? ⟨g, 0, none⟩ = _ := P2.cell 0
        have k1 : d2.cell? ⟨g, 1, none⟩ = _ := P2.cell 1
        have k2 : d2.cell? ⟨g, 2, none⟩ = _ := P2.cell 2
        obtain ⟨y0, hy0⟩ : ∃ y, Hid (y = sxS (num3 (x0 : Int) x1 0 / 262144)) := ⟨_, hide1 rfl⟩
        have b0 : 0 ≤ y0 ∧ y0 < 256 := by rw [hy0.out]; exact sxS_byte (by unfold num3; omega) (by unfold num3; omega)
        obtain ⟨y1, hy1⟩ : ∃ y, Hid (y = sxS (num3 (x0 : Int) x1 0 / 4096 % 64)) := ⟨_, hide1 rfl⟩
        have b1 : 0 ≤ y1 ∧ y1 < 256 := by rw [hy1.out]; exact sxS_byte (by unfold num3; omega) (by unfold num3; omega)
        obtain ⟨y2, hy2⟩ : ∃ y, Hid (y = sxS (num3 (x0 : Int) x1 0 / 64 % 64)) := ⟨_, hide1 rfl⟩
        have b2 : 0 ≤ y2 ∧ y2 < 256 := by rw [hy2.out]; exact sxS_byte (by unfold num3; omega) (by unfold num3; omega)
        obtain ⟨y3, hy3⟩ : ∃ y, Hid (y = sxS (num3 (x0 : Int) x1 0 % 64)) := ⟨_, hide1 rfl⟩
        have b3 : 0 ≤ y3 ∧ y3 < 256 := by rw [hy3.out]; exact sxS_byte (by unfold num3; omega) (by unfold num3; omega)
        go_wp2_with fail
        refine (six_e _ y0 (by omega) (by omega) (hy0.out.trans (congrArg sxS (by unfold num3; omega))) _).mono ?_
        rintro e uu0 ⟨rfl, rfl⟩
        go_wp2_with fail
        refine (six_e _ y1 (by omega) (by omega) (hy1.out.trans (congrArg sxS (by unfold num3; omega))) _).mono ?_
        rintro e uu1 ⟨rfl, rfl⟩
        go_wp2_with fail
        refine (six_e _ y2 (by omega) (by omega) (hy2.out.trans (congrArg sxS (by unfold num3; omega))) _).mono ?_
        rintro e uu2 ⟨rfl, rfl⟩
        go_wp2_with fail
        refine (six_e _ y3 (by omega) (by omega) (hy3.out.trans (congrArg sxS (by unfold num3; omega))) _).mono ?_
        rintro e uu3 ⟨rfl, rfl⟩
        clear k0 k1 k2
        go_wp2_with fail
        have Q0 := Pl.new P2.own P2.bel #[.int .u8 y0, .int .u8 y1, .int .u8 y2, .int .u8 y3] 5
        clear P2
        generalize uu3.heap.size = q at *
        generalize uu3.alloc _ = r0 at *
        refine wp_loop_rounds 5 ?_
        rw [rounds_succ]
        go_wp2_with fail
        rw [rounds_succ]
        go_wp2_with fail
        rw [rounds_succ]
        go_wp2_with fail
        rw [rounds_succ]
        have k0 : r0.cell? ⟨q, 3, none⟩ = _ := Q0.cell 3
        have f0 := Q0.froz 3
        go_wp2_with fail
        have Q1 : Pl w (r0.setCell ⟨q, 3, none⟩ (.int .u8 61)) q #[.int .u8 y0, .int .u8 y1, .int .u8 y2, .int .u8 61] 5 u3 n out := Q0.set 3 _
        clear k0 f0 Q0
        generalize r0.setCell _ _ = r1 at *
        clear r0
        rw [rounds_succ]
        have hY : Byt [y0, y1, y2, 61] := by intro z hz; simp only [List.mem_cons, List.not_mem_nil, or_false] at hz; rcases hz with rfl | rfl | rfl | rfl <;> omega
        have hBs : Bs r1 (some ⟨q, 0, none⟩) 4 [y0, y1, y2, 61] := Pl.bs (zs := [y0, y1, y2, 61]) Q1 hY
        go_wp2_with (at_builtin; refine wpList_append_bs rfl (.tmp 75) (.tmp 76) rfl w.heap.size _ _ _ rfl Q1.own _ 4 4 [y0, y1, y2, 61] rfl hBs (by omega) Q1.bel.size ?_; intro v1 w1 ho1 hg1; have hw1 := Q1.bel.grown hg1 Q1.bel.size (fun j e => (Q1.own.lt j e).1); refine stopAt ?_)
        refine hide1 ?_
        rw [byteVals_app] at ho1
        clear Q1 hBs hg1
        go_wp2_with fail
        go_roundw
        case rel =>
          refine ⟨j + 3, by omega, by go_num, out ++ [y0, y1, y2, 61], n + 4, hide1 ?_, hide1 (by simp [hn.out]), by omega, ho1, hw1⟩
          rw [hE.out, hy0.out, hy1.out, hy2.out, List.drop_of_length_le (by omega), b64E_nil, List.append_nil]
        case measure => simp [intOf]; omega
      · have g0 := hby _ (getD_mem (l := zs) (k := j) (by omega))
        have e0 := hcell j (by omega)
        rw [drop_cons zs j (by omega), List.drop_of_length_le (by omega), ← s4_one] at hE
        have hE := hide1 hE
        clear hcell
        generalize zs.getD j 0 = x0 at *
        obtain ⟨x0, rfl⟩ := Int.eq_ofNat_of_zero_le g0.1
        go_wp2_with fail
        have P0 := Pl.new ho hw #[.int .i64 0, .int .i64 0, .int .i64 0] 54
        clear ho
        generalize hgg : wr.heap.size = g at *
        generalize wr.alloc _ = d0 at *
        clear hgg hw
        refine wp_loop_rounds 4 ?_
        rw [rounds_succ]
        have c := cell_later P0.bel e0
        have k0 : d0.cell? ⟨g, 0, none⟩ = _ := P0.cell 0
        have f0 := P0.froz 0
        go_wp2_with fail
        have P1 : Pl w (d0.setCell ⟨g, 0, none⟩ (.int .i64 (x0 : Int))) g #[.int .i64 (x0 : Int), .int .i64 0, .int .i64 0] 54 u3 n out := P0.set 0 _
        clear c k0 f0 P0 e0
        generalize d0.setCell _ _ = d1 at *
        clear d0
        rw [rounds_succ]
        have k0 : d1.cell? ⟨g, 0, none⟩ = _ := P1.cell 0
        have k1 : d1.cell? ⟨g, 1, none⟩ = _ := P1.cell 1
        have k2 : d1.cell? ⟨g, 2, none⟩ = _ := P1.cell 2
        obtain ⟨y0, hy0⟩ : ∃ y, Hid (y = sxS (num3 (x0 : Int) 0 0 / 262144)) := ⟨_, hide1 rfl⟩
        have b0 : 0 ≤ y0 ∧ y0 < 256 := by rw [hy0.out]; exact sxS_byte (by unfold num3; omega) (by unfold num3; omega)
        obtain ⟨y1, hy1⟩ : ∃ y, Hid (y = sxS (num3 (x0 : Int) 0 0 / 4096 % 64)) := ⟨_, hide1 rfl⟩
        have b1 : 0 ≤ y1 ∧ y1 < 256 := by rw [hy1.out]; exact sxS_byte (by unfold num3; omega) (by unfold num3; omega)
        obtain ⟨y2, hy2⟩ : ∃ y, Hid (y = sxS (num3 (x0 : Int) 0 0 / 64 % 64)) := ⟨_, hide1 rfl⟩
        have b2 : 0 ≤ y2 ∧ y2 < 256 := by rw [hy2.out]; exact sxS_byte (by unfold num3; omega) (by unfold num3; omega)
        obtain ⟨y3, hy3⟩ : ∃ y, Hid (y = sxS (num3 (x0 : Int) 0 0 % 64)) := ⟨_, hide1 rfl⟩
        have b3 : 0 ≤ y3 ∧ y3 < 256 := by rw [hy3.out]; exact sxS_byte (by unfold num3; omega) (by unfold num3; omega)
        go_wp2_with fail
        refine (six_e _ y0 (by omega) (by omega) (hy0.out.trans (congrArg sxS (by unfold num3; omega))) _).mono ?_
        rintro e uu0 ⟨rfl, rfl⟩
        go_wp2_with fail
        refine (six_e _ y1 (by omega) (by omega) (hy1.out.trans (congrArg sxS (by unfold num3; omega))) _).mono ?_
        rintro e uu1 ⟨rfl, rfl⟩
        go_wp2_with fail
        refine (six_e _ y2 (by omega) (by omega) (hy2.out.trans (congrArg sxS (by unfold num3; omega))) _).mono ?_
        rintro e uu2 ⟨rfl, rfl⟩
        go_wp2_with fail
        refine (six_e _ y3 (by omega) (by omega) (hy3.out.trans (congrArg sxS (by unfold num3; omega))) _).mono ?_
        rintro e uu3 ⟨rfl, rfl⟩
        clear k0 k1 k2
        go_wp2_with fail
        have Q0 := Pl.new P1.own P1.bel #[.int .u8 y0, .int .u8 y1, .int .u8 y2, .int .u8 y3] 5
        clear P1
        generalize uu3.heap.size = q at *
        generalize uu3.alloc _ = r0 at *
        refine wp_loop_rounds 5 ?_
        rw [rounds_succ]
        go_wp2_with fail
        rw [rounds_succ]
        go_wp2_with fail
        rw [rounds_succ]
        have k0 : r0.cell? ⟨q, 2, none⟩ = _ := Q0.cell 2
        have f0 := Q0.froz 2
        go_wp2_with fail
        have Q1 : Pl w (r0.setCell ⟨q, 2, none⟩ (.int .u8 61)) q #[.int .u8 y0, .int .u8 y1, .int .u8 61, .int .u8 y3] 5 u3 n out := Q0.set 2 _
        clear k0 f0 Q0
        generalize r0.setCell _ _ = r1 at *
        clear r0
        rw [rounds_succ]
        have k0 : r1.cell? ⟨q, 3, none⟩ = _ := Q1.cell 3
        have f0 := Q1.froz 3
        go_wp2_with fail
        have Q2 : Pl w (r1.setCell ⟨q, 3, none⟩ (.int .u8 61)) q #[.int .u8 y0, .int .u8 y1, .int .u8 61, .int .u8 61] 5 u3 n out := Q1.set 3 _
        clear k0 f0 Q1
        generalize r1.setCell _ _ = r2 at *
        clear r1
        rw [rounds_succ]
        have hY : Byt [y0, y1, 61, 61] := by intro z hz; simp only [List.mem_cons, List.not_mem_nil, or_false] at hz; rcases hz with rfl | rfl | rfl | rfl <;> omega
        have hBs : Bs r2 (some ⟨q, 0, none⟩) 4 [y0, y1, 61, 61] := Pl.bs (zs := [y0, y1, 61, 61]) Q2 hY
        go_wp2_with (at_builtin; refine wpList_append_bs rfl (.tmp 75) (.tmp 76) rfl w.heap.size _ _ _ rfl Q2.own _ 4 4 [y0, y1, 61, 61] rfl hBs (by omega) Q2.bel.size ?_; intro v1 w1 ho1 hg1; have hw1 := Q2.bel.grown hg1 Q2.bel.size (fun j e => (Q2.own.lt j e).1); refine stopAt ?_)
        refine hide1 ?_
        rw [byteVals_app] at ho1
        clear Q2 hBs hg1
        go_wp2_with fail
        go_roundw
        case rel =>
          refine ⟨j + 3, by omega, by go_num, out ++ [y0, y1, 61, 61], n + 4, hide1 ?_, hide1 (by simp [hn.out]), by omega, ho1, hw1⟩
          rw [hE.out, hy0.out, hy1.out, List.drop_of_length_le (by omega), b64E_nil, List.append_nil]
        case measure => simp [intOf]; omega
    · obtain rfl : B = out := by
        have h1 := hE.out
        rw [List.drop_of_length_le (by omega), b64E_nil, List.append_nil] at h1
        exact h1
      obtain ⟨a1, c1, rfl, hb1, _⟩ := bs_owned ho hbyE
      have k1 := conv_bs hb1 c1
      go_wp2
      go_ret
      exact ⟨rfl, hw⟩
end Go.Proofs.Ytmbjdegfgidadaa

namespace Go.Proofs.Ytmbjdegfgidadaa
open Go.RowKit

theorem oper_same {o : Oper} {a : Act} {w : World} {K : Act → World → Prop} {Q : Exit → Act → World → Prop} (f : FuncId) (xs : Array Operand) (tys : Array TypeId) (ho : o.op = .call { callee := .value (.func f), args := xs, argTypes := tys }) (vs : Array Value) (hv : xs.map a.eval = vs) (he : ∀ w, (callFunc f vs).run Try.prog w = .ok (.enter f vs) w) {R : Value}
    (hc : Calls Try.prog f vs w fun e w' => e = .returned R ∧ w' = w) (h : K (a.put o.dst R) w) : o.wp Try.prog a w K Q := by
  have hev : a.eval (.func f) = .func (.func f) #[] #[] := rfl
  unfold Oper.wp execOp
  simp only [ho, resolve, invoke, Sem.run_bind, hv, hev, Deferred.ofValue, Sem.run_pure, Result.andThen_ok, Array.append_empty, Array.empty_append, he, Oper.upon_enter]
  exact hc.mono (by rintro e w' ⟨rfl, rfl⟩; exact h)
theorem step_place {w : World} {ops : Array Oper} {o : Oper} {a : Act} {K : Act → World → Prop} {Q : Exit → Act → World → Prop} {E : Prop} (hgd : o.guard = none) (x : Operand)
    (ho : o.op = .call { callee := .value (.func 29), args := #[x, .const (.int .i64 4)], argTypes := #[5, 3] }) (c : Int) (hc : 0 ≤ c ∧ c < 256) (hx : a.eval x = .int .u8 c)
    (h : K (a.put o.dst (.int .i64 (n4 c))) w) : if Region.wanted o (yielded ops a.tmps) = true then Oper.wp Try.prog o a w K Q else E := by
  have hw : Region.wanted o (yielded ops a.tmps) = true := by simp [Region.wanted, hgd]
  rw [if_pos hw]
  exact oper_same _ _ _ ho #[.int .u8 c, .int .i64 4] (by simp [hx, show a.eval (.const (.int .i64 4)) = .int .i64 4 from rfl]) (fun w => by kernel_rfl) (place4 c hc w) h

theorem wrap_int (z : Int) (h : -9223372036854775808 ≤ z) (h1 : z < 9223372036854775808) : IntKind.i64.wrap z = z := by
  simp only [IntKind.wrap, IntKind.bits, IntKind.signed]
  simp
  omega
theorem wrap_b (z : Int) : IntKind.u8.wrap z = z % 256 := by
  simp only [IntKind.wrap, IntKind.bits, IntKind.signed]
  simp
/-- What the reference answers. -/
def AnR (o : Option (List Int)) (B : Nat) (e : Ending) (w : World) : Prop :=
  match o with
  | none => e = .returned (.tuple #[.slice none 0 0, .bool false])
  | some l => ∃ v, e = .returned (.tuple #[v, .bool true]) ∧ w.ownsRow B 5 1 v l.length (byteVals l)

theorem n4_lo {c : Int} (h : 0 ≤ c ∧ c < 256) : -1 ≤ n4 c ∧ n4 c < 16 := by rcases n4_b h with ⟨_, h⟩ | ⟨h, h1, _⟩ <;> omega
theorem str_ne {a b : List Int} (ha : Byt a) (hb : Byt b) (h : a ≠ b) : ((strOfNums a).toList == (strOfNums b).toList) = false := by rw [str_beq ha hb]; exact decide_eq_false h

set_option maxHeartbeats 4000000 in
theorem refUnhex_d (zs : List Int) (hz : Byt zs) (hm : zs.length ≤ 100000) (w : World) :
    Calls Try.prog 18 #[.string (strOfNums zs)] w fun e w' => AnR (ga4 .z zs) w.heap.size e w' ∧ Below w.heap.size w w' := by
  have hsz := str_size zs
  have hR := hide1 (ref4_eq zs hz)
  have hD := hide1 (rd4_byt zs)
  have hDl := rd4_len zs
  obtain ⟨S, hS⟩ : ∃ S, Hid (S = strOfNums zs) := ⟨_, hide1 rfl⟩
  have hat : ∀ j (h : j < S.size), (((S[j]'h).toNat : Nat) : Int) = zs.getD j 0 := by rw [hS.out]; exact str_at zs hz
  rw [← hS.out] at hsz ⊢
  generalize hL : zs.length = len at *
  go_enter Try.func18, Try.ntmps18
  go_wp2_with fail
  go_loopw [4, 5] (fun v i wr => ∃ j : Nat, j ≤ len + 1 ∧ i = .int .i64 j ∧ ∃ out n, Hid (rd4 zs = out ++ rd4 (zs.drop j)) ∧ Hid (n = out.length) ∧ n ≤ j ∧ wr.ownsRow w.heap.size 5 1 v n (byteVals out) ∧ Below w.heap.size w wr) (fun _ i _ => len + 3 - (intOf i).toNat)
  case atStart => exact ⟨0, by omega, rfl, [], 0, hide1 (by simp), hide1 rfl, by omega, ⟨rfl, .inl ⟨rfl, rfl⟩⟩, Below.refl _ _⟩
  case round =>
    obtain ⟨j, hj, rfl, out, n, hE, hn, hn2, ho, hw⟩ := hrel
    by_cases hlt : j + 1 < len
    · have g0 := hz _ (getD_mem (l := zs) (k := j) (by omega))
      have g1 := hz _ (getD_mem (l := zs) (k := j + 1) (by omega))
      have hj2 : j < S.size := by omega
      have hj3 : j + 1 < S.size := by omega
      have hx := hat j hj2
      have hy := hat (j + 1) hj3
      have hE := hE.out
      rw [drop_cons zs j (by omega), drop_cons zs (j + 1) (by omega)] at hE
      have hE := hide1 hE
      generalize zs.getD j 0 = c at *
      generalize zs.getD (j + 1) 0 = d at *
      have l0 := n4_lo g0
      have l1 := n4_lo g1
      clear hat hR hD
      have hjl : j < len := by omega
      have hj0 : (0 : Int) ≤ (j : Int) + 1 := by omega
      have q1 : IntKind.i64.wrap ((j : Int) + 1) = ((j + 1 : Nat) : Int) := by rw [wrap_int _ (by omega) (by omega)]; rfl
      have q2 := wrap_int (16 * n4 c) (by omega) (by omega)
      have q3 := wrap_int (16 * n4 c + n4 d) (by omega) (by omega)
      have q4 := wrap_b (16 * n4 c + n4 d)
      go_wp2_with fail
      have hoD : wr.drew.ownsRow w.heap.size 5 1 u4 n (byteVals out) := ho
      have hwD : Below w.heap.size w wr.drew := hw.drew
      go_region_law (first
        | (refine step_place rfl (.tmp 16) rfl c g0 (by first | (simp [Act.eval]; done) | (simp [Act.eval, Act.put]; done) | rfl) ?_)
        | (refine step_place rfl (.tmp 22) rfl d g1 (by first | (simp [Act.eval]; done) | (simp [Act.eval, Act.put]; done) | rfl) ?_)
        | (refine step_append_bs rfl (.tmp 13) (.tmp 26) rfl w.heap.size u4 n (byteVals out) (by first | (simp [Act.eval]; done) | (simp [Act.eval, Act.put]; done) | rfl) (hoD.alloc _) (some ⟨wr.heap.size, 0, none⟩) 1 1 [(16 * n4 c + n4 d) % 256] (by first | (simp [Act.eval]; done) | (simp [Act.eval, Act.put]; done) | rfl) (bs_one wr.drew _ (by omega)) (by omega) (by have := hw.size; simp; omega) ?_; intro v1 w1 ho1 hg1; have hw1 := below_app hwD (Nat.le_refl _) hoD hg1))
      all_goals
        rw [byteVals_app] at ho1
        simp only [Act.put, List.setIfInBounds_toArray]
        clear ho hoD hg1 q1 q2 q3 q4 hx hy
        go_wp2_with fail
        go_roundw
        case rel =>
          refine ⟨j + 2, by omega, by go_num, out ++ [(16 * n4 c + n4 d) % 256], n + 1, hide1 ?_, hide1 (by simp [hn.out]), by omega, ho1, hw1⟩
          rw [hE.out, List.append_assoc]; rfl
        case measure => simp [intOf]; omega
    · have hO : out = rd4 zs := by
        have h1 := hE.out
        have h2 : rd4 (zs.drop j) = [] := by
          rcases (show len ≤ j ∨ j + 1 = len by omega) with h | h
          · rw [List.drop_of_length_le (by omega)]; rfl
          · rw [drop_cons zs j (by omega), List.drop_of_length_le (by omega)]; simp [rd4]
        rw [h2, List.append_nil] at h1
        exact h1.symm
      subst hO
      obtain ⟨a1, c1, rfl, hb1, _⟩ := bs_owned ho hD.out
      have hw' := hw.size
      go_wp2_with fail
      refine (refHex_d _ _ _ _ _ hb1 (by omega)).mono ?_
      rintro e w1 ⟨rfl, hw1⟩
      have hwT := bl2 hw hw1
      by_cases he : hexE (rd4 zs) = zs
      · have hb : ((strOfNums (hexE (rd4 zs))).toList == S.toList) = true := by rw [hS.out]; exact str_eq he
        have hRR := hR.out
        rw [if_pos he] at hRR
        clear he hR
        have hRR := hide1 hRR
        generalize strOfNums (hexE (rd4 zs)) = X at *
        go_wp2_with fail
        go_ret2
        refine ⟨?_, hwT⟩
        rw [← hRR.out]
        refine ⟨_, rfl, ?_⟩
        rw [← hn.out]
        exact own_ne ho fun q hq => hw1.block q (ho.lt q hq).2
      · have hb : ((strOfNums (hexE (rd4 zs))).toList == S.toList) = false := by rw [hS.out]; exact str_ne (hexE_byt _ hD.out) hz he
        have hRR := hR.out
        rw [if_neg he] at hRR
        clear he hR
        have hRR := hide1 hRR
        generalize strOfNums (hexE (rd4 zs)) = X at *
        go_wp2_with fail
        go_ret2
        refine ⟨?_, hwT⟩
        rw [← hRR.out]
        rfl
end Go.Proofs.Ytmbjdegfgidadaa

namespace Go.Proofs.Ytmbjdegfgidadaa
open Go.RowKit

theorem n6_61 : n6 61 = -1 := by decide +kernel
def nK (g : Nat → Int) : Nat → Int
  | 0 => 0
  | k + 1 => 64 * nK g k + p6 (g k)
def cK (g : Nat → Int) : Nat → Nat
  | 0 => 0
  | k + 1 => cK g k + is61 (g k)
theorem nK_b (g : Nat → Int) (hg : ∀ k, k < 4 → 0 ≤ g k ∧ g k < 256) : ∀ k, k ≤ 4 → 0 ≤ nK g k ∧ nK g k < 64 ^ k
  | 0, _ => by simp [nK]
  | k + 1, h => by
    have h1 := nK_b g hg k (by omega)
    have h2 := p6_b (hg k (by omega))
    rw [show (64 : Int) ^ (k + 1) = 64 * 64 ^ k by rw [Int.pow_succ, Int.mul_comm]]
    simp only [nK]
    generalize (64 : Int) ^ k = X at *
    omega
theorem cK_b (g : Nat → Int) : ∀ k, cK g k ≤ k
  | 0 => Nat.le_refl _
  | k + 1 => by have := cK_b g k; simp only [cK, is61]; split <;> omega
theorem nK_four (g : Nat → Int) : nK g 4 = four6 (g 0) (g 1) (g 2) (g 3) := by simp only [nK, four6]; omega
theorem cK_four (g : Nat → Int) : 3 - cK g 4 = many6 (g 0) (g 1) (g 2) (g 3) := by simp only [cK, many6]; omega
theorem take3 (N : Int) {k : Nat} (h : k < 3) : (three6 N).take (k + 1) = (three6 N).take k ++ [if k = 0 then N / 65536 % 256 else if k = 1 then N / 256 % 256 else N % 256] := by
  rcases (show k = 0 ∨ k = 1 ∨ k = 2 by omega) with rfl | rfl | rfl <;> rfl

set_option maxRecDepth 100000 in
set_option maxHeartbeats 4000000 in
theorem refUnbase64_d (zs : List Int) (hz : Byt zs) (hm : zs.length ≤ 100000) (w : World) :
    Calls Try.prog 19 #[.string (strOfNums zs)] w fun e w' => AnR (d64 zs) w.heap.size e w' ∧ Below w.heap.size w w' := by
  have hsz := str_size zs
  have hR := hide1 (ref6_eq zs hz)
  have hD := hide1 (rd6_byt zs)
  have hDl := hide1 (rd6_len zs)
  obtain ⟨S, hS⟩ : ∃ S, Hid (S = strOfNums zs) := ⟨_, hide1 rfl⟩
  have hat : ∀ j (h : j < S.size), (((S[j]'h).toNat : Nat) : Int) = zs.getD j 0 := by rw [hS.out]; exact str_at zs hz
  rw [← hS.out] at hsz ⊢
  generalize hL : zs.length = len at *
  go_enter Try.func19, Try.ntmps19
  go_wp2_with fail
  go_loopw [4, 5] (fun v i wr => ∃ j : Nat, j ≤ len + 3 ∧ i = .int .i64 j ∧ ∃ out n, Hid (rd6 zs = out ++ rd6 (zs.drop j)) ∧ Hid (n = out.length) ∧ n ≤ j ∧ wr.ownsRow w.heap.size 5 1 v n (byteVals out) ∧ Below w.heap.size w wr) (fun _ i _ => len + 5 - (intOf i).toNat)
  case atStart => exact ⟨0, by omega, rfl, [], 0, hide1 (by simp), hide1 rfl, by omega, ⟨rfl, .inl ⟨rfl, rfl⟩⟩, Below.refl _ _⟩
  case round =>
    obtain ⟨j, hj, rfl, out, n, hE, hn, hn2, ho, hw⟩ := hrel
    by_cases hlt : j + 3 < len
    · obtain ⟨g, hg⟩ : ∃ g : Nat → Int, Hid (∀ k, g k = zs.getD (j + k) 0) := ⟨_, hide1 fun _ => rfl⟩
      have hgb : ∀ k, k < 4 → 0 ≤ g k ∧ g k < 256 := fun k hk => by rw [hg.out k]; exact hz _ (getD_mem (l := zs) (k := j + k) (by omega))
      have hgS : ∀ k (hk : j + k < S.size), (((S[j + k]'hk).toNat : Nat) : Int) = g k := fun k hk => by rw [hg.out k]; exact hat _ hk
      have hE := hE.out
      rw [drop_cons zs j (by omega), drop_cons zs (j + 1) (by omega), drop_cons zs (j + 1 + 1) (by omega), drop_cons zs (j + 1 + 1 + 1) (by omega)] at hE
      rw [← hg.out 1, ← hg.out 2, ← hg.out 3, show zs.getD j 0 = g 0 from (hg.out 0).symm] at hE
      simp only [rd6, ← nK_four, ← cK_four] at hE
      have hE := hide1 hE
      clear hat hR hD hg hDl
      have hNb := nK_b g hgb 4 (by omega)
      go_wp2_with fail
      rw [show decide ((j : Int) + 3 < (len : Int)) = true from decide_eq_true (by omega)]
      go_loopw [6, 7, 8] (fun N m k wx => ∃ i : Nat, i ≤ 4 ∧ k = .int .i64 i ∧ N = .int .i64 (nK g i) ∧ m = .int .i64 (3 - (cK g i : Int)) ∧ wx.ownsRow w.heap.size 5 1 u4 n (byteVals out) ∧ Below w.heap.size w wx) (fun _ _ k _ => 4 - (intOf k).toNat)
      case atStart => exact ⟨0, by omega, rfl, rfl, rfl, ho, hw⟩
      case round =>
        clear ho hw
        obtain ⟨i, hi, rfl, rfl, rfl, ho, hw⟩ := hrel
        by_cases hi4 : i < 4
        · have hb := hgb i hi4
          have hNi := nK_b g hgb i (by omega)
          have hN1 : nK g i < 262144 := by
            rcases (show i = 0 ∨ i = 1 ∨ i = 2 ∨ i = 3 by omega) with rfl | rfl | rfl | rfl <;> omega
          have hN0 := hNi.1
          have hcb := cK_b g i
          have hji : j + i < S.size := by omega
          have hx := hgS i hji
          have hn6 := n6_b hb
          have e1 : nK g (i + 1) = 64 * nK g i + p6 (g i) := rfl
          have e2 : cK g (i + 1) = cK g i + is61 (g i) := rfl
          clear hgS hgb hNi hNb
          generalize nK g i = N at *
          generalize cK g i = C at *
          generalize g i = c at *
          have e1 := hide1 e1
          have e2 := hide1 e2
          have hn6 := hide1 hn6
          go_wp2_with fail
          refine (place6 c hb _).mono ?_
          rintro e w1 ⟨rfl, rfl⟩
          have hp6 : Hid (p6 c = if n6 c < 0 then 0 else n6 c) := hide1 rfl
          have hi6 : Hid (is61 c = if c = 61 then 1 else 0) := hide1 rfl
          rcases hn6.out with ⟨h1, h2⟩ | ⟨h1, h2, -⟩
          · rw [h2]
            have h2 := hide1 h2
            have h1 := hide1 h1
            by_cases h61 : c = 61
            · have hb61 : (c == 61) = true := by simp [h61]
              go_wp2_with fail
              go_roundw
              case rel => exact ⟨i + 1, by omega, by go_num, val_int (by have p1 := e1.out; have p2 := hp6.out; rw [if_pos h1.out] at p2; omega), val_int (by have p1 := e2.out; have p2 := hi6.out; rw [if_pos h61] at p2; omega), ho, hw⟩
              case measure => simp [intOf]; omega
            · have hb61 : (c == 61) = false := by simp [h61]
              go_wp2_with fail
              go_roundw
              case rel => exact ⟨i + 1, by omega, by go_num, val_int (by have p1 := e1.out; have p2 := hp6.out; rw [if_pos h1.out] at p2; omega), val_int (by have p1 := e2.out; have p2 := hi6.out; rw [if_neg h61] at p2; omega), ho, hw⟩
              case measure => simp [intOf]; omega
          · by_cases h61 : c = 61
            · exfalso
              rw [h61, n6_61] at h1
              omega
            · have hb61 : (c == 61) = false := by simp [h61]
              go_wp2_with fail
              go_roundw
              case rel => exact ⟨i + 1, by omega, by go_num, val_int (by have p1 := e1.out; have p2 := hp6.out; rw [if_neg (by omega)] at p2; omega), val_int (by have p1 := e2.out; have p2 := hi6.out; rw [if_neg h61] at p2; omega), ho, hw⟩
              case measure => simp [intOf]; omega
        · obtain rfl : i = 4 := by omega
          rw [show ((4 : Nat) : Int) = 4 from rfl]
          clear hgS hgb
          have hcb := cK_b g 4
          generalize nK g 4 = N at *
          generalize cK g 4 = C at *
          have hN0 := hNb.1
          have hN1 : N < 16777216 := hNb.2
          clear hNb
          go_wp2_with fail
          go_loopw [4, 10] (fun v k wr => ∃ i : Nat, i ≤ 3 - C ∧ k = .int .i64 i ∧ wr.ownsRow w.heap.size 5 1 v (n + i) (byteVals (out ++ (three6 N).take i)) ∧ Below w.heap.size w wr) (fun _ k _ => 4 - (intOf k).toNat)
          case atStart => exact ⟨0, by omega, rfl, by simpa using ho, hw⟩
          case round =>
            clear ho hw
            obtain ⟨i, hi, rfl, ho, hw⟩ := hrel
            by_cases hi3 : i < 3 - C
            · rcases (show i = 0 ∨ i = 1 ∨ i = 2 by omega) with rfl | rfl | rfl
              · go_wp2_with (at_builtin; refine wpList_append_bs rfl (.tmp 47) (.tmp 55) rfl w.heap.size _ _ _ rfl (ho.alloc _) _ 1 1 [N / 65536] rfl (bs_one _ (N / 65536) (by omega)) (by omega) (by have := hw.size; simp; omega) ?_; intro v1 w1 ho1 hg1; have hw1 := below_app hw (Nat.le_refl _) ho hg1; refine stopAt ?_)
                refine hide1 ?_
                rw [byteVals_app, List.append_assoc] at ho1
                clear ho hg1
                go_wp2_with fail
                go_roundw
                case rel =>
                  refine ⟨0 + 1, by omega, by go_num, ?_, hw1⟩
                  rw [take3 N (by omega)]
                  simpa [show N / 65536 % 256 = N / 65536 by omega] using ho1
                case measure => simp [intOf]
              · go_wp2_with (at_builtin; refine wpList_append_bs rfl (.tmp 47) (.tmp 55) rfl w.heap.size _ _ _ rfl (ho.alloc _) _ 1 1 [N / 256 % 256] rfl (bs_one _ (N / 256 % 256) (by omega)) (by omega) (by have := hw.size; simp; omega) ?_; intro v1 w1 ho1 hg1; have hw1 := below_app hw (Nat.le_refl _) ho hg1; refine stopAt ?_)
                refine hide1 ?_
                rw [byteVals_app, List.append_assoc] at ho1
                clear ho hg1
                go_wp2_with fail
                go_roundw
                case rel =>
                  refine ⟨1 + 1, by omega, by go_num, ?_, hw1⟩
                  rw [take3 N (by omega)]
                  simpa using ho1
                case measure => simp [intOf]
              · go_wp2_with (at_builtin; refine wpList_append_bs rfl (.tmp 47) (.tmp 55) rfl w.heap.size _ _ _ rfl (ho.alloc _) _ 1 1 [N % 256] rfl (bs_one _ (N % 256) (by omega)) (by omega) (by have := hw.size; simp; omega) ?_; intro v1 w1 ho1 hg1; have hw1 := below_app hw (Nat.le_refl _) ho hg1; refine stopAt ?_)
                refine hide1 ?_
                rw [byteVals_app, List.append_assoc] at ho1
                clear ho hg1
                go_wp2_with fail
                go_roundw
                case rel =>
                  refine ⟨2 + 1, by omega, by go_num, ?_, hw1⟩
                  rw [take3 N (by omega)]
                  simpa using ho1
                case measure => simp [intOf]
            · obtain rfl : i = 3 - C := by omega
              go_wp2_with fail
              go_roundw
              case rel =>
                refine ⟨j + 4, by omega, by go_num, _, _, hide1 ?_, hide1 ?_, by omega, ho, hw⟩
                · rw [hE.out, List.append_assoc]
                · simp [hn.out, three6]
              case measure => simp [intOf]; omega
    · have hO : out = rd6 zs := by
        have h1 := hE.out
        have h2 : rd6 (zs.drop j) = [] := by
          have hl : (zs.drop j).length < 4 := by simp; omega
          generalize zs.drop j = l at *
          rcases l with _ | ⟨_, _ | ⟨_, _ | ⟨_, _ | ⟨_, _⟩⟩⟩⟩ <;> first | rfl | (simp at hl; omega)
        rw [h2, List.append_nil] at h1
        exact h1.symm
      subst hO
      obtain ⟨a1, c1, rfl, hb1, _⟩ := bs_owned ho hD.out
      have hw' := hw.size
      have hln := hDl.out
      rw [← hn.out] at hln
      clear hDl
      go_wp2_with fail
      refine (refBase64_d _ _ _ _ _ hb1 (by omega)).mono ?_
      rintro e w1 ⟨rfl, hw1⟩
      have hwT := bl2 hw hw1
      by_cases he : b64E (rd6 zs) = zs
      · have hb : ((strOfNums (b64E (rd6 zs))).toList == S.toList) = true := by rw [hS.out]; exact str_eq he
        have hRR := hR.out
        rw [if_pos he] at hRR
        clear he hR
        have hRR := hide1 hRR
        generalize strOfNums (b64E (rd6 zs)) = X at *
        go_wp2_with fail
        go_ret2
        refine ⟨?_, hwT⟩
        rw [← hRR.out]
        refine ⟨_, rfl, ?_⟩
        rw [← hn.out]
        exact own_ne ho fun q hq => hw1.block q (ho.lt q hq).2
      · have hb : ((strOfNums (b64E (rd6 zs))).toList == S.toList) = false := by rw [hS.out]; exact str_ne (b64E_byt _ hD.out) hz he
        have hRR := hR.out
        rw [if_neg he] at hRR
        clear he hR
        have hRR := hide1 hRR
        generalize strOfNums (b64E (rd6 zs)) = X at *
        go_wp2_with fail
        go_ret2
        refine ⟨?_, hwT⟩
        rw [← hRR.out]
        rfl
end Go.Proofs.Ytmbjdegfgidadaa

namespace Go.Proofs.Ytmbjdegfgidadaa
open Go.RowKit

theorem as_err (v : Value) (w : World) : (Instr.typeAssert (.iface 37 v) 27 37 true).run Try.prog w = .ok (.tuple #[v, .bool true]) w := by kernel_rfl
set_option maxHeartbeats 400000 in
theorem num_one (w : World) : Calls Try.prog 30 #[.iface 37 (.int .i64 1)] w fun e w' => e = .returned (.int .i64 1) ∧ w' = w := by
  have has := as_err (.int .i64 1)
  go_enter Try.func30, Try.ntmps30
  go_wp2
  go_ret
  exact ⟨rfl, rfl⟩
set_option maxHeartbeats 400000 in
theorem is_one (w : World) : Calls Try.prog 20 #[.iface 37 (.int .i64 1), .int .i64 1] w fun e w' => e = .returned (.bool true) ∧ w' = w := by
  go_enter Try.func20, Try.ntmps20
  go_wp2_with fail
  refine (num_one w).mono ?_
  rintro e w' ⟨rfl, rfl⟩
  go_wp2_with fail
  go_ret
  exact ⟨rfl, rfl⟩
theorem bs_nil (w : World) : Bs w none 0 [] := ⟨rfl, by simp, fun h => absurd h (by omega)⟩
theorem same_eq {w : World} {a b : Option Addr} {la ca lb cb : Nat} {x : List Int} (hx : Bs w a la x) (hy : Bs w b lb x) :
    Calls Try.prog 15 #[.slice a la ca, .slice b lb cb] w fun e w' => e = .returned (.bool true) ∧ w' = w := by
  have h := same_any (ca := ca) (cb := cb) hx hy
  rwa [decide_eq_true (rfl : x = x)] at h
theorem some_len4 {zs l : List Int} (hz : Byt zs) (h : ga4 .z zs = some l) : l.length ≤ zs.length := by
  have := hexE_len l
  rw [(hexE_ga4 zs l hz h).1] at this
  omega
theorem sp6_ge : ∀ l, l.length ≤ (sp6 .z l).length
  | [] => by simp [sp6]
  | [_] => by simp [sp6]
  | [_, _] => by simp [sp6]
  | _ :: _ :: _ :: r => by have := sp6_ge r; rw [sp6_three]; simp [f4]; omega
theorem some_len6 {zs l : List Int} (hz : Byt zs) (h : d64 zs = some l) : l.length ≤ zs.length := by
  have h1 := sp6_ge l
  have h2 : (b64E l).length = zs.length := by rw [(b64E_d64 zs l hz h).1]
  unfold b64E at h2
  rw [List.length_append] at h2
  omega

set_option maxHeartbeats 8000000 in
set_option maxRecDepth 100000 in
theorem decodes_walk (zs : List Int) (hz : Byt zs) (w : World) :
    Calls Try.prog 4 #[.string (strOfNums zs)] w fun e w' => e = .returned (.bool true) ∧ Below w.heap.size w w' := by
  have hsz := str_size zs
  go_enter Try.func4, Try.ntmps4
  go_wp2_with fail
  refine (alive_t _).mono ?_
  rintro e w1 ⟨rfl, hw1⟩
  by_cases hL : 5000 < zs.length
  · go_wp2_with fail
    go_ret
    exact ⟨rfl, hw1⟩
  have hL' : zs.length ≤ 5000 := by omega
  have H1 := fun w => unhex_d zs hz (by omega) w
  have H2 := fun w => unbase64_d zs hz (by omega) w
  have H3 := fun w => refUnhex_d zs hz (by omega) w
  have H4 := fun w => refUnbase64_d zs hz (by omega) w
  have F1 : ∀ l, ga4 .z zs = some l → strOfNums (hexE l) = strOfNums zs ∧ Byt l ∧ l.length ≤ 5000 := fun l h => ⟨by rw [(hexE_ga4 zs l hz h).1], (hexE_ga4 zs l hz h).2, Nat.le_trans (some_len4 hz h) hL'⟩
  have F2 : ∀ l, d64 zs = some l → strOfNums (b64E l) = strOfNums zs ∧ Byt l ∧ l.length ≤ 5000 := fun l h => ⟨by rw [(b64E_d64 zs l hz h).1], (b64E_d64 zs l hz h).2, Nat.le_trans (some_len6 hz h) hL'⟩
  generalize ga4 .z zs = A at *
  generalize d64 zs = B at *
  generalize strOfNums zs = S at *
  generalize zs.length = len at *
  clear hz
  rcases A with _ | l1 <;> rcases B with _ | l2
  · clear F1
    clear F2
    go_wp2_with fail
    refine (H1 _).mono ?_
    rintro e w2 ⟨h, hw2⟩
    clear H1
    obtain rfl := h
    go_wp2_with fail
    refine (H2 _).mono ?_
    rintro e w3 ⟨h, hw3⟩
    clear H2
    obtain rfl := h
    have hw3 := bl2 (bl2 hw1 hw2) hw3
    clear hw1 hw2
    go_wp2_with fail
    refine (H3 _).mono ?_
    rintro e w4 ⟨h, hw4⟩
    clear H3
    obtain rfl := h
    have hw4 := bl2 hw3 hw4
    clear hw3
    go_wp2_with fail
    refine (H4 _).mono ?_
    rintro e w5 ⟨h, hw5⟩
    clear H4
    obtain rfl := h
    have hw5 := bl2 hw4 hw5
    clear hw4
    go_wp2_with fail
    refine (is_one _).mono ?_
    rintro e w6 ⟨rfl, rfl⟩
    go_wp2_with fail
    refine (is_one _).mono ?_
    rintro e w6 ⟨rfl, rfl⟩
    go_wp2_with fail
    refine (same_eq (bs_nil _) (bs_nil _)).mono ?_
    rintro e w6 ⟨rfl, rfl⟩
    go_wp2_with fail
    refine (same_eq (bs_nil _) (bs_nil _)).mono ?_
    rintro e w6 ⟨rfl, rfl⟩
    go_wp2_with fail
    go_ret
    exact ⟨rfl, hw5⟩
  · clear F1
    obtain ⟨E2, y2, n2⟩ := F2 l2 rfl
    clear F2
    go_wp2_with fail
    refine (H1 _).mono ?_
    rintro e w2 ⟨h, hw2⟩
    clear H1
    obtain rfl := h
    go_wp2_with fail
    refine (H2 _).mono ?_
    rintro e w3 ⟨h, hw3⟩
    clear H2
    obtain ⟨v, rfl, ho2⟩ := h
    obtain ⟨a2, c2, rfl, hb2, _⟩ := bs_owned ho2 y2
    clear ho2
    have hw3 := bl2 (bl2 hw1 hw2) hw3
    clear hw1 hw2
    go_wp2_with fail
    refine (H3 _).mono ?_
    rintro e w4 ⟨h, hw4⟩
    clear H3
    obtain rfl := h
    replace hb2 := hb2.later hw4
    have hw4 := bl2 hw3 hw4
    clear hw3
    go_wp2_with fail
    refine (H4 _).mono ?_
    rintro e w5 ⟨h, hw5⟩
    clear H4
    obtain ⟨v, rfl, ho4⟩ := h
    obtain ⟨a4, c4, rfl, hb4, _⟩ := bs_owned ho4 y2
    clear ho4
    replace hb2 := hb2.later hw5
    have hw5 := bl2 hw4 hw5
    clear hw4
    go_wp2_with fail
    refine (is_one _).mono ?_
    rintro e w6 ⟨rfl, rfl⟩
    go_wp2_with fail
    refine (same_eq (bs_nil _) (bs_nil _)).mono ?_
    rintro e w6 ⟨rfl, rfl⟩
    go_wp2_with fail
    refine (same_eq hb2 hb4).mono ?_
    rintro e w6 ⟨rfl, rfl⟩
    go_wp2_with fail
    refine (base64_d _ _ _ _ _ hb2 (by omega)).mono ?_
    rintro e w8 ⟨rfl, hw8⟩
    rw [E2]
    have hw8 := bl2 hw5 hw8
    go_wp2_with fail
    go_ret
    exact ⟨rfl, hw8⟩
  · obtain ⟨E1, y1, n1⟩ := F1 l1 rfl
    clear F1 F2
    go_wp2_with fail
    refine (H1 _).mono ?_
    rintro e w2 ⟨h, hw2⟩
    clear H1
    obtain ⟨v, rfl, ho1⟩ := h
    obtain ⟨a1, c1, rfl, hb1, _⟩ := bs_owned ho1 y1
    clear ho1
    go_wp2_with fail
    refine (H2 _).mono ?_
    rintro e w3 ⟨h, hw3⟩
    clear H2
    obtain rfl := h
    replace hb1 := hb1.later hw3
    have hw3 := bl2 (bl2 hw1 hw2) hw3
    clear hw1 hw2
    go_wp2_with fail
    refine (H3 _).mono ?_
    rintro e w4 ⟨h, hw4⟩
    clear H3
    obtain ⟨v, rfl, ho3⟩ := h
    obtain ⟨a3, c3, rfl, hb3, _⟩ := bs_owned ho3 y1
    clear ho3
    replace hb1 := hb1.later hw4
    have hw4 := bl2 hw3 hw4
    clear hw3
    go_wp2_with fail
    refine (H4 _).mono ?_
    rintro e w5 ⟨h, hw5⟩
    clear H4
    obtain rfl := h
    replace hb1 := hb1.later hw5
    replace hb3 := hb3.later hw5
    have hw5 := bl2 hw4 hw5
    clear hw4
    go_wp2_with fail
    refine (is_one _).mono ?_
    rintro e w6 ⟨rfl, rfl⟩
    go_wp2_with fail
    refine (same_eq hb1 hb3).mono ?_
    rintro e w6 ⟨rfl, rfl⟩
    go_wp2_with fail
    refine (same_eq (bs_nil _) (bs_nil _)).mono ?_
    rintro e w6 ⟨rfl, rfl⟩
    go_wp2_with fail
    refine (hex_d _ _ _ _ _ hb1 (by omega)).mono ?_
    rintro e w7 ⟨rfl, hw7⟩
    rw [E1]
    have hw7 := bl2 hw5 hw7
    go_wp2_with fail
    go_ret
    exact ⟨rfl, hw7⟩
  · obtain ⟨E1, y1, n1⟩ := F1 l1 rfl
    obtain ⟨E2, y2, n2⟩ := F2 l2 rfl
    clear F1 F2
    go_wp2_with fail
    refine (H1 _).mono ?_
    rintro e w2 ⟨h, hw2⟩
    clear H1
    obtain ⟨v, rfl, ho1⟩ := h
    obtain ⟨a1, c1, rfl, hb1, _⟩ := bs_owned ho1 y1
    clear ho1
    go_wp2_with fail
    refine (H2 _).mono ?_
    rintro e w3 ⟨h, hw3⟩
    clear H2
    obtain ⟨v, rfl, ho2⟩ := h
    obtain ⟨a2, c2, rfl, hb2, _⟩ := bs_owned ho2 y2
    clear ho2
    replace hb1 := hb1.later hw3
    have hw3 := bl2 (bl2 hw1 hw2) hw3
    clear hw1 hw2
    go_wp2_with fail
    refine (H3 _).mono ?_
    rintro e w4 ⟨h, hw4⟩
    clear H3
    obtain ⟨v, rfl, ho3⟩ := h
    obtain ⟨a3, c3, rfl, hb3, _⟩ := bs_owned ho3 y1
    clear ho3
    replace hb1 := hb1.later hw4
    replace hb2 := hb2.later hw4
    have hw4 := bl2 hw3 hw4
    clear hw3
    go_wp2_with fail
    refine (H4 _).mono ?_
    rintro e w5 ⟨h, hw5⟩
    clear H4
    obtain ⟨v, rfl, ho4⟩ := h
    obtain ⟨a4, c4, rfl, hb4, _⟩ := bs_owned ho4 y2
    clear ho4
    replace hb1 := hb1.later hw5
    replace hb3 := hb3.later hw5
    replace hb2 := hb2.later hw5
    have hw5 := bl2 hw4 hw5
    clear hw4
    go_wp2_with fail
    refine (same_eq hb1 hb3).mono ?_
    rintro e w6 ⟨rfl, rfl⟩
    go_wp2_with fail
    refine (same_eq hb2 hb4).mono ?_
    rintro e w6 ⟨rfl, rfl⟩
    go_wp2_with fail
    refine (hex_d _ _ _ _ _ hb1 (by omega)).mono ?_
    rintro e w7 ⟨rfl, hw7⟩
    rw [E1]
    replace hb2 := hb2.later hw7
    have hw7 := bl2 hw5 hw7
    go_wp2_with fail
    refine (base64_d _ _ _ _ _ hb2 (by omega)).mono ?_
    rintro e w8 ⟨rfl, hw8⟩
    rw [E2]
    have hw8 := bl2 hw7 hw8
    go_wp2_with fail
    go_ret
    exact ⟨rfl, hw8⟩
/-- A text's bytes as numbers. -/
def numsOf (s : ByteArray) : List Int := s.data.toList.map fun b => ((b.toNat : Nat) : Int)
theorem numsOf_byt (s : ByteArray) : Byt (numsOf s) := by
  intro z hz
  obtain ⟨b, _, rfl⟩ := List.mem_map.1 hz
  exact u8b b
theorem numsOf_str (s : ByteArray) : strOfNums (numsOf s) = s := by
  apply ByteArray.ext
  apply Array.ext'
  rw [strOfNums_data]
  unfold numsOf
  rw [List.map_map]
  conv => rhs; rw [← List.map_id s.data.toList]
  apply List.map_congr_left
  intro b _
  simp
theorem decodes_any (s : ByteArray) (w : World) :
    Calls Try.prog 4 #[.string s] w fun e w' => e = .returned (.bool true) ∧ Below w.heap.size w w' := by
  have h := decodes_walk (numsOf s) (numsOf_byt s) w
  rwa [numsOf_str] at h
end Go.Proofs.Ytmbjdegfgidadaa

namespace Go.Proofs.Ytmbjdegfgidadaa
open Go.RowKit Go.Maps

/-- Bytes as cells. -/
def bA (l : List Int) : Array Value := (l.map (Value.int .u8)).toArray
theorem bA_size (l : List Int) : (bA l).size = l.length := by simp [bA]
theorem bA_one (l : List Int) : ∀ v ∈ (bA l).toList, v.oneCell' = true := by
  intro v hv
  simp only [bA, List.mem_map] at hv
  obtain ⟨z, _, rfl⟩ := hv
  rfl
theorem bA_inj {a b : List Int} (h : bA a = bA b) : a = b := by
  have h1 : a.map (Value.int .u8) = b.map (Value.int .u8) := by simpa [bA] using h
  have h2 : ∀ l : List Int, (l.map (Value.int .u8)).map intOf = l := fun l => by
    rw [List.map_map]
    conv => rhs; rw [← List.map_id l]
    exact List.map_congr_left fun _ _ => rfl
  rw [← h2 a, ← h2 b, h1]
def zL (n : Nat) : List Int := List.replicate n 0
theorem st_bA {w : World} {b : Nat} {c : Array Value} {t0 : TypeId} {l : List Int} (hr : w.heap[b]? = some (.cells c t0 (0, 0))) (hs : c.size = l.length) : (storeCells ⟨b, 0, none⟩ (bA l).toList).run Try.prog w = .ok () (w.setRow b (bA l)) := by
  have := run_storeCells_from (P := Try.prog) b t0 (bA l).toList 0 c w hr (by simp [bA_size, hs]) (bA_one l)
  simpa using this
theorem ld_bA {w : World} {b : Nat} {l : List Int} {n : Nat} (hn : l.length = n) (hc : ∀ i, i < n → w.cell? ⟨b, i, none⟩ = some (.int .u8 (l.getD i 0))) : (loadCellsFrom ⟨b, 0, none⟩ 0 n #[]).run Try.prog w = .ok (bA l) w := by
  subst hn
  have := run_loadCells_list (P := Try.prog) w ⟨b, 0, none⟩ (bA l).toList (fun j v hv => by
    rw [Addr.add_lit, Nat.zero_add]
    have hj : j < l.length := by
      rcases Nat.lt_or_ge j l.length with h | h
      · exact h
      · rw [List.getElem?_eq_none (by simpa [bA] using h)] at hv; cases hv
    rw [hc j hj]
    simp [bA, hj] at hv
    simp [hj, hv])
  simpa [loadCells, bA_size] using this
theorem rng_bA {w : World} {b : Nat} {l : List Int} {n : Nat} (hn : l.length = n) (hc : ∀ i, i < n → w.cell? ⟨b, i, none⟩ = some (.int .u8 (l.getD i 0))) : w.rangeAt b 0 (l.map (Value.int .u8)) := by
  intro j v hj
  have hjl : j < l.length := by
    rcases Nat.lt_or_ge j l.length with h | h
    · exact h
    · rw [List.getElem?_eq_none (by simpa using h)] at hj; cases hj
  rw [Nat.zero_add, hc j (by omega)]
  simp [hjl] at hj
  simp [hjl, hj]
theorem ld_row {w : World} {b : Nat} {t : TypeId} {l : List Int} {n : Nat} (hn : l.length = n) (h : w.heap[b]? = some (.cells (bA l) t (0, 0))) : (loadCellsFrom ⟨b, 0, none⟩ 0 n #[]).run Try.prog w = .ok (bA l) w := ld_bA hn fun i hi => by
  simp [World.cell?, h, bA, show i < l.length by omega]
theorem row_set {w : World} {b : Nat} {c c' : Array Value} {t : TypeId} (h : w.heap[b]? = some (.cells c t (0, 0))) : (w.setRow b c').heap[b]? = some (.cells c' t (0, 0)) := setRow_heap _ _ _ _ _ _ h
theorem bel_set {B : Nat} {w u : World} {b : Nat} {c' : Array Value} (h : Below B w u) (hb : B ≤ b) : Below B w (u.setRow b c') :=
  ⟨h.os, h.tape, h.output, by simpa [World.setRow] using h.size, fun k hk => (setRow_other u b k c' (by omega)).trans (h.block k hk)⟩
def fx (n : Nat) (o : Option (List Int)) : Option (List Int) := match o with
  | none => none
  | some l => if l.length = n then some l else none
def AnF (n : Nat) (o : Option (List Int)) (e : Ending) : Prop := match o with
  | none => e = .returned (.tuple #[.agg (bA (zL n)), .iface 37 (.int .i64 1)])
  | some l => e = .returned (.tuple #[.agg (bA l), .nilIface])

theorem results_ct {fn : Func} {p q : Tmp} {ty : TypeId} {u : World} {b : Nat} {c : Array Value} {t0 : TypeId} {n : Nat} {e : TypeId} {x : Value} (h : fn.results = #[.cell p ty, .tmp q]) (tmps : Array Value) (ht : tmps.getD p undef = .pointer (some ⟨b, 0, none⟩)) (hq : tmps.getD q undef = x)
    (hu : Try.prog.underlying ty = some (.array n e)) (hi : (Try.prog.info? ty).map (·.size) = some c.size) (hrow : u.heap[b]? = some (.cells c t0 (0, 0))) : (results fn tmps).run Try.prog u = .ok (.tuple #[.agg c, x]) u := by
  have hr := run_loadVar_row (P := Try.prog) u b t0 ty c (0, 0) _ hrow hu rfl hi
  have ht2 : tmps[p]?.getD undef = .pointer (some ⟨b, 0, none⟩) := by simpa using ht
  have hq2 : tmps[q]?.getD undef = x := by simpa using hq
  simp [results, h, ht2, hq2, asAddr, hr, Result.andThen]
end Go.Proofs.Ytmbjdegfgidadaa

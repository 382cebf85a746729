/- JSv, KC1, KC2, KC3, KC4, KA, KR1: laid together. -/
import Derived.Test.YthgndmgoilfpcaaGreatDoorProg
import Derived.Shelf.Unicode.ValidAny
import Derived.Lib.MapLaws
import Derived.Test.YthgndmgoilfpcaaGreatDoorG3
import Derived.Test.YthgndmgoilfpcaaGreatDoorG2
namespace Go.Proofs.YthgndmgoilfpcaaGreatDoor
open Go.Shelf
def lays196_ren : Go.Shelf.Ren := ⟨fun | 196 => 55 | 259 => 91 | n => n, fun | 9 => 9 | 4 => 4 | 3 => 3 | 5 => 5 | 12 => 12 | 119 => 99 | 0 => 0 | 46 => 103 | 139 => 102 | 138 => 101 | 53 => 125 | n => n, fun | 3 => 0 | 4 => 1 | n => n⟩
theorem lays196 : Go.Proofs.Lays.n196 Tryz.prog lays196_ren := {
  mixed := by kernel_rfl
  f196 := Tryz.func55.trans (congrArg some (by kernel_rfl))
  f259 := Tryz.func91.trans (congrArg some (by kernel_rfl))
  t0 := Tryz.underlying0
  a0 := Tryz.isAgg0
  z0 := Tryz.sizeOf0
  v0 := Tryz.zeroValue0
  t3 := Tryz.underlying3
  a3 := Tryz.isAgg3
  z3 := Tryz.sizeOf3
  v3 := Tryz.zeroValue3
  t4 := Tryz.underlying4
  a4 := Tryz.isAgg4
  z4 := Tryz.sizeOf4
  v4 := Tryz.zeroValue4
  t5 := Tryz.underlying5
  a5 := Tryz.isAgg5
  z5 := Tryz.sizeOf5
  v5 := Tryz.zeroValue5
  t9 := Tryz.underlying9
  a9 := Tryz.isAgg9
  z9 := Tryz.sizeOf9
  v9 := Tryz.zeroValue9
  t12 := Tryz.underlying12
  a12 := Tryz.isAgg12
  z12 := Tryz.sizeOf12
  v12 := Tryz.zeroValue12
  t46 := Tryz.underlying103
  a46 := Tryz.isAgg103
  z46 := Tryz.sizeOf103
  v46 := Tryz.zeroValue103
  t53 := Tryz.underlying125
  a53 := Tryz.isAgg125
  z53 := Tryz.sizeOf125
  v53 := Tryz.zeroValue125
  t119 := Tryz.underlying99
  a119 := Tryz.isAgg99
  z119 := Tryz.sizeOf99
  t138 := Tryz.underlying101
  a138 := Tryz.isAgg101
  z138 := Tryz.sizeOf101
  v138 := Tryz.zeroValue101
  t139 := Tryz.underlying102
  a139 := Tryz.isAgg102
  z139 := Tryz.sizeOf102
  v139 := Tryz.zeroValue102
  g3 := by kernel_rfl
  g4 := by kernel_rfl }
open Go.RowKit Go.Lib in
theorem utf8_ValidString (s : ByteArray) (w : World) (hs : s.size ≤ 9223372036854775807) (hT : Lib.Utf8Tabs 0 1 w) :
    Calls Tryz.prog 55 #[.string s] w fun e w' => e = .returned (.bool (Lib.validD s.data.toList)) ∧ Below w.heap.size w w' := Any.utf8_ValidString lays196 s w hs hT
def lays260_ren : Go.Shelf.Ren := ⟨fun | 260 => 143 | n => n, fun | 9 => 9 | 21 => 21 | 3 => 3 | 4 => 4 | 5 => 5 | 119 => 99 | 0 => 0 | 46 => 103 | 139 => 102 | 138 => 101 | n => n, fun | 3 => 0 | 4 => 1 | n => n⟩
theorem lays260 : Go.Proofs.Lays.n260 Tryz.prog lays260_ren := {
  mixed := by kernel_rfl
  f260 := Tryz.func143.trans (congrArg some (by kernel_rfl))
  t0 := Tryz.underlying0
  a0 := Tryz.isAgg0
  z0 := Tryz.sizeOf0
  v0 := Tryz.zeroValue0
  t3 := Tryz.underlying3
  a3 := Tryz.isAgg3
  z3 := Tryz.sizeOf3
  v3 := Tryz.zeroValue3
  t4 := Tryz.underlying4
  a4 := Tryz.isAgg4
  z4 := Tryz.sizeOf4
  v4 := Tryz.zeroValue4
  t5 := Tryz.underlying5
  a5 := Tryz.isAgg5
  z5 := Tryz.sizeOf5
  v5 := Tryz.zeroValue5
  t9 := Tryz.underlying9
  a9 := Tryz.isAgg9
  z9 := Tryz.sizeOf9
  v9 := Tryz.zeroValue9
  t21 := Tryz.underlying21
  a21 := Tryz.isAgg21
  z21 := Tryz.sizeOf21
  v21 := Tryz.zeroValue21
  t46 := Tryz.underlying103
  a46 := Tryz.isAgg103
  z46 := Tryz.sizeOf103
  v46 := Tryz.zeroValue103
  t119 := Tryz.underlying99
  a119 := Tryz.isAgg99
  z119 := Tryz.sizeOf99
  t138 := Tryz.underlying101
  a138 := Tryz.isAgg101
  z138 := Tryz.sizeOf101
  v138 := Tryz.zeroValue101
  t139 := Tryz.underlying102
  a139 := Tryz.isAgg102
  z139 := Tryz.sizeOf102
  v139 := Tryz.zeroValue102
  g3 := by kernel_rfl
  g4 := by kernel_rfl }
end Go.Proofs.YthgndmgoilfpcaaGreatDoor

namespace Go.Proofs.YthgndmgoilfpcaaGreatDoor
open Go.RowKit

def spB (k i : Int) (s : List UInt8) (nl np : Nat) : Bool :=
  decide (i ≠ 0 ∧ k ≠ 1 ∧ k ≠ 2) || decide (s ≠ [] ∧ k ≠ 3) || decide (0 < nl ∧ k ≠ 4) || decide (0 < np ∧ k ≠ 5)
theorem spB_1 {k i : Int} {s : List UInt8} {nl np : Nat} (h : i ≠ 0 ∧ k ≠ 1 ∧ k ≠ 2) : spB k i s nl np = true := by unfold spB; rw [decide_eq_true h]; simp only [Bool.true_or]
theorem spB_2 {k i : Int} {s : List UInt8} {nl np : Nat} (h : s ≠ [] ∧ k ≠ 3) : spB k i s nl np = true := by unfold spB; rw [decide_eq_true h]; simp only [Bool.true_or, Bool.or_true]
theorem spB_3 {k i : Int} {s : List UInt8} {nl np : Nat} (h : 0 < nl ∧ k ≠ 4) : spB k i s nl np = true := by unfold spB; rw [decide_eq_true h]; simp only [Bool.true_or, Bool.or_true]
theorem spB_4 {k i : Int} {s : List UInt8} {nl np : Nat} (h : 0 < np ∧ k ≠ 5) : spB k i s nl np = true := by unfold spB; rw [decide_eq_true h]; simp only [Bool.or_true]
theorem spB_f {k i : Int} {s : List UInt8} {nl np : Nat} (h1 : ¬ (i ≠ 0 ∧ k ≠ 1 ∧ k ≠ 2)) (h2 : ¬ (s ≠ [] ∧ k ≠ 3)) (h3 : ¬ (0 < nl ∧ k ≠ 4)) (h4 : ¬ (0 < np ∧ k ≠ 5)) : spB k i s nl np = false := by unfold spB; rw [decide_eq_false h1, decide_eq_false h2, decide_eq_false h3, decide_eq_false h4]; rfl
def inR (n : Int) : Bool := decide (-9007199254740991 ≤ n ∧ n ≤ 9007199254740991)
def gd : Nat → T → Bool
  | n, .mk k i s l p => !spB k i s l.length p.length && (
    if k = 0 then true else if k = 1 then decide (i = 0 ∨ i = 1) else if k = 2 then inR i else if k = 3 then Lib.validD s
    else if k = 4 then (match n with
      | 0 => false
      | n + 1 => l.all (gd n))
    else if k = 5 then (match n with
      | 0 => false
      | n + 1 => p.all (fun q => Lib.validD q.1 && gd n q.2) && onc (p.map (·.1)))
    else false)
theorem rng_d {n : Int} {w : World} : Calls Tryz.prog 54 #[.int .i64 n] w fun e w' => e = .returned (.bool (inR n)) ∧ w' = w := by
  by_cases h1 : -9007199254740991 ≤ n
  · by_cases h2 : n ≤ 9007199254740991
    · have e : inR n = true := decide_eq_true ⟨h1, h2⟩
      rw [e]
      have d1 : decide ((-9007199254740991 : Int) ≤ n) = true := decide_eq_true h1
      have d2 : decide (n ≤ 9007199254740991) = true := decide_eq_true h2
      go_enter Tryz.func54, Tryz.ntmps54
      go_wp2
      go_ret
      exact ⟨rfl, rfl⟩
    · have e : inR n = false := decide_eq_false fun h => h2 h.2
      rw [e]
      have d1 : decide ((-9007199254740991 : Int) ≤ n) = true := decide_eq_true h1
      have d2 : decide (n ≤ 9007199254740991) = false := decide_eq_false h2
      go_enter Tryz.func54, Tryz.ntmps54
      go_wp2
      go_ret
      exact ⟨rfl, rfl⟩
  · have e : inR n = false := decide_eq_false fun h => h1 h.1
    rw [e]
    have d1 : decide ((-9007199254740991 : Int) ≤ n) = false := decide_eq_false h1
    go_enter Tryz.func54, Tryz.ntmps54
    go_wp2
    go_ret
    exact ⟨rfl, rfl⟩
theorem RwA.slc {F : Nat → Prop} {w : World} {e : TypeId} {z : Nat} {v : Value} {cs : List (List Value)} (h : RwA F w e z v cs) : ∃ a cap, v = .slice a cs.length cap := by
  obtain ⟨_, ⟨a, cap, h1, h2⟩ | ⟨b, o, cap, cur, fz, h1, _⟩⟩ := h
  · exact ⟨a, cap, by rw [h1, h2]; rfl⟩
  · exact ⟨_, cap, h1⟩
theorem st_no {s : List UInt8} : (st s).toList = [] ↔ s = [] := by
  have h := st_eq s []
  have e : (st []).toList = [] := by kernel_rfl
  rw [e] at h
  by_cases hs : s = []
  · subst hs; simp [e]
  · rw [decide_eq_false hs] at h
    simp only [hs, iff_false]
    intro h2
    rw [h2] at h
    cases h
theorem kinds (k : Int) : k = 1 ∨ k = 2 ∨ k = 3 ∨ k = 4 ∨ k = 5 ∨ (k ≠ 1 ∧ k ≠ 2 ∧ k ≠ 3 ∧ k ≠ 4 ∧ k ≠ 5) := by omega
set_option maxHeartbeats 8000000 in
set_option maxRecDepth 100000 in
theorem spare_1 {i : Int} {s : List UInt8} {sa pa : Option Addr} {nl np sc pc : Nat} {w : World} : Calls Tryz.prog 53 #[.agg #[.int .i64 1, .int .i64 i, .string (st s), .slice sa nl sc, .slice pa np pc]] w fun e w' => e = .returned (.bool (spB 1 i s nl np)) ∧ Below w.heap.size w w' := by
  obtain ⟨B, hB⟩ : ∃ B, Hid (B = spB 1 i s nl np) := ⟨_, hide1 rfl⟩
  rw [← hB.out]
  have hbl : Hid (Below w.heap.size w (w.alloc (.cells #[.int .i64 (1), .int .i64 i, .string (st s), .slice sa nl sc, .slice pa np pc] 28))) := hide1 ((Below.refl _ _).alloc (Nat.le_refl _) _)
  by_cases hi : i = 0
  · have di : (i != 0) = false := by simpa using hi
    by_cases hs : s = []
    · have ds : (st s).toList = [] := st_no.2 hs
      by_cases hl : nl = 0
      · have dl : ¬ 0 < nl := by omega
        by_cases hp : np = 0
        · have dp : ¬ 0 < np := by omega
          have hE : Hid (B = false) := hide1 (hB.out.trans (spB_f (by omega) (fun h => h.1 hs) (by omega) (by omega)))
          clear hB hi hs hl hp
          go_enter Tryz.func53, Tryz.ntmps53
          go_wp2
          go_ret
          exact ⟨by rw [hE.out]; rfl, hbl.out⟩
        · have dp : 0 < np := by omega
          have hE : Hid (B = true) := hide1 (hB.out.trans (spB_4 ⟨by omega, by omega⟩))
          clear hB hi hs hl hp
          go_enter Tryz.func53, Tryz.ntmps53
          go_wp2
          go_ret
          exact ⟨by rw [hE.out]; rfl, hbl.out⟩
      · have dl : 0 < nl := by omega
        have hE : Hid (B = true) := hide1 (hB.out.trans (spB_3 ⟨by omega, by omega⟩))
        clear hB hi hs hl
        go_enter Tryz.func53, Tryz.ntmps53
        go_wp2
        go_ret
        exact ⟨by rw [hE.out]; rfl, hbl.out⟩
    · have ds : ¬ (st s).toList = [] := fun h => hs (st_no.1 h)
      have hE : Hid (B = true) := hide1 (hB.out.trans (spB_2 ⟨hs, by omega⟩))
      clear hB hi hs
      go_enter Tryz.func53, Tryz.ntmps53
      go_wp2
      go_ret
      exact ⟨by rw [hE.out]; rfl, hbl.out⟩
  · have di : (i != 0) = true := by simpa using hi
    by_cases hs : s = []
    · have ds : (st s).toList = [] := st_no.2 hs
      by_cases hl : nl = 0
      · have dl : ¬ 0 < nl := by omega
        by_cases hp : np = 0
        · have dp : ¬ 0 < np := by omega
          have hE : Hid (B = false) := hide1 (hB.out.trans (spB_f (by omega) (fun h => h.1 hs) (by omega) (by omega)))
          clear hB hi hs hl hp
          go_enter Tryz.func53, Tryz.ntmps53
          go_wp2
          go_ret
          exact ⟨by rw [hE.out]; rfl, hbl.out⟩
        · have dp : 0 < np := by omega
          have hE : Hid (B = true) := hide1 (hB.out.trans (spB_4 ⟨by omega, by omega⟩))
          clear hB hi hs hl hp
          go_enter Tryz.func53, Tryz.ntmps53
          go_wp2
          go_ret
          exact ⟨by rw [hE.out]; rfl, hbl.out⟩
      · have dl : 0 < nl := by omega
        have hE : Hid (B = true) := hide1 (hB.out.trans (spB_3 ⟨by omega, by omega⟩))
        clear hB hi hs hl
        go_enter Tryz.func53, Tryz.ntmps53
        go_wp2
        go_ret
        exact ⟨by rw [hE.out]; rfl, hbl.out⟩
    · have ds : ¬ (st s).toList = [] := fun h => hs (st_no.1 h)
      have hE : Hid (B = true) := hide1 (hB.out.trans (spB_2 ⟨hs, by omega⟩))
      clear hB hi hs
      go_enter Tryz.func53, Tryz.ntmps53
      go_wp2
      go_ret
      exact ⟨by rw [hE.out]; rfl, hbl.out⟩
set_option maxHeartbeats 8000000 in
set_option maxRecDepth 100000 in
theorem spare_2 {i : Int} {s : List UInt8} {sa pa : Option Addr} {nl np sc pc : Nat} {w : World} : Calls Tryz.prog 53 #[.agg #[.int .i64 2, .int .i64 i, .string (st s), .slice sa nl sc, .slice pa np pc]] w fun e w' => e = .returned (.bool (spB 2 i s nl np)) ∧ Below w.heap.size w w' := by
  obtain ⟨B, hB⟩ : ∃ B, Hid (B = spB 2 i s nl np) := ⟨_, hide1 rfl⟩
  rw [← hB.out]
  have hbl : Hid (Below w.heap.size w (w.alloc (.cells #[.int .i64 (2), .int .i64 i, .string (st s), .slice sa nl sc, .slice pa np pc] 28))) := hide1 ((Below.refl _ _).alloc (Nat.le_refl _) _)
  by_cases hi : i = 0
  · have di : (i != 0) = false := by simpa using hi
    by_cases hs : s = []
    · have ds : (st s).toList = [] := st_no.2 hs
      by_cases hl : nl = 0
      · have dl : ¬ 0 < nl := by omega
        by_cases hp : np = 0
        · have dp : ¬ 0 < np := by omega
          have hE : Hid (B = false) := hide1 (hB.out.trans (spB_f (by omega) (fun h => h.1 hs) (by omega) (by omega)))
          clear hB hi hs hl hp
          go_enter Tryz.func53, Tryz.ntmps53
          go_wp2
          go_ret
          exact ⟨by rw [hE.out]; rfl, hbl.out⟩
        · have dp : 0 < np := by omega
          have hE : Hid (B = true) := hide1 (hB.out.trans (spB_4 ⟨by omega, by omega⟩))
          clear hB hi hs hl hp
          go_enter Tryz.func53, Tryz.ntmps53
          go_wp2
          go_ret
          exact ⟨by rw [hE.out]; rfl, hbl.out⟩
      · have dl : 0 < nl := by omega
        have hE : Hid (B = true) := hide1 (hB.out.trans (spB_3 ⟨by omega, by omega⟩))
        clear hB hi hs hl
        go_enter Tryz.func53, Tryz.ntmps53
        go_wp2
        go_ret
        exact ⟨by rw [hE.out]; rfl, hbl.out⟩
    · have ds : ¬ (st s).toList = [] := fun h => hs (st_no.1 h)
      have hE : Hid (B = true) := hide1 (hB.out.trans (spB_2 ⟨hs, by omega⟩))
      clear hB hi hs
      go_enter Tryz.func53, Tryz.ntmps53
      go_wp2
      go_ret
      exact ⟨by rw [hE.out]; rfl, hbl.out⟩
  · have di : (i != 0) = true := by simpa using hi
    by_cases hs : s = []
    · have ds : (st s).toList = [] := st_no.2 hs
      by_cases hl : nl = 0
      · have dl : ¬ 0 < nl := by omega
        by_cases hp : np = 0
        · have dp : ¬ 0 < np := by omega
          have hE : Hid (B = false) := hide1 (hB.out.trans (spB_f (by omega) (fun h => h.1 hs) (by omega) (by omega)))
          clear hB hi hs hl hp
          go_enter Tryz.func53, Tryz.ntmps53
          go_wp2
          go_ret
          exact ⟨by rw [hE.out]; rfl, hbl.out⟩
        · have dp : 0 < np := by omega
          have hE : Hid (B = true) := hide1 (hB.out.trans (spB_4 ⟨by omega, by omega⟩))
          clear hB hi hs hl hp
          go_enter Tryz.func53, Tryz.ntmps53
          go_wp2
          go_ret
          exact ⟨by rw [hE.out]; rfl, hbl.out⟩
      · have dl : 0 < nl := by omega
        have hE : Hid (B = true) := hide1 (hB.out.trans (spB_3 ⟨by omega, by omega⟩))
        clear hB hi hs hl
        go_enter Tryz.func53, Tryz.ntmps53
        go_wp2
        go_ret
        exact ⟨by rw [hE.out]; rfl, hbl.out⟩
    · have ds : ¬ (st s).toList = [] := fun h => hs (st_no.1 h)
      have hE : Hid (B = true) := hide1 (hB.out.trans (spB_2 ⟨hs, by omega⟩))
      clear hB hi hs
      go_enter Tryz.func53, Tryz.ntmps53
      go_wp2
      go_ret
      exact ⟨by rw [hE.out]; rfl, hbl.out⟩
set_option maxHeartbeats 8000000 in
set_option maxRecDepth 100000 in
theorem spare_3 {i : Int} {s : List UInt8} {sa pa : Option Addr} {nl np sc pc : Nat} {w : World} : Calls Tryz.prog 53 #[.agg #[.int .i64 3, .int .i64 i, .string (st s), .slice sa nl sc, .slice pa np pc]] w fun e w' => e = .returned (.bool (spB 3 i s nl np)) ∧ Below w.heap.size w w' := by
  obtain ⟨B, hB⟩ : ∃ B, Hid (B = spB 3 i s nl np) := ⟨_, hide1 rfl⟩
  rw [← hB.out]
  have hbl : Hid (Below w.heap.size w (w.alloc (.cells #[.int .i64 (3), .int .i64 i, .string (st s), .slice sa nl sc, .slice pa np pc] 28))) := hide1 ((Below.refl _ _).alloc (Nat.le_refl _) _)
  by_cases hi : i = 0
  · have di : (i != 0) = false := by simpa using hi
    by_cases hs : s = []
    · have ds : (st s).toList = [] := st_no.2 hs
      by_cases hl : nl = 0
      · have dl : ¬ 0 < nl := by omega
        by_cases hp : np = 0
        · have dp : ¬ 0 < np := by omega
          have hE : Hid (B = false) := hide1 (hB.out.trans (spB_f (by omega) (fun h => h.1 hs) (by omega) (by omega)))
          clear hB hi hs hl hp
          go_enter Tryz.func53, Tryz.ntmps53
          go_wp2
          go_ret
          exact ⟨by rw [hE.out]; rfl, hbl.out⟩
        · have dp : 0 < np := by omega
          have hE : Hid (B = true) := hide1 (hB.out.trans (spB_4 ⟨by omega, by omega⟩))
          clear hB hi hs hl hp
          go_enter Tryz.func53, Tryz.ntmps53
          go_wp2
          go_ret
          exact ⟨by rw [hE.out]; rfl, hbl.out⟩
      · have dl : 0 < nl := by omega
        have hE : Hid (B = true) := hide1 (hB.out.trans (spB_3 ⟨by omega, by omega⟩))
        clear hB hi hs hl
        go_enter Tryz.func53, Tryz.ntmps53
        go_wp2
        go_ret
        exact ⟨by rw [hE.out]; rfl, hbl.out⟩
    · have ds : ¬ (st s).toList = [] := fun h => hs (st_no.1 h)
      by_cases hl : nl = 0
      · have dl : ¬ 0 < nl := by omega
        by_cases hp : np = 0
        · have dp : ¬ 0 < np := by omega
          have hE : Hid (B = false) := hide1 (hB.out.trans (spB_f (by omega) (fun h => h.2 rfl) (by omega) (by omega)))
          clear hB hi hs hl hp
          go_enter Tryz.func53, Tryz.ntmps53
          go_wp2
          go_ret
          exact ⟨by rw [hE.out]; rfl, hbl.out⟩
        · have dp : 0 < np := by omega
          have hE : Hid (B = true) := hide1 (hB.out.trans (spB_4 ⟨by omega, by omega⟩))
          clear hB hi hs hl hp
          go_enter Tryz.func53, Tryz.ntmps53
          go_wp2
          go_ret
          exact ⟨by rw [hE.out]; rfl, hbl.out⟩
      · have dl : 0 < nl := by omega
        have hE : Hid (B = true) := hide1 (hB.out.trans (spB_3 ⟨by omega, by omega⟩))
        clear hB hi hs hl
        go_enter Tryz.func53, Tryz.ntmps53
        go_wp2
        go_ret
        exact ⟨by rw [hE.out]; rfl, hbl.out⟩
  · have di : (i != 0) = true := by simpa using hi
    have hE : Hid (B = true) := hide1 (hB.out.trans (spB_1 ⟨hi, by omega, by omega⟩))
    clear hB hi
    go_enter Tryz.func53, Tryz.ntmps53
    go_wp2
    go_ret
    exact ⟨by rw [hE.out]; rfl, hbl.out⟩
set_option maxHeartbeats 8000000 in
set_option maxRecDepth 100000 in
theorem spare_4 {i : Int} {s : List UInt8} {sa pa : Option Addr} {nl np sc pc : Nat} {w : World} : Calls Tryz.prog 53 #[.agg #[.int .i64 4, .int .i64 i, .string (st s), .slice sa nl sc, .slice pa np pc]] w fun e w' => e = .returned (.bool (spB 4 i s nl np)) ∧ Below w.heap.size w w' := by
  obtain ⟨B, hB⟩ : ∃ B, Hid (B = spB 4 i s nl np) := ⟨_, hide1 rfl⟩
  rw [← hB.out]
  have hbl : Hid (Below w.heap.size w (w.alloc (.cells #[.int .i64 (4), .int .i64 i, .string (st s), .slice sa nl sc, .slice pa np pc] 28))) := hide1 ((Below.refl _ _).alloc (Nat.le_refl _) _)
  by_cases hi : i = 0
  · have di : (i != 0) = false := by simpa using hi
    by_cases hs : s = []
    · have ds : (st s).toList = [] := st_no.2 hs
      by_cases hl : nl = 0
      · have dl : ¬ 0 < nl := by omega
        by_cases hp : np = 0
        · have dp : ¬ 0 < np := by omega
          have hE : Hid (B = false) := hide1 (hB.out.trans (spB_f (by omega) (fun h => h.1 hs) (by omega) (by omega)))
          clear hB hi hs hl hp
          go_enter Tryz.func53, Tryz.ntmps53
          go_wp2
          go_ret
          exact ⟨by rw [hE.out]; rfl, hbl.out⟩
        · have dp : 0 < np := by omega
          have hE : Hid (B = true) := hide1 (hB.out.trans (spB_4 ⟨by omega, by omega⟩))
          clear hB hi hs hl hp
          go_enter Tryz.func53, Tryz.ntmps53
          go_wp2
          go_ret
          exact ⟨by rw [hE.out]; rfl, hbl.out⟩
      · have dl : 0 < nl := by omega
        by_cases hp : np = 0
        · have dp : ¬ 0 < np := by omega
          have hE : Hid (B = false) := hide1 (hB.out.trans (spB_f (by omega) (fun h => h.1 hs) (by omega) (by omega)))
          clear hB hi hs hl hp
          go_enter Tryz.func53, Tryz.ntmps53
          go_wp2
          go_ret
          exact ⟨by rw [hE.out]; rfl, hbl.out⟩
        · have dp : 0 < np := by omega
          have hE : Hid (B = true) := hide1 (hB.out.trans (spB_4 ⟨by omega, by omega⟩))
          clear hB hi hs hl hp
          go_enter Tryz.func53, Tryz.ntmps53
          go_wp2
          go_ret
          exact ⟨by rw [hE.out]; rfl, hbl.out⟩
    · have ds : ¬ (st s).toList = [] := fun h => hs (st_no.1 h)
      have hE : Hid (B = true) := hide1 (hB.out.trans (spB_2 ⟨hs, by omega⟩))
      clear hB hi hs
      go_enter Tryz.func53, Tryz.ntmps53
      go_wp2
      go_ret
      exact ⟨by rw [hE.out]; rfl, hbl.out⟩
  · have di : (i != 0) = true := by simpa using hi
    have hE : Hid (B = true) := hide1 (hB.out.trans (spB_1 ⟨hi, by omega, by omega⟩))
    clear hB hi
    go_enter Tryz.func53, Tryz.ntmps53
    go_wp2
    go_ret
    exact ⟨by rw [hE.out]; rfl, hbl.out⟩
set_option maxHeartbeats 8000000 in
set_option maxRecDepth 100000 in
theorem spare_5 {i : Int} {s : List UInt8} {sa pa : Option Addr} {nl np sc pc : Nat} {w : World} : Calls Tryz.prog 53 #[.agg #[.int .i64 5, .int .i64 i, .string (st s), .slice sa nl sc, .slice pa np pc]] w fun e w' => e = .returned (.bool (spB 5 i s nl np)) ∧ Below w.heap.size w w' := by
  obtain ⟨B, hB⟩ : ∃ B, Hid (B = spB 5 i s nl np) := ⟨_, hide1 rfl⟩
  rw [← hB.out]
  have hbl : Hid (Below w.heap.size w (w.alloc (.cells #[.int .i64 (5), .int .i64 i, .string (st s), .slice sa nl sc, .slice pa np pc] 28))) := hide1 ((Below.refl _ _).alloc (Nat.le_refl _) _)
  by_cases hi : i = 0
  · have di : (i != 0) = false := by simpa using hi
    by_cases hs : s = []
    · have ds : (st s).toList = [] := st_no.2 hs
      by_cases hl : nl = 0
      · have dl : ¬ 0 < nl := by omega
        by_cases hp : np = 0
        · have dp : ¬ 0 < np := by omega
          have hE : Hid (B = false) := hide1 (hB.out.trans (spB_f (by omega) (fun h => h.1 hs) (by omega) (by omega)))
          clear hB hi hs hl hp
          go_enter Tryz.func53, Tryz.ntmps53
          go_wp2
          go_ret
          exact ⟨by rw [hE.out]; rfl, hbl.out⟩
        · have dp : 0 < np := by omega
          have hE : Hid (B = false) := hide1 (hB.out.trans (spB_f (by omega) (fun h => h.1 hs) (by omega) (by omega)))
          clear hB hi hs hl hp
          go_enter Tryz.func53, Tryz.ntmps53
          go_wp2
          go_ret
          exact ⟨by rw [hE.out]; rfl, hbl.out⟩
      · have dl : 0 < nl := by omega
        have hE : Hid (B = true) := hide1 (hB.out.trans (spB_3 ⟨by omega, by omega⟩))
        clear hB hi hs hl
        go_enter Tryz.func53, Tryz.ntmps53
        go_wp2
        go_ret
        exact ⟨by rw [hE.out]; rfl, hbl.out⟩
    · have ds : ¬ (st s).toList = [] := fun h => hs (st_no.1 h)
      have hE : Hid (B = true) := hide1 (hB.out.trans (spB_2 ⟨hs, by omega⟩))
      clear hB hi hs
      go_enter Tryz.func53, Tryz.ntmps53
      go_wp2
      go_ret
      exact ⟨by rw [hE.out]; rfl, hbl.out⟩
  · have di : (i != 0) = true := by simpa using hi
    have hE : Hid (B = true) := hide1 (hB.out.trans (spB_1 ⟨hi, by omega, by omega⟩))
    clear hB hi
    go_enter Tryz.func53, Tryz.ntmps53
    go_wp2
    go_ret
    exact ⟨by rw [hE.out]; rfl, hbl.out⟩
set_option maxHeartbeats 8000000 in
set_option maxRecDepth 100000 in
theorem spare_o {k i : Int} {s : List UInt8} {sa pa : Option Addr} {nl np sc pc : Nat} {w : World} (k1 : k ≠ 1) (k2 : k ≠ 2) (k3 : k ≠ 3) (k4 : k ≠ 4) (k5 : k ≠ 5) : Calls Tryz.prog 53 #[.agg #[.int .i64 k, .int .i64 i, .string (st s), .slice sa nl sc, .slice pa np pc]] w fun e w' => e = .returned (.bool (spB k i s nl np)) ∧ Below w.heap.size w w' := by
  obtain ⟨B, hB⟩ : ∃ B, Hid (B = spB k i s nl np) := ⟨_, hide1 rfl⟩
  rw [← hB.out]
  have hbl : Hid (Below w.heap.size w (w.alloc (.cells #[.int .i64 k, .int .i64 i, .string (st s), .slice sa nl sc, .slice pa np pc] 28))) := hide1 ((Below.refl _ _).alloc (Nat.le_refl _) _)
  have d1 : (k != 1) = true := by simpa using k1
  have d2 : (k != 2) = true := by simpa using k2
  have d3 : (k != 3) = true := by simpa using k3
  have d4 : (k != 4) = true := by simpa using k4
  have d5 : (k != 5) = true := by simpa using k5
  by_cases hi : i = 0
  · have di : (i != 0) = false := by simpa using hi
    by_cases hs : s = []
    · have ds : (st s).toList = [] := st_no.2 hs
      by_cases hl : nl = 0
      · have dl : ¬ 0 < nl := by omega
        by_cases hp : np = 0
        · have dp : ¬ 0 < np := by omega
          have hE : Hid (B = false) := hide1 (hB.out.trans (spB_f (by omega) (fun h => h.1 hs) (by omega) (by omega)))
          clear hB hi hs hl hp
          go_enter Tryz.func53, Tryz.ntmps53
          go_wp2
          go_ret
          exact ⟨by rw [hE.out]; rfl, hbl.out⟩
        · have dp : 0 < np := by omega
          have hE : Hid (B = true) := hide1 (hB.out.trans (spB_4 ⟨by omega, by omega⟩))
          clear hB hi hs hl hp
          go_enter Tryz.func53, Tryz.ntmps53
          go_wp2
          go_ret
          exact ⟨by rw [hE.out]; rfl, hbl.out⟩
      · have dl : 0 < nl := by omega
        have hE : Hid (B = true) := hide1 (hB.out.trans (spB_3 ⟨by omega, by omega⟩))
        clear hB hi hs hl
        go_enter Tryz.func53, Tryz.ntmps53
        go_wp2
        go_ret
        exact ⟨by rw [hE.out]; rfl, hbl.out⟩
    · have ds : ¬ (st s).toList = [] := fun h => hs (st_no.1 h)
      have hE : Hid (B = true) := hide1 (hB.out.trans (spB_2 ⟨hs, by omega⟩))
      clear hB hi hs
      go_enter Tryz.func53, Tryz.ntmps53
      go_wp2
      go_ret
      exact ⟨by rw [hE.out]; rfl, hbl.out⟩
  · have di : (i != 0) = true := by simpa using hi
    have hE : Hid (B = true) := hide1 (hB.out.trans (spB_1 ⟨hi, by omega, by omega⟩))
    clear hB hi
    go_enter Tryz.func53, Tryz.ntmps53
    go_wp2
    go_ret
    exact ⟨by rw [hE.out]; rfl, hbl.out⟩
theorem spare_d {k i : Int} {s : List UInt8} {sa pa : Option Addr} {nl np sc pc : Nat} {w : World} : Calls Tryz.prog 53 #[.agg #[.int .i64 k, .int .i64 i, .string (st s), .slice sa nl sc, .slice pa np pc]] w fun e w' => e = .returned (.bool (spB k i s nl np)) ∧ Below w.heap.size w w' := by
  rcases kinds k with rfl | rfl | rfl | rfl | rfl | ⟨k1, k2, k3, k4, k5⟩
  · exact spare_1
  · exact spare_2
  · exact spare_3
  · exact spare_4
  · exact spare_5
  · exact spare_o k1 k2 k3 k4 k5
end Go.Proofs.YthgndmgoilfpcaaGreatDoor

namespace Go.Proofs.YthgndmgoilfpcaaGreatDoor
open Go.RowKit

def AnI (w : World) (b : Bool) (e : Ending) (w' : World) : Prop := ∃ n : Int, e = .returned (.int .i64 n) ∧ (decide (n ≥ 0) = b) ∧ -1 ≤ n ∧ n ≤ 1000000 ∧ Below w.heap.size w w'
theorem any_take {f : T → Bool} {l : List T} {i : Nat} {u : T} (hu : l[i]? = some u) (h : (l.take i).any f = false) : (l.take (i + 1)).any f = f u := by
  rw [List.take_add_one, hu, List.any_append, h]
  simp
theorem any_of {f : T → Bool} {l : List T} {i : Nat} (h : (l.take i).any f = true) : l.any f = true := by
  rw [← List.take_append_drop i l, List.any_append, h]; rfl
set_option maxHeartbeats 8000000 in
set_option maxRecDepth 100000 in
theorem idx_d {K : Nat} {cap : Array Value} (he : ∀ args w, (callFunc K args).run Tryz.prog w = .ok (.enter K args) w) {f : T → Bool} {F : Nat → Prop} {w : World} {v : Value} {l : List T} {cl : List (List Value)} (r : RwA F w Vt 5 v cl) (hl : cl.length = l.length) (hb : cl.length ≤ 1000000)
    (hf : ∀ w', Below w.heap.size w w' → ∀ (j : Nat) (t : T) (c : List Value), l[j]? = some t → cl[j]? = some c → Calls Tryz.prog K (#[.agg c.toArray] ++ cap) w' fun e w2 => e = .returned (.bool (f t)) ∧ Below w'.heap.size w' w2) :
    Calls Tryz.prog 115 #[v, .func (.func K) #[] cap] w (AnI w (l.any f)) := by
  obtain ⟨sa, sc, rfl⟩ := r.slc
  replace r := hide1 r
  replace hf := hide1 hf
  replace hl := hide1 hl
  obtain ⟨B, hB⟩ : ∃ B, Hid (B = l.any f) := ⟨_, hide1 rfl⟩
  rw [← hB.out]
  go_enter Tryz.func115, Tryz.ntmps115
  go_wp2_with fail
  go_loopw [8] (fun x wr => ∃ i : Nat, x = .int .i64 (i : Nat) ∧ i ≤ cl.length ∧ Hid ((l.take i).any f = false) ∧ Hid (Below w.heap.size w wr)) (fun x _ => cl.length - (intOf x).toNat)
  case atStart => exact ⟨0, rfl, by omega, hide1 rfl, hide1 (Below.refl _ _)⟩
  case round =>
    obtain ⟨i, rfl, hin, hme, hbw⟩ := hrel
    by_cases hlt : i < cl.length
    · obtain ⟨x, hx⟩ : ∃ x, cl[i]? = some x := ⟨_, List.getElem?_eq_getElem hlt⟩
      obtain ⟨u, hu⟩ : ∃ u, l[i]? = some u := ⟨_, List.getElem?_eq_getElem (by have := hl.out; omega)⟩
      obtain ⟨b, o, cap', hve, -, hbl, hr⟩ := r.out.at hx
      have hva : sa = some ⟨b, o, none⟩ := by cases hve; rfl
      subst hva
      have hx5 := r.out.1 x (List.mem_of_getElem? hx)
      obtain ⟨x0, x1, x2, x3, x4, rfl⟩ : ∃ x0 x1 x2 x3 x4, x = [x0, x1, x2, x3, x4] := by
        match x, hx5 with
        | [x0, x1, x2, x3, x4], _ => exact ⟨x0, x1, x2, x3, x4, rfl⟩
      have hr2 : wr.rangeAt b (o + i * 5) [x0, x1, x2, x3, x4] := fun j v hj => by
        rw [World.cell?_of_block (w := w) (hbw.out.block b hbl)]
        exact hr j v hj
      have hc := hf.out wr hbw.out i u _ hu hx
      have hms := hide1 (any_take hu hme.out)
      clear hve hr hx hx5 hme hu
      go_wp2_with (refine wpList_load_mid rfl 28 (.tmp 14) rfl b (o + i * 5) rfl [x0, x1, x2, x3, x4] _ hr2 Tryz.underlying28 rfl (by kernel_rfl) ?_)
      refine hc.mono ?_
      rintro e w2 ⟨rfl, b2⟩
      have hb2 := hide1 (hbw.out.trans (b2.mono hbw.out.size))
      clear hc b2 hbw hr2
      cases hq : f u with
      | true =>
        have hfin : Hid (AnI w B (.returned (.int .i64 (i : Nat))) w2) := hide1 ⟨i, rfl, by rw [hB.out, any_of (hms.out.trans hq)]; exact decide_eq_true (by omega), by omega, by omega, hb2.out⟩
        clear hms hq hB
        go_wp2
        go_ret
        exact hfin.out
      | false =>
        replace hms := hide1 (hms.out.trans hq)
        clear hq
        go_wp2
        go_roundw
        case rel => exact ⟨i + 1, rfl, by omega, hms, hb2⟩
        case measure => simp [intOf]; omega
    · have hfin : Hid (AnI w B (.returned (.int .i64 (-1))) wr) := hide1 ⟨-1, rfl, by
        rw [hB.out]
        have := hme.out
        rw [List.take_of_length_le (by have := hl.out; omega)] at this
        rw [this]; rfl, by omega, by omega, hbw.out⟩
      have hie : i = cl.length := by omega
      subst hie
      clear hme hbw hlt hB
      go_wp2
      go_ret
      exact hfin.out
theorem cont_d {K : Nat} {cap : Array Value} (he : ∀ args w, (callFunc K args).run Tryz.prog w = .ok (.enter K args) w) {f : T → Bool} {F : Nat → Prop} {w : World} {v : Value} {l : List T} {cl : List (List Value)} (r : RwA F w Vt 5 v cl) (hl : cl.length = l.length) (hb : cl.length ≤ 1000000)
    (hf : ∀ w', Below w.heap.size w w' → ∀ (j : Nat) (t : T) (c : List Value), l[j]? = some t → cl[j]? = some c → Calls Tryz.prog K (#[.agg c.toArray] ++ cap) w' fun e w2 => e = .returned (.bool (f t)) ∧ Below w'.heap.size w' w2) :
    Calls Tryz.prog 92 #[v, .func (.func K) #[] cap] w fun e w' => e = .returned (.bool (l.any f)) ∧ Below w.heap.size w w' := by
  have hi := idx_d he r hl hb hf
  clear r hf hl hb
  generalize l.any f = B at *
  go_enter Tryz.func92, Tryz.ntmps92
  go_wp2_with fail
  refine hi.mono ?_
  rintro e w1 ⟨n, rfl, hn, _, _, b1⟩
  replace b1 := hide1 b1
  clear hi
  cases B with
  | true =>
    have hn' : n ≥ 0 := of_decide_eq_true hn
    go_wp2
    go_ret
    exact ⟨rfl, b1.out⟩
  | false =>
    have hn' : ¬ n ≥ 0 := of_decide_eq_false hn
    go_wp2
    go_ret
    exact ⟨rfl, b1.out⟩
def Sok (n : Nat) : Prop := ∀ {F : Nat → Prop} {w : World} {t : T} {c : List Value} {h : Nat}, hgt h t → sbd h t → VA F w t c → Ev w → 8 ≤ w.heap.size → Calls Tryz.prog 34 #[.agg c.toArray, .int .i64 (8 - n : Nat)] w fun e w' => e = .returned (.bool (gd n t)) ∧ Below w.heap.size w w'
theorem snd1_d {n h b : Nat} (ih : Sok n) {F : Nat → Prop} {w : World} {t : T} {c : List Value} (hh : hgt h t) (hs : sbd h t) (hv : VA F w t c) (hT : Ev w) (h8 : 8 ≤ w.heap.size) (hb : w.heap[b]? = some (.cells #[.int .i64 (8 - n : Nat)] 3 (0, 0))) :
    Calls Tryz.prog 93 (#[.agg c.toArray] ++ #[.pointer (some ⟨b, 0, none⟩)]) w fun e w' => e = .returned (.bool (!gd n t)) ∧ Below w.heap.size w w' := by
  have hc5 := hv.len
  obtain ⟨y0, y1, y2, y3, y4, rfl⟩ := five_l hc5
  have hb0 : Below w.heap.size w (w.alloc (.cells #[y0, y1, y2, y3, y4] 28)) := (Below.refl _ _).alloc (Nat.le_refl _) _
  have hbl := (Array.getElem?_eq_some_iff.1 hb).1
  have hcb : (w.alloc (.cells #[y0, y1, y2, y3, y4] 28)).cell? ⟨b, 0, none⟩ = some (.int .i64 (8 - n : Nat)) := by
    have := (hb0.block b hbl).trans hb
    simp only [World.cell?, this]; rfl
  have hc := ih (c := [y0, y1, y2, y3, y4]) hh hs (hv.frame (fun j _ hj => hb0.block j hj) (fun _ h _ => h)) (hT.below hb0 (by omega)) (by have := hb0.size; omega)
  replace hb0 := hide1 hb0
  generalize gd n t = B at *
  generalize ((8 - n : Nat) : Int) = D at *
  clear hv hT hb hc5 ih hh hs
  show Calls Tryz.prog 93 #[.agg #[y0, y1, y2, y3, y4], .pointer (some ⟨b, 0, none⟩)] w _
  go_enter Tryz.func93, Tryz.ntmps93
  go_wp2_with fail
  refine hc.mono ?_
  rintro e w1 ⟨rfl, b1⟩
  replace b1 := hide1 (hb0.out.trans (b1.mono hb0.out.size))
  clear hc hb0
  go_wp2
  go_ret
  exact ⟨rfl, b1.out⟩
theorem any_all {f : T → Bool} : ∀ l : List T, (!l.any fun t => !f t) = l.all f
  | [] => rfl
  | a :: l => by
    have := any_all (f := f) l
    simp only [List.any_cons, List.all_cons]
    rw [← this]
    cases f a <;> simp
set_option maxRecDepth 100000 in
theorem sndL_d {n h : Nat} (ih : Sok n) {F : Nat → Prop} {w : World} {v : Value} {l : List T} {cl : List (List Value)} (r : RwA F w Vt 5 v cl) (hl : cl.length = l.length) (hb : cl.length ≤ 1000000) (hh : ∀ t ∈ l, hgt h t) (hs : ∀ t ∈ l, sbd h t)
    (hv : ∀ (j : Nat) (t : T) (c : List Value), l[j]? = some t → cl[j]? = some c → VA F w t c) (hT : Ev w) (h8 : 8 ≤ w.heap.size) :
    Calls Tryz.prog 56 #[v, .int .i64 (8 - n : Nat)] w fun e w' => e = .returned (.bool (l.all (gd n))) ∧ Below w.heap.size w w' := by
  obtain ⟨w1, hw1⟩ : ∃ w1, w1 = w.alloc (.cells #[.int .i64 (8 - n : Nat)] 3) := ⟨_, rfl⟩
  have hb0 : Below w.heap.size w w1 := by rw [hw1]; exact (Below.refl _ _).alloc (Nat.le_refl _) _
  have hbx : w1.heap[w.heap.size]? = some (.cells #[.int .i64 (8 - n : Nat)] 3 (0, 0)) := by
    rw [hw1]
    show (w.heap.push _)[w.heap.size]? = _
    rw [Array.getElem?_push, if_pos rfl]
  have hc := cont_d (K := 93) (cap := #[.pointer (some ⟨w.heap.size, 0, none⟩)]) (f := fun t => !gd n t) (fun _ _ => by kernel_rfl) (r.frame (w' := w1) (G := F) (fun j _ hj => hb0.block j hj) (fun _ h _ => h)) hl hb (fun w' hb' j t c h1 h2 =>
    snd1_d ih (hh t (List.mem_of_getElem? h1)) (hs t (List.mem_of_getElem? h1)) ((hv j t c h1 h2).frame (w' := w') (G := F) (fun k _ hk => (hb'.block k (Nat.lt_of_lt_of_le hk hb0.size)).trans (hb0.block k hk)) (fun _ h _ => h)) ((hT.below hb0 (by omega)).below hb' (by have := hb0.size; omega)) (by have := hb0.size; have := hb'.size; omega) ((hb'.block _ (Array.getElem?_eq_some_iff.1 hbx).1).trans hbx))
  have ha := any_all (f := gd n) l
  obtain ⟨sa, sc, rfl⟩ := r.slc
  replace hb0 := hide1 hb0
  rw [← ha]
  generalize (l.any fun t => !gd n t) = B at *
  generalize ((8 - n : Nat) : Int) = D at *
  clear ha r hh hs hv hT hbx ih hl
  go_enter Tryz.func56, Tryz.ntmps56
  go_wp2_with fail
  rw [← hw1]
  refine hc.mono ?_
  rintro e w2 ⟨rfl, b1⟩
  replace b1 := hide1 (hb0.out.trans (b1.mono hb0.out.size))
  clear hc hb0 hw1
  go_wp2
  go_ret
  exact ⟨rfl, b1.out⟩
end Go.Proofs.YthgndmgoilfpcaaGreatDoor

namespace Go.Proofs.YthgndmgoilfpcaaGreatDoor
open Go.RowKit Go.Shelf Go.Maps
attribute [local go_sem] Oper.semAt_some

theorem results_1b {fn : Func} {p : Tmp} (h : fn.results = #[.cell p 4]) (tmps : Array Value) {u : World} {b : Nat} {x : Bool} (ht : tmps.getD p undef = .pointer (some ⟨b, 0, none⟩)) (hc : u.heap[b]? = some (.cells #[.bool x] 4 (0, 0))) : (results fn tmps).run Tryz.prog u = .ok (.bool x) u := by
  have ht2 : tmps[p]?.getD undef = .pointer (some ⟨b, 0, none⟩) := by simpa using ht
  have hc2 : u.cell? ⟨b, 0, none⟩ = some (.bool x) := by simp only [World.cell?, hc]; rfl
  have hl2 : (loadVar 4 ⟨b, 0, none⟩).run Tryz.prog u = .ok (.bool x) u := by simp [go_sem, hc2]
  simp [results, h, ht2, asAddr, hl2]
structure Sb (w : World) (c : Array Value) (a : Int) (b : Bool) (W : World) : Prop where
  bw : Below w.heap.size w W
  b2 : W.heap[w.heap.size]? = some (.cells c 28 (0, 0))
  b3 : W.heap[w.heap.size + 1]? = some (.cells #[.int .i64 a] 3 (0, 0))
  b4 : W.heap[w.heap.size + 2]? = some (.cells #[.bool b] 4 (0, 0))
theorem Sb.later {w W W' : World} {c : Array Value} {a : Int} {b : Bool} (h : Sb w c a b W) (k : Below W.heap.size W W') : Sb w c a b W' :=
  ⟨h.bw.trans (k.mono h.bw.size), (k.block _ (Array.getElem?_eq_some_iff.1 h.b2).1).trans h.b2, (k.block _ (Array.getElem?_eq_some_iff.1 h.b3).1).trans h.b3, (k.block _ (Array.getElem?_eq_some_iff.1 h.b4).1).trans h.b4⟩
theorem Sb.own {w W W' : World} {c : Array Value} {a : Int} {b : Bool} {row : Option Nat} (h : Sb w c a b W) (hg : W.grownBy W' row) (hr : ∀ r, row = some r → ∃ o : Obj, W.heap[r]? = some o ∧ o.isCells = false ∧ w.heap.size ≤ r) : Sb w c a b W' := by
  have hne : ∀ j cc t, W.heap[j]? = some (.cells cc t (0, 0)) → some j ≠ row := fun j cc t hj e => by
    obtain ⟨o, ho, hc, _⟩ := hr j e.symm
    rw [hj] at ho; cases ho; cases hc
  refine ⟨⟨hg.os.trans h.bw.os, hg.tape.trans h.bw.tape, hg.output.trans h.bw.output, Nat.le_trans h.bw.size hg.size, fun j hj => (hg.block j (Nat.lt_of_lt_of_le hj h.bw.size) (fun e => ?_)).trans (h.bw.block j hj)⟩, (hg.block _ (Array.getElem?_eq_some_iff.1 h.b2).1 (hne _ _ _ h.b2)).trans h.b2, (hg.block _ (Array.getElem?_eq_some_iff.1 h.b3).1 (hne _ _ _ h.b3)).trans h.b3, (hg.block _ (Array.getElem?_eq_some_iff.1 h.b4).1 (hne _ _ _ h.b4)).trans h.b4⟩
  obtain ⟨o, ho, hc, hl⟩ := hr j e.symm
  omega
theorem all_snoc {f : List UInt8 × T → Bool} {qs : List (List UInt8 × T)} {k : Nat} {q : List UInt8 × T} (hq : qs[k]? = some q) (h : (qs.take k).all f = true) : (qs.take (k + 1)).all f = f q := by
  rw [List.take_add_one, hq, List.all_append, h]
  simp
theorem all_of {f : List UInt8 × T → Bool} {qs : List (List UInt8 × T)} {k : Nat} (h : (qs.take k).all f = false) : qs.all f = false := by
  rw [← List.take_append_drop k qs, List.all_append, h]; rfl
set_option maxRecDepth 100000 in
set_option maxHeartbeats 8000000 in
theorem sndP_in {n h : Nat} (ih : Sok n) {F : Nat → Prop} {w : World} {ki : Int} {s : List UInt8} {sl sp : Value} {p : List (List UInt8 × T)} {cp : List (List Value)} (r : RwA F w Pt 6 sp cp) (hl : cp.length = p.length) (hb : cp.length ≤ 1000000) (hh : ∀ q ∈ p, hgt h q.2) (hs : ∀ q ∈ p, q.1.length ≤ 9223372036854775807 ∧ sbd h q.2)
    (hv : ∀ (j : Nat) (q : List UInt8 × T) (c : List Value), p[j]? = some q → cp[j]? = some c → PA F w q c) (hT : Ev w) (h8 : 8 ≤ w.heap.size) :
    CallsIn Fence.wide 5 Tryz.prog 57 #[.agg #[.int .i64 5, .int .i64 ki, .string (st s), sl, sp], .int .i64 (8 - n : Nat)] w fun e w' => e = .returned (.bool (p.all (fun q => Lib.validD q.1 && gd n q.2) && onc (p.map (·.1)))) ∧ Below w.heap.size w w' := by
  obtain ⟨A, hA⟩ : ∃ A, Hid (A = p.all (fun q => Lib.validD q.1 && gd n q.2)) := ⟨_, hide1 rfl⟩
  obtain ⟨O, hO⟩ : ∃ O, Hid (O = onc (p.map (·.1))) := ⟨_, hide1 rfl⟩
  rw [← hA.out, ← hO.out]
  have hnmo : ∀ c ∈ cp, c.all (·.oneCell') = true := fun x hx => by
    obtain ⟨j, hj, rfl⟩ := List.mem_iff_getElem.1 hx
    have hj2 : j < p.length := by omega
    obtain ⟨g1, g2⟩ := hv j _ _ (List.getElem?_eq_getElem hj2) (List.getElem?_eq_getElem hj)
    have g3 := g2.one
    generalize cp[j] = x at *
    cases x with
    | nil => cases g1
    | cons a b =>
      simp at g1
      subst g1
      simpa [Value.oneCell'] using g3
  have hna : NmA F w sp cp (p.map (·.1)) := ⟨r, by simp [hl], fun j c s' h1 h2 => by
      rw [List.getElem?_map] at h2
      cases hq : p[j]? with
      | none => rw [hq] at h2; cases h2
      | some q =>
        rw [hq] at h2
        cases h2
        exact (hv j q c hq h1).1, fun s' hs' => by
      obtain ⟨q, hq, rfl⟩ := List.mem_map.1 hs'
      exact (hs q hq).1, hnmo⟩
  obtain ⟨pa, pc, rfl⟩ := r.slc
  refine callsIn_of_wp_marks Tryz.func57 rfl trivial ?_ rfl
  simp only [Tryz.ntmps57, List.size_toArray, List.length_cons, List.length_nil, Nat.reduceAdd, Nat.reduceSub, Array.replicate_succ, Array.replicate_zero, List.push_toArray, List.append_toArray, List.nil_append, List.cons_append]
  obtain ⟨D, hD⟩ : ∃ D, Hid (D = ((8 - n : Nat) : Int)) := ⟨_, hide1 rfl⟩
  rw [← hD.out]
  replace hv := hide1 hv
  replace hh := hide1 hh
  replace hs := hide1 hs
  replace hna := hide1 hna
  replace hl := hide1 hl
  gi_wp2
  refine ⟨trivial, (callsIn_wide.2 (pairs_d _ _)).mono ?_⟩
  rintro e W1 ⟨rfl, rfl⟩
  have hbw : Below w.heap.size w ((((w.alloc (.cells #[.int .i64 5, .int .i64 ki, .string (st s), sl, .slice pa cp.length pc] 28)).alloc (.cells #[.int .i64 D] 3)).alloc (.cells #[.bool false] 4)).alloc (.cells #[.int .i64 5, .int .i64 ki, .string (st s), sl, .slice pa cp.length pc] 28)) := blw_al (blw_al (blw_al (blw_al (Below.refl _ _) (Nat.le_refl _) _) (by simp) _) (by simp; omega) _) (by simp; omega) _
  have hsz : ((((w.alloc (.cells #[.int .i64 5, .int .i64 ki, .string (st s), sl, .slice pa cp.length pc] 28)).alloc (.cells #[.int .i64 D] 3)).alloc (.cells #[.bool false] 4)).alloc (.cells #[.int .i64 5, .int .i64 ki, .string (st s), sl, .slice pa cp.length pc] 28)).heap.size = w.heap.size + 4 := by simp
  have hG : Sb w #[.int .i64 5, .int .i64 ki, .string (st s), sl, .slice pa cp.length pc] D false ((((w.alloc (.cells #[.int .i64 5, .int .i64 ki, .string (st s), sl, .slice pa cp.length pc] 28)).alloc (.cells #[.int .i64 D] 3)).alloc (.cells #[.bool false] 4)).alloc (.cells #[.int .i64 5, .int .i64 ki, .string (st s), sl, .slice pa cp.length pc] 28)) := by
    refine ⟨hbw, ?_, ?_, ?_⟩
    · show ((((w.heap.push _).push _).push _).push _)[w.heap.size]? = _
      rw [Array.getElem?_push, if_neg (by simp; omega), Array.getElem?_push, if_neg (by simp; omega), Array.getElem?_push, if_neg (by simp), Array.getElem?_push, if_pos (by simp)]
    · show ((((w.heap.push _).push _).push _).push _)[w.heap.size + 1]? = _
      rw [Array.getElem?_push, if_neg (by simp), Array.getElem?_push, if_neg (by simp), Array.getElem?_push, if_pos (by simp)]
    · show ((((w.heap.push _).push _).push _).push _)[w.heap.size + 2]? = _
      rw [Array.getElem?_push, if_neg (by simp), Array.getElem?_push, if_pos (by simp)]
  have hbx : ((((w.alloc (.cells #[.int .i64 5, .int .i64 ki, .string (st s), sl, .slice pa cp.length pc] 28)).alloc (.cells #[.int .i64 D] 3)).alloc (.cells #[.bool false] 4)).alloc (.cells #[.int .i64 5, .int .i64 ki, .string (st s), sl, .slice pa cp.length pc] 28)).heap[w.heap.size + 3]? = some (.cells #[.int .i64 5, .int .i64 ki, .string (st s), sl, .slice pa cp.length pc] 28 (0, 0)) := by
    show ((((w.heap.push _).push _).push _).push _)[w.heap.size + 3]? = _
    rw [Array.getElem?_push, if_pos (by simp)]
  have hsq := pairs_seq hb r hnmo hbw hbx
  gi_wp2
  generalize ((((w.alloc (.cells #[.int .i64 5, .int .i64 ki, .string (st s), sl, .slice pa cp.length pc] 28)).alloc (.cells #[.int .i64 D] 3)).alloc (.cells #[.bool false] 4)).alloc (.cells #[.int .i64 5, .int .i64 ki, .string (st s), sl, .slice pa cp.length pc] 28)) = W0 at *
  refine range_y (w := W0) (gf := 77) (lb := #[.pointer (some ⟨w.heap.size + 3, 0, none⟩)]) rfl (fun _ _ => by kernel_rfl) hsq (fun j hj => by rw [hsz]; rcases hj with hj | hj <;> omega)
    (fun k W => Sb w #[.int .i64 5, .int .i64 ki, .string (st s), sl, .slice pa cp.length pc] D false W ∧ (p.take k).all (fun q => Lib.validD q.1 && gd n q.2) = true)
    (fun c _ W => c = .ret ∧ A = false ∧ Sb w #[.int .i64 5, .int .i64 ki, .string (st s), sl, .slice pa cp.length pc] D false W) ?hI ?hIx ⟨hG, rfl⟩ ?round ?done ?stop
  case hI =>
    intro k A B row h hg hr
    exact ⟨h.1.own hg (fun r e => by obtain ⟨h1, ob, h2, h3⟩ := hr r e; exact ⟨ob, h2, h3, by omega⟩), h.2⟩
  case hIx =>
    rintro c k A B row ⟨hc, h1, h4⟩ hg hr
    exact ⟨hc, h1, h4.own hg (fun r e => by obtain ⟨h1, ob, h2, h3⟩ := hr r e; exact ⟨ob, h2, h3, by omega⟩)⟩
  case round =>
    intro lq k hk W Kq hz hI hK
    rw [hnd_len] at hk
    obtain ⟨x, hx⟩ : ∃ x, cp[k]? = some x := ⟨_, List.getElem?_eq_getElem hk⟩
    obtain ⟨q, hqk⟩ : ∃ q, p[k]? = some q := ⟨_, List.getElem?_eq_getElem (by have := hl.out; omega)⟩
    have hpa := hv.out k q x hqk hx
    have hx6 := r.1 x (List.mem_of_getElem? hx)
    have hhg := hh.out q (List.mem_of_getElem? hqk)
    obtain ⟨hsq1, hsq2⟩ := hs.out q (List.mem_of_getElem? hqk)
    have hit : (cp.map hnd)[k]'(by rw [hnd_len]; exact hk) = hnd x := by
      rw [List.getElem_map]
      congr 1
      have := List.getElem?_eq_getElem hk
      rw [hx] at this
      exact (Option.some.inj this).symm
    rw [hit]
    obtain ⟨x0, x1, x2, x3, x4, x5, rfl⟩ := arr6 hx6
    have hx0 : x0 = .string (st q.1) := by simpa using hpa.1
    subst hx0
    have hva : VA F w q.2 [x1, x2, x3, x4, x5] := hpa.2
    have hon := hva.one
    simp only [hnd, List.headD_cons, List.tail_cons]
    have hr7 : (W.alloc (.cells #[.int .i64 0, .int .i64 0, .string ⟨#[]⟩, .slice none 0 0, .slice none 0 0] 28)).heap[W.heap.size]? = some (.cells #[.int .i64 0, .int .i64 0, .string ⟨#[]⟩, .slice none 0 0, .slice none 0 0] 28 (0, 0)) := by
      show (W.heap.push _)[W.heap.size]? = _
      rw [Array.getElem?_push, if_pos rfl]
    have h7 := setRow_heap (W.alloc (.cells #[.int .i64 0, .int .i64 0, .string ⟨#[]⟩, .slice none 0 0, .slice none 0 0] 28)) W.heap.size _ #[x1, x2, x3, x4, x5] _ _ hr7
    have hal : ∀ j, j < W.heap.size → ((W.alloc (.cells #[.int .i64 0, .int .i64 0, .string ⟨#[]⟩, .slice none 0 0, .slice none 0 0] 28)).setRow W.heap.size #[x1, x2, x3, x4, x5]).heap[j]? = W.heap[j]? := fun j hj => (setRow_other _ _ j _ (by omega)).trans (by
      show (W.heap.push _)[j]? = _
      rw [Array.getElem?_push, if_neg (by omega)])
    have hb7 : Below W.heap.size W ((W.alloc (.cells #[.int .i64 0, .int .i64 0, .string ⟨#[]⟩, .slice none 0 0, .slice none 0 0] 28)).setRow W.heap.size #[x1, x2, x3, x4, x5]) := ⟨rfl, rfl, rfl, by simp [World.setRow], hal⟩
    have hs7 : ((W.alloc (.cells #[.int .i64 0, .int .i64 0, .string ⟨#[]⟩, .slice none 0 0, .slice none 0 0] 28)).setRow W.heap.size #[x1, x2, x3, x4, x5]).heap.size = W.heap.size + 1 := by simp [World.setRow]
    have hf := all_snoc hqk hI.2
    replace hon := hide1 hon
    replace hva := hide1 hva
    clear hit hx hpa hx6 hal
    gi_wp2_with (refine wpListIn_str rfl 28 (.tmp 6) (.tmp 12) rfl W.heap.size #[x1, x2, x3, x4, x5] rfl rfl 28 _ hr7 (by kernel_rfl) rfl (by simpa using hon.out) ?_)
    refine hK _ _ hb7 ?_
    rintro W2 hsame hs2 ⟨hG2, hf2⟩
    have h72 := (hsame W.heap.size (by omega)).trans h7
    have hsz2 : w.heap.size + 4 ≤ W2.heap.size := by rw [hs2, hs7]; omega
    have hT2 := hT.below hG2.bw (by omega)
    have hcv := utf8_ValidString (st q.1) W2 (by rw [st_size]; exact hsq1) hT2.tb
    rw [st_data] at hcv
    replace hG2 := hide1 hG2
    replace hf := hide1 hf
    replace hT2 := hide1 hT2
    replace hI := hide1 hI
    clear hK hsame h7 hf2
    gi_wp2
    refine ⟨trivial, (CallsIn.inRound lq (callsIn_wide.2 hcv)).mono ?_⟩
    rintro e W3 ⟨rfl, b3⟩
    have hG3 := hide1 (hG2.out.later b3)
    have h73 := (b3.block _ (Array.getElem?_eq_some_iff.1 h72).1).trans h72
    have l0 : W3.cell? ⟨W.heap.size, 0, none⟩ = some x1 := by simp only [World.cell?, h73]; rfl
    have l1 : W3.cell? ⟨W.heap.size, 1, none⟩ = some x2 := by simp only [World.cell?, h73]; rfl
    have l2 : W3.cell? ⟨W.heap.size, 2, none⟩ = some x3 := by simp only [World.cell?, h73]; rfl
    have l3 : W3.cell? ⟨W.heap.size, 3, none⟩ = some x4 := by simp only [World.cell?, h73]; rfl
    have l4 : W3.cell? ⟨W.heap.size, 4, none⟩ = some x5 := by simp only [World.cell?, h73]; rfl
    have c3 : W3.cell? ⟨w.heap.size + 1, 0, none⟩ = some (.int .i64 D) := by simp only [World.cell?, hG3.out.b3]; rfl
    have hT3 := hide1 (hT2.out.below b3 (by omega))
    have hsz3 : W2.heap.size ≤ W3.heap.size := b3.size
    have stop : ∀ W4, Below W2.heap.size W2 W4 → (Lib.validD q.1 && gd n q.2) = false → Hid (outX W0.heap.size (fun j => j < w.heap.size ∨ j = w.heap.size + 3) (fun k W => Sb w #[.int .i64 5, .int .i64 ki, .string (st s), sl, .slice pa cp.length pc] D false W ∧ (p.take k).all (fun q => Lib.validD q.1 && gd n q.2) = true) (fun c _ W => c = .ret ∧ A = false ∧ Sb w #[.int .i64 5, .int .i64 ki, .string (st s), sl, .slice pa cp.length pc] D false W) k W2 .ret { tmps := #[], defers := [] } (W4.setCell ⟨w.heap.size + 2, 0, none⟩ (.bool false))) := fun W4 b4 hbad => hide1 (by
      have g := hG2.out.later b4
      have hw5 : W4.setCell ⟨w.heap.size + 2, 0, none⟩ (.bool false) = W4.setRow (w.heap.size + 2) #[.bool false] := by
        rw [setCell_eq_setRow _ (w.heap.size + 2) 0 _ _ (0, 0) _ g.b4]; rfl
      rw [hw5]
      refine ⟨(Kx.below b4).row _ (by omega) (by omega), rfl, ?_, blw_own g.bw (by omega) _, (setRow_other _ _ _ _ (by omega)).trans g.b2, (setRow_other _ _ _ _ (by omega)).trans g.b3, setRow_heap _ _ _ _ _ _ g.b4⟩
      rw [hA.out]
      exact all_of (hf.out.trans hbad))
    replace stop := hide1 stop
    cases hvd : Lib.validD q.1 with
    | false =>
      have hfin := stop.out W3 b3 (by rw [hvd]; rfl)
      have c4 : W3.cell? ⟨w.heap.size + 2, 0, none⟩ = some (.bool false) := by simp only [World.cell?, hG3.out.b4]; rfl
      have f4 : W3.frozen? ⟨w.heap.size + 2, 0, none⟩ = false := by simp [World.frozen?, hG3.out.b4]
      clear stop hcv b3 hvd
      gi_wp2
      refine ⟨trivial, ?_⟩
      rename_i Kz hKz
      refine hKz _ _ ?_
      gi_wp2
      exact hfin.out
    | true =>
      have hcs := ih (w := W3) (c := [x1, x2, x3, x4, x5]) hhg hsq2 (VA.frame (c := [x1, x2, x3, x4, x5]) hva.out (w' := W3) (G := F) (fun j _ hj => hG3.out.bw.block j hj) (fun _ h _ => h)) hT3.out (by omega)
      rw [← hD.out] at hcs
      replace b3 := hide1 b3
      replace hvd := hide1 hvd
      clear hcv
      gi_wp2
      refine ⟨trivial, (CallsIn.inRound lq (callsIn_wide.2 hcs)).mono ?_⟩
      rintro e W4 ⟨rfl, b4⟩
      have b24 := hide1 (b3.out.trans (b4.mono b3.out.size))
      have hG4 := hide1 (hG3.out.later b4)
      cases hgq : gd n q.2 with
      | false =>
        have hfin := stop.out W4 b24.out (by rw [hgq, hvd.out]; rfl)
        have c4 : W4.cell? ⟨w.heap.size + 2, 0, none⟩ = some (.bool false) := by simp only [World.cell?, hG4.out.b4]; rfl
        have f4 : W4.frozen? ⟨w.heap.size + 2, 0, none⟩ = false := by simp [World.frozen?, hG4.out.b4]
        clear stop hcs b4 hgq
        gi_wp2
        exact hfin.out
      | true =>
        have hfin : Hid (Kx W0.heap.size (fun j => j < w.heap.size ∨ j = w.heap.size + 3) W2 W4 ∧ Sb w #[.int .i64 5, .int .i64 ki, .string (st s), sl, .slice pa cp.length pc] D false W4 ∧ (p.take (k + 1)).all (fun q => Lib.validD q.1 && gd n q.2) = true) := hide1 ⟨Kx.below b24.out, hG4.out, by rw [hf.out, hvd.out, hgq]; rfl⟩
        clear stop hcs b4 hgq
        gi_wp2
        exact hfin.out
  case done =>
    rintro E W hE ⟨hGW, hf⟩ hK
    have hAt : A = true := by
      rw [hnd_len, List.take_of_length_le (by have := hl.out; omega)] at hf
      rw [hA.out, hf]
    subst hAt
    have c4 : W.cell? ⟨w.heap.size, 4, none⟩ = some (.slice pa cp.length pc) := by simp only [World.cell?, hGW.b2]; rfl
    have hna2 : NmA F W (.slice pa cp.length pc) cp (p.map (·.1)) := ⟨hna.out.rw.frame (fun j _ hj => hGW.bw.block j hj) (fun _ h _ => h), hna.out.ln, hna.out.nm, hna.out.sm, hna.out.on⟩
    have hpl := places_d hna2 (by omega)
    replace hGW := hide1 hGW
    replace hK := hide1 hK
    clear hf hna2
    gi_wp2
    refine ⟨trivial, (callsIn_wide.2 hpl).mono ?_⟩
    rintro e W2 ⟨mb, MD, mn, rfl, b2, hmb, hmo, hmi⟩
    have hG2 := hGW.out.later b2
    have hK2 := (b2.block _ (Array.getElem?_eq_some_iff.1 hK.out).1).trans hK.out
    have c5 : W2.cell? ⟨w.heap.size + 2, 0, none⟩ = some (.bool false) := by simp only [World.cell?, hG2.b4]; rfl
    have f5 : W2.frozen? ⟨w.heap.size + 2, 0, none⟩ = false := by simp [World.frozen?, hG2.b4]
    have hne : E ≠ w.heap.size + 2 := by rintro rfl; rw [hG2.b4] at hK2; cases hK2
    rw [← hO.out]
    have hw5 : W2.setCell ⟨w.heap.size + 2, 0, none⟩ (.bool O) = W2.setRow (w.heap.size + 2) #[.bool O] := by
      rw [setCell_eq_setRow _ (w.heap.size + 2) 0 _ _ (0, 0) _ hG2.b4]; rfl
    have hDK : (W2.setCell ⟨w.heap.size + 2, 0, none⟩ (.bool O)).heap[E]? = some (.deferred (some [])) := by
      rw [hw5]
      exact (setRow_other _ _ _ _ hne).trans hK2
    have hb5 : (W2.setCell ⟨w.heap.size + 2, 0, none⟩ (.bool O)).heap[w.heap.size + 2]? = some (.cells #[.bool O] 4 (0, 0)) := by
      rw [hw5]
      exact setRow_heap _ _ _ _ _ _ hG2.b4
    have hbb : Below w.heap.size w (W2.setCell ⟨w.heap.size + 2, 0, none⟩ (.bool O)) := by
      rw [hw5]
      exact blw_own hG2.bw (by omega) _
    replace hDK := hide1 hDK
    replace hb5 := hide1 hb5
    replace hbb := hide1 hbb
    replace hne := hide1 hne
    clear hG2 hw5 hpl hmo hmi b2 hK2
    gi_wp2
    refine ⟨by simp, .inl ⟨_, _, rfl, run_takeDeferred hDK.out, ?_⟩⟩
    refine ⟨_, results_1b rfl _ rfl ((World.putObj_heap_other (fun e => hne.out e.symm)).trans hb5.out), ?_⟩
    exact ⟨by rw [Bool.true_and], blw_done hbb.out (by omega) hDK.out⟩
  case stop =>
    rintro E c k W hE hk ⟨rfl, h1, h4⟩ hK
    have hne : w.heap.size + 2 ≠ E := by rintro rfl; rw [h4.b4] at hK; cases hK
    gi_wp2
    refine ⟨by simp, .inl ⟨_, _, rfl, run_takeDeferred hK, ?_⟩⟩
    refine ⟨_, results_1b rfl _ rfl ((World.putObj_heap_other hne).trans h4.b4), ?_⟩
    exact ⟨by rw [h1]; rfl, blw_done h4.bw (by omega) hK⟩
end Go.Proofs.YthgndmgoilfpcaaGreatDoor

namespace Go.Proofs.YthgndmgoilfpcaaGreatDoor
open Go.RowKit

theorem below_al {w : World} (o : Obj) : Below w.heap.size w (w.alloc o) := (Below.refl _ _).alloc (Nat.le_refl _) _
theorem new_at (w : World) (c : Array Value) (t : TypeId) : (w.alloc (.cells c t)).heap[w.heap.size]? = some (.cells c t (0, 0)) := by
  show (w.heap.push _)[w.heap.size]? = _
  rw [Array.getElem?_push, if_pos rfl]
set_option maxHeartbeats 4000000 in
set_option maxRecDepth 100000 in
theorem snd_sp {k i : Int} {s : List UInt8} {sa pa : Option Addr} {cl cp : List (List Value)} {sc pc : Nat} {w : World} {D : Int} (hsp0 : spB k i s cl.length cp.length = true) : Calls Tryz.prog 34 #[.agg #[.int .i64 k, .int .i64 i, .string (st s), .slice sa cl.length sc, .slice pa cp.length pc], .int .i64 D] w fun e w' => e = .returned (.bool false) ∧ Below w.heap.size w w' := by
  have hb0 := below_al (w := w) (.cells #[.int .i64 k, .int .i64 i, .string (st s), .slice sa cl.length sc, .slice pa cp.length pc] 28)
  have hbx := new_at w #[.int .i64 k, .int .i64 i, .string (st s), .slice sa cl.length sc, .slice pa cp.length pc] 28
  obtain ⟨w1, hw1⟩ : ∃ w1, w1 = w.alloc (.cells #[.int .i64 k, .int .i64 i, .string (st s), .slice sa cl.length sc, .slice pa cp.length pc] 28) := ⟨_, rfl⟩
  rw [← hw1] at hb0 hbx
  have hsp := spare_d (k := k) (i := i) (s := s) (sa := sa) (pa := pa) (nl := cl.length) (np := cp.length) (sc := sc) (pc := pc) (w := w1)
  rw [hsp0] at hsp
  replace hb0 := hide1 hb0
  replace hbx := hide1 hbx
  go_enter Tryz.func34, Tryz.ntmps34
  go_wp2_with fail
  rw [← hw1]
  refine hsp.mono ?_
  rintro e w2 ⟨rfl, b2⟩
  have hB := hide1 (hb0.out.trans (b2.mono hb0.out.size))
  have hbx2 := (b2.block _ (Array.getElem?_eq_some_iff.1 hbx.out).1).trans hbx.out
  have c0 : w2.cell? ⟨w.heap.size, 0, none⟩ = some (.int .i64 k) := by simp only [World.cell?, hbx2]; rfl
  have c1 : w2.cell? ⟨w.heap.size, 1, none⟩ = some (.int .i64 i) := by simp only [World.cell?, hbx2]; rfl
  have c2 : w2.cell? ⟨w.heap.size, 2, none⟩ = some (.string (st s)) := by simp only [World.cell?, hbx2]; rfl
  have c3 : w2.cell? ⟨w.heap.size, 3, none⟩ = some (.slice sa cl.length sc) := by simp only [World.cell?, hbx2]; rfl
  have c4 : w2.cell? ⟨w.heap.size, 4, none⟩ = some (.slice pa cp.length pc) := by simp only [World.cell?, hbx2]; rfl
  clear hsp b2 hw1 hb0 hbx
  go_wp2
  go_ret
  exact ⟨rfl, hB.out⟩
set_option maxHeartbeats 4000000 in
set_option maxRecDepth 100000 in
theorem snd_0 {i : Int} {s : List UInt8} {sa pa : Option Addr} {cl cp : List (List Value)} {sc pc : Nat} {w : World} {D : Int} (hsp0 : spB 0 i s cl.length cp.length = false) : Calls Tryz.prog 34 #[.agg #[.int .i64 0, .int .i64 i, .string (st s), .slice sa cl.length sc, .slice pa cp.length pc], .int .i64 D] w fun e w' => e = .returned (.bool true) ∧ Below w.heap.size w w' := by
  have hb0 := below_al (w := w) (.cells #[.int .i64 0, .int .i64 i, .string (st s), .slice sa cl.length sc, .slice pa cp.length pc] 28)
  have hbx := new_at w #[.int .i64 0, .int .i64 i, .string (st s), .slice sa cl.length sc, .slice pa cp.length pc] 28
  obtain ⟨w1, hw1⟩ : ∃ w1, w1 = w.alloc (.cells #[.int .i64 0, .int .i64 i, .string (st s), .slice sa cl.length sc, .slice pa cp.length pc] 28) := ⟨_, rfl⟩
  rw [← hw1] at hb0 hbx
  have hsp := spare_d (k := 0) (i := i) (s := s) (sa := sa) (pa := pa) (nl := cl.length) (np := cp.length) (sc := sc) (pc := pc) (w := w1)
  rw [hsp0] at hsp
  replace hb0 := hide1 hb0
  replace hbx := hide1 hbx
  go_enter Tryz.func34, Tryz.ntmps34
  go_wp2_with fail
  rw [← hw1]
  refine hsp.mono ?_
  rintro e w2 ⟨rfl, b2⟩
  have hB := hide1 (hb0.out.trans (b2.mono hb0.out.size))
  have hbx2 := (b2.block _ (Array.getElem?_eq_some_iff.1 hbx.out).1).trans hbx.out
  have c0 : w2.cell? ⟨w.heap.size, 0, none⟩ = some (.int .i64 (0)) := by simp only [World.cell?, hbx2]; rfl
  have c1 : w2.cell? ⟨w.heap.size, 1, none⟩ = some (.int .i64 i) := by simp only [World.cell?, hbx2]; rfl
  have c2 : w2.cell? ⟨w.heap.size, 2, none⟩ = some (.string (st s)) := by simp only [World.cell?, hbx2]; rfl
  have c3 : w2.cell? ⟨w.heap.size, 3, none⟩ = some (.slice sa cl.length sc) := by simp only [World.cell?, hbx2]; rfl
  have c4 : w2.cell? ⟨w.heap.size, 4, none⟩ = some (.slice pa cp.length pc) := by simp only [World.cell?, hbx2]; rfl
  clear hsp b2 hw1 hb0 hbx
  go_wp2
  go_ret
  exact ⟨rfl, hB.out⟩
set_option maxHeartbeats 4000000 in
set_option maxRecDepth 100000 in
theorem snd_10  {s : List UInt8} {sa pa : Option Addr} {cl cp : List (List Value)} {sc pc : Nat} {w : World} {D : Int} (hsp0 : spB 1 0 s cl.length cp.length = false) : Calls Tryz.prog 34 #[.agg #[.int .i64 1, .int .i64 0, .string (st s), .slice sa cl.length sc, .slice pa cp.length pc], .int .i64 D] w fun e w' => e = .returned (.bool true) ∧ Below w.heap.size w w' := by
  have hb0 := below_al (w := w) (.cells #[.int .i64 1, .int .i64 0, .string (st s), .slice sa cl.length sc, .slice pa cp.length pc] 28)
  have hbx := new_at w #[.int .i64 1, .int .i64 0, .string (st s), .slice sa cl.length sc, .slice pa cp.length pc] 28
  obtain ⟨w1, hw1⟩ : ∃ w1, w1 = w.alloc (.cells #[.int .i64 1, .int .i64 0, .string (st s), .slice sa cl.length sc, .slice pa cp.length pc] 28) := ⟨_, rfl⟩
  rw [← hw1] at hb0 hbx
  have hsp := spare_d (k := 1) (i := 0) (s := s) (sa := sa) (pa := pa) (nl := cl.length) (np := cp.length) (sc := sc) (pc := pc) (w := w1)
  rw [hsp0] at hsp
  replace hb0 := hide1 hb0
  replace hbx := hide1 hbx
  go_enter Tryz.func34, Tryz.ntmps34
  go_wp2_with fail
  rw [← hw1]
  refine hsp.mono ?_
  rintro e w2 ⟨rfl, b2⟩
  have hB := hide1 (hb0.out.trans (b2.mono hb0.out.size))
  have hbx2 := (b2.block _ (Array.getElem?_eq_some_iff.1 hbx.out).1).trans hbx.out
  have c0 : w2.cell? ⟨w.heap.size, 0, none⟩ = some (.int .i64 (1)) := by simp only [World.cell?, hbx2]; rfl
  have c1 : w2.cell? ⟨w.heap.size, 1, none⟩ = some (.int .i64 (0)) := by simp only [World.cell?, hbx2]; rfl
  have c2 : w2.cell? ⟨w.heap.size, 2, none⟩ = some (.string (st s)) := by simp only [World.cell?, hbx2]; rfl
  have c3 : w2.cell? ⟨w.heap.size, 3, none⟩ = some (.slice sa cl.length sc) := by simp only [World.cell?, hbx2]; rfl
  have c4 : w2.cell? ⟨w.heap.size, 4, none⟩ = some (.slice pa cp.length pc) := by simp only [World.cell?, hbx2]; rfl
  clear hsp b2 hw1 hb0 hbx
  go_wp2
  go_ret
  exact ⟨rfl, hB.out⟩
set_option maxHeartbeats 4000000 in
set_option maxRecDepth 100000 in
theorem snd_11  {s : List UInt8} {sa pa : Option Addr} {cl cp : List (List Value)} {sc pc : Nat} {w : World} {D : Int} (hsp0 : spB 1 1 s cl.length cp.length = false) : Calls Tryz.prog 34 #[.agg #[.int .i64 1, .int .i64 1, .string (st s), .slice sa cl.length sc, .slice pa cp.length pc], .int .i64 D] w fun e w' => e = .returned (.bool true) ∧ Below w.heap.size w w' := by
  have hb0 := below_al (w := w) (.cells #[.int .i64 1, .int .i64 1, .string (st s), .slice sa cl.length sc, .slice pa cp.length pc] 28)
  have hbx := new_at w #[.int .i64 1, .int .i64 1, .string (st s), .slice sa cl.length sc, .slice pa cp.length pc] 28
  obtain ⟨w1, hw1⟩ : ∃ w1, w1 = w.alloc (.cells #[.int .i64 1, .int .i64 1, .string (st s), .slice sa cl.length sc, .slice pa cp.length pc] 28) := ⟨_, rfl⟩
  rw [← hw1] at hb0 hbx
  have hsp := spare_d (k := 1) (i := 1) (s := s) (sa := sa) (pa := pa) (nl := cl.length) (np := cp.length) (sc := sc) (pc := pc) (w := w1)
  rw [hsp0] at hsp
  replace hb0 := hide1 hb0
  replace hbx := hide1 hbx
  go_enter Tryz.func34, Tryz.ntmps34
  go_wp2_with fail
  rw [← hw1]
  refine hsp.mono ?_
  rintro e w2 ⟨rfl, b2⟩
  have hB := hide1 (hb0.out.trans (b2.mono hb0.out.size))
  have hbx2 := (b2.block _ (Array.getElem?_eq_some_iff.1 hbx.out).1).trans hbx.out
  have c0 : w2.cell? ⟨w.heap.size, 0, none⟩ = some (.int .i64 (1)) := by simp only [World.cell?, hbx2]; rfl
  have c1 : w2.cell? ⟨w.heap.size, 1, none⟩ = some (.int .i64 (1)) := by simp only [World.cell?, hbx2]; rfl
  have c2 : w2.cell? ⟨w.heap.size, 2, none⟩ = some (.string (st s)) := by simp only [World.cell?, hbx2]; rfl
  have c3 : w2.cell? ⟨w.heap.size, 3, none⟩ = some (.slice sa cl.length sc) := by simp only [World.cell?, hbx2]; rfl
  have c4 : w2.cell? ⟨w.heap.size, 4, none⟩ = some (.slice pa cp.length pc) := by simp only [World.cell?, hbx2]; rfl
  clear hsp b2 hw1 hb0 hbx
  go_wp2
  go_ret
  exact ⟨rfl, hB.out⟩
set_option maxHeartbeats 4000000 in
set_option maxRecDepth 100000 in
theorem snd_1o {i : Int} {s : List UInt8} {sa pa : Option Addr} {cl cp : List (List Value)} {sc pc : Nat} {w : World} {D : Int} (hsp0 : spB 1 i s cl.length cp.length = false) (i0 : i ≠ 0) (i1 : i ≠ 1) : Calls Tryz.prog 34 #[.agg #[.int .i64 1, .int .i64 i, .string (st s), .slice sa cl.length sc, .slice pa cp.length pc], .int .i64 D] w fun e w' => e = .returned (.bool false) ∧ Below w.heap.size w w' := by
  have hb0 := below_al (w := w) (.cells #[.int .i64 1, .int .i64 i, .string (st s), .slice sa cl.length sc, .slice pa cp.length pc] 28)
  have hbx := new_at w #[.int .i64 1, .int .i64 i, .string (st s), .slice sa cl.length sc, .slice pa cp.length pc] 28
  obtain ⟨w1, hw1⟩ : ∃ w1, w1 = w.alloc (.cells #[.int .i64 1, .int .i64 i, .string (st s), .slice sa cl.length sc, .slice pa cp.length pc] 28) := ⟨_, rfl⟩
  rw [← hw1] at hb0 hbx
  have hsp := spare_d (k := 1) (i := i) (s := s) (sa := sa) (pa := pa) (nl := cl.length) (np := cp.length) (sc := sc) (pc := pc) (w := w1)
  rw [hsp0] at hsp
  replace hb0 := hide1 hb0
  replace hbx := hide1 hbx
  have d0 : (i == 0) = false := by simpa using i0
  have d1 : (i == 1) = false := by simpa using i1
  go_enter Tryz.func34, Tryz.ntmps34
  go_wp2_with fail
  rw [← hw1]
  refine hsp.mono ?_
  rintro e w2 ⟨rfl, b2⟩
  have hB := hide1 (hb0.out.trans (b2.mono hb0.out.size))
  have hbx2 := (b2.block _ (Array.getElem?_eq_some_iff.1 hbx.out).1).trans hbx.out
  have c0 : w2.cell? ⟨w.heap.size, 0, none⟩ = some (.int .i64 (1)) := by simp only [World.cell?, hbx2]; rfl
  have c1 : w2.cell? ⟨w.heap.size, 1, none⟩ = some (.int .i64 i) := by simp only [World.cell?, hbx2]; rfl
  have c2 : w2.cell? ⟨w.heap.size, 2, none⟩ = some (.string (st s)) := by simp only [World.cell?, hbx2]; rfl
  have c3 : w2.cell? ⟨w.heap.size, 3, none⟩ = some (.slice sa cl.length sc) := by simp only [World.cell?, hbx2]; rfl
  have c4 : w2.cell? ⟨w.heap.size, 4, none⟩ = some (.slice pa cp.length pc) := by simp only [World.cell?, hbx2]; rfl
  clear hsp b2 hw1 hb0 hbx
  go_wp2
  go_ret
  exact ⟨rfl, hB.out⟩
set_option maxHeartbeats 4000000 in
set_option maxRecDepth 100000 in
theorem snd_2 {i : Int} {s : List UInt8} {sa pa : Option Addr} {cl cp : List (List Value)} {sc pc : Nat} {w : World} {D : Int} (hsp0 : spB 2 i s cl.length cp.length = false) : Calls Tryz.prog 34 #[.agg #[.int .i64 2, .int .i64 i, .string (st s), .slice sa cl.length sc, .slice pa cp.length pc], .int .i64 D] w fun e w' => e = .returned (.bool (inR i)) ∧ Below w.heap.size w w' := by
  have hb0 := below_al (w := w) (.cells #[.int .i64 2, .int .i64 i, .string (st s), .slice sa cl.length sc, .slice pa cp.length pc] 28)
  have hbx := new_at w #[.int .i64 2, .int .i64 i, .string (st s), .slice sa cl.length sc, .slice pa cp.length pc] 28
  obtain ⟨w1, hw1⟩ : ∃ w1, w1 = w.alloc (.cells #[.int .i64 2, .int .i64 i, .string (st s), .slice sa cl.length sc, .slice pa cp.length pc] 28) := ⟨_, rfl⟩
  rw [← hw1] at hb0 hbx
  have hsp := spare_d (k := 2) (i := i) (s := s) (sa := sa) (pa := pa) (nl := cl.length) (np := cp.length) (sc := sc) (pc := pc) (w := w1)
  rw [hsp0] at hsp
  replace hb0 := hide1 hb0
  replace hbx := hide1 hbx
  obtain ⟨B, hBe⟩ : ∃ B, Hid (B = inR i) := ⟨_, hide1 rfl⟩
  rw [← hBe.out]
  go_enter Tryz.func34, Tryz.ntmps34
  go_wp2_with fail
  rw [← hw1]
  refine hsp.mono ?_
  rintro e w2 ⟨rfl, b2⟩
  have hB := hide1 (hb0.out.trans (b2.mono hb0.out.size))
  have hbx2 := (b2.block _ (Array.getElem?_eq_some_iff.1 hbx.out).1).trans hbx.out
  have c0 : w2.cell? ⟨w.heap.size, 0, none⟩ = some (.int .i64 (2)) := by simp only [World.cell?, hbx2]; rfl
  have c1 : w2.cell? ⟨w.heap.size, 1, none⟩ = some (.int .i64 i) := by simp only [World.cell?, hbx2]; rfl
  have c2 : w2.cell? ⟨w.heap.size, 2, none⟩ = some (.string (st s)) := by simp only [World.cell?, hbx2]; rfl
  have c3 : w2.cell? ⟨w.heap.size, 3, none⟩ = some (.slice sa cl.length sc) := by simp only [World.cell?, hbx2]; rfl
  have c4 : w2.cell? ⟨w.heap.size, 4, none⟩ = some (.slice pa cp.length pc) := by simp only [World.cell?, hbx2]; rfl
  have hcc := rng_d (n := i) (w := w2)
  rw [← hBe.out] at hcc
  clear hsp b2 hw1 hb0 hbx
  go_wp2_with fail
  refine hcc.mono ?_
  rintro e w3 ⟨rfl, rfl⟩
  clear hcc
  go_wp2
  go_ret
  exact ⟨rfl, hB.out⟩
set_option maxHeartbeats 4000000 in
set_option maxRecDepth 100000 in
theorem snd_3 {i : Int} {s : List UInt8} {sa pa : Option Addr} {cl cp : List (List Value)} {sc pc : Nat} {w : World} {D : Int} (hsp0 : spB 3 i s cl.length cp.length = false) (hsz : s.length ≤ 9223372036854775807) (hT : Ev w) (h8 : 8 ≤ w.heap.size) : Calls Tryz.prog 34 #[.agg #[.int .i64 3, .int .i64 i, .string (st s), .slice sa cl.length sc, .slice pa cp.length pc], .int .i64 D] w fun e w' => e = .returned (.bool (Lib.validD s)) ∧ Below w.heap.size w w' := by
  have hb0 := below_al (w := w) (.cells #[.int .i64 3, .int .i64 i, .string (st s), .slice sa cl.length sc, .slice pa cp.length pc] 28)
  have hbx := new_at w #[.int .i64 3, .int .i64 i, .string (st s), .slice sa cl.length sc, .slice pa cp.length pc] 28
  obtain ⟨w1, hw1⟩ : ∃ w1, w1 = w.alloc (.cells #[.int .i64 3, .int .i64 i, .string (st s), .slice sa cl.length sc, .slice pa cp.length pc] 28) := ⟨_, rfl⟩
  rw [← hw1] at hb0 hbx
  have hsp := spare_d (k := 3) (i := i) (s := s) (sa := sa) (pa := pa) (nl := cl.length) (np := cp.length) (sc := sc) (pc := pc) (w := w1)
  rw [hsp0] at hsp
  replace hb0 := hide1 hb0
  replace hbx := hide1 hbx
  obtain ⟨B, hBe⟩ : ∃ B, Hid (B = Lib.validD s) := ⟨_, hide1 rfl⟩
  rw [← hBe.out]
  go_enter Tryz.func34, Tryz.ntmps34
  go_wp2_with fail
  rw [← hw1]
  refine hsp.mono ?_
  rintro e w2 ⟨rfl, b2⟩
  have hB := hide1 (hb0.out.trans (b2.mono hb0.out.size))
  have hbx2 := (b2.block _ (Array.getElem?_eq_some_iff.1 hbx.out).1).trans hbx.out
  have c0 : w2.cell? ⟨w.heap.size, 0, none⟩ = some (.int .i64 (3)) := by simp only [World.cell?, hbx2]; rfl
  have c1 : w2.cell? ⟨w.heap.size, 1, none⟩ = some (.int .i64 i) := by simp only [World.cell?, hbx2]; rfl
  have c2 : w2.cell? ⟨w.heap.size, 2, none⟩ = some (.string (st s)) := by simp only [World.cell?, hbx2]; rfl
  have c3 : w2.cell? ⟨w.heap.size, 3, none⟩ = some (.slice sa cl.length sc) := by simp only [World.cell?, hbx2]; rfl
  have c4 : w2.cell? ⟨w.heap.size, 4, none⟩ = some (.slice pa cp.length pc) := by simp only [World.cell?, hbx2]; rfl
  have hcc := utf8_ValidString (st s) w2 (by rw [st_size]; exact hsz) (hT.below hB.out (by omega)).tb
  rw [st_data, ← hBe.out] at hcc
  clear hsp b2 hw1 hb0 hbx
  go_wp2_with fail
  refine hcc.mono ?_
  rintro e w3 ⟨rfl, b3⟩
  have hB3 := hide1 (hB.out.trans (b3.mono hB.out.size))
  clear hcc b3 hB
  go_wp2
  go_ret
  exact ⟨rfl, hB3.out⟩
set_option maxHeartbeats 4000000 in
set_option maxRecDepth 100000 in
theorem snd_4z {i : Int} {s : List UInt8} {sa pa : Option Addr} {cl cp : List (List Value)} {sc pc : Nat} {w : World} {D : Int} (hsp0 : spB 4 i s cl.length cp.length = false) (hD : D = 8) : Calls Tryz.prog 34 #[.agg #[.int .i64 4, .int .i64 i, .string (st s), .slice sa cl.length sc, .slice pa cp.length pc], .int .i64 D] w fun e w' => e = .returned (.bool false) ∧ Below w.heap.size w w' := by
  have hb0 := below_al (w := w) (.cells #[.int .i64 4, .int .i64 i, .string (st s), .slice sa cl.length sc, .slice pa cp.length pc] 28)
  have hbx := new_at w #[.int .i64 4, .int .i64 i, .string (st s), .slice sa cl.length sc, .slice pa cp.length pc] 28
  obtain ⟨w1, hw1⟩ : ∃ w1, w1 = w.alloc (.cells #[.int .i64 4, .int .i64 i, .string (st s), .slice sa cl.length sc, .slice pa cp.length pc] 28) := ⟨_, rfl⟩
  rw [← hw1] at hb0 hbx
  have hsp := spare_d (k := 4) (i := i) (s := s) (sa := sa) (pa := pa) (nl := cl.length) (np := cp.length) (sc := sc) (pc := pc) (w := w1)
  rw [hsp0] at hsp
  replace hb0 := hide1 hb0
  replace hbx := hide1 hbx
  subst hD
  go_enter Tryz.func34, Tryz.ntmps34
  go_wp2_with fail
  rw [← hw1]
  refine hsp.mono ?_
  rintro e w2 ⟨rfl, b2⟩
  have hB := hide1 (hb0.out.trans (b2.mono hb0.out.size))
  have hbx2 := (b2.block _ (Array.getElem?_eq_some_iff.1 hbx.out).1).trans hbx.out
  have c0 : w2.cell? ⟨w.heap.size, 0, none⟩ = some (.int .i64 (4)) := by simp only [World.cell?, hbx2]; rfl
  have c1 : w2.cell? ⟨w.heap.size, 1, none⟩ = some (.int .i64 i) := by simp only [World.cell?, hbx2]; rfl
  have c2 : w2.cell? ⟨w.heap.size, 2, none⟩ = some (.string (st s)) := by simp only [World.cell?, hbx2]; rfl
  have c3 : w2.cell? ⟨w.heap.size, 3, none⟩ = some (.slice sa cl.length sc) := by simp only [World.cell?, hbx2]; rfl
  have c4 : w2.cell? ⟨w.heap.size, 4, none⟩ = some (.slice pa cp.length pc) := by simp only [World.cell?, hbx2]; rfl
  clear hsp b2 hw1 hb0 hbx
  go_wp2
  go_ret
  exact ⟨rfl, hB.out⟩
set_option maxHeartbeats 4000000 in
set_option maxRecDepth 100000 in
theorem snd_4 {i : Int} {B : Bool} {s : List UInt8} {sa pa : Option Addr} {cl cp : List (List Value)} {sc pc : Nat} {w : World} {D : Int} (hsp0 : spB 4 i s cl.length cp.length = false) (hD : D < 8) (hD0 : 0 ≤ D) (hc : ∀ w2, Below w.heap.size w w2 → Calls Tryz.prog 56 #[.slice sa cl.length sc, .int .i64 (D + 1)] w2 fun e w3 => e = .returned (.bool B) ∧ Below w2.heap.size w2 w3) : Calls Tryz.prog 34 #[.agg #[.int .i64 4, .int .i64 i, .string (st s), .slice sa cl.length sc, .slice pa cp.length pc], .int .i64 D] w fun e w' => e = .returned (.bool B) ∧ Below w.heap.size w w' := by
  have hb0 := below_al (w := w) (.cells #[.int .i64 4, .int .i64 i, .string (st s), .slice sa cl.length sc, .slice pa cp.length pc] 28)
  have hbx := new_at w #[.int .i64 4, .int .i64 i, .string (st s), .slice sa cl.length sc, .slice pa cp.length pc] 28
  obtain ⟨w1, hw1⟩ : ∃ w1, w1 = w.alloc (.cells #[.int .i64 4, .int .i64 i, .string (st s), .slice sa cl.length sc, .slice pa cp.length pc] 28) := ⟨_, rfl⟩
  rw [← hw1] at hb0 hbx
  have hsp := spare_d (k := 4) (i := i) (s := s) (sa := sa) (pa := pa) (nl := cl.length) (np := cp.length) (sc := sc) (pc := pc) (w := w1)
  rw [hsp0] at hsp
  replace hb0 := hide1 hb0
  replace hbx := hide1 hbx
  replace hc := hide1 hc
  go_enter Tryz.func34, Tryz.ntmps34
  go_wp2_with fail
  rw [← hw1]
  refine hsp.mono ?_
  rintro e w2 ⟨rfl, b2⟩
  have hB := hide1 (hb0.out.trans (b2.mono hb0.out.size))
  have hbx2 := (b2.block _ (Array.getElem?_eq_some_iff.1 hbx.out).1).trans hbx.out
  have c0 : w2.cell? ⟨w.heap.size, 0, none⟩ = some (.int .i64 (4)) := by simp only [World.cell?, hbx2]; rfl
  have c1 : w2.cell? ⟨w.heap.size, 1, none⟩ = some (.int .i64 i) := by simp only [World.cell?, hbx2]; rfl
  have c2 : w2.cell? ⟨w.heap.size, 2, none⟩ = some (.string (st s)) := by simp only [World.cell?, hbx2]; rfl
  have c3 : w2.cell? ⟨w.heap.size, 3, none⟩ = some (.slice sa cl.length sc) := by simp only [World.cell?, hbx2]; rfl
  have c4 : w2.cell? ⟨w.heap.size, 4, none⟩ = some (.slice pa cp.length pc) := by simp only [World.cell?, hbx2]; rfl
  have hcc := hc.out w2 hB.out
  clear hsp b2 hw1 hb0 hbx
  go_wp2_with fail
  refine hcc.mono ?_
  rintro e w3 ⟨rfl, b3⟩
  have hB3 := hide1 (hB.out.trans (b3.mono hB.out.size))
  clear hcc b3 hB
  go_wp2
  go_ret
  exact ⟨rfl, hB3.out⟩
set_option maxHeartbeats 4000000 in
set_option maxRecDepth 100000 in
theorem snd_5z {i : Int} {s : List UInt8} {sa pa : Option Addr} {cl cp : List (List Value)} {sc pc : Nat} {w : World} {D : Int} (hsp0 : spB 5 i s cl.length cp.length = false) (hD : D = 8) : Calls Tryz.prog 34 #[.agg #[.int .i64 5, .int .i64 i, .string (st s), .slice sa cl.length sc, .slice pa cp.length pc], .int .i64 D] w fun e w' => e = .returned (.bool false) ∧ Below w.heap.size w w' := by
  have hb0 := below_al (w := w) (.cells #[.int .i64 5, .int .i64 i, .string (st s), .slice sa cl.length sc, .slice pa cp.length pc] 28)
  have hbx := new_at w #[.int .i64 5, .int .i64 i, .string (st s), .slice sa cl.length sc, .slice pa cp.length pc] 28
  obtain ⟨w1, hw1⟩ : ∃ w1, w1 = w.alloc (.cells #[.int .i64 5, .int .i64 i, .string (st s), .slice sa cl.length sc, .slice pa cp.length pc] 28) := ⟨_, rfl⟩
  rw [← hw1] at hb0 hbx
  have hsp := spare_d (k := 5) (i := i) (s := s) (sa := sa) (pa := pa) (nl := cl.length) (np := cp.length) (sc := sc) (pc := pc) (w := w1)
  rw [hsp0] at hsp
  replace hb0 := hide1 hb0
  replace hbx := hide1 hbx
  subst hD
  go_enter Tryz.func34, Tryz.ntmps34
  go_wp2_with fail
  rw [← hw1]
  refine hsp.mono ?_
  rintro e w2 ⟨rfl, b2⟩
  have hB := hide1 (hb0.out.trans (b2.mono hb0.out.size))
  have hbx2 := (b2.block _ (Array.getElem?_eq_some_iff.1 hbx.out).1).trans hbx.out
  have c0 : w2.cell? ⟨w.heap.size, 0, none⟩ = some (.int .i64 (5)) := by simp only [World.cell?, hbx2]; rfl
  have c1 : w2.cell? ⟨w.heap.size, 1, none⟩ = some (.int .i64 i) := by simp only [World.cell?, hbx2]; rfl
  have c2 : w2.cell? ⟨w.heap.size, 2, none⟩ = some (.string (st s)) := by simp only [World.cell?, hbx2]; rfl
  have c3 : w2.cell? ⟨w.heap.size, 3, none⟩ = some (.slice sa cl.length sc) := by simp only [World.cell?, hbx2]; rfl
  have c4 : w2.cell? ⟨w.heap.size, 4, none⟩ = some (.slice pa cp.length pc) := by simp only [World.cell?, hbx2]; rfl
  clear hsp b2 hw1 hb0 hbx
  go_wp2
  go_ret
  exact ⟨rfl, hB.out⟩
set_option maxHeartbeats 4000000 in
set_option maxRecDepth 100000 in
theorem snd_5 {i : Int} {B : Bool} {s : List UInt8} {sa pa : Option Addr} {cl cp : List (List Value)} {sc pc : Nat} {w : World} {D : Int} (hsp0 : spB 5 i s cl.length cp.length = false) (hD : D < 8) (hD0 : 0 ≤ D) (hc : ∀ w2, Below w.heap.size w w2 → Calls Tryz.prog 57 #[.agg #[.int .i64 5, .int .i64 i, .string (st s), .slice sa cl.length sc, .slice pa cp.length pc], .int .i64 (D + 1)] w2 fun e w3 => e = .returned (.bool B) ∧ Below w2.heap.size w2 w3) : Calls Tryz.prog 34 #[.agg #[.int .i64 5, .int .i64 i, .string (st s), .slice sa cl.length sc, .slice pa cp.length pc], .int .i64 D] w fun e w' => e = .returned (.bool B) ∧ Below w.heap.size w w' := by
  have hb0 := below_al (w := w) (.cells #[.int .i64 5, .int .i64 i, .string (st s), .slice sa cl.length sc, .slice pa cp.length pc] 28)
  have hbx := new_at w #[.int .i64 5, .int .i64 i, .string (st s), .slice sa cl.length sc, .slice pa cp.length pc] 28
  obtain ⟨w1, hw1⟩ : ∃ w1, w1 = w.alloc (.cells #[.int .i64 5, .int .i64 i, .string (st s), .slice sa cl.length sc, .slice pa cp.length pc] 28) := ⟨_, rfl⟩
  rw [← hw1] at hb0 hbx
  have hsp := spare_d (k := 5) (i := i) (s := s) (sa := sa) (pa := pa) (nl := cl.length) (np := cp.length) (sc := sc) (pc := pc) (w := w1)
  rw [hsp0] at hsp
  replace hb0 := hide1 hb0
  replace hbx := hide1 hbx
  replace hc := hide1 hc
  go_enter Tryz.func34, Tryz.ntmps34
  go_wp2_with fail
  rw [← hw1]
  refine hsp.mono ?_
  rintro e w2 ⟨rfl, b2⟩
  have hB := hide1 (hb0.out.trans (b2.mono hb0.out.size))
  have hbx2 := (b2.block _ (Array.getElem?_eq_some_iff.1 hbx.out).1).trans hbx.out
  have c0 : w2.cell? ⟨w.heap.size, 0, none⟩ = some (.int .i64 (5)) := by simp only [World.cell?, hbx2]; rfl
  have c1 : w2.cell? ⟨w.heap.size, 1, none⟩ = some (.int .i64 i) := by simp only [World.cell?, hbx2]; rfl
  have c2 : w2.cell? ⟨w.heap.size, 2, none⟩ = some (.string (st s)) := by simp only [World.cell?, hbx2]; rfl
  have c3 : w2.cell? ⟨w.heap.size, 3, none⟩ = some (.slice sa cl.length sc) := by simp only [World.cell?, hbx2]; rfl
  have c4 : w2.cell? ⟨w.heap.size, 4, none⟩ = some (.slice pa cp.length pc) := by simp only [World.cell?, hbx2]; rfl
  have hcc := hc.out w2 hB.out
  clear hsp b2 hw1 hb0 hbx
  go_wp2_with fail
  refine hcc.mono ?_
  rintro e w3 ⟨rfl, b3⟩
  have hB3 := hide1 (hB.out.trans (b3.mono hB.out.size))
  clear hcc b3 hB
  go_wp2
  go_ret
  exact ⟨rfl, hB3.out⟩
set_option maxHeartbeats 4000000 in
set_option maxRecDepth 100000 in
theorem snd_o {k i : Int} {s : List UInt8} {sa pa : Option Addr} {cl cp : List (List Value)} {sc pc : Nat} {w : World} {D : Int} (hsp0 : spB k i s cl.length cp.length = false) (k0 : k ≠ 0) (k1 : k ≠ 1) (k2 : k ≠ 2) (k3 : k ≠ 3) (k4 : k ≠ 4) (k5 : k ≠ 5) : Calls Tryz.prog 34 #[.agg #[.int .i64 k, .int .i64 i, .string (st s), .slice sa cl.length sc, .slice pa cp.length pc], .int .i64 D] w fun e w' => e = .returned (.bool false) ∧ Below w.heap.size w w' := by
  have hb0 := below_al (w := w) (.cells #[.int .i64 k, .int .i64 i, .string (st s), .slice sa cl.length sc, .slice pa cp.length pc] 28)
  have hbx := new_at w #[.int .i64 k, .int .i64 i, .string (st s), .slice sa cl.length sc, .slice pa cp.length pc] 28
  obtain ⟨w1, hw1⟩ : ∃ w1, w1 = w.alloc (.cells #[.int .i64 k, .int .i64 i, .string (st s), .slice sa cl.length sc, .slice pa cp.length pc] 28) := ⟨_, rfl⟩
  rw [← hw1] at hb0 hbx
  have hsp := spare_d (k := k) (i := i) (s := s) (sa := sa) (pa := pa) (nl := cl.length) (np := cp.length) (sc := sc) (pc := pc) (w := w1)
  rw [hsp0] at hsp
  replace hb0 := hide1 hb0
  replace hbx := hide1 hbx
  have d0 : (k == 0) = false := by simpa using k0
  have d1 : (k == 1) = false := by simpa using k1
  have d2 : (k == 2) = false := by simpa using k2
  have d3 : (k == 3) = false := by simpa using k3
  have d4 : (k == 4) = false := by simpa using k4
  have d5 : (k == 5) = false := by simpa using k5
  go_enter Tryz.func34, Tryz.ntmps34
  go_wp2_with fail
  rw [← hw1]
  refine hsp.mono ?_
  rintro e w2 ⟨rfl, b2⟩
  have hB := hide1 (hb0.out.trans (b2.mono hb0.out.size))
  have hbx2 := (b2.block _ (Array.getElem?_eq_some_iff.1 hbx.out).1).trans hbx.out
  have c0 : w2.cell? ⟨w.heap.size, 0, none⟩ = some (.int .i64 k) := by simp only [World.cell?, hbx2]; rfl
  have c1 : w2.cell? ⟨w.heap.size, 1, none⟩ = some (.int .i64 i) := by simp only [World.cell?, hbx2]; rfl
  have c2 : w2.cell? ⟨w.heap.size, 2, none⟩ = some (.string (st s)) := by simp only [World.cell?, hbx2]; rfl
  have c3 : w2.cell? ⟨w.heap.size, 3, none⟩ = some (.slice sa cl.length sc) := by simp only [World.cell?, hbx2]; rfl
  have c4 : w2.cell? ⟨w.heap.size, 4, none⟩ = some (.slice pa cp.length pc) := by simp only [World.cell?, hbx2]; rfl
  clear hsp b2 hw1 hb0 hbx
  go_wp2
  go_ret
  exact ⟨rfl, hB.out⟩
theorem sound_s {n : Nat} (hn : n ≤ 8) (ih : ∀ m, n = m + 1 → Sok m) : Sok n := by
  intro F w t c h hh hs hv hT h8
  cases h with
  | zero => exact hh.elim
  | succ h =>
  cases hv with
  | @mk k i s l p sl sp cl cp r1 r2 e1 e2 hl hp1 hp2 =>
    obtain ⟨b1, b2, hh1, hh2⟩ := hh
    obtain ⟨z0, z1, z2⟩ := hs
    obtain ⟨sa, sc, rfl⟩ := r1.slc
    obtain ⟨pa, pc, rfl⟩ := r2.slc
    unfold gd
    rw [← e1, ← e2]
    cases hsp : spB k i s cl.length cp.length with
    | true => exact snd_sp hsp
    | false =>
      simp only [Bool.not_false, Bool.true_and]
      by_cases k0 : k = 0
      · subst k0
        rw [if_pos rfl]
        exact snd_0 hsp
      rw [if_neg k0]
      by_cases k1 : k = 1
      · subst k1
        rw [if_pos rfl]
        by_cases i0 : i = 0
        · subst i0
          exact snd_10 hsp
        · by_cases i1 : i = 1
          · subst i1
            exact snd_11 hsp
          · rw [decide_eq_false (by omega)]
            exact snd_1o hsp i0 i1
      rw [if_neg k1]
      by_cases k2 : k = 2
      · subst k2
        rw [if_pos rfl]
        exact snd_2 hsp
      rw [if_neg k2]
      by_cases k3 : k = 3
      · subst k3
        rw [if_pos rfl]
        exact snd_3 hsp z0 hT h8
      rw [if_neg k3]
      by_cases k4 : k = 4
      · subst k4
        rw [if_pos rfl]
        cases n with
        | zero => exact snd_4z hsp rfl
        | succ n =>
          refine snd_4 hsp (by omega) (by omega) fun w2 hb => ?_
          rw [show ((8 - (n + 1) : Nat) : Int) + 1 = ((8 - n : Nat) : Int) by omega]
          exact sndL_d (ih n rfl) (r1.frame (w' := w2) (G := F) (fun j _ hj => hb.block j hj) (fun _ h _ => h)) e1 (by omega) hh1 z1 (fun j t c h1 h2 => (hl j t c h1 h2).frame (fun j _ hj => hb.block j hj) (fun _ h _ => h)) (hT.below hb (by omega)) (by have := hb.size; omega)
      rw [if_neg k4]
      by_cases k5 : k = 5
      · subst k5
        rw [if_pos rfl]
        cases n with
        | zero => exact snd_5z hsp rfl
        | succ n =>
          refine snd_5 hsp (by omega) (by omega) fun w2 hb => ?_
          rw [show ((8 - (n + 1) : Nat) : Int) + 1 = ((8 - n : Nat) : Int) by omega]
          exact (callsIn_wide (n := 5)).1 (sndP_in (ih n rfl) (r2.frame (w' := w2) (G := F) (fun j _ hj => hb.block j hj) (fun _ h _ => h)) e2 (by omega) hh2 z2 (fun j q c h1 h2 => ⟨hp1 j q c h1 h2, (hp2 j q c h1 h2).frame (fun j _ hj => hb.block j hj) (fun _ h _ => h)⟩) (hT.below hb (by omega)) (by have := hb.size; omega))
      rw [if_neg k5]
      exact snd_o hsp k0 k1 k2 k3 k4 k5
theorem sound_d : ∀ n, n ≤ 8 → Sok n
  | 0, h => sound_s h fun m e => by cases e
  | n + 1, h => sound_s h fun m e => by cases e; exact sound_d n (by omega)
theorem check_d {F : Nat → Prop} {w : World} {t : T} {c : List Value} {h : Nat} (hh : hgt h t) (hs : sbd h t) (hv : VA F w t c) (hT : Ev w) (h8 : 8 ≤ w.heap.size) : Calls Tryz.prog 17 #[.agg c.toArray] w fun e w' => e = .returned (if gd 8 t then .nilIface else .iface 52 (.int .i64 1)) ∧ Below w.heap.size w w' := by
  have hc5 := hv.len
  obtain ⟨y0, y1, y2, y3, y4, rfl⟩ := five_l hc5
  have hb0 := below_al (w := w) (.cells #[y0, y1, y2, y3, y4] 28)
  have hc := sound_d 8 (by omega) (c := [y0, y1, y2, y3, y4]) hh hs (hv.frame (fun j _ hj => hb0.block j hj) (fun _ h _ => h)) (hT.below hb0 (by omega)) (by have := hb0.size; omega)
  replace hc : Calls Tryz.prog 34 #[.agg #[y0, y1, y2, y3, y4], .int .i64 0] (w.alloc (.cells #[y0, y1, y2, y3, y4] 28)) _ := hc
  replace hb0 := hide1 hb0
  generalize gd 8 t = B at *
  clear hv hT hc5 hh hs
  show Calls Tryz.prog 17 #[.agg #[y0, y1, y2, y3, y4]] w _
  go_enter Tryz.func17, Tryz.ntmps17
  go_wp2_with fail
  refine hc.mono ?_
  rintro e w1 ⟨rfl, b1⟩
  replace b1 := hide1 (hb0.out.trans (b1.mono hb0.out.size))
  clear hc hb0
  cases B with
  | true =>
    go_wp2
    go_ret
    exact ⟨rfl, b1.out⟩
  | false =>
    go_wp2
    go_ret
    exact ⟨rfl, b1.out⟩
end Go.Proofs.YthgndmgoilfpcaaGreatDoor

namespace Go.Proofs.YthgndmgoilfpcaaGreatDoor
open Go.RowKit

def En (q : List UInt8) : Prop := ∃ p c, q = p ++ [c] ∧ bk.contains c = false
theorem En.one {c : UInt8} (h : bk.contains c = false) : En [c] := ⟨[], c, rfl, h⟩
theorem En.ne {q : List UInt8} (h : En q) : q ≠ [] := by
  obtain ⟨p, c, rfl, _⟩ := h; simp
def nd (l : List UInt8) : Prop := ∀ b m, l = b :: m → dg b = false
theorem hp1 {b : UInt8} {l : List UInt8} (h : hp [b] l = true) : ∃ m, l = b :: m := by
  cases l with
  | nil => simp [hp] at h
  | cons c m => simp [hp] at h; exact ⟨m, by rw [h]⟩
theorem dec_go {b : UInt8} (t : List UInt8) : Lib.decodeGo (st (b :: t)) = Lib.decodeL (b :: t) := by
  unfold Lib.decodeGo
  rw [if_neg (by rw [st_size]; simp)]
  rfl
theorem dec_sw {l : List UInt8} (hne : l ≠ []) (hv : ¬ ((Lib.decodeL l).1 = 65533 ∧ (Lib.decodeL l).2 = 1)) : ∃ q, l = q ++ l.drop (Lib.decodeL l).2 ∧ q ≠ [] ∧ q.length = (Lib.decodeL l).2 ∧ ∀ r', Lib.decodeL (q ++ r') = Lib.decodeL l := by
  have hw1 := Lib.decodeL_width l
  have hw2 := Lib.decodeL_le l hne
  refine ⟨l.take (Lib.decodeL l).2, (List.take_append_drop _ _).symm, ?_, by simp; omega, ?_⟩
  · intro h
    have := congrArg List.length h
    rw [List.length_take, List.length_nil] at this
    omega
  · intro r'
    rw [Lib.decodeL_N] at hv ⊢
    rw [Lib.decodeL_N]
    rcases Lib.decodeN_shape l.length (l.getD 0 0).toNat (l.getD 1 0).toNat (l.getD 2 0).toNat (l.getD 3 0).toNat with ⟨c, e⟩ | ⟨c1, c2, c3, cv, e⟩ | ⟨c1, c2, c3, c4, cv, cs, e⟩ | ⟨c1, c2, c3, c4, c5, cv, cw, e⟩ | e
    · have hl : 0 < l.length := List.length_pos_iff.2 hne
      rw [e]
      simp only
      rw [Lib.takeA l hl]
      unfold Lib.decodeN
      rw [if_pos (by simpa using c)]
      rfl
    · rw [e]
      simp only
      rw [Lib.takeB l c2]
      simp only [List.cons_append, List.nil_append, List.length_cons, List.getD_cons_zero, List.getD_cons_succ]
      unfold Lib.decodeN
      rw [if_neg (by omega), if_pos ⟨c1, by omega, c3⟩, if_pos cv]
    · rw [e]
      simp only
      rw [Lib.takeC l c2]
      simp only [List.cons_append, List.nil_append, List.length_cons, List.getD_cons_zero, List.getD_cons_succ]
      unfold Lib.decodeN
      rw [if_neg (by omega), if_neg (by omega), if_pos ⟨c1, ⟨by omega, c3⟩, by omega, c4⟩, if_pos ⟨cv, by omega⟩]
    · rw [e]
      simp only
      rw [Lib.takeD l c2]
      simp only [List.cons_append, List.nil_append, List.length_cons, List.getD_cons_zero, List.getD_cons_succ]
      unfold Lib.decodeN
      rw [if_neg (by omega), if_neg (by omega), if_neg (by omega), if_pos ⟨c1, ⟨by omega, c3⟩, ⟨by omega, c4⟩, by omega, c5⟩, if_pos ⟨cv, by omega⟩]
    · rw [e] at hv
      exact absurd ⟨rfl, rfl⟩ hv
section
variable {α : Type} {one : List UInt8 → Option (α × List UInt8)} {e : UInt8}
end
end Go.Proofs.YthgndmgoilfpcaaGreatDoor

namespace Go.Proofs.YthgndmgoilfpcaaGreatDoor
open Go.RowKit

def sgn (c : Nat) : List UInt8 :=
  if c < 128 then [UInt8.ofNat c] else if c < 2048 then [UInt8.ofNat (192 + c / 64), UInt8.ofNat (128 + c % 64)]
  else if c < 65536 then [UInt8.ofNat (224 + c / 4096), UInt8.ofNat (128 + c / 64 % 64), UInt8.ofNat (128 + c % 64)]
  else [UInt8.ofNat (240 + c / 262144), UInt8.ofNat (128 + c / 4096 % 64), UInt8.ofNat (128 + c / 64 % 64), UInt8.ofNat (128 + c % 64)]
def bc (l : List UInt8) : Array Value := (l.map fun x => Value.int .u8 (x.toNat : Nat)).toArray
theorem of_u8 {n : Nat} (h : n < 256) : (UInt8.ofNat n).toNat = n := by simp; omega
set_option maxHeartbeats 4000000 in
set_option maxRecDepth 100000 in
theorem rsign_d {c : Nat} (hc : c ≤ 1114111) {w : World} : Calls Tryz.prog 88 #[.int .i64 (c : Nat)] w fun e w' => e = .returned (.slice (some ⟨w.heap.size, 0, none⟩) (sgn c).length (sgn c).length) ∧ w' = w.alloc (.cells (bc (sgn c)) 5) := by
  unfold sgn
  by_cases h1 : c < 128
  · rw [if_pos h1]
    simp only [bc, List.map_cons, List.map_nil, List.length_cons, List.length_nil]
    rw [of_u8 (by omega)]
    go_enter Tryz.func88, Tryz.ntmps88
    go_wp2
    go_ret
    exact ⟨rfl, rfl⟩
  rw [if_neg h1]
  by_cases h2 : c < 2048
  · rw [if_pos h2]
    simp only [bc, List.map_cons, List.map_nil, List.length_cons, List.length_nil]
    rw [of_u8 (by omega), of_u8 (by omega)]
    go_enter Tryz.func88, Tryz.ntmps88
    go_wp2
    go_ret
    exact ⟨rfl, rfl⟩
  rw [if_neg h2]
  by_cases h3 : c < 65536
  · rw [if_pos h3]
    simp only [bc, List.map_cons, List.map_nil, List.length_cons, List.length_nil]
    rw [of_u8 (by omega), of_u8 (by omega), of_u8 (by omega)]
    have d1 : decide ((c : Int) < 128) = false := decide_eq_false (by omega)
    have d2 : decide ((c : Int) < 2048) = false := decide_eq_false (by omega)
    have d3 : decide ((c : Int) < 65536) = true := decide_eq_true (by omega)
    have b1 : c / 4096 < 16 := by omega
    clear h1 h2 h3 hc
    go_enter Tryz.func88, Tryz.ntmps88
    go_wp2
    go_ret
    exact ⟨rfl, rfl⟩
  rw [if_neg h3]
  simp only [bc, List.map_cons, List.map_nil, List.length_cons, List.length_nil]
  rw [of_u8 (by omega), of_u8 (by omega), of_u8 (by omega), of_u8 (by omega)]
  have d1 : decide ((c : Int) < 128) = false := decide_eq_false (by omega)
  have d2 : decide ((c : Int) < 2048) = false := decide_eq_false (by omega)
  have d3 : decide ((c : Int) < 65536) = false := decide_eq_false (by omega)
  have b1 : c / 262144 < 5 := by omega
  clear h1 h2 h3 hc
  go_enter Tryz.func88, Tryz.ntmps88
  go_wp2
  go_ret
  exact ⟨rfl, rfl⟩
end Go.Proofs.YthgndmgoilfpcaaGreatDoor

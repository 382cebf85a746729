/- KC1, KC2, KC3, KC4, KE1, KE2, KE3, JF3, JF5, JF6, KE4, KE5, KE6, KS1, KPL, KS2, CS3, CS4, CS5, CS6: laid together. -/
import Derived.OrdersIn
import Derived.Maps.OwnIn
import Derived.Test.YtbemaloaobeblaaGreatDoorG3
import Derived.Test.YtbemaloaobeblaaGreatDoorG2
import Derived.Test.YtbemaloaobeblaaGreatDoorG1
namespace Go.Proofs.YtbemaloaobeblaaGreatDoor
open Go.RowKit

def spB (k i : Int) (s : List UInt8) (nl np : Nat) : Bool :=
  decide (i ≠ 0 ∧ k ≠ 1 ∧ k ≠ 2) || decide (s ≠ [] ∧ k ≠ 3) || decide (0 < nl ∧ k ≠ 4) || decide (0 < np ∧ k ≠ 5)
theorem spB_1 {k i : Int} {s : List UInt8} {nl np : Nat} (h : i ≠ 0 ∧ k ≠ 1 ∧ k ≠ 2) : spB k i s nl np = true := by unfold spB; rw [decide_eq_true h]; simp only [Bool.true_or]
theorem spB_2 {k i : Int} {s : List UInt8} {nl np : Nat} (h : s ≠ [] ∧ k ≠ 3) : spB k i s nl np = true := by unfold spB; rw [decide_eq_true h]; simp only [Bool.true_or, Bool.or_true]
theorem spB_3 {k i : Int} {s : List UInt8} {nl np : Nat} (h : 0 < nl ∧ k ≠ 4) : spB k i s nl np = true := by unfold spB; rw [decide_eq_true h]; simp only [Bool.true_or, Bool.or_true]
theorem spB_4 {k i : Int} {s : List UInt8} {nl np : Nat} (h : 0 < np ∧ k ≠ 5) : spB k i s nl np = true := by unfold spB; rw [decide_eq_true h]; simp only [Bool.or_true]
theorem spB_f {k i : Int} {s : List UInt8} {nl np : Nat} (h1 : ¬ (i ≠ 0 ∧ k ≠ 1 ∧ k ≠ 2)) (h2 : ¬ (s ≠ [] ∧ k ≠ 3)) (h3 : ¬ (0 < nl ∧ k ≠ 4)) (h4 : ¬ (0 < np ∧ k ≠ 5)) : spB k i s nl np = false := by unfold spB; rw [decide_eq_false h1, decide_eq_false h2, decide_eq_false h3, decide_eq_false h4]; rfl
def inR (n : Int) : Bool := decide (-9007199254740991 ≤ n ∧ n ≤ 9007199254740991)
def gd : Nat → T → Bool
  | n, .mk k i s l p => !spB k i s l.length p.length && (
    if k = 0 then true else if k = 1 then decide (i = 0 ∨ i = 1) else if k = 2 then inR i else if k = 3 then Lib.validD s
    else if k = 4 then (match n with
      | 0 => false
      | n + 1 => l.all (gd n))
    else if k = 5 then (match n with
      | 0 => false
      | n + 1 => p.all (fun q => Lib.validD q.1 && gd n q.2) && onc (p.map (·.1)))
    else false)
theorem rng_d {n : Int} {w : World} : Calls Tryz.prog 54 #[.int .i64 n] w fun e w' => e = .returned (.bool (inR n)) ∧ w' = w := by
  by_cases h1 : -9007199254740991 ≤ n
  · by_cases h2 : n ≤ 9007199254740991
    · have e : inR n = true := decide_eq_true ⟨h1, h2⟩
      rw [e]
      have d1 : decide ((-9007199254740991 : Int) ≤ n) = true := decide_eq_true h1
      have d2 : decide (n ≤ 9007199254740991) = true := decide_eq_true h2
      go_enter Tryz.func54, Tryz.ntmps54
      go_wp2
      go_ret
      exact ⟨rfl, rfl⟩
    · have e : inR n = false := decide_eq_false fun h => h2 h.2
      rw [e]
      have d1 : decide ((-9007199254740991 : Int) ≤ n) = true := decide_eq_true h1
      have d2 : decide (n ≤ 9007199254740991) = false := decide_eq_false h2
      go_enter Tryz.func54, Tryz.ntmps54
      go_wp2
      go_ret
      exact ⟨rfl, rfl⟩
  · have e : inR n = false := decide_eq_false fun h => h1 h.1
    rw [e]
    have d1 : decide ((-9007199254740991 : Int) ≤ n) = false := decide_eq_false h1
    go_enter Tryz.func54, Tryz.ntmps54
    go_wp2
    go_ret
    exact ⟨rfl, rfl⟩
theorem RwA.slc {F : Nat → Prop} {w : World} {e : TypeId} {z : Nat} {v : Value} {cs : List (List Value)} (h : RwA F w e z v cs) : ∃ a cap, v = .slice a cs.length cap := by
  obtain ⟨_, ⟨a, cap, h1, h2⟩ | ⟨b, o, cap, cur, fz, h1, _⟩⟩ := h
  · exact ⟨a, cap, by rw [h1, h2]; rfl⟩
  · exact ⟨_, cap, h1⟩
theorem st_no {s : List UInt8} : (st s).toList = [] ↔ s = [] := by
  have h := st_eq s []
  have e : (st []).toList = [] := by kernel_rfl
  rw [e] at h
  by_cases hs : s = []
  · subst hs; simp [e]
  · rw [decide_eq_false hs] at h
    simp only [hs, iff_false]
    intro h2
    rw [h2] at h
    cases h
theorem kinds (k : Int) : k = 1 ∨ k = 2 ∨ k = 3 ∨ k = 4 ∨ k = 5 ∨ (k ≠ 1 ∧ k ≠ 2 ∧ k ≠ 3 ∧ k ≠ 4 ∧ k ≠ 5) := by omega
set_option maxHeartbeats 8000000 in
set_option maxRecDepth 100000 in
theorem spare_1 {i : Int} {s : List UInt8} {sa pa : Option Addr} {nl np sc pc : Nat} {w : World} : Calls Tryz.prog 53 #[.agg #[.int .i64 1, .int .i64 i, .string (st s), .slice sa nl sc, .slice pa np pc]] w fun e w' => e = .returned (.bool (spB 1 i s nl np)) ∧ Below w.heap.size w w' := by
  obtain ⟨B, hB⟩ : ∃ B, Hid (B = spB 1 i s nl np) := ⟨_, hide1 rfl⟩
  rw [← hB.out]
  have hbl : Hid (Below w.heap.size w (w.alloc (.cells #[.int .i64 (1), .int .i64 i, .string (st s), .slice sa nl sc, .slice pa np pc] 28))) := hide1 ((Below.refl _ _).alloc (Nat.le_refl _) _)
  by_cases hi : i = 0
  · have di : (i != 0) = false := by simpa using hi
    by_cases hs : s = []
    · have ds : (st s).toList = [] := st_no.2 hs
      by_cases hl : nl = 0
      · have dl : ¬ 0 < nl := by omega
        by_cases hp : np = 0
        · have dp : ¬ 0 < np := by omega
          have hE : Hid (B = false) := hide1 (hB.out.trans (spB_f (by omega) (fun h => h.1 hs) (by omega) (by omega)))
          clear hB hi hs hl hp
          go_enter Tryz.func53, Tryz.ntmps53
          go_wp2
          go_ret
          exact ⟨by rw [hE.out]; rfl, hbl.out⟩
        · have dp : 0 < np := by omega
          have hE : Hid (B = true) := hide1 (hB.out.trans (spB_4 ⟨by omega, by omega⟩))
          clear hB hi hs hl hp
          go_enter Tryz.func53, Tryz.ntmps53
          go_wp2
          go_ret
          exact ⟨by rw [hE.out]; rfl, hbl.out⟩
      · have dl : 0 < nl := by omega
        have hE : Hid (B = true) := hide1 (hB.out.trans (spB_3 ⟨by omega, by omega⟩))
        clear hB hi hs hl
        go_enter Tryz.func53, Tryz.ntmps53
        go_wp2
        go_ret
        exact ⟨by rw [hE.out]; rfl, hbl.out⟩
    · have ds : ¬ (st s).toList = [] := fun h => hs (st_no.1 h)
      have hE : Hid (B = true) := hide1 (hB.out.trans (spB_2 ⟨hs, by omega⟩))
      clear hB hi hs
      go_enter Tryz.func53, Tryz.ntmps53
      go_wp2
      go_ret
      exact ⟨by rw [hE.out]; rfl, hbl.out⟩
  · have di : (i != 0) = true := by simpa using hi
    by_cases hs : s = []
    · have ds : (st s).toList = [] := st_no.2 hs
      by_cases hl : nl = 0
      · have dl : ¬ 0 < nl := by omega
        by_cases hp : np = 0
        · have dp : ¬ 0 < np := by omega
          have hE : Hid (B = false) := hide1 (hB.out.trans (spB_f (by omega) (fun h => h.1 hs) (by omega) (by omega)))
          clear hB hi hs hl hp
          go_enter Tryz.func53, Tryz.ntmps53
          go_wp2
          go_ret
          exact ⟨by rw [hE.out]; rfl, hbl.out⟩
        · have dp : 0 < np := by omega
          have hE : Hid (B = true) := hide1 (hB.out.trans (spB_4 ⟨by omega, by omega⟩))
          clear hB hi hs hl hp
          go_enter Tryz.func53, Tryz.ntmps53
          go_wp2
          go_ret
          exact ⟨by rw [hE.out]; rfl, hbl.out⟩
      · have dl : 0 < nl := by omega
        have hE : Hid (B = true) := hide1 (hB.out.trans (spB_3 ⟨by omega, by omega⟩))
        clear hB hi hs hl
        go_enter Tryz.func53, Tryz.ntmps53
        go_wp2
        go_ret
        exact ⟨by rw [hE.out]; rfl, hbl.out⟩
    · have ds : ¬ (st s).toList = [] := fun h => hs (st_no.1 h)
      have hE : Hid (B = true) := hide1 (hB.out.trans (spB_2 ⟨hs, by omega⟩))
      clear hB hi hs
      go_enter Tryz.func53, Tryz.ntmps53
      go_wp2
      go_ret
      exact ⟨by rw [hE.out]; rfl, hbl.out⟩
set_option maxHeartbeats 8000000 in
set_option maxRecDepth 100000 in
theorem spare_2 {i : Int} {s : List UInt8} {sa pa : Option Addr} {nl np sc pc : Nat} {w : World} : Calls Tryz.prog 53 #[.agg #[.int .i64 2, .int .i64 i, .string (st s), .slice sa nl sc, .slice pa np pc]] w fun e w' => e = .returned (.bool (spB 2 i s nl np)) ∧ Below w.heap.size w w' := by
  obtain ⟨B, hB⟩ : ∃ B, Hid (B = spB 2 i s nl np) := ⟨_, hide1 rfl⟩
  rw [← hB.out]
  have hbl : Hid (Below w.heap.size w (w.alloc (.cells #[.int .i64 (2), .int .i64 i, .string (st s), .slice sa nl sc, .slice pa np pc] 28))) := hide1 ((Below.refl _ _).alloc (Nat.le_refl _) _)
  by_cases hi : i = 0
  · have di : (i != 0) = false := by simpa using hi
    by_cases hs : s = []
    · have ds : (st s).toList = [] := st_no.2 hs
      by_cases hl : nl = 0
      · have dl : ¬ 0 < nl := by omega
        by_cases hp : np = 0
        · have dp : ¬ 0 < np := by omega
          have hE : Hid (B = false) := hide1 (hB.out.trans (spB_f (by omega) (fun h => h.1 hs) (by omega) (by omega)))
          clear hB hi hs hl hp
          go_enter Tryz.func53, Tryz.ntmps53
          go_wp2
          go_ret
          exact ⟨by rw [hE.out]; rfl, hbl.out⟩
        · have dp : 0 < np := by omega
          have hE : Hid (B = true) := hide1 (hB.out.trans (spB_4 ⟨by omega, by omega⟩))
          clear hB hi hs hl hp
          go_enter Tryz.func53, Tryz.ntmps53
          go_wp2
          go_ret
          exact ⟨by rw [hE.out]; rfl, hbl.out⟩
      · have dl : 0 < nl := by omega
        have hE : Hid (B = true) := hide1 (hB.out.trans (spB_3 ⟨by omega, by omega⟩))
        clear hB hi hs hl
        go_enter Tryz.func53, Tryz.ntmps53
        go_wp2
        go_ret
        exact ⟨by rw [hE.out]; rfl, hbl.out⟩
    · have ds : ¬ (st s).toList = [] := fun h => hs (st_no.1 h)
      have hE : Hid (B = true) := hide1 (hB.out.trans (spB_2 ⟨hs, by omega⟩))
      clear hB hi hs
      go_enter Tryz.func53, Tryz.ntmps53
      go_wp2
      go_ret
      exact ⟨by rw [hE.out]; rfl, hbl.out⟩
  · have di : (i != 0) = true := by simpa using hi
    by_cases hs : s = []
    · have ds : (st s).toList = [] := st_no.2 hs
      by_cases hl : nl = 0
      · have dl : ¬ 0 < nl := by omega
        by_cases hp : np = 0
        · have dp : ¬ 0 < np := by omega
          have hE : Hid (B = false) := hide1 (hB.out.trans (spB_f (by omega) (fun h => h.1 hs) (by omega) (by omega)))
          clear hB hi hs hl hp
          go_enter Tryz.func53, Tryz.ntmps53
          go_wp2
          go_ret
          exact ⟨by rw [hE.out]; rfl, hbl.out⟩
        · have dp : 0 < np := by omega
          have hE : Hid (B = true) := hide1 (hB.out.trans (spB_4 ⟨by omega, by omega⟩))
          clear hB hi hs hl hp
          go_enter Tryz.func53, Tryz.ntmps53
          go_wp2
          go_ret
          exact ⟨by rw [hE.out]; rfl, hbl.out⟩
      · have dl : 0 < nl := by omega
        have hE : Hid (B = true) := hide1 (hB.out.trans (spB_3 ⟨by omega, by omega⟩))
        clear hB hi hs hl
        go_enter Tryz.func53, Tryz.ntmps53
        go_wp2
        go_ret
        exact ⟨by rw [hE.out]; rfl, hbl.out⟩
    · have ds : ¬ (st s).toList = [] := fun h => hs (st_no.1 h)
      have hE : Hid (B = true) := hide1 (hB.out.trans (spB_2 ⟨hs, by omega⟩))
      clear hB hi hs
      go_enter Tryz.func53, Tryz.ntmps53
      go_wp2
      go_ret
      exact ⟨by rw [hE.out]; rfl, hbl.out⟩
set_option maxHeartbeats 8000000 in
set_option maxRecDepth 100000 in
theorem spare_3 {i : Int} {s : List UInt8} {sa pa : Option Addr} {nl np sc pc : Nat} {w : World} : Calls Tryz.prog 53 #[.agg #[.int .i64 3, .int .i64 i, .string (st s), .slice sa nl sc, .slice pa np pc]] w fun e w' => e = .returned (.bool (spB 3 i s nl np)) ∧ Below w.heap.size w w' := by
  obtain ⟨B, hB⟩ : ∃ B, Hid (B = spB 3 i s nl np) := ⟨_, hide1 rfl⟩
  rw [← hB.out]
  have hbl : Hid (Below w.heap.size w (w.alloc (.cells #[.int .i64 (3), .int .i64 i, .string (st s), .slice sa nl sc, .slice pa np pc] 28))) := hide1 ((Below.refl _ _).alloc (Nat.le_refl _) _)
  by_cases hi : i = 0
  · have di : (i != 0) = false := by simpa using hi
    by_cases hs : s = []
    · have ds : (st s).toList = [] := st_no.2 hs
      by_cases hl : nl = 0
      · have dl : ¬ 0 < nl := by omega
        by_cases hp : np = 0
        · have dp : ¬ 0 < np := by omega
          have hE : Hid (B = false) := hide1 (hB.out.trans (spB_f (by omega) (fun h => h.1 hs) (by omega) (by omega)))
          clear hB hi hs hl hp
          go_enter Tryz.func53, Tryz.ntmps53
          go_wp2
          go_ret
          exact ⟨by rw [hE.out]; rfl, hbl.out⟩
        · have dp : 0 < np := by omega
          have hE : Hid (B = true) := hide1 (hB.out.trans (spB_4 ⟨by omega, by omega⟩))
          clear hB hi hs hl hp
          go_enter Tryz.func53, Tryz.ntmps53
          go_wp2
          go_ret
          exact ⟨by rw [hE.out]; rfl, hbl.out⟩
      · have dl : 0 < nl := by omega
        have hE : Hid (B = true) := hide1 (hB.out.trans (spB_3 ⟨by omega, by omega⟩))
        clear hB hi hs hl
        go_enter Tryz.func53, Tryz.ntmps53
        go_wp2
        go_ret
        exact ⟨by rw [hE.out]; rfl, hbl.out⟩
    · have ds : ¬ (st s).toList = [] := fun h => hs (st_no.1 h)
      by_cases hl : nl = 0
      · have dl : ¬ 0 < nl := by omega
        by_cases hp : np = 0
        · have dp : ¬ 0 < np := by omega
          have hE : Hid (B = false) := hide1 (hB.out.trans (spB_f (by omega) (fun h => h.2 rfl) (by omega) (by omega)))
          clear hB hi hs hl hp
          go_enter Tryz.func53, Tryz.ntmps53
          go_wp2
          go_ret
          exact ⟨by rw [hE.out]; rfl, hbl.out⟩
        · have dp : 0 < np := by omega
          have hE : Hid (B = true) := hide1 (hB.out.trans (spB_4 ⟨by omega, by omega⟩))
          clear hB hi hs hl hp
          go_enter Tryz.func53, Tryz.ntmps53
          go_wp2
          go_ret
          exact ⟨by rw [hE.out]; rfl, hbl.out⟩
      · have dl : 0 < nl := by omega
        have hE : Hid (B = true) := hide1 (hB.out.trans (spB_3 ⟨by omega, by omega⟩))
        clear hB hi hs hl
        go_enter Tryz.func53, Tryz.ntmps53
        go_wp2
        go_ret
        exact ⟨by rw [hE.out]; rfl, hbl.out⟩
  · have di : (i != 0) = true := by simpa using hi
    have hE : Hid (B = true) := hide1 (hB.out.trans (spB_1 ⟨hi, by omega, by omega⟩))
    clear hB hi
    go_enter Tryz.func53, Tryz.ntmps53
    go_wp2
    go_ret
    exact ⟨by rw [hE.out]; rfl, hbl.out⟩
set_option maxHeartbeats 8000000 in
set_option maxRecDepth 100000 in
theorem spare_4 {i : Int} {s : List UInt8} {sa pa : Option Addr} {nl np sc pc : Nat} {w : World} : Calls Tryz.prog 53 #[.agg #[.int .i64 4, .int .i64 i, .string (st s), .slice sa nl sc, .slice pa np pc]] w fun e w' => e = .returned (.bool (spB 4 i s nl np)) ∧ Below w.heap.size w w' := by
  obtain ⟨B, hB⟩ : ∃ B, Hid (B = spB 4 i s nl np) := ⟨_, hide1 rfl⟩
  rw [← hB.out]
  have hbl : Hid (Below w.heap.size w (w.alloc (.cells #[.int .i64 (4), .int .i64 i, .string (st s), .slice sa nl sc, .slice pa np pc] 28))) := hide1 ((Below.refl _ _).alloc (Nat.le_refl _) _)
  by_cases hi : i = 0
  · have di : (i != 0) = false := by simpa using hi
    by_cases hs : s = []
    · have ds : (st s).toList = [] := st_no.2 hs
      by_cases hl : nl = 0
      · have dl : ¬ 0 < nl := by omega
        by_cases hp : np = 0
        · have dp : ¬ 0 < np := by omega
          have hE : Hid (B = false) := hide1 (hB.out.trans (spB_f (by omega) (fun h => h.1 hs) (by omega) (by omega)))
          clear hB hi hs hl hp
          go_enter Tryz.func53, Tryz.ntmps53
          go_wp2
          go_ret
          exact ⟨by rw [hE.out]; rfl, hbl.out⟩
        · have dp : 0 < np := by omega
          have hE : Hid (B = true) := hide1 (hB.out.trans (spB_4 ⟨by omega, by omega⟩))
          clear hB hi hs hl hp
          go_enter Tryz.func53, Tryz.ntmps53
          go_wp2
          go_ret
          exact ⟨by rw [hE.out]; rfl, hbl.out⟩
      · have dl : 0 < nl := by omega
        by_cases hp : np = 0
        · have dp : ¬ 0 < np := by omega
          have hE : Hid (B = false) := hide1 (hB.out.trans (spB_f (by omega) (fun h => h.1 hs) (by omega) (by omega)))
          clear hB hi hs hl hp
          go_enter Tryz.func53, Tryz.ntmps53
          go_wp2
          go_ret
          exact ⟨by rw [hE.out]; rfl, hbl.out⟩
        · have dp : 0 < np := by omega
          have hE : Hid (B = true) := hide1 (hB.out.trans (spB_4 ⟨by omega, by omega⟩))
          clear hB hi hs hl hp
          go_enter Tryz.func53, Tryz.ntmps53
          go_wp2
          go_ret
          exact ⟨by rw [hE.out]; rfl, hbl.out⟩
    · have ds : ¬ (st s).toList = [] := fun h => hs (st_no.1 h)
      have hE : Hid (B = true) := hide1 (hB.out.trans (spB_2 ⟨hs, by omega⟩))
      clear hB hi hs
      go_enter Tryz.func53, Tryz.ntmps53
      go_wp2
      go_ret
      exact ⟨by rw [hE.out]; rfl, hbl.out⟩
  · have di : (i != 0) = true := by simpa using hi
    have hE : Hid (B = true) := hide1 (hB.out.trans (spB_1 ⟨hi, by omega, by omega⟩))
    clear hB hi
    go_enter Tryz.func53, Tryz.ntmps53
    go_wp2
    go_ret
    exact ⟨by rw [hE.out]; rfl, hbl.out⟩
set_option maxHeartbeats 8000000 in
set_option maxRecDepth 100000 in
theorem spare_5 {i : Int} {s : List UInt8} {sa pa : Option Addr} {nl np sc pc : Nat} {w : World} : Calls Tryz.prog 53 #[.agg #[.int .i64 5, .int .i64 i, .string (st s), .slice sa nl sc, .slice pa np pc]] w fun e w' => e = .returned (.bool (spB 5 i s nl np)) ∧ Below w.heap.size w w' := by
  obtain ⟨B, hB⟩ : ∃ B, Hid (B = spB 5 i s nl np) := ⟨_, hide1 rfl⟩
  rw [← hB.out]
  have hbl : Hid (Below w.heap.size w (w.alloc (.cells #[.int .i64 (5), .int .i64 i, .string (st s), .slice sa nl sc, .slice pa np pc] 28))) := hide1 ((Below.refl _ _).alloc (Nat.le_refl _) _)
  by_cases hi : i = 0
  · have di : (i != 0) = false := by simpa using hi
    by_cases hs : s = []
    · have ds : (st s).toList = [] := st_no.2 hs
      by_cases hl : nl = 0
      · have dl : ¬ 0 < nl := by omega
        by_cases hp : np = 0
        · have dp : ¬ 0 < np := by omega
          have hE : Hid (B = false) := hide1 (hB.out.trans (spB_f (by omega) (fun h => h.1 hs) (by omega) (by omega)))
          clear hB hi hs hl hp
          go_enter Tryz.func53, Tryz.ntmps53
          go_wp2
          go_ret
          exact ⟨by rw [hE.out]; rfl, hbl.out⟩
        · have dp : 0 < np := by omega
          have hE : Hid (B = false) := hide1 (hB.out.trans (spB_f (by omega) (fun h => h.1 hs) (by omega) (by omega)))
          clear hB hi hs hl hp
          go_enter Tryz.func53, Tryz.ntmps53
          go_wp2
          go_ret
          exact ⟨by rw [hE.out]; rfl, hbl.out⟩
      · have dl : 0 < nl := by omega
        have hE : Hid (B = true) := hide1 (hB.out.trans (spB_3 ⟨by omega, by omega⟩))
        clear hB hi hs hl
        go_enter Tryz.func53, Tryz.ntmps53
        go_wp2
        go_ret
        exact ⟨by rw [hE.out]; rfl, hbl.out⟩
    · have ds : ¬ (st s).toList = [] := fun h => hs (st_no.1 h)
      have hE : Hid (B = true) := hide1 (hB.out.trans (spB_2 ⟨hs, by omega⟩))
      clear hB hi hs
      go_enter Tryz.func53, Tryz.ntmps53
      go_wp2
      go_ret
      exact ⟨by rw [hE.out]; rfl, hbl.out⟩
  · have di : (i != 0) = true := by simpa using hi
    have hE : Hid (B = true) := hide1 (hB.out.trans (spB_1 ⟨hi, by omega, by omega⟩))
    clear hB hi
    go_enter Tryz.func53, Tryz.ntmps53
    go_wp2
    go_ret
    exact ⟨by rw [hE.out]; rfl, hbl.out⟩
set_option maxHeartbeats 8000000 in
set_option maxRecDepth 100000 in
theorem spare_o {k i : Int} {s : List UInt8} {sa pa : Option Addr} {nl np sc pc : Nat} {w : World} (k1 : k ≠ 1) (k2 : k ≠ 2) (k3 : k ≠ 3) (k4 : k ≠ 4) (k5 : k ≠ 5) : Calls Tryz.prog 53 #[.agg #[.int .i64 k, .int .i64 i, .string (st s), .slice sa nl sc, .slice pa np pc]] w fun e w' => e = .returned (.bool (spB k i s nl np)) ∧ Below w.heap.size w w' := by
  obtain ⟨B, hB⟩ : ∃ B, Hid (B = spB k i s nl np) := ⟨_, hide1 rfl⟩
  rw [← hB.out]
  have hbl : Hid (Below w.heap.size w (w.alloc (.cells #[.int .i64 k, .int .i64 i, .string (st s), .slice sa nl sc, .slice pa np pc] 28))) := hide1 ((Below.refl _ _).alloc (Nat.le_refl _) _)
  have d1 : (k != 1) = true := by simpa using k1
  have d2 : (k != 2) = true := by simpa using k2
  have d3 : (k != 3) = true := by simpa using k3
  have d4 : (k != 4) = true := by simpa using k4
  have d5 : (k != 5) = true := by simpa using k5
  by_cases hi : i = 0
  · have di : (i != 0) = false := by simpa using hi
    by_cases hs : s = []
    · have ds : (st s).toList = [] := st_no.2 hs
      by_cases hl : nl = 0
      · have dl : ¬ 0 < nl := by omega
        by_cases hp : np = 0
        · have dp : ¬ 0 < np := by omega
          have hE : Hid (B = false) := hide1 (hB.out.trans (spB_f (by omega) (fun h => h.1 hs) (by omega) (by omega)))
          clear hB hi hs hl hp
          go_enter Tryz.func53, Tryz.ntmps53
          go_wp2
          go_ret
          exact ⟨by rw [hE.out]; rfl, hbl.out⟩
        · have dp : 0 < np := by omega
          have hE : Hid (B = true) := hide1 (hB.out.trans (spB_4 ⟨by omega, by omega⟩))
          clear hB hi hs hl hp
          go_enter Tryz.func53, Tryz.ntmps53
          go_wp2
          go_ret
          exact ⟨by rw [hE.out]; rfl, hbl.out⟩
      · have dl : 0 < nl := by omega
        have hE : Hid (B = true) := hide1 (hB.out.trans (spB_3 ⟨by omega, by omega⟩))
        clear hB hi hs hl
        go_enter Tryz.func53, Tryz.ntmps53
        go_wp2
        go_ret
        exact ⟨by rw [hE.out]; rfl, hbl.out⟩
    · have ds : ¬ (st s).toList = [] := fun h => hs (st_no.1 h)
      have hE : Hid (B = true) := hide1 (hB.out.trans (spB_2 ⟨hs, by omega⟩))
      clear hB hi hs
      go_enter Tryz.func53, Tryz.ntmps53
      go_wp2
      go_ret
      exact ⟨by rw [hE.out]; rfl, hbl.out⟩
  · have di : (i != 0) = true := by simpa using hi
    have hE : Hid (B = true) := hide1 (hB.out.trans (spB_1 ⟨hi, by omega, by omega⟩))
    clear hB hi
    go_enter Tryz.func53, Tryz.ntmps53
    go_wp2
    go_ret
    exact ⟨by rw [hE.out]; rfl, hbl.out⟩
theorem spare_d {k i : Int} {s : List UInt8} {sa pa : Option Addr} {nl np sc pc : Nat} {w : World} : Calls Tryz.prog 53 #[.agg #[.int .i64 k, .int .i64 i, .string (st s), .slice sa nl sc, .slice pa np pc]] w fun e w' => e = .returned (.bool (spB k i s nl np)) ∧ Below w.heap.size w w' := by
  rcases kinds k with rfl | rfl | rfl | rfl | rfl | ⟨k1, k2, k3, k4, k5⟩
  · exact spare_1
  · exact spare_2
  · exact spare_3
  · exact spare_4
  · exact spare_5
  · exact spare_o k1 k2 k3 k4 k5
def AnI (w : World) (b : Bool) (e : Ending) (w' : World) : Prop := ∃ n : Int, e = .returned (.int .i64 n) ∧ (decide (n ≥ 0) = b) ∧ -1 ≤ n ∧ n ≤ 1000000 ∧ Below w.heap.size w w'
theorem any_take {f : T → Bool} {l : List T} {i : Nat} {u : T} (hu : l[i]? = some u) (h : (l.take i).any f = false) : (l.take (i + 1)).any f = f u := by
  rw [List.take_add_one, hu, List.any_append, h]
  simp
theorem any_of {f : T → Bool} {l : List T} {i : Nat} (h : (l.take i).any f = true) : l.any f = true := by
  rw [← List.take_append_drop i l, List.any_append, h]; rfl
set_option maxHeartbeats 8000000 in
set_option maxRecDepth 100000 in
theorem idx_d {K : Nat} {cap : Array Value} (he : ∀ args w, (callFunc K args).run Tryz.prog w = .ok (.enter K args) w) {f : T → Bool} {F : Nat → Prop} {w : World} {v : Value} {l : List T} {cl : List (List Value)} (r : RwA F w Vt 5 v cl) (hl : cl.length = l.length) (hb : cl.length ≤ 1000000)
    (hf : ∀ w', Below w.heap.size w w' → ∀ (j : Nat) (t : T) (c : List Value), l[j]? = some t → cl[j]? = some c → Calls Tryz.prog K (#[.agg c.toArray] ++ cap) w' fun e w2 => e = .returned (.bool (f t)) ∧ Below w'.heap.size w' w2) :
    Calls Tryz.prog 115 #[v, .func (.func K) #[] cap] w (AnI w (l.any f)) := by
  obtain ⟨sa, sc, rfl⟩ := r.slc
  replace r := hide1 r
  replace hf := hide1 hf
  replace hl := hide1 hl
  obtain ⟨B, hB⟩ : ∃ B, Hid (B = l.any f) := ⟨_, hide1 rfl⟩
  rw [← hB.out]
  go_enter Tryz.func115, Tryz.ntmps115
  go_wp2_with fail
  go_loopw [8] (fun x wr => ∃ i : Nat, x = .int .i64 (i : Nat) ∧ i ≤ cl.length ∧ Hid ((l.take i).any f = false) ∧ Hid (Below w.heap.size w wr)) (fun x _ => cl.length - (intOf x).toNat)
  case atStart => exact ⟨0, rfl, by omega, hide1 rfl, hide1 (Below.refl _ _)⟩
  case round =>
    obtain ⟨i, rfl, hin, hme, hbw⟩ := hrel
    by_cases hlt : i < cl.length
    · obtain ⟨x, hx⟩ : ∃ x, cl[i]? = some x := ⟨_, List.getElem?_eq_getElem hlt⟩
      obtain ⟨u, hu⟩ : ∃ u, l[i]? = some u := ⟨_, List.getElem?_eq_getElem (by have := hl.out; omega)⟩
      obtain ⟨b, o, cap', hve, -, hbl, hr⟩ := r.out.at hx
      have hva : sa = some ⟨b, o, none⟩ := by cases hve; rfl
      subst hva
      have hx5 := r.out.1 x (List.mem_of_getElem? hx)
      obtain ⟨x0, x1, x2, x3, x4, rfl⟩ : ∃ x0 x1 x2 x3 x4, x = [x0, x1, x2, x3, x4] := by
        match x, hx5 with
        | [x0, x1, x2, x3, x4], _ => exact ⟨x0, x1, x2, x3, x4, rfl⟩
      have hr2 : wr.rangeAt b (o + i * 5) [x0, x1, x2, x3, x4] := fun j v hj => by
        rw [World.cell?_of_block (w := w) (hbw.out.block b hbl)]
        exact hr j v hj
      have hc := hf.out wr hbw.out i u _ hu hx
      have hms := hide1 (any_take hu hme.out)
      clear hve hr hx hx5 hme hu
      go_wp2_with (refine wpList_load_mid rfl 28 (.tmp 14) rfl b (o + i * 5) rfl [x0, x1, x2, x3, x4] _ hr2 Tryz.underlying28 rfl (by kernel_rfl) ?_)
      refine hc.mono ?_
      rintro e w2 ⟨rfl, b2⟩
      have hb2 := hide1 (hbw.out.trans (b2.mono hbw.out.size))
      clear hc b2 hbw hr2
      cases hq : f u with
      | true =>
        have hfin : Hid (AnI w B (.returned (.int .i64 (i : Nat))) w2) := hide1 ⟨i, rfl, by rw [hB.out, any_of (hms.out.trans hq)]; exact decide_eq_true (by omega), by omega, by omega, hb2.out⟩
        clear hms hq hB
        go_wp2
        go_ret
        exact hfin.out
      | false =>
        replace hms := hide1 (hms.out.trans hq)
        clear hq
        go_wp2
        go_roundw
        case rel => exact ⟨i + 1, rfl, by omega, hms, hb2⟩
        case measure => simp [intOf]; omega
    · have hfin : Hid (AnI w B (.returned (.int .i64 (-1))) wr) := hide1 ⟨-1, rfl, by
        rw [hB.out]
        have := hme.out
        rw [List.take_of_length_le (by have := hl.out; omega)] at this
        rw [this]; rfl, by omega, by omega, hbw.out⟩
      have hie : i = cl.length := by omega
      subst hie
      clear hme hbw hlt hB
      go_wp2
      go_ret
      exact hfin.out
theorem cont_d {K : Nat} {cap : Array Value} (he : ∀ args w, (callFunc K args).run Tryz.prog w = .ok (.enter K args) w) {f : T → Bool} {F : Nat → Prop} {w : World} {v : Value} {l : List T} {cl : List (List Value)} (r : RwA F w Vt 5 v cl) (hl : cl.length = l.length) (hb : cl.length ≤ 1000000)
    (hf : ∀ w', Below w.heap.size w w' → ∀ (j : Nat) (t : T) (c : List Value), l[j]? = some t → cl[j]? = some c → Calls Tryz.prog K (#[.agg c.toArray] ++ cap) w' fun e w2 => e = .returned (.bool (f t)) ∧ Below w'.heap.size w' w2) :
    Calls Tryz.prog 92 #[v, .func (.func K) #[] cap] w fun e w' => e = .returned (.bool (l.any f)) ∧ Below w.heap.size w w' := by
  have hi := idx_d he r hl hb hf
  clear r hf hl hb
  generalize l.any f = B at *
  go_enter Tryz.func92, Tryz.ntmps92
  go_wp2_with fail
  refine hi.mono ?_
  rintro e w1 ⟨n, rfl, hn, _, _, b1⟩
  replace b1 := hide1 b1
  clear hi
  cases B with
  | true =>
    have hn' : n ≥ 0 := of_decide_eq_true hn
    go_wp2
    go_ret
    exact ⟨rfl, b1.out⟩
  | false =>
    have hn' : ¬ n ≥ 0 := of_decide_eq_false hn
    go_wp2
    go_ret
    exact ⟨rfl, b1.out⟩
def Sok (n : Nat) : Prop := ∀ {F : Nat → Prop} {w : World} {t : T} {c : List Value} {h : Nat}, hgt h t → sbd h t → VA F w t c → Ev w → 8 ≤ w.heap.size → Calls Tryz.prog 34 #[.agg c.toArray, .int .i64 (8 - n : Nat)] w fun e w' => e = .returned (.bool (gd n t)) ∧ Below w.heap.size w w'
theorem snd1_d {n h b : Nat} (ih : Sok n) {F : Nat → Prop} {w : World} {t : T} {c : List Value} (hh : hgt h t) (hs : sbd h t) (hv : VA F w t c) (hT : Ev w) (h8 : 8 ≤ w.heap.size) (hb : w.heap[b]? = some (.cells #[.int .i64 (8 - n : Nat)] 3 (0, 0))) :
    Calls Tryz.prog 93 (#[.agg c.toArray] ++ #[.pointer (some ⟨b, 0, none⟩)]) w fun e w' => e = .returned (.bool (!gd n t)) ∧ Below w.heap.size w w' := by
  have hc5 := hv.len
  obtain ⟨y0, y1, y2, y3, y4, rfl⟩ := five_l hc5
  have hb0 : Below w.heap.size w (w.alloc (.cells #[y0, y1, y2, y3, y4] 28)) := (Below.refl _ _).alloc (Nat.le_refl _) _
  have hbl := (Array.getElem?_eq_some_iff.1 hb).1
  have hcb : (w.alloc (.cells #[y0, y1, y2, y3, y4] 28)).cell? ⟨b, 0, none⟩ = some (.int .i64 (8 - n : Nat)) := by
    have := (hb0.block b hbl).trans hb
    simp only [World.cell?, this]; rfl
  have hc := ih (c := [y0, y1, y2, y3, y4]) hh hs (hv.frame (fun j _ hj => hb0.block j hj) (fun _ h _ => h)) (hT.below hb0 (by omega)) (by have := hb0.size; omega)
  replace hb0 := hide1 hb0
  generalize gd n t = B at *
  generalize ((8 - n : Nat) : Int) = D at *
  clear hv hT hb hc5 ih hh hs
  show Calls Tryz.prog 93 #[.agg #[y0, y1, y2, y3, y4], .pointer (some ⟨b, 0, none⟩)] w _
  go_enter Tryz.func93, Tryz.ntmps93
  go_wp2_with fail
  refine hc.mono ?_
  rintro e w1 ⟨rfl, b1⟩
  replace b1 := hide1 (hb0.out.trans (b1.mono hb0.out.size))
  clear hc hb0
  go_wp2
  go_ret
  exact ⟨rfl, b1.out⟩
theorem any_all {f : T → Bool} : ∀ l : List T, (!l.any fun t => !f t) = l.all f
  | [] => rfl
  | a :: l => by
    have := any_all (f := f) l
    simp only [List.any_cons, List.all_cons]
    rw [← this]
    cases f a <;> simp
set_option maxRecDepth 100000 in
theorem sndL_d {n h : Nat} (ih : Sok n) {F : Nat → Prop} {w : World} {v : Value} {l : List T} {cl : List (List Value)} (r : RwA F w Vt 5 v cl) (hl : cl.length = l.length) (hb : cl.length ≤ 1000000) (hh : ∀ t ∈ l, hgt h t) (hs : ∀ t ∈ l, sbd h t)
    (hv : ∀ (j : Nat) (t : T) (c : List Value), l[j]? = some t → cl[j]? = some c → VA F w t c) (hT : Ev w) (h8 : 8 ≤ w.heap.size) :
    Calls Tryz.prog 56 #[v, .int .i64 (8 - n : Nat)] w fun e w' => e = .returned (.bool (l.all (gd n))) ∧ Below w.heap.size w w' := by
  obtain ⟨w1, hw1⟩ : ∃ w1, w1 = w.alloc (.cells #[.int .i64 (8 - n : Nat)] 3) := ⟨_, rfl⟩
  have hb0 : Below w.heap.size w w1 := by rw [hw1]; exact (Below.refl _ _).alloc (Nat.le_refl _) _
  have hbx : w1.heap[w.heap.size]? = some (.cells #[.int .i64 (8 - n : Nat)] 3 (0, 0)) := by
    rw [hw1]
    show (w.heap.push _)[w.heap.size]? = _
    rw [Array.getElem?_push, if_pos rfl]
  have hc := cont_d (K := 93) (cap := #[.pointer (some ⟨w.heap.size, 0, none⟩)]) (f := fun t => !gd n t) (fun _ _ => by kernel_rfl) (r.frame (w' := w1) (G := F) (fun j _ hj => hb0.block j hj) (fun _ h _ => h)) hl hb (fun w' hb' j t c h1 h2 =>
    snd1_d ih (hh t (List.mem_of_getElem? h1)) (hs t (List.mem_of_getElem? h1)) ((hv j t c h1 h2).frame (w' := w') (G := F) (fun k _ hk => (hb'.block k (Nat.lt_of_lt_of_le hk hb0.size)).trans (hb0.block k hk)) (fun _ h _ => h)) ((hT.below hb0 (by omega)).below hb' (by have := hb0.size; omega)) (by have := hb0.size; have := hb'.size; omega) ((hb'.block _ (Array.getElem?_eq_some_iff.1 hbx).1).trans hbx))
  have ha := any_all (f := gd n) l
  obtain ⟨sa, sc, rfl⟩ := r.slc
  replace hb0 := hide1 hb0
  rw [← ha]
  generalize (l.any fun t => !gd n t) = B at *
  generalize ((8 - n : Nat) : Int) = D at *
  clear ha r hh hs hv hT hbx ih hl
  go_enter Tryz.func56, Tryz.ntmps56
  go_wp2_with fail
  rw [← hw1]
  refine hc.mono ?_
  rintro e w2 ⟨rfl, b1⟩
  replace b1 := hide1 (hb0.out.trans (b1.mono hb0.out.size))
  clear hc hb0 hw1
  go_wp2
  go_ret
  exact ⟨rfl, b1.out⟩
end Go.Proofs.YtbemaloaobeblaaGreatDoor

namespace Go.Proofs.YtbemaloaobeblaaGreatDoor
open Go.RowKit Go.Shelf Go.Maps
attribute [local go_sem] Oper.semAt_some

theorem results_1b {fn : Func} {p : Tmp} (h : fn.results = #[.cell p 4]) (tmps : Array Value) {u : World} {b : Nat} {x : Bool} (ht : tmps.getD p undef = .pointer (some ⟨b, 0, none⟩)) (hc : u.heap[b]? = some (.cells #[.bool x] 4 (0, 0))) : (results fn tmps).run Tryz.prog u = .ok (.bool x) u := by
  have ht2 : tmps[p]?.getD undef = .pointer (some ⟨b, 0, none⟩) := by simpa using ht
  have hc2 : u.cell? ⟨b, 0, none⟩ = some (.bool x) := by simp only [World.cell?, hc]; rfl
  have hl2 : (loadVar 4 ⟨b, 0, none⟩).run Tryz.prog u = .ok (.bool x) u := by simp [go_sem, hc2]
  simp [results, h, ht2, asAddr, hl2]
structure Sb (w : World) (c : Array Value) (a : Int) (b : Bool) (W : World) : Prop where
  bw : Below w.heap.size w W
  b2 : W.heap[w.heap.size]? = some (.cells c 28 (0, 0))
  b3 : W.heap[w.heap.size + 1]? = some (.cells #[.int .i64 a] 3 (0, 0))
  b4 : W.heap[w.heap.size + 2]? = some (.cells #[.bool b] 4 (0, 0))
theorem Sb.later {w W W' : World} {c : Array Value} {a : Int} {b : Bool} (h : Sb w c a b W) (k : Below W.heap.size W W') : Sb w c a b W' :=
  ⟨h.bw.trans (k.mono h.bw.size), (k.block _ (Array.getElem?_eq_some_iff.1 h.b2).1).trans h.b2, (k.block _ (Array.getElem?_eq_some_iff.1 h.b3).1).trans h.b3, (k.block _ (Array.getElem?_eq_some_iff.1 h.b4).1).trans h.b4⟩
theorem Sb.own {w W W' : World} {c : Array Value} {a : Int} {b : Bool} {row : Option Nat} (h : Sb w c a b W) (hg : W.grownBy W' row) (hr : ∀ r, row = some r → ∃ o : Obj, W.heap[r]? = some o ∧ o.isCells = false ∧ w.heap.size ≤ r) : Sb w c a b W' := by
  have hne : ∀ j cc t, W.heap[j]? = some (.cells cc t (0, 0)) → some j ≠ row := fun j cc t hj e => by
    obtain ⟨o, ho, hc, _⟩ := hr j e.symm
    rw [hj] at ho; cases ho; cases hc
  refine ⟨⟨hg.os.trans h.bw.os, hg.tape.trans h.bw.tape, hg.output.trans h.bw.output, Nat.le_trans h.bw.size hg.size, fun j hj => (hg.block j (Nat.lt_of_lt_of_le hj h.bw.size) (fun e => ?_)).trans (h.bw.block j hj)⟩, (hg.block _ (Array.getElem?_eq_some_iff.1 h.b2).1 (hne _ _ _ h.b2)).trans h.b2, (hg.block _ (Array.getElem?_eq_some_iff.1 h.b3).1 (hne _ _ _ h.b3)).trans h.b3, (hg.block _ (Array.getElem?_eq_some_iff.1 h.b4).1 (hne _ _ _ h.b4)).trans h.b4⟩
  obtain ⟨o, ho, hc, hl⟩ := hr j e.symm
  omega
theorem all_snoc {f : List UInt8 × T → Bool} {qs : List (List UInt8 × T)} {k : Nat} {q : List UInt8 × T} (hq : qs[k]? = some q) (h : (qs.take k).all f = true) : (qs.take (k + 1)).all f = f q := by
  rw [List.take_add_one, hq, List.all_append, h]
  simp
theorem all_of {f : List UInt8 × T → Bool} {qs : List (List UInt8 × T)} {k : Nat} (h : (qs.take k).all f = false) : qs.all f = false := by
  rw [← List.take_append_drop k qs, List.all_append, h]; rfl
set_option maxRecDepth 100000 in
set_option maxHeartbeats 8000000 in
theorem sndP_in {n h : Nat} (ih : Sok n) {F : Nat → Prop} {w : World} {ki : Int} {s : List UInt8} {sl sp : Value} {p : List (List UInt8 × T)} {cp : List (List Value)} (r : RwA F w Pt 6 sp cp) (hl : cp.length = p.length) (hb : cp.length ≤ 1000000) (hh : ∀ q ∈ p, hgt h q.2) (hs : ∀ q ∈ p, q.1.length ≤ 9223372036854775807 ∧ sbd h q.2)
    (hv : ∀ (j : Nat) (q : List UInt8 × T) (c : List Value), p[j]? = some q → cp[j]? = some c → PA F w q c) (hT : Ev w) (h8 : 8 ≤ w.heap.size) :
    CallsIn Fence.wide 5 Tryz.prog 57 #[.agg #[.int .i64 5, .int .i64 ki, .string (st s), sl, sp], .int .i64 (8 - n : Nat)] w fun e w' => e = .returned (.bool (p.all (fun q => Lib.validD q.1 && gd n q.2) && onc (p.map (·.1)))) ∧ Below w.heap.size w w' := by
  obtain ⟨A, hA⟩ : ∃ A, Hid (A = p.all (fun q => Lib.validD q.1 && gd n q.2)) := ⟨_, hide1 rfl⟩
  obtain ⟨O, hO⟩ : ∃ O, Hid (O = onc (p.map (·.1))) := ⟨_, hide1 rfl⟩
  rw [← hA.out, ← hO.out]
  have hnmo : ∀ c ∈ cp, c.all (·.oneCell') = true := fun x hx => by
    obtain ⟨j, hj, rfl⟩ := List.mem_iff_getElem.1 hx
    have hj2 : j < p.length := by omega
    obtain ⟨g1, g2⟩ := hv j _ _ (List.getElem?_eq_getElem hj2) (List.getElem?_eq_getElem hj)
    have g3 := g2.one
    generalize cp[j] = x at *
    cases x with
    | nil => cases g1
    | cons a b =>
      simp at g1
      subst g1
      simpa [Value.oneCell'] using g3
  have hna : NmA F w sp cp (p.map (·.1)) := ⟨r, by simp [hl], fun j c s' h1 h2 => by
      rw [List.getElem?_map] at h2
      cases hq : p[j]? with
      | none => rw [hq] at h2; cases h2
      | some q =>
        rw [hq] at h2
        cases h2
        exact (hv j q c hq h1).1, fun s' hs' => by
      obtain ⟨q, hq, rfl⟩ := List.mem_map.1 hs'
      exact (hs q hq).1, hnmo⟩
  obtain ⟨pa, pc, rfl⟩ := r.slc
  refine callsIn_of_wp_marks Tryz.func57 rfl trivial ?_ rfl
  simp only [Tryz.ntmps57, List.size_toArray, List.length_cons, List.length_nil, Nat.reduceAdd, Nat.reduceSub, Array.replicate_succ, Array.replicate_zero, List.push_toArray, List.append_toArray, List.nil_append, List.cons_append]
  obtain ⟨D, hD⟩ : ∃ D, Hid (D = ((8 - n : Nat) : Int)) := ⟨_, hide1 rfl⟩
  rw [← hD.out]
  replace hv := hide1 hv
  replace hh := hide1 hh
  replace hs := hide1 hs
  replace hna := hide1 hna
  replace hl := hide1 hl
  gi_wp2
  refine ⟨trivial, (callsIn_wide.2 (pairs_d _ _)).mono ?_⟩
  rintro e W1 ⟨rfl, rfl⟩
  have hbw : Below w.heap.size w ((((w.alloc (.cells #[.int .i64 5, .int .i64 ki, .string (st s), sl, .slice pa cp.length pc] 28)).alloc (.cells #[.int .i64 D] 3)).alloc (.cells #[.bool false] 4)).alloc (.cells #[.int .i64 5, .int .i64 ki, .string (st s), sl, .slice pa cp.length pc] 28)) := blw_al (blw_al (blw_al (blw_al (Below.refl _ _) (Nat.le_refl _) _) (by simp) _) (by simp; omega) _) (by simp; omega) _
  have hsz : ((((w.alloc (.cells #[.int .i64 5, .int .i64 ki, .string (st s), sl, .slice pa cp.length pc] 28)).alloc (.cells #[.int .i64 D] 3)).alloc (.cells #[.bool false] 4)).alloc (.cells #[.int .i64 5, .int .i64 ki, .string (st s), sl, .slice pa cp.length pc] 28)).heap.size = w.heap.size + 4 := by simp
  have hG : Sb w #[.int .i64 5, .int .i64 ki, .string (st s), sl, .slice pa cp.length pc] D false ((((w.alloc (.cells #[.int .i64 5, .int .i64 ki, .string (st s), sl, .slice pa cp.length pc] 28)).alloc (.cells #[.int .i64 D] 3)).alloc (.cells #[.bool false] 4)).alloc (.cells #[.int .i64 5, .int .i64 ki, .string (st s), sl, .slice pa cp.length pc] 28)) := by
    refine ⟨hbw, ?_, ?_, ?_⟩
    · show ((((w.heap.push _).push _).push _).push _)[w.heap.size]? = _
      rw [Array.getElem?_push, if_neg (by simp; omega), Array.getElem?_push, if_neg (by simp; omega), Array.getElem?_push, if_neg (by simp), Array.getElem?_push, if_pos (by simp)]
    · show ((((w.heap.push _).push _).push _).push _)[w.heap.size + 1]? = _
      rw [Array.getElem?_push, if_neg (by simp), Array.getElem?_push, if_neg (by simp), Array.getElem?_push, if_pos (by simp)]
    · show ((((w.heap.push _).push _).push _).push _)[w.heap.size + 2]? = _
      rw [Array.getElem?_push, if_neg (by simp), Array.getElem?_push, if_pos (by simp)]
  have hbx : ((((w.alloc (.cells #[.int .i64 5, .int .i64 ki, .string (st s), sl, .slice pa cp.length pc] 28)).alloc (.cells #[.int .i64 D] 3)).alloc (.cells #[.bool false] 4)).alloc (.cells #[.int .i64 5, .int .i64 ki, .string (st s), sl, .slice pa cp.length pc] 28)).heap[w.heap.size + 3]? = some (.cells #[.int .i64 5, .int .i64 ki, .string (st s), sl, .slice pa cp.length pc] 28 (0, 0)) := by
    show ((((w.heap.push _).push _).push _).push _)[w.heap.size + 3]? = _
    rw [Array.getElem?_push, if_pos (by simp)]
  have hsq := pairs_seq hb r hnmo hbw hbx
  gi_wp2
  generalize ((((w.alloc (.cells #[.int .i64 5, .int .i64 ki, .string (st s), sl, .slice pa cp.length pc] 28)).alloc (.cells #[.int .i64 D] 3)).alloc (.cells #[.bool false] 4)).alloc (.cells #[.int .i64 5, .int .i64 ki, .string (st s), sl, .slice pa cp.length pc] 28)) = W0 at *
  refine range_y (w := W0) (gf := 77) (lb := #[.pointer (some ⟨w.heap.size + 3, 0, none⟩)]) rfl (fun _ _ => by kernel_rfl) hsq (fun j hj => by rw [hsz]; rcases hj with hj | hj <;> omega)
    (fun k W => Sb w #[.int .i64 5, .int .i64 ki, .string (st s), sl, .slice pa cp.length pc] D false W ∧ (p.take k).all (fun q => Lib.validD q.1 && gd n q.2) = true)
    (fun c _ W => c = .ret ∧ A = false ∧ Sb w #[.int .i64 5, .int .i64 ki, .string (st s), sl, .slice pa cp.length pc] D false W) ?hI ?hIx ⟨hG, rfl⟩ ?round ?done ?stop
  case hI =>
    intro k A B row h hg hr
    exact ⟨h.1.own hg (fun r e => by obtain ⟨h1, ob, h2, h3⟩ := hr r e; exact ⟨ob, h2, h3, by omega⟩), h.2⟩
  case hIx =>
    rintro c k A B row ⟨hc, h1, h4⟩ hg hr
    exact ⟨hc, h1, h4.own hg (fun r e => by obtain ⟨h1, ob, h2, h3⟩ := hr r e; exact ⟨ob, h2, h3, by omega⟩)⟩
  case round =>
    intro lq k hk W Kq hz hI hK
    rw [hnd_len] at hk
    obtain ⟨x, hx⟩ : ∃ x, cp[k]? = some x := ⟨_, List.getElem?_eq_getElem hk⟩
    obtain ⟨q, hqk⟩ : ∃ q, p[k]? = some q := ⟨_, List.getElem?_eq_getElem (by have := hl.out; omega)⟩
    have hpa := hv.out k q x hqk hx
    have hx6 := r.1 x (List.mem_of_getElem? hx)
    have hhg := hh.out q (List.mem_of_getElem? hqk)
    obtain ⟨hsq1, hsq2⟩ := hs.out q (List.mem_of_getElem? hqk)
    have hit : (cp.map hnd)[k]'(by rw [hnd_len]; exact hk) = hnd x := by
      rw [List.getElem_map]
      congr 1
      have := List.getElem?_eq_getElem hk
      rw [hx] at this
      exact (Option.some.inj this).symm
    rw [hit]
    obtain ⟨x0, x1, x2, x3, x4, x5, rfl⟩ := arr6 hx6
    have hx0 : x0 = .string (st q.1) := by simpa using hpa.1
    subst hx0
    have hva : VA F w q.2 [x1, x2, x3, x4, x5] := hpa.2
    have hon := hva.one
    simp only [hnd, List.headD_cons, List.tail_cons]
    have hr7 : (W.alloc (.cells #[.int .i64 0, .int .i64 0, .string ⟨#[]⟩, .slice none 0 0, .slice none 0 0] 28)).heap[W.heap.size]? = some (.cells #[.int .i64 0, .int .i64 0, .string ⟨#[]⟩, .slice none 0 0, .slice none 0 0] 28 (0, 0)) := by
      show (W.heap.push _)[W.heap.size]? = _
      rw [Array.getElem?_push, if_pos rfl]
    have h7 := setRow_heap (W.alloc (.cells #[.int .i64 0, .int .i64 0, .string ⟨#[]⟩, .slice none 0 0, .slice none 0 0] 28)) W.heap.size _ #[x1, x2, x3, x4, x5] _ _ hr7
    have hal : ∀ j, j < W.heap.size → ((W.alloc (.cells #[.int .i64 0, .int .i64 0, .string ⟨#[]⟩, .slice none 0 0, .slice none 0 0] 28)).setRow W.heap.size #[x1, x2, x3, x4, x5]).heap[j]? = W.heap[j]? := fun j hj => (setRow_other _ _ j _ (by omega)).trans (by
      show (W.heap.push _)[j]? = _
      rw [Array.getElem?_push, if_neg (by omega)])
    have hb7 : Below W.heap.size W ((W.alloc (.cells #[.int .i64 0, .int .i64 0, .string ⟨#[]⟩, .slice none 0 0, .slice none 0 0] 28)).setRow W.heap.size #[x1, x2, x3, x4, x5]) := ⟨rfl, rfl, rfl, by simp [World.setRow], hal⟩
    have hs7 : ((W.alloc (.cells #[.int .i64 0, .int .i64 0, .string ⟨#[]⟩, .slice none 0 0, .slice none 0 0] 28)).setRow W.heap.size #[x1, x2, x3, x4, x5]).heap.size = W.heap.size + 1 := by simp [World.setRow]
    have hf := all_snoc hqk hI.2
    replace hon := hide1 hon
    replace hva := hide1 hva
    clear hit hx hpa hx6 hal
    gi_wp2_with (refine wpListIn_str rfl 28 (.tmp 6) (.tmp 12) rfl W.heap.size #[x1, x2, x3, x4, x5] rfl rfl 28 _ hr7 (by kernel_rfl) rfl (by simpa using hon.out) ?_)
    refine hK _ _ hb7 ?_
    rintro W2 hsame hs2 ⟨hG2, hf2⟩
    have h72 := (hsame W.heap.size (by omega)).trans h7
    have hsz2 : w.heap.size + 4 ≤ W2.heap.size := by rw [hs2, hs7]; omega
    have hT2 := hT.below hG2.bw (by omega)
    have hcv := utf8_ValidString (st q.1) W2 (by rw [st_size]; exact hsq1) hT2.tb
    rw [st_data] at hcv
    replace hG2 := hide1 hG2
    replace hf := hide1 hf
    replace hT2 := hide1 hT2
    replace hI := hide1 hI
    clear hK hsame h7 hf2
    gi_wp2
    refine ⟨trivial, (CallsIn.inRound lq (callsIn_wide.2 hcv)).mono ?_⟩
    rintro e W3 ⟨rfl, b3⟩
    have hG3 := hide1 (hG2.out.later b3)
    have h73 := (b3.block _ (Array.getElem?_eq_some_iff.1 h72).1).trans h72
    have l0 : W3.cell? ⟨W.heap.size, 0, none⟩ = some x1 := by simp only [World.cell?, h73]; rfl
    have l1 : W3.cell? ⟨W.heap.size, 1, none⟩ = some x2 := by simp only [World.cell?, h73]; rfl
    have l2 : W3.cell? ⟨W.heap.size, 2, none⟩ = some x3 := by simp only [World.cell?, h73]; rfl
    have l3 : W3.cell? ⟨W.heap.size, 3, none⟩ = some x4 := by simp only [World.cell?, h73]; rfl
    have l4 : W3.cell? ⟨W.heap.size, 4, none⟩ = some x5 := by simp only [World.cell?, h73]; rfl
    have c3 : W3.cell? ⟨w.heap.size + 1, 0, none⟩ = some (.int .i64 D) := by simp only [World.cell?, hG3.out.b3]; rfl
    have hT3 := hide1 (hT2.out.below b3 (by omega))
    have hsz3 : W2.heap.size ≤ W3.heap.size := b3.size
    have stop : ∀ W4, Below W2.heap.size W2 W4 → (Lib.validD q.1 && gd n q.2) = false → Hid (outX W0.heap.size (fun j => j < w.heap.size ∨ j = w.heap.size + 3) (fun k W => Sb w #[.int .i64 5, .int .i64 ki, .string (st s), sl, .slice pa cp.length pc] D false W ∧ (p.take k).all (fun q => Lib.validD q.1 && gd n q.2) = true) (fun c _ W => c = .ret ∧ A = false ∧ Sb w #[.int .i64 5, .int .i64 ki, .string (st s), sl, .slice pa cp.length pc] D false W) k W2 .ret { tmps := #[], defers := [] } (W4.setCell ⟨w.heap.size + 2, 0, none⟩ (.bool false))) := fun W4 b4 hbad => hide1 (by
      have g := hG2.out.later b4
      have hw5 : W4.setCell ⟨w.heap.size + 2, 0, none⟩ (.bool false) = W4.setRow (w.heap.size + 2) #[.bool false] := by
        rw [setCell_eq_setRow _ (w.heap.size + 2) 0 _ _ (0, 0) _ g.b4]; rfl
      rw [hw5]
      refine ⟨(Kx.below b4).row _ (by omega) (by omega), rfl, ?_, blw_own g.bw (by omega) _, (setRow_other _ _ _ _ (by omega)).trans g.b2, (setRow_other _ _ _ _ (by omega)).trans g.b3, setRow_heap _ _ _ _ _ _ g.b4⟩
      rw [hA.out]
      exact all_of (hf.out.trans hbad))
    replace stop := hide1 stop
    cases hvd : Lib.validD q.1 with
    | false =>
      have hfin := stop.out W3 b3 (by rw [hvd]; rfl)
      have c4 : W3.cell? ⟨w.heap.size + 2, 0, none⟩ = some (.bool false) := by simp only [World.cell?, hG3.out.b4]; rfl
      have f4 : W3.frozen? ⟨w.heap.size + 2, 0, none⟩ = false := by simp [World.frozen?, hG3.out.b4]
      clear stop hcv b3 hvd
      gi_wp2
      refine ⟨trivial, ?_⟩
      rename_i Kz hKz
      refine hKz _ _ ?_
      gi_wp2
      exact hfin.out
    | true =>
      have hcs := ih (w := W3) (c := [x1, x2, x3, x4, x5]) hhg hsq2 (VA.frame (c := [x1, x2, x3, x4, x5]) hva.out (w' := W3) (G := F) (fun j _ hj => hG3.out.bw.block j hj) (fun _ h _ => h)) hT3.out (by omega)
      rw [← hD.out] at hcs
      replace b3 := hide1 b3
      replace hvd := hide1 hvd
      clear hcv
      gi_wp2
      refine ⟨trivial, (CallsIn.inRound lq (callsIn_wide.2 hcs)).mono ?_⟩
      rintro e W4 ⟨rfl, b4⟩
      have b24 := hide1 (b3.out.trans (b4.mono b3.out.size))
      have hG4 := hide1 (hG3.out.later b4)
      cases hgq : gd n q.2 with
      | false =>
        have hfin := stop.out W4 b24.out (by rw [hgq, hvd.out]; rfl)
        have c4 : W4.cell? ⟨w.heap.size + 2, 0, none⟩ = some (.bool false) := by simp only [World.cell?, hG4.out.b4]; rfl
        have f4 : W4.frozen? ⟨w.heap.size + 2, 0, none⟩ = false := by simp [World.frozen?, hG4.out.b4]
        clear stop hcs b4 hgq
        gi_wp2
        exact hfin.out
      | true =>
        have hfin : Hid (Kx W0.heap.size (fun j => j < w.heap.size ∨ j = w.heap.size + 3) W2 W4 ∧ Sb w #[.int .i64 5, .int .i64 ki, .string (st s), sl, .slice pa cp.length pc] D false W4 ∧ (p.take (k + 1)).all (fun q => Lib.validD q.1 && gd n q.2) = true) := hide1 ⟨Kx.below b24.out, hG4.out, by rw [hf.out, hvd.out, hgq]; rfl⟩
        clear stop hcs b4 hgq
        gi_wp2
        exact hfin.out
  case done =>
    rintro E W hE ⟨hGW, hf⟩ hK
    have hAt : A = true := by
      rw [hnd_len, List.take_of_length_le (by have := hl.out; omega)] at hf
      rw [hA.out, hf]
    subst hAt
    have c4 : W.cell? ⟨w.heap.size, 4, none⟩ = some (.slice pa cp.length pc) := by simp only [World.cell?, hGW.b2]; rfl
    have hna2 : NmA F W (.slice pa cp.length pc) cp (p.map (·.1)) := ⟨hna.out.rw.frame (fun j _ hj => hGW.bw.block j hj) (fun _ h _ => h), hna.out.ln, hna.out.nm, hna.out.sm, hna.out.on⟩
    have hpl := places_d hna2 (by omega)
    replace hGW := hide1 hGW
    replace hK := hide1 hK
    clear hf hna2
    gi_wp2
    refine ⟨trivial, (callsIn_wide.2 hpl).mono ?_⟩
    rintro e W2 ⟨mb, MD, mn, rfl, b2, hmb, hmo, hmi⟩
    have hG2 := hGW.out.later b2
    have hK2 := (b2.block _ (Array.getElem?_eq_some_iff.1 hK.out).1).trans hK.out
    have c5 : W2.cell? ⟨w.heap.size + 2, 0, none⟩ = some (.bool false) := by simp only [World.cell?, hG2.b4]; rfl
    have f5 : W2.frozen? ⟨w.heap.size + 2, 0, none⟩ = false := by simp [World.frozen?, hG2.b4]
    have hne : E ≠ w.heap.size + 2 := by rintro rfl; rw [hG2.b4] at hK2; cases hK2
    rw [← hO.out]
    have hw5 : W2.setCell ⟨w.heap.size + 2, 0, none⟩ (.bool O) = W2.setRow (w.heap.size + 2) #[.bool O] := by
      rw [setCell_eq_setRow _ (w.heap.size + 2) 0 _ _ (0, 0) _ hG2.b4]; rfl
    have hDK : (W2.setCell ⟨w.heap.size + 2, 0, none⟩ (.bool O)).heap[E]? = some (.deferred (some [])) := by
      rw [hw5]
      exact (setRow_other _ _ _ _ hne).trans hK2
    have hb5 : (W2.setCell ⟨w.heap.size + 2, 0, none⟩ (.bool O)).heap[w.heap.size + 2]? = some (.cells #[.bool O] 4 (0, 0)) := by
      rw [hw5]
      exact setRow_heap _ _ _ _ _ _ hG2.b4
    have hbb : Below w.heap.size w (W2.setCell ⟨w.heap.size + 2, 0, none⟩ (.bool O)) := by
      rw [hw5]
      exact blw_own hG2.bw (by omega) _
    replace hDK := hide1 hDK
    replace hb5 := hide1 hb5
    replace hbb := hide1 hbb
    replace hne := hide1 hne
    clear hG2 hw5 hpl hmo hmi b2 hK2
    gi_wp2
    refine ⟨by simp, .inl ⟨_, _, rfl, run_takeDeferred hDK.out, ?_⟩⟩
    refine ⟨_, results_1b rfl _ rfl ((World.putObj_heap_other (fun e => hne.out e.symm)).trans hb5.out), ?_⟩
    exact ⟨by rw [Bool.true_and], blw_done hbb.out (by omega) hDK.out⟩
  case stop =>
    rintro E c k W hE hk ⟨rfl, h1, h4⟩ hK
    have hne : w.heap.size + 2 ≠ E := by rintro rfl; rw [h4.b4] at hK; cases hK
    gi_wp2
    refine ⟨by simp, .inl ⟨_, _, rfl, run_takeDeferred hK, ?_⟩⟩
    refine ⟨_, results_1b rfl _ rfl ((World.putObj_heap_other hne).trans h4.b4), ?_⟩
    exact ⟨by rw [h1]; rfl, blw_done h4.bw (by omega) hK⟩
end Go.Proofs.YtbemaloaobeblaaGreatDoor

namespace Go.Proofs.YtbemaloaobeblaaGreatDoor
open Go.RowKit

theorem below_al {w : World} (o : Obj) : Below w.heap.size w (w.alloc o) := (Below.refl _ _).alloc (Nat.le_refl _) _
theorem new_at (w : World) (c : Array Value) (t : TypeId) : (w.alloc (.cells c t)).heap[w.heap.size]? = some (.cells c t (0, 0)) := by
  show (w.heap.push _)[w.heap.size]? = _
  rw [Array.getElem?_push, if_pos rfl]
set_option maxHeartbeats 4000000 in
set_option maxRecDepth 100000 in
theorem snd_sp {k i : Int} {s : List UInt8} {sa pa : Option Addr} {cl cp : List (List Value)} {sc pc : Nat} {w : World} {D : Int} (hsp0 : spB k i s cl.length cp.length = true) : Calls Tryz.prog 34 #[.agg #[.int .i64 k, .int .i64 i, .string (st s), .slice sa cl.length sc, .slice pa cp.length pc], .int .i64 D] w fun e w' => e = .returned (.bool false) ∧ Below w.heap.size w w' := by
  have hb0 := below_al (w := w) (.cells #[.int .i64 k, .int .i64 i, .string (st s), .slice sa cl.length sc, .slice pa cp.length pc] 28)
  have hbx := new_at w #[.int .i64 k, .int .i64 i, .string (st s), .slice sa cl.length sc, .slice pa cp.length pc] 28
  obtain ⟨w1, hw1⟩ : ∃ w1, w1 = w.alloc (.cells #[.int .i64 k, .int .i64 i, .string (st s), .slice sa cl.length sc, .slice pa cp.length pc] 28) := ⟨_, rfl⟩
  rw [← hw1] at hb0 hbx
  have hsp := spare_d (k := k) (i := i) (s := s) (sa := sa) (pa := pa) (nl := cl.length) (np := cp.length) (sc := sc) (pc := pc) (w := w1)
  rw [hsp0] at hsp
  replace hb0 := hide1 hb0
  replace hbx := hide1 hbx
  go_enter Tryz.func34, Tryz.ntmps34
  go_wp2_with fail
  rw [← hw1]
  refine hsp.mono ?_
  rintro e w2 ⟨rfl, b2⟩
  have hB := hide1 (hb0.out.trans (b2.mono hb0.out.size))
  have hbx2 := (b2.block _ (Array.getElem?_eq_some_iff.1 hbx.out).1).trans hbx.out
  have c0 : w2.cell? ⟨w.heap.size, 0, none⟩ = some (.int .i64 k) := by simp only [World.cell?, hbx2]; rfl
  have c1 : w2.cell? ⟨w.heap.size, 1, none⟩ = some (.int .i64 i) := by simp only [World.cell?, hbx2]; rfl
  have c2 : w2.cell? ⟨w.heap.size, 2, none⟩ = some (.string (st s)) := by simp only [World.cell?, hbx2]; rfl
  have c3 : w2.cell? ⟨w.heap.size, 3, none⟩ = some (.slice sa cl.length sc) := by simp only [World.cell?, hbx2]; rfl
  have c4 : w2.cell? ⟨w.heap.size, 4, none⟩ = some (.slice pa cp.length pc) := by simp only [World.cell?, hbx2]; rfl
  clear hsp b2 hw1 hb0 hbx
  go_wp2
  go_ret
  exact ⟨rfl, hB.out⟩
set_option maxHeartbeats 4000000 in
set_option maxRecDepth 100000 in
theorem snd_0 {i : Int} {s : List UInt8} {sa pa : Option Addr} {cl cp : List (List Value)} {sc pc : Nat} {w : World} {D : Int} (hsp0 : spB 0 i s cl.length cp.length = false) : Calls Tryz.prog 34 #[.agg #[.int .i64 0, .int .i64 i, .string (st s), .slice sa cl.length sc, .slice pa cp.length pc], .int .i64 D] w fun e w' => e = .returned (.bool true) ∧ Below w.heap.size w w' := by
  have hb0 := below_al (w := w) (.cells #[.int .i64 0, .int .i64 i, .string (st s), .slice sa cl.length sc, .slice pa cp.length pc] 28)
  have hbx := new_at w #[.int .i64 0, .int .i64 i, .string (st s), .slice sa cl.length sc, .slice pa cp.length pc] 28
  obtain ⟨w1, hw1⟩ : ∃ w1, w1 = w.alloc (.cells #[.int .i64 0, .int .i64 i, .string (st s), .slice sa cl.length sc, .slice pa cp.length pc] 28) := ⟨_, rfl⟩
  rw [← hw1] at hb0 hbx
  have hsp := spare_d (k := 0) (i := i) (s := s) (sa := sa) (pa := pa) (nl := cl.length) (np := cp.length) (sc := sc) (pc := pc) (w := w1)
  rw [hsp0] at hsp
  replace hb0 := hide1 hb0
  replace hbx := hide1 hbx
  go_enter Tryz.func34, Tryz.ntmps34
  go_wp2_with fail
  rw [← hw1]
  refine hsp.mono ?_
  rintro e w2 ⟨rfl, b2⟩
  have hB := hide1 (hb0.out.trans (b2.mono hb0.out.size))
  have hbx2 := (b2.block _ (Array.getElem?_eq_some_iff.1 hbx.out).1).trans hbx.out
  have c0 : w2.cell? ⟨w.heap.size, 0, none⟩ = some (.int .i64 (0)) := by simp only [World.cell?, hbx2]; rfl
  have c1 : w2.cell? ⟨w.heap.size, 1, none⟩ = some (.int .i64 i) := by simp only [World.cell?, hbx2]; rfl
  have c2 : w2.cell? ⟨w.heap.size, 2, none⟩ = some (.string (st s)) := by simp only [World.cell?, hbx2]; rfl
  have c3 : w2.cell? ⟨w.heap.size, 3, none⟩ = some (.slice sa cl.length sc) := by simp only [World.cell?, hbx2]; rfl
  have c4 : w2.cell? ⟨w.heap.size, 4, none⟩ = some (.slice pa cp.length pc) := by simp only [World.cell?, hbx2]; rfl
  clear hsp b2 hw1 hb0 hbx
  go_wp2
  go_ret
  exact ⟨rfl, hB.out⟩
set_option maxHeartbeats 4000000 in
set_option maxRecDepth 100000 in
theorem snd_10  {s : List UInt8} {sa pa : Option Addr} {cl cp : List (List Value)} {sc pc : Nat} {w : World} {D : Int} (hsp0 : spB 1 0 s cl.length cp.length = false) : Calls Tryz.prog 34 #[.agg #[.int .i64 1, .int .i64 0, .string (st s), .slice sa cl.length sc, .slice pa cp.length pc], .int .i64 D] w fun e w' => e = .returned (.bool true) ∧ Below w.heap.size w w' := by
  have hb0 := below_al (w := w) (.cells #[.int .i64 1, .int .i64 0, .string (st s), .slice sa cl.length sc, .slice pa cp.length pc] 28)
  have hbx := new_at w #[.int .i64 1, .int .i64 0, .string (st s), .slice sa cl.length sc, .slice pa cp.length pc] 28
  obtain ⟨w1, hw1⟩ : ∃ w1, w1 = w.alloc (.cells #[.int .i64 1, .int .i64 0, .string (st s), .slice sa cl.length sc, .slice pa cp.length pc] 28) := ⟨_, rfl⟩
  rw [← hw1] at hb0 hbx
  have hsp := spare_d (k := 1) (i := 0) (s := s) (sa := sa) (pa := pa) (nl := cl.length) (np := cp.length) (sc := sc) (pc := pc) (w := w1)
  rw [hsp0] at hsp
  replace hb0 := hide1 hb0
  replace hbx := hide1 hbx
  go_enter Tryz.func34, Tryz.ntmps34
  go_wp2_with fail
  rw [← hw1]
  refine hsp.mono ?_
  rintro e w2 ⟨rfl, b2⟩
  have hB := hide1 (hb0.out.trans (b2.mono hb0.out.size))
  have hbx2 := (b2.block _ (Array.getElem?_eq_some_iff.1 hbx.out).1).trans hbx.out
  have c0 : w2.cell? ⟨w.heap.size, 0, none⟩ = some (.int .i64 (1)) := by simp only [World.cell?, hbx2]; rfl
  have c1 : w2.cell? ⟨w.heap.size, 1, none⟩ = some (.int .i64 (0)) := by simp only [World.cell?, hbx2]; rfl
  have c2 : w2.cell? ⟨w.heap.size, 2, none⟩ = some (.string (st s)) := by simp only [World.cell?, hbx2]; rfl
  have c3 : w2.cell? ⟨w.heap.size, 3, none⟩ = some (.slice sa cl.length sc) := by simp only [World.cell?, hbx2]; rfl
  have c4 : w2.cell? ⟨w.heap.size, 4, none⟩ = some (.slice pa cp.length pc) := by simp only [World.cell?, hbx2]; rfl
  clear hsp b2 hw1 hb0 hbx
  go_wp2
  go_ret
  exact ⟨rfl, hB.out⟩
set_option maxHeartbeats 4000000 in
set_option maxRecDepth 100000 in
theorem snd_11  {s : List UInt8} {sa pa : Option Addr} {cl cp : List (List Value)} {sc pc : Nat} {w : World} {D : Int} (hsp0 : spB 1 1 s cl.length cp.length = false) : Calls Tryz.prog 34 #[.agg #[.int .i64 1, .int .i64 1, .string (st s), .slice sa cl.length sc, .slice pa cp.length pc], .int .i64 D] w fun e w' => e = .returned (.bool true) ∧ Below w.heap.size w w' := by
  have hb0 := below_al (w := w) (.cells #[.int .i64 1, .int .i64 1, .string (st s), .slice sa cl.length sc, .slice pa cp.length pc] 28)
  have hbx := new_at w #[.int .i64 1, .int .i64 1, .string (st s), .slice sa cl.length sc, .slice pa cp.length pc] 28
  obtain ⟨w1, hw1⟩ : ∃ w1, w1 = w.alloc (.cells #[.int .i64 1, .int .i64 1, .string (st s), .slice sa cl.length sc, .slice pa cp.length pc] 28) := ⟨_, rfl⟩
  rw [← hw1] at hb0 hbx
  have hsp := spare_d (k := 1) (i := 1) (s := s) (sa := sa) (pa := pa) (nl := cl.length) (np := cp.length) (sc := sc) (pc := pc) (w := w1)
  rw [hsp0] at hsp
  replace hb0 := hide1 hb0
  replace hbx := hide1 hbx
  go_enter Tryz.func34, Tryz.ntmps34
  go_wp2_with fail
  rw [← hw1]
  refine hsp.mono ?_
  rintro e w2 ⟨rfl, b2⟩
  have hB := hide1 (hb0.out.trans (b2.mono hb0.out.size))
  have hbx2 := (b2.block _ (Array.getElem?_eq_some_iff.1 hbx.out).1).trans hbx.out
  have c0 : w2.cell? ⟨w.heap.size, 0, none⟩ = some (.int .i64 (1)) := by simp only [World.cell?, hbx2]; rfl
  have c1 : w2.cell? ⟨w.heap.size, 1, none⟩ = some (.int .i64 (1)) := by simp only [World.cell?, hbx2]; rfl
  have c2 : w2.cell? ⟨w.heap.size, 2, none⟩ = some (.string (st s)) := by simp only [World.cell?, hbx2]; rfl
  have c3 : w2.cell? ⟨w.heap.size, 3, none⟩ = some (.slice sa cl.length sc) := by simp only [World.cell?, hbx2]; rfl
  have c4 : w2.cell? ⟨w.heap.size, 4, none⟩ = some (.slice pa cp.length pc) := by simp only [World.cell?, hbx2]; rfl
  clear hsp b2 hw1 hb0 hbx
  go_wp2
  go_ret
  exact ⟨rfl, hB.out⟩
set_option maxHeartbeats 4000000 in
set_option maxRecDepth 100000 in
theorem snd_1o {i : Int} {s : List UInt8} {sa pa : Option Addr} {cl cp : List (List Value)} {sc pc : Nat} {w : World} {D : Int} (hsp0 : spB 1 i s cl.length cp.length = false) (i0 : i ≠ 0) (i1 : i ≠ 1) : Calls Tryz.prog 34 #[.agg #[.int .i64 1, .int .i64 i, .string (st s), .slice sa cl.length sc, .slice pa cp.length pc], .int .i64 D] w fun e w' => e = .returned (.bool false) ∧ Below w.heap.size w w' := by
  have hb0 := below_al (w := w) (.cells #[.int .i64 1, .int .i64 i, .string (st s), .slice sa cl.length sc, .slice pa cp.length pc] 28)
  have hbx := new_at w #[.int .i64 1, .int .i64 i, .string (st s), .slice sa cl.length sc, .slice pa cp.length pc] 28
  obtain ⟨w1, hw1⟩ : ∃ w1, w1 = w.alloc (.cells #[.int .i64 1, .int .i64 i, .string (st s), .slice sa cl.length sc, .slice pa cp.length pc] 28) := ⟨_, rfl⟩
  rw [← hw1] at hb0 hbx
  have hsp := spare_d (k := 1) (i := i) (s := s) (sa := sa) (pa := pa) (nl := cl.length) (np := cp.length) (sc := sc) (pc := pc) (w := w1)
  rw [hsp0] at hsp
  replace hb0 := hide1 hb0
  replace hbx := hide1 hbx
  have d0 : (i == 0) = false := by simpa using i0
  have d1 : (i == 1) = false := by simpa using i1
  go_enter Tryz.func34, Tryz.ntmps34
  go_wp2_with fail
  rw [← hw1]
  refine hsp.mono ?_
  rintro e w2 ⟨rfl, b2⟩
  have hB := hide1 (hb0.out.trans (b2.mono hb0.out.size))
  have hbx2 := (b2.block _ (Array.getElem?_eq_some_iff.1 hbx.out).1).trans hbx.out
  have c0 : w2.cell? ⟨w.heap.size, 0, none⟩ = some (.int .i64 (1)) := by simp only [World.cell?, hbx2]; rfl
  have c1 : w2.cell? ⟨w.heap.size, 1, none⟩ = some (.int .i64 i) := by simp only [World.cell?, hbx2]; rfl
  have c2 : w2.cell? ⟨w.heap.size, 2, none⟩ = some (.string (st s)) := by simp only [World.cell?, hbx2]; rfl
  have c3 : w2.cell? ⟨w.heap.size, 3, none⟩ = some (.slice sa cl.length sc) := by simp only [World.cell?, hbx2]; rfl
  have c4 : w2.cell? ⟨w.heap.size, 4, none⟩ = some (.slice pa cp.length pc) := by simp only [World.cell?, hbx2]; rfl
  clear hsp b2 hw1 hb0 hbx
  go_wp2
  go_ret
  exact ⟨rfl, hB.out⟩
set_option maxHeartbeats 4000000 in
set_option maxRecDepth 100000 in
theorem snd_2 {i : Int} {s : List UInt8} {sa pa : Option Addr} {cl cp : List (List Value)} {sc pc : Nat} {w : World} {D : Int} (hsp0 : spB 2 i s cl.length cp.length = false) : Calls Tryz.prog 34 #[.agg #[.int .i64 2, .int .i64 i, .string (st s), .slice sa cl.length sc, .slice pa cp.length pc], .int .i64 D] w fun e w' => e = .returned (.bool (inR i)) ∧ Below w.heap.size w w' := by
  have hb0 := below_al (w := w) (.cells #[.int .i64 2, .int .i64 i, .string (st s), .slice sa cl.length sc, .slice pa cp.length pc] 28)
  have hbx := new_at w #[.int .i64 2, .int .i64 i, .string (st s), .slice sa cl.length sc, .slice pa cp.length pc] 28
  obtain ⟨w1, hw1⟩ : ∃ w1, w1 = w.alloc (.cells #[.int .i64 2, .int .i64 i, .string (st s), .slice sa cl.length sc, .slice pa cp.length pc] 28) := ⟨_, rfl⟩
  rw [← hw1] at hb0 hbx
  have hsp := spare_d (k := 2) (i := i) (s := s) (sa := sa) (pa := pa) (nl := cl.length) (np := cp.length) (sc := sc) (pc := pc) (w := w1)
  rw [hsp0] at hsp
  replace hb0 := hide1 hb0
  replace hbx := hide1 hbx
  obtain ⟨B, hBe⟩ : ∃ B, Hid (B = inR i) := ⟨_, hide1 rfl⟩
  rw [← hBe.out]
  go_enter Tryz.func34, Tryz.ntmps34
  go_wp2_with fail
  rw [← hw1]
  refine hsp.mono ?_
  rintro e w2 ⟨rfl, b2⟩
  have hB := hide1 (hb0.out.trans (b2.mono hb0.out.size))
  have hbx2 := (b2.block _ (Array.getElem?_eq_some_iff.1 hbx.out).1).trans hbx.out
  have c0 : w2.cell? ⟨w.heap.size, 0, none⟩ = some (.int .i64 (2)) := by simp only [World.cell?, hbx2]; rfl
  have c1 : w2.cell? ⟨w.heap.size, 1, none⟩ = some (.int .i64 i) := by simp only [World.cell?, hbx2]; rfl
  have c2 : w2.cell? ⟨w.heap.size, 2, none⟩ = some (.string (st s)) := by simp only [World.cell?, hbx2]; rfl
  have c3 : w2.cell? ⟨w.heap.size, 3, none⟩ = some (.slice sa cl.length sc) := by simp only [World.cell?, hbx2]; rfl
  have c4 : w2.cell? ⟨w.heap.size, 4, none⟩ = some (.slice pa cp.length pc) := by simp only [World.cell?, hbx2]; rfl
  have hcc := rng_d (n := i) (w := w2)
  rw [← hBe.out] at hcc
  clear hsp b2 hw1 hb0 hbx
  go_wp2_with fail
  refine hcc.mono ?_
  rintro e w3 ⟨rfl, rfl⟩
  clear hcc
  go_wp2
  go_ret
  exact ⟨rfl, hB.out⟩
set_option maxHeartbeats 4000000 in
set_option maxRecDepth 100000 in
theorem snd_3 {i : Int} {s : List UInt8} {sa pa : Option Addr} {cl cp : List (List Value)} {sc pc : Nat} {w : World} {D : Int} (hsp0 : spB 3 i s cl.length cp.length = false) (hsz : s.length ≤ 9223372036854775807) (hT : Ev w) (h8 : 8 ≤ w.heap.size) : Calls Tryz.prog 34 #[.agg #[.int .i64 3, .int .i64 i, .string (st s), .slice sa cl.length sc, .slice pa cp.length pc], .int .i64 D] w fun e w' => e = .returned (.bool (Lib.validD s)) ∧ Below w.heap.size w w' := by
  have hb0 := below_al (w := w) (.cells #[.int .i64 3, .int .i64 i, .string (st s), .slice sa cl.length sc, .slice pa cp.length pc] 28)
  have hbx := new_at w #[.int .i64 3, .int .i64 i, .string (st s), .slice sa cl.length sc, .slice pa cp.length pc] 28
  obtain ⟨w1, hw1⟩ : ∃ w1, w1 = w.alloc (.cells #[.int .i64 3, .int .i64 i, .string (st s), .slice sa cl.length sc, .slice pa cp.length pc] 28) := ⟨_, rfl⟩
  rw [← hw1] at hb0 hbx
  have hsp := spare_d (k := 3) (i := i) (s := s) (sa := sa) (pa := pa) (nl := cl.length) (np := cp.length) (sc := sc) (pc := pc) (w := w1)
  rw [hsp0] at hsp
  replace hb0 := hide1 hb0
  replace hbx := hide1 hbx
  obtain ⟨B, hBe⟩ : ∃ B, Hid (B = Lib.validD s) := ⟨_, hide1 rfl⟩
  rw [← hBe.out]
  go_enter Tryz.func34, Tryz.ntmps34
  go_wp2_with fail
  rw [← hw1]
  refine hsp.mono ?_
  rintro e w2 ⟨rfl, b2⟩
  have hB := hide1 (hb0.out.trans (b2.mono hb0.out.size))
  have hbx2 := (b2.block _ (Array.getElem?_eq_some_iff.1 hbx.out).1).trans hbx.out
  have c0 : w2.cell? ⟨w.heap.size, 0, none⟩ = some (.int .i64 (3)) := by simp only [World.cell?, hbx2]; rfl
  have c1 : w2.cell? ⟨w.heap.size, 1, none⟩ = some (.int .i64 i) := by simp only [World.cell?, hbx2]; rfl
  have c2 : w2.cell? ⟨w.heap.size, 2, none⟩ = some (.string (st s)) := by simp only [World.cell?, hbx2]; rfl
  have c3 : w2.cell? ⟨w.heap.size, 3, none⟩ = some (.slice sa cl.length sc) := by simp only [World.cell?, hbx2]; rfl
  have c4 : w2.cell? ⟨w.heap.size, 4, none⟩ = some (.slice pa cp.length pc) := by simp only [World.cell?, hbx2]; rfl
  have hcc := utf8_ValidString (st s) w2 (by rw [st_size]; exact hsz) (hT.below hB.out (by omega)).tb
  rw [st_data, ← hBe.out] at hcc
  clear hsp b2 hw1 hb0 hbx
  go_wp2_with fail
  refine hcc.mono ?_
  rintro e w3 ⟨rfl, b3⟩
  have hB3 := hide1 (hB.out.trans (b3.mono hB.out.size))
  clear hcc b3 hB
  go_wp2
  go_ret
  exact ⟨rfl, hB3.out⟩
set_option maxHeartbeats 4000000 in
set_option maxRecDepth 100000 in
theorem snd_4z {i : Int} {s : List UInt8} {sa pa : Option Addr} {cl cp : List (List Value)} {sc pc : Nat} {w : World} {D : Int} (hsp0 : spB 4 i s cl.length cp.length = false) (hD : D = 8) : Calls Tryz.prog 34 #[.agg #[.int .i64 4, .int .i64 i, .string (st s), .slice sa cl.length sc, .slice pa cp.length pc], .int .i64 D] w fun e w' => e = .returned (.bool false) ∧ Below w.heap.size w w' := by
  have hb0 := below_al (w := w) (.cells #[.int .i64 4, .int .i64 i, .string (st s), .slice sa cl.length sc, .slice pa cp.length pc] 28)
  have hbx := new_at w #[.int .i64 4, .int .i64 i, .string (st s), .slice sa cl.length sc, .slice pa cp.length pc] 28
  obtain ⟨w1, hw1⟩ : ∃ w1, w1 = w.alloc (.cells #[.int .i64 4, .int .i64 i, .string (st s), .slice sa cl.length sc, .slice pa cp.length pc] 28) := ⟨_, rfl⟩
  rw [← hw1] at hb0 hbx
  have hsp := spare_d (k := 4) (i := i) (s := s) (sa := sa) (pa := pa) (nl := cl.length) (np := cp.length) (sc := sc) (pc := pc) (w := w1)
  rw [hsp0] at hsp
  replace hb0 := hide1 hb0
  replace hbx := hide1 hbx
  subst hD
  go_enter Tryz.func34, Tryz.ntmps34
  go_wp2_with fail
  rw [← hw1]
  refine hsp.mono ?_
  rintro e w2 ⟨rfl, b2⟩
  have hB := hide1 (hb0.out.trans (b2.mono hb0.out.size))
  have hbx2 := (b2.block _ (Array.getElem?_eq_some_iff.1 hbx.out).1).trans hbx.out
  have c0 : w2.cell? ⟨w.heap.size, 0, none⟩ = some (.int .i64 (4)) := by simp only [World.cell?, hbx2]; rfl
  have c1 : w2.cell? ⟨w.heap.size, 1, none⟩ = some (.int .i64 i) := by simp only [World.cell?, hbx2]; rfl
  have c2 : w2.cell? ⟨w.heap.size, 2, none⟩ = some (.string (st s)) := by simp only [World.cell?, hbx2]; rfl
  have c3 : w2.cell? ⟨w.heap.size, 3, none⟩ = some (.slice sa cl.length sc) := by simp only [World.cell?, hbx2]; rfl
  have c4 : w2.cell? ⟨w.heap.size, 4, none⟩ = some (.slice pa cp.length pc) := by simp only [World.cell?, hbx2]; rfl
  clear hsp b2 hw1 hb0 hbx
  go_wp2
  go_ret
  exact ⟨rfl, hB.out⟩
set_option maxHeartbeats 4000000 in
set_option maxRecDepth 100000 in
theorem snd_4 {i : Int} {B : Bool} {s : List UInt8} {sa pa : Option Addr} {cl cp : List (List Value)} {sc pc : Nat} {w : World} {D : Int} (hsp0 : spB 4 i s cl.length cp.length = false) (hD : D < 8) (hD0 : 0 ≤ D) (hc : ∀ w2, Below w.heap.size w w2 → Calls Tryz.prog 56 #[.slice sa cl.length sc, .int .i64 (D + 1)] w2 fun e w3 => e = .returned (.bool B) ∧ Below w2.heap.size w2 w3) : Calls Tryz.prog 34 #[.agg #[.int .i64 4, .int .i64 i, .string (st s), .slice sa cl.length sc, .slice pa cp.length pc], .int .i64 D] w fun e w' => e = .returned (.bool B) ∧ Below w.heap.size w w' := by
  have hb0 := below_al (w := w) (.cells #[.int .i64 4, .int .i64 i, .string (st s), .slice sa cl.length sc, .slice pa cp.length pc] 28)
  have hbx := new_at w #[.int .i64 4, .int .i64 i, .string (st s), .slice sa cl.length sc, .slice pa cp.length pc] 28
  obtain ⟨w1, hw1⟩ : ∃ w1, w1 = w.alloc (.cells #[.int .i64 4, .int .i64 i, .string (st s), .slice sa cl.length sc, .slice pa cp.length pc] 28) := ⟨_, rfl⟩
  rw [← hw1] at hb0 hbx
  have hsp := spare_d (k := 4) (i := i) (s := s) (sa := sa) (pa := pa) (nl := cl.length) (np := cp.length) (sc := sc) (pc := pc) (w := w1)
  rw [hsp0] at hsp
  replace hb0 := hide1 hb0
  replace hbx := hide1 hbx
  replace hc := hide1 hc
  go_enter Tryz.func34, Tryz.ntmps34
  go_wp2_with fail
  rw [← hw1]
  refine hsp.mono ?_
  rintro e w2 ⟨rfl, b2⟩
  have hB := hide1 (hb0.out.trans (b2.mono hb0.out.size))
  have hbx2 := (b2.block _ (Array.getElem?_eq_some_iff.1 hbx.out).1).trans hbx.out
  have c0 : w2.cell? ⟨w.heap.size, 0, none⟩ = some (.int .i64 (4)) := by simp only [World.cell?, hbx2]; rfl
  have c1 : w2.cell? ⟨w.heap.size, 1, none⟩ = some (.int .i64 i) := by simp only [World.cell?, hbx2]; rfl
  have c2 : w2.cell? ⟨w.heap.size, 2, none⟩ = some (.string (st s)) := by simp only [World.cell?, hbx2]; rfl
  have c3 : w2.cell? ⟨w.heap.size, 3, none⟩ = some (.slice sa cl.length sc) := by simp only [World.cell?, hbx2]; rfl
  have c4 : w2.cell? ⟨w.heap.size, 4, none⟩ = some (.slice pa cp.length pc) := by simp only [World.cell?, hbx2]; rfl
  have hcc := hc.out w2 hB.out
  clear hsp b2 hw1 hb0 hbx
  go_wp2_with fail
  refine hcc.mono ?_
  rintro e w3 ⟨rfl, b3⟩
  have hB3 := hide1 (hB.out.trans (b3.mono hB.out.size))
  clear hcc b3 hB
  go_wp2
  go_ret
  exact ⟨rfl, hB3.out⟩
set_option maxHeartbeats 4000000 in
set_option maxRecDepth 100000 in
theorem snd_5z {i : Int} {s : List UInt8} {sa pa : Option Addr} {cl cp : List (List Value)} {sc pc : Nat} {w : World} {D : Int} (hsp0 : spB 5 i s cl.length cp.length = false) (hD : D = 8) : Calls Tryz.prog 34 #[.agg #[.int .i64 5, .int .i64 i, .string (st s), .slice sa cl.length sc, .slice pa cp.length pc], .int .i64 D] w fun e w' => e = .returned (.bool false) ∧ Below w.heap.size w w' := by
  have hb0 := below_al (w := w) (.cells #[.int .i64 5, .int .i64 i, .string (st s), .slice sa cl.length sc, .slice pa cp.length pc] 28)
  have hbx := new_at w #[.int .i64 5, .int .i64 i, .string (st s), .slice sa cl.length sc, .slice pa cp.length pc] 28
  obtain ⟨w1, hw1⟩ : ∃ w1, w1 = w.alloc (.cells #[.int .i64 5, .int .i64 i, .string (st s), .slice sa cl.length sc, .slice pa cp.length pc] 28) := ⟨_, rfl⟩
  rw [← hw1] at hb0 hbx
  have hsp := spare_d (k := 5) (i := i) (s := s) (sa := sa) (pa := pa) (nl := cl.length) (np := cp.length) (sc := sc) (pc := pc) (w := w1)
  rw [hsp0] at hsp
  replace hb0 := hide1 hb0
  replace hbx := hide1 hbx
  subst hD
  go_enter Tryz.func34, Tryz.ntmps34
  go_wp2_with fail
  rw [← hw1]
  refine hsp.mono ?_
  rintro e w2 ⟨rfl, b2⟩
  have hB := hide1 (hb0.out.trans (b2.mono hb0.out.size))
  have hbx2 := (b2.block _ (Array.getElem?_eq_some_iff.1 hbx.out).1).trans hbx.out
  have c0 : w2.cell? ⟨w.heap.size, 0, none⟩ = some (.int .i64 (5)) := by simp only [World.cell?, hbx2]; rfl
  have c1 : w2.cell? ⟨w.heap.size, 1, none⟩ = some (.int .i64 i) := by simp only [World.cell?, hbx2]; rfl
  have c2 : w2.cell? ⟨w.heap.size, 2, none⟩ = some (.string (st s)) := by simp only [World.cell?, hbx2]; rfl
  have c3 : w2.cell? ⟨w.heap.size, 3, none⟩ = some (.slice sa cl.length sc) := by simp only [World.cell?, hbx2]; rfl
  have c4 : w2.cell? ⟨w.heap.size, 4, none⟩ = some (.slice pa cp.length pc) := by simp only [World.cell?, hbx2]; rfl
  clear hsp b2 hw1 hb0 hbx
  go_wp2
  go_ret
  exact ⟨rfl, hB.out⟩
set_option maxHeartbeats 4000000 in
set_option maxRecDepth 100000 in
theorem snd_5 {i : Int} {B : Bool} {s : List UInt8} {sa pa : Option Addr} {cl cp : List (List Value)} {sc pc : Nat} {w : World} {D : Int} (hsp0 : spB 5 i s cl.length cp.length = false) (hD : D < 8) (hD0 : 0 ≤ D) (hc : ∀ w2, Below w.heap.size w w2 → Calls Tryz.prog 57 #[.agg #[.int .i64 5, .int .i64 i, .string (st s), .slice sa cl.length sc, .slice pa cp.length pc], .int .i64 (D + 1)] w2 fun e w3 => e = .returned (.bool B) ∧ Below w2.heap.size w2 w3) : Calls Tryz.prog 34 #[.agg #[.int .i64 5, .int .i64 i, .string (st s), .slice sa cl.length sc, .slice pa cp.length pc], .int .i64 D] w fun e w' => e = .returned (.bool B) ∧ Below w.heap.size w w' := by
  have hb0 := below_al (w := w) (.cells #[.int .i64 5, .int .i64 i, .string (st s), .slice sa cl.length sc, .slice pa cp.length pc] 28)
  have hbx := new_at w #[.int .i64 5, .int .i64 i, .string (st s), .slice sa cl.length sc, .slice pa cp.length pc] 28
  obtain ⟨w1, hw1⟩ : ∃ w1, w1 = w.alloc (.cells #[.int .i64 5, .int .i64 i, .string (st s), .slice sa cl.length sc, .slice pa cp.length pc] 28) := ⟨_, rfl⟩
  rw [← hw1] at hb0 hbx
  have hsp := spare_d (k := 5) (i := i) (s := s) (sa := sa) (pa := pa) (nl := cl.length) (np := cp.length) (sc := sc) (pc := pc) (w := w1)
  rw [hsp0] at hsp
  replace hb0 := hide1 hb0
  replace hbx := hide1 hbx
  replace hc := hide1 hc
  go_enter Tryz.func34, Tryz.ntmps34
  go_wp2_with fail
  rw [← hw1]
  refine hsp.mono ?_
  rintro e w2 ⟨rfl, b2⟩
  have hB := hide1 (hb0.out.trans (b2.mono hb0.out.size))
  have hbx2 := (b2.block _ (Array.getElem?_eq_some_iff.1 hbx.out).1).trans hbx.out
  have c0 : w2.cell? ⟨w.heap.size, 0, none⟩ = some (.int .i64 (5)) := by simp only [World.cell?, hbx2]; rfl
  have c1 : w2.cell? ⟨w.heap.size, 1, none⟩ = some (.int .i64 i) := by simp only [World.cell?, hbx2]; rfl
  have c2 : w2.cell? ⟨w.heap.size, 2, none⟩ = some (.string (st s)) := by simp only [World.cell?, hbx2]; rfl
  have c3 : w2.cell? ⟨w.heap.size, 3, none⟩ = some (.slice sa cl.length sc) := by simp only [World.cell?, hbx2]; rfl
  have c4 : w2.cell? ⟨w.heap.size, 4, none⟩ = some (.slice pa cp.length pc) := by simp only [World.cell?, hbx2]; rfl
  have hcc := hc.out w2 hB.out
  clear hsp b2 hw1 hb0 hbx
  go_wp2_with fail
  refine hcc.mono ?_
  rintro e w3 ⟨rfl, b3⟩
  have hB3 := hide1 (hB.out.trans (b3.mono hB.out.size))
  clear hcc b3 hB
  go_wp2
  go_ret
  exact ⟨rfl, hB3.out⟩
set_option maxHeartbeats 4000000 in
set_option maxRecDepth 100000 in
theorem snd_o {k i : Int} {s : List UInt8} {sa pa : Option Addr} {cl cp : List (List Value)} {sc pc : Nat} {w : World} {D : Int} (hsp0 : spB k i s cl.length cp.length = false) (k0 : k ≠ 0) (k1 : k ≠ 1) (k2 : k ≠ 2) (k3 : k ≠ 3) (k4 : k ≠ 4) (k5 : k ≠ 5) : Calls Tryz.prog 34 #[.agg #[.int .i64 k, .int .i64 i, .string (st s), .slice sa cl.length sc, .slice pa cp.length pc], .int .i64 D] w fun e w' => e = .returned (.bool false) ∧ Below w.heap.size w w' := by
  have hb0 := below_al (w := w) (.cells #[.int .i64 k, .int .i64 i, .string (st s), .slice sa cl.length sc, .slice pa cp.length pc] 28)
  have hbx := new_at w #[.int .i64 k, .int .i64 i, .string (st s), .slice sa cl.length sc, .slice pa cp.length pc] 28
  obtain ⟨w1, hw1⟩ : ∃ w1, w1 = w.alloc (.cells #[.int .i64 k, .int .i64 i, .string (st s), .slice sa cl.length sc, .slice pa cp.length pc] 28) := ⟨_, rfl⟩
  rw [← hw1] at hb0 hbx
  have hsp := spare_d (k := k) (i := i) (s := s) (sa := sa) (pa := pa) (nl := cl.length) (np := cp.length) (sc := sc) (pc := pc) (w := w1)
  rw [hsp0] at hsp
  replace hb0 := hide1 hb0
  replace hbx := hide1 hbx
  have d0 : (k == 0) = false := by simpa using k0
  have d1 : (k == 1) = false := by simpa using k1
  have d2 : (k == 2) = false := by simpa using k2
  have d3 : (k == 3) = false := by simpa using k3
  have d4 : (k == 4) = false := by simpa using k4
  have d5 : (k == 5) = false := by simpa using k5
  go_enter Tryz.func34, Tryz.ntmps34
  go_wp2_with fail
  rw [← hw1]
  refine hsp.mono ?_
  rintro e w2 ⟨rfl, b2⟩
  have hB := hide1 (hb0.out.trans (b2.mono hb0.out.size))
  have hbx2 := (b2.block _ (Array.getElem?_eq_some_iff.1 hbx.out).1).trans hbx.out
  have c0 : w2.cell? ⟨w.heap.size, 0, none⟩ = some (.int .i64 k) := by simp only [World.cell?, hbx2]; rfl
  have c1 : w2.cell? ⟨w.heap.size, 1, none⟩ = some (.int .i64 i) := by simp only [World.cell?, hbx2]; rfl
  have c2 : w2.cell? ⟨w.heap.size, 2, none⟩ = some (.string (st s)) := by simp only [World.cell?, hbx2]; rfl
  have c3 : w2.cell? ⟨w.heap.size, 3, none⟩ = some (.slice sa cl.length sc) := by simp only [World.cell?, hbx2]; rfl
  have c4 : w2.cell? ⟨w.heap.size, 4, none⟩ = some (.slice pa cp.length pc) := by simp only [World.cell?, hbx2]; rfl
  clear hsp b2 hw1 hb0 hbx
  go_wp2
  go_ret
  exact ⟨rfl, hB.out⟩
theorem sound_s {n : Nat} (hn : n ≤ 8) (ih : ∀ m, n = m + 1 → Sok m) : Sok n := by
  intro F w t c h hh hs hv hT h8
  cases h with
  | zero => exact hh.elim
  | succ h =>
  cases hv with
  | @mk k i s l p sl sp cl cp r1 r2 e1 e2 hl hp1 hp2 =>
    obtain ⟨b1, b2, hh1, hh2⟩ := hh
    obtain ⟨z0, z1, z2⟩ := hs
    obtain ⟨sa, sc, rfl⟩ := r1.slc
    obtain ⟨pa, pc, rfl⟩ := r2.slc
    unfold gd
    rw [← e1, ← e2]
    cases hsp : spB k i s cl.length cp.length with
    | true => exact snd_sp hsp
    | false =>
      simp only [Bool.not_false, Bool.true_and]
      by_cases k0 : k = 0
      · subst k0
        rw [if_pos rfl]
        exact snd_0 hsp
      rw [if_neg k0]
      by_cases k1 : k = 1
      · subst k1
        rw [if_pos rfl]
        by_cases i0 : i = 0
        · subst i0
          exact snd_10 hsp
        · by_cases i1 : i = 1
          · subst i1
            exact snd_11 hsp
          · rw [decide_eq_false (by omega)]
            exact snd_1o hsp i0 i1
      rw [if_neg k1]
      by_cases k2 : k = 2
      · subst k2
        rw [if_pos rfl]
        exact snd_2 hsp
      rw [if_neg k2]
      by_cases k3 : k = 3
      · subst k3
        rw [if_pos rfl]
        exact snd_3 hsp z0 hT h8
      rw [if_neg k3]
      by_cases k4 : k = 4
      · subst k4
        rw [if_pos rfl]
        cases n with
        | zero => exact snd_4z hsp rfl
        | succ n =>
          refine snd_4 hsp (by omega) (by omega) fun w2 hb => ?_
          rw [show ((8 - (n + 1) : Nat) : Int) + 1 = ((8 - n : Nat) : Int) by omega]
          exact sndL_d (ih n rfl) (r1.frame (w' := w2) (G := F) (fun j _ hj => hb.block j hj) (fun _ h _ => h)) e1 (by omega) hh1 z1 (fun j t c h1 h2 => (hl j t c h1 h2).frame (fun j _ hj => hb.block j hj) (fun _ h _ => h)) (hT.below hb (by omega)) (by have := hb.size; omega)
      rw [if_neg k4]
      by_cases k5 : k = 5
      · subst k5
        rw [if_pos rfl]
        cases n with
        | zero => exact snd_5z hsp rfl
        | succ n =>
          refine snd_5 hsp (by omega) (by omega) fun w2 hb => ?_
          rw [show ((8 - (n + 1) : Nat) : Int) + 1 = ((8 - n : Nat) : Int) by omega]
          exact (callsIn_wide (n := 5)).1 (sndP_in (ih n rfl) (r2.frame (w' := w2) (G := F) (fun j _ hj => hb.block j hj) (fun _ h _ => h)) e2 (by omega) hh2 z2 (fun j q c h1 h2 => ⟨hp1 j q c h1 h2, (hp2 j q c h1 h2).frame (fun j _ hj => hb.block j hj) (fun _ h _ => h)⟩) (hT.below hb (by omega)) (by have := hb.size; omega))
      rw [if_neg k5]
      exact snd_o hsp k0 k1 k2 k3 k4 k5
theorem sound_d : ∀ n, n ≤ 8 → Sok n
  | 0, h => sound_s h fun m e => by cases e
  | n + 1, h => sound_s h fun m e => by cases e; exact sound_d n (by omega)
theorem check_d {F : Nat → Prop} {w : World} {t : T} {c : List Value} {h : Nat} (hh : hgt h t) (hs : sbd h t) (hv : VA F w t c) (hT : Ev w) (h8 : 8 ≤ w.heap.size) : Calls Tryz.prog 17 #[.agg c.toArray] w fun e w' => e = .returned (if gd 8 t then .nilIface else .iface 52 (.int .i64 1)) ∧ Below w.heap.size w w' := by
  have hc5 := hv.len
  obtain ⟨y0, y1, y2, y3, y4, rfl⟩ := five_l hc5
  have hb0 := below_al (w := w) (.cells #[y0, y1, y2, y3, y4] 28)
  have hc := sound_d 8 (by omega) (c := [y0, y1, y2, y3, y4]) hh hs (hv.frame (fun j _ hj => hb0.block j hj) (fun _ h _ => h)) (hT.below hb0 (by omega)) (by have := hb0.size; omega)
  replace hc : Calls Tryz.prog 34 #[.agg #[y0, y1, y2, y3, y4], .int .i64 0] (w.alloc (.cells #[y0, y1, y2, y3, y4] 28)) _ := hc
  replace hb0 := hide1 hb0
  generalize gd 8 t = B at *
  clear hv hT hc5 hh hs
  show Calls Tryz.prog 17 #[.agg #[y0, y1, y2, y3, y4]] w _
  go_enter Tryz.func17, Tryz.ntmps17
  go_wp2_with fail
  refine hc.mono ?_
  rintro e w1 ⟨rfl, b1⟩
  replace b1 := hide1 (hb0.out.trans (b1.mono hb0.out.size))
  clear hc hb0
  cases B with
  | true =>
    go_wp2
    go_ret
    exact ⟨rfl, b1.out⟩
  | false =>
    go_wp2
    go_ret
    exact ⟨rfl, b1.out⟩
theorem gd_list {n : Nat} {k i : Int} {s : List UInt8} {l : List T} {p : List (List UInt8 × T)} (h : gd n (.mk k i s l p) = true) : (l = [] ∨ ∃ m, n = m + 1 ∧ ∀ t ∈ l, gd m t = true) ∧ (p = [] ∨ ∃ m, n = m + 1 ∧ ∀ q ∈ p, gd m q.2 = true) ∧ (p.map (·.1)).Nodup ∧ (k ≠ 5 → p = []) := by
  unfold gd at h
  rw [Bool.and_eq_true] at h
  obtain ⟨h1, h2⟩ := h
  have h1 : spB k i s l.length p.length = false := by simpa using h1
  have hl : k ≠ 4 → l = [] := fun hk => by
    cases l with
    | nil => rfl
    | cons a l => rw [spB_3 ⟨by simp, hk⟩] at h1; cases h1
  have hp : k ≠ 5 → p = [] := fun hk => by
    cases p with
    | nil => rfl
    | cons a p => rw [spB_4 ⟨by simp, hk⟩] at h1; cases h1
  refine ⟨?_, ?_, ?_, hp⟩
  · by_cases k4 : k = 4
    · subst k4
      simp only [show ¬ (4 : Int) = 0 by omega, show ¬ (4 : Int) = 1 by omega, show ¬ (4 : Int) = 2 by omega, show ¬ (4 : Int) = 3 by omega, if_false, if_true] at h2
      cases n with
      | zero => cases h2
      | succ n => exact .inr ⟨n, rfl, List.all_eq_true.1 h2⟩
    · exact .inl (hl k4)
  · by_cases k5 : k = 5
    · subst k5
      simp only [show ¬ (5 : Int) = 0 by omega, show ¬ (5 : Int) = 1 by omega, show ¬ (5 : Int) = 2 by omega, show ¬ (5 : Int) = 3 by omega, show ¬ (5 : Int) = 4 by omega, if_false, if_true] at h2
      cases n with
      | zero => cases h2
      | succ n =>
        rw [Bool.and_eq_true] at h2
        refine .inr ⟨n, rfl, fun q hq => ?_⟩
        have := List.all_eq_true.1 h2.1 q hq
        rw [Bool.and_eq_true] at this
        exact this.2
    · exact .inl (hp k5)
  · by_cases k5 : k = 5
    · subst k5
      simp only [show ¬ (5 : Int) = 0 by omega, show ¬ (5 : Int) = 1 by omega, show ¬ (5 : Int) = 2 by omega, show ¬ (5 : Int) = 3 by omega, show ¬ (5 : Int) = 4 by omega, if_false, if_true] at h2
      cases n with
      | zero => cases h2
      | succ n =>
        rw [Bool.and_eq_true] at h2
        exact of_decide_eq_true h2.2
    · rw [hp k5]; simp
section
variable {k i : Int} {s : List UInt8} {sa pa sa' pa' : Option Addr} {A P A' P' sc pc sc' pc' : Nat} {w : World}
end
section
variable {F : Fence} {n : Nat} {P : Program} {ops : Array Oper} {Q : Exit → Act → World → Prop}
end
section
variable {F : Fence} {n : Nat} {P : Program} {ops : Array Oper} {Q : Exit → Act → World → Prop}
def OpI (F : Fence) (n : Nat) (P : Program) (l : List Oper) (Q : Exit → Act → World → Prop) (o : Oper) (a : Act) (w : World) (K : Act → World → Prop) : Prop :=
  (Region.wanted o (yielded l.toArray a.tmps) = true ∧ o.wpIn F n P a w K Q) ∨ (Region.wanted o (yielded l.toArray a.tmps) = false ∧ K (a.put o.dst undef) w)
theorem OpI.plain {l : List Oper} {o : Oper} {a : Act} {w : World} {K : Act → World → Prop} (hg : o.guard = none) (h : o.wpIn F n P a w K Q) : OpI F n P l Q o a w K := .inl ⟨by unfold Region.wanted; rw [hg], h⟩
theorem OpI.want {l : List Oper} {o : Oper} {a : Act} {w : World} {K : Act → World → Prop} {j d : Nat} {b : Bool} (hg : o.guard = some (j, b)) (hd : (l[j]?).bind (·.dst) = some d) (hs : d < a.tmps.size) (hv : a.tmps.getD d undef = .bool b) (h : o.wpIn F n P a w K Q) : OpI F n P l Q o a w K := by
  refine .inl ⟨?_, h⟩
  have ht : a.tmps[d]? = some (.bool b) := by
    rw [Array.getElem?_eq_getElem hs]
    simpa [Array.getD, hs] using hv
  unfold Region.wanted yielded
  rw [hg]
  simp [hd, ht]
theorem OpI.skip {l : List Oper} {o : Oper} {a : Act} {w : World} {K : Act → World → Prop} {j d : Nat} {b : Bool} (hg : o.guard = some (j, b)) (hd : (l[j]?).bind (·.dst) = some d) (hs : d < a.tmps.size) (hv : a.tmps.getD d undef = .bool (!b)) (h : K (a.put o.dst undef) w) : OpI F n P l Q o a w K := by
  refine .inr ⟨?_, h⟩
  have ht : a.tmps[d]? = some (.bool (!b)) := by
    rw [Array.getElem?_eq_getElem hs]
    simpa [Array.getD, hs] using hv
  unfold Region.wanted yielded
  rw [hg]
  cases b <;> simp [hd, ht]
end
section
variable {F : Fence} {n : Nat} {P : Program} {Q : Exit → Act → World → Prop}
end
end Go.Proofs.YtbemaloaobeblaaGreatDoor

namespace Go.Proofs.YtbemaloaobeblaaGreatDoor
open Go.RowKit Go.Shelf Go.Maps
attribute [local go_sem] Oper.semAt_some

structure Pb (w : World) (c c' : Array Value) (bm mb mn : Nat) (D : DataW Unit) (W : World) : Prop where
  bw : Below w.heap.size w W
  b2 : W.heap[w.heap.size]? = some (.cells c 28 (0, 0))
  b3 : W.heap[w.heap.size + 1]? = some (.cells c' 28 (0, 0))
  b4 : W.heap[w.heap.size + 2]? = some (.cells #[.bool false] 4 (0, 0))
  b5 : W.heap[bm]? = some (.cells #[.map (some mb)] 105 (0, 0))
  mp : W.ownsMap Tryz.prog 9 (plainElem Tryz.prog 3) mb mn D
theorem Pb.later {w W W' : World} {c c' : Array Value} {bm mb mn : Nat} {D : DataW Unit} (h : Pb w c c' bm mb mn D W) (k : Below W.heap.size W W') : Pb w c c' bm mb mn D W' :=
  ⟨h.bw.trans (k.mono h.bw.size), (k.block _ (Array.getElem?_eq_some_iff.1 h.b2).1).trans h.b2, (k.block _ (Array.getElem?_eq_some_iff.1 h.b3).1).trans h.b3, (k.block _ (Array.getElem?_eq_some_iff.1 h.b4).1).trans h.b4, (k.block _ (Array.getElem?_eq_some_iff.1 h.b5).1).trans h.b5, map_same h.mp (k.block _ h.mp.lt)⟩
theorem Pb.own {w W W' : World} {c c' : Array Value} {bm mb mn B : Nat} {D : DataW Unit} {row : Option Nat} (h : Pb w c c' bm mb mn D W) (hg : W.grownBy W' row) (hr : ∀ r, row = some r → B ≤ r) (h1 : w.heap.size + 3 ≤ B) (h2 : bm < B) (h3 : mb < B) : Pb w c c' bm mb mn D W' := by
  have ne : ∀ j, j < B → some j ≠ row := fun j hj e => by have := hr j e.symm; omega
  exact ⟨⟨hg.os.trans h.bw.os, hg.tape.trans h.bw.tape, hg.output.trans h.bw.output, Nat.le_trans h.bw.size hg.size, fun j hj => (hg.block j (Nat.lt_of_lt_of_le hj h.bw.size) (ne j (by omega))).trans (h.bw.block j hj)⟩, (hg.block _ (Array.getElem?_eq_some_iff.1 h.b2).1 (ne _ (by omega))).trans h.b2, (hg.block _ (Array.getElem?_eq_some_iff.1 h.b3).1 (ne _ (by omega))).trans h.b3, (hg.block _ (Array.getElem?_eq_some_iff.1 h.b4).1 (ne _ (by omega))).trans h.b4, (hg.block _ (Array.getElem?_eq_some_iff.1 h.b5).1 (ne _ h2)).trans h.b5, map_same h.mp (hg.block _ h.mp.lt (ne _ h3))⟩
attribute [local go_sem] Oper.semAt_some

end Go.Proofs.YtbemaloaobeblaaGreatDoor

namespace Go.Proofs.YtbemaloaobeblaaGreatDoor
open Go.RowKit Go.Shelf
section
variable {k i : Int} {s : List UInt8} {sa pa sa' pa' : Option Addr} {A P A' P' sc pc sc' pc' : Nat} {w : World}
end
end Go.Proofs.YtbemaloaobeblaaGreatDoor

namespace Go.Proofs.YtbemaloaobeblaaGreatDoor
open Go.RowKit
section
variable {P : Program} {Q : Exit → Act → World → Prop}
end
end Go.Proofs.YtbemaloaobeblaaGreatDoor

namespace Go.Proofs.YtbemaloaobeblaaGreatDoor
open Go.RowKit Go.Shelf
section
variable {P : Program} {Q : Exit → Act → World → Prop}
def Hop5 (P : Program) (Q : Exit → Act → World → Prop) (l : List Oper) (n : Nat) (a0 : Act) (dd : Nat → Nat) (Rr : (Nat → Bool) → Nat → Value → World → Prop) (M : (Nat → Bool) → World → Prop) (i : Nat) (o : Oper) : Prop :=
  ∀ (D : Nat → Bool) (a : Act) (w : World), M D w → (∀ t, (∀ j, j < n → dd j ≠ t) → a.tmps.getD t undef = a0.tmps.getD t undef) → (∀ e ∈ o.after, Region.binds .any e = true → Rr D e.on (a.tmps.getD (dd e.on) undef) w ∧ D e.on = true) → D i = false → (∀ j oj, l[j]? = some oj → D j = true → ∀ e ∈ oj.after, Region.binds .any e = true → D e.on = true) →
    ∀ K : Act → World → Prop, (∀ v w', Rr (add1 D i) i v w' → M (add1 D i) w' → (∀ j u, j ≠ i → u = a.tmps.getD (dd j) undef → Rr D j u w → Rr (add1 D i) j u w') → K (a.put o.dst v) w') → Region.wanted o (yielded l.toArray a.tmps) = true ∧ o.wp P a w K Q
theorem wp_rel5 {l : List Oper} {id : Nat} (a0 : Act) (w0 : World) (Rr : (Nat → Bool) → Nat → Value → World → Prop) (M : (Nat → Bool) → World → Prop) (dd : Nat → Nat) (hm : P.follows .mixedOrders = true) (hac : acycB l.toArray = true) (n : Nat) (hn : l.length = n)
    (hdst : ∀ i o, l[i]? = some o → (o.dst = some (dd i) ∧ dd i < a0.tmps.size) ∨ (o.dst = none ∧ ∀ D v w, Rr D i v w → Rr D i undef w) ∧ a0.tmps.size ≤ dd i)
    (hinj : ∀ i j, i < n → j < n → dd i = dd j → i = j) (hdf : a0.defers = []) (h0 : M (fun _ => false) w0.drew)
    (hop : ∀ i o, l[i]? = some o → Hop5 P Q l n a0 dd Rr M i o)
    (hend : ∀ (D : Nat → Bool) (a : Act) (w : World), (∀ i, i < n → D i = true) → a.defers = [] → a.tmps.size = a0.tmps.size → M D w → (∀ t, (∀ j, j < n → dd j ≠ t) → a.tmps.getD t undef = a0.tmps.getD t undef) → (∀ i, i < n → Rr D i (a.tmps.getD (dd i) undef) w) → a = (l.filterMap (·.dst)).foldl (fun s d => s.put (some d) (a.tmps.getD d undef)) a0 → Q .normal a w) : (Code.region id l.toArray true).wp P Q a0 w0 := by
  subst hn
  have hacyc := acyc_of (ops := l.toArray) hac
  refine wp_region_any hm (wpAny_sym hacyc (fun D a w => a.defers = [] ∧ a.tmps.size = a0.tmps.size ∧ M D w ∧ (∀ t, (∀ j, j < l.length → dd j ≠ t) → a.tmps.getD t undef = a0.tmps.getD t undef) ∧ (∀ i, i < l.length → D i = true → Rr D i (a.tmps.getD (dd i) undef) w) ∧ ∀ j oj, l[j]? = some oj → D j = true → ∀ e ∈ oj.after, Region.binds .any e = true → D e.on = true) ?_ ?_ l.toArray.size _ a0 _ (by simp) ?_ ?_)
  · rintro D a w ⟨h1, h2, h3, h4, h5, h6⟩ i o ho hD hdep K hK
    have ho' : l[i]? = some o := by simpa using ho
    have hil : i < l.length := (List.getElem?_eq_some_iff.1 ho').1
    left
    refine hop i o ho' D a w h3 h4 (fun e he hb => ⟨h5 e.on (by have := hacyc i o ho e he hb; omega) (hdep e he hb), hdep e he hb⟩) (by simpa using hD) h6 K fun v w' hR hM hmono => hK _ _ ?_
    have hold : ∀ j, j < l.length → j ≠ i → add1 D i j = true → Rr (add1 D i) j (a.tmps.getD (dd j) undef) w' := fun j hj hne hDj => hmono j _ hne rfl (h5 j hj (by unfold add1 at hDj; rwa [if_neg hne] at hDj))
    have hcl : ∀ j oj, l[j]? = some oj → add1 D i j = true → ∀ e ∈ oj.after, Region.binds .any e = true → add1 D i e.on = true := by
      intro j oj hj hDj e he hb
      unfold add1
      split
      · rfl
      · unfold add1 at hDj
        split at hDj
        · rename_i hji
          subst hji
          rw [ho'] at hj; cases hj
          exact hdep e he hb
        · exact h6 j oj hj hDj e he hb
    rcases hdst i o ho' with ⟨hd, hlt⟩ | ⟨⟨hd, hu⟩, hge⟩
    · have hdi : dd i < a.tmps.size := by rw [h2]; exact hlt
      rw [hd]
      refine ⟨h1, by unfold Act.put; simpa using h2, hM, fun t ht => ?_, fun j hj hDj => ?_, hcl⟩
      · rw [putg_ hdi, if_neg (fun e => ht i hil e.symm)]; exact h4 t ht
      · rw [putg_ hdi]
        by_cases e : dd j = dd i
        · rw [if_pos e, hinj j i hj hil e]; exact hR
        · rw [if_neg e]; exact hold j hj (fun e2 => e (by rw [e2])) hDj
    · rw [hd]
      refine ⟨h1, h2, hM, h4, fun j hj hDj => ?_, hcl⟩
      by_cases e : j = i
      · subst e
        have hz : a.tmps.getD (dd j) undef = undef := by
          rw [Array.getD_eq_getD_getElem?, Array.getElem?_eq_none (by rw [h2]; exact hge)]; rfl
        rw [show (a.put none v).tmps.getD (dd j) undef = undef from hz]
        exact hu _ _ _ hR
      · exact hold j hj e hDj
  · rintro D a w ⟨h1, h2, h3, h4, h5, _⟩ hall
    refine hend D a w (fun i hi => hall i (by simpa using hi)) h1 h2 h3 h4 (fun i hi => h5 i hi (hall i (by simpa using hi))) (act_puts (h1.trans hdf.symm) h2 fun t ht => ?_)
    by_cases hts : t < a0.tmps.size
    · refine h4 t fun j hj e => ?_
      rcases hdst j _ (List.getElem?_eq_getElem hj) with ⟨hd, _⟩ | ⟨_, hge⟩
      · unfold wrB at ht
        rw [List.any_eq_false] at ht
        exact ht _ (List.getElem_mem hj) (by rw [hd, e]; simp)
      · omega
    · rw [Array.getD_eq_getD_getElem?, Array.getD_eq_getD_getElem?, Array.getElem?_eq_none (by omega), Array.getElem?_eq_none (by omega)]
  · exact Nat.le_trans (List.length_filter_le _ _) (by simp)
  · have e : ∀ i, (Array.replicate l.toArray.size false).getD i false = false := by
      intro i
      by_cases h : i < l.toArray.size <;> simp [Array.getD]
    have ef : (fun i => (Array.replicate l.toArray.size false).getD i false) = fun _ => false := funext e
    refine ⟨hdf, rfl, ?_, fun _ _ => rfl, fun i _ hi => ?_, fun i _ _ hi => ?_⟩
    · exact ef ▸ h0
    · replace hi : (Array.replicate l.toArray.size false).getD i false = true := hi
      rw [e] at hi; cases hi
    · replace hi : (Array.replicate l.toArray.size false).getD i false = true := hi
      rw [e] at hi; cases hi
end
end Go.Proofs.YtbemaloaobeblaaGreatDoor

namespace Go.Proofs.YtbemaloaobeblaaGreatDoor
open Go.RowKit

structure Ob (w w' : World) (g : Nat) : Prop where
  os : w'.os = w.os
  tape : w'.tape = w.tape
  output : w'.output = w.output
  size : w'.heap.size = w.heap.size
  block : ∀ k, k ≠ g → w'.heap[k]? = w.heap[k]?
theorem Ob.refl (w : World) (g : Nat) : Ob w w g := ⟨rfl, rfl, rfl, rfl, fun _ _ => rfl⟩
abbrev Ep := List UInt8 × List Value
def cl (e : Ep) : List Value := .string (st e.1) :: e.2
def ltE (e e' : Ep) : Bool := bl e.1 e'.1
theorem ok_ltE : Ok ltE := ⟨fun _ => bl_irr _, fun _ _ _ => bl_tr _ _ _, fun _ _ _ => bl_wk _ _ _⟩
def EpOk (e : Ep) : Prop := e.2.length = 5 ∧ e.2.all (·.oneCell') = true
theorem EpOk.len {e : Ep} (h : EpOk e) : (cl e).length = 6 := by simp [cl, h.1]
theorem EpOk.one {e : Ep} (h : EpOk e) : (cl e).all (·.oneCell') = true := by
  show (true && e.2.all (·.oneCell')) = true
  rw [h.2]; rfl
def upd' {α : Type} (F : Nat → α) (x : Nat) (e : α) : Nat → α := fun k => if k = x then e else F k
structure Rw (w : World) (B g n cap : Nat) (F : Nat → Ep) : Prop where
  row : w.ownsRow B 49 6 (.slice (some ⟨g, 0, none⟩) n cap) n ((sg F 0 n).map cl).flatten
  ok : ∀ k, k < n → EpOk (F k)
section
variable {w w' : World} {B g n cap : Nat} {F : Nat → Ep}
theorem Rw.lens (h : Rw w B g n cap F) : ∀ c ∈ (sg F 0 n).map cl, c.length = 6 := fun c hc => by
  obtain ⟨e, he, rfl⟩ := List.mem_map.1 hc
  obtain ⟨k, _, hk, rfl⟩ := sg_mem.1 he
  exact (h.ok k (by omega)).len
theorem Rw.congr (h : Rw w B g n cap F) {G : Nat → Ep} (e : ∀ k, k < n → G k = F k) : Rw w B g n cap G := by
  refine ⟨?_, fun k hk => by rw [e k hk]; exact h.ok k hk⟩
  rw [sg_congr (F := G) (G := F) (b := 0) fun i hi => by rw [Nat.zero_add]; exact e i hi]
  exact h.row
theorem Rw.keep (h : Rw w B g n cap F) (hb : w'.heap[g]? = w.heap[g]?) : Rw w' B g n cap F :=
  ⟨own_kept h.row fun b e => by have : b = g := by simpa [Value.ownBlock] using e.symm
                                subst this; exact hb, h.ok⟩
theorem Rw.later (h : Rw w B g n cap F) (hb : Below w.heap.size w w') : Rw w' B g n cap F := by
  obtain ⟨cur, hg, _⟩ := own_cur h.row
  exact h.keep (hb.block g (Array.getElem?_eq_some_iff.1 hg).1)
theorem Rw.lt (h : Rw w B g n cap F) : B ≤ g ∧ g < w.heap.size := by
  obtain ⟨cur, hg, _, hB⟩ := own_cur h.row
  exact ⟨hB, (Array.getElem?_eq_some_iff.1 hg).1⟩
theorem Rw.range (h : Rw w B g n cap F) {x : Nat} (hx : x < n) : w.rangeAt g (x * 6) (cl (F x)) := by
  have h1 := own_rows (F := fun _ => True) (cs := (sg F 0 n).map cl) (by rw [List.length_map, sg_len]; exact h.row) h.lens (fun _ _ => trivial)
  obtain ⟨b, o, cap', e, _, _, h2⟩ := h1.at (i := x) (c := cl (F x)) (by rw [List.getElem?_map, sg_at hx, Nat.zero_add]; rfl)
  have e2 := congrArg (fun v => match v with | Value.slice (some a) _ _ => some (a.block, a.off) | _ => none) e
  simp only [Option.some.injEq, Prod.mk.injEq] at e2
  obtain ⟨rfl, rfl⟩ := e2
  rw [Nat.zero_add] at h2
  exact h2
theorem Rw.load (h : Rw w B g n cap F) {x : Nat} (hx : x < n) : (Instr.loadAt 49 (.pointer (some ⟨g, x * 6, none⟩))).run Tryz.prog w = .ok (.agg (cl (F x)).toArray) w := by
  have hl := (h.ok x hx).len
  simp only [Instr.loadAt, Instr.sureAddr, Sem.run_bind, Sem.run_pure, Result.andThen_ok, run_loadVar_mid w g (x * 6) 49 (cl (F x)) _ (h.range hx) Tryz.underlying49 rfl (by rw [hl]; kernel_rfl)]
theorem Rw.name (h : Rw w B g n cap F) {x : Nat} (hx : x < n) : w.cell? ⟨g, x * 6, none⟩ = some (.string (st (F x).1)) := h.range hx 0 _ rfl
theorem Ob.trans {w w' w2 : World} {g : Nat} (h : Ob w w' g) (h2 : Ob w' w2 g) : Ob w w2 g :=
  ⟨h2.os.trans h.os, h2.tape.trans h.tape, h2.output.trans h.output, h2.size.trans h.size, fun k hk => (h2.block k hk).trans (h.block k hk)⟩
theorem Ob.rowset {w w' : World} {g : Nat} {c : Array Value} (h : Ob w w' g) : Ob w (w'.setRow g c) g :=
  ⟨h.os, h.tape, h.output, by rw [← h.size]; simp [World.setRow], fun k hk => (setRow_other w' g k _ hk).trans (h.block k hk)⟩
theorem Rw.store (h : Rw w B g n cap F) {x : Nat} (hx : x < n) {e : Ep} (he : EpOk e) : ∃ c, (Instr.storeAt 49 (.pointer (some ⟨g, x * 6, none⟩)) (.agg (cl e).toArray)).run Tryz.prog w = .ok () (w.setRow g c) ∧ Rw (w.setRow g c) B g n cap (upd' F x e) := by
  obtain ⟨cur, hg, hcur, hB⟩ := own_cur h.row
  have hl := he.len
  have hfit : x * 6 + 6 ≤ n * 6 := by omega
  have hst := st_eP (c := (cl e).toArray) hg (by simpa using hl) (Nat.le_trans hfit hcur) (by simpa using he.one)
  have hp := own_piece h.row (c := (cl e).toArray) (m := 6) (by simpa using hl) hfit hg
  refine ⟨_, hst, ?_, fun k hk => ?_⟩
  · have hs := flat_set h.lens x (cl e) (by rw [List.length_map, sg_len]; exact hx)
    simp only [] at hp
    rw [← hs] at hp
    have e2 : ((sg F 0 n).map cl).set x (cl e) = (sg (upd' F x e) 0 n).map cl := by
      refine List.ext_getElem? fun j => ?_
      rw [List.getElem?_set, List.length_map, sg_len, List.getElem?_map, List.getElem?_map]
      by_cases hj : j < n
      · rw [sg_at hj, sg_at hj, Nat.zero_add]
        unfold upd'
        by_cases e3 : x = j
        · subst e3; simp [hx]
        · rw [if_neg e3, if_neg (fun e4 => e3 e4.symm)]
      · rw [List.getElem?_eq_none (by rw [sg_len]; omega), List.getElem?_eq_none (by rw [sg_len]; omega)]
        split
        · rename_i e3; subst e3; exact absurd hx hj
        · rfl
    rw [← e2]
    exact hp
  · unfold upd'
    split
    · exact he
    · exact h.ok k hk
end
def fsw {α : Type} (D1 D2 : Bool) (F : Nat → α) (x y : Nat) : Nat → α := fun k => if D1 = true ∧ k = x then F y else if D2 = true ∧ k = y then F x else F k
def Msw (W : World) (B g n cap : Nat) (F : Nat → Ep) (x y : Nat) (D1 D2 : Bool) (w : World) : Prop := (EpOk (F x) ∧ EpOk (F y)) ∧ Rw w B g n cap (fsw D1 D2 F x y) ∧ Ob W w g
section
variable {W w : World} {B g n cap x y : Nat} {F : Nat → Ep} {D : Nat → Bool} {D1 D2 : Bool}
theorem msw_ne {i s1 s2 : Nat} (h1 : s1 ≠ i) (h2 : s2 ≠ i) (h : Msw W B g n cap F x y (D s1) (D s2) w) : Msw W B g n cap F x y (add1 D i s1) (add1 D i s2) w := by
  rw [add1_ne h1, add1_ne h2]; exact h
theorem fsw_00 : fsw false false F x y = F := by funext k; simp [fsw]
theorem fsw_11 : fsw true true F x y = sr F x y 1 := by
  funext k
  unfold fsw sr
  simp only [true_and]
  (repeat' split) <;> first | rfl | omega | (congr 1; omega)
theorem msw_start (hx : x < n) (hy : y < n) (h : Rw W B g n cap F) : Msw W B g n cap F x y false false W.drew := by
  refine ⟨⟨h.ok x hx, h.ok y hy⟩, ?_, ⟨rfl, rfl, rfl, rfl, fun _ _ => rfl⟩⟩
  rw [fsw_00]
  exact h.keep rfl
theorem msw_00 (h1 : D1 = false) (h2 : D2 = false) (h : Msw W B g n cap F x y D1 D2 w) : Rw w B g n cap F := by
  subst h1; subst h2
  have := h.2.1
  rwa [fsw_00] at this
theorem msw_1 {s1 s2 : Nat} (h12 : s2 ≠ s1) (_ : x ≠ y) (hx : x < n) (hD : D s1 = false) (h : Msw W B g n cap F x y (D s1) (D s2) w) :
    ∃ c, (Instr.storeAt 49 (.pointer (some ⟨g, x * 6, none⟩)) (.agg (cl (F y)).toArray)).run Tryz.prog w = .ok () (w.setRow g c) ∧ Msw W B g n cap F x y (add1 D s1 s1) (add1 D s1 s2) (w.setRow g c) := by
  obtain ⟨c, h1, h2⟩ := h.2.1.store hx h.1.2
  refine ⟨c, h1, h.1, ?_, h.2.2.rowset⟩
  rw [add1_eq, add1_ne h12]
  refine h2.congr fun k hk => ?_
  unfold fsw upd'
  rw [hD]
  simp only [true_and]
  (repeat' split) <;> first | rfl | omega | (exfalso; simp_all)
theorem msw_2 {s1 s2 : Nat} (h12 : s1 ≠ s2) (hxy : x ≠ y) (hy : y < n) (hD : D s2 = false) (h : Msw W B g n cap F x y (D s1) (D s2) w) :
    ∃ c, (Instr.storeAt 49 (.pointer (some ⟨g, y * 6, none⟩)) (.agg (cl (F x)).toArray)).run Tryz.prog w = .ok () (w.setRow g c) ∧ Msw W B g n cap F x y (add1 D s2 s1) (add1 D s2 s2) (w.setRow g c) := by
  obtain ⟨c, h1, h2⟩ := h.2.1.store hy h.1.1
  refine ⟨c, h1, h.1, ?_, h.2.2.rowset⟩
  rw [add1_eq, add1_ne h12]
  refine h2.congr fun k hk => ?_
  unfold fsw upd'
  rw [hD]
  simp only [true_and]
  (repeat' split) <;> first | rfl | omega | (exfalso; simp_all; done) | (exfalso; simp_all; omega)
theorem msw_11 (_ : x ≠ y) (h1 : D1 = true) (h2 : D2 = true) (h : Msw W B g n cap F x y D1 D2 w) : Rw w B g n cap (sr F x y 1) ∧ Ob W w g := by
  subst h1; subst h2
  have := h.2
  rwa [fsw_11] at this
end
theorem eqg_add {t : TypeId} {x u : Operand} {a b : Value} {w : World} : (eqGuard .add t x u a b).run Tryz.prog w = .ok () w := rfl
theorem add_n {a b : Nat} (h : a + b ≤ 1000000000) (w : World) : (binOp .add 3 (.int .i64 (a : Nat)) (.int .i64 (b : Nat))).run Tryz.prog w = .ok (.int .i64 (a + b : Nat)) w := by
  have e : ((a + b : Nat) : Int) = (a : Int) + (b : Int) := by omega
  have hwr : IntKind.i64.wrap ((a : Int) + (b : Int)) = (a : Int) + (b : Int) := by go_unwrap
  rw [e]
  simp [go_sem, hwr]
def SRv (g n cap xa xb i : Nat) (F : Nat → Ep) : Nat → Value → Prop
  | 0, v => v = (.slice (some ⟨g, 0, none⟩) n cap)
  | 1, v => v = (.int .i64 (xa : Nat))
  | 2, v => v = (.int .i64 (i : Nat))
  | 3, v => v = (.int .i64 (xa + i : Nat))
  | 4, v => v = (.slice (some ⟨g, 0, none⟩) n cap)
  | 5, v => v = (.int .i64 (xb : Nat))
  | 6, v => v = (.int .i64 (i : Nat))
  | 7, v => v = (.int .i64 (xb + i : Nat))
  | 8, v => v = (.slice (some ⟨g, 0, none⟩) n cap)
  | 9, v => v = (.int .i64 (xb : Nat))
  | 10, v => v = (.int .i64 (i : Nat))
  | 11, v => v = (.int .i64 (xb + i : Nat))
  | 12, v => v = .pointer (some ⟨g, (xb + i) * 6, none⟩)
  | 13, v => v = .agg (cl (F (xb + i))).toArray
  | 14, v => v = (.slice (some ⟨g, 0, none⟩) n cap)
  | 15, v => v = (.int .i64 (xa : Nat))
  | 16, v => v = (.int .i64 (i : Nat))
  | 17, v => v = (.int .i64 (xa + i : Nat))
  | 18, v => v = .pointer (some ⟨g, (xa + i) * 6, none⟩)
  | 19, v => v = .agg (cl (F (xa + i))).toArray
  | 20, v => v = .pointer (some ⟨g, (xa + i) * 6, none⟩)
  | 22, v => v = .pointer (some ⟨g, (xb + i) * 6, none⟩)
  | _, _ => True
def SRvd : Nat → Nat
  | 0 => 16
  | 1 => 17
  | 2 => 18
  | 3 => 19
  | 4 => 20
  | 5 => 21
  | 6 => 22
  | 7 => 23
  | 8 => 24
  | 9 => 25
  | 10 => 26
  | 11 => 27
  | 12 => 28
  | 13 => 29
  | 14 => 30
  | 15 => 31
  | 16 => 32
  | 17 => 33
  | 18 => 34
  | 19 => 35
  | 20 => 36
  | 21 => 1021
  | 22 => 37
  | 23 => 1023
  | i => 2000 + i

set_option maxHeartbeats 4000000 in
set_option maxRecDepth 100000 in
theorem swr_d {w : World} {B g n cap xa xb m : Nat} {F : Nat → Ep} {fv : Value} (h : Rw w B g n cap F) (hab : xa + m ≤ xb) (hbn : xb + m ≤ n) (hn : n ≤ 2000000) :
    Calls Tryz.prog 161 #[.slice (some ⟨g, 0, none⟩) n cap, .int .i64 (xa : Nat), .int .i64 (xb : Nat), .int .i64 (m : Nat), fv] w fun e w' => e = .returned (.tuple #[]) ∧ Rw w' B g n cap (sr F xa xb m) ∧ Ob w w' g := by
  have h0 : Hid (Rw w B g n cap (sr F xa xb 0)) := hide1 (by rw [sr_0]; exact h)
  clear h
  go_enter Tryz.func161, Tryz.ntmps161
  go_wp2_with fail
  go_loopw [10] (fun s10 wr => ∃ i : Nat, i ≤ m ∧ s10 = .int .i64 (i : Nat) ∧ Hid (Rw wr B g n cap (sr F xa xb i)) ∧ Hid (Ob w wr g)) (fun s _ => m - (intOf s).toNat)
  case atStart => exact ⟨0, by omega, rfl, h0, hide1 (Ob.refl w g)⟩
  case round =>
    obtain ⟨i, hi, rfl, hR, hO⟩ := hrel
    by_cases hlt : i < m
    · have hxy : xa + i ≠ xb + i := by omega
      have hxn : xa + i < n := by omega
      have hyn : xb + i < n := by omega
      have hadA := fun w => add_n (a := xa) (b := i) (by omega) w
      have hadB := fun w => add_n (a := xb) (b := i) (by omega) w
      have hsr : Hid (sr (sr F xa xb i) (xa + i) (xb + i) 1 = sr F xa xb (i + 1)) := hide1 (sr_s F (by omega))
      go_upto_region 3 with fail
      refine wp_rel5 _ _ (fun _ j v _ => SRv g n cap xa xb i (sr F xa xb i) j v) (fun D w => Msw wr B g n cap (sr F xa xb i) (xa + i) (xb + i) (D 21) (D 23) w) SRvd (by kernel_rfl) (by kernel_rfl) 24 (by kernel_rfl) ?_ ?_ rfl (msw_start hxn hyn hR.out) ?_ ?_
      · intro ix o ho
        match ix, ho with
        | 0, ho => obtain rfl := Option.some.inj ho; exact .inl ⟨rfl, by show 16 < 38; decide⟩
        | 1, ho => obtain rfl := Option.some.inj ho; exact .inl ⟨rfl, by show 17 < 38; decide⟩
        | 2, ho => obtain rfl := Option.some.inj ho; exact .inl ⟨rfl, by show 18 < 38; decide⟩
        | 3, ho => obtain rfl := Option.some.inj ho; exact .inl ⟨rfl, by show 19 < 38; decide⟩
        | 4, ho => obtain rfl := Option.some.inj ho; exact .inl ⟨rfl, by show 20 < 38; decide⟩
        | 5, ho => obtain rfl := Option.some.inj ho; exact .inl ⟨rfl, by show 21 < 38; decide⟩
        | 6, ho => obtain rfl := Option.some.inj ho; exact .inl ⟨rfl, by show 22 < 38; decide⟩
        | 7, ho => obtain rfl := Option.some.inj ho; exact .inl ⟨rfl, by show 23 < 38; decide⟩
        | 8, ho => obtain rfl := Option.some.inj ho; exact .inl ⟨rfl, by show 24 < 38; decide⟩
        | 9, ho => obtain rfl := Option.some.inj ho; exact .inl ⟨rfl, by show 25 < 38; decide⟩
        | 10, ho => obtain rfl := Option.some.inj ho; exact .inl ⟨rfl, by show 26 < 38; decide⟩
        | 11, ho => obtain rfl := Option.some.inj ho; exact .inl ⟨rfl, by show 27 < 38; decide⟩
        | 12, ho => obtain rfl := Option.some.inj ho; exact .inl ⟨rfl, by show 28 < 38; decide⟩
        | 13, ho => obtain rfl := Option.some.inj ho; exact .inl ⟨rfl, by show 29 < 38; decide⟩
        | 14, ho => obtain rfl := Option.some.inj ho; exact .inl ⟨rfl, by show 30 < 38; decide⟩
        | 15, ho => obtain rfl := Option.some.inj ho; exact .inl ⟨rfl, by show 31 < 38; decide⟩
        | 16, ho => obtain rfl := Option.some.inj ho; exact .inl ⟨rfl, by show 32 < 38; decide⟩
        | 17, ho => obtain rfl := Option.some.inj ho; exact .inl ⟨rfl, by show 33 < 38; decide⟩
        | 18, ho => obtain rfl := Option.some.inj ho; exact .inl ⟨rfl, by show 34 < 38; decide⟩
        | 19, ho => obtain rfl := Option.some.inj ho; exact .inl ⟨rfl, by show 35 < 38; decide⟩
        | 20, ho => obtain rfl := Option.some.inj ho; exact .inl ⟨rfl, by show 36 < 38; decide⟩
        | 21, ho => obtain rfl := Option.some.inj ho; exact .inr ⟨⟨rfl, fun _ _ _ _ => trivial⟩, by show 38 ≤ 1021; decide⟩
        | 22, ho => obtain rfl := Option.some.inj ho; exact .inl ⟨rfl, by show 37 < 38; decide⟩
        | 23, ho => obtain rfl := Option.some.inj ho; exact .inr ⟨⟨rfl, fun _ _ _ _ => trivial⟩, by show 38 ≤ 1023; decide⟩
        | _ + 24, ho => exact absurd ho (by simp)
      · intro ix jx hi hj e; unfold SRvd at e; split at e <;> split at e <;> omega
      · intro ix o ho
        match ix, ho with
        | 0, ho =>
          obtain rfl := Option.some.inj ho
          intro D a w hM hsl hdep hDi hcl K hK
          have hp0 : a.tmps.getD 0 undef = (.slice (some ⟨g, 0, none⟩) n cap) := hsl 0 (by intro j hj; unfold SRvd; split <;> omega)
          refine ⟨rfl, ?_⟩
          refine wp_val (w' := w) (v := (.slice (some ⟨g, 0, none⟩) n cap)) (by simp only [execOp, Act.eval]; rw [show a.tmps.getD 0 undef = _ from hp0]; rfl) ?_
          exact hK _ _ rfl (msw_ne (by decide) (by decide) hM) (fun _ _ _ _ h => h)
        | 1, ho =>
          obtain rfl := Option.some.inj ho
          intro D a w hM hsl hdep hDi hcl K hK
          have hp1 : a.tmps.getD 1 undef = (.int .i64 (xa : Nat)) := hsl 1 (by intro j hj; unfold SRvd; split <;> omega)
          refine ⟨rfl, ?_⟩
          refine wp_val (w' := w) (v := (.int .i64 (xa : Nat))) (by simp only [execOp, Act.eval]; rw [show a.tmps.getD 1 undef = _ from hp1]; rfl) ?_
          exact hK _ _ rfl (msw_ne (by decide) (by decide) hM) (fun _ _ _ _ h => h)
        | 2, ho =>
          obtain rfl := Option.some.inj ho
          intro D a w hM hsl hdep hDi hcl K hK
          have hp10 : a.tmps.getD 10 undef = (.int .i64 (i : Nat)) := hsl 10 (by intro j hj; unfold SRvd; split <;> omega)
          refine ⟨rfl, ?_⟩
          refine wp_val (w' := w) (v := (.int .i64 (i : Nat))) (by simp only [execOp, Act.eval]; rw [show a.tmps.getD 10 undef = _ from hp10]; rfl) ?_
          exact hK _ _ rfl (msw_ne (by decide) (by decide) hM) (fun _ _ _ _ h => h)
        | 3, ho =>
          obtain rfl := Option.some.inj ho
          intro D a w hM hsl hdep hDi hcl K hK
          have e1 := (hdep ⟨1, .data⟩ (by simp) rfl).1
          have e2 := (hdep ⟨2, .data⟩ (by simp) rfl).1
          refine ⟨rfl, ?_⟩
          refine wp_val (w' := w) (v := (.int .i64 (xa + i : Nat))) (by simp only [execOp, Act.eval]; rw [show a.tmps.getD 17 undef = _ from e1, show a.tmps.getD 18 undef = _ from e2]; simp only [Sem.run_bind, eqg_add, hadA, Result.andThen_ok, Sem.run_pure]) ?_
          exact hK _ _ rfl (msw_ne (by decide) (by decide) hM) (fun _ _ _ _ h => h)
        | 4, ho =>
          obtain rfl := Option.some.inj ho
          intro D a w hM hsl hdep hDi hcl K hK
          have hp0 : a.tmps.getD 0 undef = (.slice (some ⟨g, 0, none⟩) n cap) := hsl 0 (by intro j hj; unfold SRvd; split <;> omega)
          refine ⟨rfl, ?_⟩
          refine wp_val (w' := w) (v := (.slice (some ⟨g, 0, none⟩) n cap)) (by simp only [execOp, Act.eval]; rw [show a.tmps.getD 0 undef = _ from hp0]; rfl) ?_
          exact hK _ _ rfl (msw_ne (by decide) (by decide) hM) (fun _ _ _ _ h => h)
        | 5, ho =>
          obtain rfl := Option.some.inj ho
          intro D a w hM hsl hdep hDi hcl K hK
          have hp2 : a.tmps.getD 2 undef = (.int .i64 (xb : Nat)) := hsl 2 (by intro j hj; unfold SRvd; split <;> omega)
          refine ⟨rfl, ?_⟩
          refine wp_val (w' := w) (v := (.int .i64 (xb : Nat))) (by simp only [execOp, Act.eval]; rw [show a.tmps.getD 2 undef = _ from hp2]; rfl) ?_
          exact hK _ _ rfl (msw_ne (by decide) (by decide) hM) (fun _ _ _ _ h => h)
        | 6, ho =>
          obtain rfl := Option.some.inj ho
          intro D a w hM hsl hdep hDi hcl K hK
          have hp10 : a.tmps.getD 10 undef = (.int .i64 (i : Nat)) := hsl 10 (by intro j hj; unfold SRvd; split <;> omega)
          refine ⟨rfl, ?_⟩
          refine wp_val (w' := w) (v := (.int .i64 (i : Nat))) (by simp only [execOp, Act.eval]; rw [show a.tmps.getD 10 undef = _ from hp10]; rfl) ?_
          exact hK _ _ rfl (msw_ne (by decide) (by decide) hM) (fun _ _ _ _ h => h)
        | 7, ho =>
          obtain rfl := Option.some.inj ho
          intro D a w hM hsl hdep hDi hcl K hK
          have e5 := (hdep ⟨5, .data⟩ (by simp) rfl).1
          have e6 := (hdep ⟨6, .data⟩ (by simp) rfl).1
          refine ⟨rfl, ?_⟩
          refine wp_val (w' := w) (v := (.int .i64 (xb + i : Nat))) (by simp only [execOp, Act.eval]; rw [show a.tmps.getD 21 undef = _ from e5, show a.tmps.getD 22 undef = _ from e6]; simp only [Sem.run_bind, eqg_add, hadB, Result.andThen_ok, Sem.run_pure]) ?_
          exact hK _ _ rfl (msw_ne (by decide) (by decide) hM) (fun _ _ _ _ h => h)
        | 8, ho =>
          obtain rfl := Option.some.inj ho
          intro D a w hM hsl hdep hDi hcl K hK
          have hp0 : a.tmps.getD 0 undef = (.slice (some ⟨g, 0, none⟩) n cap) := hsl 0 (by intro j hj; unfold SRvd; split <;> omega)
          refine ⟨rfl, ?_⟩
          refine wp_val (w' := w) (v := (.slice (some ⟨g, 0, none⟩) n cap)) (by simp only [execOp, Act.eval]; rw [show a.tmps.getD 0 undef = _ from hp0]; rfl) ?_
          exact hK _ _ rfl (msw_ne (by decide) (by decide) hM) (fun _ _ _ _ h => h)
        | 9, ho =>
          obtain rfl := Option.some.inj ho
          intro D a w hM hsl hdep hDi hcl K hK
          have hp2 : a.tmps.getD 2 undef = (.int .i64 (xb : Nat)) := hsl 2 (by intro j hj; unfold SRvd; split <;> omega)
          refine ⟨rfl, ?_⟩
          refine wp_val (w' := w) (v := (.int .i64 (xb : Nat))) (by simp only [execOp, Act.eval]; rw [show a.tmps.getD 2 undef = _ from hp2]; rfl) ?_
          exact hK _ _ rfl (msw_ne (by decide) (by decide) hM) (fun _ _ _ _ h => h)
        | 10, ho =>
          obtain rfl := Option.some.inj ho
          intro D a w hM hsl hdep hDi hcl K hK
          have hp10 : a.tmps.getD 10 undef = (.int .i64 (i : Nat)) := hsl 10 (by intro j hj; unfold SRvd; split <;> omega)
          refine ⟨rfl, ?_⟩
          refine wp_val (w' := w) (v := (.int .i64 (i : Nat))) (by simp only [execOp, Act.eval]; rw [show a.tmps.getD 10 undef = _ from hp10]; rfl) ?_
          exact hK _ _ rfl (msw_ne (by decide) (by decide) hM) (fun _ _ _ _ h => h)
        | 11, ho =>
          obtain rfl := Option.some.inj ho
          intro D a w hM hsl hdep hDi hcl K hK
          have e9 := (hdep ⟨9, .data⟩ (by simp) rfl).1
          have e10 := (hdep ⟨10, .data⟩ (by simp) rfl).1
          refine ⟨rfl, ?_⟩
          refine wp_val (w' := w) (v := (.int .i64 (xb + i : Nat))) (by simp only [execOp, Act.eval]; rw [show a.tmps.getD 25 undef = _ from e9, show a.tmps.getD 26 undef = _ from e10]; simp only [Sem.run_bind, eqg_add, hadB, Result.andThen_ok, Sem.run_pure]) ?_
          exact hK _ _ rfl (msw_ne (by decide) (by decide) hM) (fun _ _ _ _ h => h)
        | 12, ho =>
          obtain rfl := Option.some.inj ho
          intro D a w hM hsl hdep hDi hcl K hK
          have e8 := (hdep ⟨8, .data⟩ (by simp) rfl).1
          have e11 := (hdep ⟨11, .data⟩ (by simp) rfl).1
          refine ⟨rfl, ?_⟩
          refine wp_val (w' := w) (v := .pointer (some ⟨g, (xb + i) * 6, none⟩)) (by simp only [execOp, Act.eval]; rw [show a.tmps.getD 24 undef = _ from e8, show a.tmps.getD 27 undef = _ from e11]; simp only [Sem.run_bind, ix_sP hyn, Result.andThen_ok, Sem.run_pure]) ?_
          exact hK _ _ rfl (msw_ne (by decide) (by decide) hM) (fun _ _ _ _ h => h)
        | 13, ho =>
          obtain rfl := Option.some.inj ho
          intro D a w hM hsl hdep hDi hcl K hK
          have e12 := (hdep ⟨12, .data⟩ (by simp) rfl).1
          have hD21 : D 21 = false := by cases h9 : D 21 with | false => rfl | true => have := hcl 21 _ rfl h9 ⟨13, .data⟩ (by simp) rfl; rw [this] at hDi; cases hDi
          have hD23 : D 23 = false := by cases h9 : D 23 with | false => rfl | true => have := hcl 23 _ rfl h9 ⟨13, .phase⟩ (by simp) rfl; rw [this] at hDi; cases hDi
          have hl := (msw_00 hD21 hD23 hM).load hyn
          refine ⟨rfl, ?_⟩
          refine wp_val (w' := w) (v := .agg (cl ((sr F xa xb i) (xb + i))).toArray) (by simp only [execOp, Act.eval]; rw [show a.tmps.getD 28 undef = _ from e12]; simp only [Sem.run_bind, hl, Result.andThen_ok, Sem.run_pure]) ?_
          exact hK _ _ rfl (msw_ne (by decide) (by decide) hM) (fun _ _ _ _ h => h)
        | 14, ho =>
          obtain rfl := Option.some.inj ho
          intro D a w hM hsl hdep hDi hcl K hK
          have hp0 : a.tmps.getD 0 undef = (.slice (some ⟨g, 0, none⟩) n cap) := hsl 0 (by intro j hj; unfold SRvd; split <;> omega)
          refine ⟨rfl, ?_⟩
          refine wp_val (w' := w) (v := (.slice (some ⟨g, 0, none⟩) n cap)) (by simp only [execOp, Act.eval]; rw [show a.tmps.getD 0 undef = _ from hp0]; rfl) ?_
          exact hK _ _ rfl (msw_ne (by decide) (by decide) hM) (fun _ _ _ _ h => h)
        | 15, ho =>
          obtain rfl := Option.some.inj ho
          intro D a w hM hsl hdep hDi hcl K hK
          have hp1 : a.tmps.getD 1 undef = (.int .i64 (xa : Nat)) := hsl 1 (by intro j hj; unfold SRvd; split <;> omega)
          refine ⟨rfl, ?_⟩
          refine wp_val (w' := w) (v := (.int .i64 (xa : Nat))) (by simp only [execOp, Act.eval]; rw [show a.tmps.getD 1 undef = _ from hp1]; rfl) ?_
          exact hK _ _ rfl (msw_ne (by decide) (by decide) hM) (fun _ _ _ _ h => h)
        | 16, ho =>
          obtain rfl := Option.some.inj ho
          intro D a w hM hsl hdep hDi hcl K hK
          have hp10 : a.tmps.getD 10 undef = (.int .i64 (i : Nat)) := hsl 10 (by intro j hj; unfold SRvd; split <;> omega)
          refine ⟨rfl, ?_⟩
          refine wp_val (w' := w) (v := (.int .i64 (i : Nat))) (by simp only [execOp, Act.eval]; rw [show a.tmps.getD 10 undef = _ from hp10]; rfl) ?_
          exact hK _ _ rfl (msw_ne (by decide) (by decide) hM) (fun _ _ _ _ h => h)
        | 17, ho =>
          obtain rfl := Option.some.inj ho
          intro D a w hM hsl hdep hDi hcl K hK
          have e15 := (hdep ⟨15, .data⟩ (by simp) rfl).1
          have e16 := (hdep ⟨16, .data⟩ (by simp) rfl).1
          refine ⟨rfl, ?_⟩
          refine wp_val (w' := w) (v := (.int .i64 (xa + i : Nat))) (by simp only [execOp, Act.eval]; rw [show a.tmps.getD 31 undef = _ from e15, show a.tmps.getD 32 undef = _ from e16]; simp only [Sem.run_bind, eqg_add, hadA, Result.andThen_ok, Sem.run_pure]) ?_
          exact hK _ _ rfl (msw_ne (by decide) (by decide) hM) (fun _ _ _ _ h => h)
        | 18, ho =>
          obtain rfl := Option.some.inj ho
          intro D a w hM hsl hdep hDi hcl K hK
          have e14 := (hdep ⟨14, .data⟩ (by simp) rfl).1
          have e17 := (hdep ⟨17, .data⟩ (by simp) rfl).1
          refine ⟨rfl, ?_⟩
          refine wp_val (w' := w) (v := .pointer (some ⟨g, (xa + i) * 6, none⟩)) (by simp only [execOp, Act.eval]; rw [show a.tmps.getD 30 undef = _ from e14, show a.tmps.getD 33 undef = _ from e17]; simp only [Sem.run_bind, ix_sP hxn, Result.andThen_ok, Sem.run_pure]) ?_
          exact hK _ _ rfl (msw_ne (by decide) (by decide) hM) (fun _ _ _ _ h => h)
        | 19, ho =>
          obtain rfl := Option.some.inj ho
          intro D a w hM hsl hdep hDi hcl K hK
          have e18 := (hdep ⟨18, .data⟩ (by simp) rfl).1
          have hD21 : D 21 = false := by cases h9 : D 21 with | false => rfl | true => have := hcl 21 _ rfl h9 ⟨19, .phase⟩ (by simp) rfl; rw [this] at hDi; cases hDi
          have hD23 : D 23 = false := by cases h9 : D 23 with | false => rfl | true => have := hcl 23 _ rfl h9 ⟨19, .data⟩ (by simp) rfl; rw [this] at hDi; cases hDi
          have hl := (msw_00 hD21 hD23 hM).load hxn
          refine ⟨rfl, ?_⟩
          refine wp_val (w' := w) (v := .agg (cl ((sr F xa xb i) (xa + i))).toArray) (by simp only [execOp, Act.eval]; rw [show a.tmps.getD 34 undef = _ from e18]; simp only [Sem.run_bind, hl, Result.andThen_ok, Sem.run_pure]) ?_
          exact hK _ _ rfl (msw_ne (by decide) (by decide) hM) (fun _ _ _ _ h => h)
        | 20, ho =>
          obtain rfl := Option.some.inj ho
          intro D a w hM hsl hdep hDi hcl K hK
          have e0 := (hdep ⟨0, .data⟩ (by simp) rfl).1
          have e3 := (hdep ⟨3, .data⟩ (by simp) rfl).1
          refine ⟨rfl, ?_⟩
          refine wp_val (w' := w) (v := .pointer (some ⟨g, (xa + i) * 6, none⟩)) (by simp only [execOp, Act.eval]; rw [show a.tmps.getD 16 undef = _ from e0, show a.tmps.getD 19 undef = _ from e3]; simp only [Sem.run_bind, ix_sP hxn, Result.andThen_ok, Sem.run_pure]) ?_
          exact hK _ _ rfl (msw_ne (by decide) (by decide) hM) (fun _ _ _ _ h => h)
        | 21, ho =>
          obtain rfl := Option.some.inj ho
          intro D a w hM hsl hdep hDi hcl K hK
          have e20 := (hdep ⟨20, .data⟩ (by simp) rfl).1
          have e13 := (hdep ⟨13, .data⟩ (by simp) rfl).1
          obtain ⟨c, hst, hM2⟩ := msw_1 (s1 := 21) (s2 := 23) (by decide) hxy hxn hDi hM
          refine ⟨rfl, ?_⟩
          refine wp_skp (w' := w.setRow g c) (by simp only [execOp, Act.eval]; rw [show a.tmps.getD 36 undef = _ from e20, show a.tmps.getD 29 undef = _ from e13]; simp only [Sem.run_bind, hst, Result.andThen_ok, Sem.run_pure]) ?_
          exact hK _ _ trivial hM2 (fun _ _ _ _ h => h)
        | 22, ho =>
          obtain rfl := Option.some.inj ho
          intro D a w hM hsl hdep hDi hcl K hK
          have e4 := (hdep ⟨4, .data⟩ (by simp) rfl).1
          have e7 := (hdep ⟨7, .data⟩ (by simp) rfl).1
          refine ⟨rfl, ?_⟩
          refine wp_val (w' := w) (v := .pointer (some ⟨g, (xb + i) * 6, none⟩)) (by simp only [execOp, Act.eval]; rw [show a.tmps.getD 20 undef = _ from e4, show a.tmps.getD 23 undef = _ from e7]; simp only [Sem.run_bind, ix_sP hyn, Result.andThen_ok, Sem.run_pure]) ?_
          exact hK _ _ rfl (msw_ne (by decide) (by decide) hM) (fun _ _ _ _ h => h)
        | 23, ho =>
          obtain rfl := Option.some.inj ho
          intro D a w hM hsl hdep hDi hcl K hK
          have e22 := (hdep ⟨22, .data⟩ (by simp) rfl).1
          have e19 := (hdep ⟨19, .data⟩ (by simp) rfl).1
          obtain ⟨c, hst, hM2⟩ := msw_2 (s1 := 21) (s2 := 23) (by decide) hxy hyn hDi hM
          refine ⟨rfl, ?_⟩
          refine wp_skp (w' := w.setRow g c) (by simp only [execOp, Act.eval]; rw [show a.tmps.getD 37 undef = _ from e22, show a.tmps.getD 35 undef = _ from e19]; simp only [Sem.run_bind, hst, Result.andThen_ok, Sem.run_pure]) ?_
          exact hK _ _ trivial hM2 (fun _ _ _ _ h => h)
        | _ + 24, ho => exact absurd ho (by simp)
      · intro D a wt hall hd hs hM hsl hr hact
        replace hM := msw_11 hxy (hall 21 (by decide)) (hall 23 (by decide)) hM
        simp only [List.filterMap_cons, List.filterMap_nil, List.foldl_cons, List.foldl_nil] at hact
        rw [hact]
        generalize a.tmps.getD 16 undef = y16
        generalize a.tmps.getD 17 undef = y17
        generalize a.tmps.getD 18 undef = y18
        generalize a.tmps.getD 19 undef = y19
        generalize a.tmps.getD 20 undef = y20
        generalize a.tmps.getD 21 undef = y21
        generalize a.tmps.getD 22 undef = y22
        generalize a.tmps.getD 23 undef = y23
        generalize a.tmps.getD 24 undef = y24
        generalize a.tmps.getD 25 undef = y25
        generalize a.tmps.getD 26 undef = y26
        generalize a.tmps.getD 27 undef = y27
        generalize a.tmps.getD 28 undef = y28
        generalize a.tmps.getD 29 undef = y29
        generalize a.tmps.getD 30 undef = y30
        generalize a.tmps.getD 31 undef = y31
        generalize a.tmps.getD 32 undef = y32
        generalize a.tmps.getD 33 undef = y33
        generalize a.tmps.getD 34 undef = y34
        generalize a.tmps.getD 35 undef = y35
        generalize a.tmps.getD 36 undef = y36
        generalize a.tmps.getD 37 undef = y37
        clear hact hsl hr hd hs hall a
        simp only [Act.put, List.setIfInBounds_toArray, List.set_cons_succ, List.set_cons_zero]
        obtain ⟨hR2, hO2⟩ := hM
        rw [hsr.out] at hR2
        have hR3 := hide1 hR2
        have hO3 : Hid (Ob w wt g) := hide1 (hO.out.trans hO2)
        clear hR2 hO2 hsr hadA hadB
        go_wp2
        go_roundw
        case rel => exact ⟨i + 1, by omega, by go_num, hR3, hO3⟩
        case measure => simp [intOf]; omega
    · obtain rfl : i = m := by omega
      go_wp2
      go_end0
      exact ⟨rfl, hR.out, hO.out⟩
set_option maxHeartbeats 4000000 in
set_option maxRecDepth 100000 in
theorem rot_d {w : World} {B g n cap xa xm xb : Nat} {F : Nat → Ep} {fv : Value} (h : Rw w B g n cap F) (ham : xa < xm) (hmb : xm < xb) (hbn : xb ≤ n) (hn : n ≤ 2000000) :
    Calls Tryz.prog 142 #[.slice (some ⟨g, 0, none⟩) n cap, .int .i64 (xa : Nat), .int .i64 (xm : Nat), .int .i64 (xb : Nat), fv] w fun e w' => e = .returned (.tuple #[]) ∧ Rw w' B g n cap (rot F xa xm xb) ∧ Ob w w' g := by
  have h0 := hide1 h
  clear h
  go_enter Tryz.func142, Tryz.ntmps142
  go_wp2_with fail
  go_loopw [10, 11] (fun s10 s11 wr => ∃ (i j : Nat) (G : Nat → Ep), s10 = .int .i64 (i : Nat) ∧ s11 = .int .i64 (j : Nat) ∧ 1 ≤ i ∧ 1 ≤ j ∧ i ≤ xm ∧ xm + j ≤ n ∧ Hid (Rw wr B g n cap G) ∧ Hid (rot G (xm - i) xm (xm + j) = rot F xa xm xb) ∧ Hid (Ob w wr g)) (fun s10 s11 _ => (intOf s10).toNat + (intOf s11).toNat)
  case atStart =>
    exact ⟨xm - xa, xb - xm, F, by congr 1; omega, by congr 1; omega, by omega, by omega, by omega, by omega, h0, hide1 (by congr 1 <;> omega), hide1 (Ob.refl w g)⟩
  case round =>
    obtain ⟨i, j, G, rfl, rfl, hi, hj, him, hjn, hR, hG, hO⟩ := hrel
    rcases Nat.lt_trichotomy i j with hlt | heq | hgt
    · have q1 : ((i : Int) != (j : Int)) = true := by simp; omega
      have q2 : ¬ (j : Int) < (i : Int) := by omega
      have hc := swr_d (fv := fv) (xa := xm - i) (xb := xm + j - i) (m := i) hR.out (by omega) (by omega) hn
      have e1 : ((xm - i : Nat) : Int) = (xm : Int) - (i : Int) := by omega
      have e2 : ((xm + j - i : Nat) : Int) = (xm : Int) + (j : Int) - (i : Int) := by omega
      rw [e1, e2] at hc
      have hG2 : Hid (rot (sr G (xm - i) (xm + j - i) i) (xm - i) xm (xm + (j - i)) = rot F xa xm xb) := hide1 (by rw [rot_lt G hlt him]; exact hG.out)
      replace e1 := hide1 e1
      replace e2 := hide1 e2
      go_wp2_with fail
      refine hc.mono ?_
      rintro e w1 ⟨rfl, hR1, hO1⟩
      have hR2 := hide1 hR1
      have hO2 : Hid (Ob w w1 g) := hide1 (hO.out.trans hO1)
      clear hc hR1 hO1 hR hO hG
      go_wp2
      go_roundw
      case rel => exact ⟨i, j - i, _, rfl, by congr 1; omega, hi, by omega, him, by omega, hR2, hG2, hO2⟩
      case measure => simp [intOf]; omega
    · subst heq
      have q1 : ((i : Int) != (i : Int)) = false := by simp
      have hc := swr_d (fv := fv) (xa := xm - i) (xb := xm) (m := i) hR.out (by omega) (by omega) hn
      have e1 : ((xm - i : Nat) : Int) = (xm : Int) - (i : Int) := by omega
      rw [e1] at hc
      have hG2 : Hid (sr G (xm - i) xm i = rot F xa xm xb) := hide1 (by rw [rot_eq G him]; exact hG.out)
      replace e1 := hide1 e1
      go_wp2_with fail
      refine hc.mono ?_
      rintro e w1 ⟨rfl, hR1, hO1⟩
      rw [hG2.out] at hR1
      have hR2 := hide1 hR1
      have hO2 : Hid (Ob w w1 g) := hide1 (hO.out.trans hO1)
      clear hc hR1 hO1 hR hO hG hG2
      go_wp2
      go_end0
      exact ⟨rfl, hR2.out, hO2.out⟩
    · have q1 : ((i : Int) != (j : Int)) = true := by simp; omega
      have q2 : (j : Int) < (i : Int) := by omega
      have hc := swr_d (fv := fv) (xa := xm - i) (xb := xm) (m := j) hR.out (by omega) (by omega) hn
      have e1 : ((xm - i : Nat) : Int) = (xm : Int) - (i : Int) := by omega
      rw [e1] at hc
      have hG2 : Hid (rot (sr G (xm - i) xm j) (xm - (i - j)) xm (xm + j) = rot F xa xm xb) := hide1 (by rw [rot_gt G hgt him]; exact hG.out)
      replace e1 := hide1 e1
      go_wp2_with fail
      refine hc.mono ?_
      rintro e w1 ⟨rfl, hR1, hO1⟩
      have hR2 := hide1 hR1
      have hO2 : Hid (Ob w w1 g) := hide1 (hO.out.trans hO1)
      clear hc hR1 hO1 hR hO hG
      go_wp2
      go_roundw
      case rel => exact ⟨i - j, j, _, by congr 1; omega, rfl, by omega, hj, by omega, hjn, hR2, hG2, hO2⟩
      case measure => simp [intOf]; omega
theorem eqg_gtr {t : TypeId} {x u : Operand} {a b : Value} {w : World} : (eqGuard .gtr t x u a b).run Tryz.prog w = .ok () w := rfl
theorem eqg_lss {t : TypeId} {x u : Operand} {a b : Value} {w : World} : (eqGuard .lss t x u a b).run Tryz.prog w = .ok () w := rfl
theorem sub1_n {a : Nat} (h : 1 ≤ a) (hb : a ≤ 1000000000) (w : World) : (binOp .sub 3 (.int .i64 (a : Nat)) (.int .i64 1)).run Tryz.prog w = .ok (.int .i64 (a - 1 : Nat)) w := by
  have e : ((a - 1 : Nat) : Int) = (a : Int) - 1 := by omega
  have hwr : IntKind.i64.wrap ((a : Int) - 1) = (a : Int) - 1 := by go_unwrap
  rw [e]
  simp [go_sem, hwr]
theorem gt_n (a b : Nat) (w : World) : (binOp .gtr 3 (.int .i64 (a : Nat)) (.int .i64 (b : Nat))).run Tryz.prog w = .ok (.bool (decide (b < a))) w := by
  simp [go_sem]
theorem lt_z (z : Int) (w : World) : (binOp .lss 3 (.int .i64 z) (.int .i64 0)).run Tryz.prog w = .ok (.bool (decide (z < 0))) w := by
  simp [go_sem]
section
variable {P : Program} {Q : Exit → Act → World → Prop}
theorem oper_anyv {o : Oper} {a : Act} {w : World} {K : Act → World → Prop} (f : FuncId) (x : Operand) (xs : Array Operand) (tys : Array TypeId) (ho : o.op = .call { callee := .value x, args := xs, argTypes := tys }) (hx : a.eval x = .func (.func f) #[] #[]) (vs : Array Value) (hv : xs.map a.eval = vs) (he : ∀ w, (callFunc f vs).run P w = .ok (.enter f vs) w) {J : Value → World → Prop}
    (hc : Calls P f vs w fun e w' => ∃ r, e = .returned r ∧ J r w') (h : ∀ r w', J r w' → K (a.put o.dst r) w') : o.wp P a w K Q := by
  unfold Oper.wp execOp
  simp only [ho, resolve, invoke, Sem.run_bind, hv, hx, Deferred.ofValue, Sem.run_pure, Result.andThen_ok, Array.append_empty, Array.empty_append, he, Oper.upon_enter]
  exact hc.mono (by rintro e w' ⟨r, rfl, hJ⟩; exact h r w' hJ)
end
def zc (e e' : Ep) : Int := Lib.compareBytes e.1 e'.1
theorem zc_lt (e e' : Ep) (w : World) : (binOp .lss 3 (.int .i64 (zc e e')) (.int .i64 0)).run Tryz.prog w = .ok (.bool (ltE e e')) w := by
  rw [lt_z]
  have : decide (zc e e' < 0) = ltE e e' := by
    have h := cmp_bl e.1 e'.1
    unfold zc ltE
    cases hb : bl e.1 e'.1 with
    | true => rw [decide_eq_true (h.2 hb)]
    | false => rw [decide_eq_false (fun q => by rw [h.1 q] at hb; cases hb)]
  rw [this]
set_option maxRecDepth 100000 in
theorem cmp_d {w : World} {e e' : Ep} (h : EpOk e) (h' : EpOk e') : Calls Tryz.prog 73 #[.agg (cl e).toArray, .agg (cl e').toArray] w fun r w' => r = .returned (.int .i64 (zc e e')) ∧ Below w.heap.size w w' := by
  obtain ⟨s, r⟩ := e
  obtain ⟨s', r'⟩ := e'
  obtain ⟨x1, x2, x3, x4, x5, rfl⟩ := five_l h.1
  obtain ⟨y1, y2, y3, y4, y5, rfl⟩ := five_l h'.1
  have hc := fun w => strings_Compare (st s) (st s') w
  have hb : Hid (Below w.heap.size w ((w.alloc (.cells #[.string (st s), x1, x2, x3, x4, x5] 49)).alloc (.cells #[.string (st s'), y1, y2, y3, y4, y5] 49))) := hide1 (((Below.refl _ _).alloc (Nat.le_refl _) _).alloc (by simp) _)
  have hz : Hid ((.returned (.int .i64 (Lib.compareBytes (st s).data.toList (st s').data.toList)) : Ending) = .returned (.int .i64 (zc (s, [x1, x2, x3, x4, x5]) (s', [y1, y2, y3, y4, y5])))) := hide1 rfl
  generalize Lib.compareBytes (st s).data.toList (st s').data.toList = Z at *
  generalize zc (s, [x1, x2, x3, x4, x5]) (s', [y1, y2, y3, y4, y5]) = Z' at *
  show Calls Tryz.prog 73 #[.agg #[.string (st s), x1, x2, x3, x4, x5], .agg #[.string (st s'), y1, y2, y3, y4, y5]] w _
  clear h h'
  go_enter Tryz.func73, Tryz.ntmps73
  go_wp2_with fail
  refine (hc _).mono ?_
  rintro e w1 ⟨rfl, rfl⟩
  go_wp2
  go_ret
  exact ⟨hz.out, hb.out⟩
def ISv (g n cap jj : Nat) (F : Nat → Ep) : Nat → Value → Prop
  | 0, v => v = (.slice (some ⟨g, 0, none⟩) n cap)
  | 1, v => v = (.int .i64 (jj : Nat))
  | 2, v => v = (.slice (some ⟨g, 0, none⟩) n cap)
  | 3, v => v = (.int .i64 (jj : Nat))
  | 4, v => v = (.int .i64 (jj - 1 : Nat))
  | 5, v => v = (.slice (some ⟨g, 0, none⟩) n cap)
  | 6, v => v = (.int .i64 (jj : Nat))
  | 7, v => v = (.int .i64 (jj - 1 : Nat))
  | 8, v => v = .pointer (some ⟨g, (jj - 1) * 6, none⟩)
  | 9, v => v = .agg (cl (F (jj - 1))).toArray
  | 10, v => v = (.slice (some ⟨g, 0, none⟩) n cap)
  | 11, v => v = (.int .i64 (jj : Nat))
  | 12, v => v = .pointer (some ⟨g, (jj) * 6, none⟩)
  | 13, v => v = .agg (cl (F (jj))).toArray
  | 14, v => v = .pointer (some ⟨g, (jj) * 6, none⟩)
  | 16, v => v = .pointer (some ⟨g, (jj - 1) * 6, none⟩)
  | _, _ => True
def ISvd : Nat → Nat
  | 0 => 37
  | 1 => 38
  | 2 => 39
  | 3 => 40
  | 4 => 41
  | 5 => 42
  | 6 => 43
  | 7 => 44
  | 8 => 45
  | 9 => 46
  | 10 => 47
  | 11 => 48
  | 12 => 49
  | 13 => 50
  | 14 => 51
  | 15 => 1015
  | 16 => 52
  | 17 => 1017
  | i => 2000 + i

theorem Ob.kg {w w' : World} {g : Nat} (h : Ob w w' g) : Kg g w w' := ⟨h.os, h.tape, h.output, by rw [h.size]; exact Nat.le_refl _, fun q _ hn => h.block q hn⟩
theorem Kg.ofB {w w' : World} {g : Nat} (h : Below w.heap.size w w') : Kg g w w' := ⟨h.os, h.tape, h.output, h.size, fun q hq _ => h.block q hq⟩
set_option maxHeartbeats 8000000 in
set_option maxRecDepth 100000 in
theorem ins_d {w : World} {B g n cap xa xb : Nat} {F : Nat → Ep} (h : Rw w B g n cap F) (hbn : xb ≤ n) (han : xa ≤ n) (hn : n ≤ 2000000) :
    Calls Tryz.prog 120 #[.slice (some ⟨g, 0, none⟩) n cap, .int .i64 (xa : Nat), .int .i64 (xb : Nat), (.func (.func 73) #[] #[])] w fun e w' => e = .returned (.tuple #[]) ∧ ∃ G, Std ltE F xa xb G ∧ Rw w' B g n cap G ∧ Kg g w w' := by
  have h0 := hide1 h
  clear h
  go_enter Tryz.func120, Tryz.ntmps120
  go_wp2_with fail
  go_loopw [8] (fun s8 wo => ∃ (i : Nat) (G : Nat → Ep), s8 = .int .i64 (i : Nat) ∧ xa + 1 ≤ i ∧ i ≤ n + 1 ∧ (i ≤ xb ∨ xb ≤ xa + 1) ∧ (xb ≤ xa + 1 → i = xa + 1) ∧ Hid (xb ≤ xa + 1 → G = F) ∧ Hid (Std ltE F xa i G) ∧ Hid (Rw wo B g n cap G) ∧ Hid (Kg g w wo)) (fun s8 _ => n + 1 - (intOf s8).toNat)
  case atStart => exact ⟨xa + 1, F, by first | rfl | (congr 1; omega) | go_num, by omega, by omega, by omega, fun _ => rfl, hide1 fun _ => rfl, hide1 (std_1 (Nat.le_refl _)), h0, hide1 (Kg.refl g w)⟩
  case round =>
    obtain ⟨i, G, rfl, hi1, hi2, hi3, hi4, hGF, hstd, hRo, hKo⟩ := hrel
    by_cases hlt : i < xb
    · have hix : i < xb := hlt
      have hrs := hide1 (std_rs ok_ltE hstd.out)
      go_wp2_with fail
      go_loopw [9] (fun s9 wr => ∃ jj : Nat, s9 = .int .i64 (jj : Nat) ∧ xa ≤ jj ∧ jj ≤ i ∧ Hid (∀ k, jj ≤ k → k < i → ltE (G i) (G k) = true) ∧ Hid (Rw wr B g n cap (rot G jj i (i + 1))) ∧ Hid (Kg g w wr)) (fun s9 _ => (intOf s9).toNat)
      case atStart => exact ⟨i, by first | rfl | (congr 1; omega), by omega, Nat.le_refl _, hide1 fun k h1 h2 => by omega, hide1 (by rw [rot_id G (.inl rfl)]; exact hRo.out), hKo⟩
      case round =>
        obtain ⟨jj, rfl, hj1, hj2, hpast, hR, hK⟩ := hrel
        have hfin : ltE (G i) (G (jj - 1)) = false ∨ jj = xa → Hid (Std ltE F xa (i + 1) (rot G jj i (i + 1))) := fun hx => hide1 (std_s (by omega) hstd.out (mgd_r hj1 hj2 (fun k h1 h2 => by
          rcases hx with hx | hx
          · by_cases ek : k = jj - 1
            · rw [ek]; exact hx
            · cases e : ltE (G i) (G k) with
              | false => rfl
              | true =>
                rcases ok_ltE.wk (G i) (G k) (G (jj - 1)) e with h3 | h3
                · rw [hx] at h3; cases h3
                · rw [hrs.out k (jj - 1) h1 (by omega) (by omega)] at h3; cases h3
          · omega) hpast.out))
        by_cases hgt' : xa < jj
        · have hjn : jj < n := by omega
          have hj1n : jj - 1 < n := by omega
          have hsb := fun w => sub1_n (a := jj) (by omega) (by omega) w
          have hgt : ∀ w : World, (binOp .gtr 3 (.int .i64 (jj : Nat)) (.int .i64 (xa : Nat))).run Tryz.prog w = .ok (.bool true) w := fun w => by rw [gt_n, decide_eq_true hgt']
          have e1 : rot G jj i (i + 1) jj = G i := by unfold rot; rw [if_pos (by omega)]; congr 1; omega
          have e2 : rot G jj i (i + 1) (jj - 1) = G (jj - 1) := by unfold rot; rw [if_neg (by omega), if_neg (by omega)]
          have hok1 : EpOk (G i) := e1 ▸ hR.out.ok jj hjn
          have hok2 : EpOk (G (jj - 1)) := e2 ▸ hR.out.ok (jj - 1) hj1n
          have hld1 : ∀ wa, Below wr.heap.size wr wa → (Instr.loadAt 49 (.pointer (some ⟨g, jj * 6, none⟩))).run Tryz.prog wa = .ok (.agg (cl (G i)).toArray) wa := fun wa hwa => e1 ▸ (hR.out.later hwa).load hjn
          have hld2 : ∀ wa, Below wr.heap.size wr wa → (Instr.loadAt 49 (.pointer (some ⟨g, (jj - 1) * 6, none⟩))).run Tryz.prog wa = .ok (.agg (cl (G (jj - 1))).toArray) wa := fun wa hwa => e2 ▸ (hR.out.later hwa).load hj1n
          obtain ⟨R, hRd⟩ : ∃ R, Hid (R = ltE (G i) (G (jj - 1))) := ⟨_, hide1 rfl⟩
          have hzr : ∀ w, (binOp .lss 3 (.int .i64 (zc (G i) (G (jj - 1)))) (.int .i64 0)).run Tryz.prog w = .ok (.bool R) w := fun w => by rw [hRd.out]; exact zc_lt _ _ w
          replace e1 := hide1 e1
          replace e2 := hide1 e2
          go_upto_region 4 with fail
          refine wp_flowG 16 _ _ (by kernel_rfl) (by kernel_rfl) (by kernel_rfl) rfl (fun j v _ => v = ([(.int .i64 (jj : Nat)), (.int .i64 (xa : Nat)), (.bool true), (.bool true), (.func (.func 73) #[] #[]), (.slice (some ⟨g, 0, none⟩) n cap), (.int .i64 (jj : Nat)), (.pointer (some ⟨g, jj * 6, none⟩)), (.agg (cl (G i)).toArray), (.slice (some ⟨g, 0, none⟩) n cap), (.int .i64 (jj : Nat)), (.int .i64 (jj - 1 : Nat)), (.pointer (some ⟨g, (jj - 1) * 6, none⟩)), (.agg (cl (G (jj - 1))).toArray), (.int .i64 (zc (G i) (G (jj - 1)))), (.bool R), (.bool R)] : List Value).getD j undef) (fun _ _ _ _ h _ => h) ?_ ?_
          · intro j op hop hj a wa hwa hsz hsl hdep K hK
            match j, hop with
            | 0, hop =>
              obtain rfl := Option.some.inj hop
              have p9 : a.tmps.getD 9 undef = (.int .i64 (jj : Nat)) := hsl 9 rfl
              exact .plain rfl (wp_val (w' := wa) (v := (.int .i64 (jj : Nat))) (by simp only [execOp, Act.eval]; rw [show a.tmps.getD 9 undef = _ from p9]; rfl) (hK _ _ (Below.refl _ _) rfl))
            | 1, hop =>
              obtain rfl := Option.some.inj hop
              have p1 : a.tmps.getD 1 undef = (.int .i64 (xa : Nat)) := hsl 1 rfl
              exact .plain rfl (wp_val (w' := wa) (v := (.int .i64 (xa : Nat))) (by simp only [execOp, Act.eval]; rw [show a.tmps.getD 1 undef = _ from p1]; rfl) (hK _ _ (Below.refl _ _) rfl))
            | 2, hop =>
              obtain rfl := Option.some.inj hop
              have t0 : a.tmps.getD 18 undef = (.int .i64 (jj : Nat)) := hdep 0 _ 18 rfl rfl ⟨⟨0, .data⟩, by simp, rfl, rfl⟩
              have t1 : a.tmps.getD 19 undef = (.int .i64 (xa : Nat)) := hdep 1 _ 19 rfl rfl ⟨⟨1, .data⟩, by simp, rfl, rfl⟩
              exact .plain rfl (wp_val (w' := wa) (v := (.bool true)) (by simp only [execOp, Act.eval]; rw [show a.tmps.getD 18 undef = _ from t0, show a.tmps.getD 19 undef = _ from t1]; simp only [Sem.run_bind, eqg_gtr, hgt, Result.andThen_ok, Sem.run_pure]) (hK _ _ (Below.refl _ _) rfl))
            | 3, hop =>
              obtain rfl := Option.some.inj hop
              have t2 : a.tmps.getD 20 undef = (.bool true) := hdep 2 _ 20 rfl rfl ⟨⟨2, .data⟩, by simp, rfl, rfl⟩
              exact .plain rfl (wp_val (w' := wa) (v := (.bool true)) (by simp only [execOp, Act.eval]; rw [show a.tmps.getD 20 undef = _ from t2]; rfl) (hK _ _ (Below.refl _ _) rfl))
            | 4, hop =>
              obtain rfl := Option.some.inj hop
              have gg : a.tmps.getD 21 undef = (.bool true) := hdep 3 _ 21 rfl rfl ⟨⟨3, .guard⟩, by simp, rfl, rfl⟩
              have p3 : a.tmps.getD 3 undef = (.func (.func 73) #[] #[]) := hsl 3 rfl
              exact .want rfl rfl (by rw [hsz]; simp) gg (wp_val (w' := wa) (v := (.func (.func 73) #[] #[])) (by simp only [execOp, Act.eval]; rw [show a.tmps.getD 3 undef = _ from p3]; rfl) (hK _ _ (Below.refl _ _) rfl))
            | 5, hop =>
              obtain rfl := Option.some.inj hop
              have gg : a.tmps.getD 21 undef = (.bool true) := hdep 3 _ 21 rfl rfl ⟨⟨3, .guard⟩, by simp, rfl, rfl⟩
              have p0 : a.tmps.getD 0 undef = (.slice (some ⟨g, 0, none⟩) n cap) := hsl 0 rfl
              exact .want rfl rfl (by rw [hsz]; simp) gg (wp_val (w' := wa) (v := (.slice (some ⟨g, 0, none⟩) n cap)) (by simp only [execOp, Act.eval]; rw [show a.tmps.getD 0 undef = _ from p0]; rfl) (hK _ _ (Below.refl _ _) rfl))
            | 6, hop =>
              obtain rfl := Option.some.inj hop
              have gg : a.tmps.getD 21 undef = (.bool true) := hdep 3 _ 21 rfl rfl ⟨⟨3, .guard⟩, by simp, rfl, rfl⟩
              have p9 : a.tmps.getD 9 undef = (.int .i64 (jj : Nat)) := hsl 9 rfl
              exact .want rfl rfl (by rw [hsz]; simp) gg (wp_val (w' := wa) (v := (.int .i64 (jj : Nat))) (by simp only [execOp, Act.eval]; rw [show a.tmps.getD 9 undef = _ from p9]; rfl) (hK _ _ (Below.refl _ _) rfl))
            | 7, hop =>
              obtain rfl := Option.some.inj hop
              have gg : a.tmps.getD 21 undef = (.bool true) := hdep 3 _ 21 rfl rfl ⟨⟨3, .guard⟩, by simp, rfl, rfl⟩
              have t5 : a.tmps.getD 23 undef = (.slice (some ⟨g, 0, none⟩) n cap) := hdep 5 _ 23 rfl rfl ⟨⟨5, .data⟩, by simp, rfl, rfl⟩
              have t6 : a.tmps.getD 24 undef = (.int .i64 (jj : Nat)) := hdep 6 _ 24 rfl rfl ⟨⟨6, .data⟩, by simp, rfl, rfl⟩
              exact .want rfl rfl (by rw [hsz]; simp) gg (wp_val (w' := wa) (v := (.pointer (some ⟨g, jj * 6, none⟩))) (by simp only [execOp, Act.eval]; rw [show a.tmps.getD 23 undef = _ from t5, show a.tmps.getD 24 undef = _ from t6]; simp only [Sem.run_bind, ix_sP hjn, Result.andThen_ok, Sem.run_pure]) (hK _ _ (Below.refl _ _) rfl))
            | 8, hop =>
              obtain rfl := Option.some.inj hop
              have gg : a.tmps.getD 21 undef = (.bool true) := hdep 3 _ 21 rfl rfl ⟨⟨3, .guard⟩, by simp, rfl, rfl⟩
              have t7 : a.tmps.getD 25 undef = (.pointer (some ⟨g, jj * 6, none⟩)) := hdep 7 _ 25 rfl rfl ⟨⟨7, .data⟩, by simp, rfl, rfl⟩
              exact .want rfl rfl (by rw [hsz]; simp) gg (wp_val (w' := wa) (v := (.agg (cl (G i)).toArray)) (by simp only [execOp, Act.eval]; rw [show a.tmps.getD 25 undef = _ from t7]; simp only [Sem.run_bind, hld1 _ hwa, Result.andThen_ok, Sem.run_pure]) (hK _ _ (Below.refl _ _) rfl))
            | 9, hop =>
              obtain rfl := Option.some.inj hop
              have gg : a.tmps.getD 21 undef = (.bool true) := hdep 3 _ 21 rfl rfl ⟨⟨3, .guard⟩, by simp, rfl, rfl⟩
              have p0 : a.tmps.getD 0 undef = (.slice (some ⟨g, 0, none⟩) n cap) := hsl 0 rfl
              exact .want rfl rfl (by rw [hsz]; simp) gg (wp_val (w' := wa) (v := (.slice (some ⟨g, 0, none⟩) n cap)) (by simp only [execOp, Act.eval]; rw [show a.tmps.getD 0 undef = _ from p0]; rfl) (hK _ _ (Below.refl _ _) rfl))
            | 10, hop =>
              obtain rfl := Option.some.inj hop
              have gg : a.tmps.getD 21 undef = (.bool true) := hdep 3 _ 21 rfl rfl ⟨⟨3, .guard⟩, by simp, rfl, rfl⟩
              have p9 : a.tmps.getD 9 undef = (.int .i64 (jj : Nat)) := hsl 9 rfl
              exact .want rfl rfl (by rw [hsz]; simp) gg (wp_val (w' := wa) (v := (.int .i64 (jj : Nat))) (by simp only [execOp, Act.eval]; rw [show a.tmps.getD 9 undef = _ from p9]; rfl) (hK _ _ (Below.refl _ _) rfl))
            | 11, hop =>
              obtain rfl := Option.some.inj hop
              have gg : a.tmps.getD 21 undef = (.bool true) := hdep 3 _ 21 rfl rfl ⟨⟨3, .guard⟩, by simp, rfl, rfl⟩
              have t10 : a.tmps.getD 28 undef = (.int .i64 (jj : Nat)) := hdep 10 _ 28 rfl rfl ⟨⟨10, .data⟩, by simp, rfl, rfl⟩
              exact .want rfl rfl (by rw [hsz]; simp) gg (wp_val (w' := wa) (v := (.int .i64 (jj - 1 : Nat))) (by simp only [execOp, Act.eval]; rw [show a.tmps.getD 28 undef = _ from t10]; simp only [Sem.run_bind, eqg_sub, hsb, Result.andThen_ok, Sem.run_pure]) (hK _ _ (Below.refl _ _) rfl))
            | 12, hop =>
              obtain rfl := Option.some.inj hop
              have gg : a.tmps.getD 21 undef = (.bool true) := hdep 3 _ 21 rfl rfl ⟨⟨3, .guard⟩, by simp, rfl, rfl⟩
              have t9 : a.tmps.getD 27 undef = (.slice (some ⟨g, 0, none⟩) n cap) := hdep 9 _ 27 rfl rfl ⟨⟨9, .data⟩, by simp, rfl, rfl⟩
              have t11 : a.tmps.getD 29 undef = (.int .i64 (jj - 1 : Nat)) := hdep 11 _ 29 rfl rfl ⟨⟨11, .data⟩, by simp, rfl, rfl⟩
              exact .want rfl rfl (by rw [hsz]; simp) gg (wp_val (w' := wa) (v := (.pointer (some ⟨g, (jj - 1) * 6, none⟩))) (by simp only [execOp, Act.eval]; rw [show a.tmps.getD 27 undef = _ from t9, show a.tmps.getD 29 undef = _ from t11]; simp only [Sem.run_bind, ix_sP hj1n, Result.andThen_ok, Sem.run_pure]) (hK _ _ (Below.refl _ _) rfl))
            | 13, hop =>
              obtain rfl := Option.some.inj hop
              have gg : a.tmps.getD 21 undef = (.bool true) := hdep 3 _ 21 rfl rfl ⟨⟨3, .guard⟩, by simp, rfl, rfl⟩
              have t12 : a.tmps.getD 30 undef = (.pointer (some ⟨g, (jj - 1) * 6, none⟩)) := hdep 12 _ 30 rfl rfl ⟨⟨12, .data⟩, by simp, rfl, rfl⟩
              exact .want rfl rfl (by rw [hsz]; simp) gg (wp_val (w' := wa) (v := (.agg (cl (G (jj - 1))).toArray)) (by simp only [execOp, Act.eval]; rw [show a.tmps.getD 30 undef = _ from t12]; simp only [Sem.run_bind, hld2 _ hwa, Result.andThen_ok, Sem.run_pure]) (hK _ _ (Below.refl _ _) rfl))
            | 14, hop =>
              obtain rfl := Option.some.inj hop
              have gg : a.tmps.getD 21 undef = (.bool true) := hdep 3 _ 21 rfl rfl ⟨⟨3, .guard⟩, by simp, rfl, rfl⟩
              have t8 : a.tmps.getD 26 undef = (.agg (cl (G i)).toArray) := hdep 8 _ 26 rfl rfl ⟨⟨8, .data⟩, by simp, rfl, rfl⟩
              have t13 : a.tmps.getD 31 undef = (.agg (cl (G (jj - 1))).toArray) := hdep 13 _ 31 rfl rfl ⟨⟨13, .data⟩, by simp, rfl, rfl⟩
              have t4 : a.tmps.getD 22 undef = (.func (.func 73) #[] #[]) := hdep 4 _ 22 rfl rfl ⟨⟨4, .data⟩, by simp, rfl, rfl⟩
              refine .want rfl rfl (by rw [hsz]; simp) gg (oper_anyv (J := fun r w' => r = (.int .i64 (zc (G i) (G (jj - 1)))) ∧ Below wa.heap.size wa w') 73 (.tmp 22) #[.tmp 26, .tmp 31] _ rfl (show a.tmps.getD 22 undef = _ from t4) #[(.agg (cl (G i)).toArray), (.agg (cl (G (jj - 1))).toArray)] (by simp only [List.map_toArray, List.map_cons, List.map_nil, Act.eval]; rw [show a.tmps.getD 26 undef = _ from t8, show a.tmps.getD 31 undef = _ from t13]) (fun w => by kernel_rfl) ((cmp_d hok1 hok2).mono fun e w' h => ⟨_, h.1, rfl, h.2⟩) ?_)
              rintro r w' ⟨rfl, hb⟩
              exact hK _ _ hb rfl
            | 15, hop =>
              obtain rfl := Option.some.inj hop
              have gg : a.tmps.getD 21 undef = (.bool true) := hdep 3 _ 21 rfl rfl ⟨⟨3, .guard⟩, by simp, rfl, rfl⟩
              have t14 : a.tmps.getD 32 undef = (.int .i64 (zc (G i) (G (jj - 1)))) := hdep 14 _ 32 rfl rfl ⟨⟨14, .data⟩, by simp, rfl, rfl⟩
              exact .want rfl rfl (by rw [hsz]; simp) gg (wp_val (w' := wa) (v := (.bool R)) (by simp only [execOp, Act.eval]; rw [show a.tmps.getD 32 undef = _ from t14]; simp only [Sem.run_bind, eqg_lss, hzr, Result.andThen_ok, Sem.run_pure]) (hK _ _ (Below.refl _ _) rfl))
            | 16, _ => exact absurd rfl hj
            | _ + 17, hop => exact absurd hop (by simp)
          · intro a wa hwa hdf hsz hsl hrr K hK
            have t3 : a.tmps.getD 21 undef = (.bool true) := hrr 3 _ 21 rfl (by decide) rfl
            have t15 : a.tmps.getD 33 undef = (.bool R) := hrr 15 _ 33 rfl (by decide) rfl
            refine .plain rfl (wp_val (w' := wa) (v := (.bool R)) (by simp only [execOp, Act.eval]; rw [show a.tmps.getD 21 undef = _ from t3, show a.tmps.getD 33 undef = _ from t15]; rfl) ?_)
            refine hK _ wa ?_
            have hact := act_puts hdf hsz hsl
            clear hrr hsl hdf hsz hK t15 t3
            simp only [List.filterMap_cons, List.filterMap_nil, List.foldl_cons, List.foldl_nil] at hact
            rw [hact]
            generalize a.tmps.getD 18 undef = y18
            generalize a.tmps.getD 19 undef = y19
            generalize a.tmps.getD 20 undef = y20
            generalize a.tmps.getD 21 undef = y21
            generalize a.tmps.getD 22 undef = y22
            generalize a.tmps.getD 23 undef = y23
            generalize a.tmps.getD 24 undef = y24
            generalize a.tmps.getD 25 undef = y25
            generalize a.tmps.getD 26 undef = y26
            generalize a.tmps.getD 27 undef = y27
            generalize a.tmps.getD 28 undef = y28
            generalize a.tmps.getD 29 undef = y29
            generalize a.tmps.getD 30 undef = y30
            generalize a.tmps.getD 31 undef = y31
            generalize a.tmps.getD 32 undef = y32
            generalize a.tmps.getD 33 undef = y33
            clear hact
            simp only [Act.put, List.setIfInBounds_toArray, List.set_cons_succ, List.set_cons_zero]
            have hR4 := hide1 (hR.out.later hwa)
            have hK4 : Hid (Kg g w wa) := hide1 (hK.out.trans (Kg.ofB hwa))
            clear hld1 hld2 hzr hgt hwa hR hK
            cases R with
            | true =>
              have hxy : jj ≠ jj - 1 := by omega
              have hsr : Hid (sr (rot G jj i (i + 1)) jj (jj - 1) 1 = rot G (jj - 1) i (i + 1)) := hide1 (by
                have := rot_dn G (m := i) (k := jj - 1) (by omega)
                rwa [show jj - 1 + 1 = jj by omega] at this)
              have hpast2 : Hid (∀ k, jj - 1 ≤ k → k < i → ltE (G i) (G k) = true) := hide1 fun k h1 h2 => by
                by_cases ek : k = jj - 1
                · rw [ek]; exact hRd.out.symm
                · exact hpast.out k (by omega) h2
              go_upto_region 6 with fail
              refine wp_rel5 _ _ (fun _ j v _ => ISv g n cap jj (rot G jj i (i + 1)) j v) (fun D w => Msw wa B g n cap (rot G jj i (i + 1)) (jj) (jj - 1) (D 15) (D 17) w) ISvd (by kernel_rfl) (by kernel_rfl) 18 (by kernel_rfl) ?_ ?_ rfl (msw_start hjn hj1n hR4.out) ?_ ?_
              · intro ix o ho
                match ix, ho with
                | 0, ho => obtain rfl := Option.some.inj ho; exact .inl ⟨rfl, by show 37 < 53; decide⟩
                | 1, ho => obtain rfl := Option.some.inj ho; exact .inl ⟨rfl, by show 38 < 53; decide⟩
                | 2, ho => obtain rfl := Option.some.inj ho; exact .inl ⟨rfl, by show 39 < 53; decide⟩
                | 3, ho => obtain rfl := Option.some.inj ho; exact .inl ⟨rfl, by show 40 < 53; decide⟩
                | 4, ho => obtain rfl := Option.some.inj ho; exact .inl ⟨rfl, by show 41 < 53; decide⟩
                | 5, ho => obtain rfl := Option.some.inj ho; exact .inl ⟨rfl, by show 42 < 53; decide⟩
                | 6, ho => obtain rfl := Option.some.inj ho; exact .inl ⟨rfl, by show 43 < 53; decide⟩
                | 7, ho => obtain rfl := Option.some.inj ho; exact .inl ⟨rfl, by show 44 < 53; decide⟩
                | 8, ho => obtain rfl := Option.some.inj ho; exact .inl ⟨rfl, by show 45 < 53; decide⟩
                | 9, ho => obtain rfl := Option.some.inj ho; exact .inl ⟨rfl, by show 46 < 53; decide⟩
                | 10, ho => obtain rfl := Option.some.inj ho; exact .inl ⟨rfl, by show 47 < 53; decide⟩
                | 11, ho => obtain rfl := Option.some.inj ho; exact .inl ⟨rfl, by show 48 < 53; decide⟩
                | 12, ho => obtain rfl := Option.some.inj ho; exact .inl ⟨rfl, by show 49 < 53; decide⟩
                | 13, ho => obtain rfl := Option.some.inj ho; exact .inl ⟨rfl, by show 50 < 53; decide⟩
                | 14, ho => obtain rfl := Option.some.inj ho; exact .inl ⟨rfl, by show 51 < 53; decide⟩
                | 15, ho => obtain rfl := Option.some.inj ho; exact .inr ⟨⟨rfl, fun _ _ _ _ => trivial⟩, by show 53 ≤ 1015; decide⟩
                | 16, ho => obtain rfl := Option.some.inj ho; exact .inl ⟨rfl, by show 52 < 53; decide⟩
                | 17, ho => obtain rfl := Option.some.inj ho; exact .inr ⟨⟨rfl, fun _ _ _ _ => trivial⟩, by show 53 ≤ 1017; decide⟩
                | _ + 18, ho => exact absurd ho (by simp)
              · intro ix jx hi hj e; unfold ISvd at e; split at e <;> split at e <;> omega
              · intro ix o ho
                match ix, ho with
                | 0, ho =>
                  obtain rfl := Option.some.inj ho
                  intro D a w hM hsl hdep hDi hcl K hK
                  have hp0 : a.tmps.getD 0 undef = (.slice (some ⟨g, 0, none⟩) n cap) := hsl 0 (by intro j hj; unfold ISvd; split <;> omega)
                  refine ⟨rfl, ?_⟩
                  refine wp_val (w' := w) (v := (.slice (some ⟨g, 0, none⟩) n cap)) (by simp only [execOp, Act.eval]; rw [show a.tmps.getD 0 undef = _ from hp0]; rfl) ?_
                  exact hK _ _ rfl (msw_ne (by decide) (by decide) hM) (fun _ _ _ _ h => h)
                | 1, ho =>
                  obtain rfl := Option.some.inj ho
                  intro D a w hM hsl hdep hDi hcl K hK
                  have hp9 : a.tmps.getD 9 undef = (.int .i64 (jj : Nat)) := hsl 9 (by intro j hj; unfold ISvd; split <;> omega)
                  refine ⟨rfl, ?_⟩
                  refine wp_val (w' := w) (v := (.int .i64 (jj : Nat))) (by simp only [execOp, Act.eval]; rw [show a.tmps.getD 9 undef = _ from hp9]; rfl) ?_
                  exact hK _ _ rfl (msw_ne (by decide) (by decide) hM) (fun _ _ _ _ h => h)
                | 2, ho =>
                  obtain rfl := Option.some.inj ho
                  intro D a w hM hsl hdep hDi hcl K hK
                  have hp0 : a.tmps.getD 0 undef = (.slice (some ⟨g, 0, none⟩) n cap) := hsl 0 (by intro j hj; unfold ISvd; split <;> omega)
                  refine ⟨rfl, ?_⟩
                  refine wp_val (w' := w) (v := (.slice (some ⟨g, 0, none⟩) n cap)) (by simp only [execOp, Act.eval]; rw [show a.tmps.getD 0 undef = _ from hp0]; rfl) ?_
                  exact hK _ _ rfl (msw_ne (by decide) (by decide) hM) (fun _ _ _ _ h => h)
                | 3, ho =>
                  obtain rfl := Option.some.inj ho
                  intro D a w hM hsl hdep hDi hcl K hK
                  have hp9 : a.tmps.getD 9 undef = (.int .i64 (jj : Nat)) := hsl 9 (by intro j hj; unfold ISvd; split <;> omega)
                  refine ⟨rfl, ?_⟩
                  refine wp_val (w' := w) (v := (.int .i64 (jj : Nat))) (by simp only [execOp, Act.eval]; rw [show a.tmps.getD 9 undef = _ from hp9]; rfl) ?_
                  exact hK _ _ rfl (msw_ne (by decide) (by decide) hM) (fun _ _ _ _ h => h)
                | 4, ho =>
                  obtain rfl := Option.some.inj ho
                  intro D a w hM hsl hdep hDi hcl K hK
                  have e3 := (hdep ⟨3, .data⟩ (by simp) rfl).1
                  refine ⟨rfl, ?_⟩
                  refine wp_val (w' := w) (v := (.int .i64 (jj - 1 : Nat))) (by simp only [execOp, Act.eval]; rw [show a.tmps.getD 40 undef = _ from e3]; simp only [Sem.run_bind, eqg_sub, hsb, Result.andThen_ok, Sem.run_pure]) ?_
                  exact hK _ _ rfl (msw_ne (by decide) (by decide) hM) (fun _ _ _ _ h => h)
                | 5, ho =>
                  obtain rfl := Option.some.inj ho
                  intro D a w hM hsl hdep hDi hcl K hK
                  have hp0 : a.tmps.getD 0 undef = (.slice (some ⟨g, 0, none⟩) n cap) := hsl 0 (by intro j hj; unfold ISvd; split <;> omega)
                  refine ⟨rfl, ?_⟩
                  refine wp_val (w' := w) (v := (.slice (some ⟨g, 0, none⟩) n cap)) (by simp only [execOp, Act.eval]; rw [show a.tmps.getD 0 undef = _ from hp0]; rfl) ?_
                  exact hK _ _ rfl (msw_ne (by decide) (by decide) hM) (fun _ _ _ _ h => h)
                | 6, ho =>
                  obtain rfl := Option.some.inj ho
                  intro D a w hM hsl hdep hDi hcl K hK
                  have hp9 : a.tmps.getD 9 undef = (.int .i64 (jj : Nat)) := hsl 9 (by intro j hj; unfold ISvd; split <;> omega)
                  refine ⟨rfl, ?_⟩
                  refine wp_val (w' := w) (v := (.int .i64 (jj : Nat))) (by simp only [execOp, Act.eval]; rw [show a.tmps.getD 9 undef = _ from hp9]; rfl) ?_
                  exact hK _ _ rfl (msw_ne (by decide) (by decide) hM) (fun _ _ _ _ h => h)
                | 7, ho =>
                  obtain rfl := Option.some.inj ho
                  intro D a w hM hsl hdep hDi hcl K hK
                  have e6 := (hdep ⟨6, .data⟩ (by simp) rfl).1
                  refine ⟨rfl, ?_⟩
                  refine wp_val (w' := w) (v := (.int .i64 (jj - 1 : Nat))) (by simp only [execOp, Act.eval]; rw [show a.tmps.getD 43 undef = _ from e6]; simp only [Sem.run_bind, eqg_sub, hsb, Result.andThen_ok, Sem.run_pure]) ?_
                  exact hK _ _ rfl (msw_ne (by decide) (by decide) hM) (fun _ _ _ _ h => h)
                | 8, ho =>
                  obtain rfl := Option.some.inj ho
                  intro D a w hM hsl hdep hDi hcl K hK
                  have e5 := (hdep ⟨5, .data⟩ (by simp) rfl).1
                  have e7 := (hdep ⟨7, .data⟩ (by simp) rfl).1
                  refine ⟨rfl, ?_⟩
                  refine wp_val (w' := w) (v := .pointer (some ⟨g, (jj - 1) * 6, none⟩)) (by simp only [execOp, Act.eval]; rw [show a.tmps.getD 42 undef = _ from e5, show a.tmps.getD 44 undef = _ from e7]; simp only [Sem.run_bind, ix_sP hj1n, Result.andThen_ok, Sem.run_pure]) ?_
                  exact hK _ _ rfl (msw_ne (by decide) (by decide) hM) (fun _ _ _ _ h => h)
                | 9, ho =>
                  obtain rfl := Option.some.inj ho
                  intro D a w hM hsl hdep hDi hcl K hK
                  have e8 := (hdep ⟨8, .data⟩ (by simp) rfl).1
                  have hD15 : D 15 = false := by cases h9 : D 15 with | false => rfl | true => have := hcl 15 _ rfl h9 ⟨9, .data⟩ (by simp) rfl; rw [this] at hDi; cases hDi
                  have hD17 : D 17 = false := by cases h9 : D 17 with | false => rfl | true => have := hcl 17 _ rfl h9 ⟨9, .phase⟩ (by simp) rfl; rw [this] at hDi; cases hDi
                  have hl := (msw_00 hD15 hD17 hM).load hj1n
                  refine ⟨rfl, ?_⟩
                  refine wp_val (w' := w) (v := .agg (cl ((rot G jj i (i + 1)) (jj - 1))).toArray) (by simp only [execOp, Act.eval]; rw [show a.tmps.getD 45 undef = _ from e8]; simp only [Sem.run_bind, hl, Result.andThen_ok, Sem.run_pure]) ?_
                  exact hK _ _ rfl (msw_ne (by decide) (by decide) hM) (fun _ _ _ _ h => h)
                | 10, ho =>
                  obtain rfl := Option.some.inj ho
                  intro D a w hM hsl hdep hDi hcl K hK
                  have hp0 : a.tmps.getD 0 undef = (.slice (some ⟨g, 0, none⟩) n cap) := hsl 0 (by intro j hj; unfold ISvd; split <;> omega)
                  refine ⟨rfl, ?_⟩
                  refine wp_val (w' := w) (v := (.slice (some ⟨g, 0, none⟩) n cap)) (by simp only [execOp, Act.eval]; rw [show a.tmps.getD 0 undef = _ from hp0]; rfl) ?_
                  exact hK _ _ rfl (msw_ne (by decide) (by decide) hM) (fun _ _ _ _ h => h)
                | 11, ho =>
                  obtain rfl := Option.some.inj ho
                  intro D a w hM hsl hdep hDi hcl K hK
                  have hp9 : a.tmps.getD 9 undef = (.int .i64 (jj : Nat)) := hsl 9 (by intro j hj; unfold ISvd; split <;> omega)
                  refine ⟨rfl, ?_⟩
                  refine wp_val (w' := w) (v := (.int .i64 (jj : Nat))) (by simp only [execOp, Act.eval]; rw [show a.tmps.getD 9 undef = _ from hp9]; rfl) ?_
                  exact hK _ _ rfl (msw_ne (by decide) (by decide) hM) (fun _ _ _ _ h => h)
                | 12, ho =>
                  obtain rfl := Option.some.inj ho
                  intro D a w hM hsl hdep hDi hcl K hK
                  have e10 := (hdep ⟨10, .data⟩ (by simp) rfl).1
                  have e11 := (hdep ⟨11, .data⟩ (by simp) rfl).1
                  refine ⟨rfl, ?_⟩
                  refine wp_val (w' := w) (v := .pointer (some ⟨g, (jj) * 6, none⟩)) (by simp only [execOp, Act.eval]; rw [show a.tmps.getD 47 undef = _ from e10, show a.tmps.getD 48 undef = _ from e11]; simp only [Sem.run_bind, ix_sP hjn, Result.andThen_ok, Sem.run_pure]) ?_
                  exact hK _ _ rfl (msw_ne (by decide) (by decide) hM) (fun _ _ _ _ h => h)
                | 13, ho =>
                  obtain rfl := Option.some.inj ho
                  intro D a w hM hsl hdep hDi hcl K hK
                  have e12 := (hdep ⟨12, .data⟩ (by simp) rfl).1
                  have hD15 : D 15 = false := by cases h9 : D 15 with | false => rfl | true => have := hcl 15 _ rfl h9 ⟨13, .phase⟩ (by simp) rfl; rw [this] at hDi; cases hDi
                  have hD17 : D 17 = false := by cases h9 : D 17 with | false => rfl | true => have := hcl 17 _ rfl h9 ⟨13, .data⟩ (by simp) rfl; rw [this] at hDi; cases hDi
                  have hl := (msw_00 hD15 hD17 hM).load hjn
                  refine ⟨rfl, ?_⟩
                  refine wp_val (w' := w) (v := .agg (cl ((rot G jj i (i + 1)) (jj))).toArray) (by simp only [execOp, Act.eval]; rw [show a.tmps.getD 49 undef = _ from e12]; simp only [Sem.run_bind, hl, Result.andThen_ok, Sem.run_pure]) ?_
                  exact hK _ _ rfl (msw_ne (by decide) (by decide) hM) (fun _ _ _ _ h => h)
                | 14, ho =>
                  obtain rfl := Option.some.inj ho
                  intro D a w hM hsl hdep hDi hcl K hK
                  have e0 := (hdep ⟨0, .data⟩ (by simp) rfl).1
                  have e1 := (hdep ⟨1, .data⟩ (by simp) rfl).1
                  refine ⟨rfl, ?_⟩
                  refine wp_val (w' := w) (v := .pointer (some ⟨g, (jj) * 6, none⟩)) (by simp only [execOp, Act.eval]; rw [show a.tmps.getD 37 undef = _ from e0, show a.tmps.getD 38 undef = _ from e1]; simp only [Sem.run_bind, ix_sP hjn, Result.andThen_ok, Sem.run_pure]) ?_
                  exact hK _ _ rfl (msw_ne (by decide) (by decide) hM) (fun _ _ _ _ h => h)
                | 15, ho =>
                  obtain rfl := Option.some.inj ho
                  intro D a w hM hsl hdep hDi hcl K hK
                  have e14 := (hdep ⟨14, .data⟩ (by simp) rfl).1
                  have e9 := (hdep ⟨9, .data⟩ (by simp) rfl).1
                  obtain ⟨c, hst, hM2⟩ := msw_1 (s1 := 15) (s2 := 17) (by decide) hxy hjn hDi hM
                  refine ⟨rfl, ?_⟩
                  refine wp_skp (w' := w.setRow g c) (by simp only [execOp, Act.eval]; rw [show a.tmps.getD 51 undef = _ from e14, show a.tmps.getD 46 undef = _ from e9]; simp only [Sem.run_bind, hst, Result.andThen_ok, Sem.run_pure]) ?_
                  exact hK _ _ trivial hM2 (fun _ _ _ _ h => h)
                | 16, ho =>
                  obtain rfl := Option.some.inj ho
                  intro D a w hM hsl hdep hDi hcl K hK
                  have e2 := (hdep ⟨2, .data⟩ (by simp) rfl).1
                  have e4 := (hdep ⟨4, .data⟩ (by simp) rfl).1
                  refine ⟨rfl, ?_⟩
                  refine wp_val (w' := w) (v := .pointer (some ⟨g, (jj - 1) * 6, none⟩)) (by simp only [execOp, Act.eval]; rw [show a.tmps.getD 39 undef = _ from e2, show a.tmps.getD 41 undef = _ from e4]; simp only [Sem.run_bind, ix_sP hj1n, Result.andThen_ok, Sem.run_pure]) ?_
                  exact hK _ _ rfl (msw_ne (by decide) (by decide) hM) (fun _ _ _ _ h => h)
                | 17, ho =>
                  obtain rfl := Option.some.inj ho
                  intro D a w hM hsl hdep hDi hcl K hK
                  have e16 := (hdep ⟨16, .data⟩ (by simp) rfl).1
                  have e13 := (hdep ⟨13, .data⟩ (by simp) rfl).1
                  obtain ⟨c, hst, hM2⟩ := msw_2 (s1 := 15) (s2 := 17) (by decide) hxy hj1n hDi hM
                  refine ⟨rfl, ?_⟩
                  refine wp_skp (w' := w.setRow g c) (by simp only [execOp, Act.eval]; rw [show a.tmps.getD 52 undef = _ from e16, show a.tmps.getD 50 undef = _ from e13]; simp only [Sem.run_bind, hst, Result.andThen_ok, Sem.run_pure]) ?_
                  exact hK _ _ trivial hM2 (fun _ _ _ _ h => h)
                | _ + 18, ho => exact absurd ho (by simp)
              · intro D a wt hall hd hs hM hsl hr hact
                replace hM := msw_11 hxy (hall 15 (by decide)) (hall 17 (by decide)) hM
                simp only [List.filterMap_cons, List.filterMap_nil, List.foldl_cons, List.foldl_nil] at hact
                rw [hact]
                generalize a.tmps.getD 37 undef = y37
                generalize a.tmps.getD 38 undef = y38
                generalize a.tmps.getD 39 undef = y39
                generalize a.tmps.getD 40 undef = y40
                generalize a.tmps.getD 41 undef = y41
                generalize a.tmps.getD 42 undef = y42
                generalize a.tmps.getD 43 undef = y43
                generalize a.tmps.getD 44 undef = y44
                generalize a.tmps.getD 45 undef = y45
                generalize a.tmps.getD 46 undef = y46
                generalize a.tmps.getD 47 undef = y47
                generalize a.tmps.getD 48 undef = y48
                generalize a.tmps.getD 49 undef = y49
                generalize a.tmps.getD 50 undef = y50
                generalize a.tmps.getD 51 undef = y51
                generalize a.tmps.getD 52 undef = y52
                clear hact hsl hr hd hs hall a
                simp only [Act.put, List.setIfInBounds_toArray, List.set_cons_succ, List.set_cons_zero]
                obtain ⟨hR5, hO5⟩ := hM
                rw [hsr.out] at hR5
                have hR6 := hide1 hR5
                have hK6 : Hid (Kg g w wt) := hide1 (hK4.out.trans hO5.kg)
                clear hR5 hO5 hsr hsb hR4 hK4
                go_wp2
                go_roundw
                case rel => exact ⟨jj - 1, by congr 1; omega, by omega, by omega, hpast2, hR6, hK6⟩
                case measure => simp [intOf]; omega
            | false =>
              have hst := hfin (.inl hRd.out.symm)
              clear hfin hpast hrs hRd hsb
              go_wp2
              go_roundw
              case rel => exact ⟨i + 1, _, by first | rfl | (congr 1; omega) | go_num, by omega, by omega, by omega, fun hx => by omega, hide1 (fun hx => by exfalso; omega), hst, hR4, hK4⟩
              case measure => simp [intOf]; omega
        · have hst := hfin (.inr (by omega))
          have hgt : ∀ w : World, (binOp .gtr 3 (.int .i64 (jj : Nat)) (.int .i64 (xa : Nat))).run Tryz.prog w = .ok (.bool false) w := fun w => by rw [gt_n, decide_eq_false hgt']
          clear hfin hpast hrs
          go_upto_region 4 with fail
          refine wp_flowG 16 _ _ (by kernel_rfl) (by kernel_rfl) (by kernel_rfl) rfl (fun j v _ => v = ([(.int .i64 (jj : Nat)), (.int .i64 (xa : Nat)), (.bool false), (.bool false), undef, undef, undef, undef, undef, undef, undef, undef, undef, undef, undef, undef, (.bool false)] : List Value).getD j undef) (fun _ _ _ _ h _ => h) ?_ ?_
          · intro j op hop hj a wa hwa hsz hsl hdep K hK
            match j, hop with
            | 0, hop =>
              obtain rfl := Option.some.inj hop
              have p9 : a.tmps.getD 9 undef = (.int .i64 (jj : Nat)) := hsl 9 rfl
              exact .plain rfl (wp_val (w' := wa) (v := (.int .i64 (jj : Nat))) (by simp only [execOp, Act.eval]; rw [show a.tmps.getD 9 undef = _ from p9]; rfl) (hK _ _ (Below.refl _ _) rfl))
            | 1, hop =>
              obtain rfl := Option.some.inj hop
              have p1 : a.tmps.getD 1 undef = (.int .i64 (xa : Nat)) := hsl 1 rfl
              exact .plain rfl (wp_val (w' := wa) (v := (.int .i64 (xa : Nat))) (by simp only [execOp, Act.eval]; rw [show a.tmps.getD 1 undef = _ from p1]; rfl) (hK _ _ (Below.refl _ _) rfl))
            | 2, hop =>
              obtain rfl := Option.some.inj hop
              have t0 : a.tmps.getD 18 undef = (.int .i64 (jj : Nat)) := hdep 0 _ 18 rfl rfl ⟨⟨0, .data⟩, by simp, rfl, rfl⟩
              have t1 : a.tmps.getD 19 undef = (.int .i64 (xa : Nat)) := hdep 1 _ 19 rfl rfl ⟨⟨1, .data⟩, by simp, rfl, rfl⟩
              exact .plain rfl (wp_val (w' := wa) (v := (.bool false)) (by simp only [execOp, Act.eval]; rw [show a.tmps.getD 18 undef = _ from t0, show a.tmps.getD 19 undef = _ from t1]; simp only [Sem.run_bind, eqg_gtr, hgt, Result.andThen_ok, Sem.run_pure]) (hK _ _ (Below.refl _ _) rfl))
            | 3, hop =>
              obtain rfl := Option.some.inj hop
              have t2 : a.tmps.getD 20 undef = (.bool false) := hdep 2 _ 20 rfl rfl ⟨⟨2, .data⟩, by simp, rfl, rfl⟩
              exact .plain rfl (wp_val (w' := wa) (v := (.bool false)) (by simp only [execOp, Act.eval]; rw [show a.tmps.getD 20 undef = _ from t2]; rfl) (hK _ _ (Below.refl _ _) rfl))
            | 4, hop =>
              obtain rfl := Option.some.inj hop
              have gg : a.tmps.getD 21 undef = (.bool false) := hdep 3 _ 21 rfl rfl ⟨⟨3, .guard⟩, by simp, rfl, rfl⟩
              exact .skip rfl rfl (by rw [hsz]; simp) gg (hK _ _ (Below.refl _ _) rfl)
            | 5, hop =>
              obtain rfl := Option.some.inj hop
              have gg : a.tmps.getD 21 undef = (.bool false) := hdep 3 _ 21 rfl rfl ⟨⟨3, .guard⟩, by simp, rfl, rfl⟩
              exact .skip rfl rfl (by rw [hsz]; simp) gg (hK _ _ (Below.refl _ _) rfl)
            | 6, hop =>
              obtain rfl := Option.some.inj hop
              have gg : a.tmps.getD 21 undef = (.bool false) := hdep 3 _ 21 rfl rfl ⟨⟨3, .guard⟩, by simp, rfl, rfl⟩
              exact .skip rfl rfl (by rw [hsz]; simp) gg (hK _ _ (Below.refl _ _) rfl)
            | 7, hop =>
              obtain rfl := Option.some.inj hop
              have gg : a.tmps.getD 21 undef = (.bool false) := hdep 3 _ 21 rfl rfl ⟨⟨3, .guard⟩, by simp, rfl, rfl⟩
              exact .skip rfl rfl (by rw [hsz]; simp) gg (hK _ _ (Below.refl _ _) rfl)
            | 8, hop =>
              obtain rfl := Option.some.inj hop
              have gg : a.tmps.getD 21 undef = (.bool false) := hdep 3 _ 21 rfl rfl ⟨⟨3, .guard⟩, by simp, rfl, rfl⟩
              exact .skip rfl rfl (by rw [hsz]; simp) gg (hK _ _ (Below.refl _ _) rfl)
            | 9, hop =>
              obtain rfl := Option.some.inj hop
              have gg : a.tmps.getD 21 undef = (.bool false) := hdep 3 _ 21 rfl rfl ⟨⟨3, .guard⟩, by simp, rfl, rfl⟩
              exact .skip rfl rfl (by rw [hsz]; simp) gg (hK _ _ (Below.refl _ _) rfl)
            | 10, hop =>
              obtain rfl := Option.some.inj hop
              have gg : a.tmps.getD 21 undef = (.bool false) := hdep 3 _ 21 rfl rfl ⟨⟨3, .guard⟩, by simp, rfl, rfl⟩
              exact .skip rfl rfl (by rw [hsz]; simp) gg (hK _ _ (Below.refl _ _) rfl)
            | 11, hop =>
              obtain rfl := Option.some.inj hop
              have gg : a.tmps.getD 21 undef = (.bool false) := hdep 3 _ 21 rfl rfl ⟨⟨3, .guard⟩, by simp, rfl, rfl⟩
              exact .skip rfl rfl (by rw [hsz]; simp) gg (hK _ _ (Below.refl _ _) rfl)
            | 12, hop =>
              obtain rfl := Option.some.inj hop
              have gg : a.tmps.getD 21 undef = (.bool false) := hdep 3 _ 21 rfl rfl ⟨⟨3, .guard⟩, by simp, rfl, rfl⟩
              exact .skip rfl rfl (by rw [hsz]; simp) gg (hK _ _ (Below.refl _ _) rfl)
            | 13, hop =>
              obtain rfl := Option.some.inj hop
              have gg : a.tmps.getD 21 undef = (.bool false) := hdep 3 _ 21 rfl rfl ⟨⟨3, .guard⟩, by simp, rfl, rfl⟩
              exact .skip rfl rfl (by rw [hsz]; simp) gg (hK _ _ (Below.refl _ _) rfl)
            | 14, hop =>
              obtain rfl := Option.some.inj hop
              have gg : a.tmps.getD 21 undef = (.bool false) := hdep 3 _ 21 rfl rfl ⟨⟨3, .guard⟩, by simp, rfl, rfl⟩
              exact .skip rfl rfl (by rw [hsz]; simp) gg (hK _ _ (Below.refl _ _) rfl)
            | 15, hop =>
              obtain rfl := Option.some.inj hop
              have gg : a.tmps.getD 21 undef = (.bool false) := hdep 3 _ 21 rfl rfl ⟨⟨3, .guard⟩, by simp, rfl, rfl⟩
              exact .skip rfl rfl (by rw [hsz]; simp) gg (hK _ _ (Below.refl _ _) rfl)
            | 16, _ => exact absurd rfl hj
            | _ + 17, hop => exact absurd hop (by simp)
          · intro a wa hwa hdf hsz hsl hrr K hK
            have t3 : a.tmps.getD 21 undef = (.bool false) := hrr 3 _ 21 rfl (by decide) rfl
            have t15 : a.tmps.getD 33 undef = undef := hrr 15 _ 33 rfl (by decide) rfl
            refine .plain rfl (wp_val (w' := wa) (v := (.bool false)) (by simp only [execOp, Act.eval]; rw [show a.tmps.getD 21 undef = _ from t3, show a.tmps.getD 33 undef = _ from t15]; rfl) ?_)
            refine hK _ wa ?_
            have hact := act_puts hdf hsz hsl
            clear hrr hsl hdf hsz hK t15 t3
            simp only [List.filterMap_cons, List.filterMap_nil, List.foldl_cons, List.foldl_nil] at hact
            rw [hact]
            generalize a.tmps.getD 18 undef = y18
            generalize a.tmps.getD 19 undef = y19
            generalize a.tmps.getD 20 undef = y20
            generalize a.tmps.getD 21 undef = y21
            generalize a.tmps.getD 22 undef = y22
            generalize a.tmps.getD 23 undef = y23
            generalize a.tmps.getD 24 undef = y24
            generalize a.tmps.getD 25 undef = y25
            generalize a.tmps.getD 26 undef = y26
            generalize a.tmps.getD 27 undef = y27
            generalize a.tmps.getD 28 undef = y28
            generalize a.tmps.getD 29 undef = y29
            generalize a.tmps.getD 30 undef = y30
            generalize a.tmps.getD 31 undef = y31
            generalize a.tmps.getD 32 undef = y32
            generalize a.tmps.getD 33 undef = y33
            clear hact
            simp only [Act.put, List.setIfInBounds_toArray, List.set_cons_succ, List.set_cons_zero]
            have hR4 := hide1 (hR.out.later hwa)
            have hK4 : Hid (Kg g w wa) := hide1 (hK.out.trans (Kg.ofB hwa))
            clear hgt hwa hR hK
            go_wp2
            go_roundw
            case rel => exact ⟨i + 1, _, by first | rfl | (congr 1; omega) | go_num, by omega, by omega, by omega, fun hx => by omega, hide1 (fun hx => by exfalso; omega), hst, hR4, hK4⟩
            case measure => simp [intOf]; omega
    · have hfin : Hid (Std ltE F xa xb G) := hide1 (by
        by_cases hx : xb ≤ xa + 1
        · rw [hGF.out hx]; exact std_1 hx
        · have : i = xb := by omega
          rw [← this]; exact hstd.out)
      go_wp2
      go_end0
      exact ⟨rfl, G, hfin.out, hRo.out, hKo.out⟩
end Go.Proofs.YtbemaloaobeblaaGreatDoor

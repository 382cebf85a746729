/- Rows of cells told by a function: reading and writing them at any place. -/
import Derived.Test.YtgiemldmphbolaaW
import Derived.Deep.WholeRow
namespace Go.Proofs.Ytgiemldmphbolaa
open Go.RowKit

/-- A row of n cells. -/
def arr (n : Nat) (f : Nat → Value) : Array Value := Array.ofFn (n := n) fun i => f i.val
/-- One place changed. -/
def upd (f : Nat → Value) (i : Nat) (v : Value) : Nat → Value := fun j => if j = i then v else f j

theorem arr_size (n : Nat) (f : Nat → Value) : (arr n f).size = n := by simp [arr]
theorem arr_get (n : Nat) (f : Nat → Value) (i : Nat) (h : i < n) : (arr n f)[i]? = some (f i) := by simp [arr, h]
theorem arr_set (n : Nat) (f : Nat → Value) (i : Nat) (v : Value) : (arr n f).setIfInBounds i v = arr n (upd f i v) := by
  apply Array.ext_getElem?
  intro j
  by_cases hj : j < n
  · rw [arr_get _ _ _ hj, Array.getElem?_setIfInBounds]
    by_cases e : i = j
    · subst e; simp [upd, hj, arr_size]
    · have e' : ¬ j = i := fun x => e x.symm
      rw [if_neg e, arr_get _ _ _ hj]; simp [upd, e']
  · rw [Array.getElem?_eq_none (by simp [arr_size]; omega), Array.getElem?_eq_none (by simp [arr_size]; omega)]
theorem arr_congr {n : Nat} {f g : Nat → Value} (h : ∀ i, i < n → f i = g i) : arr n f = arr n g := by
  unfold arr
  congr 1
  funext i
  exact h i.val i.isLt

theorem arr_rep {n : Nat} {f : Nat → Value} {v : Value} (h : ∀ i, i < n → f i = v) : arr n f = ⟨List.replicate n v⟩ := by
  apply Array.ext_getElem?
  intro j
  by_cases hj : j < n
  · rw [arr_get _ _ _ hj, h j hj]; simp [hj]
  · rw [Array.getElem?_eq_none (by simp [arr_size]; omega), Array.getElem?_eq_none (by simp; omega)]

/-- An address so many cells on. -/
theorem addr_add (b j : Nat) : (⟨b, 0, none⟩ : Addr).add j = ⟨b, j, none⟩ := by unfold Addr.add; split <;> simp_all

/-- The whole row out of a block. -/
theorem load_row {P : Program} (u : World) (b n : Nat) (f : Nat → Value) (h : ∀ j, j < n → u.cell? ⟨b, j, none⟩ = some (f j)) :
    (loadCellsFrom ⟨b, 0, none⟩ 0 n #[]).run P u = .ok (arr n f) u := by
  have := run_loadCells_list (P := P) u ⟨b, 0, none⟩ (arr n f).toList (fun j v hv => by
    rw [addr_add]
    have hj : j < n := by
      have := (List.getElem?_eq_some_iff.1 hv).1
      simpa [arr] using this
    rw [h j hj]
    have : (arr n f)[j]? = some v := by simpa using hv
    rw [arr_get _ _ _ hj] at this
    exact this)
  simpa [loadCells, arr] using this
end Go.Proofs.Ytgiemldmphbolaa

/- Worlds behind calls that lay blocks of their own and leave all older ones as they were: the older world, and what came behind it under one name. -/
import Derived.WalkKit
import Derived.WalkSpells
import Derived.WalkLawsBesides
import Derived.Below
import Derived.Sort.Grow
namespace Go.Proofs.Ytgiemldmphbolaa
open Go.RowKit

theorem hide1 {p : Prop} (h : p) : Hid p := h

/-- What came behind a world: new blocks, and how often the tape was asked by then. -/
structure Gr where
  bl : Array Obj
  dr : Nat

/-- The world behind it. -/
def aft (w : World) (g : Gr) : World := { w with heap := w.heap ++ g.bl, drawn := g.dr }

theorem aft_of {w w' : World} (h : Below w.heap.size w w') : ∃ g : Gr, w' = aft w g := by
  refine ⟨⟨w'.heap.extract w.heap.size w'.heap.size, w'.drawn⟩, ?_⟩
  obtain ⟨h1, h2, h3, h4, h5⟩ := h
  have e : w'.heap = w.heap ++ w'.heap.extract w.heap.size w'.heap.size := by
    apply Array.ext_getElem?
    intro i
    by_cases hi : i < w.heap.size
    · rw [Array.getElem?_append_left hi]; exact h5 i hi
    · rw [Array.getElem?_append_right (by omega)]
      by_cases hj : i < w'.heap.size
      · rw [Array.getElem?_extract]
        simp only [Nat.min_self]
        rw [if_pos (by omega), show w.heap.size + (i - w.heap.size) = i by omega]
      · rw [Array.getElem?_eq_none (by omega), Array.getElem?_eq_none (by simp; omega)]
  cases w'
  simp only [aft] at *
  subst h1 h2 h3
  simp only [World.mk.injEq, and_true]
  exact e

theorem aft_below (w : World) (g : Gr) : Below w.heap.size w (aft w g) :=
  ⟨rfl, rfl, rfl, by simp [aft], fun k hk => by simp [aft, Array.getElem?_append, hk]⟩

theorem aft_heap (w : World) (g : Gr) (k : Nat) (h : k < w.heap.size) : (aft w g).heap[k]? = w.heap[k]? := by simp [aft, Array.getElem?_append, h]
theorem aft_cell (w : World) (g : Gr) (b o : Nat) (h : b < w.heap.size) : (aft w g).cell? ⟨b, o, none⟩ = w.cell? ⟨b, o, none⟩ := (aft_below w g).cell (p := ⟨b, o, none⟩) h
theorem aft_frozen (w : World) (g : Gr) (b o : Nat) (h : b < w.heap.size) : (aft w g).frozen? ⟨b, o, none⟩ = w.frozen? ⟨b, o, none⟩ := (aft_below w g).frozen (p := ⟨b, o, none⟩) h
theorem aft_set (w : World) (g : Gr) (b o : Nat) (v : Value) (h : b < w.heap.size) : (aft w g).setCell ⟨b, o, none⟩ v = aft (w.setCell ⟨b, o, none⟩ v) g := by
  simp only [aft, World.setCell]
  congr 1
  exact Go.Sort.modify_append_left _ _ _ _ h
theorem aft_aft (w : World) (g h : Gr) : aft (aft w g) h = aft w ⟨g.bl ++ h.bl, h.dr⟩ := by simp [aft, Array.append_assoc]
theorem aft_drew (w : World) (g : Gr) : (aft w g).drew = aft w ⟨g.bl, g.dr + 1⟩ := rfl
theorem aft_drew_in (w : World) (g : Gr) : aft w.drew g = aft w g := rfl
theorem aft_lt (w : World) (g : Gr) (n : Nat) (h : n < w.heap.size) : n < (aft w g).heap.size := by simp [aft]; omega
theorem aft_le (w : World) (g : Gr) (n : Nat) (h : n < w.heap.size) : n ≤ (aft w g).heap.size := Nat.le_of_lt (aft_lt w g n h)
theorem aft_le1 (w : World) (g : Gr) (n k : Nat) (h : n < w.heap.size) : n ≤ (aft w g).heap.size + k := Nat.le_trans (aft_le w g n h) (Nat.le_add_right _ _)
theorem aft_size (w : World) (g : Gr) : (aft w g).heap.size = w.heap.size + g.bl.size := by simp [aft]
theorem set_size (w : World) (a : Addr) (v : Value) : (w.setCell a v).heap.size = w.heap.size := by simp [World.setCell]
theorem aft_alloc (w : World) (g : Gr) (c : Obj) : (aft w g).alloc c = aft w ⟨g.bl.push c, g.dr⟩ := by simp [aft, World.alloc]
theorem bnext {W w1 w2 : World} (h : Below W.heap.size W w1) (k : Below w1.heap.size w1 w2) : Below W.heap.size W w2 := h.trans (k.mono h.size)

/-- The world behind new blocks. -/
theorem below1 (w : World) (o : Obj) : Below w.heap.size w (w.alloc o) := (Below.refl _ _).alloc (Nat.le_refl _) _
theorem below2 (w : World) (o p : Obj) : Below w.heap.size w ((w.alloc o).alloc p) := ((Below.refl _ _).alloc (Nat.le_refl _) _).alloc (by simp) _
theorem below3 (w : World) (o p q : Obj) : Below w.heap.size w (((w.alloc o).alloc p).alloc q) := (below2 w o p).alloc (by simp; omega) _
theorem below4 (w : World) (o p q r : Obj) : Below w.heap.size w ((((w.alloc o).alloc p).alloc q).alloc r) := (below3 w o p q).alloc (by simp; omega) _
theorem below_drewN {B : Nat} {a w : World} (h : Below B a w) (n : Nat) : Below B a (w.drewN n) := ⟨h.os, h.tape, h.output, h.size, h.block⟩
theorem set_drewN (u : World) (n : Nat) (a : Addr) (v : Value) : (u.drewN n).setCell a v = (u.setCell a v).drewN n := rfl
theorem below_aft {w W : World} (h : Below w.heap.size w W) (g : Gr) : Below w.heap.size w (aft W g) := bnext h (aft_below W g)
end Go.Proofs.Ytgiemldmphbolaa

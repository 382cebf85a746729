/- Worlds behind calls, with blocks laid between them: old cells in them. -/
import Derived.Test.YtgiemldmphbolaaW
namespace Go.Proofs.Ytgiemldmphbolaa
open Go.RowKit

theorem aftc_cell (w : World) (g : Gr) (c : Obj) (b o : Nat) (hb : b < w.heap.size) : ((aft w g).alloc c).cell? ⟨b, o, none⟩ = w.cell? ⟨b, o, none⟩ := by
  simp only [aft_alloc]; exact aft_cell _ _ _ _ hb
theorem aftc_frozen (w : World) (g : Gr) (c : Obj) (b o : Nat) (hb : b < w.heap.size) : ((aft w g).alloc c).frozen? ⟨b, o, none⟩ = w.frozen? ⟨b, o, none⟩ := by
  simp only [aft_alloc]; exact aft_frozen _ _ _ _ hb
theorem aftc_set (w : World) (g : Gr) (c : Obj) (b o : Nat) (v : Value) (hb : b < w.heap.size) : ((aft w g).alloc c).setCell ⟨b, o, none⟩ v = (aft (w.setCell ⟨b, o, none⟩ v) g).alloc c := by
  simp only [aft_alloc]; exact aft_set _ _ _ _ _ hb
theorem aftc_below (w : World) (g : Gr) (c : Obj) : Below w.heap.size w ((aft w g).alloc c) := by
  simp only [aft_alloc]; exact aft_below _ _
theorem aftcc_cell (w : World) (g : Gr) (c d : Obj) (b o : Nat) (hb : b < w.heap.size) : (((aft w g).alloc c).alloc d).cell? ⟨b, o, none⟩ = w.cell? ⟨b, o, none⟩ := by
  simp only [aft_alloc]; exact aft_cell _ _ _ _ hb
theorem aftcc_frozen (w : World) (g : Gr) (c d : Obj) (b o : Nat) (hb : b < w.heap.size) : (((aft w g).alloc c).alloc d).frozen? ⟨b, o, none⟩ = w.frozen? ⟨b, o, none⟩ := by
  simp only [aft_alloc]; exact aft_frozen _ _ _ _ hb
theorem aftcc_set (w : World) (g : Gr) (c d : Obj) (b o : Nat) (v : Value) (hb : b < w.heap.size) : (((aft w g).alloc c).alloc d).setCell ⟨b, o, none⟩ v = ((aft (w.setCell ⟨b, o, none⟩ v) g).alloc c).alloc d := by
  simp only [aft_alloc]; exact aft_set _ _ _ _ _ hb
theorem aftcc_below (w : World) (g : Gr) (c d : Obj) : Below w.heap.size w (((aft w g).alloc c).alloc d) := by
  simp only [aft_alloc]; exact aft_below _ _
theorem aft2_cell (w : World) (g h : Gr) (c : Obj) (b o : Nat) (hb : b < w.heap.size) : (aft ((aft w g).alloc c) h).cell? ⟨b, o, none⟩ = w.cell? ⟨b, o, none⟩ := by
  simp only [aft_alloc, aft_aft]; exact aft_cell _ _ _ _ hb
theorem aft2_frozen (w : World) (g h : Gr) (c : Obj) (b o : Nat) (hb : b < w.heap.size) : (aft ((aft w g).alloc c) h).frozen? ⟨b, o, none⟩ = w.frozen? ⟨b, o, none⟩ := by
  simp only [aft_alloc, aft_aft]; exact aft_frozen _ _ _ _ hb
theorem aft2_set (w : World) (g h : Gr) (c : Obj) (b o : Nat) (v : Value) (hb : b < w.heap.size) : (aft ((aft w g).alloc c) h).setCell ⟨b, o, none⟩ v = aft ((aft (w.setCell ⟨b, o, none⟩ v) g).alloc c) h := by
  simp only [aft_alloc, aft_aft]; exact aft_set _ _ _ _ _ hb
theorem aft2_below (w : World) (g h : Gr) (c : Obj) : Below w.heap.size w (aft ((aft w g).alloc c) h) := by
  simp only [aft_alloc, aft_aft]; exact aft_below _ _
theorem aft3_cell (w : World) (g h : Gr) (c d : Obj) (b o : Nat) (hb : b < w.heap.size) : (aft (((aft w g).alloc c).alloc d) h).cell? ⟨b, o, none⟩ = w.cell? ⟨b, o, none⟩ := by
  simp only [aft_alloc, aft_aft]; exact aft_cell _ _ _ _ hb
theorem aft3_frozen (w : World) (g h : Gr) (c d : Obj) (b o : Nat) (hb : b < w.heap.size) : (aft (((aft w g).alloc c).alloc d) h).frozen? ⟨b, o, none⟩ = w.frozen? ⟨b, o, none⟩ := by
  simp only [aft_alloc, aft_aft]; exact aft_frozen _ _ _ _ hb
theorem aft3_set (w : World) (g h : Gr) (c d : Obj) (b o : Nat) (v : Value) (hb : b < w.heap.size) : (aft (((aft w g).alloc c).alloc d) h).setCell ⟨b, o, none⟩ v = aft (((aft (w.setCell ⟨b, o, none⟩ v) g).alloc c).alloc d) h := by
  simp only [aft_alloc, aft_aft]; exact aft_set _ _ _ _ _ hb
theorem aft3_below (w : World) (g h : Gr) (c d : Obj) : Below w.heap.size w (aft (((aft w g).alloc c).alloc d) h) := by
  simp only [aft_alloc, aft_aft]; exact aft_below _ _
end Go.Proofs.Ytgiemldmphbolaa

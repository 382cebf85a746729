/- Bytes, shifts and conversions, by slots. -/
import Derived.Test.YtchbkkjjbdgdoaaX5
namespace Go.Proofs.Ytchbkkjjbdgdoaa
open Go.RowKit

section
variable {x u : Operand}
theorem cv_iu {n : Nat} (h : n < 9223372036854775808) (w : World) : (convert 3 49 (.int .i64 ((n : Nat) : Int))).run Try.prog w = .ok (.int .u64 ((n : Nat) : Int)) w := by
  have h1 : IntKind.u64.wrap (n : Int) = (n : Int) := by rw [IntKind.wrap_u64]; omega
  simp [convert, go_sem, h1]
theorem cv_bi {n : Nat} (h : n < 256) (w : World) : (convert 5 3 (.int .u8 ((n : Nat) : Int))).run Try.prog w = .ok (.int .i64 ((n : Nat) : Int)) w := by
  have h1 := wrapI (n : Int) (by omega) (by omega)
  simp [convert, go_sem, h1]
theorem sr_b {m r : Nat} (hr : r < 8) (w : World) : (do eqGuard .shr 5 x u (.int .u8 ((m : Nat) : Int)) (.int .u64 ((r : Nat) : Int)); binOp .shr 5 (.int .u8 ((m : Nat) : Int)) (.int .u64 ((r : Nat) : Int))).run Try.prog w = .ok (.int .u8 ((m / 2 ^ r : Nat) : Int)) w := by
  simp [eqGuard, binOp, go_sem]
theorem sr_i {m r : Nat} (hr : r < 64) (w : World) : (do eqGuard .shr 3 x u (.int .i64 ((m : Nat) : Int)) (.int .u64 ((r : Nat) : Int)); binOp .shr 3 (.int .i64 ((m : Nat) : Int)) (.int .u64 ((r : Nat) : Int))).run Try.prog w = .ok (.int .i64 ((m / 2 ^ r : Nat) : Int)) w := by
  simp [eqGuard, binOp, go_sem]
theorem sl_b {r : Nat} (hr : r < 8) (w : World) : (do eqGuard .shl 5 x u (.int .u8 ((1 : Nat) : Int)) (.int .u64 ((r : Nat) : Int)); binOp .shl 5 (.int .u8 ((1 : Nat) : Int)) (.int .u64 ((r : Nat) : Int))).run Try.prog w = .ok (.int .u8 ((2 ^ r : Nat) : Int)) w := by
  have h1 : IntKind.u8.wrap (2 ^ r) = 2 ^ r := by
    obtain rfl | rfl | rfl | rfl | rfl | rfl | rfl | rfl : r = 0 ∨ r = 1 ∨ r = 2 ∨ r = 3 ∨ r = 4 ∨ r = 5 ∨ r = 6 ∨ r = 7 := by omega
    all_goals rfl
  simp [eqGuard, binOp, go_sem, h1]
theorem ad_b {m n : Nat} (h : m + n < 256) (w : World) : (do eqGuard .add 5 x u (.int .u8 ((m : Nat) : Int)) (.int .u8 ((n : Nat) : Int)); binOp .add 5 (.int .u8 ((m : Nat) : Int)) (.int .u8 ((n : Nat) : Int))).run Try.prog w = .ok (.int .u8 ((m + n : Nat) : Int)) w := by
  have h1 : IntKind.u8.wrap ((m : Int) + (n : Int)) = ((m + n : Nat) : Int) := by rw [IntKind.wrap_u8]; omega
  simp [eqGuard, binOp, go_sem, h1]
end
theorem ld_k {t0 : TypeId} {i : Nat} {F : Nat → Nat} (hi : i < 32) (w : World) (q : Nat) (h : w.heap[q]? = some (.cells (ck F) t0 (0, 0))) : (Instr.loadAt 5 (.pointer (some ⟨q, i, none⟩))).run Try.prog w = .ok (.int .u8 ((F i : Nat) : Int)) w := by
  have h1 : w.cell? ⟨q, i, none⟩ = some (.int .u8 ((F i : Nat) : Int)) := by
    rw [cell_of_row _ _ _ _ _ _ h]; exact arr_get _ _ _ hi
  simp [Instr.loadAt, Instr.sureAddr, go_sem, h1]
theorem ck_set (F : Nat → Nat) (i v : Nat) : (ck F).setIfInBounds i (.int .u8 ((v : Nat) : Int)) = ck (updN F i v) := by
  unfold ck
  rw [arr_set]
  refine arr_congr fun j _ => ?_
  unfold upd updN
  by_cases h : j = i <;> simp [h]
theorem ck_congr {F G : Nat → Nat} (h : ∀ i, i < 32 → F i = G i) : ck F = ck G := arr_congr fun i hi => by rw [h i hi]
theorem st_k {t0 : TypeId} {i v : Nat} {F : Nat → Nat} (hi : i < 32) (w : World) (q : Nat) (h : w.heap[q]? = some (.cells (ck F) t0 (0, 0))) : (Instr.storeAt 5 (.pointer (some ⟨q, i, none⟩)) (.int .u8 ((v : Nat) : Int))).run Try.prog w = .ok () (w.setRow q (ck (updN F i v))) := by
  have h1 : w.cell? ⟨q, i, none⟩ = some (.int .u8 ((F i : Nat) : Int)) := by
    rw [cell_of_row _ _ _ _ _ _ h]; exact arr_get _ _ _ hi
  have h2 : w.setCell ⟨q, i, none⟩ (.int .u8 ((v : Nat) : Int)) = w.setRow q (ck (updN F i v)) := by rw [set_row h, ck_set]
  have h3 : w.frozen? ⟨q, i, none⟩ = false := by
    simp [World.frozen?, h]
  simp [Instr.storeAt, Instr.sureAddr, go_sem, h1, h2, h3]
theorem ck_one (F : Nat → Nat) : (ck F).all (·.oneCell') = true := by
  rw [Array.all_eq_true_iff_forall_mem]
  intro v hv
  obtain ⟨i, hi⟩ := Array.getElem?_of_mem hv
  have hl : i < 32 := by have := (Array.getElem?_eq_some_iff.1 hi).1; rwa [ck_size] at this
  rw [ck, arr_get _ _ _ hl] at hi
  cases hi; rfl
theorem stK {F : Nat → Nat} {c : Array Value} (t0 : TypeId) (hc : c.size = 32) (w : World) (q : Nat) (h : w.heap[q]? = some (.cells c t0 (0, 0))) : (Instr.storeAt 23 (.pointer (some ⟨q, 0, none⟩)) (.agg (ck F))).run Try.prog w = .ok () (w.setRow q (ck F)) :=
  st_row (n := ck F) (by rw [ck_size]; kernel_rfl) (by rw [hc, ck_size]) (ck_one _) w q h
theorem ck_zero : ck (fun _ => 0) = ⟨List.replicate 32 (.int .u8 0)⟩ := arr_rep (fun _ _ => rfl)
theorem alK (w : World) : (Instr.alloc 23 true (.tuple #[])).run Try.prog w = .ok (.pointer (some ⟨w.heap.size, 0, none⟩)) (w.alloc (.cells (ck fun _ => 0) 23)) := by
  rw [ck_zero]
  simp [Instr.alloc, go_sem]
/-- Whether two keys are the same. -/
theorem eqK_t {x u : Operand} {F G : Nat → Nat} (h : ∀ i, i < 32 → F i = G i) (w : World) : (do eqGuard .eql 23 x u (.agg (ck F)) (.agg (ck G)); binOp .eql 23 (.agg (ck F)) (.agg (ck G))).run Try.prog w = .ok (.bool true) w := by
  have h1 := eq_ints (P := Try.prog) (t := 23) (e := 5) (n := 32) (k := .u8) (k' := .u8) Try.underlying23 (inf := _) rfl (by kernel_rfl) Try.underlying5 (fun _ => by kernel_rfl) (ck F) (ck G) (fun i => (F i : Int)) (fun i => (G i : Int)) (fun i hi => arr_get _ _ _ hi) (fun i hi => arr_get _ _ _ hi) w
  rw [decide_eq_true (fun i hi => by rw [h i hi])] at h1
  simp [eqGuard, binOp, go_sem, Op.equal, Op.maxDepth, h1]
end Go.Proofs.Ytchbkkjjbdgdoaa

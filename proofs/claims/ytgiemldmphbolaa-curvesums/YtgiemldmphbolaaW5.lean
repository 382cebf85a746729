/- Whole arrays by value: out of a block, into a block, as a result. -/
import Derived.Test.YtgiemldmphbolaaW4
import Derived.Laws.CopyOwn
namespace Go.Proofs.Ytgiemldmphbolaa
open Go.RowKit
variable {P : Program}

theorem wpList_load_row {u : World} {ops : Array Oper} {rest : List Oper} {o : Oper} {a : Act} {Q : Exit → Act → World → Prop} (hgd : o.guard = none) (t : TypeId) (p : Operand)
    (ho : o.op = .load t p) (b : Nat) (c : Array Value) (t0 : TypeId) {n : Nat} {e : TypeId} (hp : a.eval p = .pointer (some ⟨b, 0, none⟩)) (hu : P.underlying t = some (.array n e)) (hi : (P.info? t).map (·.size) = some c.size)
    (hrow : u.heap[b]? = some (.cells c t0 (0, 0))) (h : wpList P ops Q rest (a.put o.dst (.agg c)) u) : wpList P ops Q (o :: rest) a u := by
  refine wpList_plain hgd fun K hK => ?_
  have hr := run_loadVar_row (P := P) u b t0 t c (0, 0) _ hrow hu rfl hi
  unfold Oper.wp execOp
  simp only [ho, Instr.loadAt, Instr.sureAddr, Sem.run_bind, Sem.run_pure, Result.andThen_ok, hp, hr]
  exact hK _ _ h

theorem wpList_store_row {u u' : World} {ops : Array Oper} {rest : List Oper} {o : Oper} {a : Act} {Q : Exit → Act → World → Prop} (hgd : o.guard = none) (t : TypeId) (p q : Operand)
    (ho : o.op = .store t p q) (b : Nat) (c old : Array Value) (t0 : TypeId) (hp : a.eval p = .pointer (some ⟨b, 0, none⟩)) (hq : a.eval q = .agg c) (hi : (P.info? t).map (·.size) = some c.size)
    (hrow : u.heap[b]? = some (.cells old t0 (0, 0))) (hsz : old.size = c.size) (h1 : c.all (·.oneCell') = true) (hu' : u.setRow b c = u') (h : wpList P ops Q rest (a.put o.dst undef) u') : wpList P ops Q (o :: rest) a u := by
  refine wpList_plain hgd fun K hK => ?_
  have hr := run_storeVar_row (P := P) u b t0 t old c hrow hi hsz h1
  unfold Oper.wp execOp
  simp only [ho, Instr.storeAt, Instr.sureAddr, Sem.run_bind, Sem.run_pure, Result.andThen_ok, hp, hq, hr, hu']
  exact hK _ _ h

theorem results_row {fn : Func} {p : Tmp} {ty : TypeId} {u : World} {b : Nat} {c : Array Value} {t0 : TypeId} {n : Nat} {e : TypeId} (h : fn.results = #[.cell p ty]) (tmps : Array Value) (ht : tmps[p]?.getD undef = .pointer (some ⟨b, 0, none⟩))
    (hu : P.underlying ty = some (.array n e)) (hi : (P.info? ty).map (·.size) = some c.size) (hrow : u.heap[b]? = some (.cells c t0 (0, 0))) : (results fn tmps).run P u = .ok (.agg c) u := by
  have hr := run_loadVar_row (P := P) u b t0 ty c (0, 0) _ hrow hu rfl hi
  simp only [results, h]
  simp [ht, asAddr, hr]

theorem arr_one {n : Nat} {k : IntKind} {f : Nat → Int} : (arr n fun i => .int k (f i)).all (·.oneCell') = true := by
  rw [Array.all_eq_true_iff_forall_mem]
  intro v hv
  obtain ⟨i, rfl⟩ := Array.mem_ofFn.1 hv
  rfl

/-- One row of a block replaced, in the block that was laid last but one, and in older ones. -/
theorem setRow_alloc (w : World) (b : Nat) (c : Array Value) (o : Obj) (h : b < w.heap.size) : (w.alloc o).setRow b c = (w.setRow b c).alloc o := by
  simp only [World.setRow, World.alloc]
  congr 1
  rw [← Array.append_singleton, ← Array.append_singleton]
  exact Go.Sort.modify_append_left _ _ _ _ h
theorem setRow_aft (w : World) (b : Nat) (c : Array Value) (g : Gr) (h : b < w.heap.size) : (aft w g).setRow b c = aft (w.setRow b c) g := by
  simp only [World.setRow, aft]
  congr 1
  exact Go.Sort.modify_append_left _ _ _ _ h
theorem row1_0 (w : World) (A : Obj) : (w.alloc A).heap[w.heap.size]? = some A := by
  have h0 := heap_alloc_last w A
  exact h0
theorem row2_0 (w : World) (A B : Obj) : ((w.alloc A).alloc B).heap[w.heap.size]? = some A := by
  have h0 := heap_alloc_last w A
  rw [← Below.heap_alloc (w.alloc A) B _ (by simp <;> omega)] at h0
  exact h0
theorem row2_1 (w : World) (A B : Obj) : ((w.alloc A).alloc B).heap[w.heap.size + 1]? = some B := by
  have h0 := heap_alloc_last (w.alloc A) B
  have e : (w.alloc A).heap.size = w.heap.size + 1 := by simp
  rw [e] at h0
  exact h0
theorem row3_0 (w : World) (A B C : Obj) : (((w.alloc A).alloc B).alloc C).heap[w.heap.size]? = some A := by
  have h0 := heap_alloc_last w A
  rw [← Below.heap_alloc (w.alloc A) B _ (by simp <;> omega)] at h0
  rw [← Below.heap_alloc ((w.alloc A).alloc B) C _ (by simp <;> omega)] at h0
  exact h0
theorem row3_1 (w : World) (A B C : Obj) : (((w.alloc A).alloc B).alloc C).heap[w.heap.size + 1]? = some B := by
  have h0 := heap_alloc_last (w.alloc A) B
  have e : (w.alloc A).heap.size = w.heap.size + 1 := by simp
  rw [e] at h0
  rw [← Below.heap_alloc ((w.alloc A).alloc B) C _ (by simp <;> omega)] at h0
  exact h0
theorem row3_2 (w : World) (A B C : Obj) : (((w.alloc A).alloc B).alloc C).heap[w.heap.size + 1 + 1]? = some C := by
  have h0 := heap_alloc_last ((w.alloc A).alloc B) C
  have e : ((w.alloc A).alloc B).heap.size = w.heap.size + 1 + 1 := by simp
  rw [e] at h0
  exact h0
theorem row4_0 (w : World) (A B C D : Obj) : ((((w.alloc A).alloc B).alloc C).alloc D).heap[w.heap.size]? = some A := by
  have h0 := heap_alloc_last w A
  rw [← Below.heap_alloc (w.alloc A) B _ (by simp <;> omega)] at h0
  rw [← Below.heap_alloc ((w.alloc A).alloc B) C _ (by simp <;> omega)] at h0
  rw [← Below.heap_alloc (((w.alloc A).alloc B).alloc C) D _ (by simp <;> omega)] at h0
  exact h0
theorem row4_1 (w : World) (A B C D : Obj) : ((((w.alloc A).alloc B).alloc C).alloc D).heap[w.heap.size + 1]? = some B := by
  have h0 := heap_alloc_last (w.alloc A) B
  have e : (w.alloc A).heap.size = w.heap.size + 1 := by simp
  rw [e] at h0
  rw [← Below.heap_alloc ((w.alloc A).alloc B) C _ (by simp <;> omega)] at h0
  rw [← Below.heap_alloc (((w.alloc A).alloc B).alloc C) D _ (by simp <;> omega)] at h0
  exact h0
theorem row4_2 (w : World) (A B C D : Obj) : ((((w.alloc A).alloc B).alloc C).alloc D).heap[w.heap.size + 1 + 1]? = some C := by
  have h0 := heap_alloc_last ((w.alloc A).alloc B) C
  have e : ((w.alloc A).alloc B).heap.size = w.heap.size + 1 + 1 := by simp
  rw [e] at h0
  rw [← Below.heap_alloc (((w.alloc A).alloc B).alloc C) D _ (by simp <;> omega)] at h0
  exact h0
theorem row4_3 (w : World) (A B C D : Obj) : ((((w.alloc A).alloc B).alloc C).alloc D).heap[w.heap.size + 1 + 1 + 1]? = some D := by
  have h0 := heap_alloc_last (((w.alloc A).alloc B).alloc C) D
  have e : (((w.alloc A).alloc B).alloc C).heap.size = w.heap.size + 1 + 1 + 1 := by simp
  rw [e] at h0
  exact h0
end Go.Proofs.Ytgiemldmphbolaa

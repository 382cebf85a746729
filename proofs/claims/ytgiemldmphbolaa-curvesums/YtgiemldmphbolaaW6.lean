/- Whole structs and arrays out of a block and into one, and worlds in which one old block alone was turned. -/
import Derived.Test.YtgiemldmphbolaaW5
namespace Go.Proofs.Ytgiemldmphbolaa
open Go.RowKit
variable {P : Program}

theorem wpList_load_agg {u : World} {ops : Array Oper} {rest : List Oper} {o : Oper} {a : Act} {Q : Exit → Act → World → Prop} (hgd : o.guard = none) (t : TypeId) (p : Operand)
    (ho : o.op = .load t p) (b : Nat) (c : Array Value) (t0 : TypeId) {d : TypeDesc} (hp : a.eval p = .pointer (some ⟨b, 0, none⟩)) (hu : P.underlying t = some d) (hd : (match d with | .struct _ | .array _ _ => true | _ => false) = true) (hi : (P.info? t).map (·.size) = some c.size)
    (hrow : u.heap[b]? = some (.cells c t0 (0, 0))) (h : wpList P ops Q rest (a.put o.dst (.agg c)) u) : wpList P ops Q (o :: rest) a u := by
  refine wpList_plain hgd fun K hK => ?_
  have hr := run_loadVar_row (P := P) u b t0 t c (0, 0) _ hrow hu hd hi
  unfold Oper.wp execOp
  simp only [ho, Instr.loadAt, Instr.sureAddr, Sem.run_bind, Sem.run_pure, Result.andThen_ok, hp, hr]
  exact hK _ _ h

/-- The world u' is u but for block b, and for new blocks. -/
structure Mod (b : Nat) (u u' : World) : Prop where
  os : u'.os = u.os
  tape : u'.tape = u.tape
  output : u'.output = u.output
  size : u.heap.size ≤ u'.heap.size
  row : ∀ p, p < u.heap.size → p ≠ b → u'.heap[p]? = u.heap[p]?

theorem Mod.refl (b : Nat) (u : World) : Mod b u u := ⟨rfl, rfl, rfl, Nat.le_refl _, fun _ _ _ => rfl⟩
theorem Mod.trans {b : Nat} {u v w : World} (h : Mod b u v) (k : Mod b v w) : Mod b u w :=
  ⟨k.os.trans h.os, k.tape.trans h.tape, k.output.trans h.output, Nat.le_trans h.size k.size, fun p hp hb => (k.row p (Nat.lt_of_lt_of_le hp h.size) hb).trans (h.row p hp hb)⟩
theorem Mod.of_below {b : Nat} {u v : World} (h : Below u.heap.size u v) : Mod b u v := ⟨h.os, h.tape, h.output, h.size, fun p hp _ => h.block p hp⟩
theorem Mod.below {b : Nat} {u v : World} (h : Mod b u v) (hb : u.heap.size ≤ b) : Below u.heap.size u v := ⟨h.os, h.tape, h.output, h.size, fun p hp => h.row p hp (by omega)⟩
theorem Mod.alloc (b : Nat) (u : World) (o : Obj) : Mod b u (u.alloc o) := Mod.of_below (below1 u o)
theorem Mod.setRow (b : Nat) (u : World) (c : Array Value) : Mod b u (u.setRow b c) := ⟨rfl, rfl, rfl, by simp, fun p _ hb => setRow_other u b p c hb⟩
theorem row_up {u : World} {o : Obj} {p : Nat} {r : Obj} (h : u.heap[p]? = some r) : (u.alloc o).heap[p]? = some r := by
  have hp : p < u.heap.size := (Array.getElem?_eq_some_iff.1 h).1
  rw [Below.heap_alloc u o p hp]; exact h
theorem row_lt {u : World} {p : Nat} {r : Obj} (h : u.heap[p]? = some r) : p < u.heap.size := (Array.getElem?_eq_some_iff.1 h).1
theorem row_aft {u : World} {g : Gr} {p : Nat} {r : Obj} (h : u.heap[p]? = some r) : (aft u g).heap[p]? = some r := by
  rw [aft_heap u g p (row_lt h)]; exact h
theorem row_below {u v : World} {p : Nat} {r : Obj} (h : u.heap[p]? = some r) (hb : Below u.heap.size u v) : v.heap[p]? = some r := by
  rw [hb.block p (row_lt h)]; exact h
theorem row_mod {b : Nat} {u v : World} {p : Nat} {r : Obj} (h : u.heap[p]? = some r) (hb : Mod b u v) (hp : p ≠ b) : v.heap[p]? = some r := by
  rw [hb.row p (row_lt h) hp]; exact h
theorem row_new (u : World) (o : Obj) : (u.alloc o).heap[u.heap.size]? = some o := heap_alloc_last u o
end Go.Proofs.Ytgiemldmphbolaa

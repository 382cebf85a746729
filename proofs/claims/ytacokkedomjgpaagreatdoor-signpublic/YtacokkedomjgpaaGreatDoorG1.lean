/- W, W4, W5, W6, W7, X, X2, X3, X4, V, V2, V3, Y0: laid together. -/
import Derived.WalkKit
import Derived.WalkSpells
import Derived.WalkLawsBesides
import Derived.Below
import Derived.Sort.Grow
import Derived.Deep.WholeRow
import Derived.Laws.CopyOwn
import Derived.Orders
import Derived.OrdersIn
import Derived.TacticsIn
import Derived.RangeFuncCalls
import Derived.RangeFuncFrom
import Derived.ProofKit
import Derived.OpenShut
import Derived.ShutString
import Derived.ChangeOld
import Derived.Test.YtacokkedomjgpaaGreatDoorRows
namespace Go.Proofs.YtacokkedomjgpaaGreatDoor
open Go.RowKit

theorem hide1 {p : Prop} (h : p) : Hid p := h

structure Gr where
  bl : Array Obj
  dr : Nat

def aft (w : World) (g : Gr) : World := { w with heap := w.heap ++ g.bl, drawn := g.dr }

theorem aft_of {w w' : World} (h : Below w.heap.size w w') : ∃ g : Gr, w' = aft w g := by
  refine ⟨⟨w'.heap.extract w.heap.size w'.heap.size, w'.drawn⟩, ?_⟩
  obtain ⟨h1, h2, h3, h4, h5⟩ := h
  have e : w'.heap = w.heap ++ w'.heap.extract w.heap.size w'.heap.size := by
    apply Array.ext_getElem?
    intro i
    by_cases hi : i < w.heap.size
    · rw [Array.getElem?_append_left hi]; exact h5 i hi
    · rw [Array.getElem?_append_right (by omega)]
      by_cases hj : i < w'.heap.size
      · rw [Array.getElem?_extract]
        simp only [Nat.min_self]
        rw [if_pos (by omega), show w.heap.size + (i - w.heap.size) = i by omega]
      · rw [Array.getElem?_eq_none (by omega), Array.getElem?_eq_none (by simp; omega)]
  cases w'
  simp only [aft] at *
  subst h1 h2 h3
  simp only [World.mk.injEq, and_true]
  exact e

theorem aft_below (w : World) (g : Gr) : Below w.heap.size w (aft w g) :=
  ⟨rfl, rfl, rfl, by simp [aft], fun k hk => by simp [aft, Array.getElem?_append, hk]⟩

theorem aft_heap (w : World) (g : Gr) (k : Nat) (h : k < w.heap.size) : (aft w g).heap[k]? = w.heap[k]? := by simp [aft, Array.getElem?_append, h]
theorem aft_cell (w : World) (g : Gr) (b o : Nat) (h : b < w.heap.size) : (aft w g).cell? ⟨b, o, none⟩ = w.cell? ⟨b, o, none⟩ := (aft_below w g).cell (p := ⟨b, o, none⟩) h
theorem aft_frozen (w : World) (g : Gr) (b o : Nat) (h : b < w.heap.size) : (aft w g).frozen? ⟨b, o, none⟩ = w.frozen? ⟨b, o, none⟩ := (aft_below w g).frozen (p := ⟨b, o, none⟩) h
theorem aft_set (w : World) (g : Gr) (b o : Nat) (v : Value) (h : b < w.heap.size) : (aft w g).setCell ⟨b, o, none⟩ v = aft (w.setCell ⟨b, o, none⟩ v) g := by
  simp only [aft, World.setCell]
  congr 1
  exact Go.Sort.modify_append_left _ _ _ _ h
theorem aft_aft (w : World) (g h : Gr) : aft (aft w g) h = aft w ⟨g.bl ++ h.bl, h.dr⟩ := by simp [aft, Array.append_assoc]
theorem aft_drew_in (w : World) (g : Gr) : aft w.drew g = aft w g := rfl
theorem aft_lt (w : World) (g : Gr) (n : Nat) (h : n < w.heap.size) : n < (aft w g).heap.size := by simp [aft]; omega
theorem aft_alloc (w : World) (g : Gr) (c : Obj) : (aft w g).alloc c = aft w ⟨g.bl.push c, g.dr⟩ := by simp [aft, World.alloc]
theorem bnext {W w1 w2 : World} (h : Below W.heap.size W w1) (k : Below w1.heap.size w1 w2) : Below W.heap.size W w2 := h.trans (k.mono h.size)

theorem below1 (w : World) (o : Obj) : Below w.heap.size w (w.alloc o) := (Below.refl _ _).alloc (Nat.le_refl _) _
theorem below2 (w : World) (o p : Obj) : Below w.heap.size w ((w.alloc o).alloc p) := ((Below.refl _ _).alloc (Nat.le_refl _) _).alloc (by simp) _
theorem below3 (w : World) (o p q : Obj) : Below w.heap.size w (((w.alloc o).alloc p).alloc q) := (below2 w o p).alloc (by simp; omega) _
theorem below4 (w : World) (o p q r : Obj) : Below w.heap.size w ((((w.alloc o).alloc p).alloc q).alloc r) := (below3 w o p q).alloc (by simp; omega) _
theorem below_drewN {B : Nat} {a w : World} (h : Below B a w) (n : Nat) : Below B a (w.drewN n) := ⟨h.os, h.tape, h.output, h.size, h.block⟩
theorem set_drewN (u : World) (n : Nat) (a : Addr) (v : Value) : (u.drewN n).setCell a v = (u.setCell a v).drewN n := rfl
end Go.Proofs.YtacokkedomjgpaaGreatDoor

namespace Go.Proofs.YtacokkedomjgpaaGreatDoor
open Go.RowKit

def arr (n : Nat) (f : Nat → Value) : Array Value := Array.ofFn (n := n) fun i => f i.val
def upd (f : Nat → Value) (i : Nat) (v : Value) : Nat → Value := fun j => if j = i then v else f j

theorem arr_size (n : Nat) (f : Nat → Value) : (arr n f).size = n := by simp [arr]
theorem arr_get (n : Nat) (f : Nat → Value) (i : Nat) (h : i < n) : (arr n f)[i]? = some (f i) := by simp [arr, h]
theorem arr_set (n : Nat) (f : Nat → Value) (i : Nat) (v : Value) : (arr n f).setIfInBounds i v = arr n (upd f i v) := by
  apply Array.ext_getElem?
  intro j
  by_cases hj : j < n
  · rw [arr_get _ _ _ hj, Array.getElem?_setIfInBounds]
    by_cases e : i = j
    · subst e; simp [upd, hj, arr_size]
    · have e' : ¬ j = i := fun x => e x.symm
      rw [if_neg e, arr_get _ _ _ hj]; simp [upd, e']
  · rw [Array.getElem?_eq_none (by simp [arr_size]; omega), Array.getElem?_eq_none (by simp [arr_size]; omega)]
theorem arr_congr {n : Nat} {f g : Nat → Value} (h : ∀ i, i < n → f i = g i) : arr n f = arr n g := by
  unfold arr
  congr 1
  funext i
  exact h i.val i.isLt

theorem arr_rep {n : Nat} {f : Nat → Value} {v : Value} (h : ∀ i, i < n → f i = v) : arr n f = ⟨List.replicate n v⟩ := by
  apply Array.ext_getElem?
  intro j
  by_cases hj : j < n
  · rw [arr_get _ _ _ hj, h j hj]; simp [hj]
  · rw [Array.getElem?_eq_none (by simp [arr_size]; omega), Array.getElem?_eq_none (by simp; omega)]

theorem addr_add (b j : Nat) : (⟨b, 0, none⟩ : Addr).add j = ⟨b, j, none⟩ := by unfold Addr.add; split <;> simp_all

end Go.Proofs.YtacokkedomjgpaaGreatDoor

namespace Go.Proofs.YtacokkedomjgpaaGreatDoor
open Go.RowKit
variable {P : Program}

theorem wpList_load_row {u : World} {ops : Array Oper} {rest : List Oper} {o : Oper} {a : Act} {Q : Exit → Act → World → Prop} (hgd : o.guard = none) (t : TypeId) (p : Operand)
    (ho : o.op = .load t p) (b : Nat) (c : Array Value) (t0 : TypeId) {n : Nat} {e : TypeId} (hp : a.eval p = .pointer (some ⟨b, 0, none⟩)) (hu : P.underlying t = some (.array n e)) (hi : (P.info? t).map (·.size) = some c.size)
    (hrow : u.heap[b]? = some (.cells c t0 (0, 0))) (h : wpList P ops Q rest (a.put o.dst (.agg c)) u) : wpList P ops Q (o :: rest) a u := by
  refine wpList_plain hgd fun K hK => ?_
  have hr := run_loadVar_row (P := P) u b t0 t c (0, 0) _ hrow hu rfl hi
  unfold Oper.wp execOp
  simp only [ho, Instr.loadAt, Instr.sureAddr, Sem.run_bind, Sem.run_pure, Result.andThen_ok, hp, hr]
  exact hK _ _ h

theorem wpList_store_row {u u' : World} {ops : Array Oper} {rest : List Oper} {o : Oper} {a : Act} {Q : Exit → Act → World → Prop} (hgd : o.guard = none) (t : TypeId) (p q : Operand)
    (ho : o.op = .store t p q) (b : Nat) (c old : Array Value) (t0 : TypeId) (hp : a.eval p = .pointer (some ⟨b, 0, none⟩)) (hq : a.eval q = .agg c) (hi : (P.info? t).map (·.size) = some c.size)
    (hrow : u.heap[b]? = some (.cells old t0 (0, 0))) (hsz : old.size = c.size) (h1 : c.all (·.oneCell') = true) (hu' : u.setRow b c = u') (h : wpList P ops Q rest (a.put o.dst undef) u') : wpList P ops Q (o :: rest) a u := by
  refine wpList_plain hgd fun K hK => ?_
  have hr := run_storeVar_row (P := P) u b t0 t old c hrow hi hsz h1
  unfold Oper.wp execOp
  simp only [ho, Instr.storeAt, Instr.sureAddr, Sem.run_bind, Sem.run_pure, Result.andThen_ok, hp, hq, hr, hu']
  exact hK _ _ h

theorem results_row {fn : Func} {p : Tmp} {ty : TypeId} {u : World} {b : Nat} {c : Array Value} {t0 : TypeId} {n : Nat} {e : TypeId} (h : fn.results = #[.cell p ty]) (tmps : Array Value) (ht : tmps[p]?.getD undef = .pointer (some ⟨b, 0, none⟩))
    (hu : P.underlying ty = some (.array n e)) (hi : (P.info? ty).map (·.size) = some c.size) (hrow : u.heap[b]? = some (.cells c t0 (0, 0))) : (results fn tmps).run P u = .ok (.agg c) u := by
  have hr := run_loadVar_row (P := P) u b t0 ty c (0, 0) _ hrow hu rfl hi
  simp only [results, h]
  simp [ht, asAddr, hr]

theorem arr_one {n : Nat} {k : IntKind} {f : Nat → Int} : (arr n fun i => .int k (f i)).all (·.oneCell') = true := by
  rw [Array.all_eq_true_iff_forall_mem]
  intro v hv
  obtain ⟨i, rfl⟩ := Array.mem_ofFn.1 hv
  rfl

theorem setRow_alloc (w : World) (b : Nat) (c : Array Value) (o : Obj) (h : b < w.heap.size) : (w.alloc o).setRow b c = (w.setRow b c).alloc o := by
  simp only [World.setRow, World.alloc]
  congr 1
  rw [← Array.append_singleton, ← Array.append_singleton]
  exact Go.Sort.modify_append_left _ _ _ _ h
theorem setRow_aft (w : World) (b : Nat) (c : Array Value) (g : Gr) (h : b < w.heap.size) : (aft w g).setRow b c = aft (w.setRow b c) g := by
  simp only [World.setRow, aft]
  congr 1
  exact Go.Sort.modify_append_left _ _ _ _ h
theorem row1_0 (w : World) (A : Obj) : (w.alloc A).heap[w.heap.size]? = some A := by
  have h0 := heap_alloc_last w A
  exact h0
theorem row2_0 (w : World) (A B : Obj) : ((w.alloc A).alloc B).heap[w.heap.size]? = some A := by
  have h0 := heap_alloc_last w A
  rw [← Below.heap_alloc (w.alloc A) B _ (by simp <;> omega)] at h0
  exact h0
theorem row2_1 (w : World) (A B : Obj) : ((w.alloc A).alloc B).heap[w.heap.size + 1]? = some B := by
  have h0 := heap_alloc_last (w.alloc A) B
  have e : (w.alloc A).heap.size = w.heap.size + 1 := by simp
  rw [e] at h0
  exact h0
theorem row3_0 (w : World) (A B C : Obj) : (((w.alloc A).alloc B).alloc C).heap[w.heap.size]? = some A := by
  have h0 := heap_alloc_last w A
  rw [← Below.heap_alloc (w.alloc A) B _ (by simp <;> omega)] at h0
  rw [← Below.heap_alloc ((w.alloc A).alloc B) C _ (by simp <;> omega)] at h0
  exact h0
theorem row3_1 (w : World) (A B C : Obj) : (((w.alloc A).alloc B).alloc C).heap[w.heap.size + 1]? = some B := by
  have h0 := heap_alloc_last (w.alloc A) B
  have e : (w.alloc A).heap.size = w.heap.size + 1 := by simp
  rw [e] at h0
  rw [← Below.heap_alloc ((w.alloc A).alloc B) C _ (by simp <;> omega)] at h0
  exact h0
theorem row3_2 (w : World) (A B C : Obj) : (((w.alloc A).alloc B).alloc C).heap[w.heap.size + 1 + 1]? = some C := by
  have h0 := heap_alloc_last ((w.alloc A).alloc B) C
  have e : ((w.alloc A).alloc B).heap.size = w.heap.size + 1 + 1 := by simp
  rw [e] at h0
  exact h0
end Go.Proofs.YtacokkedomjgpaaGreatDoor

namespace Go.Proofs.YtacokkedomjgpaaGreatDoor
open Go.RowKit
variable {P : Program}

theorem wpList_load_agg {u : World} {ops : Array Oper} {rest : List Oper} {o : Oper} {a : Act} {Q : Exit → Act → World → Prop} (hgd : o.guard = none) (t : TypeId) (p : Operand)
    (ho : o.op = .load t p) (b : Nat) (c : Array Value) (t0 : TypeId) {d : TypeDesc} (hp : a.eval p = .pointer (some ⟨b, 0, none⟩)) (hu : P.underlying t = some d) (hd : (match d with | .struct _ | .array _ _ => true | _ => false) = true) (hi : (P.info? t).map (·.size) = some c.size)
    (hrow : u.heap[b]? = some (.cells c t0 (0, 0))) (h : wpList P ops Q rest (a.put o.dst (.agg c)) u) : wpList P ops Q (o :: rest) a u := by
  refine wpList_plain hgd fun K hK => ?_
  have hr := run_loadVar_row (P := P) u b t0 t c (0, 0) _ hrow hu hd hi
  unfold Oper.wp execOp
  simp only [ho, Instr.loadAt, Instr.sureAddr, Sem.run_bind, Sem.run_pure, Result.andThen_ok, hp, hr]
  exact hK _ _ h

structure Mod (b : Nat) (u u' : World) : Prop where
  os : u'.os = u.os
  tape : u'.tape = u.tape
  output : u'.output = u.output
  size : u.heap.size ≤ u'.heap.size
  row : ∀ p, p < u.heap.size → p ≠ b → u'.heap[p]? = u.heap[p]?

theorem Mod.refl (b : Nat) (u : World) : Mod b u u := ⟨rfl, rfl, rfl, Nat.le_refl _, fun _ _ _ => rfl⟩
theorem Mod.trans {b : Nat} {u v w : World} (h : Mod b u v) (k : Mod b v w) : Mod b u w :=
  ⟨k.os.trans h.os, k.tape.trans h.tape, k.output.trans h.output, Nat.le_trans h.size k.size, fun p hp hb => (k.row p (Nat.lt_of_lt_of_le hp h.size) hb).trans (h.row p hp hb)⟩
theorem Mod.of_below {b : Nat} {u v : World} (h : Below u.heap.size u v) : Mod b u v := ⟨h.os, h.tape, h.output, h.size, fun p hp _ => h.block p hp⟩
theorem Mod.below {b : Nat} {u v : World} (h : Mod b u v) (hb : u.heap.size ≤ b) : Below u.heap.size u v := ⟨h.os, h.tape, h.output, h.size, fun p hp => h.row p hp (by omega)⟩
theorem Mod.alloc (b : Nat) (u : World) (o : Obj) : Mod b u (u.alloc o) := Mod.of_below (below1 u o)
theorem Mod.setRow (b : Nat) (u : World) (c : Array Value) : Mod b u (u.setRow b c) := ⟨rfl, rfl, rfl, by simp, fun p _ hb => setRow_other u b p c hb⟩
theorem row_up {u : World} {o : Obj} {p : Nat} {r : Obj} (h : u.heap[p]? = some r) : (u.alloc o).heap[p]? = some r := by
  have hp : p < u.heap.size := (Array.getElem?_eq_some_iff.1 h).1
  rw [Below.heap_alloc u o p hp]; exact h
theorem row_lt {u : World} {p : Nat} {r : Obj} (h : u.heap[p]? = some r) : p < u.heap.size := (Array.getElem?_eq_some_iff.1 h).1
theorem row_aft {u : World} {g : Gr} {p : Nat} {r : Obj} (h : u.heap[p]? = some r) : (aft u g).heap[p]? = some r := by
  rw [aft_heap u g p (row_lt h)]; exact h
theorem row_below {u v : World} {p : Nat} {r : Obj} (h : u.heap[p]? = some r) (hb : Below u.heap.size u v) : v.heap[p]? = some r := by
  rw [hb.block p (row_lt h)]; exact h
theorem row_mod {b : Nat} {u v : World} {p : Nat} {r : Obj} (h : u.heap[p]? = some r) (hb : Mod b u v) (hp : p ≠ b) : v.heap[p]? = some r := by
  rw [hb.row p (row_lt h) hp]; exact h
theorem row_new (u : World) (o : Obj) : (u.alloc o).heap[u.heap.size]? = some o := heap_alloc_last u o
end Go.Proofs.YtacokkedomjgpaaGreatDoor

namespace Go.Proofs.YtacokkedomjgpaaGreatDoor
open Go.RowKit
variable {P : Program} {ops : Array Oper} {Q : Exit → Act → World → Prop}

theorem left_set : ∀ (l : List Bool) (j : Nat), l[j]? = some false → ((l.set j true).filter (!·)).length + 1 = (l.filter (!·)).length
  | [], j, h => by simp at h
  | b :: l, 0, h => by
    simp only [List.getElem?_cons_zero, Option.some.injEq] at h
    subst h
    simp
  | b :: l, j + 1, h => by
    simp only [List.getElem?_cons_succ] at h
    have := left_set l j h
    cases b <;> simp at this ⊢ <;> omega

theorem all_listed {l : Array Bool} (hsz : l.size = ops.size) (hacyc : ∀ i o, ops[i]? = some o → ∀ e ∈ o.after, Region.binds .any e = true → e.on < i) (hr : Region.ready .any ops l = []) : ∀ i, i < ops.size → l.getD i false = true := by
  intro i
  induction i using Nat.strongRecOn with
  | _ i ih =>
    intro hi
    by_cases h : l.getD i false = true
    · exact h
    · exfalso
      have hm : i ∈ Region.ready .any ops l := by
        rw [mem_ready]
        refine ⟨?_, ops[i], by simp [hi], fun e he hb => ?_⟩
        · have hl : i < l.size := by omega
          simp [Array.getD, hl] at h ⊢
          exact h
        · have := hacyc i ops[i] (by simp [hi]) e he hb
          exact ih e.on this (by omega)
      rw [hr] at hm
      simp at hm

theorem wpAny_inv (hacyc : ∀ i o, ops[i]? = some o → ∀ e ∈ o.after, Region.binds .any e = true → e.on < i) (Inv : (Nat → Bool) → Act → World → Prop)
    (hstep : ∀ D a w, Inv D a w → ∀ i o, ops[i]? = some o → D i = false → (∀ e ∈ o.after, Region.binds .any e = true → D e.on = true) → ∀ K : Act → World → Prop,
      (∀ a' w', Inv (fun j => if j = i then true else D j) a' w' → K a' w') → Region.wanted o (yielded ops a.tmps) = true ∧ o.wp P a w K Q)
    (hend : ∀ D a w, Inv D a w → (∀ i, i < ops.size → D i = true) → Q .normal a w) :
    ∀ (fuel : Nat) (l : Array Bool) (a : Act) (w : World), l.size = ops.size → (l.toList.filter (!·)).length ≤ fuel → Inv (fun i => l.getD i false) a w → wpAny P .any ops Q fuel l a w
  | 0, l, a, w, hsz, hf, hi => by
    have hr : Region.ready .any ops l = [] := by
      rw [List.eq_nil_iff_forall_not_mem]
      intro j hj
      obtain ⟨h1, o, ho, _⟩ := mem_ready.1 hj
      have hjl : j < l.size := by rw [hsz]; exact (Array.getElem?_eq_some_iff.1 ho).1
      have h2 : l.toList[j]? = some false := by simp [Array.getD, hjl] at h1 ⊢; exact h1
      have := left_set l.toList j h2
      omega
    exact ⟨hr, hend _ _ _ hi (all_listed hsz hacyc hr)⟩
  | fuel + 1, l, a, w, hsz, hf, hi => by
    refine ⟨fun hr => hend _ _ _ hi (all_listed hsz hacyc hr), fun j hj => ?_⟩
    obtain ⟨h1, o, ho, hdep⟩ := mem_ready.1 hj
    have hjl : j < l.size := by rw [hsz]; exact (Array.getElem?_eq_some_iff.1 ho).1
    have h2 : l.toList[j]? = some false := by simp [Array.getD, hjl] at h1 ⊢; exact h1
    have h3 : l.getD j false = false := by simp [Array.getD, hjl] at h1 ⊢; exact h1
    have h4 := left_set l.toList j h2
    obtain ⟨hw, hk⟩ := hstep _ a w hi j o ho h3 hdep (wpAny P .any ops Q fuel (l.setIfInBounds j true)) (fun a' w' h => by
      refine wpAny_inv hacyc Inv hstep hend fuel (l.setIfInBounds j true) a' w' (by simp [hsz]) (by simp; omega) ?_
      have e : (fun i => (l.setIfInBounds j true).getD i false) = (fun i => if i = j then true else l.getD i false) := by
        funext i
        by_cases h : i = j
        · subst h; simp [Array.getD, hjl]
        · have h' : ¬ j = i := fun x => h x.symm
          by_cases hil : i < l.size
          · simp [Array.getD, hil, h, h']
          · simp [Array.getD, hil, h]
      rw [e]; exact h)
    unfold wpOp
    simp only [ho, hw, if_true]
    exact Or.inl hk

theorem wp_region_inv {id : Nat} {a : Act} {w : World} (hm : P.follows .mixedOrders = true) (hacyc : ∀ i o, ops[i]? = some o → ∀ e ∈ o.after, Region.binds .any e = true → e.on < i) (Inv : (Nat → Bool) → Act → World → Prop)
    (h0 : Inv (fun _ => false) a w.drew)
    (hstep : ∀ D a w, Inv D a w → ∀ i o, ops[i]? = some o → D i = false → (∀ e ∈ o.after, Region.binds .any e = true → D e.on = true) → ∀ K : Act → World → Prop,
      (∀ a' w', Inv (fun j => if j = i then true else D j) a' w' → K a' w') → Region.wanted o (yielded ops a.tmps) = true ∧ o.wp P a w K Q)
    (hend : ∀ D a w, Inv D a w → (∀ i, i < ops.size → D i = true) → Q .normal a w) : (Code.region id ops true).wp P Q a w := by
  refine wp_region_any hm (wpAny_inv hacyc Inv hstep hend ops.size _ a _ (by simp) ?_ ?_)
  · exact Nat.le_trans (List.length_filter_le _ _) (by simp)
  · have e : (fun i => (Array.replicate ops.size false).getD i false) = (fun _ => false) := by
      funext i
      by_cases h : i < ops.size <;> simp [Array.getD, h]
    rw [e]; exact h0

theorem oper_load {u : World} {o : Oper} {a : Act} {K : Act → World → Prop} (t : TypeId) (p : Operand) (ho : o.op = .load t p) (b : Nat) (c : Array Value) (t0 : TypeId) {d : TypeDesc} (hp : a.eval p = .pointer (some ⟨b, 0, none⟩))
    (hu : P.underlying t = some d) (hd : (match d with | .struct _ | .array _ _ => true | _ => false) = true) (hi : (P.info? t).map (·.size) = some c.size) (hrow : u.heap[b]? = some (.cells c t0 (0, 0))) (h : K (a.put o.dst (.agg c)) u) : o.wp P a u K Q := by
  have hr := run_loadVar_row (P := P) u b t0 t c (0, 0) _ hrow hu hd hi
  unfold Oper.wp execOp
  simp only [ho, Instr.loadAt, Instr.sureAddr, Sem.run_bind, Sem.run_pure, Result.andThen_ok, hp, hr]
  exact h
theorem oper_store {u : World} {o : Oper} {a : Act} {K : Act → World → Prop} (t : TypeId) (p q : Operand) (ho : o.op = .store t p q) (b : Nat) (c old : Array Value) (t0 : TypeId) (hp : a.eval p = .pointer (some ⟨b, 0, none⟩)) (hq : a.eval q = .agg c)
    (hi : (P.info? t).map (·.size) = some c.size) (hrow : u.heap[b]? = some (.cells old t0 (0, 0))) (hsz : old.size = c.size) (h1 : c.all (·.oneCell') = true) (h : K (a.put o.dst undef) (u.setRow b c)) : o.wp P a u K Q := by
  have hr := run_storeVar_row (P := P) u b t0 t old c hrow hi hsz h1
  unfold Oper.wp execOp
  simp only [ho, Instr.storeAt, Instr.sureAddr, Sem.run_bind, Sem.run_pure, Result.andThen_ok, hp, hq, hr]
  exact h
theorem oper_call {u : World} {o : Oper} {a : Act} {K : Act → World → Prop} (f : FuncId) (args : Array Operand) (tys : Array TypeId) (ho : o.op = .call { callee := .value (.func f), args := args, argTypes := tys }) (vs : Array Value) (hv : args.map a.eval = vs)
    (he : ∀ w, (callFunc f vs).run P w = .ok (.enter f vs) w) {R : Value} (hc : Calls P f vs u fun e w' => e = .returned R ∧ Below u.heap.size u w') (h : ∀ w', Below u.heap.size u w' → K (a.put o.dst R) w') : o.wp P a u K Q := by
  unfold Oper.wp execOp
  have hev : a.eval (.func f) = .func (.func f) #[] #[] := rfl
  simp only [ho, resolve, invoke, Sem.run_bind, hv, hev, Deferred.ofValue, Sem.run_pure, Result.andThen_ok, Array.append_empty, Array.empty_append, he, Oper.upon_enter]
  exact hc.mono (by rintro e w' ⟨rfl, hb⟩; exact h w' hb)
theorem oper_alloc {u u' : World} {o : Oper} {a : Act} {K : Act → World → Prop} (t : TypeId) (ho : o.op = .alloc t) (v : Value) (hal : (Instr.alloc t true (.tuple #[])).run P u = .ok v u') (h : K (a.put o.dst v) u') : o.wp P a u K Q := by
  unfold Oper.wp execOp
  simp only [ho, Sem.run_bind, hal, Result.andThen_ok, Sem.run_pure, Oper.upon_value]
  exact h

def acycB (ops : Array Oper) : Bool := (List.range ops.size).all fun i => match ops[i]? with
  | none => true
  | some o => o.after.all fun e => !Region.binds .any e || decide (e.on < i)
theorem acyc_of (h : acycB ops = true) : ∀ i o, ops[i]? = some o → ∀ e ∈ o.after, Region.binds .any e = true → e.on < i := by
  intro i o ho e he hb
  have hi : i < ops.size := (Array.getElem?_eq_some_iff.1 ho).1
  have h1 := List.all_eq_true.1 h i (by simp [hi])
  simp only [ho] at h1
  have h2 := Array.all_eq_true_iff_forall_mem.1 h1 e he
  simpa [hb] using h2
end Go.Proofs.YtacokkedomjgpaaGreatDoor

namespace Go.Proofs.YtacokkedomjgpaaGreatDoor
open Go.RowKit

abbrev Fm := Sum Nat (Sum (Nat × Nat × Nat) Nat)
abbrev pt (n : Nat) : Fm := .inl n
abbrev sl (off len cap : Nat) : Fm := .inr (.inl (off, len, cap))
def fv : Fm → Nat → Value
  | .inl n, q => .pointer (some ⟨q, n, none⟩)
  | .inr (.inl t), q => .slice (some ⟨q, t.1, none⟩) t.2.1 t.2.2
  | .inr (.inr f), q => .func (.func f) #[] #[.pointer (some ⟨q, 0, none⟩)]
abbrev SV := Sum Value (Nat × Fm)
def den (β : Nat → Nat) : SV → Value
  | .inl v => v
  | .inr p => fv p.2 (β p.1)
abbrev Blk := Array Value × TypeId
abbrev uu : SV := .inl undef
structure Eff where
  nw : Option Nat
  st : Option Nat
  rd : Option Nat
  od : Bool

abbrev nn : Eff := ⟨none, none, none, false⟩

def slot (s : List SV) (t : Nat) : SV := s.getD t (.inl undef)
def eff (E : List Eff) (i : Nat) : Eff := E.getD i ⟨none, none, none, false⟩
def zc (z : List Blk) (b : Nat) : Blk := z.getD b (#[], 0)
def tmpsOf (o : Oper) : List Tmp := o.op.operands.toList.filterMap fun x => match x with
  | .tmp t => some t
  | _ => none
def dstAt (ops : Array Oper) (i : Nat) : Option Tmp := (ops[i]?).bind (·.dst)
def gdOf (ops : Array Oper) (o : Oper) : List Tmp := match o.guard with
  | none => []
  | some (j, _) => (dstAt ops j).toList

def Wr (ops : Array Oper) (D : Nat → Bool) (t : Nat) : Prop := ∃ i, D i = true ∧ dstAt ops i = some t
def Mk (E : List Eff) (k0 : Nat) (D : Nat → Bool) (b : Nat) : Prop := b < k0 ∨ ∃ i, D i = true ∧ (eff E i).nw = some b
def Sd (E : List Eff) (D : Nat → Bool) (b : Nat) : Prop := ∃ i, D i = true ∧ (eff E i).st = some b

structure Wd where
  w : World
  S : Nat → Prop
  lt : ∀ k, S k → k < w.heap.size
  pn : Nat → Option Nat
def wd (w : World) : Wd := ⟨w, fun k => k < w.heap.size, fun _ h => h, fun _ => none⟩
def wdx (w : World) (q : Nat) : Wd := ⟨w, fun k => k < w.heap.size ∧ k ≠ q, fun _ h => h.1, fun b => bif Nat.beq b 0 then some q else none⟩
structure Wrt (w w' : World) (g : Nat) (c : Array Value) (t : TypeId) : Prop where
  os : w'.os = w.os
  tape : w'.tape = w.tape
  output : w'.output = w.output
  size : w.heap.size ≤ w'.heap.size
  block : ∀ k, k < w.heap.size → k ≠ g → w'.heap[k]? = w.heap[k]?
  row : w'.heap[g]? = some (.cells c t (0, 0))
structure KW (W : Wd) (v : World) : Prop where
  os : v.os = W.w.os
  tape : v.tape = W.w.tape
  output : v.output = W.w.output
  size : W.w.heap.size ≤ v.heap.size
  block : ∀ k, W.S k → v.heap[k]? = W.w.heap[k]?
theorem KW.below {w v : World} (h : KW (wd w) v) : Below w.heap.size w v := ⟨h.os, h.tape, h.output, h.size, h.block⟩
theorem kw_of {w v : World} (h : Below w.heap.size w v) : KW (wd w) v := ⟨h.os, h.tape, h.output, h.size, h.block⟩
theorem KW.quiet {W : Wd} {v v' : World} (h : KW W v) (hb : Below v.heap.size v v') : KW W v' :=
  ⟨hb.os.trans h.os, hb.tape.trans h.tape, hb.output.trans h.output, Nat.le_trans h.size hb.size, fun k hk => (hb.block k (Nat.lt_of_lt_of_le (W.lt k hk) h.size)).trans (h.block k hk)⟩
theorem KW.setRow {W : Wd} {v : World} {g : Nat} (h : KW W v) (hg : ¬ W.S g) (cs : Array Value) : KW W (v.setRow g cs) :=
  ⟨h.os, h.tape, h.output, by have := h.size; simpa [World.setRow] using this, fun k hk => (setRow_other v g k cs (fun e => hg (e ▸ hk))).trans (h.block k hk)⟩
theorem KW.wrt {W : Wd} {v v' : World} {g : Nat} {c : Array Value} {t : TypeId} (h : KW W v) (hg : ¬ W.S g) (hb : Wrt v v' g c t) : KW W v' :=
  ⟨hb.os.trans h.os, hb.tape.trans h.tape, hb.output.trans h.output, Nat.le_trans h.size hb.size, fun k hk => (hb.block k (Nat.lt_of_lt_of_le (W.lt k hk) h.size) (fun e => hg (e ▸ hk))).trans (h.block k hk)⟩
theorem wrt_row {w : World} {g : Nat} {c c' : Array Value} {t : TypeId} (h : w.heap[g]? = some (.cells c t (0, 0))) : Wrt w (w.setRow g c') g c' t :=
  ⟨rfl, rfl, rfl, by simp [World.setRow], fun k _ hk => setRow_other w g k c' hk, setRow_heap _ _ _ _ _ _ h⟩
theorem KW.drew {W : Wd} {v : World} (h : KW W v) : KW W v.drew := ⟨h.os, h.tape, h.output, h.size, h.block⟩

structure Inv (W : Wd) (ops : Array Oper) (s0 s1 : List SV) (z : List Blk) (y : List (Array Value)) (E : List Eff) (k0 : Nat) (D : Nat → Bool) (β : Nat → Nat) (a : Act) (w : World) : Prop where
  df : a.defers = []
  sz : a.tmps.size = s0.length
  wr : ∀ t, t < s0.length → Wr ops D t → a.tmps.getD t undef = den β (slot s1 t)
  un : ∀ t, t < s0.length → ¬ Wr ops D t → a.tmps.getD t undef = den β (slot s0 t)
  bel : KW W w
  old : ∀ b, Mk E k0 D b → ¬ W.S (β b)
  rz : ∀ b, Mk E k0 D b → ¬ Sd E D b → w.heap[β b]? = some (.cells (zc z b).1 (zc z b).2 (0, 0))
  ry : ∀ b, Mk E k0 D b → Sd E D b → w.heap[β b]? = some (.cells (y.getD b #[]) (zc z b).2 (0, 0))
  inj : ∀ b c, Mk E k0 D b → Mk E k0 D c → β b = β c → b = c
  live : ∀ t p, t < s0.length → Wr ops D t → slot s1 t = .inr p → Mk E k0 D p.1
  live0 : ∀ t p, t < s0.length → slot s0 t = .inr p → p.1 < k0
  pin : ∀ b q, W.pn b = some q → b < k0 ∧ β b = q
  down : ∀ i o, D i = true → ops[i]? = some o → ∀ e ∈ o.after, Region.binds .any e = true → D e.on = true

def Post (s1 : List SV) (z : List Blk) (y : List (Array Value)) (o : Oper) (e : Eff) (β : Nat → Nat) (w : World) (v : Value) (w' : World) : Prop :=
  match e.nw, e.st with
  | some b, _ => ∃ q, w.heap.size ≤ q ∧ (∀ d fm, o.dst = some d → slot s1 d = .inr (b, fm) → v = fv fm q) ∧ w'.heap[q]? = some (.cells (zc z b).1 (zc z b).2 (0, 0)) ∧ Below w.heap.size w w'
  | none, some b => (∀ d, o.dst = some d → v = den β (slot s1 d)) ∧ Wrt w w' (β b) (y.getD b #[]) (zc z b).2
  | none, none => (∀ d, o.dst = some d → v = den β (slot s1 d)) ∧ Below w.heap.size w w'

structure OpOK (P : Program) (W : Wd) (s1 sr : List SV) (z : List Blk) (y : List (Array Value)) (o : Oper) (e : Eff) : Prop where
  ptr : ∀ b, (e.rd = some b ∨ e.st = some b ∨ (e.nw = none ∧ ∃ d off, o.dst = some d ∧ slot s1 d = .inr (b, off))) → ∃ t ∈ tmpsOf o, ∃ off, slot sr t = .inr (b, off)
  mkd : ∀ b, e.nw = some b → ∃ d fm, o.dst = some d ∧ slot s1 d = .inr (b, fm)
  std : ∀ b, e.nw = none → e.st = some b → True
  run : ∀ (β : Nat → Nat) (a : Act) (w : World), (∀ t ∈ tmpsOf o, a.eval (.tmp t) = den β (slot sr t)) → KW W w →
    (∀ b, e.rd = some b ∨ e.st = some b → w.heap[β b]? = some (.cells (zc z b).1 (zc z b).2 (0, 0))) → (∀ b, e.rd = some b ∨ e.st = some b → ¬ W.S (β b)) →
    ∀ (K : Act → World → Prop) (Q : Exit → Act → World → Prop), (∀ v w', Post s1 z y o e β w v w' → K (a.put o.dst v) w') → o.wp P a w K Q

def boolOf : SV → Option Bool
  | .inl (.bool b) => some b
  | _ => none
def wantF (ops : Array Oper) (s1 : List SV) (o : Oper) : Bool := match o.guard with
  | none => true
  | some (j, want) => ((dstAt ops j).bind fun d => boolOf (slot s1 d)) == some want

def reach (ops : Array Oper) : Nat → Nat → Nat → Bool
  | 0, _, _ => false
  | f + 1, s, i => match ops[s]? with
    | none => false
    | some o => o.after.any fun e => Region.binds .any e && (Nat.beq e.on i || reach ops f e.on i)

def opB (ops : Array Oper) (n k0 k1 : Nat) (E : List Eff) (i : Nat) (o : Oper) : Bool :=
  ((gdOf ops o).all fun t => Nat.blt t n && (List.range ops.size).all fun j => !(dstAt ops j == some t) || o.after.any fun e => Region.binds .any e && Nat.beq e.on j) &&
  ((tmpsOf o).all fun t => Nat.blt t n && (List.range ops.size).all fun j => !(dstAt ops j == some t) || (match (eff E i).od with
    | false => o.after.any fun e => Region.binds .any e && Nat.beq e.on j
    | true => reach ops 4 j i)) &&
  (match o.dst with
    | none => true
    | some d => Nat.blt d n && (List.range ops.size).all fun j => !(dstAt ops j == some d) || Nat.beq j i) &&
  (match (eff E i).nw with
    | none => true
    | some b => Nat.ble k0 b && Nat.blt b k1 && (eff E i).st == none && (List.range ops.size).all fun j => !((eff E j).nw == some b) || Nat.beq j i) &&
  (match (eff E i).st with
    | none => true
    | some b => (List.range ops.size).all fun j => (!((eff E j).st == some b) || Nat.beq j i) && (!((eff E j).nw == some b) || reach ops 4 i j)) &&
  (match (eff E i).rd with
    | none => true
    | some b => (List.range ops.size).all fun j => !((eff E j).st == some b) || reach ops 4 j i)

def chkB (ops : Array Oper) (n k0 k1 : Nat) (E : List Eff) : Bool :=
  acycB ops && Nat.ble E.length ops.size && (List.range ops.size).all fun i => match ops[i]? with
    | none => true
    | some o => opB ops n k0 k1 E i o

theorem reach_down {ops : Array Oper} {D : Nat → Bool} (hd : ∀ i o, D i = true → ops[i]? = some o → ∀ e ∈ o.after, Region.binds .any e = true → D e.on = true) :
    ∀ f s i, reach ops f s i = true → D s = true → D i = true := by
  intro f
  induction f with
  | zero => intro s i h; simp [reach] at h
  | succ f ih =>
    intro s i h hs
    simp only [reach] at h
    cases ho : ops[s]? with
    | none => simp [ho] at h
    | some o =>
      simp only [ho] at h
      obtain ⟨e, he, h1⟩ := Array.any_eq_true'.1 h
      simp only [Bool.and_eq_true, Bool.or_eq_true] at h1
      have hde := hd s o hs ho e he h1.1
      rcases h1.2 with h2 | h2
      · rw [Nat.beq_eq] at h2; rw [← h2]; exact hde
      · exact ih _ _ h2 hde

structure Chk (ops : Array Oper) (n k0 k1 : Nat) (E : List Eff) (i : Nat) (o : Oper) : Prop where
  glt : ∀ t ∈ gdOf ops o, t < n
  gedge : ∀ t ∈ gdOf ops o, ∀ j, dstAt ops j = some t → ∃ e ∈ o.after, Region.binds .any e = true ∧ e.on = j
  rlt : ∀ t ∈ tmpsOf o, t < n
  redge : (eff E i).od = false → ∀ t ∈ tmpsOf o, ∀ j, dstAt ops j = some t → ∃ e ∈ o.after, Region.binds .any e = true ∧ e.on = j
  rlate : (eff E i).od = true → ∀ t ∈ tmpsOf o, ∀ j, dstAt ops j = some t → reach ops 4 j i = true
  dlt : ∀ d, o.dst = some d → d < n
  duniq : ∀ d j, o.dst = some d → dstAt ops j = some d → j = i
  mkge : ∀ b, (eff E i).nw = some b → k0 ≤ b ∧ b < k1 ∧ (eff E i).st = none
  mkuniq : ∀ b j, (eff E i).nw = some b → (eff E j).nw = some b → j = i
  stuniq : ∀ b j, (eff E i).st = some b → (eff E j).st = some b → j = i
  stmk : ∀ b j, (eff E i).st = some b → (eff E j).nw = some b → reach ops 4 i j = true
  rdst : ∀ b j, (eff E i).rd = some b → (eff E j).st = some b → reach ops 4 j i = true

theorem eff_none {E : List Eff} {i : Nat} (h : E.length ≤ i) : eff E i = ⟨none, none, none, false⟩ := by simp [eff, List.getD, List.getElem?_eq_none h]

theorem chk_of {ops : Array Oper} {n k0 k1 : Nat} {E : List Eff} (h : chkB ops n k0 k1 E = true) (i : Nat) (o : Oper) (ho : ops[i]? = some o) : Chk ops n k0 k1 E i o := by
  unfold chkB at h
  simp only [Bool.and_eq_true, List.all_eq_true, List.mem_range] at h
  obtain ⟨⟨_, hE⟩, h⟩ := h
  have hE := Nat.le_of_ble_eq_true hE
  have hi : i < ops.size := (Array.getElem?_eq_some_iff.1 ho).1
  have hlt : ∀ j t, dstAt ops j = some t → j < ops.size := by
    intro j t hj
    unfold dstAt at hj
    rcases Nat.lt_or_ge j ops.size with h | h
    · exact h
    · simp [Array.getElem?_eq_none h] at hj
  have hle : ∀ j, ((eff E j).nw ≠ none ∨ (eff E j).st ≠ none) → j < ops.size := by
    intro j hj
    rcases Nat.lt_or_ge j ops.size with h | h
    · exact h
    · rw [eff_none (by omega)] at hj; simp at hj
  have h := h i hi
  simp only [ho] at h
  unfold opB at h
  simp only [Bool.and_eq_true] at h
  obtain ⟨⟨⟨⟨⟨h0, h1⟩, h2⟩, h3⟩, h4⟩, h5⟩ := h
  simp only [List.all_eq_true, Bool.and_eq_true, List.mem_range] at h0 h1
  refine ⟨fun t ht => by have := (h0 t ht).1; exact Nat.le_of_ble_eq_true this, fun t ht j hj => ?_, fun t ht => by have := (h1 t ht).1; exact Nat.le_of_ble_eq_true this, fun hod t ht j hj => ?_, fun hod t ht j hj => ?_, fun d hd => ?_, fun d j hd hj => ?_, fun b hb => ?_, fun b j hb hj => ?_, fun b j hb hj => ?_, fun b j hb hj => ?_, fun b j hb hj => ?_⟩
  · have := (h0 t ht).2 j (hlt j t hj)
    simp only [hj, beq_self_eq_true, Bool.not_true, Bool.false_or] at this
    obtain ⟨e, he, h6⟩ := Array.any_eq_true'.1 this
    simp only [Bool.and_eq_true] at h6
    exact ⟨e, he, h6.1, Nat.beq_eq.mp h6.2⟩
  · have := (h1 t ht).2 j (hlt j t hj)
    simp only [hj, beq_self_eq_true, Bool.not_true, Bool.false_or, hod] at this
    obtain ⟨e, he, h6⟩ := Array.any_eq_true'.1 this
    simp only [Bool.and_eq_true] at h6
    exact ⟨e, he, h6.1, Nat.beq_eq.mp h6.2⟩
  · have := (h1 t ht).2 j (hlt j t hj)
    simpa only [hj, beq_self_eq_true, Bool.not_true, Bool.false_or, hod] using this
  · simp only [hd, Bool.and_eq_true] at h2; exact Nat.le_of_ble_eq_true h2.1
  · simp only [hd, Bool.and_eq_true, List.all_eq_true, List.mem_range] at h2
    have := h2.2 j (hlt j d hj)
    simp only [hj, beq_self_eq_true, Bool.not_true, Bool.false_or] at this
    exact Nat.beq_eq.mp this
  · simp only [hb, Bool.and_eq_true] at h3
    exact ⟨Nat.le_of_ble_eq_true h3.1.1.1, Nat.le_of_ble_eq_true h3.1.1.2, by simpa using h3.1.2⟩
  · simp only [hb, Bool.and_eq_true, List.all_eq_true, List.mem_range] at h3
    have := h3.2 j (hle j (by simp [hj]))
    simp only [hj, beq_self_eq_true, Bool.not_true, Bool.false_or] at this
    exact Nat.beq_eq.mp this
  · simp only [hb, Bool.and_eq_true, List.all_eq_true, List.mem_range] at h4
    have := (h4 j (hle j (by simp [hj]))).1
    simp only [hj, beq_self_eq_true, Bool.not_true, Bool.false_or] at this
    exact Nat.beq_eq.mp this
  · simp only [hb, Bool.and_eq_true, List.all_eq_true, List.mem_range] at h4
    have := (h4 j (hle j (by simp [hj]))).2
    simpa only [hj, beq_self_eq_true, Bool.not_true, Bool.false_or] using this
  · simp only [hb, List.all_eq_true, List.mem_range] at h5
    have := h5 j (hle j (by simp [hj]))
    simpa only [hj, beq_self_eq_true, Bool.not_true, Bool.false_or] using this

def over (ops : Array Oper) (s1 s0 : List SV) : List SV := (ops.toList.filterMap (·.dst)).foldl (fun s d => s.set d (slot s1 d)) s0

theorem foldl_set_getD (s1 : List SV) : ∀ (ds : List Nat) (s : List SV) (t : Nat), t ∉ ds → slot (ds.foldl (fun s d => s.set d (slot s1 d)) s) t = slot s t := by
  intro ds
  induction ds with
  | nil => intro s t _; rfl
  | cons d ds ih =>
    intro s t ht
    simp only [List.mem_cons, not_or] at ht
    rw [List.foldl_cons, ih _ _ ht.2]
    have hd : ¬ d = t := fun h => ht.1 h.symm
    generalize slot s1 d = v
    unfold slot
    simp only [List.getD_eq_getElem?_getD, List.getElem?_set]
    simp [hd]

theorem mask_eq {ops : Array Oper} {s0 s1 : List SV} (hm : over ops s1 s0 = s1) (t : Nat) (h : ∀ i, dstAt ops i ≠ some t) : slot s1 t = slot s0 t := by
  have hn : t ∉ ops.toList.filterMap (·.dst) := by
    intro hmem
    obtain ⟨o, ho, hd⟩ := List.mem_filterMap.1 hmem
    obtain ⟨i, hi⟩ := List.getElem?_of_mem ho
    refine h i ?_
    unfold dstAt
    simp at hi
    simp [hi, hd]
  have h0 := foldl_set_getD s1 _ s0 t hn
  unfold over at hm
  rw [hm] at h0
  exact h0

theorem put_getD (a : Act) (dst : Option Tmp) (v : Value) (t : Nat) : (a.put dst v).tmps.getD t undef = if dst = some t ∧ t < a.tmps.size then v else a.tmps.getD t undef := by
  cases dst with
  | none => simp [Act.put]
  | some d =>
    simp only [Act.put]
    by_cases h : d = t
    · subst h
      by_cases hl : d < a.tmps.size
      · simp [Array.getD, hl]
      · simp [Array.getD, hl]
    · have : ¬ (some d = some t ∧ t < a.tmps.size) := by simp [h]
      rw [if_neg this]
      by_cases hl : t < a.tmps.size
      · simp [Array.getD, hl, h]
      · simp [Array.getD, hl]
theorem put_size (a : Act) (dst : Option Tmp) (v : Value) : (a.put dst v).tmps.size = a.tmps.size := by cases dst <;> simp [Act.put]
theorem put_df (a : Act) (dst : Option Tmp) (v : Value) : (a.put dst v).defers = a.defers := by cases dst <;> rfl

def add1 (D : Nat → Bool) (i : Nat) : Nat → Bool := fun j => if j = i then true else D j

section
variable {P : Program} {ops : Array Oper} {W : Wd} {s0 s1 : List SV} {z : List Blk} {y : List (Array Value)} {E : List Eff} {k0 k1 : Nat} {D : Nat → Bool} {β : Nat → Nat} {a : Act} {w : World} {i : Nat} {o : Oper}

theorem wr_add (ho : ops[i]? = some o) (t : Nat) : Wr ops (add1 D i) t ↔ (Wr ops D t ∨ o.dst = some t) := by
  have hd : dstAt ops i = o.dst := by simp [dstAt, ho]
  unfold Wr add1
  constructor
  · rintro ⟨j, hj, ht⟩
    by_cases h : j = i
    · subst h; right; rw [← hd]; exact ht
    · left; exact ⟨j, by simpa [h] using hj, ht⟩
  · rintro (⟨j, hj, ht⟩ | h)
    · exact ⟨j, by split <;> simp_all, ht⟩
    · exact ⟨i, by simp, by rw [hd]; exact h⟩
theorem mk_add (b : Nat) : Mk E k0 (add1 D i) b ↔ (Mk E k0 D b ∨ (eff E i).nw = some b) := by
  unfold Mk add1
  constructor
  · rintro (h | ⟨j, hj, ht⟩)
    · exact Or.inl (Or.inl h)
    by_cases h : j = i
    · subst h; right; exact ht
    · left; right; exact ⟨j, by simpa [h] using hj, ht⟩
  · rintro ((h | ⟨j, hj, ht⟩) | h)
    · exact Or.inl h
    · exact Or.inr ⟨j, by split <;> simp_all, ht⟩
    · exact Or.inr ⟨i, by simp, h⟩
theorem sd_add (b : Nat) : Sd E (add1 D i) b ↔ (Sd E D b ∨ (eff E i).st = some b) := by
  unfold Sd add1
  constructor
  · rintro ⟨j, hj, ht⟩
    by_cases h : j = i
    · subst h; right; exact ht
    · left; exact ⟨j, by simpa [h] using hj, ht⟩
  · rintro (⟨j, hj, ht⟩ | h)
    · exact ⟨j, by split <;> simp_all, ht⟩
    · exact ⟨i, by simp, h⟩

theorem Inv.reads_g (h : Inv W ops s0 s1 z y E k0 D β a w) (hc : Chk ops s0.length k0 k1 E i o) (hm : over ops s1 s0 = s1) (hdep : ∀ e ∈ o.after, Region.binds .any e = true → D e.on = true)
    (t : Nat) (ht : t ∈ gdOf ops o) : a.tmps.getD t undef = den β (slot s1 t) := by
  have hlt := hc.glt t ht
  by_cases hw : ∃ j, dstAt ops j = some t
  · obtain ⟨j, hj⟩ := hw
    obtain ⟨e, he, hb, rfl⟩ := hc.gedge t ht j hj
    exact h.wr t hlt ⟨e.on, hdep e he hb, hj⟩
  · have hn : ∀ j, dstAt ops j ≠ some t := fun j hj => hw ⟨j, hj⟩
    have hW : ¬ Wr ops D t := fun ⟨j, _, hj⟩ => hn j hj
    rw [mask_eq hm t hn]
    exact h.un t hlt hW
def srd (E : List Eff) (i : Nat) (s0 s1 : List SV) : List SV := match (eff E i).od with
  | false => s1
  | true => s0
theorem Inv.reads (h : Inv W ops s0 s1 z y E k0 D β a w) (hc : Chk ops s0.length k0 k1 E i o) (hm : over ops s1 s0 = s1) (hdep : ∀ e ∈ o.after, Region.binds .any e = true → D e.on = true) (hD : D i = false)
    (t : Nat) (ht : t ∈ tmpsOf o) : a.tmps.getD t undef = den β (slot (srd E i s0 s1) t) ∧ (∀ p, slot (srd E i s0 s1) t = .inr p → Mk E k0 D p.1) := by
  have hlt := hc.rlt t ht
  unfold srd
  cases hod : (eff E i).od with
  | false =>
    simp only
    by_cases hw : ∃ j, dstAt ops j = some t
    · obtain ⟨j, hj⟩ := hw
      obtain ⟨e, he, hb, rfl⟩ := hc.redge hod t ht j hj
      have hW : Wr ops D t := ⟨e.on, hdep e he hb, hj⟩
      exact ⟨h.wr t hlt hW, fun p hp => h.live t p hlt hW hp⟩
    · have hn : ∀ j, dstAt ops j ≠ some t := fun j hj => hw ⟨j, hj⟩
      have hW : ¬ Wr ops D t := fun ⟨j, _, hj⟩ => hn j hj
      rw [mask_eq hm t hn]
      exact ⟨h.un t hlt hW, fun p hp => Or.inl (h.live0 t p hlt hp)⟩
  | true =>
    simp only
    have hW : ¬ Wr ops D t := fun ⟨j, hDj, hj⟩ => by
      have := reach_down h.down _ _ _ (hc.rlate hod t ht j hj) hDj
      rw [hD] at this; cases this
    exact ⟨h.un t hlt hW, fun p hp => Or.inl (h.live0 t p hlt hp)⟩

theorem down_add (h : Inv W ops s0 s1 z y E k0 D β a w) (ho : ops[i]? = some o) (hdep : ∀ e ∈ o.after, Region.binds .any e = true → D e.on = true) :
    ∀ j o', add1 D i j = true → ops[j]? = some o' → ∀ e ∈ o'.after, Region.binds .any e = true → add1 D i e.on = true := by
  intro j o' hj ho' e he hb
  have : D e.on = true := by
    by_cases hji : j = i
    · subst hji; rw [ho] at ho'; cases ho'; exact hdep e he hb
    · exact h.down j o' (by simpa [add1, hji] using hj) ho' e he hb
  unfold add1; split <;> simp_all

theorem Inv.quiet (h : Inv W ops s0 s1 z y E k0 D β a w) (ho : ops[i]? = some o) (hc : Chk ops s0.length k0 k1 E i o) (hdep : ∀ e ∈ o.after, Region.binds .any e = true → D e.on = true) (hD : D i = false)
    (hmk : (eff E i).nw = none) (hst : (eff E i).st = none) (v : Value) (w' : World) (hv : ∀ d, o.dst = some d → v = den β (slot s1 d)) (hb : Below w.heap.size w w')
    (hp : ∀ d p, o.dst = some d → slot s1 d = .inr p → Mk E k0 D p.1) : Inv W ops s0 s1 z y E k0 (add1 D i) β (a.put o.dst v) w' := by
  have hM : ∀ b, Mk E k0 (add1 D i) b ↔ Mk E k0 D b := fun b => by rw [mk_add, hmk]; simp
  have hS : ∀ b, Sd E (add1 D i) b ↔ Sd E D b := fun b => by rw [sd_add, hst]; simp
  have hnd : ∀ d, o.dst = some d → ¬ Wr ops D d := fun d hd ⟨j, hj, hdj⟩ => by
    have := hc.duniq d j hd hdj; subst this; rw [hD] at hj; cases hj
  refine ⟨by rw [put_df]; exact h.df, by rw [put_size]; exact h.sz, ?_, ?_, h.bel.quiet hb, fun b hb => h.old b ((hM b).1 hb), ?_, ?_, fun b c h1 h2 => h.inj b c ((hM b).1 h1) ((hM c).1 h2), ?_, h.live0, h.pin, down_add h ho hdep⟩
  · intro t ht hw
    rw [put_getD, h.sz]
    by_cases e : o.dst = some t
    · rw [if_pos ⟨e, ht⟩]; exact hv t e
    · rw [if_neg (fun x => e x.1)]
      exact h.wr t ht (((wr_add ho t).1 hw).resolve_right e)
  · intro t ht hw
    rw [put_getD]
    have e : ¬ o.dst = some t := fun e => hw ((wr_add ho t).2 (Or.inr e))
    rw [if_neg (fun x => e x.1)]
    exact h.un t ht (fun x => hw ((wr_add ho t).2 (Or.inl x)))
  · intro b h1 h2
    exact row_below (h.rz b ((hM b).1 h1) (fun x => h2 ((hS b).2 x))) hb
  · intro b h1 h2
    exact row_below (h.ry b ((hM b).1 h1) ((hS b).1 h2)) hb
  · intro t p ht hw hs
    refine (hM _).2 ?_
    by_cases e : o.dst = some t
    · exact hp t p e hs
    · exact h.live t p ht (((wr_add ho t).1 hw).resolve_right e) hs

theorem Inv.make (h : Inv W ops s0 s1 z y E k0 D β a w) (ho : ops[i]? = some o) (hc : Chk ops s0.length k0 k1 E i o) (hS0 : ∀ s b, (eff E s).st = some b → (eff E i).nw = some b → reach ops 4 s i = true) (hdep : ∀ e ∈ o.after, Region.binds .any e = true → D e.on = true) (hD : D i = false)
    (b : Nat) (hmk : (eff E i).nw = some b) (d : Tmp) (fm : Fm) (hd : o.dst = some d) (hs : slot s1 d = .inr (b, fm)) {q : Nat} {w' : World} (hq : w.heap.size ≤ q) (hnew : w'.heap[q]? = some (.cells (zc z b).1 (zc z b).2 (0, 0))) (hbel : Below w.heap.size w w') :
    ∃ β', (∀ c, Mk E k0 D c → β' c = β c) ∧ Inv W ops s0 s1 z y E k0 (add1 D i) β' (a.put o.dst (fv fm q)) w' := by
  obtain ⟨hk0, _, hst⟩ := hc.mkge b hmk
  have hM : ∀ c, Mk E k0 (add1 D i) c ↔ (Mk E k0 D c ∨ c = b) := fun c => by rw [mk_add, hmk]; simp [eq_comm]
  have hS : ∀ c, Sd E (add1 D i) c ↔ Sd E D c := fun c => by rw [sd_add, hst]; simp
  have hnb : ¬ Mk E k0 D b := by
    rintro (h1 | ⟨j, hj, hjb⟩)
    · omega
    · have := hc.mkuniq b j hmk hjb; subst this; rw [hD] at hj; cases hj
  have hnS : ¬ Sd E D b := by
    rintro ⟨s, hs1, hs2⟩
    have := reach_down h.down _ _ _ (hS0 s b hs2 hmk) hs1
    rw [hD] at this; cases this
  have hne : ∀ c, Mk E k0 D c → (if c = b then q else β c) = β c := fun c hcM => if_neg (fun e : c = b => hnb (by rw [← e]; exact hcM))
  have hrow : ∀ c, Mk E k0 D c → β c < w.heap.size := fun c hcM => by
    by_cases x : Sd E D c
    · exact row_lt (h.ry c hcM x)
    · exact row_lt (h.rz c hcM x)
  have hden : ∀ sv : SV, (∀ p, sv = .inr p → Mk E k0 D p.1) → den (fun c => if c = b then q else β c) sv = den β sv := by
    intro sv hsv
    cases sv with
    | inl v => rfl
    | inr p => simp only [den, hne _ (hsv p rfl)]
  refine ⟨fun c => if c = b then q else β c, hne, by rw [put_df]; exact h.df, by rw [put_size]; exact h.sz, ?_, ?_, h.bel.quiet hbel, ?_, ?_, ?_, ?_, ?_, h.live0, fun c r hc => ⟨(h.pin c r hc).1, by simp only [hne c (Or.inl (h.pin c r hc).1)]; exact (h.pin c r hc).2⟩, down_add h ho hdep⟩
  · intro t ht hw
    rw [put_getD, h.sz]
    by_cases e : o.dst = some t
    · rw [if_pos ⟨e, ht⟩]
      rw [hd] at e; cases e
      rw [hs]; simp [den]
    · rw [if_neg (fun x => e x.1)]
      have hW := ((wr_add ho t).1 hw).resolve_right e
      rw [hden _ (fun p hp => h.live t p ht hW hp)]
      exact h.wr t ht hW
  · intro t ht hw
    rw [put_getD]
    have e : ¬ o.dst = some t := fun e => hw ((wr_add ho t).2 (Or.inr e))
    rw [if_neg (fun x => e x.1), hden _ (fun p hp => Or.inl (h.live0 t p ht hp))]
    exact h.un t ht (fun x => hw ((wr_add ho t).2 (Or.inl x)))
  · intro c hcM
    rcases (hM c).1 hcM with h1 | h1
    · simp only [hne c h1]; exact h.old c h1
    · subst h1; simp only [if_true]; exact fun hs => by have := W.lt _ hs; have := h.bel.size; omega
  · intro c hcM hcS
    rcases (hM c).1 hcM with h1 | h1
    · simp only [hne c h1]; exact row_below (h.rz c h1 (fun x => hcS ((hS c).2 x))) hbel
    · subst h1; simp only [if_true]; exact hnew
  · intro c hcM hcS
    rcases (hM c).1 hcM with h1 | h1
    · simp only [hne c h1]; exact row_below (h.ry c h1 ((hS c).1 hcS)) hbel
    · subst h1; exact absurd ((hS c).1 hcS) hnS
  · intro c c' hcM hcM' he
    rcases (hM c).1 hcM with h1 | h1 <;> rcases (hM c').1 hcM' with h2 | h2
    · simp only [hne c h1, hne c' h2] at he; exact h.inj c c' h1 h2 he
    · subst h2; simp only [hne c h1, if_true] at he; have := hrow c h1; omega
    · subst h1; simp only [hne c' h2, if_true] at he; have := hrow c' h2; omega
    · rw [h1, h2]
  · intro t p ht hw hsl
    refine (hM _).2 ?_
    by_cases e : o.dst = some t
    · rw [hd] at e; cases e
      rw [hs] at hsl; cases hsl; exact Or.inr rfl
    · exact Or.inl (h.live t p ht (((wr_add ho t).1 hw).resolve_right e) hsl)

theorem Inv.write (h : Inv W ops s0 s1 z y E k0 D β a w) (ho : ops[i]? = some o) (hdep : ∀ e ∈ o.after, Region.binds .any e = true → D e.on = true)
    (b : Nat) (hmk : (eff E i).nw = none) (hst : (eff E i).st = some b) (hMb : Mk E k0 D b) (v : Value) (w' : World) (hv : ∀ d, o.dst = some d → v = den β (slot s1 d)) (hw' : Wrt w w' (β b) (y.getD b #[]) (zc z b).2)
    (hp : ∀ d p, o.dst = some d → slot s1 d = .inr p → Mk E k0 D p.1) : Inv W ops s0 s1 z y E k0 (add1 D i) β (a.put o.dst v) w' := by
  have hM : ∀ c, Mk E k0 (add1 D i) c ↔ Mk E k0 D c := fun c => by rw [mk_add, hmk]; simp
  have hS : ∀ c, Sd E (add1 D i) c ↔ (Sd E D c ∨ c = b) := fun c => by rw [sd_add, hst]; simp [eq_comm]
  have hkeep : ∀ c (x : Obj), Mk E k0 D c → c ≠ b → w.heap[β c]? = some x → w'.heap[β c]? = some x := fun c x hcM hne hx => by
    rw [hw'.block _ (Array.getElem?_eq_some_iff.1 hx).1 (fun e => hne (h.inj c b hcM hMb e))]; exact hx
  refine ⟨by rw [put_df]; exact h.df, by rw [put_size]; exact h.sz, ?_, ?_, h.bel.wrt (h.old b hMb) hw', fun c hcM => h.old c ((hM c).1 hcM), ?_, ?_, fun c c' h1 h2 => h.inj c c' ((hM c).1 h1) ((hM c').1 h2), ?_, h.live0, h.pin, down_add h ho hdep⟩
  · intro t ht hw
    rw [put_getD, h.sz]
    by_cases e : o.dst = some t
    · rw [if_pos ⟨e, ht⟩]; exact hv t e
    · rw [if_neg (fun x => e x.1)]
      exact h.wr t ht (((wr_add ho t).1 hw).resolve_right e)
  · intro t ht hw
    rw [put_getD]
    have e : ¬ o.dst = some t := fun e => hw ((wr_add ho t).2 (Or.inr e))
    rw [if_neg (fun x => e x.1)]
    exact h.un t ht (fun x => hw ((wr_add ho t).2 (Or.inl x)))
  · intro c hcM hcS
    have hcM := (hM c).1 hcM
    have hne : c ≠ b := fun e => hcS ((hS c).2 (Or.inr e))
    exact hkeep c _ hcM hne (h.rz c hcM (fun x => hcS ((hS c).2 (Or.inl x))))
  · intro c hcM hcS
    have hcM := (hM c).1 hcM
    by_cases e : c = b
    · subst e; exact hw'.row
    · exact hkeep c _ hcM e (h.ry c hcM (((hS c).1 hcS).resolve_right e))
  · intro t p ht hw hs
    refine (hM _).2 ?_
    by_cases e : o.dst = some t
    · exact hp t p e hs
    · exact h.live t p ht (((wr_add ho t).1 hw).resolve_right e) hs

theorem Inv.step (h : Inv W ops s0 s1 z y E k0 D β a w) (hall : chkB ops s0.length k0 k1 E = true) (ho : ops[i]? = some o) (hm : over ops s1 s0 = s1) (hdep : ∀ e ∈ o.after, Region.binds .any e = true → D e.on = true) (hD : D i = false)
    (hok : (wantF ops s1 o = true ∧ OpOK P W s1 (srd E i s0 s1) z y o (eff E i)) ∨ (wantF ops s1 o = false ∧ (eff E i) = ⟨none, none, none, false⟩ ∧ ∀ d, o.dst = some d → slot s1 d = .inl undef))
    (K : Act → World → Prop) (Q : Exit → Act → World → Prop) (hK : ∀ β' a' w', (∀ c, Mk E k0 D c → β' c = β c) → Inv W ops s0 s1 z y E k0 (add1 D i) β' a' w' → K a' w') :
    (Region.wanted o (yielded ops a.tmps) = true ∧ o.wp P a w K Q) ∨ (Region.wanted o (yielded ops a.tmps) = false ∧ K (a.put o.dst undef) w) := by
  have hc := chk_of hall i o ho
  have hrd := h.reads hc hm hdep hD
  have hgd := h.reads_g hc hm hdep
  have hwant : Region.wanted o (yielded ops a.tmps) = wantF ops s1 o := by
    unfold Region.wanted wantF
    cases hg : o.guard with
    | none => rfl
    | some g =>
      obtain ⟨j, want⟩ := g
      simp only
      congr 1
      unfold yielded
      cases hdj : dstAt ops j with
      | none =>
        have : ((ops[j]?).bind (·.dst)) = none := hdj
        rw [this]; rfl
      | some d =>
        have : ((ops[j]?).bind (·.dst)) = some d := hdj
        rw [this]
        have hmem : d ∈ gdOf ops o := by unfold gdOf; rw [hg]; simp [hdj]
        have h1 := hgd d hmem
        have hdl := hc.glt d hmem
        have h2 : a.tmps[d]? = some (den β (slot s1 d)) := by
          rw [← h1]
          have : d < a.tmps.size := by rw [h.sz]; exact hdl
          simp [Array.getD, this]
        simp only [Option.bind_some, h2]
        cases slot s1 d with
        | inl v => cases v <;> rfl
        | inr p => rcases p with ⟨b, f | t | f⟩ <;> rfl
  rcases hok with ⟨hw, hop⟩ | ⟨hw, he, hd⟩
  · left
    refine ⟨by rw [hwant]; exact hw, ?_⟩
    have hptr : ∀ b, (∃ t ∈ tmpsOf o, ∃ off, slot (srd E i s0 s1) t = .inr (b, off)) → Mk E k0 D b := by
      rintro b ⟨t, ht, off, hs⟩
      exact (hrd t ht).2 _ hs
    refine hop.run β a w (fun t ht => (hrd t ht).1) h.bel (fun b hb => ?_) (fun b hb => h.old b (hptr b (hop.ptr b (hb.elim Or.inl (fun x => Or.inr (Or.inl x)))))) K Q (fun v w' hp => ?_)
    · have hMb : Mk E k0 D b := hptr b (hop.ptr b (by exact hb.elim Or.inl (fun x => Or.inr (Or.inl x))))
      refine h.rz b hMb ?_
      rintro ⟨s, hs1, hs2⟩
      rcases hb with hb | hb
      · have := reach_down h.down _ _ _ (hc.rdst b s hb hs2) hs1
        rw [hD] at this; cases this
      · have := hc.stuniq b s hb hs2; subst this; rw [hD] at hs1; cases hs1
    · unfold Post at hp
      cases hmk : (eff E i).nw with
      | some b =>
        simp only [hmk] at hp
        obtain ⟨q, hq, hv, hrow, hbel⟩ := hp
        obtain ⟨d, fm, hd, hs⟩ := hop.mkd b hmk
        obtain rfl := hv d fm hd hs
        have hS0 : ∀ s c, (eff E s).st = some c → (eff E i).nw = some c → reach ops 4 s i = true := by
          intro s c h1 h2
          have hs : s < ops.size := by
            rcases Nat.lt_or_ge s ops.size with h | h
            · exact h
            · exfalso
              unfold chkB at hall
              simp only [Bool.and_eq_true] at hall
              have hE := Nat.le_of_ble_eq_true hall.1.2
              rw [eff_none (by omega)] at h1; cases h1
          exact (chk_of hall s ops[s] (by simp [hs])).stmk c i h1 h2
        obtain ⟨β', hβ, hI⟩ := h.make ho hc hS0 hdep hD b hmk d fm hd hs hq hrow hbel
        exact hK _ _ _ hβ hI
      | none =>
        cases hst : (eff E i).st with
        | some b =>
          simp only [hmk, hst] at hp
          exact hK _ _ _ (fun _ _ => rfl) (h.write ho hdep b hmk hst (hptr b (hop.ptr b (Or.inr (Or.inl hst)))) v w' hp.1 hp.2 (fun d p hd hs => hptr p.1 (hop.ptr p.1 (Or.inr (Or.inr ⟨hmk, d, p.2, hd, hs⟩)))))
        | none =>
          simp only [hmk, hst] at hp
          refine hK _ _ _ (fun _ _ => rfl) (h.quiet ho hc hdep hD hmk hst v w' hp.1 hp.2 (fun d p hd hs => ?_))
          exact hptr p.1 (hop.ptr p.1 (Or.inr (Or.inr ⟨hmk, d, p.2, hd, hs⟩)))
  · right
    refine ⟨by rw [hwant]; exact hw, hK β _ _ (fun _ _ => rfl) (h.quiet ho hc hdep hD (by rw [he]) (by rw [he]) undef w (fun d hd' => by rw [hd d hd']; rfl) (Below.refl _ _) (fun d p hd' hs => ?_))⟩
    rw [hd d hd'] at hs; cases hs
end
end Go.Proofs.YtacokkedomjgpaaGreatDoor

namespace Go.Proofs.YtacokkedomjgpaaGreatDoor
open Go.RowKit

structure St (W : Wd) (s : List SV) (m : List Blk) (β : Nat → Nat) (a : Act) (w : World) : Prop where
  tm : a = { tmps := (s.map (den β)).toArray, defers := [] }
  bel : KW W w
  row : ∀ b c, m[b]? = some c → w.heap[β b]? = some (.cells c.1 c.2 (0, 0))
  old : ∀ b, b < m.length → ¬ W.S (β b)
  inj : ∀ b c, b < m.length → c < m.length → β b = β c → b = c
  live : ∀ t p, t < s.length → slot s t = .inr p → p.1 < m.length
  pin : ∀ b q, W.pn b = some q → b < m.length ∧ β b = q

def Ok1 (P : Program) (W : Wd) (ops : Array Oper) (s0 s1 : List SV) (z : List Blk) (y : List (Array Value)) (o : Oper) (e : Eff) : Prop :=
  (wantF ops s1 o = true ∧ OpOK P W s1 (match e.od with | false => s1 | true => s0) z y o e) ∨ (wantF ops s1 o = false ∧ e = ⟨none, none, none, false⟩ ∧ ∀ d, o.dst = some d → slot s1 d = .inl undef)

def AllOK (P : Program) (W : Wd) (ops : Array Oper) (s0 s1 : List SV) (z : List Blk) (y : List (Array Value)) : List Oper → List Eff → Prop
  | [], _ => True
  | o :: r, [] => Ok1 P W ops s0 s1 z y o ⟨none, none, none, false⟩ ∧ AllOK P W ops s0 s1 z y r []
  | o :: r, e :: es => Ok1 P W ops s0 s1 z y o e ∧ AllOK P W ops s0 s1 z y r es

def stB (E : List Eff) (b : Nat) : Bool := E.any fun e => e.st == some b
def fin (E : List Eff) (y : List (Array Value)) : Nat → List Blk → List Blk
  | _, [] => []
  | b, c :: r => (if stB E b then (y.getD b #[], c.2) else c) :: fin E y (b + 1) r
def madeB (E : List Eff) (k0 k1 : Nat) : Bool := (List.range k1).all fun b => Nat.blt b k0 || E.any fun e => e.nw == some b

section
variable {P : Program} {ops : Array Oper} {W : Wd} {s0 s1 : List SV} {z : List Blk} {y : List (Array Value)} {E : List Eff} {Q : Exit → Act → World → Prop}

theorem allOK_get : ∀ (l : List Oper) (es : List Eff), AllOK P W ops s0 s1 z y l es → ∀ j o, l[j]? = some o → Ok1 P W ops s0 s1 z y o (eff es j)
  | [], _, _, j, o, h => by simp at h
  | o' :: r, [], hA, 0, o, h => by simp at h; subst h; exact hA.1
  | o' :: r, [], hA, j + 1, o, h => by
    have := allOK_get r [] hA.2 j o (by simpa using h)
    simpa [eff] using this
  | o' :: r, e :: es, hA, 0, o, h => by simp at h; subst h; exact hA.1
  | o' :: r, e :: es, hA, j + 1, o, h => by
    have := allOK_get r es hA.2 j o (by simpa using h)
    simpa [eff] using this

theorem fin_get : ∀ (l : List Blk) (k b : Nat), (fin E y k l)[b]? = (l[b]?).map fun c => if stB E (k + b) then (y.getD (k + b) #[], c.2) else c
  | [], _, _ => by simp [fin]
  | c :: r, k, 0 => by simp [fin]
  | c :: r, k, b + 1 => by
    have := fin_get r (k + 1) b
    simp only [fin, List.getElem?_cons_succ, this, show k + 1 + b = k + (b + 1) by omega]
theorem fin_len (l : List Blk) (k : Nat) : (fin E y k l).length = l.length := by
  induction l generalizing k with
  | nil => rfl
  | cons c r ih => simp [fin, ih]

theorem stB_iff (n : Nat) (hn : E.length ≤ n) (b : Nat) : stB E b = true ↔ ∃ i, i < n ∧ (eff E i).st = some b := by
  unfold stB
  rw [List.any_eq_true]
  constructor
  · rintro ⟨e, he, h⟩
    obtain ⟨i, hi⟩ := List.getElem?_of_mem he
    have hl : i < E.length := (List.getElem?_eq_some_iff.1 hi).1
    exact ⟨i, by omega, by simp [eff, List.getD, hi]; simpa using h⟩
  · rintro ⟨i, _, h⟩
    by_cases hl : i < E.length
    · exact ⟨E[i], List.getElem_mem hl, by simp [eff, List.getD, hl] at h; simp [h]⟩
    · rw [eff_none (by omega)] at h; simp at h

theorem inv_start {m0 : List Blk} {β : Nat → Nat} {a : Act} {w : World} (h : St W s0 m0 β a w) (hz : z.take m0.length = m0) : Inv W ops s0 s1 z y E m0.length (fun _ => false) β a w.drew ∧ Inv W ops s0 s1 z y E m0.length (fun _ => false) β a w := by
  have hW : ∀ t, ¬ Wr ops (fun _ => false) t := by rintro t ⟨i, h, _⟩; cases h
  have hM : ∀ b, Mk E m0.length (fun _ => false) b → b < m0.length := by
    rintro b (h | ⟨i, h, _⟩)
    · exact h
    · cases h
  have hS : ∀ b, ¬ Sd E (fun _ => false) b := by rintro b ⟨i, h, _⟩; cases h
  have hr : ∀ b, b < m0.length → w.heap[β b]? = some (.cells (zc z b).1 (zc z b).2 (0, 0)) := by
    intro b hb
    have h1 : m0[b]? = some (zc z b) := by
      have : (z.take m0.length)[b]? = z[b]? := by rw [List.getElem?_take]; simp [hb]
      rw [hz] at this
      have h2 : m0[b]? = some m0[b] := by simp [hb]
      rw [this] at h2
      unfold zc
      rw [List.getD_eq_getElem?_getD, this, h2]; rfl
    exact h.row b _ h1
  have hu : ∀ t, t < s0.length → a.tmps.getD t undef = den β (slot s0 t) := by
    intro t ht
    rw [h.tm]
    simp [Array.getD, slot, ht]
  have hsz : a.tmps.size = s0.length := by rw [h.tm]; simp
  have hdf : a.defers = [] := by rw [h.tm]
  constructor
  · exact ⟨hdf, hsz, fun t _ hw => absurd hw (hW t), fun t ht _ => hu t ht, h.bel.drew, fun b hb => h.old b (hM b hb), fun b hb _ => hr b (hM b hb), fun b _ hs => absurd hs (hS b), fun b c hb hc => h.inj b c (hM b hb) (hM c hc), fun t p _ hw _ => absurd hw (hW t), fun t p ht hs => h.live t p ht hs, h.pin, fun i o hi => by cases hi⟩
  · exact ⟨hdf, hsz, fun t _ hw => absurd hw (hW t), fun t ht _ => hu t ht, h.bel, fun b hb => h.old b (hM b hb), fun b hb _ => hr b (hM b hb), fun b _ hs => absurd hs (hS b), fun b c hb hc => h.inj b c (hM b hb) (hM c hc), fun t p _ hw _ => absurd hw (hW t), fun t p ht hs => h.live t p ht hs, h.pin, fun i o hi => by cases hi⟩

theorem inv_end {m1 : List Blk} {k0 : Nat} {D : Nat → Bool} {β : Nat → Nat} {a : Act} {w : World} (h : Inv W ops s0 s1 z y E k0 D β a w) (hchk : chkB ops s0.length k0 z.length E = true) (hlen : s1.length = s0.length) (hmask : over ops s1 s0 = s1)
    (hmk : madeB E k0 z.length = true) (hk : k0 ≤ z.length) (hm1 : fin E y 0 z = m1) (hD : ∀ i, i < ops.size → D i = true) : St W s1 m1 β a w := by
  have hE : E.length ≤ ops.size := by
    unfold chkB at hchk
    simp only [Bool.and_eq_true] at hchk
    exact Nat.le_of_ble_eq_true hchk.1.2
  have hml : m1.length = z.length := by rw [← hm1, fin_len]
  have hMk : ∀ b, b < z.length → Mk E k0 D b := by
    intro b hb
    unfold madeB at hmk
    have := List.all_eq_true.1 hmk b (by simpa using hb)
    rcases Bool.or_eq_true_iff.1 this with h1 | h1
    · exact Or.inl (Nat.le_of_ble_eq_true h1)
    · obtain ⟨e, he, h2⟩ := List.any_eq_true.1 h1
      obtain ⟨i, hi⟩ := List.getElem?_of_mem he
      have hl : i < E.length := (List.getElem?_eq_some_iff.1 hi).1
      exact Or.inr ⟨i, hD i (by omega), by simp [eff, List.getD, hi]; simpa using h2⟩
  have hval : ∀ t, t < s0.length → a.tmps.getD t undef = den β (slot s1 t) := by
    intro t ht
    by_cases hw : Wr ops D t
    · exact h.wr t ht hw
    · have hn : ∀ i, dstAt ops i ≠ some t := by
        intro i hi
        refine hw ⟨i, hD i ?_, hi⟩
        unfold dstAt at hi
        rcases Nat.lt_or_ge i ops.size with h | h
        · exact h
        · simp [Array.getElem?_eq_none h] at hi
      rw [mask_eq hmask t hn]
      exact h.un t ht hw
  refine ⟨?_, h.bel, ?_, fun b hb => h.old b (hMk b (by omega)), fun b c hb hc => h.inj b c (hMk b (by omega)) (hMk c (by omega)), ?_, fun b q hb => ⟨by have := (h.pin b q hb).1; omega, (h.pin b q hb).2⟩⟩
  · have hdf := h.df
    cases a with
    | mk tmps defers =>
      simp only at hdf
      subst hdf
      congr 1
      apply Array.ext_getElem?
      intro t
      by_cases ht : t < s0.length
      · have h1 := hval t ht
        have h2 : t < tmps.size := by have := h.sz; simp only at this; omega
        have h3 : t < s1.length := by omega
        simp [Array.getD, h2, slot, h3] at h1
        simp [h2, h3, h1]
      · have h2 : ¬ t < tmps.size := by have := h.sz; simp only at this; omega
        have h3 : ¬ t < s1.length := by omega
        rw [Array.getElem?_eq_none (by omega), Array.getElem?_eq_none (by simp; omega)]
  · intro b c hb
    have hbl : b < z.length := by rw [← hml]; exact (List.getElem?_eq_some_iff.1 hb).1
    rw [← hm1, fin_get] at hb
    have hzb : z[b]? = some (zc z b) := by simp [zc, List.getD, hbl]
    rw [hzb] at hb
    simp only [Option.map_some, Nat.zero_add, Option.some.injEq] at hb
    by_cases hs : stB E b = true
    · rw [if_pos hs] at hb
      subst hb
      obtain ⟨i, hi, hst⟩ := (stB_iff ops.size hE b).1 hs
      exact h.ry b (hMk b hbl) ⟨i, hD i hi, hst⟩
    · rw [if_neg hs] at hb
      subst hb
      refine h.rz b (hMk b hbl) ?_
      rintro ⟨i, _, hst⟩
      refine hs ((stB_iff ops.size hE b).2 ⟨i, ?_, hst⟩)
      rcases Nat.lt_or_ge i ops.size with h | h
      · exact h
      · rw [eff_none (by omega)] at hst; cases hst
  · intro t p ht hs
    rw [hml]
    by_cases hw : Wr ops D t
    · rcases h.live t p (by omega) hw hs with h1 | ⟨i, hi, h1⟩
      · omega
      · have hio : i < ops.size := by
          rcases Nat.lt_or_ge i ops.size with h | h
          · exact h
          · rw [eff_none (by omega)] at h1; cases h1
        exact ((chk_of hchk i ops[i] (by simp [hio])).mkge p.1 h1).2.1
    · have hn : ∀ i, dstAt ops i ≠ some t := by
        intro i hi
        refine hw ⟨i, hD i ?_, hi⟩
        unfold dstAt at hi
        rcases Nat.lt_or_ge i ops.size with h | h
        · exact h
        · simp [Array.getElem?_eq_none h] at hi
      rw [mask_eq hmask t hn] at hs
      have := h.live0 t p (by omega) hs
      omega

theorem wpAny_sym (hacyc : ∀ i o, ops[i]? = some o → ∀ e ∈ o.after, Region.binds .any e = true → e.on < i) (I : (Nat → Bool) → Act → World → Prop)
    (hstep : ∀ D a w, I D a w → ∀ i o, ops[i]? = some o → D i = false → (∀ e ∈ o.after, Region.binds .any e = true → D e.on = true) → ∀ K : Act → World → Prop,
      (∀ a' w', I (add1 D i) a' w' → K a' w') → (Region.wanted o (yielded ops a.tmps) = true ∧ o.wp P a w K Q) ∨ (Region.wanted o (yielded ops a.tmps) = false ∧ K (a.put o.dst undef) w))
    (hend : ∀ D a w, I D a w → (∀ i, i < ops.size → D i = true) → Q .normal a w) :
    ∀ (fuel : Nat) (l : Array Bool) (a : Act) (w : World), l.size = ops.size → (l.toList.filter (!·)).length ≤ fuel → I (fun i => l.getD i false) a w → wpAny P .any ops Q fuel l a w
  | 0, l, a, w, hsz, hf, hi => by
    have hr : Region.ready .any ops l = [] := by
      rw [List.eq_nil_iff_forall_not_mem]
      intro j hj
      obtain ⟨h1, o, ho, _⟩ := mem_ready.1 hj
      have hjl : j < l.size := by rw [hsz]; exact (Array.getElem?_eq_some_iff.1 ho).1
      have h2 : l.toList[j]? = some false := by simp [Array.getD, hjl] at h1 ⊢; exact h1
      have := left_set l.toList j h2
      omega
    exact ⟨hr, hend _ _ _ hi (all_listed hsz hacyc hr)⟩
  | fuel + 1, l, a, w, hsz, hf, hi => by
    refine ⟨fun hr => hend _ _ _ hi (all_listed hsz hacyc hr), fun j hj => ?_⟩
    obtain ⟨h1, o, ho, hdep⟩ := mem_ready.1 hj
    have hjl : j < l.size := by rw [hsz]; exact (Array.getElem?_eq_some_iff.1 ho).1
    have h2 : l.toList[j]? = some false := by simp [Array.getD, hjl] at h1 ⊢; exact h1
    have h3 : l.getD j false = false := by simp [Array.getD, hjl] at h1 ⊢; exact h1
    have h4 := left_set l.toList j h2
    have hk := hstep _ a w hi j o ho h3 hdep (wpAny P .any ops Q fuel (l.setIfInBounds j true)) (fun a' w' h => by
      refine wpAny_sym hacyc I hstep hend fuel (l.setIfInBounds j true) a' w' (by simp [hsz]) (by simp; omega) ?_
      have e : (fun i => (l.setIfInBounds j true).getD i false) = add1 (fun i => l.getD i false) j := by
        funext i
        unfold add1
        by_cases h : i = j
        · subst h; simp [Array.getD, hjl]
        · have h' : ¬ j = i := fun x => h x.symm
          by_cases hil : i < l.size
          · simp [Array.getD, hil, h, h']
          · simp [Array.getD, hil, h]
      rw [e]; exact h)
    unfold wpOp
    simp only [ho]
    rcases hk with ⟨hw, hk⟩ | ⟨hw, hk⟩
    · simp only [hw, if_true]; exact Or.inl hk
    · simp only [hw, Bool.false_eq_true, if_false]; exact hk

theorem wpList_sym {k0 : Nat} (hall : chkB ops s0.length k0 z.length E = true) (hm : over ops s1 s0 = s1) (hok : ∀ j o, ops[j]? = some o → Ok1 P W ops s0 s1 z y o (eff E j))
    {β0 : Nat → Nat} (hend : ∀ β D a w, (∀ c, c < k0 → β c = β0 c) → Inv W ops s0 s1 z y E k0 D β a w → (∀ i, i < ops.size → D i = true) → Q .normal a w) :
    ∀ (l : List Oper) (k : Nat) (β : Nat → Nat) (a : Act) (w : World), (∀ j, l[j]? = ops[k + j]?) → (∀ c, c < k0 → β c = β0 c) → Inv W ops s0 s1 z y E k0 (fun i => decide (i < k)) β a w → wpList P ops Q l a w
  | [], k, β, a, w, hl, hB, hI => hend β _ a w hB hI (fun i hi => by
      have := hl (i - k)
      by_cases h : i < k
      · simp [h]
      · rw [show k + (i - k) = i by omega] at this
        simp [hi] at this)
  | o :: l, k, β, a, w, hl, hB, hI => by
    have ho : ops[k]? = some o := by simpa using (hl 0).symm
    have hacyc := acyc_of (ops := ops) (by unfold chkB at hall; simp only [Bool.and_eq_true] at hall; exact hall.1.1)
    have hstep := hI.step (P := P) hall ho hm (fun e he hb => by simpa using hacyc k o ho e he hb) (by simp) (hok k o ho) (wpList P ops Q l) Q (fun β' a' w' hβ h' => by
      refine wpList_sym hall hm hok hend l (k + 1) β' a' w' (fun j => by have := hl (j + 1); simpa [Nat.add_assoc, Nat.add_comm 1 j] using this) (fun c hc => (hβ c (Or.inl hc)).trans (hB c hc)) ?_
      have e : add1 (fun i => decide (i < k)) k = fun i => decide (i < k + 1) := by
        funext i
        unfold add1
        by_cases h : i = k
        · simp [h]
        · simp [h]; omega
      rw [← e]; exact h')
    unfold wpList
    rcases hstep with ⟨hw, hk⟩ | ⟨hw, hk⟩
    · simp only [hw, if_true]; exact Or.inl hk
    · simp only [hw, Bool.false_eq_true, if_false]; exact hk

theorem St.regionB {id : Nat} {m0 : List Blk} {β : Nat → Nat} {a : Act} {w : World} {l : List Oper} {draw : Bool} (h : St W s0 m0 β a w) (s1 : List SV) (m1 z : List Blk) (y : List (Array Value)) (E : List Eff) (hm : P.follows .mixedOrders = true)
    (hchk : chkB l.toArray s0.length m0.length z.length E = true) (hlen : Nat.beq s1.length s0.length = true) (hmask : over l.toArray s1 s0 = s1) (hz : z.take m0.length = m0) (hk : Nat.ble m0.length z.length = true) (hmk : madeB E m0.length z.length = true) (hm1 : fin E y 0 z = m1)
    (hok : AllOK P W l.toArray s0 s1 z y l E) (hend : ∀ β' a w, (∀ c, c < m0.length → β' c = β c) → St W s1 m1 β' a w → Q .normal a w) : (Code.region id l.toArray draw).wp P Q a w := by
  have hk := Nat.le_of_ble_eq_true hk
  have hlen := Nat.beq_eq.mp hlen
  have hacyc := acyc_of (ops := l.toArray) (by unfold chkB at hchk; simp only [Bool.and_eq_true] at hchk; exact hchk.1.1)
  have hok' : ∀ j o, l.toArray[j]? = some o → Ok1 P W l.toArray s0 s1 z y o (eff E j) := fun j o ho => allOK_get l E hok j o (by simpa using ho)
  obtain ⟨i1, i2⟩ := inv_start (ops := l.toArray) (s1 := s1) (z := z) (y := y) (E := E) h hz
  cases draw with
  | true =>
    refine wp_region_any hm (wpAny_sym hacyc (fun D a w => ∃ β', (∀ c, c < m0.length → β' c = β c) ∧ Inv W l.toArray s0 s1 z y E m0.length D β' a w) ?_ ?_ l.toArray.size _ a _ (by simp) ?_ ?_)
    · rintro D a w ⟨β', hB, hI⟩ i o ho hD hdep K hK
      exact hI.step hchk ho hmask hdep hD (hok' i o ho) K Q (fun β'' a' w' hβ h' => hK a' w' ⟨β'', fun c hc => (hβ c (Or.inl hc)).trans (hB c hc), h'⟩)
    · rintro D a w ⟨β', hB, hI⟩ hall
      exact hend β' a w hB (inv_end hI hchk hlen hmask hmk hk hm1 hall)
    · exact Nat.le_trans (List.length_filter_le _ _) (by simp)
    · have e : (fun i => (Array.replicate l.toArray.size false).getD i false) = (fun _ => false) := by
        funext i
        by_cases h : i < l.toArray.size <;> simp [Array.getD]
      rw [e]; exact ⟨β, fun _ _ => rfl, i1⟩
  | false =>
    refine wp_region ?_
    have e := wpOps_eq_wpList (P := P) (ops := l.toArray) (Q := Q) l 0 (by simp)
    rw [show List.range l.toArray.size = List.range' 0 l.length by simp [List.range_eq_range'], e]
    refine wpList_sym hchk hmask hok' (β0 := β) (fun β' D a w hB hI hall => hend β' a w hB (inv_end hI hchk hlen hmask hmk hk hm1 hall)) l 0 β a w (by simp) (fun _ _ => rfl) ?_
    have e2 : (fun i : Nat => decide (i < 0)) = fun _ => false := by funext i; simp
    rw [e2]; exact i2
theorem St.region {id : Nat} {m0 : List Blk} {β : Nat → Nat} {a : Act} {w : World} {l : List Oper} {draw : Bool} (h : St W s0 m0 β a w) (s1 : List SV) (m1 z : List Blk) (y : List (Array Value)) (E : List Eff) (hm : P.follows .mixedOrders = true)
    (hchk : chkB l.toArray s0.length m0.length z.length E = true) (hlen : Nat.beq s1.length s0.length = true) (hmask : over l.toArray s1 s0 = s1) (hz : z.take m0.length = m0) (hk : Nat.ble m0.length z.length = true) (hmk : madeB E m0.length z.length = true) (hm1 : fin E y 0 z = m1)
    (hok : AllOK P W l.toArray s0 s1 z y l E) (hend : ∀ β a w, St W s1 m1 β a w → Q .normal a w) : (Code.region id l.toArray draw).wp P Q a w :=
  h.regionB s1 m1 z y E hm hchk hlen hmask hz hk hmk hm1 hok fun β a w _ h => hend β a w h

theorem oper_rnd {k n : Nat} {o : Oper} {a : Act} {w : World} {K : Act → World → Prop} (hd : ∀ c, o.op ≠ .defer c) (h : o.wp P a w K Q) : o.wpIn (Fence.wide.inRound k) n P a w K Q := by
  refine ⟨fun _ _ => trivial, ?_⟩
  rw [Oper.semAt_eq _ _ _ hd]
  unfold Oper.wp at h
  generalize (execOp a.eval o).run P w = r at h
  cases r with
  | ok x w' =>
    cases x <;> simp only [Oper.upon, Oper.uponIn] at h ⊢ <;>
      first
        | exact h
        | exact ⟨fun e => absurd e (by simp [Fence.wide]), CallsIn.inRound k ((callsIn_wide.2 h).mono (fun e w he => by cases e <;> exact he))⟩
        | (refine ⟨fun e => absurd e (by simp [Fence.wide]), fun c cs _ => ?_⟩
           obtain ⟨v, w2, r, s⟩ := h c cs
           exact ⟨v, w2, r, stepsIn_wide.2 s⟩)
  | halt x w' => cases x <;> simp only [Oper.upon, Oper.uponIn] at h ⊢ <;> exact h

theorem wpAnyIn_sym {k n : Nat} (hnd : ∀ (i : Nat) (o : Oper), ops[i]? = some o → ∀ c, o.op ≠ .defer c) (hacyc : ∀ i o, ops[i]? = some o → ∀ e ∈ o.after, Region.binds .any e = true → e.on < i) (I : (Nat → Bool) → Act → World → Prop)
    (hstep : ∀ D a w, I D a w → ∀ i o, ops[i]? = some o → D i = false → (∀ e ∈ o.after, Region.binds .any e = true → D e.on = true) → ∀ K : Act → World → Prop,
      (∀ a' w', I (add1 D i) a' w' → K a' w') → (Region.wanted o (yielded ops a.tmps) = true ∧ o.wp P a w K Q) ∨ (Region.wanted o (yielded ops a.tmps) = false ∧ K (a.put o.dst undef) w))
    (hend : ∀ D a w, I D a w → (∀ i, i < ops.size → D i = true) → Q .normal a w) :
    ∀ (fuel : Nat) (l : Array Bool) (a : Act) (w : World), l.size = ops.size → (l.toList.filter (!·)).length ≤ fuel → I (fun i => l.getD i false) a w → wpAnyIn (Fence.wide.inRound k) n P .any ops Q fuel l a w
  | 0, l, a, w, hsz, hf, hi => by
    have hr : Region.ready .any ops l = [] := by
      rw [List.eq_nil_iff_forall_not_mem]
      intro j hj
      obtain ⟨h1, o, ho, _⟩ := mem_ready.1 hj
      have hjl : j < l.size := by rw [hsz]; exact (Array.getElem?_eq_some_iff.1 ho).1
      have h2 : l.toList[j]? = some false := by simp [Array.getD, hjl] at h1 ⊢; exact h1
      have := left_set l.toList j h2
      omega
    exact ⟨hr, hend _ _ _ hi (all_listed hsz hacyc hr)⟩
  | fuel + 1, l, a, w, hsz, hf, hi => by
    refine ⟨fun hr => hend _ _ _ hi (all_listed hsz hacyc hr), fun j hj => ?_⟩
    obtain ⟨h1, o, ho, hdep⟩ := mem_ready.1 hj
    have hjl : j < l.size := by rw [hsz]; exact (Array.getElem?_eq_some_iff.1 ho).1
    have h2 : l.toList[j]? = some false := by simp [Array.getD, hjl] at h1 ⊢; exact h1
    have h3 : l.getD j false = false := by simp [Array.getD, hjl] at h1 ⊢; exact h1
    have h4 := left_set l.toList j h2
    have hk := hstep _ a w hi j o ho h3 hdep (wpAnyIn (Fence.wide.inRound k) n P .any ops Q fuel (l.setIfInBounds j true)) (fun a' w' h => by
      refine wpAnyIn_sym hnd hacyc I hstep hend fuel (l.setIfInBounds j true) a' w' (by simp [hsz]) (by simp; omega) ?_
      have e : (fun i => (l.setIfInBounds j true).getD i false) = add1 (fun i => l.getD i false) j := by
        funext i
        unfold add1
        by_cases h : i = j
        · subst h; simp [Array.getD, hjl]
        · have h' : ¬ j = i := fun x => h x.symm
          by_cases hil : i < l.size
          · simp [Array.getD, hil, h, h']
          · simp [Array.getD, hil, h]
      rw [e]; exact h)
    unfold wpOpIn
    simp only [ho]
    rcases hk with ⟨hw, hk⟩ | ⟨hw, hk⟩
    · simp only [hw, if_true]; exact oper_rnd (hnd j o ho) hk
    · simp only [hw, Bool.false_eq_true, if_false]; exact ⟨fun _ _ => trivial, hk⟩

theorem wpListIn_sym {r n : Nat} {k0 : Nat} (hnd : ∀ (i : Nat) (o : Oper), ops[i]? = some o → ∀ c, o.op ≠ .defer c) (hall : chkB ops s0.length k0 z.length E = true) (hm : over ops s1 s0 = s1) (hok : ∀ j o, ops[j]? = some o → Ok1 P W ops s0 s1 z y o (eff E j))
    {β0 : Nat → Nat} (hend : ∀ β D a w, (∀ c, c < k0 → β c = β0 c) → Inv W ops s0 s1 z y E k0 D β a w → (∀ i, i < ops.size → D i = true) → Q .normal a w) :
    ∀ (l : List Oper) (k : Nat) (β : Nat → Nat) (a : Act) (w : World), (∀ j, l[j]? = ops[k + j]?) → (∀ c, c < k0 → β c = β0 c) → Inv W ops s0 s1 z y E k0 (fun i => decide (i < k)) β a w → wpListIn (Fence.wide.inRound r) n P ops Q l a w
  | [], k, β, a, w, hl, hB, hI => hend β _ a w hB hI (fun i hi => by
      have := hl (i - k)
      by_cases h : i < k
      · simp [h]
      · rw [show k + (i - k) = i by omega] at this
        simp [hi] at this)
  | o :: l, k, β, a, w, hl, hB, hI => by
    have ho : ops[k]? = some o := by simpa using (hl 0).symm
    have hacyc := acyc_of (ops := ops) (by unfold chkB at hall; simp only [Bool.and_eq_true] at hall; exact hall.1.1)
    have hstep := hI.step (P := P) hall ho hm (fun e he hb => by simpa using hacyc k o ho e he hb) (by simp) (hok k o ho) (wpListIn (Fence.wide.inRound r) n P ops Q l) Q (fun β' a' w' hβ h' => by
      refine wpListIn_sym hnd hall hm hok hend l (k + 1) β' a' w' (fun j => by have := hl (j + 1); simpa [Nat.add_assoc, Nat.add_comm 1 j] using this) (fun c hc => (hβ c (Or.inl hc)).trans (hB c hc)) ?_
      have e : add1 (fun i => decide (i < k)) k = fun i => decide (i < k + 1) := by
        funext i
        unfold add1
        by_cases h : i = k
        · simp [h]
        · simp [h]; omega
      rw [← e]; exact h')
    unfold wpListIn
    rcases hstep with ⟨hw, hk⟩ | ⟨hw, hk⟩
    · simp only [hw, if_true]; exact oper_rnd (hnd k o ho) hk
    · simp only [hw, Bool.false_eq_true, if_false]; exact ⟨fun _ _ => trivial, hk⟩

def ndB (l : List Oper) : Bool := l.all fun o => match o.op with
  | .defer _ => false
  | _ => true
theorem St.regionR {id r n : Nat} {m0 : List Blk} {β : Nat → Nat} {a : Act} {w : World} {l : List Oper} {draw : Bool} (h : St W s0 m0 β a w) (s1 : List SV) (m1 z : List Blk) (y : List (Array Value)) (E : List Eff) (hm : P.follows .mixedOrders = true) (hnd : ndB l = true)
    (hchk : chkB l.toArray s0.length m0.length z.length E = true) (hlen : Nat.beq s1.length s0.length = true) (hmask : over l.toArray s1 s0 = s1) (hz : z.take m0.length = m0) (hk : Nat.ble m0.length z.length = true) (hmk : madeB E m0.length z.length = true) (hm1 : fin E y 0 z = m1)
    (hok : AllOK P W l.toArray s0 s1 z y l E) (hend : ∀ β' a w, (∀ c, c < m0.length → β' c = β c) → St W s1 m1 β' a w → Q .normal a w) : (Code.region id l.toArray draw).wpIn (Fence.wide.inRound r) n P Q a w := by
  have hk := Nat.le_of_ble_eq_true hk
  have hlen := Nat.beq_eq.mp hlen
  have hacyc := acyc_of (ops := l.toArray) (by unfold chkB at hchk; simp only [Bool.and_eq_true] at hchk; exact hchk.1.1)
  have hok' : ∀ j o, l.toArray[j]? = some o → Ok1 P W l.toArray s0 s1 z y o (eff E j) := fun j o ho => allOK_get l E hok j o (by simpa using ho)
  have hnd' : ∀ (i : Nat) (o : Oper), l.toArray[i]? = some o → ∀ c, o.op ≠ .defer c := by
    intro i o ho c e
    have h1 := List.all_eq_true.1 hnd o (List.mem_of_getElem? (by simpa using ho))
    rw [e] at h1; cases h1
  obtain ⟨i1, i2⟩ := inv_start (ops := l.toArray) (s1 := s1) (z := z) (y := y) (E := E) h hz
  cases draw with
  | true =>
    refine wpIn_region_any hm (wpAnyIn_sym hnd' hacyc (fun D a w => ∃ β', (∀ c, c < m0.length → β' c = β c) ∧ Inv W l.toArray s0 s1 z y E m0.length D β' a w) ?_ ?_ l.toArray.size _ a _ (by simp) ?_ ?_)
    · rintro D a w ⟨β', hB, hI⟩ i o ho hD hdep K hK
      exact hI.step hchk ho hmask hdep hD (hok' i o ho) K Q (fun β'' a' w' hβ h' => hK a' w' ⟨β'', fun c hc => (hβ c (Or.inl hc)).trans (hB c hc), h'⟩)
    · rintro D a w ⟨β', hB, hI⟩ hall
      exact hend β' a w hB (inv_end hI hchk hlen hmask hmk hk hm1 hall)
    · exact Nat.le_trans (List.length_filter_le _ _) (by simp)
    · have e : (fun i => (Array.replicate l.toArray.size false).getD i false) = (fun _ => false) := by
        funext i
        by_cases h : i < l.toArray.size <;> simp [Array.getD]
      rw [e]; exact ⟨β, fun _ _ => rfl, i1⟩
  | false =>
    refine wpIn_region_lit ?_
    refine wpListIn_sym hnd' hchk hmask hok' (β0 := β) (fun β' D a w hB hI hall => hend β' a w hB (inv_end hI hchk hlen hmask hmk hk hm1 hall)) l 0 β a w (by simp) (fun _ _ => rfl) ?_
    have e2 : (fun i : Nat => decide (i < 0)) = fun _ => false := by funext i; simp
    rw [e2]; exact i2
end
end Go.Proofs.YtacokkedomjgpaaGreatDoor

namespace Go.Proofs.YtacokkedomjgpaaGreatDoor
open Go.RowKit

def evS (s : List SV) : Operand → Value
  | .tmp t => (match slot s t with
    | .inl v => v
    | .inr _ => undef)
  | .const v => v
  | .global g => .pointer (some ⟨g, 0, none⟩)
  | .func f => .func (.func f) #[] #[]
def plainB (s : List SV) : Operand → Bool
  | .tmp t => (match slot s t with
    | .inl _ => true
    | .inr _ => false)
  | _ => true

section
variable {P : Program} {W : Wd} {ops : Array Oper} {s0 s1 : List SV} {z : List Blk} {y : List (Array Value)} {o : Oper}

theorem ok_nil {es : List Eff} : AllOK P W ops s0 s1 z y [] es := trivial

theorem mem_tmps {t : Tmp} (h : Operand.tmp t ∈ o.op.operands) : t ∈ tmpsOf o := by
  unfold tmpsOf
  exact List.mem_filterMap.2 ⟨.tmp t, by simpa using h, rfl⟩

theorem ev_plain {a : Act} {β : Nat → Nat} (h : ∀ t ∈ tmpsOf o, a.eval (.tmp t) = den β (slot s1 t)) {x : Operand} (hx : x ∈ o.op.operands) (hp : plainB s1 x = true) : a.eval x = evS s1 x := by
  cases x with
  | tmp t =>
    rw [h t (mem_tmps hx)]
    simp only [plainB] at hp
    simp only [evS]
    cases hs : slot s1 t with
    | inl v => rfl
    | inr p => simp [hs] at hp
  | const v => rfl
  | global g => rfl
  | func f => rfl

theorem ok_skip (hw : wantF ops s1 o = false) {d : Tmp} (hd : o.dst = some d) (hs : slot s1 d = .inl undef) : Ok1 P W ops s0 s1 z y o ⟨none, none, none, false⟩ :=
  Or.inr ⟨hw, rfl, fun d' h => by rw [hd] at h; cases h; exact hs⟩

theorem ok_quiet {v : Value} (hw : wantF ops s1 o = true) {d : Tmp} (hd : o.dst = some d) (hs : slot s1 d = .inl v)
    (hrun : ∀ (β : Nat → Nat) (a : Act) (w : World), (∀ t ∈ tmpsOf o, a.eval (.tmp t) = den β (slot s1 t)) → ∀ (K : Act → World → Prop) (Q : Exit → Act → World → Prop), (∀ w', Below w.heap.size w w' → K (a.put o.dst v) w') → o.wp P a w K Q) :
    Ok1 P W ops s0 s1 z y o ⟨none, none, none, false⟩ := by
  refine Or.inl ⟨hw, ⟨?_, fun b h => by simp at h, fun b _ h => by simp at h, ?_⟩⟩
  · rintro b (h | h | ⟨_, d', off, h1, h2⟩)
    · simp at h
    · simp at h
    · rw [hd] at h1; cases h1; rw [hs] at h2; cases h2
  · intro β a w ha hb hr hns K Q hK
    refine hrun β a w ha K Q (fun w' hw' => hK v w' ?_)
    exact ⟨fun d' h => by rw [hd] at h; cases h; rw [hs]; rfl, hw'⟩

theorem ok_val {v : Value} (hw : wantF ops s1 o = true) {d : Tmp} (hd : o.dst = some d) (hs : slot s1 d = .inl v)
    (hrun : ∀ (β : Nat → Nat) (a : Act) (w : World), (∀ t ∈ tmpsOf o, a.eval (.tmp t) = den β (slot s1 t)) → (execOp a.eval o).run P w = .ok (.value v) w) : Ok1 P W ops s0 s1 z y o ⟨none, none, none, false⟩ := by
  refine ok_quiet hw hd hs (fun β a w ha K Q hK => ?_)
  unfold Oper.wp
  rw [hrun β a w ha, Oper.upon_value]
  exact hK w (Below.refl _ _)

theorem ok_call {f : FuncId} {args : Array Operand} {tys : Array TypeId} {vs : Array Value} {R : Value} {d : Tmp} (hc : ∀ w, Calls P f vs w fun e w' => e = .returned R ∧ Below w.heap.size w w') (ho : o.op = .call { callee := .value (.func f), args := args, argTypes := tys }) (hw : wantF ops s1 o = true) (hd : o.dst = some d) (hs : slot s1 d = .inl R)
    (hv : args.map (evS s1) = vs) (hp : args.all (plainB s1) = true) (he : ∀ w, (callFunc f vs).run P w = .ok (.enter f vs) w) :
    Ok1 P W ops s0 s1 z y o ⟨none, none, none, false⟩ := by
  refine ok_quiet hw hd hs (fun β a w ha K Q hK => ?_)
  have hmap : args.map a.eval = vs := by
    rw [← hv]
    apply Array.map_congr_left
    intro x hx
    refine ev_plain ha ?_ (Array.all_eq_true_iff_forall_mem.1 hp x hx)
    rw [ho]; simp [Op.operands, Call.operands, hx]
  exact oper_call f args tys ho vs hmap he (hc w) hK

theorem ok_mv {x : Operand} {d : Tmp} (ho : o.op = .move x ∨ o.op = .assign x) (hw : wantF ops s1 o = true) (hd : o.dst = some d) (hp : plainB s1 x = true) (hs : slot s1 d = .inl (evS s1 x)) : Ok1 P W ops s0 s1 z y o ⟨none, none, none, false⟩ := by
  refine ok_val hw hd hs (fun β a w ha => ?_)
  have hx : a.eval x = evS s1 x := ev_plain ha (by rcases ho with ho | ho <;> rw [ho] <;> simp [Op.operands]) hp
  rcases ho with ho | ho <;> simp [execOp, ho, hx]

theorem ok_mv0 {x : Operand} {d : Tmp} (ho : o.op = .move x) (hw : wantF ops s1 o = true) (hd : o.dst = some d) (hp : plainB s0 x = true) (hs : slot s1 d = .inl (evS s0 x)) : Ok1 P W ops s0 s1 z y o ⟨none, none, none, true⟩ := by
  refine Or.inl ⟨hw, ⟨?_, fun b h => by simp at h, fun b _ h => by simp at h, ?_⟩⟩
  · rintro b (h | h | ⟨_, d', off, h1, h2⟩)
    · simp at h
    · simp at h
    · rw [hd] at h1; cases h1; rw [hs] at h2; cases h2
  · intro β a w ha hb hr hns K Q hK
    have hx : a.eval x = evS s0 x := ev_plain ha (by rw [ho]; simp [Op.operands]) hp
    unfold Oper.wp
    simp only [execOp, ho, hx, Sem.run_pure, Oper.upon_value]
    exact hK _ _ ⟨fun d' h => by rw [hd] at h; cases h; rw [hs]; rfl, Below.refl _ _⟩

theorem ok_not {t : TypeId} {x : Operand} {d : Tmp} {b : Bool} (ho : o.op = .unOp .not t x) (hw : wantF ops s1 o = true) (hd : o.dst = some d) (hp : plainB s1 x = true) (hx : evS s1 x = .bool b) (hs : slot s1 d = .inl (.bool (!b))) : Ok1 P W ops s0 s1 z y o ⟨none, none, none, false⟩ := by
  refine ok_val hw hd hs (fun β a w ha => ?_)
  have hx : a.eval x = .bool b := by rw [ev_plain ha (by rw [ho]; simp [Op.operands]) hp, hx]
  simp only [execOp, ho, hx]
  simp [go_sem]

theorem ok_pick_t {c x u : Operand} {d : Tmp} (ho : o.op = .pick c x u) (hw : wantF ops s1 o = true) (hd : o.dst = some d) (hpc : plainB s1 c = true) (hc : evS s1 c = .bool true) (hp : plainB s1 x = true) (hs : slot s1 d = .inl (evS s1 x)) : Ok1 P W ops s0 s1 z y o ⟨none, none, none, false⟩ := by
  refine ok_val hw hd hs (fun β a w ha => ?_)
  have h1 : a.eval c = .bool true := by rw [ev_plain ha (by rw [ho]; simp [Op.operands]) hpc, hc]
  have h2 : a.eval x = evS s1 x := ev_plain ha (by rw [ho]; simp [Op.operands]) hp
  simp only [execOp, ho, h1, h2, asBool]
  simp
theorem ok_pick_f {c x u : Operand} {d : Tmp} (ho : o.op = .pick c x u) (hw : wantF ops s1 o = true) (hd : o.dst = some d) (hpc : plainB s1 c = true) (hc : evS s1 c = .bool false) (hp : plainB s1 u = true) (hs : slot s1 d = .inl (evS s1 u)) : Ok1 P W ops s0 s1 z y o ⟨none, none, none, false⟩ := by
  refine ok_val hw hd hs (fun β a w ha => ?_)
  have h1 : a.eval c = .bool false := by rw [ev_plain ha (by rw [ho]; simp [Op.operands]) hpc, hc]
  have h2 : a.eval u = evS s1 u := ev_plain ha (by rw [ho]; simp [Op.operands]) hp
  simp only [execOp, ho, h1, h2, asBool]
  simp

theorem ok_bin {p : BinOp} {t t' : TypeId} {x u : Operand} {d : Tmp} {v x1 u1 : Value} (hr : ∀ w, (do eqGuard p t x u x1 u1; binOp p t x1 u1).run P w = .ok v w) (ho : o.op = .binOp p t x u t') (hw : wantF ops s1 o = true) (hd : o.dst = some d) (hpx : plainB s1 x = true) (hx1 : evS s1 x = x1) (hpu : plainB s1 u = true) (hu1 : evS s1 u = u1) (hs : slot s1 d = .inl v) : Ok1 P W ops s0 s1 z y o ⟨none, none, none, false⟩ := by
  refine ok_val hw hd hs (fun β a w ha => ?_)
  have h1 : a.eval x = x1 := by rw [← hx1]; exact ev_plain ha (by rw [ho]; simp [Op.operands]) hpx
  have h2 : a.eval u = u1 := by rw [← hu1]; exact ev_plain ha (by rw [ho]; simp [Op.operands]) hpu
  have := hr w
  simp only [execOp, ho, h1, h2, Sem.run_bind, this, Result.andThen_ok, Sem.run_pure]

theorem ok_ext {x : Operand} {i : Nat} {d : Tmp} {v x1 : Value} (hr : ∀ w, (Instr.extract x1 i).run P w = .ok v w) (ho : o.op = .extract x i) (hw : wantF ops s1 o = true) (hd : o.dst = some d) (hpx : plainB s1 x = true) (hx1 : evS s1 x = x1) (hs : slot s1 d = .inl v) : Ok1 P W ops s0 s1 z y o ⟨none, none, none, false⟩ := by
  refine ok_val hw hd hs (fun β a w ha => ?_)
  have h1 : a.eval x = x1 := by rw [← hx1]; exact ev_plain ha (by rw [ho]; simp [Op.operands]) hpx
  simp only [execOp, ho, h1, Sem.run_bind, hr w, Result.andThen_ok, Sem.run_pure]

theorem ok_index {t : TypeId} {x u : Operand} {d : Tmp} {v x1 u1 : Value} (hr : ∀ w, (Instr.index t x1 u1).run P w = .ok v w) (ho : o.op = .index t x u) (hw : wantF ops s1 o = true) (hd : o.dst = some d) (hpx : plainB s1 x = true) (hx1 : evS s1 x = x1) (hpu : plainB s1 u = true) (hu1 : evS s1 u = u1) (hs : slot s1 d = .inl v) : Ok1 P W ops s0 s1 z y o ⟨none, none, none, false⟩ := by
  refine ok_val hw hd hs (fun β a w ha => ?_)
  have h1 : a.eval x = x1 := by rw [← hx1]; exact ev_plain ha (by rw [ho]; simp [Op.operands]) hpx
  have h2 : a.eval u = u1 := by rw [← hu1]; exact ev_plain ha (by rw [ho]; simp [Op.operands]) hpu
  simp only [execOp, ho, h1, h2, Sem.run_bind, hr w, Result.andThen_ok, Sem.run_pure]

theorem ok_conv {t t' : TypeId} {x : Operand} {d : Tmp} {v x1 : Value} (hr : ∀ w, (convert t t' x1).run P w = .ok v w) (ho : o.op = .convert t t' x) (hw : wantF ops s1 o = true) (hd : o.dst = some d) (hpx : plainB s1 x = true) (hx1 : evS s1 x = x1) (hs : slot s1 d = .inl v) : Ok1 P W ops s0 s1 z y o ⟨none, none, none, false⟩ := by
  refine ok_val hw hd hs (fun β a w ha => ?_)
  have h1 : a.eval x = x1 := by rw [← hx1]; exact ev_plain ha (by rw [ho]; simp [Op.operands]) hpx
  simp only [execOp, ho, h1, Sem.run_bind, hr w, Result.andThen_ok, Sem.run_pure]

theorem ok_build {t : TypeId} {ps : Array (Nat × Operand)} {vs : Array (Nat × Value)} {d : Tmp} {v : Value} (hr : ∀ w, (Instr.build t vs).run P w = .ok v w) (ho : o.op = .build t ps) (hw : wantF ops s1 o = true) (hd : o.dst = some d) (hp : ps.all (fun q => plainB s1 q.2) = true) (hvs : (ps.map fun q => (q.1, evS s1 q.2)) = vs) (hs : slot s1 d = .inl v) : Ok1 P W ops s0 s1 z y o ⟨none, none, none, false⟩ := by
  refine ok_val hw hd hs (fun β a w ha => ?_)
  have h1 : (ps.map fun (q : Nat × Operand) => (q.1, a.eval q.2)) = ps.map fun q => (q.1, evS s1 q.2) := by
    apply Array.map_congr_left
    intro q hq
    rw [ev_plain ha (by rw [ho]; simp only [Op.operands]; exact List.mem_toArray.2 (List.mem_map.2 ⟨q, by simpa using hq, rfl⟩)) (Array.all_eq_true_iff_forall_mem.1 hp q hq)]
  have := hr w
  rw [← hvs, ← h1] at this
  simp only [execOp, ho, Sem.run_bind, this, Result.andThen_ok, Sem.run_pure]

theorem ok_load {t t0 : TypeId} {p d b off : Nat} {c : Array Value} {v : Value} (hld : ∀ (w : World) (q : Nat), w.heap[q]? = some (.cells c t0 (0, 0)) → (Instr.loadAt t (.pointer (some ⟨q, off, none⟩))).run P w = .ok v w)
    (ho : o.op = .load t (.tmp p)) (hw : wantF ops s1 o = true) (hd : o.dst = some d) (hp : slot s1 p = .inr (b, pt off)) (hz : zc z b = (c, t0)) (hs : slot s1 d = .inl v) : Ok1 P W ops s0 s1 z y o ⟨none, none, some b, false⟩ := by
  have hm : p ∈ tmpsOf o := mem_tmps (by rw [ho]; simp [Op.operands])
  refine Or.inl ⟨hw, ⟨?_, fun b h => by simp at h, fun b _ h => by simp at h, ?_⟩⟩
  · rintro b' (h | h | ⟨_, d', off', h1, h2⟩)
    · cases h; exact ⟨p, hm, _, hp⟩
    · simp at h
    · rw [hd] at h1; cases h1; rw [hs] at h2; cases h2
  · intro β a w ha hb hr hns K Q hK
    have h1 := hr b (Or.inl rfl)
    rw [hz] at h1
    have h2 := hld w (β b) h1
    have h3 : a.eval (.tmp p) = .pointer (some ⟨β b, off, none⟩) := by rw [ha p hm, hp]; rfl
    unfold Oper.wp
    simp only [execOp, ho, h3, Sem.run_bind, h2, Result.andThen_ok, Sem.run_pure, Oper.upon_value]
    exact hK v w ⟨fun d' h => by rw [hd] at h; cases h; rw [hs]; rfl, Below.refl _ _⟩

theorem ok_store {t t0 : TypeId} {p b off : Nat} {x : Operand} {u : Value} {c n : Array Value} (hst : ∀ (w : World) (q : Nat), w.heap[q]? = some (.cells c t0 (0, 0)) → (Instr.storeAt t (.pointer (some ⟨q, off, none⟩)) u).run P w = .ok () (w.setRow q n))
    (ho : o.op = .store t (.tmp p) x) (hw : wantF ops s1 o = true) (hd : o.dst = none) (hp : slot s1 p = .inr (b, pt off)) (hz : zc z b = (c, t0)) (hx : plainB s1 x = true) (hu : evS s1 x = u) (hy : y.getD b #[] = n) : Ok1 P W ops s0 s1 z y o ⟨none, some b, none, false⟩ := by
  have hm : p ∈ tmpsOf o := mem_tmps (by rw [ho]; simp [Op.operands])
  refine Or.inl ⟨hw, ⟨?_, fun b h => by simp at h, fun _ _ _ => trivial, ?_⟩⟩
  · rintro b' (h | h | ⟨_, d', off', h1, h2⟩)
    · simp at h
    · cases h; exact ⟨p, hm, _, hp⟩
    · rw [hd] at h1; cases h1
  · intro β a w ha hb hr hns K Q hK
    have h1 := hr b (Or.inr rfl)
    rw [hz] at h1
    have h2 := hst w (β b) h1
    have h3 : a.eval (.tmp p) = .pointer (some ⟨β b, off, none⟩) := by rw [ha p hm, hp]; rfl
    have h4 : a.eval x = u := by rw [← hu]; exact ev_plain ha (by rw [ho]; simp [Op.operands]) hx
    unfold Oper.wp
    simp only [execOp, ho, h3, h4, Sem.run_bind, h2, Result.andThen_ok, Sem.run_pure, Oper.upon_skip]
    refine hK undef _ ⟨fun d' h => by (rw [hd] at h; cases h), ?_⟩
    show Wrt _ _ (β b) (y.getD b #[]) (zc z b).2
    rw [hy, hz]; exact wrt_row h1

theorem ok_alloc {t t0 : TypeId} {d b : Nat} {c : Array Value} (hal : ∀ w : World, (Instr.alloc t true (.tuple #[])).run P w = .ok (.pointer (some ⟨w.heap.size, 0, none⟩)) (w.alloc (.cells c t0)))
    (ho : o.op = .alloc t) (hw : wantF ops s1 o = true) (hd : o.dst = some d) (hz : zc z b = (c, t0)) (hs : slot s1 d = .inr (b, pt 0)) : Ok1 P W ops s0 s1 z y o ⟨some b, none, none, false⟩ := by
  refine Or.inl ⟨hw, ⟨?_, fun b' h => ?_, fun b _ h => by simp at h, ?_⟩⟩
  · rintro b' (h | h | ⟨h, _⟩) <;> simp at h
  · cases h; exact ⟨d, _, hd, hs⟩
  · intro β a w ha hb hr hns K Q hK
    unfold Oper.wp
    simp only [execOp, ho, Sem.run_bind, hal w, Result.andThen_ok, Sem.run_pure, Oper.upon_value]
    exact hK _ _ ⟨w.heap.size, Nat.le_refl _, fun d' fm h1 h2 => by rw [hd] at h1; cases h1; rw [hs] at h2; cases h2; rfl, by rw [hz]; exact row_new _ _, below1 _ _⟩
theorem ok_box {t t0 : TypeId} {d b : Nat} {x : Operand} {u : Value} {c : Array Value} (hal : ∀ w : World, (Instr.box t u).run P w = .ok (.pointer (some ⟨w.heap.size, 0, none⟩)) (w.alloc (.cells c t0)))
    (ho : o.op = .box t x) (hw : wantF ops s1 o = true) (hd : o.dst = some d) (hx : plainB s1 x = true) (hu : evS s1 x = u) (hz : zc z b = (c, t0)) (hs : slot s1 d = .inr (b, pt 0)) : Ok1 P W ops s0 s1 z y o ⟨some b, none, none, false⟩ := by
  refine Or.inl ⟨hw, ⟨?_, fun b' h => ?_, fun b _ h => by simp at h, ?_⟩⟩
  · rintro b' (h | h | ⟨h, _⟩) <;> simp at h
  · cases h; exact ⟨d, _, hd, hs⟩
  · intro β a w ha hb hr hns K Q hK
    have h4 : a.eval x = u := by rw [← hu]; exact ev_plain ha (by rw [ho]; simp [Op.operands]) hx
    unfold Oper.wp
    simp only [execOp, ho, h4, Sem.run_bind, hal w, Result.andThen_ok, Sem.run_pure, Oper.upon_value]
    exact hK _ _ ⟨w.heap.size, Nat.le_refl _, fun d' fm h1 h2 => by rw [hd] at h1; cases h1; rw [hs] at h2; cases h2; rfl, by rw [hz]; exact row_new _ _, below1 _ _⟩

theorem ok_faddr {t : TypeId} {p d b off off' f : Nat} (hf : ∀ (w : World) (q : Nat), (Instr.fieldAt t (.pointer (some ⟨q, off, none⟩)) f).run P w = .ok (.pointer (some ⟨q, off', none⟩)) w)
    (ho : o.op = .fieldAddr t (.tmp p) f) (hw : wantF ops s1 o = true) (hd : o.dst = some d) (hp : slot s1 p = .inr (b, pt off)) (hs : slot s1 d = .inr (b, pt off')) : Ok1 P W ops s0 s1 z y o ⟨none, none, none, false⟩ := by
  have hm : p ∈ tmpsOf o := mem_tmps (by rw [ho]; simp [Op.operands])
  refine Or.inl ⟨hw, ⟨?_, fun b h => by simp at h, fun b _ h => by simp at h, ?_⟩⟩
  · rintro b' (h | h | ⟨_, d', off', h1, h2⟩)
    · simp at h
    · simp at h
    · rw [hd] at h1; cases h1; rw [hs] at h2; cases h2; exact ⟨p, hm, _, hp⟩
  · intro β a w ha hb hr hns K Q hK
    have h3 : a.eval (.tmp p) = .pointer (some ⟨β b, off, none⟩) := by rw [ha p hm, hp]; rfl
    unfold Oper.wp
    simp only [execOp, ho, h3, Sem.run_bind, hf w (β b), Result.andThen_ok, Sem.run_pure, Oper.upon_value]
    exact hK _ _ ⟨fun d' h => by rw [hd] at h; cases h; rw [hs]; rfl, Below.refl _ _⟩
theorem ok_iaddr {t : TypeId} {p d b off off' : Nat} {x : Operand} {u : Value} (hf : ∀ (w : World) (q : Nat), (Instr.indexAt t (.pointer (some ⟨q, off, none⟩)) u).run P w = .ok (.pointer (some ⟨q, off', none⟩)) w)
    (ho : o.op = .indexAddr t (.tmp p) x) (hw : wantF ops s1 o = true) (hd : o.dst = some d) (hx : plainB s1 x = true) (hu : evS s1 x = u) (hp : slot s1 p = .inr (b, pt off)) (hs : slot s1 d = .inr (b, pt off')) : Ok1 P W ops s0 s1 z y o ⟨none, none, none, false⟩ := by
  have hm : p ∈ tmpsOf o := mem_tmps (by rw [ho]; simp [Op.operands])
  refine Or.inl ⟨hw, ⟨?_, fun b h => by simp at h, fun b _ h => by simp at h, ?_⟩⟩
  · rintro b' (h | h | ⟨_, d', off', h1, h2⟩)
    · simp at h
    · simp at h
    · rw [hd] at h1; cases h1; rw [hs] at h2; cases h2; exact ⟨p, hm, _, hp⟩
  · intro β a w ha hb hr hns K Q hK
    have h3 : a.eval (.tmp p) = .pointer (some ⟨β b, off, none⟩) := by rw [ha p hm, hp]; rfl
    have h4 : a.eval x = u := by rw [← hu]; exact ev_plain ha (by rw [ho]; simp [Op.operands]) hx
    unfold Oper.wp
    simp only [execOp, ho, h3, h4, Sem.run_bind, hf w (β b), Result.andThen_ok, Sem.run_pure, Oper.upon_value]
    exact hK _ _ ⟨fun d' h => by rw [hd] at h; cases h; rw [hs]; rfl, Below.refl _ _⟩
end

section
variable {P : Program} {W : Wd} {W0 : World} {s : List SV} {m : List Blk} {β : Nat → Nat} {a : Act} {w : World} {Q : Exit → Act → World → Prop}

theorem sym_enter {f : FuncId} {fn : Func} {c : Code} {args : Array Value} {R : Ending → World → Prop} {n : Nat} (hf : P.funcs[f]? = some fn) (hn : fn.ntmps = n) (hb : fn.body = some c) (s : List SV) (hs : (args ++ Array.replicate (n - args.size) undef) = (s.map (den fun _ => 0)).toArray)
    (hl : s.all (fun v => match v with | .inl _ => true | .inr _ => false) = true) (h : ∀ β a, St (wd W0) s [] β a W0 → c.wp P (bodyPost P fn R) a W0) : Calls P f args W0 R := by
  refine calls_of_wp hf hb ?_
  rw [hn, hs]
  refine h (fun _ => 0) _ ⟨rfl, kw_of (Below.refl _ _), fun b c h => by simp at h, fun b h => by simp at h, fun b c h => by simp at h, fun t p ht h => ?_, fun _ _ h => by cases h⟩
  have := List.all_eq_true.1 hl (slot s t) (by unfold slot; rw [List.getD_eq_getElem?_getD, List.getElem?_eq_getElem ht]; exact List.getElem_mem ht)
  rw [h] at this; simp at this

theorem sym_seq {x y : Code} (h : x.wp P (Exit.then (y.wp P Q) Q) a w) : (Code.seq x y).wp P Q a w := wp_seq h
theorem St.eval (h : St W s m β a w) {t : Tmp} {v : Value} (ht : Nat.blt t s.length = true) (hs : slot s t = .inl v) : a.eval (.tmp t) = v := by
  have ht : t < s.length := Nat.le_of_ble_eq_true ht
  rw [h.tm]
  simp only [Act.eval, Array.getD]
  unfold slot at hs
  simp [ht] at hs ⊢
  rw [hs]; rfl
theorem sym_cond {t : Tmp} {b : Bool} {x y : Code} (h : St W s m β a w) (ht : Nat.blt t s.length = true) (hs : slot s t = .inl (.bool b)) (hk : (if b then x else y).wp P Q a w) : (Code.cond (.tmp t) x y).wp P Q a w := wp_cond (h.eval ht hs) hk

theorem sym_ret {fn : Func} {R : Ending → World → Prop} {t : Tmp} {v : Value} (h : St (wd W0) s m β a w) (hr : fn.results = #[.tmp t]) (ht : Nat.blt t s.length = true) (hs : slot s t = .inl v) (hR : Below W0.heap.size W0 w → R (.returned v) w) : bodyPost P fn R .ret a w := by
  have hv := h.eval ht hs
  have ht : t < s.length := Nat.le_of_ble_eq_true ht
  refine ⟨by rw [h.tm], v, ?_, hR h.bel.below⟩
  have : a.tmps[t]? = some v := by
    have hsz : t < a.tmps.size := by rw [h.tm]; simpa using ht
    simp only [Act.eval, Array.getD, hsz] at hv
    simp at hv
    simp [hsz, hv]
  simp [results, hr, this]
theorem sym_retc {fn : Func} {R : Ending → World → Prop} {t b : Nat} {ty t0 : TypeId} {c : Array Value} {d : TypeDesc} (h : St (wd W0) s m β a w) (hr : fn.results = #[.cell t ty]) (ht : Nat.blt t s.length = true) (hs : slot s t = .inr (b, pt 0)) (hm : m[b]? = some (c, t0))
    (hu : P.underlying ty = some d) (hd : (match d with | .struct _ | .array _ _ => true | _ => false) = true) (hi : (P.info? ty).map (·.size) = some c.size) (hR : Below W0.heap.size W0 w → R (.returned (.agg c)) w) : bodyPost P fn R .ret a w := by
  have ht : t < s.length := Nat.le_of_ble_eq_true ht
  refine ⟨by rw [h.tm], .agg c, ?_, hR h.bel.below⟩
  have hrow := h.row b _ hm
  have htm : a.tmps[t]? = some (.pointer (some ⟨β b, 0, none⟩)) := by
    rw [h.tm]
    unfold slot at hs
    simp [ht] at hs ⊢
    rw [hs]; rfl
  have hr2 := run_loadVar_row (P := P) w (β b) t0 ty c (0, 0) _ hrow hu hd hi
  simp only [results, hr]
  simp [htm, asAddr, hr2]
end
end Go.Proofs.YtacokkedomjgpaaGreatDoor

namespace Go.Proofs.YtacokkedomjgpaaGreatDoor
open Go.RowKit
variable {P : Program} {W : Wd} {W0 : World} {s : List SV} {m : List Blk} {β : Nat → Nat} {a : Act} {w : World} {Q : Exit → Act → World → Prop}

theorem seq_gen {x y : Code} (h : ∀ QQ : Exit → Act → World → Prop, Hid (∀ a w, y.wp P Q a w → QQ .normal a w) → x.wp P QQ a w) : (Code.seq x y).wp P Q a w := wp_seq (h _ (hide1 (fun _ _ h => h)))

def liveB (s : List SV) (k : Nat) : Bool := s.all fun v => match v with
  | .inl _ => true
  | .inr p => Nat.blt p.1 k
theorem live_of {k : Nat} (h : liveB s k = true) : ∀ t p, t < s.length → slot s t = .inr p → p.1 < k := by
  intro t p ht hs
  have := List.all_eq_true.1 h (slot s t) (by unfold slot; rw [List.getD_eq_getElem?_getD, List.getElem?_eq_getElem ht]; exact List.getElem_mem ht)
  rw [hs] at this
  exact Nat.le_of_ble_eq_true this

def bet3 (p q r : Nat) : Nat → Nat
  | 0 => p
  | 1 => q
  | _ => r
theorem st3 {p q r : Nat} {c0 c1 c2 : Array Value} {t0 t1 t2 : TypeId} (ht : a = { tmps := (s.map (den (bet3 p q r))).toArray, defers := [] }) (hb : Below W0.heap.size W0 w) (h0 : w.heap[p]? = some (.cells c0 t0 (0, 0))) (h1 : w.heap[q]? = some (.cells c1 t1 (0, 0))) (h2 : w.heap[r]? = some (.cells c2 t2 (0, 0)))
    (o0 : W0.heap.size ≤ p) (o1 : W0.heap.size ≤ q) (o2 : W0.heap.size ≤ r) (n01 : p ≠ q) (n02 : p ≠ r) (n12 : q ≠ r) (hl : liveB s 3 = true) : St (wd W0) s [(c0, t0), (c1, t1), (c2, t2)] (bet3 p q r) a w := by
  refine ⟨ht, kw_of hb, ?_, ?_, ?_, fun t p h1 h2 => live_of hl t p h1 h2, fun _ _ h => by cases h⟩
  · intro b c hc
    match b, hc with
    | 0, hc => simp at hc; subst hc; exact h0
    | 1, hc => simp at hc; subst hc; exact h1
    | 2, hc => simp at hc; subst hc; exact h2
    | b + 3, hc => simp at hc
  · intro b hb
    match b, hb with
    | 0, _ => exact Nat.not_lt_of_le o0
    | 1, _ => exact Nat.not_lt_of_le o1
    | 2, _ => exact Nat.not_lt_of_le o2
    | b + 3, hb => simp at hb; omega
  · intro b c hb hc he
    simp at hb hc
    have hb' : b = 0 ∨ b = 1 ∨ b = 2 := by omega
    have hc' : c = 0 ∨ c = 1 ∨ c = 2 := by omega
    rcases hb' with rfl | rfl | rfl <;> rcases hc' with rfl | rfl | rfl <;> simp only [bet3] at he <;> first | rfl | exact absurd he n01 | exact absurd he.symm n01 | exact absurd he n02 | exact absurd he.symm n02 | exact absurd he n12 | exact absurd he.symm n12

theorem then_ret {K : Act → World → Prop} (h : Q .ret a w) : Exit.then K Q .ret a w := h
theorem with_st {c : Code} (h : St W s m β a w) (hk : ∀ a, St W s m β a w → c.wp P Q a w) : c.wp P Q a w := hk a h

theorem sym_ret2 {fn : Func} {R : Ending → World → Prop} {t b t2 : Nat} {ty t0 : TypeId} {c : Array Value} {v : Value} {d : TypeDesc} (h : St (wd W0) s m β a w) (hr : fn.results = #[.cell t ty, .tmp t2]) (ht : Nat.blt t s.length = true) (hs : slot s t = .inr (b, pt 0)) (hm : m[b]? = some (c, t0))
    (ht2 : Nat.blt t2 s.length = true) (hs2 : slot s t2 = .inl v)
    (hu : P.underlying ty = some d) (hd : (match d with | .struct _ | .array _ _ => true | _ => false) = true) (hi : (P.info? ty).map (·.size) = some c.size) (hR : Below W0.heap.size W0 w → R (.returned (.tuple #[.agg c, v])) w) : bodyPost P fn R .ret a w := by
  have ht := Nat.le_of_ble_eq_true ht
  refine ⟨by rw [h.tm], .tuple #[.agg c, v], ?_, hR h.bel.below⟩
  have hrow := h.row b _ hm
  have htm : a.tmps[t]? = some (.pointer (some ⟨β b, 0, none⟩)) := by
    rw [h.tm]
    unfold slot at hs
    simp [show t < s.length from ht] at hs ⊢
    rw [hs]; rfl
  have hv := h.eval ht2 hs2
  have ht2 : t2 < s.length := Nat.le_of_ble_eq_true ht2
  have htm2 : a.tmps[t2]? = some v := by
    have hsz : t2 < a.tmps.size := by rw [h.tm]; simpa using ht2
    simp only [Act.eval, Array.getD, hsz] at hv
    simp at hv
    simp [hsz, hv]
  have hr2 := run_loadVar_row (P := P) w (β b) t0 ty c (0, 0) _ hrow hu hd hi
  simp only [results, hr]
  simp [htm, htm2, asAddr, hr2]
end Go.Proofs.YtacokkedomjgpaaGreatDoor

namespace Go.Proofs.YtacokkedomjgpaaGreatDoor
open Go.RowKit

def lk : List (Nat × SV) → Nat → List SV → SV
  | [], t, s => slot s t
  | p :: r, t, s => bif Nat.beq p.1 t then p.2 else lk r t s
def ov (s : List SV) (d : List (Nat × SV)) : List SV := (List.range s.length).map fun t => lk d t s
theorem ov_len (s : List SV) (d : List (Nat × SV)) : (ov s d).length = s.length := by simp [ov]
theorem slot_ov {s : List SV} {d : List (Nat × SV)} {t : Nat} (h : t < s.length) : slot (ov s d) t = lk d t s := by
  unfold slot ov
  simp [List.getD_eq_getElem?_getD, h]
theorem ov_nil (s : List SV) : ov s [] = s := by
  apply List.ext_getElem
  · simp [ov]
  · intro i h1 h2
    simp [ov, lk, slot, h2]
theorem lk_out : ∀ (dd d : List (Nat × SV)) (t : Nat) (s : List SV), (∀ p ∈ dd, p.1 ≠ t) → lk (dd ++ d) t s = lk d t s
  | [], _, _, _, _ => rfl
  | p :: r, d, t, s, h => by
    have h1 : Nat.beq p.1 t = false := by
      have := h p (by simp)
      cases hb : Nat.beq p.1 t with
      | false => rfl
      | true => exact absurd (Nat.beq_eq.mp hb) this
    show (bif Nat.beq p.1 t then p.2 else lk (r ++ d) t s) = _
    rw [h1]
    exact lk_out r d t s fun q hq => h q (by simp [hq])

def la : List (Nat × Array Value) → Nat → Option (Array Value)
  | [], _ => none
  | p :: r, b => bif Nat.beq p.1 b then some p.2 else la r b
def stm (k : Nat) : List Blk → List (Nat × Array Value) → List Blk
  | [], _ => []
  | c :: r, q => (match la q k with | some n => (n, c.2) | none => c) :: stm (k + 1) r q
def yl (n : Nat) (q : List (Nat × Array Value)) : List (Array Value) := (List.range n).map fun b => (la q b).getD #[]
theorem stm_get : ∀ (l : List Blk) (q : List (Nat × Array Value)) (k b : Nat), (stm k l q)[b]? = (l[b]?).map fun c => (match la q (k + b) with | some n => (n, c.2) | none => c)
  | [], _, _, _ => by simp [stm]
  | c :: r, q, k, 0 => by simp [stm]
  | c :: r, q, k, b + 1 => by
    have := stm_get r q (k + 1) b
    simp only [stm, List.getElem?_cons_succ, this, show k + 1 + b = k + (b + 1) by omega]
theorem la_none : ∀ (q : List (Nat × Array Value)) (b : Nat), (∀ p ∈ q, p.1 ≠ b) → la q b = none
  | [], _, _ => rfl
  | p :: r, b, h => by
    have h1 : Nat.beq p.1 b = false := by
      have := h p (by simp)
      cases hb : Nat.beq p.1 b with
      | false => rfl
      | true => exact absurd (Nat.beq_eq.mp hb) this
    show (bif Nat.beq p.1 b then some p.2 else la r b) = none
    rw [h1]
    exact la_none r b fun x hx => h x (by simp [hx])
theorem la_some : ∀ (q : List (Nat × Array Value)) (b : Nat), (∃ p ∈ q, p.1 = b) → ∃ n, la q b = some n
  | [], _, h => by obtain ⟨p, h, _⟩ := h; cases h
  | p :: r, b, h => by
    by_cases e : p.1 = b
    · refine ⟨p.2, ?_⟩
      show (bif Nat.beq p.1 b then some p.2 else la r b) = _
      rw [e, Nat.beq_refl]; rfl
    · have h1 : Nat.beq p.1 b = false := by
        cases hb : Nat.beq p.1 b with
        | false => rfl
        | true => exact absurd (Nat.beq_eq.mp hb) e
      obtain ⟨n, hn⟩ := la_some r b (by
        obtain ⟨x, hx, he⟩ := h
        rcases List.mem_cons.1 hx with rfl | hx
        · exact absurd he e
        · exact ⟨x, hx, he⟩)
      refine ⟨n, ?_⟩
      show (bif Nat.beq p.1 b then some p.2 else la r b) = _
      rw [h1]; exact hn
def stsB (E : List Eff) (q : List (Nat × Array Value)) : Bool := (q.all fun p => stB E p.1) && E.all fun e => match e.st with
  | none => true
  | some b => q.any fun p => Nat.beq p.1 b
theorem fin_stm {E : List Eff} {q : List (Nat × Array Value)} (h : stsB E q = true) (z : List Blk) (n : Nat) (hn : n = z.length) : fin E (yl n q) 0 z = stm 0 z q := by
  subst hn
  unfold stsB at h
  simp only [Bool.and_eq_true, List.all_eq_true] at h
  apply List.ext_getElem?
  intro b
  rw [fin_get, stm_get]
  cases hz : z[b]? with
  | none => rfl
  | some c =>
    have hb : b < z.length := (List.getElem?_eq_some_iff.1 hz).1
    simp only [Option.map_some, Nat.zero_add]
    have hy : (yl z.length q).getD b #[] = (la q b).getD #[] := by simp [yl, List.getD_eq_getElem?_getD, hb]
    by_cases hs : stB E b = true
    · rw [if_pos hs, hy]
      obtain ⟨e, he, h1⟩ := List.any_eq_true.1 hs
      have h2 := h.2 e he
      have h3 : e.st = some b := by simpa using h1
      rw [h3] at h2
      simp only at h2
      obtain ⟨p, hp, h4⟩ := List.any_eq_true.1 h2
      obtain ⟨m, hm⟩ := la_some q b ⟨p, hp, Nat.beq_eq.mp h4⟩
      rw [hm]; rfl
    · rw [if_neg hs, la_none q b (fun p hp e => hs (by rw [← e]; exact h.1 p hp))]

def ddB (l : List Oper) (dd : List (Nat × SV)) : Bool := dd.all fun p => l.any fun o => match o.dst with
  | some d => Nat.beq d p.1
  | none => false

abbrev eN (b : Nat) : Eff := ⟨some b, none, none, false⟩
abbrev eS (b : Nat) : Eff := ⟨none, some b, none, false⟩
abbrev eR (b : Nat) : Eff := ⟨none, none, some b, false⟩
abbrev eO : Eff := ⟨none, none, none, true⟩

section
variable {P : Program} {W : Wd} {W0 : World} {s : List SV} {d : List (Nat × SV)} {m : List Blk} {β : Nat → Nat} {a : Act} {w : World} {Q : Exit → Act → World → Prop} {l : List Oper} {draw : Bool} {id : Nat}

theorem over_of {ops : List Oper} {s0 s1 : List SV} (hl : s1.length = s0.length) (h : ∀ t, t < s0.length → (∀ o ∈ ops, o.dst ≠ some t) → slot s1 t = slot s0 t) : over ops.toArray s1 s0 = s1 := by
  have key : ∀ (ds : List Nat) (x : List SV), x.length = s1.length → (∀ t, t < x.length → t ∉ ds → slot s1 t = slot x t) → ds.foldl (fun s d => s.set d (slot s1 d)) x = s1 := by
    intro ds
    induction ds with
    | nil =>
      intro x hx h
      apply List.ext_getElem hx
      intro i h1 h2
      have := h i h1 (by simp)
      simp [slot, h1, h2] at this
      simpa using this.symm
    | cons e r ih =>
      intro x hx h
      refine ih (x.set e (slot s1 e)) (by simp [hx]) fun t ht hr => ?_
      simp only [List.length_set] at ht
      by_cases he : t = e
      · subst he
        simp [slot, ht]
      · rw [h t ht (by simp [he, hr])]
        have he' : ¬ e = t := fun x => he x.symm
        simp [slot, he']
  unfold over
  refine key _ s0 hl.symm fun t ht hn => h t ht fun o ho e => hn ?_
  exact List.mem_filterMap.2 ⟨o, by simpa using ho, e⟩

theorem rg_over {dd : List (Nat × SV)} (hdd : ddB l dd = true) : over l.toArray (ov s (dd ++ d)) (ov s d) = ov s (dd ++ d) := by
  refine over_of (by rw [ov_len, ov_len]) fun t ht hn => ?_
  rw [ov_len] at ht
  rw [slot_ov ht, slot_ov ht]
  refine lk_out dd d t s fun p hp e => ?_
  have h1 := List.all_eq_true.1 hdd p hp
  obtain ⟨o, ho, h2⟩ := List.any_eq_true.1 h1
  cases hd : o.dst with
  | none => simp [hd] at h2
  | some k => rw [hd] at h2; simp only at h2; exact hn o ho (by rw [hd, Nat.beq_eq.mp h2, e])

theorem St.rg (h : St W (ov s d) m β a w) (dd : List (Nat × SV)) (nb : List Blk) (q : List (Nat × Array Value)) (E : List Eff)
    (hok : AllOK P W l.toArray (ov s d) (ov s (dd ++ d)) (m ++ nb) (yl (m.length + nb.length) q) l E) (hend : ∀ β a w, St W (ov s (dd ++ d)) (stm 0 (m ++ nb) q) β a w → Q .normal a w)
    (hm : P.follows .mixedOrders = true := by kernel_rfl) (hchk : chkB l.toArray s.length m.length (m.length + nb.length) E = true := by kernel_rfl) (hdd : ddB l dd = true := by kernel_rfl) (hmk : madeB E m.length (m.length + nb.length) = true := by kernel_rfl) (hst : stsB E q = true := by kernel_rfl) : (Code.region id l.toArray draw).wp P Q a w :=
  St.region h (ov s (dd ++ d)) (stm 0 (m ++ nb) q) (m ++ nb) (yl (m.length + nb.length) q) E hm (by rw [ov_len, List.length_append]; exact hchk) (by rw [ov_len, ov_len]; exact Nat.beq_refl _) (rg_over hdd) (by simp) (by simp) (by rw [List.length_append]; exact hmk) (fin_stm hst _ _ (by simp)) hok hend
theorem St.r0 (h : St W (ov s d) m β a w) (dd : List (Nat × SV)) (E : List Eff)
    (hok : AllOK P W l.toArray (ov s d) (ov s (dd ++ d)) m [] l E) (hend : ∀ β a w, St W (ov s (dd ++ d)) m β a w → Q .normal a w)
    (hm : P.follows .mixedOrders = true := by kernel_rfl) (hchk : chkB l.toArray s.length m.length m.length E = true := by kernel_rfl) (hdd : ddB l dd = true := by kernel_rfl) (hmk : madeB E m.length m.length = true := by kernel_rfl) (hst : stsB E [] = true := by kernel_rfl) : (Code.region id l.toArray draw).wp P Q a w :=
  St.region h (ov s (dd ++ d)) m m [] E hm (by rw [ov_len]; exact hchk) (by rw [ov_len, ov_len]; exact Nat.beq_refl _) (rg_over hdd) (by simp) (by simp) hmk (by
    have h1 := fin_stm hst m m.length rfl
    have h2 : ∀ (k : Nat) (z : List Blk), fin E [] k z = fin E (yl m.length []) k z := by
      intro k z
      induction z generalizing k with
      | nil => rfl
      | cons c r ih =>
        simp only [fin, ih]
        by_cases hs : stB E k = true
        · unfold stsB at hst
          simp only [Bool.and_eq_true, List.all_eq_true] at hst
          obtain ⟨e, he, h1⟩ := List.any_eq_true.1 hs
          have h2 := hst.2 e he
          have h3 : e.st = some k := by simpa using h1
          rw [h3] at h2; simp at h2
        · simp [hs]
    have h3 : ∀ (k : Nat) (z : List Blk), stm k z [] = z := by
      intro k z
      induction z generalizing k with
      | nil => rfl
      | cons c r ih => simp only [stm, la, ih]
    rw [h2, h1, h3]) hok hend

theorem St.rgR {r n : Nat} (h : St W (ov s d) m β a w) (dd : List (Nat × SV)) (nb : List Blk) (q : List (Nat × Array Value)) (E : List Eff)
    (hok : AllOK P W l.toArray (ov s d) (ov s (dd ++ d)) (m ++ nb) (yl (m.length + nb.length) q) l E) (hend : ∀ β' a w, (∀ c, c < m.length → β' c = β c) → St W (ov s (dd ++ d)) (stm 0 (m ++ nb) q) β' a w → Q .normal a w)
    (hm : P.follows .mixedOrders = true := by kernel_rfl) (hnd : ndB l = true := by kernel_rfl) (hchk : chkB l.toArray s.length m.length (m.length + nb.length) E = true := by kernel_rfl) (hdd : ddB l dd = true := by kernel_rfl) (hmk : madeB E m.length (m.length + nb.length) = true := by kernel_rfl) (hst : stsB E q = true := by kernel_rfl) : (Code.region id l.toArray draw).wpIn (Fence.wide.inRound r) n P Q a w :=
  St.regionR h (ov s (dd ++ d)) (stm 0 (m ++ nb) q) (m ++ nb) (yl (m.length + nb.length) q) E hm hnd (by rw [ov_len, List.length_append]; exact hchk) (by rw [ov_len, ov_len]; exact Nat.beq_refl _) (rg_over hdd) (by simp) (by simp) (by rw [List.length_append]; exact hmk) (fin_stm hst _ _ (by simp)) hok hend
theorem s_ctR {r n : Nat} {t : Tmp} {x y : Code} (h : St W s m β a w) (hk : x.wpIn (Fence.wide.inRound r) n P Q a w) (ht : Nat.blt t s.length = true := by kernel_rfl) (hs : slot s t = .inl (.bool true) := by kernel_rfl) : (Code.cond (.tmp t) x y).wpIn (Fence.wide.inRound r) n P Q a w := wpIn_cond_true (h.eval ht hs) hk
theorem s_cfR {r n : Nat} {t : Tmp} {x y : Code} (h : St W s m β a w) (hk : y.wpIn (Fence.wide.inRound r) n P Q a w) (ht : Nat.blt t s.length = true := by kernel_rfl) (hs : slot s t = .inl (.bool false) := by kernel_rfl) : (Code.cond (.tmp t) x y).wpIn (Fence.wide.inRound r) n P Q a w := wpIn_cond_false (h.eval ht hs) hk
theorem thenR {F : Fence} {n : Nat} {y : Code} (h : y.wpIn F n P Q a w) : Exit.then (y.wpIn F n P Q) Q .normal a w := h
theorem St.own {α : Type} {mm : List α → List Blk} {B : Nat} (hB : ∀ k, W.S k → k < B) : OwnFrom B (fun (p : List α) w => St W s (mm p) β a w) := by
  intro p A B' row h hg hr
  refine ⟨h.tm, ⟨hg.os.trans h.bel.os, hg.tape.trans h.bel.tape, hg.output.trans h.bel.output, Nat.le_trans h.bel.size hg.size, fun k hk => (hg.block k (Nat.lt_of_lt_of_le (W.lt k hk) h.bel.size) (fun e => by have := hB k hk; have := (hr k e.symm).1; omega)).trans (h.bel.block k hk)⟩, fun b c hc => ?_, h.old, h.inj, h.live, h.pin⟩
  have h1 := h.row b c hc
  rw [grownBy_keeps_cells hg (fun r e => (hr r e).2) h1 rfl]; exact h1
theorem St.o0 (h : St W s m β a w) : St W (ov s []) m β a w := by rw [ov_nil]; exact h
theorem St.cs {s' : List SV} {m' : List Blk} (h : St W s m β a w) (hs : s = s') (hm : m = m') : St W s' m' β a w := by subst hs; subst hm; exact h
theorem St.sm (h : St W s m β a w) (b : Nat) (c' : Array Value) {c : Array Value} {t : TypeId} (e : c = c') (hb : m[b]? = some (c, t) := by kernel_rfl) : St W s (stm 0 m [(b, c')]) β a w := by
  subst e
  have : stm 0 m [(b, c)] = m := by
    apply List.ext_getElem?
    intro k
    rw [stm_get]
    cases hk : m[k]? with
    | none => rfl
    | some x =>
      simp only [Option.map_some, Nat.zero_add]
      by_cases e : b = k
      · subst e
        rw [hb] at hk; cases hk
        simp [la, Nat.beq_refl]
      · rw [la_none _ _ (by simpa using e)]
  rw [this]; exact h
theorem St.ss (h : St W (ov s d) m β a w) (i : Nat) (v' : Value) {v : Value} (e : v = v') (hi : lk d i s = .inl v := by kernel_rfl) : St W (ov s ((i, .inl v') :: d)) m β a w := by
  subst e
  have : ov s ((i, .inl v) :: d) = ov s d := by
    unfold ov
    refine List.map_congr_left fun t _ => ?_
    show (bif Nat.beq i t then _ else lk d t s) = _
    cases hb : Nat.beq i t with
    | false => rfl
    | true => rw [← Nat.beq_eq.mp hb, hi]; rfl
  rw [this]; exact h
theorem s_ct {t : Tmp} {x y : Code} (h : St W s m β a w) (hk : x.wp P Q a w) (ht : Nat.blt t s.length = true := by kernel_rfl) (hs : slot s t = .inl (.bool true) := by kernel_rfl) : (Code.cond (.tmp t) x y).wp P Q a w := sym_cond h ht hs hk
theorem s_cf {t : Tmp} {x y : Code} (h : St W s m β a w) (hk : y.wp P Q a w) (ht : Nat.blt t s.length = true := by kernel_rfl) (hs : slot s t = .inl (.bool false) := by kernel_rfl) : (Code.cond (.tmp t) x y).wp P Q a w := sym_cond h ht hs hk
theorem s_in {f : FuncId} {fn : Func} {c : Code} {args : Array Value} {R : Ending → World → Prop} {n : Nat} (hf : P.funcs[f]? = some fn) (hn : fn.ntmps = n) (hb : fn.body = some c) (s : List SV) (h : ∀ β a, St (wd W0) (ov (s ++ List.replicate (n - s.length) uu) []) [] β a W0 → c.wp P (bodyPost P fn R) a W0)
    (hs : (args ++ Array.replicate (n - args.size) undef) = ((s ++ List.replicate (n - s.length) uu).map (den fun _ => 0)).toArray := by kernel_rfl) (hl : (s ++ List.replicate (n - s.length) uu).all (fun v => match v with | .inl _ => true | .inr _ => false) = true := by kernel_rfl) : Calls P f args W0 R :=
  sym_enter hf hn hb _ hs hl fun β a h' => h β a h'.o0
theorem s_rt {fn : Func} {R : Ending → World → Prop} {t : Tmp} {v : Value} (h : St (wd W0) s m β a w) (hr : fn.results = #[.tmp t]) (hR : Below W0.heap.size W0 w → R (.returned v) w) (ht : Nat.blt t s.length = true := by kernel_rfl) (hs : slot s t = .inl v := by kernel_rfl) : bodyPost P fn R .ret a w := sym_ret h hr ht hs hR
theorem s_rc {fn : Func} {R : Ending → World → Prop} {t b : Nat} {ty t0 : TypeId} {c : Array Value} {d : TypeDesc} (h : St (wd W0) s m β a w) (hr : fn.results = #[.cell t ty]) (hu : P.underlying ty = some d) (hR : Below W0.heap.size W0 w → R (.returned (.agg c)) w) (hi : (P.info? ty).map (·.size) = some c.size := by kernel_rfl)
    (ht : Nat.blt t s.length = true := by kernel_rfl) (hs : slot s t = .inr (b, pt 0) := by kernel_rfl) (hm : m[b]? = some (c, t0) := by kernel_rfl) (hd : (match d with | .struct _ | .array _ _ => true | _ => false) = true := by rfl) : bodyPost P fn R .ret a w := sym_retc h hr ht hs hm hu hd hi hR
theorem s_r2 {fn : Func} {R : Ending → World → Prop} {t b t2 : Nat} {ty t0 : TypeId} {c : Array Value} {v : Value} {d : TypeDesc} (h : St (wd W0) s m β a w) (hr : fn.results = #[.cell t ty, .tmp t2]) (hu : P.underlying ty = some d) (hR : Below W0.heap.size W0 w → R (.returned (.tuple #[.agg c, v])) w) (hi : (P.info? ty).map (·.size) = some c.size := by kernel_rfl)
    (ht : Nat.blt t s.length = true := by kernel_rfl) (hs : slot s t = .inr (b, pt 0) := by kernel_rfl) (hm : m[b]? = some (c, t0) := by kernel_rfl) (ht2 : Nat.blt t2 s.length = true := by kernel_rfl) (hs2 : slot s t2 = .inl v := by kernel_rfl) (hd : (match d with | .struct _ | .array _ _ => true | _ => false) = true := by rfl) : bodyPost P fn R .ret a w := sym_ret2 h hr ht hs hm ht2 hs2 hu hd hi hR
end

section
variable {P : Program} {W : Wd} {ops : Array Oper} {s0 s1 : List SV} {z : List Blk} {y : List (Array Value)} {o : Oper}
theorem oc {r : List Oper} {e : Eff} {es : List Eff} (h : Ok1 P W ops s0 s1 z y o e) (hr : AllOK P W ops s0 s1 z y r es) : AllOK P W ops s0 s1 z y (o :: r) (e :: es) := ⟨h, hr⟩
theorem oz {r : List Oper} (h : Ok1 P W ops s0 s1 z y o ⟨none, none, none, false⟩) (hr : AllOK P W ops s0 s1 z y r []) : AllOK P W ops s0 s1 z y (o :: r) [] := ⟨h, hr⟩
theorem k_sk {d : Tmp} (hd : o.dst = some d) (hw : wantF ops s1 o = false := by kernel_rfl) (hs : slot s1 d = .inl undef := by kernel_rfl) : Ok1 P W ops s0 s1 z y o ⟨none, none, none, false⟩ := ok_skip hw hd hs
theorem k_ca (f : FuncId) {args : Array Operand} {tys : Array TypeId} (vs : Array Value) (R : Value) {d : Tmp} (hc : ∀ w, Calls P f vs w fun e w' => e = .returned R ∧ Below w.heap.size w w') (ho : o.op = .call { callee := .value (.func f), args := args, argTypes := tys }) (hd : o.dst = some d) (hw : wantF ops s1 o = true := by kernel_rfl) (hs : slot s1 d = .inl R := by kernel_rfl)
    (hv : args.map (evS s1) = vs := by kernel_rfl) (hp : args.all (plainB s1) = true := by kernel_rfl) (he : ∀ w, (callFunc f vs).run P w = .ok (.enter f vs) w := by intro w; kernel_rfl) : Ok1 P W ops s0 s1 z y o ⟨none, none, none, false⟩ := ok_call hc ho hw hd hs hv hp he
theorem k_mv {x : Operand} {d : Tmp} (ho : o.op = .move x ∨ o.op = .assign x) (hd : o.dst = some d) (hw : wantF ops s1 o = true := by kernel_rfl) (hp : plainB s1 x = true := by kernel_rfl) (hs : slot s1 d = .inl (evS s1 x) := by kernel_rfl) : Ok1 P W ops s0 s1 z y o ⟨none, none, none, false⟩ := ok_mv ho hw hd hp hs
theorem k_m0 {x : Operand} {d : Tmp} (ho : o.op = .move x) (hd : o.dst = some d) (hw : wantF ops s1 o = true := by kernel_rfl) (hp : plainB s0 x = true := by kernel_rfl) (hs : slot s1 d = .inl (evS s0 x) := by kernel_rfl) : Ok1 P W ops s0 s1 z y o ⟨none, none, none, true⟩ := ok_mv0 ho hw hd hp hs
theorem k_nt {t : TypeId} {x : Operand} {d : Tmp} (b : Bool) (ho : o.op = .unOp .not t x) (hd : o.dst = some d) (hw : wantF ops s1 o = true := by kernel_rfl) (hp : plainB s1 x = true := by kernel_rfl) (hx : evS s1 x = .bool b := by kernel_rfl) (hs : slot s1 d = .inl (.bool (!b)) := by kernel_rfl) : Ok1 P W ops s0 s1 z y o ⟨none, none, none, false⟩ := ok_not ho hw hd hp hx hs
theorem k_pt {c x u : Operand} {d : Tmp} (ho : o.op = .pick c x u) (hd : o.dst = some d) (hw : wantF ops s1 o = true := by kernel_rfl) (hpc : plainB s1 c = true := by kernel_rfl) (hc : evS s1 c = .bool true := by kernel_rfl) (hp : plainB s1 x = true := by kernel_rfl) (hs : slot s1 d = .inl (evS s1 x) := by kernel_rfl) : Ok1 P W ops s0 s1 z y o ⟨none, none, none, false⟩ := ok_pick_t ho hw hd hpc hc hp hs
theorem k_pf {c x u : Operand} {d : Tmp} (ho : o.op = .pick c x u) (hd : o.dst = some d) (hw : wantF ops s1 o = true := by kernel_rfl) (hpc : plainB s1 c = true := by kernel_rfl) (hc : evS s1 c = .bool false := by kernel_rfl) (hp : plainB s1 u = true := by kernel_rfl) (hs : slot s1 d = .inl (evS s1 u) := by kernel_rfl) : Ok1 P W ops s0 s1 z y o ⟨none, none, none, false⟩ := ok_pick_f ho hw hd hpc hc hp hs
theorem k_bi {p : BinOp} {t t' : TypeId} {x u : Operand} {d : Tmp} (x1 u1 v : Value) (hr : ∀ w, (do eqGuard p t x u x1 u1; binOp p t x1 u1).run P w = .ok v w) (ho : o.op = .binOp p t x u t') (hd : o.dst = some d) (hw : wantF ops s1 o = true := by kernel_rfl) (hpx : plainB s1 x = true := by kernel_rfl) (hx1 : evS s1 x = x1 := by kernel_rfl) (hpu : plainB s1 u = true := by kernel_rfl) (hu1 : evS s1 u = u1 := by kernel_rfl) (hs : slot s1 d = .inl v := by kernel_rfl) : Ok1 P W ops s0 s1 z y o ⟨none, none, none, false⟩ := ok_bin hr ho hw hd hpx hx1 hpu hu1 hs
theorem k_ex {x : Operand} {i : Nat} {d : Tmp} (x1 v : Value) (ho : o.op = .extract x i) (hd : o.dst = some d) (hr : ∀ w, (Instr.extract x1 i).run P w = .ok v w := by intro w; kernel_rfl) (hw : wantF ops s1 o = true := by kernel_rfl) (hpx : plainB s1 x = true := by kernel_rfl) (hx1 : evS s1 x = x1 := by kernel_rfl) (hs : slot s1 d = .inl v := by kernel_rfl) : Ok1 P W ops s0 s1 z y o ⟨none, none, none, false⟩ := ok_ext hr ho hw hd hpx hx1 hs
theorem k_ix {t : TypeId} {x u : Operand} {d : Tmp} (x1 u1 v : Value) (hr : ∀ w, (Instr.index t x1 u1).run P w = .ok v w) (ho : o.op = .index t x u) (hd : o.dst = some d) (hw : wantF ops s1 o = true := by kernel_rfl) (hpx : plainB s1 x = true := by kernel_rfl) (hx1 : evS s1 x = x1 := by kernel_rfl) (hpu : plainB s1 u = true := by kernel_rfl) (hu1 : evS s1 u = u1 := by kernel_rfl) (hs : slot s1 d = .inl v := by kernel_rfl) : Ok1 P W ops s0 s1 z y o ⟨none, none, none, false⟩ := ok_index hr ho hw hd hpx hx1 hpu hu1 hs
theorem k_co {t t' : TypeId} {x : Operand} {d : Tmp} (x1 v : Value) (hr : ∀ w, (convert t t' x1).run P w = .ok v w) (ho : o.op = .convert t t' x) (hd : o.dst = some d) (hw : wantF ops s1 o = true := by kernel_rfl) (hpx : plainB s1 x = true := by kernel_rfl) (hx1 : evS s1 x = x1 := by kernel_rfl) (hs : slot s1 d = .inl v := by kernel_rfl) : Ok1 P W ops s0 s1 z y o ⟨none, none, none, false⟩ := ok_conv hr ho hw hd hpx hx1 hs
theorem k_bu {t : TypeId} {ps : Array (Nat × Operand)} (vs : Array (Nat × Value)) {d : Tmp} (v : Value) (hr : ∀ w, (Instr.build t vs).run P w = .ok v w) (ho : o.op = .build t ps) (hd : o.dst = some d) (hw : wantF ops s1 o = true := by kernel_rfl) (hp : ps.all (fun q => plainB s1 q.2) = true := by kernel_rfl) (hvs : (ps.map fun q => (q.1, evS s1 q.2)) = vs := by kernel_rfl) (hs : slot s1 d = .inl v := by kernel_rfl) : Ok1 P W ops s0 s1 z y o ⟨none, none, none, false⟩ := ok_build hr ho hw hd hp hvs hs
theorem k_ld {t t0 : TypeId} {p d : Nat} (b off : Nat) {c : Array Value} (v : Value) (hld : ∀ (w : World) (q : Nat), w.heap[q]? = some (.cells c t0 (0, 0)) → (Instr.loadAt t (.pointer (some ⟨q, off, none⟩))).run P w = .ok v w)
    (ho : o.op = .load t (.tmp p)) (hd : o.dst = some d) (hw : wantF ops s1 o = true := by kernel_rfl) (hp : slot s1 p = .inr (b, pt off) := by kernel_rfl) (hz : zc z b = (c, t0) := by kernel_rfl) (hs : slot s1 d = .inl v := by kernel_rfl) : Ok1 P W ops s0 s1 z y o ⟨none, none, some b, false⟩ := ok_load hld ho hw hd hp hz hs
theorem k_st {t t0 : TypeId} {p : Nat} (b off : Nat) {x : Operand} (u : Value) {c n : Array Value} (hst : ∀ (w : World) (q : Nat), w.heap[q]? = some (.cells c t0 (0, 0)) → (Instr.storeAt t (.pointer (some ⟨q, off, none⟩)) u).run P w = .ok () (w.setRow q n))
    (ho : o.op = .store t (.tmp p) x) (hd : o.dst = none) (hw : wantF ops s1 o = true := by kernel_rfl) (hp : slot s1 p = .inr (b, pt off) := by kernel_rfl) (hz : zc z b = (c, t0) := by kernel_rfl) (hx : plainB s1 x = true := by kernel_rfl) (hu : evS s1 x = u := by kernel_rfl) (hy : y.getD b #[] = n := by kernel_rfl) : Ok1 P W ops s0 s1 z y o ⟨none, some b, none, false⟩ := ok_store hst ho hw hd hp hz hx hu hy
theorem k_al {t t0 : TypeId} {d : Nat} (b : Nat) {c : Array Value} (hal : ∀ w : World, (Instr.alloc t true (.tuple #[])).run P w = .ok (.pointer (some ⟨w.heap.size, 0, none⟩)) (w.alloc (.cells c t0)))
    (ho : o.op = .alloc t) (hd : o.dst = some d) (hw : wantF ops s1 o = true := by kernel_rfl) (hz : zc z b = (c, t0) := by kernel_rfl) (hs : slot s1 d = .inr (b, pt 0) := by kernel_rfl) : Ok1 P W ops s0 s1 z y o ⟨some b, none, none, false⟩ := ok_alloc hal ho hw hd hz hs
theorem k_bx {t t0 : TypeId} {d : Nat} (b : Nat) {x : Operand} (u : Value) {c : Array Value} (hal : ∀ w : World, (Instr.box t u).run P w = .ok (.pointer (some ⟨w.heap.size, 0, none⟩)) (w.alloc (.cells c t0)))
    (ho : o.op = .box t x) (hd : o.dst = some d) (hw : wantF ops s1 o = true := by kernel_rfl) (hx : plainB s1 x = true := by kernel_rfl) (hu : evS s1 x = u := by kernel_rfl) (hz : zc z b = (c, t0) := by kernel_rfl) (hs : slot s1 d = .inr (b, pt 0) := by kernel_rfl) : Ok1 P W ops s0 s1 z y o ⟨some b, none, none, false⟩ := ok_box hal ho hw hd hx hu hz hs
theorem k_fa {t : TypeId} {p d : Nat} (b off off' : Nat) {f : Nat} (ho : o.op = .fieldAddr t (.tmp p) f) (hd : o.dst = some d) (hf : ∀ (w : World) (q : Nat), (Instr.fieldAt t (.pointer (some ⟨q, off, none⟩)) f).run P w = .ok (.pointer (some ⟨q, off', none⟩)) w := by intro w q; kernel_rfl)
    (hw : wantF ops s1 o = true := by kernel_rfl) (hp : slot s1 p = .inr (b, pt off) := by kernel_rfl) (hs : slot s1 d = .inr (b, pt off') := by kernel_rfl) : Ok1 P W ops s0 s1 z y o ⟨none, none, none, false⟩ := ok_faddr hf ho hw hd hp hs
theorem k_ia {t : TypeId} {p d : Nat} (b off off' : Nat) {x : Operand} (u : Value) (hf : ∀ (w : World) (q : Nat), (Instr.indexAt t (.pointer (some ⟨q, off, none⟩)) u).run P w = .ok (.pointer (some ⟨q, off', none⟩)) w)
    (ho : o.op = .indexAddr t (.tmp p) x) (hd : o.dst = some d) (hw : wantF ops s1 o = true := by kernel_rfl) (hx : plainB s1 x = true := by kernel_rfl) (hu : evS s1 x = u := by kernel_rfl) (hp : slot s1 p = .inr (b, pt off) := by kernel_rfl) (hs : slot s1 d = .inr (b, pt off') := by kernel_rfl) : Ok1 P W ops s0 s1 z y o ⟨none, none, none, false⟩ := ok_iaddr hf ho hw hd hx hu hp hs
end
section
variable {P : Program} {W : Wd} {ops : Array Oper} {s0 s1 : List SV} {z : List Blk} {y : List (Array Value)} {o : Oper}
theorem ok_mkf {f : Fn} {xs : Array Operand} {vs : Array Value} {d : Tmp} (ho : o.op = .makeFunc f xs #[]) (hw : wantF ops s1 o = true) (hd : o.dst = some d) (hp : xs.all (plainB s1) = true) (hv : xs.map (evS s1) = vs) (hs : slot s1 d = .inl (.func f vs #[])) : Ok1 P W ops s0 s1 z y o ⟨none, none, none, false⟩ := by
  refine ok_val hw hd hs (fun β a w ha => ?_)
  have hmap : xs.map a.eval = vs := by
    rw [← hv]
    apply Array.map_congr_left
    intro x hx
    refine ev_plain ha ?_ (Array.all_eq_true_iff_forall_mem.1 hp x hx)
    rw [ho]; simp [Op.operands, hx]
  simp [execOp, ho, hmap, Instr.makeFunc]
theorem ok_callv {f : FuncId} {t : Tmp} {first : Array Value} {args : Array Operand} {tys : Array TypeId} {ws vs : Array Value} {R : Value} {d : Tmp} (hc : ∀ w, Calls P f vs w fun e w' => e = .returned R ∧ Below w.heap.size w w') (ho : o.op = .call { callee := .value (.tmp t), args := args, argTypes := tys }) (hw : wantF ops s1 o = true) (hd : o.dst = some d) (hs : slot s1 d = .inl R)
    (hf : slot s1 t = .inl (.func (.func f) first #[])) (hv : args.map (evS s1) = ws) (hp : args.all (plainB s1) = true) (hvs : first ++ ws = vs) (he : ∀ w, (callFunc f vs).run P w = .ok (.enter f vs) w) :
    Ok1 P W ops s0 s1 z y o ⟨none, none, none, false⟩ := by
  refine ok_quiet hw hd hs (fun β a w ha K Q hK => ?_)
  have hmap : args.map a.eval = ws := by
    rw [← hv]
    apply Array.map_congr_left
    intro x hx
    refine ev_plain ha ?_ (Array.all_eq_true_iff_forall_mem.1 hp x hx)
    rw [ho]; simp [Op.operands, Call.operands, hx]
  have hev : a.eval (.tmp t) = .func (.func f) first #[] := by
    rw [ha t (mem_tmps (by rw [ho]; simp [Op.operands, Call.operands])), hf]; rfl
  unfold Oper.wp execOp
  simp only [ho, resolve, invoke, Sem.run_bind, hmap, hev, Deferred.ofValue, Sem.run_pure, Result.andThen_ok, Array.append_empty, hvs, he, Oper.upon_enter]
  exact (hc w).mono (by rintro e w' ⟨rfl, hb⟩; exact hK w' hb)
theorem k_mf {f : Fn} {xs : Array Operand} (vs : Array Value) {d : Tmp} (ho : o.op = .makeFunc f xs #[]) (hd : o.dst = some d) (hw : wantF ops s1 o = true := by kernel_rfl) (hp : xs.all (plainB s1) = true := by kernel_rfl) (hv : xs.map (evS s1) = vs := by kernel_rfl) (hs : slot s1 d = .inl (.func f vs #[]) := by kernel_rfl) : Ok1 P W ops s0 s1 z y o ⟨none, none, none, false⟩ := ok_mkf ho hw hd hp hv hs
theorem k_cv {f : FuncId} {t : Tmp} {args : Array Operand} {tys : Array TypeId} (first ws vs : Array Value) (R : Value) {d : Tmp} (hc : ∀ w, Calls P f vs w fun e w' => e = .returned R ∧ Below w.heap.size w w') (ho : o.op = .call { callee := .value (.tmp t), args := args, argTypes := tys }) (hd : o.dst = some d) (hw : wantF ops s1 o = true := by kernel_rfl) (hs : slot s1 d = .inl R := by kernel_rfl)
    (hf : slot s1 t = .inl (.func (.func f) first #[]) := by kernel_rfl) (hv : args.map (evS s1) = ws := by kernel_rfl) (hp : args.all (plainB s1) = true := by kernel_rfl) (hvs : first ++ ws = vs := by kernel_rfl) (he : ∀ w, (callFunc f vs).run P w = .ok (.enter f vs) w := by intro w; kernel_rfl) : Ok1 P W ops s0 s1 z y o ⟨none, none, none, false⟩ := ok_callv hc ho hw hd hs hf hv hp hvs he

theorem k_cx (f : FuncId) {args : Array Operand} {tys : Array TypeId} (vs : Array Value) (R : Value) {d : Tmp} (hc : ∀ w, (callFunc f vs).run P w = .ok (.value R) w) (ho : o.op = .call { callee := .value (.func f), args := args, argTypes := tys }) (hd : o.dst = some d) (hw : wantF ops s1 o = true := by kernel_rfl) (hs : slot s1 d = .inl R := by kernel_rfl)
    (hv : args.map (evS s1) = vs := by kernel_rfl) (hp : args.all (plainB s1) = true := by kernel_rfl) : Ok1 P W ops s0 s1 z y o ⟨none, none, none, false⟩ := by
  refine ok_val hw hd hs (fun β a w ha => ?_)
  have hmap : args.map a.eval = vs := by
    rw [← hv]
    apply Array.map_congr_left
    intro x hx
    refine ev_plain ha ?_ (Array.all_eq_true_iff_forall_mem.1 hp x hx)
    rw [ho]; simp [Op.operands, Call.operands, hx]
  have hev : a.eval (.func f) = .func (.func f) #[] #[] := rfl
  simp only [execOp, ho, resolve, invoke, Sem.run_bind, hmap, hev, Deferred.ofValue, Sem.run_pure, Result.andThen_ok, Array.append_empty, Array.empty_append, hc]
theorem k_cw (f : FuncId) {args : Array Operand} {tys : Array TypeId} (vs : Array Value) (R : Value) {d : Tmp} (hc : ∀ w, KW W w → Calls P f vs w fun e w' => e = .returned R ∧ Below w.heap.size w w') (ho : o.op = .call { callee := .value (.func f), args := args, argTypes := tys }) (hd : o.dst = some d) (hw : wantF ops s1 o = true := by kernel_rfl) (hs : slot s1 d = .inl R := by kernel_rfl)
    (hv : args.map (evS s1) = vs := by kernel_rfl) (hp : args.all (plainB s1) = true := by kernel_rfl) (he : ∀ w, (callFunc f vs).run P w = .ok (.enter f vs) w := by intro w; kernel_rfl) : Ok1 P W ops s0 s1 z y o ⟨none, none, none, false⟩ := by
  refine Or.inl ⟨hw, ⟨?_, fun b h => by simp at h, fun b _ h => by simp at h, ?_⟩⟩
  · rintro b (h | h | ⟨_, d', off, h1, h2⟩)
    · simp at h
    · simp at h
    · rw [hd] at h1; cases h1; rw [hs] at h2; cases h2
  · intro β a w ha hb hr hns K Q hK
    have hmap : args.map a.eval = vs := by
      rw [← hv]
      apply Array.map_congr_left
      intro x hx
      refine ev_plain ha ?_ (Array.all_eq_true_iff_forall_mem.1 hp x hx)
      rw [ho]; simp [Op.operands, Call.operands, hx]
    exact oper_call f args tys ho vs hmap he (hc w hb) (fun w' hw' => hK R w' ⟨fun d' h => by rw [hd] at h; cases h; rw [hs]; rfl, hw'⟩)
def evB (β : Nat → Nat) (s : List SV) : Operand → Value
  | .tmp t => den β (slot s t)
  | .const v => v
  | .global g => .pointer (some ⟨g, 0, none⟩)
  | .func f => .func (.func f) #[] #[]
theorem k_cb (f : FuncId) {args : Array Operand} {tys : Array TypeId} (vs : Nat → Array Value) (R : Value) {d : Tmp} (b tt : Nat) {fm : Fm} {c : Array Value} {t0 : TypeId} (hc : ∀ (w : World) (q : Nat), KW W w → w.heap[q]? = some (.cells c t0 (0, 0)) → Calls P f (vs q) w fun e w' => e = .returned R ∧ Below w.heap.size w w') (ho : o.op = .call { callee := .value (.func f), args := args, argTypes := tys }) (hd : o.dst = some d)
    (hmem : Operand.tmp tt ∈ args) (hw : wantF ops s1 o = true := by kernel_rfl) (hs : slot s1 d = .inl R := by kernel_rfl) (hp : slot s1 tt = .inr (b, fm) := by kernel_rfl) (hz : zc z b = (c, t0) := by kernel_rfl)
    (hv : ∀ β, args.map (evB β s1) = vs (β b) := by intro β; kernel_rfl) (he : ∀ w q, (callFunc f (vs q)).run P w = .ok (.enter f (vs q)) w := by intro w q; kernel_rfl) : Ok1 P W ops s0 s1 z y o ⟨none, none, some b, false⟩ := by
  refine Or.inl ⟨hw, ⟨?_, fun b h => by simp at h, fun b _ h => by simp at h, ?_⟩⟩
  · rintro b' (h | h | ⟨_, d', off, h1, h2⟩)
    · cases h; exact ⟨tt, mem_tmps (by rw [ho]; simp [Op.operands, Call.operands, hmem]), fm, hp⟩
    · simp at h
    · rw [hd] at h1; cases h1; rw [hs] at h2; cases h2
  · intro β a w ha hb hr hns K Q hK
    have hmap : args.map a.eval = vs (β b) := by
      rw [← hv β]
      apply Array.map_congr_left
      intro x hx
      cases x with
      | tmp t => exact ha t (mem_tmps (by rw [ho]; simp [Op.operands, Call.operands, hx]))
      | const v => rfl
      | global g => rfl
      | func f => rfl
    have h1 := hr b (Or.inl rfl)
    rw [hz] at h1
    exact oper_call f args tys ho (vs (β b)) hmap (fun w => he w _) (hc w (β b) hb h1) (fun w' hw' => hK R w' ⟨fun d' h => by rw [hd] at h; cases h; rw [hs]; rfl, hw'⟩)
theorem k_sl {t : TypeId} {p d : Nat} (b n : Nat) (ho : o.op = .slice t (.tmp p) none none none) (hd : o.dst = some d) (hf : ∀ (w : World) (q : Nat), (Instr.sliceAt t (.pointer (some ⟨q, 0, none⟩)) none none none).run P w = .ok (.slice (some ⟨q, 0, none⟩) n n) w)
    (hw : wantF ops s1 o = true := by kernel_rfl) (hp : slot s1 p = .inr (b, pt 0) := by kernel_rfl) (hs : slot s1 d = .inr (b, sl 0 n n) := by kernel_rfl) : Ok1 P W ops s0 s1 z y o ⟨none, none, none, false⟩ := by
  have hm : p ∈ tmpsOf o := mem_tmps (by rw [ho]; simp [Op.operands])
  refine Or.inl ⟨hw, ⟨?_, fun b h => by simp at h, fun b _ h => by simp at h, ?_⟩⟩
  · rintro b' (h | h | ⟨_, d', off', h1, h2⟩)
    · simp at h
    · simp at h
    · rw [hd] at h1; cases h1; rw [hs] at h2; cases h2; exact ⟨p, hm, _, hp⟩
  · intro β a w ha hb hr hns K Q hK
    have h3 : a.eval (.tmp p) = .pointer (some ⟨β b, 0, none⟩) := by rw [ha p hm, hp]; rfl
    unfold Oper.wp
    simp only [execOp, ho, h3, Option.map_none, Sem.run_bind, hf w (β b), Result.andThen_ok, Sem.run_pure, Oper.upon_value]
    exact hK _ _ ⟨fun d' h => by rw [hd] at h; cases h; rw [hs]; rfl, Below.refl _ _⟩
theorem k_ln {x : Operand} {tys : Array TypeId} {d : Tmp} {ad : Option Addr} (n c : Nat) (ho : o.op = .call { callee := .builtin .len, args := #[x], argTypes := tys }) (hd : o.dst = some d) (hr : ∀ w, (Builtin.len_ tys o.type #[.slice ad n c]).run P w = .ok (.int .i64 (n : Nat)) w)
    (hw : wantF ops s1 o = true := by kernel_rfl) (hp : plainB s1 x = true := by kernel_rfl) (hx : evS s1 x = .slice ad n c := by kernel_rfl) (hs : slot s1 d = .inl (.int .i64 (n : Nat)) := by kernel_rfl) : Ok1 P W ops s0 s1 z y o ⟨none, none, none, false⟩ := by
  refine ok_val hw hd hs (fun β a w ha => ?_)
  have h1 : a.eval x = .slice ad n c := by rw [← hx]; exact ev_plain ha (by rw [ho]; simp [Op.operands, Call.operands]) hp
  simp [execOp, ho, resolve, invoke, builtin, h1, hr]
end
end Go.Proofs.YtacokkedomjgpaaGreatDoor

namespace Go.Proofs.YtacokkedomjgpaaGreatDoor
open Go.RowKit
section
variable {P : Program} {W : Wd} {ops : Array Oper} {s0 s1 : List SV} {z : List Blk} {y : List (Array Value)} {o : Oper}
theorem k_is {t : TypeId} {x u : Operand} {d : Tmp} (x1 u1 v : Value) (hr : ∀ w, (Instr.indexAt t x1 u1).run P w = .ok v w) (ho : o.op = .indexAddr t x u) (hd : o.dst = some d) (hw : wantF ops s1 o = true := by kernel_rfl) (hpx : plainB s1 x = true := by kernel_rfl) (hx1 : evS s1 x = x1 := by kernel_rfl) (hpu : plainB s1 u = true := by kernel_rfl) (hu1 : evS s1 u = u1 := by kernel_rfl) (hs : slot s1 d = .inl v := by kernel_rfl) : Ok1 P W ops s0 s1 z y o ⟨none, none, none, false⟩ := by
  refine ok_val hw hd hs (fun β a w ha => ?_)
  have h1 : a.eval x = x1 := by rw [← hx1]; exact ev_plain ha (by rw [ho]; simp [Op.operands]) hpx
  have h2 : a.eval u = u1 := by rw [← hu1]; exact ev_plain ha (by rw [ho]; simp [Op.operands]) hpu
  simp only [execOp, ho, h1, h2, Sem.run_bind, hr w, Result.andThen_ok, Sem.run_pure]
theorem k_lf {t : TypeId} {x : Operand} {d : Tmp} (x1 v : Value) (hr : ∀ w, KW W w → (Instr.loadAt t x1).run P w = .ok v w) (ho : o.op = .load t x) (hd : o.dst = some d) (hw : wantF ops s1 o = true := by kernel_rfl) (hpx : plainB s1 x = true := by kernel_rfl) (hx1 : evS s1 x = x1 := by kernel_rfl) (hs : slot s1 d = .inl v := by kernel_rfl) : Ok1 P W ops s0 s1 z y o ⟨none, none, none, false⟩ := by
  refine Or.inl ⟨hw, ⟨?_, fun b h => by simp at h, fun b _ h => by simp at h, ?_⟩⟩
  · rintro b (h | h | ⟨_, d', off, h1, h2⟩)
    · simp at h
    · simp at h
    · rw [hd] at h1; cases h1; rw [hs] at h2; cases h2
  · intro β a w ha hb hr' hns K Q hK
    have h1 : a.eval x = x1 := by rw [← hx1]; exact ev_plain ha (by rw [ho]; simp [Op.operands]) hpx
    have h3 := hr w hb
    unfold Oper.wp
    simp only [execOp, ho, h1, Sem.run_bind, h3, Result.andThen_ok, Sem.run_pure, Oper.upon_value]
    exact hK _ _ ⟨fun d' h => by rw [hd] at h; cases h; rw [hs]; rfl, Below.refl _ _⟩
def jk (n : Nat) (x : Nat → SV) : List SV := (List.range n).map x
theorem lk_zip (f : Nat → SV) (t : Nat) {b : List SV} (hb : slot b t = f t) : ∀ idx : List Nat, lk (idx.zip (idx.map f)) t b = f t
  | [] => hb
  | i :: r => by
    show (bif Nat.beq i t then f i else lk (r.zip (r.map f)) t b) = f t
    cases e : Nat.beq i t with
    | true => rw [Nat.beq_eq.mp e]; rfl
    | false => exact lk_zip f t hb r
theorem St.jn {n : Nat} {s : List SV} {d : List (Nat × SV)} {m : List Blk} {β : Nat → Nat} {a : Act} {w : World} (h : St W (ov s d) m β a w) (idx : List Nat) (vals : List SV) (m' : List Blk) (e : idx.map (fun i => lk d i s) = vals) (hn : Nat.beq s.length n = true) (hm : m = m') : ∃ x, St W (ov (jk n x) (idx.zip vals)) m' β a w := by
  subst hm; subst e
  have hn := Nat.beq_eq.mp hn
  refine ⟨fun t => lk d t s, ?_⟩
  have e : ov (jk n fun t => lk d t s) (idx.zip (idx.map fun i => lk d i s)) = ov s d := by
    have hl : (jk n fun t => lk d t s).length = s.length := by simp [jk, hn]
    unfold ov
    rw [hl]
    refine List.map_congr_left fun t ht => lk_zip (fun t => lk d t s) t ?_ idx
    have ht : t < n := by rw [← hn]; simpa using ht
    simp [slot, jk, ht]
  rw [e]; exact h
end
section
variable {P : Program} {W : Wd} {ops : Array Oper} {s0 s1 : List SV} {z : List Blk} {y : List (Array Value)} {o : Oper}
theorem k_mp {p d : Tmp} (b : Nat) (fm : Fm) (ho : o.op = .move (.tmp p) ∨ o.op = .assign (.tmp p)) (hd : o.dst = some d) (hw : wantF ops s1 o = true := by kernel_rfl) (hp : slot s1 p = .inr (b, fm) := by kernel_rfl) (hs : slot s1 d = .inr (b, fm) := by kernel_rfl) : Ok1 P W ops s0 s1 z y o ⟨none, none, none, false⟩ := by
  have hm : p ∈ tmpsOf o := mem_tmps (by rcases ho with ho | ho <;> (rw [ho]; simp [Op.operands]))
  refine Or.inl ⟨hw, ⟨?_, fun b h => by simp at h, fun b _ h => by simp at h, ?_⟩⟩
  · rintro b' (h | h | ⟨_, d', off', h1, h2⟩)
    · simp at h
    · simp at h
    · rw [hd] at h1; cases h1; rw [hs] at h2; cases h2; exact ⟨p, hm, _, hp⟩
  · intro β a w ha hb hr hns K Q hK
    have h3 : a.eval (.tmp p) = fv fm (β b) := by rw [ha p hm, hp]; rfl
    unfold Oper.wp
    rcases ho with ho | ho
    all_goals simp only [execOp, ho, h3, Sem.run_pure, Oper.upon_value]
    all_goals exact hK _ _ ⟨fun d' h => by rw [hd] at h; cases h; rw [hs]; rfl, Below.refl _ _⟩
theorem k_ib {t : TypeId} {p d : Nat} (b off' : Nat) (fm : Fm) {x : Operand} (u : Value) (hf : ∀ (w : World) (q : Nat), (Instr.indexAt t (fv fm q) u).run P w = .ok (.pointer (some ⟨q, off', none⟩)) w)
    (ho : o.op = .indexAddr t (.tmp p) x) (hd : o.dst = some d) (hw : wantF ops s1 o = true := by kernel_rfl) (hx : plainB s1 x = true := by kernel_rfl) (hu : evS s1 x = u := by kernel_rfl) (hp : slot s1 p = .inr (b, fm) := by kernel_rfl) (hs : slot s1 d = .inr (b, pt off') := by kernel_rfl) : Ok1 P W ops s0 s1 z y o ⟨none, none, none, false⟩ := by
  have hm : p ∈ tmpsOf o := mem_tmps (by rw [ho]; simp [Op.operands])
  refine Or.inl ⟨hw, ⟨?_, fun b h => by simp at h, fun b _ h => by simp at h, ?_⟩⟩
  · rintro b' (h | h | ⟨_, d', off', h1, h2⟩)
    · simp at h
    · simp at h
    · rw [hd] at h1; cases h1; rw [hs] at h2; cases h2; exact ⟨p, hm, _, hp⟩
  · intro β a w ha hb hr hns K Q hK
    have h3 : a.eval (.tmp p) = fv fm (β b) := by rw [ha p hm, hp]; rfl
    have h4 : a.eval x = u := by rw [← hu]; exact ev_plain ha (by rw [ho]; simp [Op.operands]) hx
    unfold Oper.wp
    simp only [execOp, ho, h3, h4, Sem.run_bind, hf w (β b), Result.andThen_ok, Sem.run_pure, Oper.upon_value]
    exact hK _ _ ⟨fun d' h => by rw [hd] at h; cases h; rw [hs]; rfl, Below.refl _ _⟩
end
def bup (β : Nat → Nat) (n q b : Nat) : Nat := bif Nat.beq b n then q else β b
theorem reg_gen {P : Program} {x : Code} {Q : Exit → Act → World → Prop} {a : Act} {w : World} (h : ∀ QQ : Exit → Act → World → Prop, Hid (∀ a w, Q .normal a w → QQ .normal a w) → x.wp P QQ a w) : x.wp P Q a w := h Q (hide1 fun _ _ h => h)
section
variable {P : Program} {W : Wd} {ops : Array Oper} {s0 s1 : List SV} {z : List Blk} {y : List (Array Value)} {o : Oper}
theorem k_nc {p d : Tmp} (b off : Nat) (ho : o.op = .nilCheck (.tmp p)) (hd : o.dst = some d) (hw : wantF ops s1 o = true := by kernel_rfl) (hp : slot s1 p = .inr (b, pt off) := by kernel_rfl) (hs : slot s1 d = .inr (b, pt off) := by kernel_rfl) : Ok1 P W ops s0 s1 z y o ⟨none, none, none, false⟩ := by
  have hm : p ∈ tmpsOf o := mem_tmps (by rw [ho]; simp [Op.operands])
  refine Or.inl ⟨hw, ⟨?_, fun b h => by simp at h, fun b _ h => by simp at h, ?_⟩⟩
  · rintro b' (h | h | ⟨_, d', off', h1, h2⟩)
    · simp at h
    · simp at h
    · rw [hd] at h1; cases h1; rw [hs] at h2; cases h2; exact ⟨p, hm, _, hp⟩
  · intro β a w ha hb hr hns K Q hK
    have h3 : a.eval (.tmp p) = .pointer (some ⟨β b, off, none⟩) := by rw [ha p hm, hp]; rfl
    unfold Oper.wp
    simp only [execOp, ho, h3, Sem.run_pure, Oper.upon_value]
    exact hK _ _ ⟨fun d' h => by rw [hd] at h; cases h; rw [hs]; rfl, Below.refl _ _⟩
theorem oper_callg {Q : Exit → Act → World → Prop} {u : World} {o : Oper} {a : Act} {K : Act → World → Prop} (f : FuncId) (args : Array Operand) (tys : Array TypeId) (ho : o.op = .call { callee := .value (.func f), args := args, argTypes := tys }) (vs : Array Value) (hv : args.map a.eval = vs)
    (he : ∀ w, (callFunc f vs).run P w = .ok (.enter f vs) w) {R : Value} {J : World → Prop} (hc : Calls P f vs u fun e w' => e = .returned R ∧ J w') (h : ∀ w', J w' → K (a.put o.dst R) w') : o.wp P a u K Q := by
  unfold Oper.wp execOp
  have hev : a.eval (.func f) = .func (.func f) #[] #[] := rfl
  simp only [ho, resolve, invoke, Sem.run_bind, hv, hev, Deferred.ofValue, Sem.run_pure, Result.andThen_ok, Array.append_empty, Array.empty_append, he, Oper.upon_enter]
  exact hc.mono (by rintro e w' ⟨rfl, hb⟩; exact h w' hb)
end
section
variable {P : Program} {W : Wd} {ops : Array Oper} {s0 s1 : List SV} {z : List Blk} {y : List (Array Value)} {o : Oper}
theorem ok_un {p : UnOp} {t : TypeId} {x : Operand} {d : Tmp} {v x1 : Value} (hr : ∀ w, (Op.unary p x1).run P w = .ok v w) (ho : o.op = .unOp p t x) (hw : wantF ops s1 o = true) (hd : o.dst = some d) (hpx : plainB s1 x = true) (hx1 : evS s1 x = x1) (hs : slot s1 d = .inl v) : Ok1 P W ops s0 s1 z y o ⟨none, none, none, false⟩ := by
  refine ok_val hw hd hs (fun β a w ha => ?_)
  have h1 : a.eval x = x1 := by rw [← hx1]; exact ev_plain ha (by rw [ho]; simp [Op.operands]) hpx
  simp only [execOp, ho, h1, Sem.run_bind, hr w, Result.andThen_ok, Sem.run_pure]
end
theorem rounds_1 {P : Program} {a : Act} {w : World} {Q : Exit → Act → World → Prop} {c : Code} {n : Nat} (h : c.wp P (Exit.then (Code.rounds P c Q n) Q) a w) : Code.rounds P c Q (n + 1) a w := by rw [rounds_succ]; exact h
theorem k_b0 {P : Program} {W : Wd} {ops : Array Oper} {s0 s1 : List SV} {z : List Blk} {y : List (Array Value)} {o : Oper} {p : BinOp} {t t' : TypeId} {x u : Operand} {d : Tmp} (x1 u1 v : Value) (hr : ∀ w, (do eqGuard p t x u x1 u1; binOp p t x1 u1).run P w = .ok v w) (ho : o.op = .binOp p t x u t') (hd : o.dst = some d) (hw : wantF ops s1 o = true := by kernel_rfl) (hpx : plainB s0 x = true := by kernel_rfl) (hx1 : evS s0 x = x1 := by kernel_rfl) (hpu : plainB s0 u = true := by kernel_rfl) (hu1 : evS s0 u = u1 := by kernel_rfl) (hs : slot s1 d = .inl v := by kernel_rfl) : Ok1 P W ops s0 s1 z y o ⟨none, none, none, true⟩ := by
  refine Or.inl ⟨hw, ⟨?_, fun b h => by simp at h, fun b _ h => by simp at h, ?_⟩⟩
  · rintro b (h | h | ⟨_, d', off, h1, h2⟩)
    · simp at h
    · simp at h
    · rw [hd] at h1; cases h1; rw [hs] at h2; cases h2
  · intro β a w ha hb hr' hns K Q hK
    have h1 : a.eval x = x1 := by rw [← hx1]; exact ev_plain ha (by rw [ho]; simp [Op.operands]) hpx
    have h2 : a.eval u = u1 := by rw [← hu1]; exact ev_plain ha (by rw [ho]; simp [Op.operands]) hpu
    have h3 := hr w
    unfold Oper.wp
    simp only [execOp, ho, h1, h2, Sem.run_bind, h3, Result.andThen_ok, Sem.run_pure, Oper.upon_value]
    exact hK _ _ ⟨fun d' h => by rw [hd] at h; cases h; rw [hs]; rfl, Below.refl _ _⟩
end Go.Proofs.YtacokkedomjgpaaGreatDoor

namespace Go.Proofs.YtacokkedomjgpaaGreatDoor
open Go.RowKit
section
variable {P : Program} {W : Wd} {ops : Array Oper} {s0 s1 : List SV} {z : List Blk} {y : List (Array Value)} {o : Oper}
theorem k_cn (f : FuncId) {args : Array Operand} {tys : Array TypeId} (vs : Array Value) {d : Tmp} (b : Nat) (fm : Fm) {c : Array Value} {t0 : TypeId} (hc : ∀ w, KW W w → Calls P f vs w fun e w' => ∃ q, e = .returned (fv fm q) ∧ w.heap.size ≤ q ∧ w'.heap[q]? = some (.cells c t0 (0, 0)) ∧ Below w.heap.size w w') (ho : o.op = .call { callee := .value (.func f), args := args, argTypes := tys }) (hd : o.dst = some d)
    (hw : wantF ops s1 o = true := by kernel_rfl) (hs : slot s1 d = .inr (b, fm) := by kernel_rfl) (hz : zc z b = (c, t0) := by kernel_rfl) (hv : args.map (evS s1) = vs := by kernel_rfl) (hp : args.all (plainB s1) = true := by kernel_rfl) (he : ∀ w, (callFunc f vs).run P w = .ok (.enter f vs) w := by intro w; kernel_rfl) : Ok1 P W ops s0 s1 z y o ⟨some b, none, none, false⟩ := by
  refine Or.inl ⟨hw, ⟨?_, fun b' h => ?_, fun b _ h => by simp at h, ?_⟩⟩
  · rintro b' (h | h | ⟨h, _⟩) <;> simp at h
  · cases h; exact ⟨d, _, hd, hs⟩
  · intro β a w ha hb hr hns K Q hK
    have hmap : args.map a.eval = vs := by
      rw [← hv]
      apply Array.map_congr_left
      intro x hx
      refine ev_plain ha ?_ (Array.all_eq_true_iff_forall_mem.1 hp x hx)
      rw [ho]; simp [Op.operands, Call.operands, hx]
    have hev : a.eval (.func f) = .func (.func f) #[] #[] := rfl
    unfold Oper.wp execOp
    simp only [ho, resolve, invoke, Sem.run_bind, hmap, hev, Deferred.ofValue, Sem.run_pure, Result.andThen_ok, Array.append_empty, Array.empty_append, he, Oper.upon_enter]
    refine (hc w hb).mono ?_
    rintro e w' ⟨q, rfl, hq, hrow, hbl⟩
    exact hK _ _ ⟨q, hq, fun d' fm' h1 h2 => by rw [hd] at h1; cases h1; rw [hs] at h2; cases h2; rfl, by rw [hz]; exact hrow, hbl⟩
end
section
variable {P : Program} {W : Wd} {s : List SV} {d : List (Nat × SV)} {m : List Blk} {β : Nat → Nat} {a : Act} {w : World} {Q : Exit → Act → World → Prop}
theorem tm_put {t : Nat} {sv : SV} {v : Value} (hv : den β sv = v) : ({ tmps := ((ov s d).map (den β)).toArray, defers := [] } : Act).put (some t) v = { tmps := ((ov s ((t, sv) :: d)).map (den β)).toArray, defers := [] } := by
  unfold Act.put
  simp only [Act.mk.injEq, and_true]
  apply Array.ext_getElem?
  intro i
  rw [Array.getElem?_setIfInBounds]
  simp only [List.size_toArray, List.getElem?_toArray, List.getElem?_map, List.length_map, ov_len]
  rcases Nat.lt_or_ge i s.length with hi | hi
  · have e1 : ∀ d : List (Nat × SV), (ov s d)[i]? = some (lk d i s) := fun d => by simp [ov, hi]
    rw [e1, e1]
    simp only [Option.map_some]
    by_cases e : t = i
    · subst e
      rw [if_pos rfl, if_pos hi, ← hv]
      show _ = some (den β (bif Nat.beq t t then sv else _))
      rw [Nat.beq_refl]; rfl
    · rw [if_neg e]
      show _ = some (den β (bif Nat.beq t i then sv else lk d i s))
      rw [show Nat.beq t i = false from by
        cases hb : Nat.beq t i with
        | false => rfl
        | true => exact absurd (Nat.beq_eq.mp hb) e]
      rfl
  · have e1 : ∀ d : List (Nat × SV), (ov s d)[i]? = none := fun d => by rw [List.getElem?_eq_none]; rw [ov_len]; exact hi
    rw [e1, e1]
    by_cases e : t = i
    · subst e
      rw [if_pos rfl, if_neg (by omega)]; rfl
    · rw [if_neg e]
theorem bup_new (β : Nat → Nat) (n q : Nat) : bup β n q n = q := by unfold bup; rw [Nat.beq_refl]; rfl
theorem bup_old (β : Nat → Nat) {n q b : Nat} (h : b < n) : bup β n q b = β b := by
  unfold bup
  rw [show Nat.beq b n = false from by
    cases e : Nat.beq b n with
    | false => rfl
    | true => have := Nat.beq_eq.mp e; omega]
  rfl
theorem St.grown (h : St W (ov s d) m β a w) {q : Nat} {c : Array Value} {t0 : TypeId} {w' : World} (hq : w.heap.size ≤ q) (hr : w'.heap[q]? = some (.cells c t0 (0, 0))) (hb : Below w.heap.size w w') : St W (ov s d) (m ++ [(c, t0)]) (bup β m.length q) { tmps := ((ov s d).map (den (bup β m.length q))).toArray, defers := [] } w' ∧ a = { tmps := ((ov s d).map (den (bup β m.length q))).toArray, defers := [] } := by
  have hlt : ∀ b, b < m.length → β b < w.heap.size := by
    intro b hb
    obtain ⟨x, hx⟩ : ∃ x, m[b]? = some x := ⟨_, List.getElem?_eq_getElem hb⟩
    exact (Array.getElem?_eq_some_iff.1 (h.row b x hx)).1
  have hS : ∀ k, W.S k → k < w.heap.size := fun k hk => Nat.lt_of_lt_of_le (W.lt k hk) h.bel.size
  refine ⟨⟨rfl, h.bel.quiet hb, ?_, ?_, ?_, ?_, ?_⟩, ?_⟩
  · intro b c' hc
    rcases Nat.lt_or_ge b m.length with hb' | hb'
    · rw [List.getElem?_append_left hb'] at hc
      rw [bup_old β hb', hb.block _ (hlt b hb')]
      exact h.row b c' hc
    · have hb2 : b < (m ++ [(c, t0)]).length := (List.getElem?_eq_some_iff.1 hc).1
      obtain rfl : b = m.length := by simp at hb2; omega
      rw [List.getElem?_append_right (Nat.le_refl _), Nat.sub_self] at hc
      cases hc
      rw [bup_new]; exact hr
  · intro b hb'
    rcases Nat.lt_or_ge b m.length with h1 | h1
    · rw [bup_old β h1]; exact h.old b h1
    · obtain rfl : b = m.length := by simp at hb'; omega
      rw [bup_new]
      intro hs
      have := hS _ hs
      omega
  · intro b c' hb' hc e
    rcases Nat.lt_or_ge b m.length with h1 | h1 <;> rcases Nat.lt_or_ge c' m.length with h2 | h2
    · rw [bup_old β h1, bup_old β h2] at e; exact h.inj b c' h1 h2 e
    · obtain rfl : c' = m.length := by simp at hc; omega
      rw [bup_old β h1, bup_new] at e
      have := hlt b h1; omega
    · obtain rfl : b = m.length := by simp at hb'; omega
      rw [bup_old β h2, bup_new] at e
      have := hlt c' h2; omega
    · simp at hb' hc; omega
  · intro t p h1 h2
    have := h.live t p h1 h2
    simp; omega
  · intro b r hb'
    have := h.pin b r hb'
    exact ⟨by simp; omega, by rw [bup_old β this.1]; exact this.2⟩
  · rw [h.tm]
    simp only [Act.mk.injEq, and_true]
    congr 1
    apply List.map_congr_left
    intro x hx
    cases x with
    | inl v => rfl
    | inr p =>
      obtain ⟨t, ht, e⟩ := List.getElem_of_mem hx
      have hs : slot (ov s d) t = .inr p := by unfold slot; rw [List.getD_eq_getElem?_getD, List.getElem?_eq_getElem ht, e]; rfl
      have := h.live t p ht hs
      show fv p.2 (β p.1) = fv p.2 (bup β m.length q p.1)
      rw [bup_old β this]
theorem St.putr (h : St W (ov s d) m β a w) (t b : Nat) (fm : Fm) (hb : b < m.length) : St W (ov s ((t, .inr (b, fm)) :: d)) m β (a.put (some t) (fv fm (β b))) w := by
  refine ⟨?_, h.bel, h.row, h.old, h.inj, ?_, h.pin⟩
  · rw [h.tm]; exact tm_put rfl
  · intro i p hi hs
    rw [ov_len] at hi
    rw [slot_ov hi] at hs
    have hs : (bif Nat.beq t i then .inr (b, fm) else lk d i s) = Sum.inr p := hs
    cases hbq : Nat.beq t i with
    | true => rw [hbq] at hs; cases hs; exact hb
    | false => rw [hbq] at hs; exact h.live i p (by rw [ov_len]; exact hi) (by rw [slot_ov hi]; exact hs)
theorem St.putl (h : St W (ov s d) m β a w) (t : Nat) (v : Value) : St W (ov s ((t, .inl v) :: d)) m β (a.put (some t) v) w := by
  refine ⟨?_, h.bel, h.row, h.old, h.inj, ?_, h.pin⟩
  · rw [h.tm]; exact tm_put rfl
  · intro i p hi hs
    rw [ov_len] at hi
    rw [slot_ov hi] at hs
    have hs : (bif Nat.beq t i then .inl v else lk d i s) = Sum.inr p := hs
    cases hbq : Nat.beq t i with
    | true => rw [hbq] at hs; cases hs
    | false => rw [hbq] at hs; exact h.live i p (by rw [ov_len]; exact hi) (by rw [slot_ov hi]; exact hs)
theorem St.ev (h : St W (ov s d) m β a w) {t : Nat} {v : Value} (ht : Nat.blt t s.length = true) (hs : lk d t s = .inl v) : a.eval (.tmp t) = v := by
  have ht := Nat.le_of_ble_eq_true ht
  rw [h.tm]
  simp only [Act.eval]
  rw [Array.getD_eq_getD_getElem?, List.getElem?_toArray, List.getElem?_map]
  have e1 : (ov s d)[t]? = some (lk d t s) := by simp [ov, show t < s.length from ht]
  rw [e1, hs]; rfl
theorem reg_c3 {id : Nat} {o0 o1 o2 : Oper} {t0 d0 d1 d2 : Nat} {f : FuncId} {xs : Array Value} {tys : Array TypeId} {args : Array Operand} (h : St W (ov s d) m β a w) (v0 : Value) (ty : TypeId) (J : Array Value → Nat → Nat → Prop)
    (hc : Calls P f xs w fun e w' => ∃ c q len cap, e = .returned (.slice (some ⟨q, 0, none⟩) len cap) ∧ w.heap.size ≤ q ∧ w'.heap[q]? = some (.cells c ty (0, 0)) ∧ Below w.heap.size w w' ∧ J c len cap)
    (k : ∀ c len cap β a w, J c len cap → St W (ov s ((d2, .inr (m.length, sl 0 len cap)) :: (d1, .inr (m.length, sl 0 len cap)) :: (d0, .inl v0) :: d)) (m ++ [(c, ty)]) β a w → Q .normal a w)
    (p0 : o0.op = .move (.tmp t0)) (g0 : o0.guard = none) (e0 : o0.dst = some d0) (p1 : o1.op = .call { callee := .value (.func f), args := args, argTypes := tys }) (g1 : o1.guard = none) (e1 : o1.dst = some d1) (p2 : o2.op = .assign (.tmp d1)) (g2 : o2.guard = none) (e2 : o2.dst = some d2)
    (ht : Nat.blt t0 s.length = true := by kernel_rfl) (hv : lk d t0 s = .inl v0 := by kernel_rfl) (ht1 : Nat.blt d1 s.length = true := by kernel_rfl)
    (hxs : ∀ a' : Act, a'.eval (.tmp d0) = v0 → args.map a'.eval = xs) (ht0 : Nat.blt d0 s.length = true := by kernel_rfl) (he : ∀ w, (callFunc f xs).run P w = .ok (.enter f xs) w := by intro w; kernel_rfl) : (Code.region id [o0, o1, o2].toArray false).wp P Q a w := by
  refine wp_region_lit ?_
  refine wpList_plain g0 fun K hK => ?_
  unfold Oper.wp
  simp only [execOp, p0, h.ev ht hv, e0, Sem.run_pure, Oper.upon_value]
  refine hK _ _ ?_
  have h1 := h.putl d0 v0
  refine wpList_plain g1 fun K hK => ?_
  have hmap := hxs _ (h1.ev (t := d0) (v := v0) ht0 (by show (bif Nat.beq d0 d0 then _ else _) = _; rw [Nat.beq_refl]; rfl))
  have hev : ∀ a : Act, a.eval (.func f) = .func (.func f) #[] #[] := fun _ => rfl
  unfold Oper.wp execOp
  simp only [p1, resolve, invoke, Sem.run_bind, hmap, hev, Deferred.ofValue, Sem.run_pure, Result.andThen_ok, Array.append_empty, Array.empty_append, he, Oper.upon_enter]
  refine hc.mono ?_
  rintro e w' ⟨c, q, len, cap, rfl, hq, hr, hb, hJ⟩
  refine hK _ _ ?_
  obtain ⟨h2, ea⟩ := h1.grown hq hr hb
  rw [ea, e1]
  have h3 := h2.putr d1 m.length (sl 0 len cap) (by simp)
  rw [bup_new] at h3
  have h3 : St W _ _ _ (Act.put _ (some d1) (.slice (some ⟨q, 0, none⟩) len cap)) w' := h3
  refine wpList_plain g2 fun K hK => ?_
  have hv2 : (Act.put { tmps := ((ov s ((d0, .inl v0) :: d)).map (den (bup β m.length q))).toArray, defers := [] } (some d1) (.slice (some ⟨q, 0, none⟩) len cap)).eval (.tmp d1) = .slice (some ⟨q, 0, none⟩) len cap := by
    rw [h3.tm]
    simp only [Act.eval]
    rw [Array.getD_eq_getD_getElem?, List.getElem?_toArray, List.getElem?_map]
    have ht1 := Nat.le_of_ble_eq_true ht1
    have e1 : ∀ d : List (Nat × SV), (ov s d)[d1]? = some (lk d d1 s) := fun d => by simp [ov, show d1 < s.length from ht1]
    rw [e1]
    show den _ (bif Nat.beq d1 d1 then Sum.inr (m.length, sl 0 len cap) else _) = _
    rw [Nat.beq_refl, cond_true]
    show fv (sl 0 len cap) (bup β m.length q m.length) = _
    rw [bup_new]; rfl
  unfold Oper.wp
  simp only [execOp, p2, hv2, e2, Sem.run_pure, Oper.upon_value]
  refine hK _ _ (wpList_nil ?_)
  have h4 := h3.putr d2 m.length (sl 0 len cap) (by simp)
  rw [bup_new] at h4
  exact k c len cap _ _ _ hJ h4
theorem St.jd {n : Nat} (h : St W (ov s d) m β a w) (idx : List Nat) (vals : List SV) (m' : List Blk) (hm : m.take m'.length = m') (hl : liveB vals m'.length = true) (e : idx.map (fun i => lk d i s) = vals) (hn : Nat.beq s.length n = true) (hpn : ∀ b q, W.pn b = some q → b < m'.length) : ∃ x, St W (ov (jk n x) (idx.zip vals)) m' β a w := by
  subst e
  have hn := Nat.beq_eq.mp hn
  let g : SV → SV := fun v => match v with
    | .inl v => .inl v
    | .inr p => bif Nat.blt p.1 m'.length then .inr p else .inl (fv p.2 (β p.1))
  have hg : ∀ v, den β (g v) = den β v := by
    intro v
    cases v with
    | inl v => rfl
    | inr p => show den β (bif Nat.blt p.1 m'.length then _ else _) = _; cases Nat.blt p.1 m'.length <;> rfl
  have hgl : ∀ v p, g v = .inr p → p.1 < m'.length := by
    intro v p hv
    cases v with
    | inl v => cases hv
    | inr r =>
      have hv : (bif Nat.blt r.1 m'.length then Sum.inr r else .inl (fv r.2 (β r.1))) = (Sum.inr p : SV) := hv
      cases hb : Nat.blt r.1 m'.length with
      | true => rw [hb] at hv; cases hv; exact Nat.le_of_ble_eq_true hb
      | false => rw [hb] at hv; cases hv
  have hfix : ∀ i ∈ idx, g (lk d i s) = lk d i s := by
    intro i hi
    have h1 := List.all_eq_true.1 hl (lk d i s) (List.mem_map.2 ⟨i, hi, rfl⟩)
    cases hv : lk d i s with
    | inl v => rfl
    | inr p =>
      rw [hv] at h1
      show (bif Nat.blt p.1 m'.length then _ else _) = _
      rw [show Nat.blt p.1 m'.length = true from h1]; rfl
  have hmap : idx.map (fun i => lk d i s) = idx.map (fun i => g (lk d i s)) := List.map_congr_left fun i hi => (hfix i hi).symm
  refine ⟨fun t => g (lk d t s), ?_⟩
  rw [hmap]
  have e : ov (jk n fun t => g (lk d t s)) (idx.zip (idx.map fun i => g (lk d i s))) = (ov s d).map g := by
    have hl : (jk n fun t => g (lk d t s)).length = s.length := by simp [jk, hn]
    unfold ov
    rw [hl, List.map_map]
    refine List.map_congr_left fun t ht => ?_
    refine lk_zip (fun t => g (lk d t s)) t ?_ idx
    have ht : t < n := by rw [← hn]; simpa using ht
    simp [slot, jk, ht]
  rw [e]
  have hlen : m'.length ≤ m.length := by
    have := congrArg List.length hm
    rw [List.length_take] at this
    omega
  have hget : ∀ (b : Nat) (c : Blk), m'[b]? = some c → m[b]? = some c := by
    intro b c hc
    rw [← hm] at hc
    rw [List.getElem?_take] at hc
    split at hc
    · exact hc
    · cases hc
  refine ⟨?_, h.bel, fun b c hc => h.row b c (hget b c hc), fun b hb => h.old b (by omega), fun b c hb hc => h.inj b c (by omega) (by omega), ?_, fun b q hb => ⟨hpn b q hb, (h.pin b q hb).2⟩⟩
  · rw [h.tm, List.map_map]
    congr 2
    exact List.map_congr_left fun x _ => (hg x).symm
  · intro t p ht hs
    have hmem : slot ((ov s d).map g) t ∈ (ov s d).map g := by
      unfold slot
      rw [List.getD_eq_getElem?_getD, List.getElem?_eq_getElem ht]
      exact List.getElem_mem ht
    rw [hs] at hmem
    obtain ⟨v, _, hv⟩ := List.mem_map.1 hmem
    exact hgl v p hv
end
end Go.Proofs.YtacokkedomjgpaaGreatDoor

namespace Go.Proofs.YtacokkedomjgpaaGreatDoor
open Go.RowKit

theorem ld_row {P : Program} {t t0 : TypeId} {c : Array Value} {d : TypeDesc} (hu : P.underlying t = some d) (hd : (match d with | .struct _ | .array _ _ => true | _ => false) = true) (hi : (P.info? t).map (·.size) = some c.size)
    (w : World) (q : Nat) (hrow : w.heap[q]? = some (.cells c t0 (0, 0))) : (Instr.loadAt t (.pointer (some ⟨q, 0, none⟩))).run P w = .ok (.agg c) w := by
  have hr := run_loadVar_row (P := P) w q t0 t c (0, 0) _ hrow hu hd hi
  simp only [Instr.loadAt, Instr.sureAddr, Sem.run_bind, Sem.run_pure, Result.andThen_ok, hr]
theorem st_row {P : Program} {t t0 : TypeId} {c n : Array Value} (hi : (P.info? t).map (·.size) = some n.size) (hsz : c.size = n.size) (h1 : n.all (·.oneCell') = true)
    (w : World) (q : Nat) (hrow : w.heap[q]? = some (.cells c t0 (0, 0))) : (Instr.storeAt t (.pointer (some ⟨q, 0, none⟩)) (.agg n)).run P w = .ok () (w.setRow q n) := by
  have hr := run_storeVar_row (P := P) w q t0 t c n hrow hi hsz h1
  simp only [Instr.storeAt, Instr.sureAddr, Sem.run_bind, Sem.run_pure, Result.andThen_ok, hr]
theorem bx_agg {P : Program} {t : TypeId} {c : Array Value} (w : World) : (Instr.box t (.agg c)).run P w = .ok (.pointer (some ⟨w.heap.size, 0, none⟩)) (w.alloc (.cells c t)) := by
  simp [Instr.box, go_sem]

def ck (b : Nat → Nat) : Array Value := arr 32 fun i => .int .u8 (b i)
theorem ck_size (b : Nat → Nat) : (ck b).size = 32 := arr_size _ _
theorem ldK {b : Nat → Nat} (t0 : TypeId) (w : World) (q : Nat) (h : w.heap[q]? = some (.cells (ck b) t0 (0, 0))) : (Instr.loadAt 23 (.pointer (some ⟨q, 0, none⟩))).run Tryz.prog w = .ok (.agg (ck b)) w :=
  ld_row (c := ck b) Tryz.underlying23 rfl (by rw [ck_size]; kernel_rfl) w q h
theorem bxK {b : Nat → Nat} (w : World) : (Instr.box 23 (.agg (ck b))).run Tryz.prog w = .ok (.pointer (some ⟨w.heap.size, 0, none⟩)) (w.alloc (.cells (ck b) 23)) := bx_agg w

theorem sym_then {P : Program} {w : World} {a : Act} {Q : Exit → Act → World → Prop} {y : Code} (h : y.wp P Q a w) : Exit.then (y.wp P Q) Q .normal a w := h

section
variable {H : Type} {enc : TypeId × Value → H} {P : Program} {w : World} {base : Nat} {spare : Nat → Bool} {held : Bool}
theorem open_key {r : Reach} {b0 : Nat} {t e : TypeId} {v : Value} {d : DataW H} {p : List MemPlace} (ht : P.underlying t = some (.array 32 e)) (he : P.underlying e = some (.int .u8)) (hce : P.cellsOf e = 1) (hct : P.cellsOf t = 32)
    (hv : Value.okWide P w r b0 t v) (h : DataW.Trod enc P w base spare held t v d p) : ∃ b : Nat → Nat, (∀ i, b i < 256) ∧ v = .agg (ck b) := by
  unfold Value.okWide at hv
  rw [ht] at hv
  obtain ⟨cs, rfl, -, -⟩ := hv
  obtain ⟨fuel, h⟩ := h
  obtain ⟨xs, m, rfl, -, hl, hx, hi⟩ := DataW.trod_array ht h
  have hcell : ∀ i, i < 32 → ∃ n : Nat, n < 256 ∧ cs[i]? = some (.int .u8 (n : Int)) := by
    intro i hi32
    have h1 := hi i hi32
    have h2 : xs[i]? = some xs[i] := by simp [hx, hi32]
    rw [h2, hce, Nat.mul_one] at h1
    obtain ⟨n, hc, -, hw⟩ := DataW.trod_int he h1
    have h3 : cs[i]? = some (.int .u8 n) := by
      have := congrArg (·[0]?) hc
      simpa [List.getElem?_take, List.getElem?_drop, Value.cells] using this
    simp only [Lit.wf, Bool.and_eq_true, decide_eq_true_eq] at hw
    have e1 : IntKind.u8.min = 0 := rfl
    have e2 : IntKind.u8.max = 255 := rfl
    refine ⟨n.toNat, by omega, ?_⟩
    rw [h3, show ((n.toNat : Nat) : Int) = n by omega]
  have hsz : cs.size = 32 := by
    have h7 : cs.toList.length = P.cellsOf t := by simpa [Value.cells] using hl
    simp at h7; omega
  refine ⟨fun i => (match cs[i]? with
    | some (.int _ n) => n.toNat % 256
    | _ => 0), fun i => ?_, ?_⟩
  · dsimp only
    split
    · exact Nat.mod_lt _ (by omega)
    · omega
  · refine congrArg Value.agg ?_
    apply Array.ext_getElem?
    intro i
    by_cases hi32 : i < 32
    · obtain ⟨n, hn, hc⟩ := hcell i hi32
      unfold ck
      rw [arr_get _ _ _ hi32, hc]
      simp only [hc, Int.toNat_natCast, Nat.mod_eq_of_lt hn]
    · rw [Array.getElem?_eq_none (by omega), Array.getElem?_eq_none (by rw [ck_size]; omega)]
end
end Go.Proofs.YtacokkedomjgpaaGreatDoor

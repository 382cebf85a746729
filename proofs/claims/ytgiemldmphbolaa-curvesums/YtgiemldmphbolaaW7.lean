/- A statement whose operations come up in an order that is drawn: an invariant over what has come up serves every order; each operation is looked at once. -/
import Derived.Test.YtgiemldmphbolaaW6
import Derived.Orders
namespace Go.Proofs.Ytgiemldmphbolaa
open Go.RowKit
variable {P : Program} {ops : Array Oper} {Q : Exit → Act → World → Prop}

theorem left_set : ∀ (l : List Bool) (j : Nat), l[j]? = some false → ((l.set j true).filter (!·)).length + 1 = (l.filter (!·)).length
  | [], j, h => by simp at h
  | b :: l, 0, h => by
    simp only [List.getElem?_cons_zero, Option.some.injEq] at h
    subst h
    simp
  | b :: l, j + 1, h => by
    simp only [List.getElem?_cons_succ] at h
    have := left_set l j h
    cases b <;> simp at this ⊢ <;> omega

theorem all_listed {l : Array Bool} (hsz : l.size = ops.size) (hacyc : ∀ i o, ops[i]? = some o → ∀ e ∈ o.after, Region.binds .any e = true → e.on < i) (hr : Region.ready .any ops l = []) : ∀ i, i < ops.size → l.getD i false = true := by
  intro i
  induction i using Nat.strongRecOn with
  | _ i ih =>
    intro hi
    by_cases h : l.getD i false = true
    · exact h
    · exfalso
      have hm : i ∈ Region.ready .any ops l := by
        rw [mem_ready]
        refine ⟨?_, ops[i], by simp [hi], fun e he hb => ?_⟩
        · have hl : i < l.size := by omega
          simp [Array.getD, hl] at h ⊢
          exact h
        · have := hacyc i ops[i] (by simp [hi]) e he hb
          exact ih e.on this (by omega)
      rw [hr] at hm
      simp at hm

theorem wpAny_inv (hacyc : ∀ i o, ops[i]? = some o → ∀ e ∈ o.after, Region.binds .any e = true → e.on < i) (Inv : (Nat → Bool) → Act → World → Prop)
    (hstep : ∀ D a w, Inv D a w → ∀ i o, ops[i]? = some o → D i = false → (∀ e ∈ o.after, Region.binds .any e = true → D e.on = true) → ∀ K : Act → World → Prop,
      (∀ a' w', Inv (fun j => if j = i then true else D j) a' w' → K a' w') → Region.wanted o (yielded ops a.tmps) = true ∧ o.wp P a w K Q)
    (hend : ∀ D a w, Inv D a w → (∀ i, i < ops.size → D i = true) → Q .normal a w) :
    ∀ (fuel : Nat) (l : Array Bool) (a : Act) (w : World), l.size = ops.size → (l.toList.filter (!·)).length ≤ fuel → Inv (fun i => l.getD i false) a w → wpAny P .any ops Q fuel l a w
  | 0, l, a, w, hsz, hf, hi => by
    have hr : Region.ready .any ops l = [] := by
      rw [List.eq_nil_iff_forall_not_mem]
      intro j hj
      obtain ⟨h1, o, ho, _⟩ := mem_ready.1 hj
      have hjl : j < l.size := by rw [hsz]; exact (Array.getElem?_eq_some_iff.1 ho).1
      have h2 : l.toList[j]? = some false := by simp [Array.getD, hjl] at h1 ⊢; exact h1
      have := left_set l.toList j h2
      omega
    exact ⟨hr, hend _ _ _ hi (all_listed hsz hacyc hr)⟩
  | fuel + 1, l, a, w, hsz, hf, hi => by
    refine ⟨fun hr => hend _ _ _ hi (all_listed hsz hacyc hr), fun j hj => ?_⟩
    obtain ⟨h1, o, ho, hdep⟩ := mem_ready.1 hj
    have hjl : j < l.size := by rw [hsz]; exact (Array.getElem?_eq_some_iff.1 ho).1
    have h2 : l.toList[j]? = some false := by simp [Array.getD, hjl] at h1 ⊢; exact h1
    have h3 : l.getD j false = false := by simp [Array.getD, hjl] at h1 ⊢; exact h1
    have h4 := left_set l.toList j h2
    obtain ⟨hw, hk⟩ := hstep _ a w hi j o ho h3 hdep (wpAny P .any ops Q fuel (l.setIfInBounds j true)) (fun a' w' h => by
      refine wpAny_inv hacyc Inv hstep hend fuel (l.setIfInBounds j true) a' w' (by simp [hsz]) (by simp; omega) ?_
      have e : (fun i => (l.setIfInBounds j true).getD i false) = (fun i => if i = j then true else l.getD i false) := by
        funext i
        by_cases h : i = j
        · subst h; simp [Array.getD, hjl]
        · have h' : ¬ j = i := fun x => h x.symm
          by_cases hil : i < l.size
          · simp [Array.getD, hil, h, h']
          · simp [Array.getD, hil, h]
      rw [e]; exact h)
    unfold wpOp
    simp only [ho, hw, if_true]
    exact Or.inl hk

/-- The region, whatever the order. -/
theorem wp_region_inv {id : Nat} {a : Act} {w : World} (hm : P.follows .mixedOrders = true) (hacyc : ∀ i o, ops[i]? = some o → ∀ e ∈ o.after, Region.binds .any e = true → e.on < i) (Inv : (Nat → Bool) → Act → World → Prop)
    (h0 : Inv (fun _ => false) a w.drew)
    (hstep : ∀ D a w, Inv D a w → ∀ i o, ops[i]? = some o → D i = false → (∀ e ∈ o.after, Region.binds .any e = true → D e.on = true) → ∀ K : Act → World → Prop,
      (∀ a' w', Inv (fun j => if j = i then true else D j) a' w' → K a' w') → Region.wanted o (yielded ops a.tmps) = true ∧ o.wp P a w K Q)
    (hend : ∀ D a w, Inv D a w → (∀ i, i < ops.size → D i = true) → Q .normal a w) : (Code.region id ops true).wp P Q a w := by
  refine wp_region_any hm (wpAny_inv hacyc Inv hstep hend ops.size _ a _ (by simp) ?_ ?_)
  · exact Nat.le_trans (List.length_filter_le _ _) (by simp)
  · have e : (fun i => (Array.replicate ops.size false).getD i false) = (fun _ => false) := by
      funext i
      by_cases h : i < ops.size <;> simp [Array.getD, h]
    rw [e]; exact h0

/-- What one operation does: a whole struct or array is loaded; a block is made; a whole one is stored. -/
theorem oper_load {u : World} {o : Oper} {a : Act} {K : Act → World → Prop} (t : TypeId) (p : Operand) (ho : o.op = .load t p) (b : Nat) (c : Array Value) (t0 : TypeId) {d : TypeDesc} (hp : a.eval p = .pointer (some ⟨b, 0, none⟩))
    (hu : P.underlying t = some d) (hd : (match d with | .struct _ | .array _ _ => true | _ => false) = true) (hi : (P.info? t).map (·.size) = some c.size) (hrow : u.heap[b]? = some (.cells c t0 (0, 0))) (h : K (a.put o.dst (.agg c)) u) : o.wp P a u K Q := by
  have hr := run_loadVar_row (P := P) u b t0 t c (0, 0) _ hrow hu hd hi
  unfold Oper.wp execOp
  simp only [ho, Instr.loadAt, Instr.sureAddr, Sem.run_bind, Sem.run_pure, Result.andThen_ok, hp, hr]
  exact h
theorem oper_store {u : World} {o : Oper} {a : Act} {K : Act → World → Prop} (t : TypeId) (p q : Operand) (ho : o.op = .store t p q) (b : Nat) (c old : Array Value) (t0 : TypeId) (hp : a.eval p = .pointer (some ⟨b, 0, none⟩)) (hq : a.eval q = .agg c)
    (hi : (P.info? t).map (·.size) = some c.size) (hrow : u.heap[b]? = some (.cells old t0 (0, 0))) (hsz : old.size = c.size) (h1 : c.all (·.oneCell') = true) (h : K (a.put o.dst undef) (u.setRow b c)) : o.wp P a u K Q := by
  have hr := run_storeVar_row (P := P) u b t0 t old c hrow hi hsz h1
  unfold Oper.wp execOp
  simp only [ho, Instr.storeAt, Instr.sureAddr, Sem.run_bind, Sem.run_pure, Result.andThen_ok, hp, hq, hr]
  exact h
theorem oper_call {u : World} {o : Oper} {a : Act} {K : Act → World → Prop} (f : FuncId) (args : Array Operand) (tys : Array TypeId) (ho : o.op = .call { callee := .value (.func f), args := args, argTypes := tys }) (vs : Array Value) (hv : args.map a.eval = vs)
    (he : ∀ w, (callFunc f vs).run P w = .ok (.enter f vs) w) {R : Value} (hc : Calls P f vs u fun e w' => e = .returned R ∧ Below u.heap.size u w') (h : ∀ w', Below u.heap.size u w' → K (a.put o.dst R) w') : o.wp P a u K Q := by
  unfold Oper.wp execOp
  have hev : a.eval (.func f) = .func (.func f) #[] #[] := rfl
  simp only [ho, resolve, invoke, Sem.run_bind, hv, hev, Deferred.ofValue, Sem.run_pure, Result.andThen_ok, Array.append_empty, Array.empty_append, he, Oper.upon_enter]
  exact hc.mono (by rintro e w' ⟨rfl, hb⟩; exact h w' hb)
theorem oper_alloc {u u' : World} {o : Oper} {a : Act} {K : Act → World → Prop} (t : TypeId) (ho : o.op = .alloc t) (v : Value) (hal : (Instr.alloc t true (.tuple #[])).run P u = .ok v u') (h : K (a.put o.dst v) u') : o.wp P a u K Q := by
  unfold Oper.wp execOp
  simp only [ho, Sem.run_bind, hal, Result.andThen_ok, Sem.run_pure, Oper.upon_value]
  exact h

/-- No operation waits for a later one. -/
def acycB (ops : Array Oper) : Bool := (List.range ops.size).all fun i => match ops[i]? with
  | none => true
  | some o => o.after.all fun e => !Region.binds .any e || decide (e.on < i)
theorem acyc_of (h : acycB ops = true) : ∀ i o, ops[i]? = some o → ∀ e ∈ o.after, Region.binds .any e = true → e.on < i := by
  intro i o ho e he hb
  have hi : i < ops.size := (Array.getElem?_eq_some_iff.1 ho).1
  have h1 := List.all_eq_true.1 h i (by simp [hi])
  simp only [ho] at h1
  have h2 := Array.all_eq_true_iff_forall_mem.1 h1 e he
  simpa [hb] using h2
end Go.Proofs.Ytgiemldmphbolaa

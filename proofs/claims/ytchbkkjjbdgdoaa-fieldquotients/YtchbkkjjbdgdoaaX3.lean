/- A body of statements whose orders are drawn: each kind of operation; entering and leaving. -/
import Derived.Test.YtchbkkjjbdgdoaaX2
namespace Go.Proofs.Ytchbkkjjbdgdoaa
open Go.RowKit

def evS (s : List SV) : Operand → Value
  | .tmp t => (match slot s t with
    | .inl v => v
    | .inr _ => undef)
  | .const v => v
  | .global g => .pointer (some ⟨g, 0, none⟩)
  | .func f => .func (.func f) #[] #[]
def plainB (s : List SV) : Operand → Bool
  | .tmp t => (match slot s t with
    | .inl _ => true
    | .inr _ => false)
  | _ => true

section
variable {P : Program} {W : World} {ops : Array Oper} {s0 s1 : List SV} {z : List Blk} {y : List (Array Value)} {o : Oper}

theorem ok_cons {r : List Oper} {e : Eff} {es : List Eff} (h : Ok1 P W ops s0 s1 z y o e) (hr : AllOK P W ops s0 s1 z y r es) : AllOK P W ops s0 s1 z y (o :: r) (e :: es) := ⟨h, hr⟩
theorem ok_nil {es : List Eff} : AllOK P W ops s0 s1 z y [] es := trivial

theorem mem_tmps {t : Tmp} (h : Operand.tmp t ∈ o.op.operands) : t ∈ tmpsOf o := by
  unfold tmpsOf
  exact List.mem_filterMap.2 ⟨.tmp t, by simpa using h, rfl⟩

theorem ev_plain {a : Act} {β : Nat → Nat} (h : ∀ t ∈ tmpsOf o, a.eval (.tmp t) = den β (slot s1 t)) {x : Operand} (hx : x ∈ o.op.operands) (hp : plainB s1 x = true) : a.eval x = evS s1 x := by
  cases x with
  | tmp t =>
    rw [h t (mem_tmps hx)]
    simp only [plainB] at hp
    simp only [evS]
    cases hs : slot s1 t with
    | inl v => rfl
    | inr p => simp [hs] at hp
  | const v => rfl
  | global g => rfl
  | func f => rfl

theorem ok_skip (hw : wantF ops s1 o = false) {d : Tmp} (hd : o.dst = some d) (hs : slot s1 d = .inl undef) : Ok1 P W ops s0 s1 z y o ⟨none, none, none, false⟩ :=
  Or.inr ⟨hw, rfl, fun d' h => by rw [hd] at h; cases h; exact hs⟩

theorem ok_quiet {v : Value} (hw : wantF ops s1 o = true) {d : Tmp} (hd : o.dst = some d) (hs : slot s1 d = .inl v)
    (hrun : ∀ (β : Nat → Nat) (a : Act) (w : World), (∀ t ∈ tmpsOf o, a.eval (.tmp t) = den β (slot s1 t)) → ∀ (K : Act → World → Prop) (Q : Exit → Act → World → Prop), (∀ w', Below w.heap.size w w' → K (a.put o.dst v) w') → o.wp P a w K Q) :
    Ok1 P W ops s0 s1 z y o ⟨none, none, none, false⟩ := by
  refine Or.inl ⟨hw, ⟨?_, fun b h => by simp at h, fun b _ h => by simp at h, ?_⟩⟩
  · rintro b (h | h | ⟨_, d', off, h1, h2⟩)
    · simp at h
    · simp at h
    · rw [hd] at h1; cases h1; rw [hs] at h2; cases h2
  · intro β a w ha hb hr K Q hK
    refine hrun β a w ha K Q (fun w' hw' => hK v w' ?_)
    exact ⟨fun d' h => by rw [hd] at h; cases h; rw [hs]; rfl, hw'⟩

theorem ok_val {v : Value} (hw : wantF ops s1 o = true) {d : Tmp} (hd : o.dst = some d) (hs : slot s1 d = .inl v)
    (hrun : ∀ (β : Nat → Nat) (a : Act) (w : World), (∀ t ∈ tmpsOf o, a.eval (.tmp t) = den β (slot s1 t)) → (execOp a.eval o).run P w = .ok (.value v) w) : Ok1 P W ops s0 s1 z y o ⟨none, none, none, false⟩ := by
  refine ok_quiet hw hd hs (fun β a w ha K Q hK => ?_)
  unfold Oper.wp
  rw [hrun β a w ha, Oper.upon_value]
  exact hK w (Below.refl _ _)

theorem ok_call {f : FuncId} {args : Array Operand} {tys : Array TypeId} {vs : Array Value} {R : Value} {d : Tmp} (hc : ∀ w, Calls P f vs w fun e w' => e = .returned R ∧ Below w.heap.size w w') (ho : o.op = .call { callee := .value (.func f), args := args, argTypes := tys }) (hw : wantF ops s1 o = true) (hd : o.dst = some d) (hs : slot s1 d = .inl R)
    (hv : args.map (evS s1) = vs) (hp : args.all (plainB s1) = true) (he : ∀ w, (callFunc f vs).run P w = .ok (.enter f vs) w) :
    Ok1 P W ops s0 s1 z y o ⟨none, none, none, false⟩ := by
  refine ok_quiet hw hd hs (fun β a w ha K Q hK => ?_)
  have hmap : args.map a.eval = vs := by
    rw [← hv]
    apply Array.map_congr_left
    intro x hx
    refine ev_plain ha ?_ (Array.all_eq_true_iff_forall_mem.1 hp x hx)
    rw [ho]; simp [Op.operands, Call.operands, hx]
  exact oper_call f args tys ho vs hmap he (hc w) hK

theorem ok_mv {x : Operand} {d : Tmp} (ho : o.op = .move x ∨ o.op = .assign x) (hw : wantF ops s1 o = true) (hd : o.dst = some d) (hp : plainB s1 x = true) (hs : slot s1 d = .inl (evS s1 x)) : Ok1 P W ops s0 s1 z y o ⟨none, none, none, false⟩ := by
  refine ok_val hw hd hs (fun β a w ha => ?_)
  have hx : a.eval x = evS s1 x := ev_plain ha (by rcases ho with ho | ho <;> rw [ho] <;> simp [Op.operands]) hp
  rcases ho with ho | ho <;> simp [execOp, ho, hx]

/-- A slot that the region itself turns later, read as it stood. -/
theorem ok_mv0 {x : Operand} {d : Tmp} (ho : o.op = .move x) (hw : wantF ops s1 o = true) (hd : o.dst = some d) (hp : plainB s0 x = true) (hs : slot s1 d = .inl (evS s0 x)) : Ok1 P W ops s0 s1 z y o ⟨none, none, none, true⟩ := by
  refine Or.inl ⟨hw, ⟨?_, fun b h => by simp at h, fun b _ h => by simp at h, ?_⟩⟩
  · rintro b (h | h | ⟨_, d', off, h1, h2⟩)
    · simp at h
    · simp at h
    · rw [hd] at h1; cases h1; rw [hs] at h2; cases h2
  · intro β a w ha hb hr K Q hK
    have hx : a.eval x = evS s0 x := ev_plain ha (by rw [ho]; simp [Op.operands]) hp
    unfold Oper.wp
    simp only [execOp, ho, hx, Sem.run_pure, Oper.upon_value]
    exact hK _ _ ⟨fun d' h => by rw [hd] at h; cases h; rw [hs]; rfl, Below.refl _ _⟩

theorem ok_not {t : TypeId} {x : Operand} {d : Tmp} {b : Bool} (ho : o.op = .unOp .not t x) (hw : wantF ops s1 o = true) (hd : o.dst = some d) (hp : plainB s1 x = true) (hx : evS s1 x = .bool b) (hs : slot s1 d = .inl (.bool (!b))) : Ok1 P W ops s0 s1 z y o ⟨none, none, none, false⟩ := by
  refine ok_val hw hd hs (fun β a w ha => ?_)
  have hx : a.eval x = .bool b := by rw [ev_plain ha (by rw [ho]; simp [Op.operands]) hp, hx]
  simp only [execOp, ho, hx]
  simp [go_sem]

theorem ok_pick_t {c x u : Operand} {d : Tmp} (ho : o.op = .pick c x u) (hw : wantF ops s1 o = true) (hd : o.dst = some d) (hpc : plainB s1 c = true) (hc : evS s1 c = .bool true) (hp : plainB s1 x = true) (hs : slot s1 d = .inl (evS s1 x)) : Ok1 P W ops s0 s1 z y o ⟨none, none, none, false⟩ := by
  refine ok_val hw hd hs (fun β a w ha => ?_)
  have h1 : a.eval c = .bool true := by rw [ev_plain ha (by rw [ho]; simp [Op.operands]) hpc, hc]
  have h2 : a.eval x = evS s1 x := ev_plain ha (by rw [ho]; simp [Op.operands]) hp
  simp only [execOp, ho, h1, h2, asBool]
  simp
theorem ok_pick_f {c x u : Operand} {d : Tmp} (ho : o.op = .pick c x u) (hw : wantF ops s1 o = true) (hd : o.dst = some d) (hpc : plainB s1 c = true) (hc : evS s1 c = .bool false) (hp : plainB s1 u = true) (hs : slot s1 d = .inl (evS s1 u)) : Ok1 P W ops s0 s1 z y o ⟨none, none, none, false⟩ := by
  refine ok_val hw hd hs (fun β a w ha => ?_)
  have h1 : a.eval c = .bool false := by rw [ev_plain ha (by rw [ho]; simp [Op.operands]) hpc, hc]
  have h2 : a.eval u = evS s1 u := ev_plain ha (by rw [ho]; simp [Op.operands]) hp
  simp only [execOp, ho, h1, h2, asBool]
  simp

theorem ok_bin {p : BinOp} {t t' : TypeId} {x u : Operand} {d : Tmp} {v x1 u1 : Value} (hr : ∀ w, (do eqGuard p t x u x1 u1; binOp p t x1 u1).run P w = .ok v w) (ho : o.op = .binOp p t x u t') (hw : wantF ops s1 o = true) (hd : o.dst = some d) (hpx : plainB s1 x = true) (hx1 : evS s1 x = x1) (hpu : plainB s1 u = true) (hu1 : evS s1 u = u1) (hs : slot s1 d = .inl v) : Ok1 P W ops s0 s1 z y o ⟨none, none, none, false⟩ := by
  refine ok_val hw hd hs (fun β a w ha => ?_)
  have h1 : a.eval x = x1 := by rw [← hx1]; exact ev_plain ha (by rw [ho]; simp [Op.operands]) hpx
  have h2 : a.eval u = u1 := by rw [← hu1]; exact ev_plain ha (by rw [ho]; simp [Op.operands]) hpu
  have := hr w
  simp only [execOp, ho, h1, h2, Sem.run_bind, this, Result.andThen_ok, Sem.run_pure]

theorem ok_ext {x : Operand} {i : Nat} {d : Tmp} {v x1 : Value} (hr : ∀ w, (Instr.extract x1 i).run P w = .ok v w) (ho : o.op = .extract x i) (hw : wantF ops s1 o = true) (hd : o.dst = some d) (hpx : plainB s1 x = true) (hx1 : evS s1 x = x1) (hs : slot s1 d = .inl v) : Ok1 P W ops s0 s1 z y o ⟨none, none, none, false⟩ := by
  refine ok_val hw hd hs (fun β a w ha => ?_)
  have h1 : a.eval x = x1 := by rw [← hx1]; exact ev_plain ha (by rw [ho]; simp [Op.operands]) hpx
  simp only [execOp, ho, h1, Sem.run_bind, hr w, Result.andThen_ok, Sem.run_pure]

theorem ok_field {t : TypeId} {x : Operand} {i : Nat} {d : Tmp} {v x1 : Value} (hr : ∀ w, (Instr.field t x1 i).run P w = .ok v w) (ho : o.op = .field t x i) (hw : wantF ops s1 o = true) (hd : o.dst = some d) (hpx : plainB s1 x = true) (hx1 : evS s1 x = x1) (hs : slot s1 d = .inl v) : Ok1 P W ops s0 s1 z y o ⟨none, none, none, false⟩ := by
  refine ok_val hw hd hs (fun β a w ha => ?_)
  have h1 : a.eval x = x1 := by rw [← hx1]; exact ev_plain ha (by rw [ho]; simp [Op.operands]) hpx
  simp only [execOp, ho, h1, Sem.run_bind, hr w, Result.andThen_ok, Sem.run_pure]

theorem ok_index {t : TypeId} {x u : Operand} {d : Tmp} {v x1 u1 : Value} (hr : ∀ w, (Instr.index t x1 u1).run P w = .ok v w) (ho : o.op = .index t x u) (hw : wantF ops s1 o = true) (hd : o.dst = some d) (hpx : plainB s1 x = true) (hx1 : evS s1 x = x1) (hpu : plainB s1 u = true) (hu1 : evS s1 u = u1) (hs : slot s1 d = .inl v) : Ok1 P W ops s0 s1 z y o ⟨none, none, none, false⟩ := by
  refine ok_val hw hd hs (fun β a w ha => ?_)
  have h1 : a.eval x = x1 := by rw [← hx1]; exact ev_plain ha (by rw [ho]; simp [Op.operands]) hpx
  have h2 : a.eval u = u1 := by rw [← hu1]; exact ev_plain ha (by rw [ho]; simp [Op.operands]) hpu
  simp only [execOp, ho, h1, h2, Sem.run_bind, hr w, Result.andThen_ok, Sem.run_pure]

theorem ok_conv {t t' : TypeId} {x : Operand} {d : Tmp} {v x1 : Value} (hr : ∀ w, (convert t t' x1).run P w = .ok v w) (ho : o.op = .convert t t' x) (hw : wantF ops s1 o = true) (hd : o.dst = some d) (hpx : plainB s1 x = true) (hx1 : evS s1 x = x1) (hs : slot s1 d = .inl v) : Ok1 P W ops s0 s1 z y o ⟨none, none, none, false⟩ := by
  refine ok_val hw hd hs (fun β a w ha => ?_)
  have h1 : a.eval x = x1 := by rw [← hx1]; exact ev_plain ha (by rw [ho]; simp [Op.operands]) hpx
  simp only [execOp, ho, h1, Sem.run_bind, hr w, Result.andThen_ok, Sem.run_pure]

theorem ok_build {t : TypeId} {ps : Array (Nat × Operand)} {vs : Array (Nat × Value)} {d : Tmp} {v : Value} (hr : ∀ w, (Instr.build t vs).run P w = .ok v w) (ho : o.op = .build t ps) (hw : wantF ops s1 o = true) (hd : o.dst = some d) (hp : ps.all (fun q => plainB s1 q.2) = true) (hvs : (ps.map fun q => (q.1, evS s1 q.2)) = vs) (hs : slot s1 d = .inl v) : Ok1 P W ops s0 s1 z y o ⟨none, none, none, false⟩ := by
  refine ok_val hw hd hs (fun β a w ha => ?_)
  have h1 : (ps.map fun (q : Nat × Operand) => (q.1, a.eval q.2)) = ps.map fun q => (q.1, evS s1 q.2) := by
    apply Array.map_congr_left
    intro q hq
    rw [ev_plain ha (by rw [ho]; simp only [Op.operands]; exact List.mem_toArray.2 (List.mem_map.2 ⟨q, by simpa using hq, rfl⟩)) (Array.all_eq_true_iff_forall_mem.1 hp q hq)]
  have := hr w
  rw [← hvs, ← h1] at this
  simp only [execOp, ho, Sem.run_bind, this, Result.andThen_ok, Sem.run_pure]

/-- A load out of a block of the call's own. -/
theorem ok_load {t t0 : TypeId} {p d b off : Nat} {c : Array Value} {v : Value} (hld : ∀ (w : World) (q : Nat), w.heap[q]? = some (.cells c t0 (0, 0)) → (Instr.loadAt t (.pointer (some ⟨q, off, none⟩))).run P w = .ok v w)
    (ho : o.op = .load t (.tmp p)) (hw : wantF ops s1 o = true) (hd : o.dst = some d) (hp : slot s1 p = .inr (b, off)) (hz : zc z b = (c, t0)) (hs : slot s1 d = .inl v) : Ok1 P W ops s0 s1 z y o ⟨none, none, some b, false⟩ := by
  have hm : p ∈ tmpsOf o := mem_tmps (by rw [ho]; simp [Op.operands])
  refine Or.inl ⟨hw, ⟨?_, fun b h => by simp at h, fun b _ h => by simp at h, ?_⟩⟩
  · rintro b' (h | h | ⟨_, d', off', h1, h2⟩)
    · cases h; exact ⟨p, hm, off, hp⟩
    · simp at h
    · rw [hd] at h1; cases h1; rw [hs] at h2; cases h2
  · intro β a w ha hb hr K Q hK
    have h1 := hr b (Or.inl rfl)
    rw [hz] at h1
    have h2 := hld w (β b) h1
    have h3 : a.eval (.tmp p) = .pointer (some ⟨β b, off, none⟩) := by rw [ha p hm, hp]; rfl
    unfold Oper.wp
    simp only [execOp, ho, h3, Sem.run_bind, h2, Result.andThen_ok, Sem.run_pure, Oper.upon_value]
    exact hK v w ⟨fun d' h => by rw [hd] at h; cases h; rw [hs]; rfl, Below.refl _ _⟩

/-- A write into a block of the call's own. -/
theorem ok_store {t t0 : TypeId} {p b off : Nat} {x : Operand} {u : Value} {c n : Array Value} (hst : ∀ (w : World) (q : Nat), w.heap[q]? = some (.cells c t0 (0, 0)) → (Instr.storeAt t (.pointer (some ⟨q, off, none⟩)) u).run P w = .ok () (w.setRow q n))
    (ho : o.op = .store t (.tmp p) x) (hw : wantF ops s1 o = true) (hd : o.dst = none) (hp : slot s1 p = .inr (b, off)) (hz : zc z b = (c, t0)) (hx : plainB s1 x = true) (hu : evS s1 x = u) (hy : y.getD b #[] = n) : Ok1 P W ops s0 s1 z y o ⟨none, some b, none, false⟩ := by
  have hm : p ∈ tmpsOf o := mem_tmps (by rw [ho]; simp [Op.operands])
  refine Or.inl ⟨hw, ⟨?_, fun b h => by simp at h, fun b _ _ => hd, ?_⟩⟩
  · rintro b' (h | h | ⟨_, d', off', h1, h2⟩)
    · simp at h
    · cases h; exact ⟨p, hm, off, hp⟩
    · rw [hd] at h1; cases h1
  · intro β a w ha hb hr K Q hK
    have h1 := hr b (Or.inr rfl)
    rw [hz] at h1
    have h2 := hst w (β b) h1
    have h3 : a.eval (.tmp p) = .pointer (some ⟨β b, off, none⟩) := by rw [ha p hm, hp]; rfl
    have h4 : a.eval x = u := by rw [← hu]; exact ev_plain ha (by rw [ho]; simp [Op.operands]) hx
    unfold Oper.wp
    simp only [execOp, ho, h3, h4, Sem.run_bind, h2, Result.andThen_ok, Sem.run_pure, Oper.upon_skip]
    refine hK undef _ ⟨rfl, by rw [hy]⟩

/-- A block that is made. -/
theorem ok_alloc {t t0 : TypeId} {d b : Nat} {c : Array Value} (hal : ∀ w : World, (Instr.alloc t true (.tuple #[])).run P w = .ok (.pointer (some ⟨w.heap.size, 0, none⟩)) (w.alloc (.cells c t0)))
    (ho : o.op = .alloc t) (hw : wantF ops s1 o = true) (hd : o.dst = some d) (hz : zc z b = (c, t0)) (hs : slot s1 d = .inr (b, 0)) : Ok1 P W ops s0 s1 z y o ⟨some b, none, none, false⟩ := by
  refine Or.inl ⟨hw, ⟨?_, fun b' h => ?_, fun b _ h => by simp at h, ?_⟩⟩
  · rintro b' (h | h | ⟨h, _⟩) <;> simp at h
  · cases h; exact ⟨d, hd, hs⟩
  · intro β a w ha hb hr K Q hK
    unfold Oper.wp
    simp only [execOp, ho, Sem.run_bind, hal w, Result.andThen_ok, Sem.run_pure, Oper.upon_value]
    exact hK _ _ ⟨rfl, by rw [hz]⟩
theorem ok_box {t t0 : TypeId} {d b : Nat} {x : Operand} {u : Value} {c : Array Value} (hal : ∀ w : World, (Instr.box t u).run P w = .ok (.pointer (some ⟨w.heap.size, 0, none⟩)) (w.alloc (.cells c t0)))
    (ho : o.op = .box t x) (hw : wantF ops s1 o = true) (hd : o.dst = some d) (hx : plainB s1 x = true) (hu : evS s1 x = u) (hz : zc z b = (c, t0)) (hs : slot s1 d = .inr (b, 0)) : Ok1 P W ops s0 s1 z y o ⟨some b, none, none, false⟩ := by
  refine Or.inl ⟨hw, ⟨?_, fun b' h => ?_, fun b _ h => by simp at h, ?_⟩⟩
  · rintro b' (h | h | ⟨h, _⟩) <;> simp at h
  · cases h; exact ⟨d, hd, hs⟩
  · intro β a w ha hb hr K Q hK
    have h4 : a.eval x = u := by rw [← hu]; exact ev_plain ha (by rw [ho]; simp [Op.operands]) hx
    unfold Oper.wp
    simp only [execOp, ho, h4, Sem.run_bind, hal w, Result.andThen_ok, Sem.run_pure, Oper.upon_value]
    exact hK _ _ ⟨rfl, by rw [hz]⟩

/-- The address of a part. -/
theorem ok_faddr {t : TypeId} {p d b off off' f : Nat} (hf : ∀ (w : World) (q : Nat), (Instr.fieldAt t (.pointer (some ⟨q, off, none⟩)) f).run P w = .ok (.pointer (some ⟨q, off', none⟩)) w)
    (ho : o.op = .fieldAddr t (.tmp p) f) (hw : wantF ops s1 o = true) (hd : o.dst = some d) (hp : slot s1 p = .inr (b, off)) (hs : slot s1 d = .inr (b, off')) : Ok1 P W ops s0 s1 z y o ⟨none, none, none, false⟩ := by
  have hm : p ∈ tmpsOf o := mem_tmps (by rw [ho]; simp [Op.operands])
  refine Or.inl ⟨hw, ⟨?_, fun b h => by simp at h, fun b _ h => by simp at h, ?_⟩⟩
  · rintro b' (h | h | ⟨_, d', off', h1, h2⟩)
    · simp at h
    · simp at h
    · rw [hd] at h1; cases h1; rw [hs] at h2; cases h2; exact ⟨p, hm, off, hp⟩
  · intro β a w ha hb hr K Q hK
    have h3 : a.eval (.tmp p) = .pointer (some ⟨β b, off, none⟩) := by rw [ha p hm, hp]; rfl
    unfold Oper.wp
    simp only [execOp, ho, h3, Sem.run_bind, hf w (β b), Result.andThen_ok, Sem.run_pure, Oper.upon_value]
    exact hK _ _ ⟨fun d' h => by rw [hd] at h; cases h; rw [hs]; rfl, Below.refl _ _⟩
theorem ok_iaddr {t : TypeId} {p d b off off' : Nat} {x : Operand} {u : Value} (hf : ∀ (w : World) (q : Nat), (Instr.indexAt t (.pointer (some ⟨q, off, none⟩)) u).run P w = .ok (.pointer (some ⟨q, off', none⟩)) w)
    (ho : o.op = .indexAddr t (.tmp p) x) (hw : wantF ops s1 o = true) (hd : o.dst = some d) (hx : plainB s1 x = true) (hu : evS s1 x = u) (hp : slot s1 p = .inr (b, off)) (hs : slot s1 d = .inr (b, off')) : Ok1 P W ops s0 s1 z y o ⟨none, none, none, false⟩ := by
  have hm : p ∈ tmpsOf o := mem_tmps (by rw [ho]; simp [Op.operands])
  refine Or.inl ⟨hw, ⟨?_, fun b h => by simp at h, fun b _ h => by simp at h, ?_⟩⟩
  · rintro b' (h | h | ⟨_, d', off', h1, h2⟩)
    · simp at h
    · simp at h
    · rw [hd] at h1; cases h1; rw [hs] at h2; cases h2; exact ⟨p, hm, off, hp⟩
  · intro β a w ha hb hr K Q hK
    have h3 : a.eval (.tmp p) = .pointer (some ⟨β b, off, none⟩) := by rw [ha p hm, hp]; rfl
    have h4 : a.eval x = u := by rw [← hu]; exact ev_plain ha (by rw [ho]; simp [Op.operands]) hx
    unfold Oper.wp
    simp only [execOp, ho, h3, h4, Sem.run_bind, hf w (β b), Result.andThen_ok, Sem.run_pure, Oper.upon_value]
    exact hK _ _ ⟨fun d' h => by rw [hd] at h; cases h; rw [hs]; rfl, Below.refl _ _⟩
end

section
variable {P : Program} {W : World} {s : List SV} {m : List Blk} {β : Nat → Nat} {a : Act} {w : World} {Q : Exit → Act → World → Prop}

/-- Entering. -/
theorem sym_enter {f : FuncId} {fn : Func} {c : Code} {args : Array Value} {R : Ending → World → Prop} {n : Nat} (hf : P.funcs[f]? = some fn) (hn : fn.ntmps = n) (hb : fn.body = some c) (s : List SV) (hs : (args ++ Array.replicate (n - args.size) undef) = (s.map (den fun _ => 0)).toArray)
    (hl : s.all (fun v => match v with | .inl _ => true | .inr _ => false) = true) (h : ∀ β a, St W s [] β a W → c.wp P (bodyPost P fn R) a W) : Calls P f args W R := by
  refine calls_of_wp hf hb ?_
  rw [hn, hs]
  refine h (fun _ => 0) _ ⟨rfl, Below.refl _ _, fun b c h => by simp at h, fun b h => by simp at h, fun b c h => by simp at h, fun t p ht h => ?_⟩
  have := List.all_eq_true.1 hl (slot s t) (by unfold slot; rw [List.getD_eq_getElem?_getD, List.getElem?_eq_getElem ht]; exact List.getElem_mem ht)
  rw [h] at this; simp at this

theorem sym_seq {x y : Code} (h : x.wp P (Exit.then (y.wp P Q) Q) a w) : (Code.seq x y).wp P Q a w := wp_seq h
theorem St.eval (h : St W s m β a w) {t : Tmp} {v : Value} (ht : Nat.blt t s.length = true) (hs : slot s t = .inl v) : a.eval (.tmp t) = v := by
  have ht : t < s.length := Nat.le_of_ble_eq_true ht
  rw [h.tm]
  simp only [Act.eval, Array.getD]
  unfold slot at hs
  simp [ht] at hs ⊢
  rw [hs]; rfl
theorem sym_cond {t : Tmp} {b : Bool} {x y : Code} (h : St W s m β a w) (ht : Nat.blt t s.length = true) (hs : slot s t = .inl (.bool b)) (hk : (if b then x else y).wp P Q a w) : (Code.cond (.tmp t) x y).wp P Q a w := wp_cond (h.eval ht hs) hk

/-- Leaving with what a slot holds. -/
theorem sym_ret {fn : Func} {R : Ending → World → Prop} {t : Tmp} {v : Value} (h : St W s m β a w) (hr : fn.results = #[.tmp t]) (ht : Nat.blt t s.length = true) (hs : slot s t = .inl v) (hR : Below W.heap.size W w → R (.returned v) w) : bodyPost P fn R .ret a w := by
  have hv := h.eval ht hs
  have ht : t < s.length := Nat.le_of_ble_eq_true ht
  refine ⟨by rw [h.tm], v, ?_, hR h.bel⟩
  have : a.tmps[t]? = some v := by
    have hsz : t < a.tmps.size := by rw [h.tm]; simpa using ht
    simp only [Act.eval, Array.getD, hsz] at hv
    simp at hv
    simp [hsz, hv]
  simp [results, hr, this]
/-- Leaving with what a block holds. -/
theorem sym_retc {fn : Func} {R : Ending → World → Prop} {t b : Nat} {ty t0 : TypeId} {c : Array Value} {d : TypeDesc} (h : St W s m β a w) (hr : fn.results = #[.cell t ty]) (ht : Nat.blt t s.length = true) (hs : slot s t = .inr (b, 0)) (hm : m[b]? = some (c, t0))
    (hu : P.underlying ty = some d) (hd : (match d with | .struct _ | .array _ _ => true | _ => false) = true) (hi : (P.info? ty).map (·.size) = some c.size) (hR : Below W.heap.size W w → R (.returned (.agg c)) w) : bodyPost P fn R .ret a w := by
  have ht : t < s.length := Nat.le_of_ble_eq_true ht
  refine ⟨by rw [h.tm], .agg c, ?_, hR h.bel⟩
  have hrow := h.row b _ hm
  have htm : a.tmps[t]? = some (.pointer (some ⟨β b, 0, none⟩)) := by
    rw [h.tm]
    unfold slot at hs
    simp [ht] at hs ⊢
    rw [hs]; rfl
  have hr2 := run_loadVar_row (P := P) w (β b) t0 ty c (0, 0) _ hrow hu hd hi
  simp only [results, hr]
  simp [htm, asAddr, hr2]
end
end Go.Proofs.Ytchbkkjjbdgdoaa

/- Q2, Q3, ManyR, A, Z1, Res1, Z2, Res2, Z3: laid together. -/
import Derived.RangeFuncNested
import Derived.RangeFuncBound
import Derived.RangeFuncCalls
import Derived.RangeFuncLeaves
import Derived.Shelf.Abstract
import Derived.Shelf.RegionOpen
import Derived.WalkKit
import Derived.OwnWalkIn
import Derived.TacticsInMore
import Derived.LoopNIn
import Derived.LoopIn
import Derived.Laws.Rows
import Derived.Handy
import Derived.Laws.Externs
import Derived.Shelf.Spec.BitsCarry
import Derived.Lib.Mul64
import Derived.Shelf.Bits.Mul64
import Derived.Test.YtpogmflgmpifoaaG1
import Derived.Test.YtpogmflgmpifoaaRows
namespace Go.Proofs.Ytpogmflgmpifoaa
open Go.RowKit Go.Shelf
attribute [local go_sem] Oper.semAt_some

/-- Figure number i of bytes. -/
def fg (f : Nat → Nat) (i : Nat) : Nat := f (i / 8) / 2 ^ (i % 8) % 2
/-- The first k figures, from the highest on, of n in all. -/
def tops (f : Nat → Nat) (n k : Nat) : List Nat := (List.range k).map fun j => fg f (n - 1 - j)
theorem tops_succ (f : Nat → Nat) (n k : Nat) : tops f n (k + 1) = tops f n k ++ [fg f (n - 1 - k)] := by simp [tops, List.range_succ]
theorem tops_length (f : Nat → Nat) (n k : Nat) : (tops f n k).length = k := by simp [tops]

theorem fg_bit {f : Nat → Nat} (hf : ∀ i, f i < 256) (j : Nat) : bits .and .u8 (((f (j / 8) : Nat) : Int) / 2 ^ (j % 8)) 1 = ((fg f j : Nat) : Int) := by
  have h1 : ∀ k, k < 256 → bits .and .u8 ((k : Nat) : Int) 1 = ((k % 2 : Nat) : Int) := by decide +kernel
  have h2 : ((f (j / 8) : Nat) : Int) / 2 ^ (j % 8) = ((f (j / 8) / 2 ^ (j % 8) : Nat) : Int) := by
    rw [Int.natCast_ediv]; simp
  rw [h2, h1 _ (Nat.lt_of_le_of_lt (Nat.div_le_self _ _) (hf _))]
  rfl
/-- What a round must keep: two blocks. -/
def Two (p g : Nat) (A B : World) : Prop := B.heap[p]? = A.heap[p]? ∧ B.heap[g]? = A.heap[g]?

set_option maxRecDepth 100000 in
set_option maxHeartbeats 4000000 in
theorem figs_in (l p g len : Nat) (f : Nat → Nat) (hf : ∀ i, f i < 256) (hm : len ≤ 1000) (J Jx : List Nat → World → Prop)
    (hY : ∀ pre x W, J pre W → pre.length < 8 * len → YieldAt Fence.wide 3 Try.prog l #[.int .u8 ((x : Nat) : Int)] W fun e W' =>
      (e = .returned (.bool true) ∧ J (pre ++ [x]) W' ∧ Two p g W W') ∨ (e = .returned (.bool false) ∧ Jx (pre ++ [x]) W'))
    (W : World) (hp : W.cell? ⟨p, 0, none⟩ = some (.slice (some ⟨g, 0, none⟩) len len)) (hg : ∀ i, i < len → W.cell? ⟨g, i, none⟩ = some (.int .u8 ((f i : Nat) : Int))) (h0 : J [] W) :
    CallsIn Fence.wide 4 Try.prog 82 #[.func (.yield l) #[] #[], .pointer (some ⟨p, 0, none⟩)] W fun e W' => (∃ v, e = .returned v) ∧
      ((∃ ys, ys = tops f (8 * len) (8 * len) ∧ J ys W') ∨ (∃ pre, (∃ k, k ≤ 8 * len ∧ pre = tops f (8 * len) k) ∧ Jx pre W')) := by
  refine callsIn_of_wp Try.func82 rfl trivial ?_ rfl
  simp only [Try.ntmps82, List.size_toArray, List.length_cons, List.length_nil, Nat.reduceAdd, Nat.reduceSub, Array.replicate_succ, Array.replicate_zero, List.push_toArray, List.append_toArray, List.nil_append, List.cons_append]
  gi_wp2
  gi_loopw [3] (fun i wr => ∃ k : Nat, k ≤ 8 * len ∧ i = .int .i64 (8 * (len : Int) - 1 - (k : Int)) ∧ J (tops f (8 * len) k) wr ∧ wr.cell? ⟨p, 0, none⟩ = some (.slice (some ⟨g, 0, none⟩) len len) ∧ ∀ i, i < len → wr.cell? ⟨g, i, none⟩ = some (.int .u8 ((f i : Nat) : Int)))
    (fun i _ => (intOf i + 1).toNat)
  case atStart => exact ⟨0, Nat.zero_le _, by simp, h0, hp, hg⟩
  case round =>
    obtain ⟨k, hk, rfl, hJs, hp', hg'⟩ := hrel
    by_cases hlt : k < 8 * len
    · obtain ⟨j, hj⟩ : ∃ j : Nat, Hid (j + 1 + k = 8 * len) := ⟨8 * len - 1 - k, hide1 (by omega)⟩
      have ej : 8 * (len : Int) - 1 - (k : Int) = (j : Int) := by have := hj.out; omega
      rw [ej]
      obtain ⟨fn, tmps, assign, body, hy, hR⟩ := hY _ (fg f j) wr hJs (by rw [tops_length]; exact hlt)
      have hcx := hg' (j / 8) (by have := hj.out; omega)
      have hbt := fg_bit hf j
      have hjs : J (tops f (8 * len) k ++ [fg f j]) = J (tops f (8 * len) (k + 1)) := by rw [tops_succ, show 8 * len - 1 - k = j by have := hj.out; omega]
      have hjx : Jx (tops f (8 * len) k ++ [fg f j]) = Jx (tops f (8 * len) (k + 1)) := by rw [tops_succ, show 8 * len - 1 - k = j by have := hj.out; omega]
      gi_wp2
      refine hR.mono ?_
      rintro e W3 (⟨rfl, hJ3, hk3⟩ | ⟨rfl, hJx3⟩)
      · rw [hjs] at hJ3
        gi_wp2
        go_roundw
        case rel => exact ⟨k + 1, by omega, by have := hj.out; congr 1; omega, hJ3, (World.cell?_of_block hk3.1).trans hp', fun i hi => (World.cell?_of_block hk3.2).trans (hg' i hi)⟩
        case measure => simp [intOf]
      · rw [hjx] at hJx3
        gi_wp2
        refine bodyPost_ret (results_none rfl _ _ _) rfl ?_
        exact ⟨⟨_, rfl⟩, .inr ⟨_, ⟨k + 1, by omega, rfl⟩, hJx3⟩⟩
    · obtain rfl : k = 8 * len := by omega
      gi_wp2
      go_end0
      exact ⟨⟨_, rfl⟩, .inl ⟨_, rfl, hJs⟩⟩

/-- The iterator, whatever loop goes over it. -/
theorem figs_stops (p g len : Nat) (f : Nat → Nat) (hf : ∀ i, f i < 256) (hm : len ≤ 1000) (w : World) (hp : w.cell? ⟨p, 0, none⟩ = some (.slice (some ⟨g, 0, none⟩) len len)) (hg : ∀ i, i < len → w.cell? ⟨g, i, none⟩ = some (.int .u8 ((f i : Nat) : Int))) :
    SeqStopsK Fence.wide 4 Try.prog 82 #[.pointer (some ⟨p, 0, none⟩)] (fun x : Nat => #[Value.int .u8 ((x : Nat) : Int)]) (Two p g) (fun ys => ys = tops f (8 * len) (8 * len)) (fun pre => ∃ k, k ≤ 8 * len ∧ pre = tops f (8 * len) k) (8 * len) w :=
  fun l J Jx W hW _ _ hY h0 => figs_in l p g len f hf hm J Jx hY W (cell_later hW hp) (fun i hi => cell_later hW (hg i hi)) h0
end Go.Proofs.Ytpogmflgmpifoaa

namespace Go.Proofs.Ytpogmflgmpifoaa
open Go.RowKit Go.Shelf

/-- All of a world but some blocks. -/
def rw0 (w : World) (β : Nat → Nat) (k : Nat) : Wd := ⟨w, fun x => x < w.heap.size ∧ ∀ b, b < k → x ≠ β b, fun _ h => h.1⟩

section
variable {P : Program} {W : Wd} {W0 : World} {s : List SV} {m : List Blk} {β : Nat → Nat} {a : Act} {w : World} {Q : Exit → Act → World → Prop}
theorem St.round (h : St W s m β a w) (s' : List SV) (hl : liveB s' m.length = true) : St (rw0 w β m.length) s' m β { tmps := (s'.map (den β)).toArray, defers := [] } w :=
  ⟨rfl, ⟨rfl, rfl, rfl, Nat.le_refl _, fun _ _ => rfl⟩, h.row, fun b hb hs => hs.2 b hb rfl, h.inj, live_of hl⟩
theorem St.back {s2 : List SV} {m2 : List Blk} {β2 : Nat → Nat} {a2 : Act} {w2 : World} {k : Nat} (h : St (wd W0) s m β a w) (h2 : St (rw0 w β k) s2 m2 β2 a2 w2) (eb : ∀ c, c < k → β2 c = β c) (hk : m.length = k) (hl : m2.length = k) :
    St (wd W0) s m2 β a w2 ∧ KeepsOthers w w2 ∧ ∀ x, x < w.heap.size → (∀ b, b < k → x ≠ β b) → w2.heap[x]? = w.heap[x]? := by
  have h3 : ∀ x, x < w.heap.size → (∀ b, b < k → x ≠ β b) → w2.heap[x]? = w.heap[x]? := fun x h1 h4 => h2.bel.block x ⟨h1, h4⟩
  refine ⟨⟨h.tm, ⟨h2.bel.os.trans h.bel.os, h2.bel.tape.trans h.bel.tape, h2.bel.output.trans h.bel.output, Nat.le_trans h.bel.size h2.bel.size, fun x hx => ?_⟩, fun b c hc => ?_, fun b hb => h.old b (by omega), fun b c hb hc => h.inj b c (by omega) (by omega), fun t p ht hs => by have := h.live t p ht hs; omega⟩, ⟨h2.bel.size, fun x o hx ho => ?_⟩, h3⟩
  · rw [h3 x (Nat.lt_of_lt_of_le hx h.bel.size) (fun b hb e => h.old b (by omega) (e ▸ hx))]
    exact h.bel.block x hx
  · have hb : b < k := by have := (List.getElem?_eq_some_iff.1 hc).1; omega
    rw [← eb b hb]; exact h2.row b c hc
  · rw [h3 x (Array.getElem?_eq_some_iff.1 hx).1 (fun b hb e => ?_)]
    · exact hx
    · have hb' : b < m.length := by omega
      have h5 := h.row b m[b] (by simp [hb'])
      rw [← e, hx] at h5
      cases h5; cases ho
theorem eb_trans {k : Nat} {β0 β1 β2 : Nat → Nat} (e : ∀ c, c < k → β2 c = β1 c) (eb : ∀ c, c < k → β1 c = β0 c) : ∀ c, c < k → β2 c = β0 c := fun c hc => (e c hc).trans (eb c hc)
theorem St.after {w' : World} (h : St W s m β a w) (hb : Below w.heap.size w w') (s' : List SV) (hl : liveB s' m.length = true) : St W s' m β { tmps := (s'.map (den β)).toArray, defers := [] } w' := by
  refine ⟨rfl, h.bel.quiet hb, fun b c hc => ?_, h.old, h.inj, live_of hl⟩
  have h1 := h.row b c hc
  rw [hb.block _ (Array.getElem?_eq_some_iff.1 h1).1]; exact h1

/-- Entering where a range over a function stands. -/
theorem s_im {f : FuncId} {fn : Func} {c : Code} {args : Array Value} {R : Ending → World → Prop} {n : Nat} (hf : P.funcs[f]? = some fn) (hn : fn.ntmps = n) (hb : fn.body = some c) (s : List SV) (h : ∀ β a, St (wd W0) (ov (s ++ List.replicate (n - s.length) uu) []) [] β a W0 → c.wp P (bodyPostM Fence.wide 5 P fn R) a W0)
    (hs : (args ++ Array.replicate (n - args.size) undef) = ((s ++ List.replicate (n - s.length) uu).map (den fun _ => 0)).toArray := by kernel_rfl) (hl : (s ++ List.replicate (n - s.length) uu).all (fun v => match v with | .inl _ => true | .inr _ => false) = true := by kernel_rfl) : Calls P f args W0 R := by
  refine (callsIn_wide (n := 5)).1 (callsIn_of_wp_marks hf hb trivial (wpIn_wide.2 ?_) rfl)
  rw [hn, hs]
  refine h (fun _ => 0) _ (St.o0 ⟨rfl, kw_of (Below.refl _ _), fun b c h => by simp at h, fun b h => by simp at h, fun b c h => by simp at h, fun t p ht h => ?_⟩)
  have := List.all_eq_true.1 hl (slot (s ++ List.replicate (n - s.length) uu) t) (by unfold slot; rw [List.getD_eq_getElem?_getD, List.getElem?_eq_getElem ht]; exact List.getElem_mem ht)
  rw [h] at this; simp at this

/-- A region: a slot is moved, and a function called with it. -/
theorem rg_call2 {id f t d1 d2 : Nat} {tys : Array TypeId} {o1 o2 : Oper} {v : Value} (hv : a.eval (.tmp t) = v) (h1 : o1.op = .move (.tmp t)) (e1 : o1.dst = some d1) (g1 : o1.guard = none) (h2 : o2.op = .call { callee := .value (.func f), args := #[.tmp d1], argTypes := tys }) (e2 : o2.dst = some d2) (g2 : o2.guard = none)
    (hsz : d1 < a.tmps.size) (he : ∀ w, (callFunc f #[v]).run P w = .ok (.enter f #[v]) w) (h : Calls P f #[v] w fun e w' => ∃ R, e = .returned R ∧ Q .normal ((a.put (some d1) v).put (some d2) R) w') : (Code.region id [o1, o2].toArray false).wp P Q a w := by
  refine wp_region_lit (wpList_plain g1 fun K hK => ?_)
  unfold Oper.wp
  simp only [execOp, h1, hv, Sem.run_pure, Oper.upon_value, e1]
  refine hK _ _ (wpList_plain g2 fun K' hK' => ?_)
  have hev : (a.put (some d1) v).eval (.tmp d1) = v := by simp [Act.put, Act.eval, Array.getD, hsz]
  have hf : (a.put (some d1) v).eval (.func f) = .func (.func f) #[] #[] := rfl
  unfold Oper.wp execOp
  simp only [h2, resolve, invoke, Sem.run_bind, List.map_toArray, List.map_cons, List.map_nil, hev, hf, Deferred.ofValue, Sem.run_pure, Result.andThen_ok, Array.append_empty, Array.empty_append, he, Oper.upon_enter]
  refine h.mono ?_
  rintro e w' ⟨R, rfl, hq⟩
  exact hK' _ _ (by rw [e2]; exact hq)
/-- A region: a slot is named anew, within a round. -/
theorem rg_as {F : Fence} {n id t d : Nat} {o : Oper} {v : Value} (hv : a.eval (.tmp t) = v) (h1 : o.op = .assign (.tmp t)) (e1 : o.dst = some d) (g1 : o.guard = none) (h : Q .normal (a.put (some d) v) w) : (Code.region id [o].toArray false).wpIn F n P Q a w := by
  refine wpIn_region_lit (wpListIn_step fun K hK => ?_)
  simp only [Region.wanted, g1, if_true]
  refine ⟨fun f hf => by simp [Oper.about, h1] at hf, ?_⟩
  rw [Oper.semAt_eq _ _ _ (by simp [h1])]
  simp only [execOp, h1, hv, Sem.run_pure, Oper.uponIn_value, e1]
  exact hK _ _ h
/-- A region: a block is read, and written into another. -/
theorem rg_ls {id t p d q g g2 : Nat} {t0 t2 : TypeId} {o1 o2 : Oper} {c c2 : Array Value} {ds : TypeDesc} (hp : a.eval (.tmp p) = .pointer (some ⟨g, 0, none⟩)) (hq : a.eval (.tmp q) = .pointer (some ⟨g2, 0, none⟩)) (h1 : o1.op = .load t (.tmp p)) (e1 : o1.dst = some d) (g1' : o1.guard = none) (h2 : o2.op = .store t (.tmp q) (.tmp d)) (e2 : o2.dst = none) (g2' : o2.guard = none)
    (hne : d ≠ q) (hsz : d < a.tmps.size) (hr1 : w.heap[g]? = some (.cells c t0 (0, 0))) (hr2 : w.heap[g2]? = some (.cells c2 t2 (0, 0))) (hu : P.underlying t = some ds) (hds : (match ds with | .struct _ | .array _ _ => true | _ => false) = true) (hi : (P.info? t).map (·.size) = some c.size) (hc2 : c2.size = c.size) (hone : c.all (·.oneCell') = true)
    (h : Q .normal (a.put (some d) (.agg c)) (w.setRow g2 c)) : (Code.region id [o1, o2].toArray false).wp P Q a w := by
  refine wp_region_lit (wpList_plain g1' fun K hK => ?_)
  have l1 := ld_row (P := P) (t := t) (t0 := t0) (c := c) hu hds hi w g hr1
  have s1 := st_row (P := P) (t := t) (t0 := t2) (c := c2) (n := c) hi hc2 hone w g2 hr2
  unfold Oper.wp
  simp only [execOp, h1, hp, Sem.run_bind, l1, Result.andThen_ok, Sem.run_pure, Oper.upon_value, e1]
  refine hK _ _ (wpList_plain g2' fun K' hK' => ?_)
  have ev1 : (a.put (some d) (.agg c)).eval (.tmp d) = .agg c := by simp [Act.put, Act.eval, Array.getD, hsz]
  have ev2 : (a.put (some d) (.agg c)).eval (.tmp q) = .pointer (some ⟨g2, 0, none⟩) := by
    rw [← hq]
    simp [Act.put, Act.eval, hne]
  unfold Oper.wp
  simp only [execOp, h2, ev1, ev2, Sem.run_bind, s1, Result.andThen_ok, Sem.run_pure, Oper.upon_skip, e2]
  exact hK' _ _ h
/-- Leaving with what a block holds, where a range over a function stood. -/
theorem mark_ret {fn : Func} {R : Ending → World → Prop} {t D g : Nat} {ty t0 : TypeId} {c : Array Value} {d : TypeDesc} (hd : a.defers = [{ target := .collected D, args := #[] }]) (hK : w.heap[D]? = some (.deferred (some []))) (hr : fn.results = #[.cell t ty]) (ht : a.tmps.getD t undef = .pointer (some ⟨g, 0, none⟩)) (hg : w.heap[g]? = some (.cells c t0 (0, 0)))
    (hu : P.underlying ty = some d) (hds : (match d with | .struct _ | .array _ _ => true | _ => false) = true) (hi : (P.info? ty).map (·.size) = some c.size) (hR : R (.returned (.agg c)) (w.putObj D (.deferred none))) : bodyPostM Fence.wide 5 P fn R .ret a w := by
  show LeavesInM Fence.wide 5 P fn a.tmps R a.defers .returning w
  rw [hd]
  refine ⟨by simp, .inl ⟨D, _, rfl, run_takeDeferred hK, ?_⟩⟩
  have hne : g ≠ D := fun e => by rw [e, hK] at hg; cases hg
  exact ⟨.agg c, results_cell_row hr _ _ g t0 c (0, 0) d ht ((World.putObj_heap_other hne).trans hg) hu hds hi, hR⟩
end
theorem two_t {p g : Nat} {A B C : World} (h : Two p g A B) (k : Two p g B C) : Two p g A C := ⟨k.1.trans h.1, k.2.trans h.2⟩
theorem two_b {p g : Nat} {w : World} (hp : p < w.heap.size) (hg : g < w.heap.size) (W : World) (l : Nat) (o o' : Obj) (hl : w.heap.size ≤ l) (_ : W.heap[l]? = some o) (_ : o.isCells = false) (_ : o.isWalk = false) : Two p g W (W.putObj l o') :=
  ⟨World.putObj_heap_other (by omega), World.putObj_heap_other (by omega)⟩

/-- So many times one: figure by figure. -/
def stepM {α : Type} (add : α → α → α) (one s : α) (x : Nat) : α := if x = 1 then add (add s s) one else add s s
def fldM {α : Type} (add : α → α → α) (no one : α) (l : List Nat) : α := l.foldl (stepM add one) no
theorem fldM_1 {α : Type} (add : α → α → α) (no one : α) (l : List Nat) : fldM add no one (l ++ [1]) = add (add (fldM add no one l) (fldM add no one l)) one := by simp [fldM, stepM]
theorem fldM_0 {α : Type} (add : α → α → α) (no one : α) (l : List Nat) {x : Nat} (hx : x ≠ 1) : fldM add no one (l ++ [x]) = add (fldM add no one l) (fldM add no one l) := by simp [fldM, stepM, hx]
theorem fldM_good {α : Type} {G : α → Prop} {add : α → α → α} {no one : α} (hG : ∀ x y, G x → G y → G (add x y)) (h0 : G no) (h1 : G one) (l : List Nat) : G (fldM add no one l) := by
  suffices h : ∀ (l : List Nat) (s : α), G s → G (l.foldl (stepM add one) s) from h l no h0
  intro l
  induction l with
  | nil => intro s h; exact h
  | cons x r ih =>
    intro s h
    refine ih _ ?_
    unfold stepM
    split
    · exact hG _ _ (hG _ _ h h) h1
    · exact hG _ _ h h
end Go.Proofs.Ytpogmflgmpifoaa

namespace Go.Proofs.Ytpogmflgmpifoaa
open Go.RowKit Go.Shelf
theorem eq_u8 {x u : Operand} {m n : Nat} {b : Bool} (h : decide (m = n) = b) (w : World) : (do eqGuard .eql 5 x u (.int .u8 ((m : Nat) : Int)) (.int .u8 ((n : Nat) : Int)); binOp .eql 5 (.int .u8 ((m : Nat) : Int)) (.int .u8 ((n : Nat) : Int))).run Try.prog w = .ok (.bool b) w := by
  have h1 : decide (((m : Nat) : Int) = ((n : Nat) : Int)) = b := by rw [← h]; congr 1; exact propext Int.natCast_inj
  subst h1; simp [eqGuard, binOp, go_sem]; rfl
theorem ld_fnres (w : World) (q : Nat) (h : w.heap[q]? = some (.cells #[.func (.func 52) #[] #[]] 102 (0, 0))) : (Instr.loadAt 102 (.pointer (some ⟨q, 0, none⟩))).run Try.prog w = .ok (.func (.func 52) #[] #[]) w := by
  have h1 : w.cell? ⟨q, 0, none⟩ = some (.func (.func 52) #[] #[]) := by rw [cell_of_row _ _ _ _ _ _ h]; rfl
  simp [Instr.loadAt, Instr.sureAddr, go_sem, h1]
theorem bx_fnres (w : World) : (Instr.box 102 (.func (.func 52) #[] #[])).run Try.prog w = .ok (.pointer (some ⟨w.heap.size, 0, none⟩)) (w.alloc (.cells #[.func (.func 52) #[] #[]] 102)) := by
  simp [Instr.box, go_sem]
set_option maxRecDepth 100000 in
set_option maxHeartbeats 4000000 in
theorem many_res {α : Type} {Vl : α → Array Value} {G : α → Prop} {add : α → α → α} {zc0 : Array Value} (hsz : ∀ x, (Try.prog.info? 83).map (·.size) = some (Vl x).size) (hss : ∀ x y, (Vl x).size = (Vl y).size) (hzs : ∀ y, zc0.size = (Vl y).size) (hone : ∀ x, (Vl x).all (·.oneCell') = true)
    (hal : ∀ w : World, (Instr.alloc 83 true (.tuple #[])).run Try.prog w = .ok (.pointer (some ⟨w.heap.size, 0, none⟩)) (w.alloc (.cells zc0 83))) (hG : ∀ x y, G x → G y → G (add x y)) (hplus : ∀ x y, G x → G y → ∀ w, Calls Try.prog 52 #[.agg (Vl x), .agg (Vl y)] w fun e w' => e = .returned (.agg (Vl (add x y))) ∧ Below w.heap.size w w')
    {no one : α} (h0 : G no) (h1 : G one) {aa : Option Addr} {len cap : Nat} {f : Nat → Nat} (hm : len ≤ 1000) (W0 : World) (hb : Bs W0 aa len f) :
    Calls Try.prog 73 #[.slice aa len cap, .agg (Vl no), .agg (Vl one), .func (.func 52) #[] #[]] W0 fun e w' => e = .returned (.agg (Vl (fldM add no one (tops f (8 * len) (8 * len))))) ∧ Below W0.heap.size W0 w' := by
  refine s_im Try.func73 Try.ntmps73 rfl [.inl (.slice aa len cap), .inl (.agg (Vl no)), .inl (.agg (Vl one)), .inl (.func (.func 52) #[] #[])] ?_
  intro β a h
  refine sym_seq ?_
  refine St.rg h [(5, .inr (0, pt 0)), (6, .inr (1, pt 0)), (7, .inr (2, pt 0)), (8, .inr (3, pt 0))] [(Vl no, 83), (Vl one, 83), (#[.func (.func 52) #[] #[]], 102), (zc0, 83)] [] [eN 0, eN 1, eN 2, eN 3] ?_ ?_
  · exact oc (k_bx 0 (.agg (Vl no)) bx_agg rfl rfl) <|
    oc (k_bx 1 (.agg (Vl one)) bx_agg rfl rfl) <|
    oc (k_bx 2 (.func (.func 52) #[] #[]) bx_fnres rfl rfl) <|
    oc (k_al 3 hal rfl rfl) <|
    ok_nil
  clear h; intro β a w h
  refine sym_then ?_
  refine sym_seq ?_
  refine St.rg h [(11, .inl (.agg (Vl no))), (9, .inr (4, pt 0))] [(zc0, 83)] [(4, Vl no)] [eR 0, eN 4, eS 4] ?_ ?_
  · exact oc (k_ld 0 0 (.agg (Vl no)) (c := Vl no) (ld_row (t0 := 83) Try.underlying83 rfl (hsz no)) rfl rfl) <|
    oc (k_al 4 hal rfl rfl) <|
    oc (k_st 4 0 (.agg (Vl no)) (c := zc0) (n := Vl no) (st_row (t0 := 83) (hsz no) (hzs _) (hone no)) rfl rfl) <|
    ok_nil
  clear h; intro β a w h
  refine sym_then ?_
  replace h := St.cs h (s' := [.inl (.slice aa len cap), .inl (.agg (Vl no)), .inl (.agg (Vl one)), .inl (.func (.func 52) #[] #[]), uu, .inr (0, pt 0), .inr (1, pt 0), .inr (2, pt 0), .inr (3, pt 0), .inr (4, pt 0), uu, .inl (.agg (Vl no)), uu, uu, uu, uu, uu, uu, uu, uu, uu, uu, uu, uu, uu, uu]) (m' := [(Vl no, 83), (Vl one, 83), (#[.func (.func 52) #[] #[]], 102), (zc0, 83), (Vl no, 83)]) (by kernel_rfl) (by kernel_rfl)
  have hS : ∀ pre, G (fldM add no one pre) := fldM_good hG h0 h1
  refine sym_seq ?_
  refine sym_seq ?_
  refine rg_call2 (t := 0) (d1 := 12) (d2 := 13) (f := 70) (v := .slice aa len cap) (h.eval (by kernel_rfl) (by kernel_rfl)) rfl rfl rfl rfl rfl rfl (by rw [h.tm]; simp) (fun w => by kernel_rfl) ((figures_d aa len cap f _ (hb.later h.bel.below) hm).mono ?_)
  rintro e w2 ⟨p, g, rfl, hp1, hg1, hpc, ⟨og, hgo, hgc⟩, hgi, hb2⟩
  refine ⟨_, rfl, ?_⟩
  have h2 := h.after hb2 [.inl (.slice aa len cap), .inl (.agg (Vl no)), .inl (.agg (Vl one)), .inl (.func (.func 52) #[] #[]), uu, .inr (0, pt 0), .inr (1, pt 0), .inr (2, pt 0), .inr (3, pt 0), .inr (4, pt 0), uu, .inl (.agg (Vl no)), .inl (.slice aa len cap), .inl (.func (.func 82) #[] #[.pointer (some ⟨p, 0, none⟩)]), uu, uu, uu, uu, uu, uu, uu, uu, uu, uu, uu, uu] (by kernel_rfl)
  have ea : ((a.put (some 12) (.slice aa len cap)).put (some 13) (.func (.func 82) #[] #[.pointer (some ⟨p, 0, none⟩)])) = { tmps := ([.inl (.slice aa len cap), .inl (.agg (Vl no)), .inl (.agg (Vl one)), .inl (.func (.func 52) #[] #[]), uu, .inr (0, pt 0), .inr (1, pt 0), .inr (2, pt 0), .inr (3, pt 0), .inr (4, pt 0), uu, .inl (.agg (Vl no)), .inl (.slice aa len cap), .inl (.func (.func 82) #[] #[.pointer (some ⟨p, 0, none⟩)]), uu, uu, uu, uu, uu, uu, uu, uu, uu, uu, uu, uu].map (den β)).toArray, defers := [] } := by rw [h.tm]; kernel_rfl
  rw [ea]
  have hpl : p < w2.heap.size := cell_lt hpc
  have hgl : g < w2.heap.size := (Array.getElem?_eq_some_iff.1 hgo).1
  have hbl : ∀ b, b < 5 → β b < w.heap.size := fun b hb' => by
    have h5 := h.row b _ (List.getElem?_eq_getElem (by simpa using hb'))
    exact (Array.getElem?_eq_some_iff.1 h5).1
  have hne : ∀ x, w.heap.size ≤ x → ∀ b, b < 5 → x ≠ β b := fun x hx b hb' => by have := hbl b hb'; omega
  clear ea
  refine sym_then ?_
  refine wp_block ((wpIn_wide (n := 5)).1 ?_)
  refine wpIn_rangeFunc_ownF (F := Fence.wide) (n := 5) rfl (by decide) (gf := 82) (lb := #[.pointer (some ⟨p, 0, none⟩)]) (by kernel_rfl) trivial (enters_of Try.func82 (by kernel_rfl) rfl) (figs_stops p g len f hb.1 hm w2 hpc hgi) two_t (two_b hpl hgl) (Below.refl _ _) (fun _ => rfl)
    (fun pre v => St (wd W0) [.inl (.slice aa len cap), .inl (.agg (Vl no)), .inl (.agg (Vl one)), .inl (.func (.func 52) #[] #[]), uu, .inr (0, pt 0), .inr (1, pt 0), .inr (2, pt 0), .inr (3, pt 0), .inr (4, pt 0), uu, .inl (.agg (Vl no)), .inl (.slice aa len cap), .inl (.func (.func 82) #[] #[.pointer (some ⟨p, 0, none⟩)]), uu, uu, uu, uu, uu, uu, uu, uu, uu, uu, uu, uu] [(Vl no, 83), (Vl one, 83), (#[.func (.func 52) #[] #[]], 102), (zc0, 83), (Vl (fldM add no one pre), 83)] β { tmps := ([.inl (.slice aa len cap), .inl (.agg (Vl no)), .inl (.agg (Vl one)), .inl (.func (.func 52) #[] #[]), uu, .inr (0, pt 0), .inr (1, pt 0), .inr (2, pt 0), .inr (3, pt 0), .inr (4, pt 0), uu, .inl (.agg (Vl no)), .inl (.slice aa len cap), .inl (.func (.func 82) #[] #[.pointer (some ⟨p, 0, none⟩)]), uu, uu, uu, uu, uu, uu, uu, uu, uu, uu, uu, uu].map (den β)).toArray, defers := [] } v ∧ w2.heap.size ≤ v.heap.size) (fun _ _ _ => False)
    (OwnFrom.and (St.own (mm := fun pre => [(Vl no, 83), (Vl one, 83), (#[.func (.func 52) #[] #[]], 102), (zc0, 83), (Vl (fldM add no one pre), 83)]) (fun k hk => Nat.lt_of_lt_of_le hk h2.bel.size)) (fun _ _ _ _ hs hg _ => Nat.le_trans hs hg.size)) (fun _ _ _ _ _ hs _ _ => hs) ⟨h2, Nat.le_refl _⟩ (fun x => { tmps := ([.inl (.slice aa len cap), .inl (.agg (Vl no)), .inl (.agg (Vl one)), .inl (.func (.func 52) #[] #[]), uu, .inr (0, pt 0), .inr (1, pt 0), .inr (2, pt 0), .inr (3, pt 0), .inr (4, pt 0), .inl (.int .u8 ((x : Nat) : Int)), .inl (.agg (Vl no)), .inl (.slice aa len cap), .inl (.func (.func 82) #[] #[.pointer (some ⟨p, 0, none⟩)]), .inl (.int .u8 ((x : Nat) : Int)), uu, uu, uu, uu, uu, uu, uu, uu, uu, uu, uu].map (den β)).toArray, defers := [] }) ?assign ?body ?done ?stop
  case assign =>
    intro l x v K hK
    refine rg_as (t := 14) (d := 10) (v := .int .u8 ((x : Nat) : Int)) (by kernel_rfl) rfl rfl rfl ?_
    have e : ∀ z : Act, z = { tmps := ([.inl (.slice aa len cap), .inl (.agg (Vl no)), .inl (.agg (Vl one)), .inl (.func (.func 52) #[] #[]), uu, .inr (0, pt 0), .inr (1, pt 0), .inr (2, pt 0), .inr (3, pt 0), .inr (4, pt 0), .inl (.int .u8 ((x : Nat) : Int)), .inl (.agg (Vl no)), .inl (.slice aa len cap), .inl (.func (.func 82) #[] #[.pointer (some ⟨p, 0, none⟩)]), .inl (.int .u8 ((x : Nat) : Int)), uu, uu, uu, uu, uu, uu, uu, uu, uu, uu, uu].map (den β)).toArray, defers := [] } → K z v := fun z h => h ▸ hK
    exact e _ (by kernel_rfl)
  case body =>
    rintro l pre x v ⟨hI, hvs⟩ hlt
    have hS := hS pre
    generalize hSe : fldM add no one pre = S at hI hS
    have h := hI.round [.inl (.slice aa len cap), .inl (.agg (Vl no)), .inl (.agg (Vl one)), .inl (.func (.func 52) #[] #[]), uu, .inr (0, pt 0), .inr (1, pt 0), .inr (2, pt 0), .inr (3, pt 0), .inr (4, pt 0), .inl (.int .u8 ((x : Nat) : Int)), .inl (.agg (Vl no)), .inl (.slice aa len cap), .inl (.func (.func 82) #[] #[.pointer (some ⟨p, 0, none⟩)]), .inl (.int .u8 ((x : Nat) : Int)), uu, uu, uu, uu, uu, uu, uu, uu, uu, uu, uu] (by kernel_rfl)
    have eb : ∀ c, c < 5 → β c = β c := fun _ _ => rfl
    replace h := h.o0
    by_cases hx : x = 1
    · refine wpIn_block ?_
      refine wpIn_seq ?_
      refine St.rgR h [(15, .inl (.func (.func 52) #[] #[])), (16, .inl (.agg (Vl S))), (17, .inl (.agg (Vl S))), (18, .inl (.agg (Vl (add S S))))] [] [(4, Vl (add S S))] [eR 2, eR 4, eR 4, nn, eS 4] ?_ ?_
      · exact oc (k_ld 2 0 (.func (.func 52) #[] #[]) (c := #[.func (.func 52) #[] #[]]) ld_fnres rfl rfl) <|
        oc (k_ld 4 0 (.agg (Vl S)) (c := Vl S) (ld_row (t0 := 83) Try.underlying83 rfl (hsz S)) rfl rfl) <|
        oc (k_ld 4 0 (.agg (Vl S)) (c := Vl S) (ld_row (t0 := 83) Try.underlying83 rfl (hsz S)) rfl rfl) <|
        oc (k_cv #[] #[.agg (Vl S), .agg (Vl S)] #[.agg (Vl S), .agg (Vl S)] (.agg (Vl (add S S))) (hplus _ _ hS hS) rfl rfl) <|
        oc (k_st 4 0 (.agg (Vl (add S S))) (c := Vl S) (n := Vl (add S S)) (st_row (t0 := 83) (hsz (add S S)) (hss _ _) (hone (add S S))) rfl rfl) <|
        ok_nil
      clear h; intro β' a w e h; replace eb := eb_trans (k := 5) e eb; clear e
      refine thenR ?_
      refine wpIn_seq ?_
      refine St.rgR h [(19, .inl (.int .u8 ((x : Nat) : Int))), (20, .inl (.bool true))] [] [] [] ?_ ?_
      · exact oz (k_mv (.inl rfl) rfl) <|
        oz (k_bi (.int .u8 ((x : Nat) : Int)) (.int .u8 ((1 : Nat) : Int)) (.bool true) (eq_u8 (m := x) (n := 1) (decide_eq_true (by omega))) rfl rfl) <|
        ok_nil
      clear h; intro β' a w e h; replace eb := eb_trans (k := 5) e eb; clear e
      refine thenR ?_
      refine s_ctR h ?_
      refine St.rgR h [(21, .inl (.func (.func 52) #[] #[])), (22, .inl (.agg (Vl (add S S)))), (23, .inl (.agg (Vl one))), (24, .inl (.agg (Vl (add (add S S) one))))] [] [(4, Vl (add (add S S) one))] [eR 2, eR 4, eR 1, nn, eS 4] ?_ ?_
      · exact oc (k_ld 2 0 (.func (.func 52) #[] #[]) (c := #[.func (.func 52) #[] #[]]) ld_fnres rfl rfl) <|
        oc (k_ld 4 0 (.agg (Vl (add S S))) (c := Vl (add S S)) (ld_row (t0 := 83) Try.underlying83 rfl (hsz (add S S))) rfl rfl) <|
        oc (k_ld 1 0 (.agg (Vl one)) (c := Vl one) (ld_row (t0 := 83) Try.underlying83 rfl (hsz one)) rfl rfl) <|
        oc (k_cv #[] #[.agg (Vl (add S S)), .agg (Vl one)] #[.agg (Vl (add S S)), .agg (Vl one)] (.agg (Vl (add (add S S) one))) (hplus _ _ (hG _ _ hS hS) h1) rfl rfl) <|
        oc (k_st 4 0 (.agg (Vl (add (add S S) one))) (c := Vl (add S S)) (n := Vl (add (add S S) one)) (st_row (t0 := 83) (hsz (add (add S S) one)) (hss _ _) (hone (add (add S S) one))) rfl rfl) <|
        ok_nil
      clear h; intro β' a w e h; replace eb := eb_trans (k := 5) e eb; clear e
      refine blk_norm ?_
      obtain ⟨q1, q2, q3⟩ := hI.back h eb rfl (by kernel_rfl)
      exact ⟨q2, ⟨q3 p (Nat.lt_of_lt_of_le hpl hvs) (hne p hp1), q3 g (Nat.lt_of_lt_of_le hgl hvs) (hne g hg1)⟩, by rw [hx, fldM_1, hSe]; exact q1, Nat.le_trans hvs q2.size⟩
    · refine wpIn_block ?_
      refine wpIn_seq ?_
      refine St.rgR h [(15, .inl (.func (.func 52) #[] #[])), (16, .inl (.agg (Vl S))), (17, .inl (.agg (Vl S))), (18, .inl (.agg (Vl (add S S))))] [] [(4, Vl (add S S))] [eR 2, eR 4, eR 4, nn, eS 4] ?_ ?_
      · exact oc (k_ld 2 0 (.func (.func 52) #[] #[]) (c := #[.func (.func 52) #[] #[]]) ld_fnres rfl rfl) <|
        oc (k_ld 4 0 (.agg (Vl S)) (c := Vl S) (ld_row (t0 := 83) Try.underlying83 rfl (hsz S)) rfl rfl) <|
        oc (k_ld 4 0 (.agg (Vl S)) (c := Vl S) (ld_row (t0 := 83) Try.underlying83 rfl (hsz S)) rfl rfl) <|
        oc (k_cv #[] #[.agg (Vl S), .agg (Vl S)] #[.agg (Vl S), .agg (Vl S)] (.agg (Vl (add S S))) (hplus _ _ hS hS) rfl rfl) <|
        oc (k_st 4 0 (.agg (Vl (add S S))) (c := Vl S) (n := Vl (add S S)) (st_row (t0 := 83) (hsz (add S S)) (hss _ _) (hone (add S S))) rfl rfl) <|
        ok_nil
      clear h; intro β' a w e h; replace eb := eb_trans (k := 5) e eb; clear e
      refine thenR ?_
      refine wpIn_seq ?_
      refine St.rgR h [(19, .inl (.int .u8 ((x : Nat) : Int))), (20, .inl (.bool false))] [] [] [] ?_ ?_
      · exact oz (k_mv (.inl rfl) rfl) <|
        oz (k_bi (.int .u8 ((x : Nat) : Int)) (.int .u8 ((1 : Nat) : Int)) (.bool false) (eq_u8 (m := x) (n := 1) (decide_eq_false (by omega))) rfl rfl) <|
        ok_nil
      clear h; intro β' a w e h; replace eb := eb_trans (k := 5) e eb; clear e
      refine thenR ?_
      refine s_cfR h ?_
      refine wpIn_skip ?_
      refine blk_norm ?_
      obtain ⟨q1, q2, q3⟩ := hI.back h eb rfl (by kernel_rfl)
      exact ⟨q2, ⟨q3 p (Nat.lt_of_lt_of_le hpl hvs) (hne p hp1), q3 g (Nat.lt_of_lt_of_le hgl hvs) (hne g hg1)⟩, by rw [fldM_0 _ _ _ _ hx, hSe]; exact q1, Nat.le_trans hvs q2.size⟩
  case done =>
    rintro D xs v hD rfl ⟨hI, hvs⟩ hK
    refine blk_norm ?_
    refine sym_then ?_
    refine sym_seq ?_
    have r1 := hI.row 4 _ rfl
    have r2 := hI.row 3 _ rfl
    have hD3 : D ≠ β 3 := fun e => by rw [e, r2] at hK; cases hK
    have hB := hI.bel.below
    have o3 := Nat.le_of_not_lt (hI.old 3 (by simp))
    refine rg_ls (p := 9) (d := 25) (q := 8) (t := 83) (by kernel_rfl) (by kernel_rfl) rfl rfl rfl rfl rfl rfl (by decide) (by simp) r1 r2 Try.underlying83 rfl (hsz _) (hzs _) (hone _) ?_
    refine sym_then ?_
    refine wp_ret ?_
    refine mark_ret (D := D) (g := β 3) rfl ((setRow_other _ _ _ _ hD3).trans hK) Try.results73 (by kernel_rfl) (setRow_heap _ _ _ _ _ _ r2) Try.underlying83 rfl (hsz _) ⟨rfl, ?_⟩
    refine (below_setRow hB o3 _).trans (belowK_b (w := w2) h2.bel.size _ D _ _ hD ((setRow_other _ _ _ _ hD3).trans hK) rfl rfl)
  case stop =>
    rintro D c pre v _ _ h _
    exact h.elim
end Go.Proofs.Ytpogmflgmpifoaa

namespace Go.Proofs.Ytpogmflgmpifoaa
open Go.RowKit

theorem add64_ex (x y c : Nat) (hx : x < 18446744073709551616) (hy : y < 18446744073709551616) (hc : c ≤ 1) : ∃ s k : Nat, s < 18446744073709551616 ∧ k ≤ 1 ∧ Hid (s + 18446744073709551616 * k = x + y + c) ∧
    ∀ w, (callFunc 75 #[.int .u64 x, .int .u64 y, .int .u64 c]).run Try.prog w = .ok (.value (.tuple #[.int .u64 s, .int .u64 k])) w := by
  refine ⟨(x + y + c) % 18446744073709551616, (x + y + c) / 18446744073709551616, by omega, by omega, hide1 (by omega), fun w => ?_⟩
  rw [run_callFunc_extern Try.func75 (by kernel_rfl) (by kernel_rfl) (by kernel_rfl) (e := add64Entry) (by kernel_rfl), run_add64 x y c (by omega) (by omega) (by omega) (by omega)]
  simp only [Result.andThen]
  congr 5 <;> omega

theorem add64_ex0 (x y : Nat) (hx : x < 18446744073709551616) (hy : y < 18446744073709551616) : ∃ s k : Nat, s < 18446744073709551616 ∧ k ≤ 1 ∧ Hid (s + 18446744073709551616 * k = x + y) ∧
    ∀ w, (callFunc 75 #[.int .u64 x, .int .u64 y, .int .u64 0]).run Try.prog w = .ok (.value (.tuple #[.int .u64 s, .int .u64 k])) w :=
  add64_ex x y 0 hx hy (by omega)

theorem sub64_ex (x y c : Nat) (hx : x < 18446744073709551616) (hy : y < 18446744073709551616) (hc : c ≤ 1) : ∃ s k : Nat, s < 18446744073709551616 ∧ k ≤ 1 ∧ Hid (s + y + c = x + 18446744073709551616 * k) ∧
    ∀ w, (callFunc 76 #[.int .u64 x, .int .u64 y, .int .u64 c]).run Try.prog w = .ok (.value (.tuple #[.int .u64 s, .int .u64 k])) w := by
  refine ⟨(x + 18446744073709551616 - y - c) % 18446744073709551616, if x < y + c then 1 else 0, by omega, by split <;> omega, hide1 (by split <;> omega), fun w => ?_⟩
  rw [run_callFunc_extern Try.func76 (by kernel_rfl) (by kernel_rfl) (by kernel_rfl) (e := sub64Entry) (by kernel_rfl), run_sub64 x y c hc]
  rfl

theorem wrapN (a : Nat) (ha : a < 18446744073709551616) : IntKind.u64.wrap (a : Int) = (a : Int) := by rw [IntKind.wrap_u64]; omega

set_option maxHeartbeats 1000000 in
theorem mul64 (x y : Nat) (hx : x < 18446744073709551616) (hy : y < 18446744073709551616) (w : World) :
    Calls Try.prog 85 #[.int .u64 x, .int .u64 y] w fun e w' => e = .returned (.tuple #[.int .u64 ((x * y / 18446744073709551616 : Nat) : Int), .int .u64 ((x * y % 18446744073709551616 : Nat) : Int)]) ∧ w' = w := by
  obtain ⟨bd, bt, bw, hhi⟩ := Lib.mul64_hi x y hx hy
  have ba := Lib.half_mul_le (a := x / 4294967296) (b := y / 4294967296) (by omega) (by omega)
  have bb := Lib.half_mul_le (a := x / 4294967296) (b := y % 4294967296) (by omega) (by omega)
  have bc := Lib.half_mul_le (a := x % 4294967296) (b := y / 4294967296) (by omega) (by omega)
  have ba' : x / 4294967296 * (y / 4294967296) < 18446744073709551616 := by omega
  have bb' : x / 4294967296 * (y % 4294967296) < 18446744073709551616 := by omega
  have bc' : x % 4294967296 * (y / 4294967296) < 18446744073709551616 := by omega
  have bh1 : x / 4294967296 * (y / 4294967296) + (x / 4294967296 * (y % 4294967296) + x % 4294967296 * (y % 4294967296) / 4294967296) / 4294967296 < 18446744073709551616 := by omega
  have bh : x / 4294967296 * (y / 4294967296) + (x / 4294967296 * (y % 4294967296) + x % 4294967296 * (y % 4294967296) / 4294967296) / 4294967296 + ((x / 4294967296 * (y % 4294967296) + x % 4294967296 * (y % 4294967296) / 4294967296) % 4294967296 + x % 4294967296 * (y / 4294967296)) / 4294967296 < 18446744073709551616 := by omega
  go_enter Try.func85, Try.ntmps85
  go_wp2
  simp only [Mul64.maskN x hx, Mul64.maskN y hy, Mul64.divN, Mul64.mulN, Mul64.addN, Mul64.wrapN _ bd, Mul64.wrapN _ bb', Mul64.wrapN _ bt, Mul64.maskN _ bt, Mul64.wrapN _ bc', Mul64.wrapN _ bw, Mul64.wrapN _ ba', Mul64.wrapN _ bh1, Mul64.wrapN _ bh, Mul64.wrapM (x * y)]
  rw [hhi]
  go_ret2
  exact ⟨rfl, rfl⟩

theorem mul64_ex (x y : Nat) (hx : x < 18446744073709551616) (hy : y < 18446744073709551616) (w : World) :
    Calls Try.prog 85 #[.int .u64 x, .int .u64 y] w fun e w' => ∃ hi lo : Nat, hi < 18446744073709551616 - 1 ∧ lo < 18446744073709551616 ∧ Hid (lo + 18446744073709551616 * hi = x * y) ∧ e = .returned (.tuple #[.int .u64 hi, .int .u64 lo]) ∧ w' = w := by
  refine (mul64 x y hx hy w).mono ?_
  rintro e w' ⟨rfl, rfl⟩
  have hb : x * y ≤ 18446744073709551615 * 18446744073709551615 := Nat.mul_le_mul (by omega) (by omega)
  exact ⟨_, _, by omega, Nat.mod_lt _ (by omega), hide1 (by omega), rfl, rfl⟩

set_option maxHeartbeats 1000000 in
theorem step_any (a m n o : Nat) (ha : a < 18446744073709551616) (hm : m < 18446744073709551616) (hn : n < 18446744073709551616) (ho : o < 18446744073709551616) (w : World) :
    Calls Try.prog 80 #[.int .u64 a, .int .u64 m, .int .u64 n, .int .u64 o] w fun e w' => ∃ lo hi : Nat, lo < 18446744073709551616 ∧ hi < 18446744073709551616 ∧ Hid (lo + 18446744073709551616 * hi = a + m * n + o) ∧ e = .returned (.tuple #[.int .u64 lo, .int .u64 hi]) ∧ w' = w := by
  go_enter Try.func80, Try.ntmps80
  go_wp2_with fail
  refine (mul64_ex m n hm hn _).mono ?_
  rintro e w1 ⟨hi, lo, h1, h2, h3, rfl, rfl⟩
  obtain ⟨s, k, hs, hk, e1, c1⟩ := add64_ex0 lo a h2 ha
  obtain ⟨t, j, ht, hj, e2, c2⟩ := add64_ex0 s o hs ho
  have hb : m * n ≤ 18446744073709551615 * 18446744073709551615 := Nat.mul_le_mul (by omega) (by omega)
  have b1 : hi + k < 18446744073709551616 := by have := h3.out; have := e1.out; omega
  have b2 : hi + k + j < 18446744073709551616 := by have := h3.out; have := e1.out; have := e2.out; omega
  clear hb
  go_wp2
  go_ret2
  refine ⟨t, hi + k + j, ht, b2, hide1 ?_, ?_, rfl⟩
  · have := h3.out; have := e1.out; have := e2.out; omega
  · simp

theorem step_ex (a m n o : Nat) (ha : a < 18446744073709551616) (hm : m < 18446744073709551616) (hn : n < 18446744073709551616) (ho : o < 18446744073709551616) :
    ∃ lo hi : Nat, lo < 18446744073709551616 ∧ hi < 18446744073709551616 ∧ Hid (lo + 18446744073709551616 * hi = a + m * n + o) ∧
      ∀ w, Calls Try.prog 80 #[.int .u64 a, .int .u64 m, .int .u64 n, .int .u64 o] w fun e w' => e = .returned (.tuple #[.int .u64 lo, .int .u64 hi]) ∧ w' = w := by
  have hb : m * n ≤ 18446744073709551615 * 18446744073709551615 := Nat.mul_le_mul (by omega) (by omega)
  refine ⟨(a + m * n + o) % 18446744073709551616, (a + m * n + o) / 18446744073709551616, by omega, by omega, hide1 (by omega), fun w => ?_⟩
  refine (step_any a m n o ha hm hn ho w).mono ?_
  rintro e w' ⟨lo, hi, h1, h2, h3, rfl, rfl⟩
  have h := h3.out
  have e1 : (a + m * n + o) % 18446744073709551616 = lo := by omega
  have e2 : (a + m * n + o) / 18446744073709551616 = hi := by omega
  rw [e1, e2]
  exact ⟨rfl, rfl⟩
end Go.Proofs.Ytpogmflgmpifoaa

namespace Go.Proofs.Ytpogmflgmpifoaa
open Go.RowKit Go.Shelf

theorem rounds_1 {P : Program} {a : Act} {w : World} {Q : Exit → Act → World → Prop} {c : Code} {n : Nat} (h : c.wp P (Exit.then (Code.rounds P c Q n) Q) a w) : Code.rounds P c Q (n + 1) a w := by rw [rounds_succ]; exact h
/-- An operation on slots that the region turns later, read as they stood. -/
theorem k_b0 {P : Program} {W : Wd} {ops : Array Oper} {s0 s1 : List SV} {z : List Blk} {y : List (Array Value)} {o : Oper} {p : BinOp} {t t' : TypeId} {x u : Operand} {d : Tmp} (x1 u1 v : Value) (hr : ∀ w, (do eqGuard p t x u x1 u1; binOp p t x1 u1).run P w = .ok v w) (ho : o.op = .binOp p t x u t') (hd : o.dst = some d) (hw : wantF ops s1 o = true := by kernel_rfl) (hpx : plainB s0 x = true := by kernel_rfl) (hx1 : evS s0 x = x1 := by kernel_rfl) (hpu : plainB s0 u = true := by kernel_rfl) (hu1 : evS s0 u = u1 := by kernel_rfl) (hs : slot s1 d = .inl v := by kernel_rfl) : Ok1 P W ops s0 s1 z y o ⟨none, none, none, true⟩ := by
  refine Or.inl ⟨hw, ⟨?_, fun b h => by simp at h, fun b _ h => by simp at h, ?_⟩⟩
  · rintro b (h | h | ⟨_, d', off, h1, h2⟩)
    · simp at h
    · simp at h
    · rw [hd] at h1; cases h1; rw [hs] at h2; cases h2
  · intro β a w ha hb hr' K Q hK
    have h1 : a.eval x = x1 := by rw [← hx1]; exact ev_plain ha (by rw [ho]; simp [Op.operands]) hpx
    have h2 : a.eval u = u1 := by rw [← hu1]; exact ev_plain ha (by rw [ho]; simp [Op.operands]) hpu
    have h3 := hr w
    unfold Oper.wp
    simp only [execOp, ho, h1, h2, Sem.run_bind, h3, Result.andThen_ok, Sem.run_pure, Oper.upon_value]
    exact hK _ _ ⟨fun d' h => by rw [hd] at h; cases h; rw [hs]; rfl, Below.refl _ _⟩
/-- Four words. -/
def w4 (a b c d : Nat) : Array Value := #[.int .u64 ((a : Nat) : Int), .int .u64 ((b : Nat) : Int), .int .u64 ((c : Nat) : Int), .int .u64 ((d : Nat) : Int)]
theorem ld_w {c : Array Value} {i v : Nat} (t0 : TypeId) (hi : c[i]? = some (.int .u64 ((v : Nat) : Int))) (w : World) (q : Nat) (h : w.heap[q]? = some (.cells c t0 (0, 0))) : (Instr.loadAt 25 (.pointer (some ⟨q, i, none⟩))).run Try.prog w = .ok (.int .u64 ((v : Nat) : Int)) w := by
  have h1 : w.cell? ⟨q, i, none⟩ = some (.int .u64 ((v : Nat) : Int)) := by rw [cell_of_row _ _ _ _ _ _ h]; exact hi
  simp [Instr.loadAt, Instr.sureAddr, go_sem, h1]
theorem st_w {c n : Array Value} {i v : Nat} (t0 : TypeId) {u : Value} (hi : c[i]? = some u) (hs : c.setIfInBounds i (.int .u64 ((v : Nat) : Int)) = n) (w : World) (q : Nat) (h : w.heap[q]? = some (.cells c t0 (0, 0))) : (Instr.storeAt 25 (.pointer (some ⟨q, i, none⟩)) (.int .u64 ((v : Nat) : Int))).run Try.prog w = .ok () (w.setRow q n) := by
  have h1 : w.cell? ⟨q, i, none⟩ = some u := by rw [cell_of_row _ _ _ _ _ _ h]; exact hi
  have h2 : w.setCell ⟨q, i, none⟩ (.int .u64 ((v : Nat) : Int)) = w.setRow q n := by rw [set_row h, hs]
  have h3 : w.frozen? ⟨q, i, none⟩ = false := by simp [World.frozen?, h]
  simp [Instr.storeAt, Instr.sureAddr, go_sem, h1, h2, h3]
theorem w4_one (a b c d : Nat) : (w4 a b c d).all (·.oneCell') = true := by simp [w4, Value.oneCell']
theorem ldW {a b c d : Nat} (t0 : TypeId) (w : World) (q : Nat) (h : w.heap[q]? = some (.cells (w4 a b c d) t0 (0, 0))) : (Instr.loadAt 83 (.pointer (some ⟨q, 0, none⟩))).run Try.prog w = .ok (.agg (w4 a b c d)) w :=
  ld_row (c := w4 a b c d) Try.underlying83 rfl (by kernel_rfl) w q h
theorem stW {a b c d : Nat} {e : Array Value} (t0 : TypeId) (he : e.size = 4) (w : World) (q : Nat) (h : w.heap[q]? = some (.cells e t0 (0, 0))) : (Instr.storeAt 83 (.pointer (some ⟨q, 0, none⟩)) (.agg (w4 a b c d))).run Try.prog w = .ok () (w.setRow q (w4 a b c d)) :=
  st_row (n := w4 a b c d) (by kernel_rfl) he (w4_one _ _ _ _) w q h
theorem alW (w : World) : (Instr.alloc 83 true (.tuple #[])).run Try.prog w = .ok (.pointer (some ⟨w.heap.size, 0, none⟩)) (w.alloc (.cells (w4 0 0 0 0) 83)) := by
  simp [Instr.alloc, go_sem]
  rfl
theorem bxW {a b c d : Nat} (w : World) : (Instr.box 83 (.agg (w4 a b c d))).run Try.prog w = .ok (.pointer (some ⟨w.heap.size, 0, none⟩)) (w.alloc (.cells (w4 a b c d) 83)) := bx_agg w
theorem eq_u64 {x u : Operand} {m n : Nat} {b : Bool} (h : decide (m = n) = b) (w : World) : (do eqGuard .eql 25 x u (.int .u64 ((m : Nat) : Int)) (.int .u64 ((n : Nat) : Int)); binOp .eql 25 (.int .u64 ((m : Nat) : Int)) (.int .u64 ((n : Nat) : Int))).run Try.prog w = .ok (.bool b) w := by
  have h1 : (((m : Nat) : Int) == ((n : Nat) : Int)) = b := by rw [← h, Bool.eq_iff_iff]; simp; omega
  simp [eqGuard, binOp, go_sem, h1]

theorem ad_k {x u : Operand} {m n k : Nat} (h : m + n = k) (hk : k < 9223372036854775808) (w : World) : (do eqGuard .add 3 x u (.int .i64 ((m : Nat) : Int)) (.int .i64 ((n : Nat) : Int)); binOp .add 3 (.int .i64 ((m : Nat) : Int)) (.int .i64 ((n : Nat) : Int))).run Try.prog w = .ok (.int .i64 ((k : Nat) : Int)) w := by
  subst h; exact ad_i hk w
/-- The order. -/
def oL : Nat := 7237005577332262213973186563042994240857116359379907606001950938285454250989
/-- A number's words. -/
def rs (n : Nat) : Array Value := w4 (n % 18446744073709551616) (n / 18446744073709551616 % 18446744073709551616) (n / 340282366920938463463374607431768211456 % 18446744073709551616) (n / 6277101735386680763835789423207666416102355444464034512896 % 18446744073709551616)
theorem rs_of {a b c d n : Nat} (ha : a < 18446744073709551616) (hb : b < 18446744073709551616) (hc : c < 18446744073709551616) (hd : d < 18446744073709551616) (h : n = a + 18446744073709551616 * b + 340282366920938463463374607431768211456 * c + 6277101735386680763835789423207666416102355444464034512896 * d) : w4 a b c d = rs n := by
  unfold rs
  have e1 : n % 18446744073709551616 = a := by omega
  have e2 : n / 18446744073709551616 % 18446744073709551616 = b := by omega
  have e3 : n / 340282366920938463463374607431768211456 % 18446744073709551616 = c := by omega
  have e4 : n / 6277101735386680763835789423207666416102355444464034512896 % 18446744073709551616 = d := by omega
  rw [e1, e2, e3, e4]
end Go.Proofs.Ytpogmflgmpifoaa

namespace Go.Proofs.Ytpogmflgmpifoaa
open Go.RowKit Go.Shelf

theorem order_r (W0 : World) : Calls Try.prog 74 #[] W0 fun e w' => e = .returned (.agg (w4 6346243789798364141 1503914060200516822 0 1152921504606846976)) ∧ Below W0.heap.size W0 w' := by
  refine s_in Try.func74 Try.ntmps74 rfl [] ?_
  intro β a h
  refine sym_seq ?_
  refine St.rg h [(0, .inr (0, pt 0))] [(w4 0 0 0 0, 83)] [] [eN 0] ?_ ?_
  · exact oc (k_al 0 alW rfl rfl) <|
    ok_nil
  clear h; intro β a w h
  refine sym_then ?_
  refine sym_seq ?_
  refine St.rg h [(1, .inl (.agg (w4 6346243789798364141 1503914060200516822 0 1152921504606846976)))] [] [(0, w4 6346243789798364141 1503914060200516822 0 1152921504606846976)] [nn, eS 0] ?_ ?_
  · exact oc (k_bu #[(0, .int .u64 ((6346243789798364141 : Nat) : Int)), (1, .int .u64 ((1503914060200516822 : Nat) : Int)), (2, .int .u64 ((0 : Nat) : Int)), (3, .int .u64 ((1152921504606846976 : Nat) : Int))] (.agg (w4 6346243789798364141 1503914060200516822 0 1152921504606846976)) (fun w => by kernel_rfl) rfl rfl) <|
    oc (k_st 0 0 (.agg (w4 6346243789798364141 1503914060200516822 0 1152921504606846976)) (c := w4 0 0 0 0) (n := w4 6346243789798364141 1503914060200516822 0 1152921504606846976) (stW 83 rfl) rfl rfl) <|
    ok_nil
  clear h; intro β a w h
  refine sym_then ?_
  refine wp_ret ?_
  exact s_rc (b := 0) (t0 := 83) (c := w4 6346243789798364141 1503914060200516822 0 1152921504606846976) h Try.results74 Try.underlying83 (fun hb => ⟨rfl, hb⟩) (by kernel_rfl)

set_option maxHeartbeats 4000000 in
theorem pls_s {a0 a1 a2 a3 b0 b1 b2 b3 s0 s1 s2 s3 k0 k1 k2 k3 r0 r1 r2 r3 e0 e1 e2 e3 : Nat} (ca0 : (∀ w, (callFunc 75 #[.int .u64 ((a0 : Nat) : Int), .int .u64 ((b0 : Nat) : Int), .int .u64 ((0 : Nat) : Int)]).run Try.prog w = .ok (.value (.tuple #[.int .u64 ((s0 : Nat) : Int), .int .u64 ((k0 : Nat) : Int)])) w)) (ca1 : (∀ w, (callFunc 75 #[.int .u64 ((a1 : Nat) : Int), .int .u64 ((b1 : Nat) : Int), .int .u64 ((k0 : Nat) : Int)]).run Try.prog w = .ok (.value (.tuple #[.int .u64 ((s1 : Nat) : Int), .int .u64 ((k1 : Nat) : Int)])) w)) (ca2 : (∀ w, (callFunc 75 #[.int .u64 ((a2 : Nat) : Int), .int .u64 ((b2 : Nat) : Int), .int .u64 ((k1 : Nat) : Int)]).run Try.prog w = .ok (.value (.tuple #[.int .u64 ((s2 : Nat) : Int), .int .u64 ((k2 : Nat) : Int)])) w)) (ca3 : (∀ w, (callFunc 75 #[.int .u64 ((a3 : Nat) : Int), .int .u64 ((b3 : Nat) : Int), .int .u64 ((k2 : Nat) : Int)]).run Try.prog w = .ok (.value (.tuple #[.int .u64 ((s3 : Nat) : Int), .int .u64 ((k3 : Nat) : Int)])) w))
    (cs0 : (∀ w, (callFunc 76 #[.int .u64 ((s0 : Nat) : Int), .int .u64 ((6346243789798364141 : Nat) : Int), .int .u64 ((0 : Nat) : Int)]).run Try.prog w = .ok (.value (.tuple #[.int .u64 ((r0 : Nat) : Int), .int .u64 ((e0 : Nat) : Int)])) w)) (cs1 : (∀ w, (callFunc 76 #[.int .u64 ((s1 : Nat) : Int), .int .u64 ((1503914060200516822 : Nat) : Int), .int .u64 ((e0 : Nat) : Int)]).run Try.prog w = .ok (.value (.tuple #[.int .u64 ((r1 : Nat) : Int), .int .u64 ((e1 : Nat) : Int)])) w)) (cs2 : (∀ w, (callFunc 76 #[.int .u64 ((s2 : Nat) : Int), .int .u64 ((0 : Nat) : Int), .int .u64 ((e1 : Nat) : Int)]).run Try.prog w = .ok (.value (.tuple #[.int .u64 ((r2 : Nat) : Int), .int .u64 ((e2 : Nat) : Int)])) w)) (cs3 : (∀ w, (callFunc 76 #[.int .u64 ((s3 : Nat) : Int), .int .u64 ((1152921504606846976 : Nat) : Int), .int .u64 ((e2 : Nat) : Int)]).run Try.prog w = .ok (.value (.tuple #[.int .u64 ((r3 : Nat) : Int), .int .u64 ((e3 : Nat) : Int)])) w))
    (hb : e3 = 1) (W0 : World) : Calls Try.prog 52 #[.agg (w4 a0 a1 a2 a3), .agg (w4 b0 b1 b2 b3)] W0 fun e w' => e = .returned (.agg (w4 s0 s1 s2 s3)) ∧ Below W0.heap.size W0 w' := by
  refine s_in Try.func52 Try.ntmps52 rfl [.inl (.agg (w4 a0 a1 a2 a3)), .inl (.agg (w4 b0 b1 b2 b3))] ?_
  intro β a h
  refine sym_seq ?_
  refine St.rg h [(2, .inr (0, pt 0)), (3, .inr (1, pt 0)), (4, .inr (2, pt 0))] [(w4 a0 a1 a2 a3, 83), (w4 b0 b1 b2 b3, 83), (w4 0 0 0 0, 83)] [] [eN 0, eN 1, eN 2] ?_ ?_
  · exact oc (k_bx 0 (.agg (w4 a0 a1 a2 a3)) bxW rfl rfl) <|
    oc (k_bx 1 (.agg (w4 b0 b1 b2 b3)) bxW rfl rfl) <|
    oc (k_al 2 alW rfl rfl) <|
    ok_nil
  clear h; intro β a w h
  refine sym_then ?_
  refine sym_seq ?_
  refine St.rg h [(5, .inr (3, pt 0)), (6, .inr (4, pt 0))] [(w4 0 0 0 0, 83), (w4 0 0 0 0, 83)] [] [eN 3, eN 4] ?_ ?_
  · exact oc (k_al 3 alW rfl rfl) <|
    oc (k_al 4 alW rfl rfl) <|
    ok_nil
  clear h; intro β a w h
  refine sym_then ?_
  refine sym_seq ?_
  refine St.r0 h [(7, .inl (.int .u64 ((0 : Nat) : Int))), (8, .inl (.int .u64 ((0 : Nat) : Int)))] [] ?_ ?_
  · exact oz (k_mv (.inr rfl) rfl) <|
    oz (k_mv (.inr rfl) rfl) <|
    ok_nil
  clear h; intro β a w h
  refine sym_then ?_
  refine sym_seq ?_
  refine sym_seq ?_
  refine St.r0 h [(11, .inl (.agg (w4 6346243789798364141 1503914060200516822 0 1152921504606846976))), (12, .inl (.int .i64 ((0 : Nat) : Int)))] [] ?_ ?_
  · exact oz (k_ca 74 #[] (.agg (w4 6346243789798364141 1503914060200516822 0 1152921504606846976)) order_r rfl rfl) <|
    oz (k_mv (.inl rfl) rfl) <|
    ok_nil
  clear h; intro β a w h
  refine sym_then ?_
  refine blk_in ?_
  refine wp_loop_rounds 5 ?_
  refine rounds_1 ?_
  refine sym_seq ?_
  refine St.r0 h [(13, .inl (.bool true))] [] ?_ ?_
  · exact oz (k_bi (.int .i64 ((0 : Nat) : Int)) (.int .i64 ((4 : Nat) : Int)) (.bool true) (lt_i (m := ((0 : Nat) : Int)) (n := ((4 : Nat) : Int)) (by decide)) rfl rfl) <|
    ok_nil
  clear h; intro β a w h
  refine sym_then ?_
  refine sym_seq ?_
  refine s_ct h ?_
  refine wp_skip ?_
  refine sym_then ?_
  refine sym_seq ?_
  refine blk_in ?_
  refine sym_seq ?_
  refine St.r0 h [(14, .inl (.int .i64 ((0 : Nat) : Int))), (15, .inl (.int .u64 ((6346243789798364141 : Nat) : Int))), (9, .inl (.int .i64 ((0 : Nat) : Int))), (10, .inl (.int .u64 ((6346243789798364141 : Nat) : Int)))] [] ?_ ?_
  · exact oz (k_mv (.inl rfl) rfl) <|
    oz (k_ix (.agg (w4 6346243789798364141 1503914060200516822 0 1152921504606846976)) (.int .i64 ((0 : Nat) : Int)) (.int .u64 ((6346243789798364141 : Nat) : Int)) (fun w => by kernel_rfl) rfl rfl) <|
    oz (k_mv (.inr rfl) rfl) <|
    oz (k_mv (.inr rfl) rfl) <|
    ok_nil
  clear h; intro β a w h
  refine sym_then ?_
  refine sym_seq ?_
  refine St.rg h [(17, .inl (.int .i64 ((0 : Nat) : Int))), (18, .inl (.int .i64 ((0 : Nat) : Int))), (19, .inr (0, pt 0)), (20, .inl (.int .u64 ((a0 : Nat) : Int))), (21, .inl (.int .i64 ((0 : Nat) : Int))), (22, .inr (1, pt 0)), (23, .inl (.int .u64 ((b0 : Nat) : Int))), (24, .inl (.int .u64 ((0 : Nat) : Int))), (25, .inl (.tuple #[.int .u64 ((s0 : Nat) : Int), .int .u64 ((k0 : Nat) : Int)])), (16, .inl (.tuple #[.int .u64 ((s0 : Nat) : Int), .int .u64 ((k0 : Nat) : Int)])), (26, .inl (.int .u64 ((s0 : Nat) : Int))), (27, .inl (.int .u64 ((k0 : Nat) : Int))), (28, .inr (3, pt 0)), (7, .inl (.int .u64 ((k0 : Nat) : Int)))] [] [(3, w4 s0 0 0 0)] [nn, nn, nn, eR 0, nn, nn, eR 1, eO, nn, nn, nn, nn, nn, eS 3] ?_ ?_
  · exact oc (k_mv (.inl rfl) rfl) <|
    oc (k_mv (.inl rfl) rfl) <|
    oc (k_ia 0 0 0 (.int .i64 ((0 : Nat) : Int)) (fun w q => by kernel_rfl) rfl rfl) <|
    oc (k_ld 0 0 (.int .u64 ((a0 : Nat) : Int)) (c := w4 a0 a1 a2 a3) (ld_w (i := 0) (v := a0) 83 rfl) rfl rfl) <|
    oc (k_mv (.inl rfl) rfl) <|
    oc (k_ia 1 0 0 (.int .i64 ((0 : Nat) : Int)) (fun w q => by kernel_rfl) rfl rfl) <|
    oc (k_ld 1 0 (.int .u64 ((b0 : Nat) : Int)) (c := w4 b0 b1 b2 b3) (ld_w (i := 0) (v := b0) 83 rfl) rfl rfl) <|
    oc (k_m0 rfl rfl) <|
    oc (k_cx 75 #[.int .u64 ((a0 : Nat) : Int), .int .u64 ((b0 : Nat) : Int), .int .u64 ((0 : Nat) : Int)] (.tuple #[.int .u64 ((s0 : Nat) : Int), .int .u64 ((k0 : Nat) : Int)]) ca0 rfl rfl) <|
    oc (k_mv (.inl rfl) rfl) <|
    oc (k_ex (.tuple #[.int .u64 ((s0 : Nat) : Int), .int .u64 ((k0 : Nat) : Int)]) (.int .u64 ((s0 : Nat) : Int)) rfl rfl) <|
    oc (k_ex (.tuple #[.int .u64 ((s0 : Nat) : Int), .int .u64 ((k0 : Nat) : Int)]) (.int .u64 ((k0 : Nat) : Int)) rfl rfl) <|
    oc (k_ia 3 0 0 (.int .i64 ((0 : Nat) : Int)) (fun w q => by kernel_rfl) rfl rfl) <|
    oc (k_st 3 0 (.int .u64 ((s0 : Nat) : Int)) (c := w4 0 0 0 0) (n := w4 s0 0 0 0) (st_w (i := 0) (v := s0) (n := w4 s0 0 0 0) 83 rfl rfl) rfl rfl) <|
    oz (k_mv (.inr rfl) rfl) <|
    ok_nil
  clear h; intro β a w h
  refine sym_then ?_
  refine St.rg h [(30, .inl (.int .i64 ((0 : Nat) : Int))), (31, .inl (.int .i64 ((0 : Nat) : Int))), (32, .inr (3, pt 0)), (33, .inl (.int .u64 ((s0 : Nat) : Int))), (34, .inl (.int .u64 ((6346243789798364141 : Nat) : Int))), (35, .inl (.int .u64 ((0 : Nat) : Int))), (36, .inl (.tuple #[.int .u64 ((r0 : Nat) : Int), .int .u64 ((e0 : Nat) : Int)])), (29, .inl (.tuple #[.int .u64 ((r0 : Nat) : Int), .int .u64 ((e0 : Nat) : Int)])), (37, .inl (.int .u64 ((r0 : Nat) : Int))), (38, .inl (.int .u64 ((e0 : Nat) : Int))), (39, .inr (4, pt 0)), (8, .inl (.int .u64 ((e0 : Nat) : Int)))] [] [(4, w4 r0 0 0 0)] [nn, nn, nn, eR 3, nn, eO, nn, nn, nn, nn, nn, eS 4] ?_ ?_
  · exact oc (k_mv (.inl rfl) rfl) <|
    oc (k_mv (.inl rfl) rfl) <|
    oc (k_ia 3 0 0 (.int .i64 ((0 : Nat) : Int)) (fun w q => by kernel_rfl) rfl rfl) <|
    oc (k_ld 3 0 (.int .u64 ((s0 : Nat) : Int)) (c := w4 s0 0 0 0) (ld_w (i := 0) (v := s0) 83 rfl) rfl rfl) <|
    oc (k_mv (.inl rfl) rfl) <|
    oc (k_m0 rfl rfl) <|
    oc (k_cx 76 #[.int .u64 ((s0 : Nat) : Int), .int .u64 ((6346243789798364141 : Nat) : Int), .int .u64 ((0 : Nat) : Int)] (.tuple #[.int .u64 ((r0 : Nat) : Int), .int .u64 ((e0 : Nat) : Int)]) cs0 rfl rfl) <|
    oc (k_mv (.inl rfl) rfl) <|
    oc (k_ex (.tuple #[.int .u64 ((r0 : Nat) : Int), .int .u64 ((e0 : Nat) : Int)]) (.int .u64 ((r0 : Nat) : Int)) rfl rfl) <|
    oc (k_ex (.tuple #[.int .u64 ((r0 : Nat) : Int), .int .u64 ((e0 : Nat) : Int)]) (.int .u64 ((e0 : Nat) : Int)) rfl rfl) <|
    oc (k_ia 4 0 0 (.int .i64 ((0 : Nat) : Int)) (fun w q => by kernel_rfl) rfl rfl) <|
    oc (k_st 4 0 (.int .u64 ((r0 : Nat) : Int)) (c := w4 0 0 0 0) (n := w4 r0 0 0 0) (st_w (i := 0) (v := r0) (n := w4 r0 0 0 0) 83 rfl rfl) rfl rfl) <|
    oz (k_mv (.inr rfl) rfl) <|
    ok_nil
  clear h; intro β a w h
  refine blk_norm ?_
  refine sym_then ?_
  refine St.r0 h [(40, .inl (.int .i64 ((1 : Nat) : Int))), (12, .inl (.int .i64 ((1 : Nat) : Int)))] [eO] ?_ ?_
  · exact oc (k_b0 (.int .i64 ((0 : Nat) : Int)) (.int .i64 ((1 : Nat) : Int)) (.int .i64 ((1 : Nat) : Int)) (ad_k (m := 0) (n := 1) rfl (by decide)) rfl rfl) <|
    oz (k_mv (.inl rfl) rfl) <|
    ok_nil
  clear h; intro β a w h
  refine then_norm ?_
  replace h := St.cs h (s' := [.inl (.agg (w4 a0 a1 a2 a3)), .inl (.agg (w4 b0 b1 b2 b3)), .inr (0, pt 0), .inr (1, pt 0), .inr (2, pt 0), .inr (3, pt 0), .inr (4, pt 0), .inl (.int .u64 ((k0 : Nat) : Int)), .inl (.int .u64 ((e0 : Nat) : Int)), .inl (.int .i64 ((0 : Nat) : Int)), .inl (.int .u64 ((6346243789798364141 : Nat) : Int)), .inl (.agg (w4 6346243789798364141 1503914060200516822 0 1152921504606846976)), .inl (.int .i64 ((1 : Nat) : Int)), .inl (.bool true), .inl (.int .i64 ((0 : Nat) : Int)), .inl (.int .u64 ((6346243789798364141 : Nat) : Int)), .inl (.tuple #[.int .u64 ((s0 : Nat) : Int), .int .u64 ((k0 : Nat) : Int)]), .inl (.int .i64 ((0 : Nat) : Int)), .inl (.int .i64 ((0 : Nat) : Int)), .inr (0, pt 0), .inl (.int .u64 ((a0 : Nat) : Int)), .inl (.int .i64 ((0 : Nat) : Int)), .inr (1, pt 0), .inl (.int .u64 ((b0 : Nat) : Int)), .inl (.int .u64 ((0 : Nat) : Int)), .inl (.tuple #[.int .u64 ((s0 : Nat) : Int), .int .u64 ((k0 : Nat) : Int)]), .inl (.int .u64 ((s0 : Nat) : Int)), .inl (.int .u64 ((k0 : Nat) : Int)), .inr (3, pt 0), .inl (.tuple #[.int .u64 ((r0 : Nat) : Int), .int .u64 ((e0 : Nat) : Int)]), .inl (.int .i64 ((0 : Nat) : Int)), .inl (.int .i64 ((0 : Nat) : Int)), .inr (3, pt 0), .inl (.int .u64 ((s0 : Nat) : Int)), .inl (.int .u64 ((6346243789798364141 : Nat) : Int)), .inl (.int .u64 ((0 : Nat) : Int)), .inl (.tuple #[.int .u64 ((r0 : Nat) : Int), .int .u64 ((e0 : Nat) : Int)]), .inl (.int .u64 ((r0 : Nat) : Int)), .inl (.int .u64 ((e0 : Nat) : Int)), .inr (4, pt 0), .inl (.int .i64 ((1 : Nat) : Int)), uu, uu, uu, uu]) (m' := [(w4 a0 a1 a2 a3, 83), (w4 b0 b1 b2 b3, 83), (w4 0 0 0 0, 83), (w4 s0 0 0 0, 83), (w4 r0 0 0 0, 83)]) (by kernel_rfl) (by kernel_rfl)
  replace h := h.o0
  refine rounds_1 ?_
  refine sym_seq ?_
  refine St.r0 h [] [] ?_ ?_
  · exact oz (k_bi (.int .i64 ((1 : Nat) : Int)) (.int .i64 ((4 : Nat) : Int)) (.bool true) (lt_i (m := ((1 : Nat) : Int)) (n := ((4 : Nat) : Int)) (by decide)) rfl rfl) <|
    ok_nil
  clear h; intro β a w h
  refine sym_then ?_
  refine sym_seq ?_
  refine s_ct h ?_
  refine wp_skip ?_
  refine sym_then ?_
  refine sym_seq ?_
  refine blk_in ?_
  refine sym_seq ?_
  refine St.r0 h [(14, .inl (.int .i64 ((1 : Nat) : Int))), (15, .inl (.int .u64 ((1503914060200516822 : Nat) : Int))), (9, .inl (.int .i64 ((1 : Nat) : Int))), (10, .inl (.int .u64 ((1503914060200516822 : Nat) : Int)))] [] ?_ ?_
  · exact oz (k_mv (.inl rfl) rfl) <|
    oz (k_ix (.agg (w4 6346243789798364141 1503914060200516822 0 1152921504606846976)) (.int .i64 ((1 : Nat) : Int)) (.int .u64 ((1503914060200516822 : Nat) : Int)) (fun w => by kernel_rfl) rfl rfl) <|
    oz (k_mv (.inr rfl) rfl) <|
    oz (k_mv (.inr rfl) rfl) <|
    ok_nil
  clear h; intro β a w h
  refine sym_then ?_
  refine sym_seq ?_
  refine St.rg h [(17, .inl (.int .i64 ((1 : Nat) : Int))), (18, .inl (.int .i64 ((1 : Nat) : Int))), (19, .inr (0, pt 1)), (20, .inl (.int .u64 ((a1 : Nat) : Int))), (21, .inl (.int .i64 ((1 : Nat) : Int))), (22, .inr (1, pt 1)), (23, .inl (.int .u64 ((b1 : Nat) : Int))), (24, .inl (.int .u64 ((k0 : Nat) : Int))), (25, .inl (.tuple #[.int .u64 ((s1 : Nat) : Int), .int .u64 ((k1 : Nat) : Int)])), (16, .inl (.tuple #[.int .u64 ((s1 : Nat) : Int), .int .u64 ((k1 : Nat) : Int)])), (26, .inl (.int .u64 ((s1 : Nat) : Int))), (27, .inl (.int .u64 ((k1 : Nat) : Int))), (28, .inr (3, pt 1)), (7, .inl (.int .u64 ((k1 : Nat) : Int)))] [] [(3, w4 s0 s1 0 0)] [nn, nn, nn, eR 0, nn, nn, eR 1, eO, nn, nn, nn, nn, nn, eS 3] ?_ ?_
  · exact oc (k_mv (.inl rfl) rfl) <|
    oc (k_mv (.inl rfl) rfl) <|
    oc (k_ia 0 0 1 (.int .i64 ((1 : Nat) : Int)) (fun w q => by kernel_rfl) rfl rfl) <|
    oc (k_ld 0 1 (.int .u64 ((a1 : Nat) : Int)) (c := w4 a0 a1 a2 a3) (ld_w (i := 1) (v := a1) 83 rfl) rfl rfl) <|
    oc (k_mv (.inl rfl) rfl) <|
    oc (k_ia 1 0 1 (.int .i64 ((1 : Nat) : Int)) (fun w q => by kernel_rfl) rfl rfl) <|
    oc (k_ld 1 1 (.int .u64 ((b1 : Nat) : Int)) (c := w4 b0 b1 b2 b3) (ld_w (i := 1) (v := b1) 83 rfl) rfl rfl) <|
    oc (k_m0 rfl rfl) <|
    oc (k_cx 75 #[.int .u64 ((a1 : Nat) : Int), .int .u64 ((b1 : Nat) : Int), .int .u64 ((k0 : Nat) : Int)] (.tuple #[.int .u64 ((s1 : Nat) : Int), .int .u64 ((k1 : Nat) : Int)]) ca1 rfl rfl) <|
    oc (k_mv (.inl rfl) rfl) <|
    oc (k_ex (.tuple #[.int .u64 ((s1 : Nat) : Int), .int .u64 ((k1 : Nat) : Int)]) (.int .u64 ((s1 : Nat) : Int)) rfl rfl) <|
    oc (k_ex (.tuple #[.int .u64 ((s1 : Nat) : Int), .int .u64 ((k1 : Nat) : Int)]) (.int .u64 ((k1 : Nat) : Int)) rfl rfl) <|
    oc (k_ia 3 0 1 (.int .i64 ((1 : Nat) : Int)) (fun w q => by kernel_rfl) rfl rfl) <|
    oc (k_st 3 1 (.int .u64 ((s1 : Nat) : Int)) (c := w4 s0 0 0 0) (n := w4 s0 s1 0 0) (st_w (i := 1) (v := s1) (n := w4 s0 s1 0 0) 83 rfl rfl) rfl rfl) <|
    oz (k_mv (.inr rfl) rfl) <|
    ok_nil
  clear h; intro β a w h
  refine sym_then ?_
  refine St.rg h [(30, .inl (.int .i64 ((1 : Nat) : Int))), (31, .inl (.int .i64 ((1 : Nat) : Int))), (32, .inr (3, pt 1)), (33, .inl (.int .u64 ((s1 : Nat) : Int))), (34, .inl (.int .u64 ((1503914060200516822 : Nat) : Int))), (35, .inl (.int .u64 ((e0 : Nat) : Int))), (36, .inl (.tuple #[.int .u64 ((r1 : Nat) : Int), .int .u64 ((e1 : Nat) : Int)])), (29, .inl (.tuple #[.int .u64 ((r1 : Nat) : Int), .int .u64 ((e1 : Nat) : Int)])), (37, .inl (.int .u64 ((r1 : Nat) : Int))), (38, .inl (.int .u64 ((e1 : Nat) : Int))), (39, .inr (4, pt 1)), (8, .inl (.int .u64 ((e1 : Nat) : Int)))] [] [(4, w4 r0 r1 0 0)] [nn, nn, nn, eR 3, nn, eO, nn, nn, nn, nn, nn, eS 4] ?_ ?_
  · exact oc (k_mv (.inl rfl) rfl) <|
    oc (k_mv (.inl rfl) rfl) <|
    oc (k_ia 3 0 1 (.int .i64 ((1 : Nat) : Int)) (fun w q => by kernel_rfl) rfl rfl) <|
    oc (k_ld 3 1 (.int .u64 ((s1 : Nat) : Int)) (c := w4 s0 s1 0 0) (ld_w (i := 1) (v := s1) 83 rfl) rfl rfl) <|
    oc (k_mv (.inl rfl) rfl) <|
    oc (k_m0 rfl rfl) <|
    oc (k_cx 76 #[.int .u64 ((s1 : Nat) : Int), .int .u64 ((1503914060200516822 : Nat) : Int), .int .u64 ((e0 : Nat) : Int)] (.tuple #[.int .u64 ((r1 : Nat) : Int), .int .u64 ((e1 : Nat) : Int)]) cs1 rfl rfl) <|
    oc (k_mv (.inl rfl) rfl) <|
    oc (k_ex (.tuple #[.int .u64 ((r1 : Nat) : Int), .int .u64 ((e1 : Nat) : Int)]) (.int .u64 ((r1 : Nat) : Int)) rfl rfl) <|
    oc (k_ex (.tuple #[.int .u64 ((r1 : Nat) : Int), .int .u64 ((e1 : Nat) : Int)]) (.int .u64 ((e1 : Nat) : Int)) rfl rfl) <|
    oc (k_ia 4 0 1 (.int .i64 ((1 : Nat) : Int)) (fun w q => by kernel_rfl) rfl rfl) <|
    oc (k_st 4 1 (.int .u64 ((r1 : Nat) : Int)) (c := w4 r0 0 0 0) (n := w4 r0 r1 0 0) (st_w (i := 1) (v := r1) (n := w4 r0 r1 0 0) 83 rfl rfl) rfl rfl) <|
    oz (k_mv (.inr rfl) rfl) <|
    ok_nil
  clear h; intro β a w h
  refine blk_norm ?_
  refine sym_then ?_
  refine St.r0 h [(40, .inl (.int .i64 ((2 : Nat) : Int))), (12, .inl (.int .i64 ((2 : Nat) : Int)))] [eO] ?_ ?_
  · exact oc (k_b0 (.int .i64 ((1 : Nat) : Int)) (.int .i64 ((1 : Nat) : Int)) (.int .i64 ((2 : Nat) : Int)) (ad_k (m := 1) (n := 1) rfl (by decide)) rfl rfl) <|
    oz (k_mv (.inl rfl) rfl) <|
    ok_nil
  clear h; intro β a w h
  refine then_norm ?_
  replace h := St.cs h (s' := [.inl (.agg (w4 a0 a1 a2 a3)), .inl (.agg (w4 b0 b1 b2 b3)), .inr (0, pt 0), .inr (1, pt 0), .inr (2, pt 0), .inr (3, pt 0), .inr (4, pt 0), .inl (.int .u64 ((k1 : Nat) : Int)), .inl (.int .u64 ((e1 : Nat) : Int)), .inl (.int .i64 ((1 : Nat) : Int)), .inl (.int .u64 ((1503914060200516822 : Nat) : Int)), .inl (.agg (w4 6346243789798364141 1503914060200516822 0 1152921504606846976)), .inl (.int .i64 ((2 : Nat) : Int)), .inl (.bool true), .inl (.int .i64 ((1 : Nat) : Int)), .inl (.int .u64 ((1503914060200516822 : Nat) : Int)), .inl (.tuple #[.int .u64 ((s1 : Nat) : Int), .int .u64 ((k1 : Nat) : Int)]), .inl (.int .i64 ((1 : Nat) : Int)), .inl (.int .i64 ((1 : Nat) : Int)), .inr (0, pt 1), .inl (.int .u64 ((a1 : Nat) : Int)), .inl (.int .i64 ((1 : Nat) : Int)), .inr (1, pt 1), .inl (.int .u64 ((b1 : Nat) : Int)), .inl (.int .u64 ((k0 : Nat) : Int)), .inl (.tuple #[.int .u64 ((s1 : Nat) : Int), .int .u64 ((k1 : Nat) : Int)]), .inl (.int .u64 ((s1 : Nat) : Int)), .inl (.int .u64 ((k1 : Nat) : Int)), .inr (3, pt 1), .inl (.tuple #[.int .u64 ((r1 : Nat) : Int), .int .u64 ((e1 : Nat) : Int)]), .inl (.int .i64 ((1 : Nat) : Int)), .inl (.int .i64 ((1 : Nat) : Int)), .inr (3, pt 1), .inl (.int .u64 ((s1 : Nat) : Int)), .inl (.int .u64 ((1503914060200516822 : Nat) : Int)), .inl (.int .u64 ((e0 : Nat) : Int)), .inl (.tuple #[.int .u64 ((r1 : Nat) : Int), .int .u64 ((e1 : Nat) : Int)]), .inl (.int .u64 ((r1 : Nat) : Int)), .inl (.int .u64 ((e1 : Nat) : Int)), .inr (4, pt 1), .inl (.int .i64 ((2 : Nat) : Int)), uu, uu, uu, uu]) (m' := [(w4 a0 a1 a2 a3, 83), (w4 b0 b1 b2 b3, 83), (w4 0 0 0 0, 83), (w4 s0 s1 0 0, 83), (w4 r0 r1 0 0, 83)]) (by kernel_rfl) (by kernel_rfl)
  replace h := h.o0
  refine rounds_1 ?_
  refine sym_seq ?_
  refine St.r0 h [] [] ?_ ?_
  · exact oz (k_bi (.int .i64 ((2 : Nat) : Int)) (.int .i64 ((4 : Nat) : Int)) (.bool true) (lt_i (m := ((2 : Nat) : Int)) (n := ((4 : Nat) : Int)) (by decide)) rfl rfl) <|
    ok_nil
  clear h; intro β a w h
  refine sym_then ?_
  refine sym_seq ?_
  refine s_ct h ?_
  refine wp_skip ?_
  refine sym_then ?_
  refine sym_seq ?_
  refine blk_in ?_
  refine sym_seq ?_
  refine St.r0 h [(14, .inl (.int .i64 ((2 : Nat) : Int))), (15, .inl (.int .u64 ((0 : Nat) : Int))), (9, .inl (.int .i64 ((2 : Nat) : Int))), (10, .inl (.int .u64 ((0 : Nat) : Int)))] [] ?_ ?_
  · exact oz (k_mv (.inl rfl) rfl) <|
    oz (k_ix (.agg (w4 6346243789798364141 1503914060200516822 0 1152921504606846976)) (.int .i64 ((2 : Nat) : Int)) (.int .u64 ((0 : Nat) : Int)) (fun w => by kernel_rfl) rfl rfl) <|
    oz (k_mv (.inr rfl) rfl) <|
    oz (k_mv (.inr rfl) rfl) <|
    ok_nil
  clear h; intro β a w h
  refine sym_then ?_
  refine sym_seq ?_
  refine St.rg h [(17, .inl (.int .i64 ((2 : Nat) : Int))), (18, .inl (.int .i64 ((2 : Nat) : Int))), (19, .inr (0, pt 2)), (20, .inl (.int .u64 ((a2 : Nat) : Int))), (21, .inl (.int .i64 ((2 : Nat) : Int))), (22, .inr (1, pt 2)), (23, .inl (.int .u64 ((b2 : Nat) : Int))), (24, .inl (.int .u64 ((k1 : Nat) : Int))), (25, .inl (.tuple #[.int .u64 ((s2 : Nat) : Int), .int .u64 ((k2 : Nat) : Int)])), (16, .inl (.tuple #[.int .u64 ((s2 : Nat) : Int), .int .u64 ((k2 : Nat) : Int)])), (26, .inl (.int .u64 ((s2 : Nat) : Int))), (27, .inl (.int .u64 ((k2 : Nat) : Int))), (28, .inr (3, pt 2)), (7, .inl (.int .u64 ((k2 : Nat) : Int)))] [] [(3, w4 s0 s1 s2 0)] [nn, nn, nn, eR 0, nn, nn, eR 1, eO, nn, nn, nn, nn, nn, eS 3] ?_ ?_
  · exact oc (k_mv (.inl rfl) rfl) <|
    oc (k_mv (.inl rfl) rfl) <|
    oc (k_ia 0 0 2 (.int .i64 ((2 : Nat) : Int)) (fun w q => by kernel_rfl) rfl rfl) <|
    oc (k_ld 0 2 (.int .u64 ((a2 : Nat) : Int)) (c := w4 a0 a1 a2 a3) (ld_w (i := 2) (v := a2) 83 rfl) rfl rfl) <|
    oc (k_mv (.inl rfl) rfl) <|
    oc (k_ia 1 0 2 (.int .i64 ((2 : Nat) : Int)) (fun w q => by kernel_rfl) rfl rfl) <|
    oc (k_ld 1 2 (.int .u64 ((b2 : Nat) : Int)) (c := w4 b0 b1 b2 b3) (ld_w (i := 2) (v := b2) 83 rfl) rfl rfl) <|
    oc (k_m0 rfl rfl) <|
    oc (k_cx 75 #[.int .u64 ((a2 : Nat) : Int), .int .u64 ((b2 : Nat) : Int), .int .u64 ((k1 : Nat) : Int)] (.tuple #[.int .u64 ((s2 : Nat) : Int), .int .u64 ((k2 : Nat) : Int)]) ca2 rfl rfl) <|
    oc (k_mv (.inl rfl) rfl) <|
    oc (k_ex (.tuple #[.int .u64 ((s2 : Nat) : Int), .int .u64 ((k2 : Nat) : Int)]) (.int .u64 ((s2 : Nat) : Int)) rfl rfl) <|
    oc (k_ex (.tuple #[.int .u64 ((s2 : Nat) : Int), .int .u64 ((k2 : Nat) : Int)]) (.int .u64 ((k2 : Nat) : Int)) rfl rfl) <|
    oc (k_ia 3 0 2 (.int .i64 ((2 : Nat) : Int)) (fun w q => by kernel_rfl) rfl rfl) <|
    oc (k_st 3 2 (.int .u64 ((s2 : Nat) : Int)) (c := w4 s0 s1 0 0) (n := w4 s0 s1 s2 0) (st_w (i := 2) (v := s2) (n := w4 s0 s1 s2 0) 83 rfl rfl) rfl rfl) <|
    oz (k_mv (.inr rfl) rfl) <|
    ok_nil
  clear h; intro β a w h
  refine sym_then ?_
  refine St.rg h [(30, .inl (.int .i64 ((2 : Nat) : Int))), (31, .inl (.int .i64 ((2 : Nat) : Int))), (32, .inr (3, pt 2)), (33, .inl (.int .u64 ((s2 : Nat) : Int))), (34, .inl (.int .u64 ((0 : Nat) : Int))), (35, .inl (.int .u64 ((e1 : Nat) : Int))), (36, .inl (.tuple #[.int .u64 ((r2 : Nat) : Int), .int .u64 ((e2 : Nat) : Int)])), (29, .inl (.tuple #[.int .u64 ((r2 : Nat) : Int), .int .u64 ((e2 : Nat) : Int)])), (37, .inl (.int .u64 ((r2 : Nat) : Int))), (38, .inl (.int .u64 ((e2 : Nat) : Int))), (39, .inr (4, pt 2)), (8, .inl (.int .u64 ((e2 : Nat) : Int)))] [] [(4, w4 r0 r1 r2 0)] [nn, nn, nn, eR 3, nn, eO, nn, nn, nn, nn, nn, eS 4] ?_ ?_
  · exact oc (k_mv (.inl rfl) rfl) <|
    oc (k_mv (.inl rfl) rfl) <|
    oc (k_ia 3 0 2 (.int .i64 ((2 : Nat) : Int)) (fun w q => by kernel_rfl) rfl rfl) <|
    oc (k_ld 3 2 (.int .u64 ((s2 : Nat) : Int)) (c := w4 s0 s1 s2 0) (ld_w (i := 2) (v := s2) 83 rfl) rfl rfl) <|
    oc (k_mv (.inl rfl) rfl) <|
    oc (k_m0 rfl rfl) <|
    oc (k_cx 76 #[.int .u64 ((s2 : Nat) : Int), .int .u64 ((0 : Nat) : Int), .int .u64 ((e1 : Nat) : Int)] (.tuple #[.int .u64 ((r2 : Nat) : Int), .int .u64 ((e2 : Nat) : Int)]) cs2 rfl rfl) <|
    oc (k_mv (.inl rfl) rfl) <|
    oc (k_ex (.tuple #[.int .u64 ((r2 : Nat) : Int), .int .u64 ((e2 : Nat) : Int)]) (.int .u64 ((r2 : Nat) : Int)) rfl rfl) <|
    oc (k_ex (.tuple #[.int .u64 ((r2 : Nat) : Int), .int .u64 ((e2 : Nat) : Int)]) (.int .u64 ((e2 : Nat) : Int)) rfl rfl) <|
    oc (k_ia 4 0 2 (.int .i64 ((2 : Nat) : Int)) (fun w q => by kernel_rfl) rfl rfl) <|
    oc (k_st 4 2 (.int .u64 ((r2 : Nat) : Int)) (c := w4 r0 r1 0 0) (n := w4 r0 r1 r2 0) (st_w (i := 2) (v := r2) (n := w4 r0 r1 r2 0) 83 rfl rfl) rfl rfl) <|
    oz (k_mv (.inr rfl) rfl) <|
    ok_nil
  clear h; intro β a w h
  refine blk_norm ?_
  refine sym_then ?_
  refine St.r0 h [(40, .inl (.int .i64 ((3 : Nat) : Int))), (12, .inl (.int .i64 ((3 : Nat) : Int)))] [eO] ?_ ?_
  · exact oc (k_b0 (.int .i64 ((2 : Nat) : Int)) (.int .i64 ((1 : Nat) : Int)) (.int .i64 ((3 : Nat) : Int)) (ad_k (m := 2) (n := 1) rfl (by decide)) rfl rfl) <|
    oz (k_mv (.inl rfl) rfl) <|
    ok_nil
  clear h; intro β a w h
  refine then_norm ?_
  replace h := St.cs h (s' := [.inl (.agg (w4 a0 a1 a2 a3)), .inl (.agg (w4 b0 b1 b2 b3)), .inr (0, pt 0), .inr (1, pt 0), .inr (2, pt 0), .inr (3, pt 0), .inr (4, pt 0), .inl (.int .u64 ((k2 : Nat) : Int)), .inl (.int .u64 ((e2 : Nat) : Int)), .inl (.int .i64 ((2 : Nat) : Int)), .inl (.int .u64 ((0 : Nat) : Int)), .inl (.agg (w4 6346243789798364141 1503914060200516822 0 1152921504606846976)), .inl (.int .i64 ((3 : Nat) : Int)), .inl (.bool true), .inl (.int .i64 ((2 : Nat) : Int)), .inl (.int .u64 ((0 : Nat) : Int)), .inl (.tuple #[.int .u64 ((s2 : Nat) : Int), .int .u64 ((k2 : Nat) : Int)]), .inl (.int .i64 ((2 : Nat) : Int)), .inl (.int .i64 ((2 : Nat) : Int)), .inr (0, pt 2), .inl (.int .u64 ((a2 : Nat) : Int)), .inl (.int .i64 ((2 : Nat) : Int)), .inr (1, pt 2), .inl (.int .u64 ((b2 : Nat) : Int)), .inl (.int .u64 ((k1 : Nat) : Int)), .inl (.tuple #[.int .u64 ((s2 : Nat) : Int), .int .u64 ((k2 : Nat) : Int)]), .inl (.int .u64 ((s2 : Nat) : Int)), .inl (.int .u64 ((k2 : Nat) : Int)), .inr (3, pt 2), .inl (.tuple #[.int .u64 ((r2 : Nat) : Int), .int .u64 ((e2 : Nat) : Int)]), .inl (.int .i64 ((2 : Nat) : Int)), .inl (.int .i64 ((2 : Nat) : Int)), .inr (3, pt 2), .inl (.int .u64 ((s2 : Nat) : Int)), .inl (.int .u64 ((0 : Nat) : Int)), .inl (.int .u64 ((e1 : Nat) : Int)), .inl (.tuple #[.int .u64 ((r2 : Nat) : Int), .int .u64 ((e2 : Nat) : Int)]), .inl (.int .u64 ((r2 : Nat) : Int)), .inl (.int .u64 ((e2 : Nat) : Int)), .inr (4, pt 2), .inl (.int .i64 ((3 : Nat) : Int)), uu, uu, uu, uu]) (m' := [(w4 a0 a1 a2 a3, 83), (w4 b0 b1 b2 b3, 83), (w4 0 0 0 0, 83), (w4 s0 s1 s2 0, 83), (w4 r0 r1 r2 0, 83)]) (by kernel_rfl) (by kernel_rfl)
  replace h := h.o0
  refine rounds_1 ?_
  refine sym_seq ?_
  refine St.r0 h [] [] ?_ ?_
  · exact oz (k_bi (.int .i64 ((3 : Nat) : Int)) (.int .i64 ((4 : Nat) : Int)) (.bool true) (lt_i (m := ((3 : Nat) : Int)) (n := ((4 : Nat) : Int)) (by decide)) rfl rfl) <|
    ok_nil
  clear h; intro β a w h
  refine sym_then ?_
  refine sym_seq ?_
  refine s_ct h ?_
  refine wp_skip ?_
  refine sym_then ?_
  refine sym_seq ?_
  refine blk_in ?_
  refine sym_seq ?_
  refine St.r0 h [(14, .inl (.int .i64 ((3 : Nat) : Int))), (15, .inl (.int .u64 ((1152921504606846976 : Nat) : Int))), (9, .inl (.int .i64 ((3 : Nat) : Int))), (10, .inl (.int .u64 ((1152921504606846976 : Nat) : Int)))] [] ?_ ?_
  · exact oz (k_mv (.inl rfl) rfl) <|
    oz (k_ix (.agg (w4 6346243789798364141 1503914060200516822 0 1152921504606846976)) (.int .i64 ((3 : Nat) : Int)) (.int .u64 ((1152921504606846976 : Nat) : Int)) (fun w => by kernel_rfl) rfl rfl) <|
    oz (k_mv (.inr rfl) rfl) <|
    oz (k_mv (.inr rfl) rfl) <|
    ok_nil
  clear h; intro β a w h
  refine sym_then ?_
  refine sym_seq ?_
  refine St.rg h [(17, .inl (.int .i64 ((3 : Nat) : Int))), (18, .inl (.int .i64 ((3 : Nat) : Int))), (19, .inr (0, pt 3)), (20, .inl (.int .u64 ((a3 : Nat) : Int))), (21, .inl (.int .i64 ((3 : Nat) : Int))), (22, .inr (1, pt 3)), (23, .inl (.int .u64 ((b3 : Nat) : Int))), (24, .inl (.int .u64 ((k2 : Nat) : Int))), (25, .inl (.tuple #[.int .u64 ((s3 : Nat) : Int), .int .u64 ((k3 : Nat) : Int)])), (16, .inl (.tuple #[.int .u64 ((s3 : Nat) : Int), .int .u64 ((k3 : Nat) : Int)])), (26, .inl (.int .u64 ((s3 : Nat) : Int))), (27, .inl (.int .u64 ((k3 : Nat) : Int))), (28, .inr (3, pt 3)), (7, .inl (.int .u64 ((k3 : Nat) : Int)))] [] [(3, w4 s0 s1 s2 s3)] [nn, nn, nn, eR 0, nn, nn, eR 1, eO, nn, nn, nn, nn, nn, eS 3] ?_ ?_
  · exact oc (k_mv (.inl rfl) rfl) <|
    oc (k_mv (.inl rfl) rfl) <|
    oc (k_ia 0 0 3 (.int .i64 ((3 : Nat) : Int)) (fun w q => by kernel_rfl) rfl rfl) <|
    oc (k_ld 0 3 (.int .u64 ((a3 : Nat) : Int)) (c := w4 a0 a1 a2 a3) (ld_w (i := 3) (v := a3) 83 rfl) rfl rfl) <|
    oc (k_mv (.inl rfl) rfl) <|
    oc (k_ia 1 0 3 (.int .i64 ((3 : Nat) : Int)) (fun w q => by kernel_rfl) rfl rfl) <|
    oc (k_ld 1 3 (.int .u64 ((b3 : Nat) : Int)) (c := w4 b0 b1 b2 b3) (ld_w (i := 3) (v := b3) 83 rfl) rfl rfl) <|
    oc (k_m0 rfl rfl) <|
    oc (k_cx 75 #[.int .u64 ((a3 : Nat) : Int), .int .u64 ((b3 : Nat) : Int), .int .u64 ((k2 : Nat) : Int)] (.tuple #[.int .u64 ((s3 : Nat) : Int), .int .u64 ((k3 : Nat) : Int)]) ca3 rfl rfl) <|
    oc (k_mv (.inl rfl) rfl) <|
    oc (k_ex (.tuple #[.int .u64 ((s3 : Nat) : Int), .int .u64 ((k3 : Nat) : Int)]) (.int .u64 ((s3 : Nat) : Int)) rfl rfl) <|
    oc (k_ex (.tuple #[.int .u64 ((s3 : Nat) : Int), .int .u64 ((k3 : Nat) : Int)]) (.int .u64 ((k3 : Nat) : Int)) rfl rfl) <|
    oc (k_ia 3 0 3 (.int .i64 ((3 : Nat) : Int)) (fun w q => by kernel_rfl) rfl rfl) <|
    oc (k_st 3 3 (.int .u64 ((s3 : Nat) : Int)) (c := w4 s0 s1 s2 0) (n := w4 s0 s1 s2 s3) (st_w (i := 3) (v := s3) (n := w4 s0 s1 s2 s3) 83 rfl rfl) rfl rfl) <|
    oz (k_mv (.inr rfl) rfl) <|
    ok_nil
  clear h; intro β a w h
  refine sym_then ?_
  refine St.rg h [(30, .inl (.int .i64 ((3 : Nat) : Int))), (31, .inl (.int .i64 ((3 : Nat) : Int))), (32, .inr (3, pt 3)), (33, .inl (.int .u64 ((s3 : Nat) : Int))), (34, .inl (.int .u64 ((1152921504606846976 : Nat) : Int))), (35, .inl (.int .u64 ((e2 : Nat) : Int))), (36, .inl (.tuple #[.int .u64 ((r3 : Nat) : Int), .int .u64 ((e3 : Nat) : Int)])), (29, .inl (.tuple #[.int .u64 ((r3 : Nat) : Int), .int .u64 ((e3 : Nat) : Int)])), (37, .inl (.int .u64 ((r3 : Nat) : Int))), (38, .inl (.int .u64 ((e3 : Nat) : Int))), (39, .inr (4, pt 3)), (8, .inl (.int .u64 ((e3 : Nat) : Int)))] [] [(4, w4 r0 r1 r2 r3)] [nn, nn, nn, eR 3, nn, eO, nn, nn, nn, nn, nn, eS 4] ?_ ?_
  · exact oc (k_mv (.inl rfl) rfl) <|
    oc (k_mv (.inl rfl) rfl) <|
    oc (k_ia 3 0 3 (.int .i64 ((3 : Nat) : Int)) (fun w q => by kernel_rfl) rfl rfl) <|
    oc (k_ld 3 3 (.int .u64 ((s3 : Nat) : Int)) (c := w4 s0 s1 s2 s3) (ld_w (i := 3) (v := s3) 83 rfl) rfl rfl) <|
    oc (k_mv (.inl rfl) rfl) <|
    oc (k_m0 rfl rfl) <|
    oc (k_cx 76 #[.int .u64 ((s3 : Nat) : Int), .int .u64 ((1152921504606846976 : Nat) : Int), .int .u64 ((e2 : Nat) : Int)] (.tuple #[.int .u64 ((r3 : Nat) : Int), .int .u64 ((e3 : Nat) : Int)]) cs3 rfl rfl) <|
    oc (k_mv (.inl rfl) rfl) <|
    oc (k_ex (.tuple #[.int .u64 ((r3 : Nat) : Int), .int .u64 ((e3 : Nat) : Int)]) (.int .u64 ((r3 : Nat) : Int)) rfl rfl) <|
    oc (k_ex (.tuple #[.int .u64 ((r3 : Nat) : Int), .int .u64 ((e3 : Nat) : Int)]) (.int .u64 ((e3 : Nat) : Int)) rfl rfl) <|
    oc (k_ia 4 0 3 (.int .i64 ((3 : Nat) : Int)) (fun w q => by kernel_rfl) rfl rfl) <|
    oc (k_st 4 3 (.int .u64 ((r3 : Nat) : Int)) (c := w4 r0 r1 r2 0) (n := w4 r0 r1 r2 r3) (st_w (i := 3) (v := r3) (n := w4 r0 r1 r2 r3) 83 rfl rfl) rfl rfl) <|
    oz (k_mv (.inr rfl) rfl) <|
    ok_nil
  clear h; intro β a w h
  refine blk_norm ?_
  refine sym_then ?_
  refine St.r0 h [(40, .inl (.int .i64 ((4 : Nat) : Int))), (12, .inl (.int .i64 ((4 : Nat) : Int)))] [eO] ?_ ?_
  · exact oc (k_b0 (.int .i64 ((3 : Nat) : Int)) (.int .i64 ((1 : Nat) : Int)) (.int .i64 ((4 : Nat) : Int)) (ad_k (m := 3) (n := 1) rfl (by decide)) rfl rfl) <|
    oz (k_mv (.inl rfl) rfl) <|
    ok_nil
  clear h; intro β a w h
  refine then_norm ?_
  replace h := St.cs h (s' := [.inl (.agg (w4 a0 a1 a2 a3)), .inl (.agg (w4 b0 b1 b2 b3)), .inr (0, pt 0), .inr (1, pt 0), .inr (2, pt 0), .inr (3, pt 0), .inr (4, pt 0), .inl (.int .u64 ((k3 : Nat) : Int)), .inl (.int .u64 ((e3 : Nat) : Int)), .inl (.int .i64 ((3 : Nat) : Int)), .inl (.int .u64 ((1152921504606846976 : Nat) : Int)), .inl (.agg (w4 6346243789798364141 1503914060200516822 0 1152921504606846976)), .inl (.int .i64 ((4 : Nat) : Int)), .inl (.bool true), .inl (.int .i64 ((3 : Nat) : Int)), .inl (.int .u64 ((1152921504606846976 : Nat) : Int)), .inl (.tuple #[.int .u64 ((s3 : Nat) : Int), .int .u64 ((k3 : Nat) : Int)]), .inl (.int .i64 ((3 : Nat) : Int)), .inl (.int .i64 ((3 : Nat) : Int)), .inr (0, pt 3), .inl (.int .u64 ((a3 : Nat) : Int)), .inl (.int .i64 ((3 : Nat) : Int)), .inr (1, pt 3), .inl (.int .u64 ((b3 : Nat) : Int)), .inl (.int .u64 ((k2 : Nat) : Int)), .inl (.tuple #[.int .u64 ((s3 : Nat) : Int), .int .u64 ((k3 : Nat) : Int)]), .inl (.int .u64 ((s3 : Nat) : Int)), .inl (.int .u64 ((k3 : Nat) : Int)), .inr (3, pt 3), .inl (.tuple #[.int .u64 ((r3 : Nat) : Int), .int .u64 ((e3 : Nat) : Int)]), .inl (.int .i64 ((3 : Nat) : Int)), .inl (.int .i64 ((3 : Nat) : Int)), .inr (3, pt 3), .inl (.int .u64 ((s3 : Nat) : Int)), .inl (.int .u64 ((1152921504606846976 : Nat) : Int)), .inl (.int .u64 ((e2 : Nat) : Int)), .inl (.tuple #[.int .u64 ((r3 : Nat) : Int), .int .u64 ((e3 : Nat) : Int)]), .inl (.int .u64 ((r3 : Nat) : Int)), .inl (.int .u64 ((e3 : Nat) : Int)), .inr (4, pt 3), .inl (.int .i64 ((4 : Nat) : Int)), uu, uu, uu, uu]) (m' := [(w4 a0 a1 a2 a3, 83), (w4 b0 b1 b2 b3, 83), (w4 0 0 0 0, 83), (w4 s0 s1 s2 s3, 83), (w4 r0 r1 r2 r3, 83)]) (by kernel_rfl) (by kernel_rfl)
  replace h := h.o0
  refine rounds_1 ?_
  refine sym_seq ?_
  refine St.r0 h [(13, .inl (.bool false))] [] ?_ ?_
  · exact oz (k_bi (.int .i64 ((4 : Nat) : Int)) (.int .i64 ((4 : Nat) : Int)) (.bool false) (lt_i (m := ((4 : Nat) : Int)) (n := ((4 : Nat) : Int)) (by decide)) rfl rfl) <|
    ok_nil
  clear h; intro β a w h
  refine sym_then ?_
  refine sym_seq ?_
  refine s_cf h ?_
  refine wp_exit ?_
  refine then_exit ?_
  refine then_exit ?_
  refine blk_exit ?_
  refine sym_then ?_
  refine sym_seq ?_
  refine sym_seq ?_
  refine St.r0 h [(41, .inl (.int .u64 ((e3 : Nat) : Int))), (42, .inl (.bool true))] [] ?_ ?_
  · exact oz (k_mv (.inl rfl) rfl) <|
    oz (k_bi (.int .u64 ((e3 : Nat) : Int)) (.int .u64 ((1 : Nat) : Int)) (.bool true) (eq_u64 (m := e3) (n := 1) (decide_eq_true hb)) rfl rfl) <|
    ok_nil
  clear h; intro β a w h
  refine sym_then ?_
  refine s_ct h ?_
  refine sym_seq ?_
  refine St.rg h [(43, .inl (.agg (w4 s0 s1 s2 s3)))] [] [(2, w4 s0 s1 s2 s3)] [eR 3, eS 2] ?_ ?_
  · exact oc (k_ld 3 0 (.agg (w4 s0 s1 s2 s3)) (c := w4 s0 s1 s2 s3) (ldW 83) rfl rfl) <|
    oc (k_st 2 0 (.agg (w4 s0 s1 s2 s3)) (c := w4 0 0 0 0) (n := w4 s0 s1 s2 s3) (stW 83 rfl) rfl rfl) <|
    ok_nil
  clear h; intro β a w h
  refine sym_then ?_
  refine wp_ret ?_
  refine then_ret ?_
  exact s_rc (b := 2) (t0 := 83) (c := w4 s0 s1 s2 s3) h Try.results52 Try.underlying83 (fun hb => ⟨rfl, hb⟩) (by kernel_rfl)

set_option maxHeartbeats 4000000 in
theorem pls_r {a0 a1 a2 a3 b0 b1 b2 b3 s0 s1 s2 s3 k0 k1 k2 k3 r0 r1 r2 r3 e0 e1 e2 e3 : Nat} (ca0 : (∀ w, (callFunc 75 #[.int .u64 ((a0 : Nat) : Int), .int .u64 ((b0 : Nat) : Int), .int .u64 ((0 : Nat) : Int)]).run Try.prog w = .ok (.value (.tuple #[.int .u64 ((s0 : Nat) : Int), .int .u64 ((k0 : Nat) : Int)])) w)) (ca1 : (∀ w, (callFunc 75 #[.int .u64 ((a1 : Nat) : Int), .int .u64 ((b1 : Nat) : Int), .int .u64 ((k0 : Nat) : Int)]).run Try.prog w = .ok (.value (.tuple #[.int .u64 ((s1 : Nat) : Int), .int .u64 ((k1 : Nat) : Int)])) w)) (ca2 : (∀ w, (callFunc 75 #[.int .u64 ((a2 : Nat) : Int), .int .u64 ((b2 : Nat) : Int), .int .u64 ((k1 : Nat) : Int)]).run Try.prog w = .ok (.value (.tuple #[.int .u64 ((s2 : Nat) : Int), .int .u64 ((k2 : Nat) : Int)])) w)) (ca3 : (∀ w, (callFunc 75 #[.int .u64 ((a3 : Nat) : Int), .int .u64 ((b3 : Nat) : Int), .int .u64 ((k2 : Nat) : Int)]).run Try.prog w = .ok (.value (.tuple #[.int .u64 ((s3 : Nat) : Int), .int .u64 ((k3 : Nat) : Int)])) w))
    (cs0 : (∀ w, (callFunc 76 #[.int .u64 ((s0 : Nat) : Int), .int .u64 ((6346243789798364141 : Nat) : Int), .int .u64 ((0 : Nat) : Int)]).run Try.prog w = .ok (.value (.tuple #[.int .u64 ((r0 : Nat) : Int), .int .u64 ((e0 : Nat) : Int)])) w)) (cs1 : (∀ w, (callFunc 76 #[.int .u64 ((s1 : Nat) : Int), .int .u64 ((1503914060200516822 : Nat) : Int), .int .u64 ((e0 : Nat) : Int)]).run Try.prog w = .ok (.value (.tuple #[.int .u64 ((r1 : Nat) : Int), .int .u64 ((e1 : Nat) : Int)])) w)) (cs2 : (∀ w, (callFunc 76 #[.int .u64 ((s2 : Nat) : Int), .int .u64 ((0 : Nat) : Int), .int .u64 ((e1 : Nat) : Int)]).run Try.prog w = .ok (.value (.tuple #[.int .u64 ((r2 : Nat) : Int), .int .u64 ((e2 : Nat) : Int)])) w)) (cs3 : (∀ w, (callFunc 76 #[.int .u64 ((s3 : Nat) : Int), .int .u64 ((1152921504606846976 : Nat) : Int), .int .u64 ((e2 : Nat) : Int)]).run Try.prog w = .ok (.value (.tuple #[.int .u64 ((r3 : Nat) : Int), .int .u64 ((e3 : Nat) : Int)])) w))
    (hb : ¬ e3 = 1) (W0 : World) : Calls Try.prog 52 #[.agg (w4 a0 a1 a2 a3), .agg (w4 b0 b1 b2 b3)] W0 fun e w' => e = .returned (.agg (w4 r0 r1 r2 r3)) ∧ Below W0.heap.size W0 w' := by
  refine s_in Try.func52 Try.ntmps52 rfl [.inl (.agg (w4 a0 a1 a2 a3)), .inl (.agg (w4 b0 b1 b2 b3))] ?_
  intro β a h
  refine sym_seq ?_
  refine St.rg h [(2, .inr (0, pt 0)), (3, .inr (1, pt 0)), (4, .inr (2, pt 0))] [(w4 a0 a1 a2 a3, 83), (w4 b0 b1 b2 b3, 83), (w4 0 0 0 0, 83)] [] [eN 0, eN 1, eN 2] ?_ ?_
  · exact oc (k_bx 0 (.agg (w4 a0 a1 a2 a3)) bxW rfl rfl) <|
    oc (k_bx 1 (.agg (w4 b0 b1 b2 b3)) bxW rfl rfl) <|
    oc (k_al 2 alW rfl rfl) <|
    ok_nil
  clear h; intro β a w h
  refine sym_then ?_
  refine sym_seq ?_
  refine St.rg h [(5, .inr (3, pt 0)), (6, .inr (4, pt 0))] [(w4 0 0 0 0, 83), (w4 0 0 0 0, 83)] [] [eN 3, eN 4] ?_ ?_
  · exact oc (k_al 3 alW rfl rfl) <|
    oc (k_al 4 alW rfl rfl) <|
    ok_nil
  clear h; intro β a w h
  refine sym_then ?_
  refine sym_seq ?_
  refine St.r0 h [(7, .inl (.int .u64 ((0 : Nat) : Int))), (8, .inl (.int .u64 ((0 : Nat) : Int)))] [] ?_ ?_
  · exact oz (k_mv (.inr rfl) rfl) <|
    oz (k_mv (.inr rfl) rfl) <|
    ok_nil
  clear h; intro β a w h
  refine sym_then ?_
  refine sym_seq ?_
  refine sym_seq ?_
  refine St.r0 h [(11, .inl (.agg (w4 6346243789798364141 1503914060200516822 0 1152921504606846976))), (12, .inl (.int .i64 ((0 : Nat) : Int)))] [] ?_ ?_
  · exact oz (k_ca 74 #[] (.agg (w4 6346243789798364141 1503914060200516822 0 1152921504606846976)) order_r rfl rfl) <|
    oz (k_mv (.inl rfl) rfl) <|
    ok_nil
  clear h; intro β a w h
  refine sym_then ?_
  refine blk_in ?_
  refine wp_loop_rounds 5 ?_
  refine rounds_1 ?_
  refine sym_seq ?_
  refine St.r0 h [(13, .inl (.bool true))] [] ?_ ?_
  · exact oz (k_bi (.int .i64 ((0 : Nat) : Int)) (.int .i64 ((4 : Nat) : Int)) (.bool true) (lt_i (m := ((0 : Nat) : Int)) (n := ((4 : Nat) : Int)) (by decide)) rfl rfl) <|
    ok_nil
  clear h; intro β a w h
  refine sym_then ?_
  refine sym_seq ?_
  refine s_ct h ?_
  refine wp_skip ?_
  refine sym_then ?_
  refine sym_seq ?_
  refine blk_in ?_
  refine sym_seq ?_
  refine St.r0 h [(14, .inl (.int .i64 ((0 : Nat) : Int))), (15, .inl (.int .u64 ((6346243789798364141 : Nat) : Int))), (9, .inl (.int .i64 ((0 : Nat) : Int))), (10, .inl (.int .u64 ((6346243789798364141 : Nat) : Int)))] [] ?_ ?_
  · exact oz (k_mv (.inl rfl) rfl) <|
    oz (k_ix (.agg (w4 6346243789798364141 1503914060200516822 0 1152921504606846976)) (.int .i64 ((0 : Nat) : Int)) (.int .u64 ((6346243789798364141 : Nat) : Int)) (fun w => by kernel_rfl) rfl rfl) <|
    oz (k_mv (.inr rfl) rfl) <|
    oz (k_mv (.inr rfl) rfl) <|
    ok_nil
  clear h; intro β a w h
  refine sym_then ?_
  refine sym_seq ?_
  refine St.rg h [(17, .inl (.int .i64 ((0 : Nat) : Int))), (18, .inl (.int .i64 ((0 : Nat) : Int))), (19, .inr (0, pt 0)), (20, .inl (.int .u64 ((a0 : Nat) : Int))), (21, .inl (.int .i64 ((0 : Nat) : Int))), (22, .inr (1, pt 0)), (23, .inl (.int .u64 ((b0 : Nat) : Int))), (24, .inl (.int .u64 ((0 : Nat) : Int))), (25, .inl (.tuple #[.int .u64 ((s0 : Nat) : Int), .int .u64 ((k0 : Nat) : Int)])), (16, .inl (.tuple #[.int .u64 ((s0 : Nat) : Int), .int .u64 ((k0 : Nat) : Int)])), (26, .inl (.int .u64 ((s0 : Nat) : Int))), (27, .inl (.int .u64 ((k0 : Nat) : Int))), (28, .inr (3, pt 0)), (7, .inl (.int .u64 ((k0 : Nat) : Int)))] [] [(3, w4 s0 0 0 0)] [nn, nn, nn, eR 0, nn, nn, eR 1, eO, nn, nn, nn, nn, nn, eS 3] ?_ ?_
  · exact oc (k_mv (.inl rfl) rfl) <|
    oc (k_mv (.inl rfl) rfl) <|
    oc (k_ia 0 0 0 (.int .i64 ((0 : Nat) : Int)) (fun w q => by kernel_rfl) rfl rfl) <|
    oc (k_ld 0 0 (.int .u64 ((a0 : Nat) : Int)) (c := w4 a0 a1 a2 a3) (ld_w (i := 0) (v := a0) 83 rfl) rfl rfl) <|
    oc (k_mv (.inl rfl) rfl) <|
    oc (k_ia 1 0 0 (.int .i64 ((0 : Nat) : Int)) (fun w q => by kernel_rfl) rfl rfl) <|
    oc (k_ld 1 0 (.int .u64 ((b0 : Nat) : Int)) (c := w4 b0 b1 b2 b3) (ld_w (i := 0) (v := b0) 83 rfl) rfl rfl) <|
    oc (k_m0 rfl rfl) <|
    oc (k_cx 75 #[.int .u64 ((a0 : Nat) : Int), .int .u64 ((b0 : Nat) : Int), .int .u64 ((0 : Nat) : Int)] (.tuple #[.int .u64 ((s0 : Nat) : Int), .int .u64 ((k0 : Nat) : Int)]) ca0 rfl rfl) <|
    oc (k_mv (.inl rfl) rfl) <|
    oc (k_ex (.tuple #[.int .u64 ((s0 : Nat) : Int), .int .u64 ((k0 : Nat) : Int)]) (.int .u64 ((s0 : Nat) : Int)) rfl rfl) <|
    oc (k_ex (.tuple #[.int .u64 ((s0 : Nat) : Int), .int .u64 ((k0 : Nat) : Int)]) (.int .u64 ((k0 : Nat) : Int)) rfl rfl) <|
    oc (k_ia 3 0 0 (.int .i64 ((0 : Nat) : Int)) (fun w q => by kernel_rfl) rfl rfl) <|
    oc (k_st 3 0 (.int .u64 ((s0 : Nat) : Int)) (c := w4 0 0 0 0) (n := w4 s0 0 0 0) (st_w (i := 0) (v := s0) (n := w4 s0 0 0 0) 83 rfl rfl) rfl rfl) <|
    oz (k_mv (.inr rfl) rfl) <|
    ok_nil
  clear h; intro β a w h
  refine sym_then ?_
  refine St.rg h [(30, .inl (.int .i64 ((0 : Nat) : Int))), (31, .inl (.int .i64 ((0 : Nat) : Int))), (32, .inr (3, pt 0)), (33, .inl (.int .u64 ((s0 : Nat) : Int))), (34, .inl (.int .u64 ((6346243789798364141 : Nat) : Int))), (35, .inl (.int .u64 ((0 : Nat) : Int))), (36, .inl (.tuple #[.int .u64 ((r0 : Nat) : Int), .int .u64 ((e0 : Nat) : Int)])), (29, .inl (.tuple #[.int .u64 ((r0 : Nat) : Int), .int .u64 ((e0 : Nat) : Int)])), (37, .inl (.int .u64 ((r0 : Nat) : Int))), (38, .inl (.int .u64 ((e0 : Nat) : Int))), (39, .inr (4, pt 0)), (8, .inl (.int .u64 ((e0 : Nat) : Int)))] [] [(4, w4 r0 0 0 0)] [nn, nn, nn, eR 3, nn, eO, nn, nn, nn, nn, nn, eS 4] ?_ ?_
  · exact oc (k_mv (.inl rfl) rfl) <|
    oc (k_mv (.inl rfl) rfl) <|
    oc (k_ia 3 0 0 (.int .i64 ((0 : Nat) : Int)) (fun w q => by kernel_rfl) rfl rfl) <|
    oc (k_ld 3 0 (.int .u64 ((s0 : Nat) : Int)) (c := w4 s0 0 0 0) (ld_w (i := 0) (v := s0) 83 rfl) rfl rfl) <|
    oc (k_mv (.inl rfl) rfl) <|
    oc (k_m0 rfl rfl) <|
    oc (k_cx 76 #[.int .u64 ((s0 : Nat) : Int), .int .u64 ((6346243789798364141 : Nat) : Int), .int .u64 ((0 : Nat) : Int)] (.tuple #[.int .u64 ((r0 : Nat) : Int), .int .u64 ((e0 : Nat) : Int)]) cs0 rfl rfl) <|
    oc (k_mv (.inl rfl) rfl) <|
    oc (k_ex (.tuple #[.int .u64 ((r0 : Nat) : Int), .int .u64 ((e0 : Nat) : Int)]) (.int .u64 ((r0 : Nat) : Int)) rfl rfl) <|
    oc (k_ex (.tuple #[.int .u64 ((r0 : Nat) : Int), .int .u64 ((e0 : Nat) : Int)]) (.int .u64 ((e0 : Nat) : Int)) rfl rfl) <|
    oc (k_ia 4 0 0 (.int .i64 ((0 : Nat) : Int)) (fun w q => by kernel_rfl) rfl rfl) <|
    oc (k_st 4 0 (.int .u64 ((r0 : Nat) : Int)) (c := w4 0 0 0 0) (n := w4 r0 0 0 0) (st_w (i := 0) (v := r0) (n := w4 r0 0 0 0) 83 rfl rfl) rfl rfl) <|
    oz (k_mv (.inr rfl) rfl) <|
    ok_nil
  clear h; intro β a w h
  refine blk_norm ?_
  refine sym_then ?_
  refine St.r0 h [(40, .inl (.int .i64 ((1 : Nat) : Int))), (12, .inl (.int .i64 ((1 : Nat) : Int)))] [eO] ?_ ?_
  · exact oc (k_b0 (.int .i64 ((0 : Nat) : Int)) (.int .i64 ((1 : Nat) : Int)) (.int .i64 ((1 : Nat) : Int)) (ad_k (m := 0) (n := 1) rfl (by decide)) rfl rfl) <|
    oz (k_mv (.inl rfl) rfl) <|
    ok_nil
  clear h; intro β a w h
  refine then_norm ?_
  replace h := St.cs h (s' := [.inl (.agg (w4 a0 a1 a2 a3)), .inl (.agg (w4 b0 b1 b2 b3)), .inr (0, pt 0), .inr (1, pt 0), .inr (2, pt 0), .inr (3, pt 0), .inr (4, pt 0), .inl (.int .u64 ((k0 : Nat) : Int)), .inl (.int .u64 ((e0 : Nat) : Int)), .inl (.int .i64 ((0 : Nat) : Int)), .inl (.int .u64 ((6346243789798364141 : Nat) : Int)), .inl (.agg (w4 6346243789798364141 1503914060200516822 0 1152921504606846976)), .inl (.int .i64 ((1 : Nat) : Int)), .inl (.bool true), .inl (.int .i64 ((0 : Nat) : Int)), .inl (.int .u64 ((6346243789798364141 : Nat) : Int)), .inl (.tuple #[.int .u64 ((s0 : Nat) : Int), .int .u64 ((k0 : Nat) : Int)]), .inl (.int .i64 ((0 : Nat) : Int)), .inl (.int .i64 ((0 : Nat) : Int)), .inr (0, pt 0), .inl (.int .u64 ((a0 : Nat) : Int)), .inl (.int .i64 ((0 : Nat) : Int)), .inr (1, pt 0), .inl (.int .u64 ((b0 : Nat) : Int)), .inl (.int .u64 ((0 : Nat) : Int)), .inl (.tuple #[.int .u64 ((s0 : Nat) : Int), .int .u64 ((k0 : Nat) : Int)]), .inl (.int .u64 ((s0 : Nat) : Int)), .inl (.int .u64 ((k0 : Nat) : Int)), .inr (3, pt 0), .inl (.tuple #[.int .u64 ((r0 : Nat) : Int), .int .u64 ((e0 : Nat) : Int)]), .inl (.int .i64 ((0 : Nat) : Int)), .inl (.int .i64 ((0 : Nat) : Int)), .inr (3, pt 0), .inl (.int .u64 ((s0 : Nat) : Int)), .inl (.int .u64 ((6346243789798364141 : Nat) : Int)), .inl (.int .u64 ((0 : Nat) : Int)), .inl (.tuple #[.int .u64 ((r0 : Nat) : Int), .int .u64 ((e0 : Nat) : Int)]), .inl (.int .u64 ((r0 : Nat) : Int)), .inl (.int .u64 ((e0 : Nat) : Int)), .inr (4, pt 0), .inl (.int .i64 ((1 : Nat) : Int)), uu, uu, uu, uu]) (m' := [(w4 a0 a1 a2 a3, 83), (w4 b0 b1 b2 b3, 83), (w4 0 0 0 0, 83), (w4 s0 0 0 0, 83), (w4 r0 0 0 0, 83)]) (by kernel_rfl) (by kernel_rfl)
  replace h := h.o0
  refine rounds_1 ?_
  refine sym_seq ?_
  refine St.r0 h [] [] ?_ ?_
  · exact oz (k_bi (.int .i64 ((1 : Nat) : Int)) (.int .i64 ((4 : Nat) : Int)) (.bool true) (lt_i (m := ((1 : Nat) : Int)) (n := ((4 : Nat) : Int)) (by decide)) rfl rfl) <|
    ok_nil
  clear h; intro β a w h
  refine sym_then ?_
  refine sym_seq ?_
  refine s_ct h ?_
  refine wp_skip ?_
  refine sym_then ?_
  refine sym_seq ?_
  refine blk_in ?_
  refine sym_seq ?_
  refine St.r0 h [(14, .inl (.int .i64 ((1 : Nat) : Int))), (15, .inl (.int .u64 ((1503914060200516822 : Nat) : Int))), (9, .inl (.int .i64 ((1 : Nat) : Int))), (10, .inl (.int .u64 ((1503914060200516822 : Nat) : Int)))] [] ?_ ?_
  · exact oz (k_mv (.inl rfl) rfl) <|
    oz (k_ix (.agg (w4 6346243789798364141 1503914060200516822 0 1152921504606846976)) (.int .i64 ((1 : Nat) : Int)) (.int .u64 ((1503914060200516822 : Nat) : Int)) (fun w => by kernel_rfl) rfl rfl) <|
    oz (k_mv (.inr rfl) rfl) <|
    oz (k_mv (.inr rfl) rfl) <|
    ok_nil
  clear h; intro β a w h
  refine sym_then ?_
  refine sym_seq ?_
  refine St.rg h [(17, .inl (.int .i64 ((1 : Nat) : Int))), (18, .inl (.int .i64 ((1 : Nat) : Int))), (19, .inr (0, pt 1)), (20, .inl (.int .u64 ((a1 : Nat) : Int))), (21, .inl (.int .i64 ((1 : Nat) : Int))), (22, .inr (1, pt 1)), (23, .inl (.int .u64 ((b1 : Nat) : Int))), (24, .inl (.int .u64 ((k0 : Nat) : Int))), (25, .inl (.tuple #[.int .u64 ((s1 : Nat) : Int), .int .u64 ((k1 : Nat) : Int)])), (16, .inl (.tuple #[.int .u64 ((s1 : Nat) : Int), .int .u64 ((k1 : Nat) : Int)])), (26, .inl (.int .u64 ((s1 : Nat) : Int))), (27, .inl (.int .u64 ((k1 : Nat) : Int))), (28, .inr (3, pt 1)), (7, .inl (.int .u64 ((k1 : Nat) : Int)))] [] [(3, w4 s0 s1 0 0)] [nn, nn, nn, eR 0, nn, nn, eR 1, eO, nn, nn, nn, nn, nn, eS 3] ?_ ?_
  · exact oc (k_mv (.inl rfl) rfl) <|
    oc (k_mv (.inl rfl) rfl) <|
    oc (k_ia 0 0 1 (.int .i64 ((1 : Nat) : Int)) (fun w q => by kernel_rfl) rfl rfl) <|
    oc (k_ld 0 1 (.int .u64 ((a1 : Nat) : Int)) (c := w4 a0 a1 a2 a3) (ld_w (i := 1) (v := a1) 83 rfl) rfl rfl) <|
    oc (k_mv (.inl rfl) rfl) <|
    oc (k_ia 1 0 1 (.int .i64 ((1 : Nat) : Int)) (fun w q => by kernel_rfl) rfl rfl) <|
    oc (k_ld 1 1 (.int .u64 ((b1 : Nat) : Int)) (c := w4 b0 b1 b2 b3) (ld_w (i := 1) (v := b1) 83 rfl) rfl rfl) <|
    oc (k_m0 rfl rfl) <|
    oc (k_cx 75 #[.int .u64 ((a1 : Nat) : Int), .int .u64 ((b1 : Nat) : Int), .int .u64 ((k0 : Nat) : Int)] (.tuple #[.int .u64 ((s1 : Nat) : Int), .int .u64 ((k1 : Nat) : Int)]) ca1 rfl rfl) <|
    oc (k_mv (.inl rfl) rfl) <|
    oc (k_ex (.tuple #[.int .u64 ((s1 : Nat) : Int), .int .u64 ((k1 : Nat) : Int)]) (.int .u64 ((s1 : Nat) : Int)) rfl rfl) <|
    oc (k_ex (.tuple #[.int .u64 ((s1 : Nat) : Int), .int .u64 ((k1 : Nat) : Int)]) (.int .u64 ((k1 : Nat) : Int)) rfl rfl) <|
    oc (k_ia 3 0 1 (.int .i64 ((1 : Nat) : Int)) (fun w q => by kernel_rfl) rfl rfl) <|
    oc (k_st 3 1 (.int .u64 ((s1 : Nat) : Int)) (c := w4 s0 0 0 0) (n := w4 s0 s1 0 0) (st_w (i := 1) (v := s1) (n := w4 s0 s1 0 0) 83 rfl rfl) rfl rfl) <|
    oz (k_mv (.inr rfl) rfl) <|
    ok_nil
  clear h; intro β a w h
  refine sym_then ?_
  refine St.rg h [(30, .inl (.int .i64 ((1 : Nat) : Int))), (31, .inl (.int .i64 ((1 : Nat) : Int))), (32, .inr (3, pt 1)), (33, .inl (.int .u64 ((s1 : Nat) : Int))), (34, .inl (.int .u64 ((1503914060200516822 : Nat) : Int))), (35, .inl (.int .u64 ((e0 : Nat) : Int))), (36, .inl (.tuple #[.int .u64 ((r1 : Nat) : Int), .int .u64 ((e1 : Nat) : Int)])), (29, .inl (.tuple #[.int .u64 ((r1 : Nat) : Int), .int .u64 ((e1 : Nat) : Int)])), (37, .inl (.int .u64 ((r1 : Nat) : Int))), (38, .inl (.int .u64 ((e1 : Nat) : Int))), (39, .inr (4, pt 1)), (8, .inl (.int .u64 ((e1 : Nat) : Int)))] [] [(4, w4 r0 r1 0 0)] [nn, nn, nn, eR 3, nn, eO, nn, nn, nn, nn, nn, eS 4] ?_ ?_
  · exact oc (k_mv (.inl rfl) rfl) <|
    oc (k_mv (.inl rfl) rfl) <|
    oc (k_ia 3 0 1 (.int .i64 ((1 : Nat) : Int)) (fun w q => by kernel_rfl) rfl rfl) <|
    oc (k_ld 3 1 (.int .u64 ((s1 : Nat) : Int)) (c := w4 s0 s1 0 0) (ld_w (i := 1) (v := s1) 83 rfl) rfl rfl) <|
    oc (k_mv (.inl rfl) rfl) <|
    oc (k_m0 rfl rfl) <|
    oc (k_cx 76 #[.int .u64 ((s1 : Nat) : Int), .int .u64 ((1503914060200516822 : Nat) : Int), .int .u64 ((e0 : Nat) : Int)] (.tuple #[.int .u64 ((r1 : Nat) : Int), .int .u64 ((e1 : Nat) : Int)]) cs1 rfl rfl) <|
    oc (k_mv (.inl rfl) rfl) <|
    oc (k_ex (.tuple #[.int .u64 ((r1 : Nat) : Int), .int .u64 ((e1 : Nat) : Int)]) (.int .u64 ((r1 : Nat) : Int)) rfl rfl) <|
    oc (k_ex (.tuple #[.int .u64 ((r1 : Nat) : Int), .int .u64 ((e1 : Nat) : Int)]) (.int .u64 ((e1 : Nat) : Int)) rfl rfl) <|
    oc (k_ia 4 0 1 (.int .i64 ((1 : Nat) : Int)) (fun w q => by kernel_rfl) rfl rfl) <|
    oc (k_st 4 1 (.int .u64 ((r1 : Nat) : Int)) (c := w4 r0 0 0 0) (n := w4 r0 r1 0 0) (st_w (i := 1) (v := r1) (n := w4 r0 r1 0 0) 83 rfl rfl) rfl rfl) <|
    oz (k_mv (.inr rfl) rfl) <|
    ok_nil
  clear h; intro β a w h
  refine blk_norm ?_
  refine sym_then ?_
  refine St.r0 h [(40, .inl (.int .i64 ((2 : Nat) : Int))), (12, .inl (.int .i64 ((2 : Nat) : Int)))] [eO] ?_ ?_
  · exact oc (k_b0 (.int .i64 ((1 : Nat) : Int)) (.int .i64 ((1 : Nat) : Int)) (.int .i64 ((2 : Nat) : Int)) (ad_k (m := 1) (n := 1) rfl (by decide)) rfl rfl) <|
    oz (k_mv (.inl rfl) rfl) <|
    ok_nil
  clear h; intro β a w h
  refine then_norm ?_
  replace h := St.cs h (s' := [.inl (.agg (w4 a0 a1 a2 a3)), .inl (.agg (w4 b0 b1 b2 b3)), .inr (0, pt 0), .inr (1, pt 0), .inr (2, pt 0), .inr (3, pt 0), .inr (4, pt 0), .inl (.int .u64 ((k1 : Nat) : Int)), .inl (.int .u64 ((e1 : Nat) : Int)), .inl (.int .i64 ((1 : Nat) : Int)), .inl (.int .u64 ((1503914060200516822 : Nat) : Int)), .inl (.agg (w4 6346243789798364141 1503914060200516822 0 1152921504606846976)), .inl (.int .i64 ((2 : Nat) : Int)), .inl (.bool true), .inl (.int .i64 ((1 : Nat) : Int)), .inl (.int .u64 ((1503914060200516822 : Nat) : Int)), .inl (.tuple #[.int .u64 ((s1 : Nat) : Int), .int .u64 ((k1 : Nat) : Int)]), .inl (.int .i64 ((1 : Nat) : Int)), .inl (.int .i64 ((1 : Nat) : Int)), .inr (0, pt 1), .inl (.int .u64 ((a1 : Nat) : Int)), .inl (.int .i64 ((1 : Nat) : Int)), .inr (1, pt 1), .inl (.int .u64 ((b1 : Nat) : Int)), .inl (.int .u64 ((k0 : Nat) : Int)), .inl (.tuple #[.int .u64 ((s1 : Nat) : Int), .int .u64 ((k1 : Nat) : Int)]), .inl (.int .u64 ((s1 : Nat) : Int)), .inl (.int .u64 ((k1 : Nat) : Int)), .inr (3, pt 1), .inl (.tuple #[.int .u64 ((r1 : Nat) : Int), .int .u64 ((e1 : Nat) : Int)]), .inl (.int .i64 ((1 : Nat) : Int)), .inl (.int .i64 ((1 : Nat) : Int)), .inr (3, pt 1), .inl (.int .u64 ((s1 : Nat) : Int)), .inl (.int .u64 ((1503914060200516822 : Nat) : Int)), .inl (.int .u64 ((e0 : Nat) : Int)), .inl (.tuple #[.int .u64 ((r1 : Nat) : Int), .int .u64 ((e1 : Nat) : Int)]), .inl (.int .u64 ((r1 : Nat) : Int)), .inl (.int .u64 ((e1 : Nat) : Int)), .inr (4, pt 1), .inl (.int .i64 ((2 : Nat) : Int)), uu, uu, uu, uu]) (m' := [(w4 a0 a1 a2 a3, 83), (w4 b0 b1 b2 b3, 83), (w4 0 0 0 0, 83), (w4 s0 s1 0 0, 83), (w4 r0 r1 0 0, 83)]) (by kernel_rfl) (by kernel_rfl)
  replace h := h.o0
  refine rounds_1 ?_
  refine sym_seq ?_
  refine St.r0 h [] [] ?_ ?_
  · exact oz (k_bi (.int .i64 ((2 : Nat) : Int)) (.int .i64 ((4 : Nat) : Int)) (.bool true) (lt_i (m := ((2 : Nat) : Int)) (n := ((4 : Nat) : Int)) (by decide)) rfl rfl) <|
    ok_nil
  clear h; intro β a w h
  refine sym_then ?_
  refine sym_seq ?_
  refine s_ct h ?_
  refine wp_skip ?_
  refine sym_then ?_
  refine sym_seq ?_
  refine blk_in ?_
  refine sym_seq ?_
  refine St.r0 h [(14, .inl (.int .i64 ((2 : Nat) : Int))), (15, .inl (.int .u64 ((0 : Nat) : Int))), (9, .inl (.int .i64 ((2 : Nat) : Int))), (10, .inl (.int .u64 ((0 : Nat) : Int)))] [] ?_ ?_
  · exact oz (k_mv (.inl rfl) rfl) <|
    oz (k_ix (.agg (w4 6346243789798364141 1503914060200516822 0 1152921504606846976)) (.int .i64 ((2 : Nat) : Int)) (.int .u64 ((0 : Nat) : Int)) (fun w => by kernel_rfl) rfl rfl) <|
    oz (k_mv (.inr rfl) rfl) <|
    oz (k_mv (.inr rfl) rfl) <|
    ok_nil
  clear h; intro β a w h
  refine sym_then ?_
  refine sym_seq ?_
  refine St.rg h [(17, .inl (.int .i64 ((2 : Nat) : Int))), (18, .inl (.int .i64 ((2 : Nat) : Int))), (19, .inr (0, pt 2)), (20, .inl (.int .u64 ((a2 : Nat) : Int))), (21, .inl (.int .i64 ((2 : Nat) : Int))), (22, .inr (1, pt 2)), (23, .inl (.int .u64 ((b2 : Nat) : Int))), (24, .inl (.int .u64 ((k1 : Nat) : Int))), (25, .inl (.tuple #[.int .u64 ((s2 : Nat) : Int), .int .u64 ((k2 : Nat) : Int)])), (16, .inl (.tuple #[.int .u64 ((s2 : Nat) : Int), .int .u64 ((k2 : Nat) : Int)])), (26, .inl (.int .u64 ((s2 : Nat) : Int))), (27, .inl (.int .u64 ((k2 : Nat) : Int))), (28, .inr (3, pt 2)), (7, .inl (.int .u64 ((k2 : Nat) : Int)))] [] [(3, w4 s0 s1 s2 0)] [nn, nn, nn, eR 0, nn, nn, eR 1, eO, nn, nn, nn, nn, nn, eS 3] ?_ ?_
  · exact oc (k_mv (.inl rfl) rfl) <|
    oc (k_mv (.inl rfl) rfl) <|
    oc (k_ia 0 0 2 (.int .i64 ((2 : Nat) : Int)) (fun w q => by kernel_rfl) rfl rfl) <|
    oc (k_ld 0 2 (.int .u64 ((a2 : Nat) : Int)) (c := w4 a0 a1 a2 a3) (ld_w (i := 2) (v := a2) 83 rfl) rfl rfl) <|
    oc (k_mv (.inl rfl) rfl) <|
    oc (k_ia 1 0 2 (.int .i64 ((2 : Nat) : Int)) (fun w q => by kernel_rfl) rfl rfl) <|
    oc (k_ld 1 2 (.int .u64 ((b2 : Nat) : Int)) (c := w4 b0 b1 b2 b3) (ld_w (i := 2) (v := b2) 83 rfl) rfl rfl) <|
    oc (k_m0 rfl rfl) <|
    oc (k_cx 75 #[.int .u64 ((a2 : Nat) : Int), .int .u64 ((b2 : Nat) : Int), .int .u64 ((k1 : Nat) : Int)] (.tuple #[.int .u64 ((s2 : Nat) : Int), .int .u64 ((k2 : Nat) : Int)]) ca2 rfl rfl) <|
    oc (k_mv (.inl rfl) rfl) <|
    oc (k_ex (.tuple #[.int .u64 ((s2 : Nat) : Int), .int .u64 ((k2 : Nat) : Int)]) (.int .u64 ((s2 : Nat) : Int)) rfl rfl) <|
    oc (k_ex (.tuple #[.int .u64 ((s2 : Nat) : Int), .int .u64 ((k2 : Nat) : Int)]) (.int .u64 ((k2 : Nat) : Int)) rfl rfl) <|
    oc (k_ia 3 0 2 (.int .i64 ((2 : Nat) : Int)) (fun w q => by kernel_rfl) rfl rfl) <|
    oc (k_st 3 2 (.int .u64 ((s2 : Nat) : Int)) (c := w4 s0 s1 0 0) (n := w4 s0 s1 s2 0) (st_w (i := 2) (v := s2) (n := w4 s0 s1 s2 0) 83 rfl rfl) rfl rfl) <|
    oz (k_mv (.inr rfl) rfl) <|
    ok_nil
  clear h; intro β a w h
  refine sym_then ?_
  refine St.rg h [(30, .inl (.int .i64 ((2 : Nat) : Int))), (31, .inl (.int .i64 ((2 : Nat) : Int))), (32, .inr (3, pt 2)), (33, .inl (.int .u64 ((s2 : Nat) : Int))), (34, .inl (.int .u64 ((0 : Nat) : Int))), (35, .inl (.int .u64 ((e1 : Nat) : Int))), (36, .inl (.tuple #[.int .u64 ((r2 : Nat) : Int), .int .u64 ((e2 : Nat) : Int)])), (29, .inl (.tuple #[.int .u64 ((r2 : Nat) : Int), .int .u64 ((e2 : Nat) : Int)])), (37, .inl (.int .u64 ((r2 : Nat) : Int))), (38, .inl (.int .u64 ((e2 : Nat) : Int))), (39, .inr (4, pt 2)), (8, .inl (.int .u64 ((e2 : Nat) : Int)))] [] [(4, w4 r0 r1 r2 0)] [nn, nn, nn, eR 3, nn, eO, nn, nn, nn, nn, nn, eS 4] ?_ ?_
  · exact oc (k_mv (.inl rfl) rfl) <|
    oc (k_mv (.inl rfl) rfl) <|
    oc (k_ia 3 0 2 (.int .i64 ((2 : Nat) : Int)) (fun w q => by kernel_rfl) rfl rfl) <|
    oc (k_ld 3 2 (.int .u64 ((s2 : Nat) : Int)) (c := w4 s0 s1 s2 0) (ld_w (i := 2) (v := s2) 83 rfl) rfl rfl) <|
    oc (k_mv (.inl rfl) rfl) <|
    oc (k_m0 rfl rfl) <|
    oc (k_cx 76 #[.int .u64 ((s2 : Nat) : Int), .int .u64 ((0 : Nat) : Int), .int .u64 ((e1 : Nat) : Int)] (.tuple #[.int .u64 ((r2 : Nat) : Int), .int .u64 ((e2 : Nat) : Int)]) cs2 rfl rfl) <|
    oc (k_mv (.inl rfl) rfl) <|
    oc (k_ex (.tuple #[.int .u64 ((r2 : Nat) : Int), .int .u64 ((e2 : Nat) : Int)]) (.int .u64 ((r2 : Nat) : Int)) rfl rfl) <|
    oc (k_ex (.tuple #[.int .u64 ((r2 : Nat) : Int), .int .u64 ((e2 : Nat) : Int)]) (.int .u64 ((e2 : Nat) : Int)) rfl rfl) <|
    oc (k_ia 4 0 2 (.int .i64 ((2 : Nat) : Int)) (fun w q => by kernel_rfl) rfl rfl) <|
    oc (k_st 4 2 (.int .u64 ((r2 : Nat) : Int)) (c := w4 r0 r1 0 0) (n := w4 r0 r1 r2 0) (st_w (i := 2) (v := r2) (n := w4 r0 r1 r2 0) 83 rfl rfl) rfl rfl) <|
    oz (k_mv (.inr rfl) rfl) <|
    ok_nil
  clear h; intro β a w h
  refine blk_norm ?_
  refine sym_then ?_
  refine St.r0 h [(40, .inl (.int .i64 ((3 : Nat) : Int))), (12, .inl (.int .i64 ((3 : Nat) : Int)))] [eO] ?_ ?_
  · exact oc (k_b0 (.int .i64 ((2 : Nat) : Int)) (.int .i64 ((1 : Nat) : Int)) (.int .i64 ((3 : Nat) : Int)) (ad_k (m := 2) (n := 1) rfl (by decide)) rfl rfl) <|
    oz (k_mv (.inl rfl) rfl) <|
    ok_nil
  clear h; intro β a w h
  refine then_norm ?_
  replace h := St.cs h (s' := [.inl (.agg (w4 a0 a1 a2 a3)), .inl (.agg (w4 b0 b1 b2 b3)), .inr (0, pt 0), .inr (1, pt 0), .inr (2, pt 0), .inr (3, pt 0), .inr (4, pt 0), .inl (.int .u64 ((k2 : Nat) : Int)), .inl (.int .u64 ((e2 : Nat) : Int)), .inl (.int .i64 ((2 : Nat) : Int)), .inl (.int .u64 ((0 : Nat) : Int)), .inl (.agg (w4 6346243789798364141 1503914060200516822 0 1152921504606846976)), .inl (.int .i64 ((3 : Nat) : Int)), .inl (.bool true), .inl (.int .i64 ((2 : Nat) : Int)), .inl (.int .u64 ((0 : Nat) : Int)), .inl (.tuple #[.int .u64 ((s2 : Nat) : Int), .int .u64 ((k2 : Nat) : Int)]), .inl (.int .i64 ((2 : Nat) : Int)), .inl (.int .i64 ((2 : Nat) : Int)), .inr (0, pt 2), .inl (.int .u64 ((a2 : Nat) : Int)), .inl (.int .i64 ((2 : Nat) : Int)), .inr (1, pt 2), .inl (.int .u64 ((b2 : Nat) : Int)), .inl (.int .u64 ((k1 : Nat) : Int)), .inl (.tuple #[.int .u64 ((s2 : Nat) : Int), .int .u64 ((k2 : Nat) : Int)]), .inl (.int .u64 ((s2 : Nat) : Int)), .inl (.int .u64 ((k2 : Nat) : Int)), .inr (3, pt 2), .inl (.tuple #[.int .u64 ((r2 : Nat) : Int), .int .u64 ((e2 : Nat) : Int)]), .inl (.int .i64 ((2 : Nat) : Int)), .inl (.int .i64 ((2 : Nat) : Int)), .inr (3, pt 2), .inl (.int .u64 ((s2 : Nat) : Int)), .inl (.int .u64 ((0 : Nat) : Int)), .inl (.int .u64 ((e1 : Nat) : Int)), .inl (.tuple #[.int .u64 ((r2 : Nat) : Int), .int .u64 ((e2 : Nat) : Int)]), .inl (.int .u64 ((r2 : Nat) : Int)), .inl (.int .u64 ((e2 : Nat) : Int)), .inr (4, pt 2), .inl (.int .i64 ((3 : Nat) : Int)), uu, uu, uu, uu]) (m' := [(w4 a0 a1 a2 a3, 83), (w4 b0 b1 b2 b3, 83), (w4 0 0 0 0, 83), (w4 s0 s1 s2 0, 83), (w4 r0 r1 r2 0, 83)]) (by kernel_rfl) (by kernel_rfl)
  replace h := h.o0
  refine rounds_1 ?_
  refine sym_seq ?_
  refine St.r0 h [] [] ?_ ?_
  · exact oz (k_bi (.int .i64 ((3 : Nat) : Int)) (.int .i64 ((4 : Nat) : Int)) (.bool true) (lt_i (m := ((3 : Nat) : Int)) (n := ((4 : Nat) : Int)) (by decide)) rfl rfl) <|
    ok_nil
  clear h; intro β a w h
  refine sym_then ?_
  refine sym_seq ?_
  refine s_ct h ?_
  refine wp_skip ?_
  refine sym_then ?_
  refine sym_seq ?_
  refine blk_in ?_
  refine sym_seq ?_
  refine St.r0 h [(14, .inl (.int .i64 ((3 : Nat) : Int))), (15, .inl (.int .u64 ((1152921504606846976 : Nat) : Int))), (9, .inl (.int .i64 ((3 : Nat) : Int))), (10, .inl (.int .u64 ((1152921504606846976 : Nat) : Int)))] [] ?_ ?_
  · exact oz (k_mv (.inl rfl) rfl) <|
    oz (k_ix (.agg (w4 6346243789798364141 1503914060200516822 0 1152921504606846976)) (.int .i64 ((3 : Nat) : Int)) (.int .u64 ((1152921504606846976 : Nat) : Int)) (fun w => by kernel_rfl) rfl rfl) <|
    oz (k_mv (.inr rfl) rfl) <|
    oz (k_mv (.inr rfl) rfl) <|
    ok_nil
  clear h; intro β a w h
  refine sym_then ?_
  refine sym_seq ?_
  refine St.rg h [(17, .inl (.int .i64 ((3 : Nat) : Int))), (18, .inl (.int .i64 ((3 : Nat) : Int))), (19, .inr (0, pt 3)), (20, .inl (.int .u64 ((a3 : Nat) : Int))), (21, .inl (.int .i64 ((3 : Nat) : Int))), (22, .inr (1, pt 3)), (23, .inl (.int .u64 ((b3 : Nat) : Int))), (24, .inl (.int .u64 ((k2 : Nat) : Int))), (25, .inl (.tuple #[.int .u64 ((s3 : Nat) : Int), .int .u64 ((k3 : Nat) : Int)])), (16, .inl (.tuple #[.int .u64 ((s3 : Nat) : Int), .int .u64 ((k3 : Nat) : Int)])), (26, .inl (.int .u64 ((s3 : Nat) : Int))), (27, .inl (.int .u64 ((k3 : Nat) : Int))), (28, .inr (3, pt 3)), (7, .inl (.int .u64 ((k3 : Nat) : Int)))] [] [(3, w4 s0 s1 s2 s3)] [nn, nn, nn, eR 0, nn, nn, eR 1, eO, nn, nn, nn, nn, nn, eS 3] ?_ ?_
  · exact oc (k_mv (.inl rfl) rfl) <|
    oc (k_mv (.inl rfl) rfl) <|
    oc (k_ia 0 0 3 (.int .i64 ((3 : Nat) : Int)) (fun w q => by kernel_rfl) rfl rfl) <|
    oc (k_ld 0 3 (.int .u64 ((a3 : Nat) : Int)) (c := w4 a0 a1 a2 a3) (ld_w (i := 3) (v := a3) 83 rfl) rfl rfl) <|
    oc (k_mv (.inl rfl) rfl) <|
    oc (k_ia 1 0 3 (.int .i64 ((3 : Nat) : Int)) (fun w q => by kernel_rfl) rfl rfl) <|
    oc (k_ld 1 3 (.int .u64 ((b3 : Nat) : Int)) (c := w4 b0 b1 b2 b3) (ld_w (i := 3) (v := b3) 83 rfl) rfl rfl) <|
    oc (k_m0 rfl rfl) <|
    oc (k_cx 75 #[.int .u64 ((a3 : Nat) : Int), .int .u64 ((b3 : Nat) : Int), .int .u64 ((k2 : Nat) : Int)] (.tuple #[.int .u64 ((s3 : Nat) : Int), .int .u64 ((k3 : Nat) : Int)]) ca3 rfl rfl) <|
    oc (k_mv (.inl rfl) rfl) <|
    oc (k_ex (.tuple #[.int .u64 ((s3 : Nat) : Int), .int .u64 ((k3 : Nat) : Int)]) (.int .u64 ((s3 : Nat) : Int)) rfl rfl) <|
    oc (k_ex (.tuple #[.int .u64 ((s3 : Nat) : Int), .int .u64 ((k3 : Nat) : Int)]) (.int .u64 ((k3 : Nat) : Int)) rfl rfl) <|
    oc (k_ia 3 0 3 (.int .i64 ((3 : Nat) : Int)) (fun w q => by kernel_rfl) rfl rfl) <|
    oc (k_st 3 3 (.int .u64 ((s3 : Nat) : Int)) (c := w4 s0 s1 s2 0) (n := w4 s0 s1 s2 s3) (st_w (i := 3) (v := s3) (n := w4 s0 s1 s2 s3) 83 rfl rfl) rfl rfl) <|
    oz (k_mv (.inr rfl) rfl) <|
    ok_nil
  clear h; intro β a w h
  refine sym_then ?_
  refine St.rg h [(30, .inl (.int .i64 ((3 : Nat) : Int))), (31, .inl (.int .i64 ((3 : Nat) : Int))), (32, .inr (3, pt 3)), (33, .inl (.int .u64 ((s3 : Nat) : Int))), (34, .inl (.int .u64 ((1152921504606846976 : Nat) : Int))), (35, .inl (.int .u64 ((e2 : Nat) : Int))), (36, .inl (.tuple #[.int .u64 ((r3 : Nat) : Int), .int .u64 ((e3 : Nat) : Int)])), (29, .inl (.tuple #[.int .u64 ((r3 : Nat) : Int), .int .u64 ((e3 : Nat) : Int)])), (37, .inl (.int .u64 ((r3 : Nat) : Int))), (38, .inl (.int .u64 ((e3 : Nat) : Int))), (39, .inr (4, pt 3)), (8, .inl (.int .u64 ((e3 : Nat) : Int)))] [] [(4, w4 r0 r1 r2 r3)] [nn, nn, nn, eR 3, nn, eO, nn, nn, nn, nn, nn, eS 4] ?_ ?_
  · exact oc (k_mv (.inl rfl) rfl) <|
    oc (k_mv (.inl rfl) rfl) <|
    oc (k_ia 3 0 3 (.int .i64 ((3 : Nat) : Int)) (fun w q => by kernel_rfl) rfl rfl) <|
    oc (k_ld 3 3 (.int .u64 ((s3 : Nat) : Int)) (c := w4 s0 s1 s2 s3) (ld_w (i := 3) (v := s3) 83 rfl) rfl rfl) <|
    oc (k_mv (.inl rfl) rfl) <|
    oc (k_m0 rfl rfl) <|
    oc (k_cx 76 #[.int .u64 ((s3 : Nat) : Int), .int .u64 ((1152921504606846976 : Nat) : Int), .int .u64 ((e2 : Nat) : Int)] (.tuple #[.int .u64 ((r3 : Nat) : Int), .int .u64 ((e3 : Nat) : Int)]) cs3 rfl rfl) <|
    oc (k_mv (.inl rfl) rfl) <|
    oc (k_ex (.tuple #[.int .u64 ((r3 : Nat) : Int), .int .u64 ((e3 : Nat) : Int)]) (.int .u64 ((r3 : Nat) : Int)) rfl rfl) <|
    oc (k_ex (.tuple #[.int .u64 ((r3 : Nat) : Int), .int .u64 ((e3 : Nat) : Int)]) (.int .u64 ((e3 : Nat) : Int)) rfl rfl) <|
    oc (k_ia 4 0 3 (.int .i64 ((3 : Nat) : Int)) (fun w q => by kernel_rfl) rfl rfl) <|
    oc (k_st 4 3 (.int .u64 ((r3 : Nat) : Int)) (c := w4 r0 r1 r2 0) (n := w4 r0 r1 r2 r3) (st_w (i := 3) (v := r3) (n := w4 r0 r1 r2 r3) 83 rfl rfl) rfl rfl) <|
    oz (k_mv (.inr rfl) rfl) <|
    ok_nil
  clear h; intro β a w h
  refine blk_norm ?_
  refine sym_then ?_
  refine St.r0 h [(40, .inl (.int .i64 ((4 : Nat) : Int))), (12, .inl (.int .i64 ((4 : Nat) : Int)))] [eO] ?_ ?_
  · exact oc (k_b0 (.int .i64 ((3 : Nat) : Int)) (.int .i64 ((1 : Nat) : Int)) (.int .i64 ((4 : Nat) : Int)) (ad_k (m := 3) (n := 1) rfl (by decide)) rfl rfl) <|
    oz (k_mv (.inl rfl) rfl) <|
    ok_nil
  clear h; intro β a w h
  refine then_norm ?_
  replace h := St.cs h (s' := [.inl (.agg (w4 a0 a1 a2 a3)), .inl (.agg (w4 b0 b1 b2 b3)), .inr (0, pt 0), .inr (1, pt 0), .inr (2, pt 0), .inr (3, pt 0), .inr (4, pt 0), .inl (.int .u64 ((k3 : Nat) : Int)), .inl (.int .u64 ((e3 : Nat) : Int)), .inl (.int .i64 ((3 : Nat) : Int)), .inl (.int .u64 ((1152921504606846976 : Nat) : Int)), .inl (.agg (w4 6346243789798364141 1503914060200516822 0 1152921504606846976)), .inl (.int .i64 ((4 : Nat) : Int)), .inl (.bool true), .inl (.int .i64 ((3 : Nat) : Int)), .inl (.int .u64 ((1152921504606846976 : Nat) : Int)), .inl (.tuple #[.int .u64 ((s3 : Nat) : Int), .int .u64 ((k3 : Nat) : Int)]), .inl (.int .i64 ((3 : Nat) : Int)), .inl (.int .i64 ((3 : Nat) : Int)), .inr (0, pt 3), .inl (.int .u64 ((a3 : Nat) : Int)), .inl (.int .i64 ((3 : Nat) : Int)), .inr (1, pt 3), .inl (.int .u64 ((b3 : Nat) : Int)), .inl (.int .u64 ((k2 : Nat) : Int)), .inl (.tuple #[.int .u64 ((s3 : Nat) : Int), .int .u64 ((k3 : Nat) : Int)]), .inl (.int .u64 ((s3 : Nat) : Int)), .inl (.int .u64 ((k3 : Nat) : Int)), .inr (3, pt 3), .inl (.tuple #[.int .u64 ((r3 : Nat) : Int), .int .u64 ((e3 : Nat) : Int)]), .inl (.int .i64 ((3 : Nat) : Int)), .inl (.int .i64 ((3 : Nat) : Int)), .inr (3, pt 3), .inl (.int .u64 ((s3 : Nat) : Int)), .inl (.int .u64 ((1152921504606846976 : Nat) : Int)), .inl (.int .u64 ((e2 : Nat) : Int)), .inl (.tuple #[.int .u64 ((r3 : Nat) : Int), .int .u64 ((e3 : Nat) : Int)]), .inl (.int .u64 ((r3 : Nat) : Int)), .inl (.int .u64 ((e3 : Nat) : Int)), .inr (4, pt 3), .inl (.int .i64 ((4 : Nat) : Int)), uu, uu, uu, uu]) (m' := [(w4 a0 a1 a2 a3, 83), (w4 b0 b1 b2 b3, 83), (w4 0 0 0 0, 83), (w4 s0 s1 s2 s3, 83), (w4 r0 r1 r2 r3, 83)]) (by kernel_rfl) (by kernel_rfl)
  replace h := h.o0
  refine rounds_1 ?_
  refine sym_seq ?_
  refine St.r0 h [(13, .inl (.bool false))] [] ?_ ?_
  · exact oz (k_bi (.int .i64 ((4 : Nat) : Int)) (.int .i64 ((4 : Nat) : Int)) (.bool false) (lt_i (m := ((4 : Nat) : Int)) (n := ((4 : Nat) : Int)) (by decide)) rfl rfl) <|
    ok_nil
  clear h; intro β a w h
  refine sym_then ?_
  refine sym_seq ?_
  refine s_cf h ?_
  refine wp_exit ?_
  refine then_exit ?_
  refine then_exit ?_
  refine blk_exit ?_
  refine sym_then ?_
  refine sym_seq ?_
  refine sym_seq ?_
  refine St.r0 h [(41, .inl (.int .u64 ((e3 : Nat) : Int))), (42, .inl (.bool false))] [] ?_ ?_
  · exact oz (k_mv (.inl rfl) rfl) <|
    oz (k_bi (.int .u64 ((e3 : Nat) : Int)) (.int .u64 ((1 : Nat) : Int)) (.bool false) (eq_u64 (m := e3) (n := 1) (decide_eq_false hb)) rfl rfl) <|
    ok_nil
  clear h; intro β a w h
  refine sym_then ?_
  refine s_cf h ?_
  refine wp_skip ?_
  refine sym_then ?_
  refine sym_seq ?_
  refine St.rg h [(44, .inl (.agg (w4 r0 r1 r2 r3)))] [] [(2, w4 r0 r1 r2 r3)] [eR 4, eS 2] ?_ ?_
  · exact oc (k_ld 4 0 (.agg (w4 r0 r1 r2 r3)) (c := w4 r0 r1 r2 r3) (ldW 83) rfl rfl) <|
    oc (k_st 2 0 (.agg (w4 r0 r1 r2 r3)) (c := w4 0 0 0 0) (n := w4 r0 r1 r2 r3) (stW 83 rfl) rfl rfl) <|
    ok_nil
  clear h; intro β a w h
  refine sym_then ?_
  refine wp_ret ?_
  exact s_rc (b := 2) (t0 := 83) (c := w4 r0 r1 r2 r3) h Try.results52 Try.underlying83 (fun hb => ⟨rfl, hb⟩) (by kernel_rfl)

theorem split4 (n : Nat) (h : n < 115792089237316195423570985008687907853269984665640564039457584007913129639936) : ∃ a0 a1 a2 a3 : Nat, a0 < 18446744073709551616 ∧ a1 < 18446744073709551616 ∧ a2 < 18446744073709551616 ∧ a3 < 18446744073709551616 ∧ n = a0 + 18446744073709551616 * a1 + 340282366920938463463374607431768211456 * a2 + 6277101735386680763835789423207666416102355444464034512896 * a3 := by
  have h1 := Nat.div_add_mod n 18446744073709551616
  have h2 := Nat.div_add_mod (n / 18446744073709551616) 18446744073709551616
  have h3 := Nat.div_add_mod (n / 18446744073709551616 / 18446744073709551616) 18446744073709551616
  have l1 := Nat.mod_lt n (y := 18446744073709551616) (by decide)
  have l2 := Nat.mod_lt (n / 18446744073709551616) (y := 18446744073709551616) (by decide)
  have l3 := Nat.mod_lt (n / 18446744073709551616 / 18446744073709551616) (y := 18446744073709551616) (by decide)
  have l4 : n / 18446744073709551616 / 18446744073709551616 / 18446744073709551616 < 18446744073709551616 := by rw [Nat.div_div_eq_div_mul, Nat.div_div_eq_div_mul]; exact Nat.div_lt_of_lt_mul h
  refine ⟨n % 18446744073709551616, n / 18446744073709551616 % 18446744073709551616, n / 18446744073709551616 / 18446744073709551616 % 18446744073709551616, n / 18446744073709551616 / 18446744073709551616 / 18446744073709551616, l1, l2, l3, l4, ?_⟩
  generalize n % 18446744073709551616 = r0 at *
  generalize n / 18446744073709551616 % 18446744073709551616 = r1 at *
  generalize n / 18446744073709551616 / 18446744073709551616 % 18446744073709551616 = r2 at *
  generalize n / 18446744073709551616 / 18446744073709551616 / 18446744073709551616 = q3 at *
  generalize n / 18446744073709551616 / 18446744073709551616 = q2 at *
  generalize n / 18446744073709551616 = q1 at *
  clear l1 l2 l3 l4 h
  omega
theorem sum_eq {m n a0 a1 a2 a3 b0 b1 b2 b3 s0 s1 s2 s3 k0 k1 k2 k3 : Nat} (em : m = a0 + 18446744073709551616 * a1 + 340282366920938463463374607431768211456 * a2 + 6277101735386680763835789423207666416102355444464034512896 * a3) (en : n = b0 + 18446744073709551616 * b1 + 340282366920938463463374607431768211456 * b2 + 6277101735386680763835789423207666416102355444464034512896 * b3) (x0 : s0 + 18446744073709551616 * k0 = a0 + b0 + 0) (x1 : s1 + 18446744073709551616 * k1 = a1 + b1 + k0) (x2 : s2 + 18446744073709551616 * k2 = a2 + b2 + k1) (x3 : s3 + 18446744073709551616 * k3 = a3 + b3 + k2) : s0 + 18446744073709551616 * s1 + 340282366920938463463374607431768211456 * s2 + 6277101735386680763835789423207666416102355444464034512896 * s3 + 115792089237316195423570985008687907853269984665640564039457584007913129639936 * k3 = m + n := by omega
theorem dif_eq {s0 s1 s2 s3 r0 r1 r2 r3 e0 e1 e2 e3 : Nat} (y0 : r0 + 6346243789798364141 + 0 = s0 + 18446744073709551616 * e0) (y1 : r1 + 1503914060200516822 + e0 = s1 + 18446744073709551616 * e1) (y2 : r2 + 0 + e1 = s2 + 18446744073709551616 * e2) (y3 : r3 + 1152921504606846976 + e2 = s3 + 18446744073709551616 * e3) : r0 + 18446744073709551616 * r1 + 340282366920938463463374607431768211456 * r2 + 6277101735386680763835789423207666416102355444464034512896 * r3 + 7237005577332262213973186563042994240857116359379907606001950938285454250989 = s0 + 18446744073709551616 * s1 + 340282366920938463463374607431768211456 * s2 + 6277101735386680763835789423207666416102355444464034512896 * s3 + 115792089237316195423570985008687907853269984665640564039457584007913129639936 * e3 := by omega
theorem four_lt {a b c d : Nat} (ha : a < 18446744073709551616) (hb : b < 18446744073709551616) (hc : c < 18446744073709551616) (hd : d < 18446744073709551616) : a + 18446744073709551616 * b + 340282366920938463463374607431768211456 * c + 6277101735386680763835789423207666416102355444464034512896 * d < 115792089237316195423570985008687907853269984665640564039457584007913129639936 := by omega
theorem only_S {m n S k : Nat} (hm : m < 7237005577332262213973186563042994240857116359379907606001950938285454250989) (hn : n < 7237005577332262213973186563042994240857116359379907606001950938285454250989) (hS : S < 115792089237316195423570985008687907853269984665640564039457584007913129639936) (h : S + 115792089237316195423570985008687907853269984665640564039457584007913129639936 * k = m + n) : S = m + n := by omega
theorem bor_S {m n S R e : Nat} (hR : R < 115792089237316195423570985008687907853269984665640564039457584007913129639936) (h : R + 7237005577332262213973186563042994240857116359379907606001950938285454250989 = S + 115792089237316195423570985008687907853269984665640564039457584007913129639936 * e) (he : e = 1) (hS : S = m + n) : m + n < 7237005577332262213973186563042994240857116359379907606001950938285454250989 := by omega
theorem nob_R {m n S R e : Nat} (hm : m < 7237005577332262213973186563042994240857116359379907606001950938285454250989) (hn : n < 7237005577332262213973186563042994240857116359379907606001950938285454250989) (h : R + 7237005577332262213973186563042994240857116359379907606001950938285454250989 = S + 115792089237316195423570985008687907853269984665640564039457584007913129639936 * e) (he : e ≤ 1) (hb : ¬ e = 1) (hS : S = m + n) : (m + n) % 7237005577332262213973186563042994240857116359379907606001950938285454250989 = R := by
  have h1 : R + 7237005577332262213973186563042994240857116359379907606001950938285454250989 = m + n := by omega
  rw [← h1, Nat.add_mod_right, Nat.mod_eq_of_lt (by omega)]
/-- A sum of residues. -/
def sumL (m n : Nat) : Nat := (m + n) % oL
theorem plus_res {m n : Nat} (hm : m < oL) (hn : n < oL) (W0 : World) : Calls Try.prog 52 #[.agg (rs m), .agg (rs n)] W0 fun e w' => e = .returned (.agg (rs (sumL m n))) ∧ Below W0.heap.size W0 w' := by
  unfold sumL
  have hl : oL = 7237005577332262213973186563042994240857116359379907606001950938285454250989 := rfl
  rw [hl] at hm hn ⊢
  clear hl
  obtain ⟨a0, a1, a2, a3, p0, p1, p2, p3, em⟩ := split4 m (by omega)
  obtain ⟨b0, b1, b2, b3, q0, q1, q2, q3, en⟩ := split4 n (by omega)
  obtain ⟨s0, k0, s0l, k0l, x0, ca0⟩ := add64_ex a0 b0 0 p0 q0 (by omega)
  obtain ⟨s1, k1, s1l, k1l, x1, ca1⟩ := add64_ex a1 b1 k0 p1 q1 k0l
  obtain ⟨s2, k2, s2l, k2l, x2, ca2⟩ := add64_ex a2 b2 k1 p2 q2 k1l
  obtain ⟨s3, k3, s3l, k3l, x3, ca3⟩ := add64_ex a3 b3 k2 p3 q3 k2l
  obtain ⟨r0, e0, r0l, e0l, y0, cs0⟩ := sub64_ex s0 6346243789798364141 0 s0l (by decide) (by decide)
  obtain ⟨r1, e1, r1l, e1l, y1, cs1⟩ := sub64_ex s1 1503914060200516822 e0 s1l (by decide) e0l
  obtain ⟨r2, e2, r2l, e2l, y2, cs2⟩ := sub64_ex s2 0 e1 s2l (by decide) e1l
  obtain ⟨r3, e3, r3l, e3l, y3, cs3⟩ := sub64_ex s3 1152921504606846976 e2 s3l (by decide) e2l
  have hS := sum_eq em en x0.out x1.out x2.out x3.out
  have hR := dif_eq y0.out y1.out y2.out y3.out
  have hSl := four_lt s0l s1l s2l s3l
  have hRl := four_lt r0l r1l r2l r3l
  obtain ⟨S, eS⟩ : ∃ S, S = s0 + 18446744073709551616 * s1 + 340282366920938463463374607431768211456 * s2 + 6277101735386680763835789423207666416102355444464034512896 * s3 := ⟨_, rfl⟩
  obtain ⟨R, eR⟩ : ∃ R, R = r0 + 18446744073709551616 * r1 + 340282366920938463463374607431768211456 * r2 + 6277101735386680763835789423207666416102355444464034512896 * r3 := ⟨_, rfl⟩
  rw [← eS] at hS hR hSl
  rw [← eR] at hR hRl
  have hk : S = m + n := only_S hm hn hSl hS
  rw [← rs_of p0 p1 p2 p3 em, ← rs_of q0 q1 q2 q3 en]
  by_cases hb : e3 = 1
  · rw [← rs_of s0l s1l s2l s3l (n := (m + n) % 7237005577332262213973186563042994240857116359379907606001950938285454250989) (by rw [Nat.mod_eq_of_lt (bor_S hRl hR hb hk), ← hk, eS])]
    exact pls_s ca0 ca1 ca2 ca3 cs0 cs1 cs2 cs3 hb W0
  · rw [← rs_of r0l r1l r2l r3l (n := (m + n) % 7237005577332262213973186563042994240857116359379907606001950938285454250989) (by rw [nob_R hm hn hR e3l hb hk, eR])]
    exact pls_r ca0 ca1 ca2 ca3 cs0 cs1 cs2 cs3 hb W0
theorem sumL_lt (m n : Nat) : sumL m n < oL := Nat.mod_lt _ (by decide +kernel)
end Go.Proofs.Ytpogmflgmpifoaa

namespace Go.Proofs.Ytpogmflgmpifoaa
open Go.RowKit Go.Shelf

/-- The number that bytes tell, the lowest first. -/
def nB (f : Nat → Nat) : Nat → Nat
  | 0 => 0
  | k + 1 => nB f k + f k * 256 ^ k
theorem nB_lt {f : Nat → Nat} (hf : ∀ i, f i < 256) : ∀ k, nB f k < 256 ^ k
  | 0 => by show 0 < 1; omega
  | k + 1 => by
    have h1 := nB_lt hf k
    have h2 := hf k
    have h3 : f k * 256 ^ k ≤ 255 * 256 ^ k := Nat.mul_le_mul_right _ (by omega)
    show nB f k + f k * 256 ^ k < 256 ^ (k + 1)
    rw [Nat.pow_succ]; omega
theorem nB_byte {f : Nat → Nat} (hf : ∀ i, f i < 256) : ∀ k i, i < k → nB f k / 256 ^ i % 256 = f i
  | 0, _, h => by omega
  | k + 1, i, h => by
    show (nB f k + f k * 256 ^ k) / 256 ^ i % 256 = f i
    have h1 := nB_lt hf k
    have hp : 0 < 256 ^ i := Nat.pow_pos (by omega)
    by_cases e : i = k
    · subst e
      rw [Nat.add_mul_div_right _ _ hp, Nat.div_eq_of_lt h1, Nat.zero_add, Nat.mod_eq_of_lt (hf i)]
    · have e2 : f k * 256 ^ k = f k * 256 ^ (k - i - 1) * 256 * 256 ^ i := by
        rw [Nat.mul_assoc, Nat.mul_assoc, Nat.mul_comm 256, ← Nat.pow_succ, ← Nat.pow_add, show k - i - 1 + (i + 1) = k by omega]
      rw [e2, Nat.add_mul_div_right _ _ hp, Nat.add_mul_mod_self_right]
      exact nB_byte hf k i (by omega)
theorem fg_nB {f : Nat → Nat} (hf : ∀ i, f i < 256) (k j : Nat) (h : j < 8 * k) : fg f j = nB f k / 2 ^ j % 2 := by
  unfold fg
  rw [← nB_byte hf k (j / 8) (by omega)]
  have e : 2 ^ j = 256 ^ (j / 8) * 2 ^ (j % 8) := by
    rw [show (256 : Nat) = 2 ^ 8 from rfl, ← Nat.pow_mul, ← Nat.pow_add]; congr 1; omega
  rw [e, ← Nat.div_div_eq_div_mul]
  generalize nB f k / 256 ^ (j / 8) = m
  have hr : j % 8 < 8 := Nat.mod_lt _ (by omega)
  generalize j % 8 = r at hr
  obtain rfl | rfl | rfl | rfl | rfl | rfl | rfl | rfl : r = 0 ∨ r = 1 ∨ r = 2 ∨ r = 3 ∨ r = 4 ∨ r = 5 ∨ r = 6 ∨ r = 7 := by omega
  all_goals omega
/-- So many times a residue. -/
theorem fldL {f : Nat → Nat} (hf : ∀ i, f i < 256) {a : Nat} (n : Nat) : ∀ k, k ≤ 8 * n → fldM sumL 0 a (tops f (8 * n) k) = nB f n / 2 ^ (8 * n - k) * a % oL
  | 0, _ => by
    have h := nB_lt hf n
    rw [show (256 : Nat) = 2 ^ 8 from rfl, ← Nat.pow_mul] at h
    show 0 = _
    rw [Nat.sub_zero, Nat.div_eq_of_lt h, Nat.zero_mul, Nat.zero_mod]
  | k + 1, h => by
    have ih := fldL hf (a := a) n k (by omega)
    have e : 8 * n - k = (8 * n - 1 - k) + 1 := by omega
    have e2 : 8 * n - (k + 1) = 8 * n - 1 - k := by omega
    rw [e, Nat.pow_succ, ← Nat.div_div_eq_div_mul] at ih
    rw [tops_succ, e2]
    have hb := fg_nB hf n (8 * n - 1 - k) (by omega)
    generalize nB f n / 2 ^ (8 * n - 1 - k) = m at *
    rcases Nat.mod_two_eq_zero_or_one m with h2 | h2
    · rw [h2] at hb
      rw [fldM_0 _ _ _ _ (by omega), ih]
      unfold sumL
      rw [← Nat.add_mod, ← Nat.add_mul, show m / 2 + m / 2 = m by omega]
    · rw [h2] at hb
      rw [hb, fldM_1, ih]
      unfold sumL
      rw [← Nat.add_mod, ← Nat.add_mul, Nat.mod_add_mod]
      congr 1
      have : m = m / 2 + m / 2 + 1 := by omega
      rw [this, Nat.add_mul (m / 2 + m / 2) 1, Nat.one_mul]
      congr 2 <;> omega
theorem fldL_all {f : Nat → Nat} (hf : ∀ i, f i < 256) {a : Nat} (n : Nat) : fldM sumL 0 a (tops f (8 * n) (8 * n)) = nB f n * a % oL := by
  rw [fldL hf n _ (Nat.le_refl _), Nat.sub_self, Nat.pow_zero, Nat.div_one]

theorem rs_size (n : Nat) : (rs n).size = 4 := rfl
theorem rs_one (n : Nat) : (rs n).all (·.oneCell') = true := w4_one _ _ _ _
theorem ldN {n : Nat} (t0 : TypeId) (w : World) (q : Nat) (h : w.heap[q]? = some (.cells (rs n) t0 (0, 0))) : (Instr.loadAt 83 (.pointer (some ⟨q, 0, none⟩))).run Try.prog w = .ok (.agg (rs n)) w := ldW t0 w q h
theorem stN' {n : Nat} {e : Array Value} (t0 : TypeId) (he : e.size = 4) (w : World) (q : Nat) (h : w.heap[q]? = some (.cells e t0 (0, 0))) : (Instr.storeAt 83 (.pointer (some ⟨q, 0, none⟩)) (.agg (rs n))).run Try.prog w = .ok () (w.setRow q (rs n)) := stW t0 he w q h
theorem alN (w : World) : (Instr.alloc 83 true (.tuple #[])).run Try.prog w = .ok (.pointer (some ⟨w.heap.size, 0, none⟩)) (w.alloc (.cells (rs 0) 83)) := alW w
theorem bxN {n : Nat} (w : World) : (Instr.box 83 (.agg (rs n))).run Try.prog w = .ok (.pointer (some ⟨w.heap.size, 0, none⟩)) (w.alloc (.cells (rs n) 83)) := bx_agg w
theorem bdN0 (w : World) : (Instr.build 83 #[]).run Try.prog w = .ok (.agg (rs 0)) w := by kernel_rfl
theorem bdN1 (w : World) : (Instr.build 83 #[(0, .int .u64 ((1 : Nat) : Int))]).run Try.prog w = .ok (.agg (rs 1)) w := by kernel_rfl
theorem many_L {a : Nat} (ha : a < oL) {aa : Option Addr} {len cap : Nat} {f : Nat → Nat} (hm : len ≤ 1000) (W0 : World) (hb : Bs W0 aa len f) :
    Calls Try.prog 73 #[.slice aa len cap, .agg (rs 0), .agg (rs a), .func (.func 52) #[] #[]] W0 fun e w' => e = .returned (.agg (rs (nB f len * a % oL))) ∧ Below W0.heap.size W0 w' := by
  have h := many_res (Vl := rs) (G := fun n => n < oL) (add := sumL) (zc0 := rs 0) (fun n => by rw [rs_size]; kernel_rfl) (fun _ _ => rfl) (fun _ => rfl) rs_one alN (fun _ _ _ _ => sumL_lt _ _) (fun m n h1 h2 w => plus_res h1 h2 w) (no := 0) (one := a) (by decide +kernel) ha (aa := aa) (len := len) (cap := cap) (f := f) hm W0 hb
  rwa [fldL_all hb.1] at h
theorem gt_i {x u : Operand} {m n : Int} {b : Bool} (h : decide (n < m) = b) (w : World) : (do eqGuard .gtr 3 x u (.int .i64 m) (.int .i64 n); binOp .gtr 3 (.int .i64 m) (.int .i64 n)).run Try.prog w = .ok (.bool b) w := by
  subst h; simp [eqGuard, binOp, go_sem]
theorem len_run {aa : Option Addr} {n c : Nat} (ty : TypeId) (w : World) : (Builtin.len_ #[50] ty #[.slice aa n c]).run Try.prog w = .ok (.int .i64 ((n : Nat) : Int)) w := by
  simp [Builtin.len_, go_sem]
theorem sl_k (w : World) (q : Nat) : (Instr.sliceAt 23 (.pointer (some ⟨q, 0, none⟩)) none none none).run Try.prog w = .ok (.slice (some ⟨q, 0, none⟩) 32 32) w := by kernel_rfl
/-- Word number i, byte number i of a number. -/
def wq (n i : Nat) : Nat := n / 18446744073709551616 ^ i % 18446744073709551616
def kq (n i : Nat) : Nat := n / 256 ^ i % 256
theorem rs_get {n i : Nat} (h : i < 4) : (rs n)[i]? = some (.int .u64 ((wq n i : Nat) : Int)) := by
  obtain rfl | rfl | rfl | rfl : i = 0 ∨ i = 1 ∨ i = 2 ∨ i = 3 := by omega
  · simp [rs, w4, wq]
  · simp [rs, w4, wq]
  · rfl
  · rfl
theorem ixN {i : Nat} (hi : i < 4) (w : World) (q : Nat) : (Instr.indexAt 83 (.pointer (some ⟨q, 0, none⟩)) (.int .i64 ((i : Nat) : Int))).run Try.prog w = .ok (.pointer (some ⟨q, i, none⟩)) w := by
  simp [Instr.indexAt, go_sem, hi, addr_add]
theorem sr_q {x u : Operand} {m r : Nat} (hr : r < 64) (w : World) : (do eqGuard .shr 25 x u (.int .u64 ((m : Nat) : Int)) (.int .i64 ((r : Nat) : Int)); binOp .shr 25 (.int .u64 ((m : Nat) : Int)) (.int .i64 ((r : Nat) : Int))).run Try.prog w = .ok (.int .u64 ((m / 2 ^ r : Nat) : Int)) w := by
  simp [eqGuard, binOp, go_sem]
theorem cv_qb {n : Nat} (w : World) : (convert 25 5 (.int .u64 ((n : Nat) : Int))).run Try.prog w = .ok (.int .u8 ((n % 256 : Nat) : Int)) w := by
  have h1 : IntKind.u8.wrap (n : Int) = ((n % 256 : Nat) : Int) := by rw [IntKind.wrap_u8]; omega
  simp [convert, go_sem, h1]
theorem key_byte (n i : Nat) : wq n (i / 8) / 2 ^ (i % 8 * 8) % 256 = kq n i := by
  unfold wq kq
  have e : 256 ^ i = 18446744073709551616 ^ (i / 8) * 2 ^ (i % 8 * 8) := by
    rw [show (256 : Nat) = 2 ^ 8 from rfl, show (18446744073709551616 : Nat) = 2 ^ 64 from rfl, ← Nat.pow_mul, ← Nat.pow_mul, ← Nat.pow_add]
    congr 1; omega
  rw [e, ← Nat.div_div_eq_div_mul]
  generalize n / 18446744073709551616 ^ (i / 8) = m
  have hr : i % 8 < 8 := Nat.mod_lt _ (by omega)
  generalize i % 8 = r at hr
  obtain rfl | rfl | rfl | rfl | rfl | rfl | rfl | rfl : r = 0 ∨ r = 1 ∨ r = 2 ∨ r = 3 ∨ r = 4 ∨ r = 5 ∨ r = 6 ∨ r = 7 := by omega
  all_goals omega
def kF (n k i : Nat) : Nat := if i < k then kq n i else 0
theorem kF_next (n k : Nat) : ck (updN (kF n k) k (wq n (k / 8) / 2 ^ (k % 8 * 8) % 256)) = ck (kF n (k + 1)) := by
  rw [key_byte]
  refine ck_congr fun i _ => ?_
  unfold updN kF
  by_cases h : i = k
  · subst h; simp
  · have : (i < k + 1) = (i < k) := by simp; omega
    simp [h, this]
theorem kF_0 (n : Nat) : ck (fun _ => 0) = ck (kF n 0) := ck_congr fun i _ => by simp [kF]
theorem kF_end (n : Nat) : ck (kF n 32) = ck (kq n) := ck_congr fun i h => by simp [kF, h]
theorem kq_lt (n i : Nat) : kq n i < 256 := Nat.mod_lt _ (by omega)
end Go.Proofs.Ytpogmflgmpifoaa

namespace Go.Proofs.Ytpogmflgmpifoaa
open Go.RowKit Go.Shelf
theorem bdK0 (w : World) : (Instr.build 23 #[]).run Try.prog w = .ok (.agg (ck (fun _ => 0))) w := by rw [ck_zero]; kernel_rfl

set_option maxHeartbeats 4000000 in
theorem times_L {g : Nat} (ha : g < oL) {aa : Option Addr} {len cap : Nat} {f : Nat → Nat} (hm : len ≤ 1000) (W0 : World) (hb : Bs W0 aa len f) : Calls Try.prog 51 #[.slice aa len cap, .agg (rs g)] W0 fun e w' => e = .returned (.agg (rs (nB f len * g % oL))) ∧ Below W0.heap.size W0 w' := by
  refine s_in Try.func51 Try.ntmps51 rfl [.inl (.slice aa len cap), .inl (.agg (rs g))] ?_
  intro β a h
  refine sym_seq ?_
  refine St.rg h [(3, .inr (0, pt 0)), (4, .inr (1, pt 0))] [(rs g, 83), (rs 0, 83)] [] [eN 0, eN 1] ?_ ?_
  · exact oc (k_bx 0 (.agg (rs g)) (bxN (n := g)) rfl rfl) <|
    oc (k_al 1 alN rfl rfl) <|
    ok_nil
  clear h; intro β a w h
  refine sym_then ?_
  refine sym_seq ?_
  refine St.rg h [(5, .inl (.slice aa len cap)), (6, .inl (.agg (rs 0))), (7, .inl (.agg (rs g))), (8, .inl (.agg (rs (nB f len * g % oL))))] [] [(1, rs (nB f len * g % oL))] [nn, nn, eR 0, nn, eS 1] ?_ ?_
  · exact oc (k_mv (.inl rfl) rfl) <|
    oc (k_bu #[] (.agg (rs 0)) bdN0 rfl rfl) <|
    oc (k_ld 0 0 (.agg (rs g)) (c := rs g) (ldN (n := g) 83) rfl rfl) <|
    oc (k_cw 73 #[.slice aa len cap, .agg (rs 0), .agg (rs g), .func (.func 52) #[] #[]] (.agg (rs (nB f len * g % oL))) (fun w hw => many_L ha hm w (hb.later hw.below)) rfl rfl) <|
    oc (k_st 1 0 (.agg (rs (nB f len * g % oL))) (c := rs 0) (n := rs (nB f len * g % oL)) (stN' (n := (nB f len * g % oL)) 83 rfl) rfl rfl) <|
    ok_nil
  clear h; intro β a w h
  refine sym_then ?_
  refine wp_ret ?_
  exact s_rc (b := 1) (t0 := 83) (c := rs (nB f len * g % oL)) h Try.results51 Try.underlying83 (fun hb => ⟨rfl, hb⟩) (by rw [rs_size]; kernel_rfl)

set_option maxHeartbeats 4000000 in
theorem rkey_L (g : Nat) (W0 : World) : Calls Try.prog 53 #[.agg (rs g)] W0 fun e w' => e = .returned (.agg (ck (kq g))) ∧ Below W0.heap.size W0 w' := by
  rw [← kF_end]
  refine s_in Try.func53 Try.ntmps53 rfl [.inl (.agg (rs g))] ?_
  intro β a h
  refine sym_seq ?_
  refine St.rg h [(1, .inr (0, pt 0)), (2, .inr (1, pt 0))] [(rs g, 83), (ck (fun _ => 0), 23)] [] [eN 0, eN 1] ?_ ?_
  · exact oc (k_bx 0 (.agg (rs g)) (bxN (n := g)) rfl rfl) <|
    oc (k_al 1 alK rfl rfl) <|
    ok_nil
  clear h; intro β a w h
  refine sym_then ?_
  refine sym_seq ?_
  refine St.rg h [(3, .inr (2, pt 0))] [(ck (fun _ => 0), 23)] [] [eN 2] ?_ ?_
  · exact oc (k_al 2 alK rfl rfl) <|
    ok_nil
  clear h; intro β a w h
  refine sym_then ?_
  refine sym_seq ?_
  refine sym_seq ?_
  refine St.r0 h [(5, .inl (.int .i64 ((0 : Nat) : Int)))] [] ?_ ?_
  · exact oz (k_mv (.inl rfl) rfl) <|
    ok_nil
  clear h; intro β a w h
  refine sym_then ?_
  refine blk_in ?_
  replace h := St.sm h 2 (ck (kF g 0)) (c := ck (fun _ => 0)) (t := 23) (kF_0 g)
  replace h := St.cs h (s' := [.inl (.agg (rs g)), .inr (0, pt 0), .inr (1, pt 0), .inr (2, pt 0), uu, .inl (.int .i64 ((0 : Nat) : Int)), uu, uu, uu, uu, uu, uu, uu, uu, uu, uu, uu, uu, uu, uu, uu]) (m' := [(rs g, 83), (ck (fun _ => 0), 23), (ck (kF g 0), 23)]) (by kernel_rfl) (by kernel_rfl)
  refine loop_up 32 (fun k a w => ∃ (x4 x6 x7 x8 x9 x10 x11 x12 x13 x14 x15 x16 x17 x18 x19 : SV) (β : Nat → Nat), St (wd W0) [.inl (.agg (rs g)), .inr (0, pt 0), .inr (1, pt 0), .inr (2, pt 0), x4, .inl (.int .i64 ((k : Nat) : Int)), x6, x7, x8, x9, x10, x11, x12, x13, x14, x15, x16, x17, x18, x19, uu] [(rs g, 83), (ck (fun _ => 0), 23), (ck (kF g k), 23)] β a w) ⟨_, _, _, _, _, _, _, _, _, _, _, _, _, _, _, β, h⟩ ?_
  clear h; rintro k a w hkk ⟨x4, x6, x7, x8, x9, x10, x11, x12, x13, x14, x15, x16, x17, x18, x19, β, h⟩; replace h := h.o0
  rcases Nat.lt_or_ge k 32 with hltk | hgek
  · refine sym_seq ?_
    refine St.r0 h [(6, .inl (.bool true))] [] ?_ ?_
    · exact oz (k_bi (.int .i64 ((k : Nat) : Int)) (.int .i64 ((32 : Nat) : Int)) (.bool true) (lt_i (m := ((k : Nat) : Int)) (n := ((32 : Nat) : Int)) (decide_eq_true (by omega))) rfl rfl) <|
      ok_nil
    clear h; intro β a w h
    refine sym_then ?_
    refine sym_seq ?_
    refine s_ct h ?_
    refine wp_skip ?_
    refine sym_then ?_
    refine sym_seq ?_
    refine blk_in ?_
    refine sym_seq ?_
    refine St.r0 h [(7, .inl (.int .i64 ((k : Nat) : Int))), (4, .inl (.int .i64 ((k : Nat) : Int)))] [] ?_ ?_
    · exact oz (k_mv (.inl rfl) rfl) <|
      oz (k_mv (.inr rfl) rfl) <|
      ok_nil
    clear h; intro β a w h
    refine sym_then ?_
    refine St.rg h [(8, .inl (.int .i64 ((k : Nat) : Int))), (9, .inl (.int .i64 ((k : Nat) : Int))), (10, .inl (.int .i64 (((k / 8) : Nat) : Int))), (11, .inr (0, pt (k / 8))), (12, .inl (.int .u64 (((wq g (k / 8)) : Nat) : Int))), (13, .inl (.int .i64 ((k : Nat) : Int))), (14, .inl (.int .i64 (((k % 8) : Nat) : Int))), (15, .inl (.int .i64 ((((k % 8) * 8) : Nat) : Int))), (16, .inl (.int .u64 ((((wq g (k / 8)) / 2 ^ ((k % 8) * 8)) : Nat) : Int))), (17, .inl (.int .u8 (((((wq g (k / 8)) / 2 ^ ((k % 8) * 8)) % 256) : Nat) : Int))), (18, .inr (2, pt k))] [] [(2, ck (updN (kF g k) k (((wq g (k / 8)) / 2 ^ ((k % 8) * 8)) % 256)))] [nn, nn, nn, nn, eR 0, nn, nn, nn, nn, nn, nn, eS 2] ?_ ?_
    · exact oc (k_mv (.inl rfl) rfl) <|
      oc (k_mv (.inl rfl) rfl) <|
      oc (k_bi (.int .i64 ((k : Nat) : Int)) (.int .i64 ((8 : Nat) : Int)) (.int .i64 (((k / 8) : Nat) : Int)) (qu_i (m := k) (n := 8) (by decide) (by omega)) rfl rfl) <|
      oc (k_ia 0 0 ((k / 8)) (.int .i64 (((k / 8) : Nat) : Int)) (ixN (i := (k / 8)) (by omega)) rfl rfl) <|
      oc (k_ld 0 ((k / 8)) (.int .u64 (((wq g (k / 8)) : Nat) : Int)) (c := rs g) (ld_w (i := (k / 8)) (v := wq g (k / 8)) 83 (rs_get (by omega))) rfl rfl) <|
      oc (k_mv (.inl rfl) rfl) <|
      oc (k_bi (.int .i64 ((k : Nat) : Int)) (.int .i64 ((8 : Nat) : Int)) (.int .i64 (((k % 8) : Nat) : Int)) (re_i (m := k) (n := 8) (by decide)) rfl rfl) <|
      oc (k_bi (.int .i64 (((k % 8) : Nat) : Int)) (.int .i64 ((8 : Nat) : Int)) (.int .i64 ((((k % 8) * 8) : Nat) : Int)) (mu_i (m := (k % 8)) (n := 8) (by omega)) rfl rfl) <|
      oc (k_bi (.int .u64 (((wq g (k / 8)) : Nat) : Int)) (.int .i64 ((((k % 8) * 8) : Nat) : Int)) (.int .u64 ((((wq g (k / 8)) / 2 ^ ((k % 8) * 8)) : Nat) : Int)) (sr_q (m := (wq g (k / 8))) (r := ((k % 8) * 8)) (by omega)) rfl rfl) <|
      oc (k_co (.int .u64 ((((wq g (k / 8)) / 2 ^ ((k % 8) * 8)) : Nat) : Int)) (.int .u8 (((((wq g (k / 8)) / 2 ^ ((k % 8) * 8)) % 256) : Nat) : Int)) (cv_qb (n := ((wq g (k / 8)) / 2 ^ ((k % 8) * 8)))) rfl rfl) <|
      oc (k_ia 2 0 k (.int .i64 ((k : Nat) : Int)) (ixK (i := k) (by omega)) rfl rfl) <|
      oc (k_st 2 k (.int .u8 (((((wq g (k / 8)) / 2 ^ ((k % 8) * 8)) % 256) : Nat) : Int)) (c := ck (kF g k)) (n := ck (updN (kF g k) k (((wq g (k / 8)) / 2 ^ ((k % 8) * 8)) % 256))) (st_k (F := (kF g k)) (i := k) (v := (((wq g (k / 8)) / 2 ^ ((k % 8) * 8)) % 256)) (t0 := 23) (by omega)) rfl rfl) <|
      ok_nil
    clear h; intro β a w h
    refine blk_norm ?_
    refine sym_then ?_
    refine St.r0 h [(19, .inl (.int .i64 (((k + 1) : Nat) : Int))), (5, .inl (.int .i64 (((k + 1) : Nat) : Int)))] [eO] ?_ ?_
    · exact oc (k_b0 (.int .i64 ((k : Nat) : Int)) (.int .i64 ((1 : Nat) : Int)) (.int .i64 (((k + 1) : Nat) : Int)) (ad_i (m := k) (n := 1) (by omega)) rfl rfl) <|
      oz (k_mv (.inl rfl) rfl) <|
      ok_nil
    clear h; intro β a w h
    replace h := St.sm h 2 (ck (kF g (k + 1))) (c := ck (updN (kF g k) k (((wq g (k / 8)) / 2 ^ ((k % 8) * 8)) % 256))) (t := 23) (kF_next g k)
    replace h := St.cs h (s' := [.inl (.agg (rs g)), .inr (0, pt 0), .inr (1, pt 0), .inr (2, pt 0), .inl (.int .i64 ((k : Nat) : Int)), .inl (.int .i64 (((k + 1) : Nat) : Int)), .inl (.bool true), .inl (.int .i64 ((k : Nat) : Int)), .inl (.int .i64 ((k : Nat) : Int)), .inl (.int .i64 ((k : Nat) : Int)), .inl (.int .i64 (((k / 8) : Nat) : Int)), .inr (0, pt (k / 8)), .inl (.int .u64 (((wq g (k / 8)) : Nat) : Int)), .inl (.int .i64 ((k : Nat) : Int)), .inl (.int .i64 (((k % 8) : Nat) : Int)), .inl (.int .i64 ((((k % 8) * 8) : Nat) : Int)), .inl (.int .u64 ((((wq g (k / 8)) / 2 ^ ((k % 8) * 8)) : Nat) : Int)), .inl (.int .u8 (((((wq g (k / 8)) / 2 ^ ((k % 8) * 8)) % 256) : Nat) : Int)), .inr (2, pt k), .inl (.int .i64 (((k + 1) : Nat) : Int)), uu]) (m' := [(rs g, 83), (ck (fun _ => 0), 23), (ck (kF g (k + 1)), 23)]) (by kernel_rfl) (by kernel_rfl)
    exact ⟨hltk, _, _, _, _, _, _, _, _, _, _, _, _, _, _, _, _, h⟩
  · obtain rfl : k = 32 := by omega
    refine sym_seq ?_
    refine St.r0 h [(6, .inl (.bool false))] [] ?_ ?_
    · exact oz (k_bi (.int .i64 ((32 : Nat) : Int)) (.int .i64 ((32 : Nat) : Int)) (.bool false) (lt_i (m := ((32 : Nat) : Int)) (n := ((32 : Nat) : Int)) (decide_eq_false (by omega))) rfl rfl) <|
      ok_nil
    clear h; intro β a w h
    refine sym_then ?_
    refine sym_seq ?_
    refine s_cf h ?_
    refine wp_exit ?_
    refine then_exit ?_
    refine then_exit ?_
    refine blk_exit ?_
    refine sym_then ?_
    refine sym_seq ?_
    refine St.rg h [(20, .inl (.agg (ck (kF g 32))))] [] [(1, ck (kF g 32))] [eR 2, eS 1] ?_ ?_
    · exact oc (k_ld 2 0 (.agg (ck (kF g 32))) (c := ck (kF g 32)) (ldK (b := (kF g 32)) 23) rfl rfl) <|
      oc (k_st 1 0 (.agg (ck (kF g 32))) (c := ck (fun _ => 0)) (n := ck (kF g 32)) (stK (F := (kF g 32)) (c := ck (fun _ => 0)) 23 (ck_size _)) rfl rfl) <|
      ok_nil
    clear h; intro β a w h
    refine sym_then ?_
    refine wp_ret ?_
    exact s_rc (b := 1) (t0 := 23) (c := ck (kF g 32)) h Try.results53 Try.underlying23 (fun hb => ⟨rfl, hb⟩) (by rw [ck_size]; kernel_rfl)

theorem one_oL : 1 < oL := by decide +kernel
set_option maxHeartbeats 4000000 in
theorem residue_t {aa : Option Addr} {len cap : Nat} (hl : 64 < len) (W0 : World) : Calls Try.prog 21 #[.slice aa len cap] W0 fun e w' => e = .returned (.tuple #[.agg (ck (fun _ => 0)), .bool false]) ∧ Below W0.heap.size W0 w' := by
  refine s_in Try.func21 Try.ntmps21 rfl [.inl (.slice aa len cap)] ?_
  intro β a h
  refine sym_seq ?_
  refine St.rg h [(2, .inr (0, pt 0)), (3, .inl (.bool false))] [(ck (fun _ => 0), 23)] [] [eN 0] ?_ ?_
  · exact oc (k_al 0 alK rfl rfl) <|
    oz (k_mv (.inr rfl) rfl) <|
    ok_nil
  clear h; intro β a w h
  refine sym_then ?_
  refine sym_seq ?_
  refine sym_seq ?_
  refine St.r0 h [(4, .inl (.slice aa len cap)), (5, .inl (.int .i64 ((len : Nat) : Int))), (6, .inl (.bool true))] [] ?_ ?_
  · exact oz (k_mv (.inl rfl) rfl) <|
    oz (k_ln len cap rfl rfl (fun w => len_run _ w) (ad := aa)) <|
    oz (k_bi (.int .i64 ((len : Nat) : Int)) (.int .i64 ((64 : Nat) : Int)) (.bool true) (gt_i (m := ((len : Nat) : Int)) (n := ((64 : Nat) : Int)) (decide_eq_true (by omega))) rfl rfl) <|
    ok_nil
  clear h; intro β a w h
  refine sym_then ?_
  refine s_ct h ?_
  refine sym_seq ?_
  refine St.rg h [(7, .inl (.agg (ck (fun _ => 0))))] [] [(0, ck (fun _ => 0))] [nn, eS 0] ?_ ?_
  · exact oc (k_bu #[] (.agg (ck (fun _ => 0))) bdK0 rfl rfl) <|
    oc (k_st 0 0 (.agg (ck (fun _ => 0))) (c := ck (fun _ => 0)) (n := ck (fun _ => 0)) (stK (F := (fun _ => 0)) (c := ck (fun _ => 0)) 23 (ck_size _)) rfl rfl) <|
    oz (k_mv (.inr rfl) rfl) <|
    ok_nil
  clear h; intro β a w h
  refine sym_then ?_
  refine wp_ret ?_
  refine then_ret ?_
  exact s_r2 (b := 0) (t0 := 23) (c := ck (fun _ => 0)) h Try.results21 Try.underlying23 (fun hb => ⟨rfl, hb⟩) (by rw [ck_size]; kernel_rfl)

set_option maxHeartbeats 4000000 in
theorem residue_f {aa : Option Addr} {len cap : Nat} {f : Nat → Nat} (hl : len ≤ 64) (W0 : World) (hb : Bs W0 aa len f) : Calls Try.prog 21 #[.slice aa len cap] W0 fun e w' => e = .returned (.tuple #[.agg (ck (kq (nB f len * 1 % oL))), .bool true]) ∧ Below W0.heap.size W0 w' := by
  refine s_in Try.func21 Try.ntmps21 rfl [.inl (.slice aa len cap)] ?_
  intro β a h
  refine sym_seq ?_
  refine St.rg h [(2, .inr (0, pt 0)), (3, .inl (.bool false))] [(ck (fun _ => 0), 23)] [] [eN 0] ?_ ?_
  · exact oc (k_al 0 alK rfl rfl) <|
    oz (k_mv (.inr rfl) rfl) <|
    ok_nil
  clear h; intro β a w h
  refine sym_then ?_
  refine sym_seq ?_
  refine sym_seq ?_
  refine St.r0 h [(4, .inl (.slice aa len cap)), (5, .inl (.int .i64 ((len : Nat) : Int))), (6, .inl (.bool false))] [] ?_ ?_
  · exact oz (k_mv (.inl rfl) rfl) <|
    oz (k_ln len cap rfl rfl (fun w => len_run _ w) (ad := aa)) <|
    oz (k_bi (.int .i64 ((len : Nat) : Int)) (.int .i64 ((64 : Nat) : Int)) (.bool false) (gt_i (m := ((len : Nat) : Int)) (n := ((64 : Nat) : Int)) (decide_eq_false (by omega))) rfl rfl) <|
    ok_nil
  clear h; intro β a w h
  refine sym_then ?_
  refine s_cf h ?_
  refine wp_skip ?_
  refine sym_then ?_
  refine sym_seq ?_
  refine St.rg h [(8, .inl (.slice aa len cap)), (9, .inl (.agg (rs 1))), (10, .inl (.agg (rs (nB f len * 1 % oL)))), (11, .inl (.agg (ck (kq (nB f len * 1 % oL))))), (3, .inl (.bool true))] [] [(0, ck (kq (nB f len * 1 % oL)))] [nn, nn, nn, nn, eS 0] ?_ ?_
  · exact oc (k_mv (.inl rfl) rfl) <|
    oc (k_bu #[(0, .int .u64 ((1 : Nat) : Int))] (.agg (rs 1)) bdN1 rfl rfl) <|
    oc (k_cw 51 #[.slice aa len cap, .agg (rs 1)] (.agg (rs (nB f len * 1 % oL))) (fun w hw => times_L one_oL (by omega) w (hb.later hw.below)) rfl rfl) <|
    oc (k_ca 53 #[.agg (rs (nB f len * 1 % oL))] (.agg (ck (kq (nB f len * 1 % oL)))) (fun w => rkey_L _ w) rfl rfl) <|
    oc (k_st 0 0 (.agg (ck (kq (nB f len * 1 % oL)))) (c := ck (fun _ => 0)) (n := ck (kq (nB f len * 1 % oL))) (stK (F := (kq (nB f len * 1 % oL))) (c := ck (fun _ => 0)) 23 (ck_size _)) rfl rfl) <|
    oz (k_mv (.inr rfl) rfl) <|
    ok_nil
  clear h; intro β a w h
  refine sym_then ?_
  refine wp_ret ?_
  exact s_r2 (b := 0) (t0 := 23) (c := ck (kq (nB f len * 1 % oL))) h Try.results21 Try.underlying23 (fun hb => ⟨rfl, hb⟩) (by rw [ck_size]; kernel_rfl)
theorem residue_L {aa : Option Addr} {len cap : Nat} {f : Nat → Nat} (hl : len ≤ 64) (W0 : World) (hb : Bs W0 aa len f) : Calls Try.prog 21 #[.slice aa len cap] W0 fun e w' => e = .returned (.tuple #[.agg (ck (kq (nB f len % oL))), .bool true]) ∧ Below W0.heap.size W0 w' := by
  have := residue_f (cap := cap) hl W0 hb
  rwa [Nat.mul_one] at this

theorem oL_pos : 0 < oL := by decide +kernel
set_option maxHeartbeats 4000000 in
theorem times_w {f0 f1 f2 : Nat → Nat} (hf0 : ∀ i, f0 i < 256) (hf1 : ∀ i, f1 i < 256) (hf2 : ∀ i, f2 i < 256) (W0 : World) : Calls Try.prog 19 #[.agg (ck f0), .agg (ck f1), .agg (ck f2)] W0 fun e w' => e = .returned (.agg (ck (kq (sumL (nB f0 32 * (nB f1 32 * 1 % oL) % oL) (nB f2 32 * 1 % oL))))) ∧ Below W0.heap.size W0 w' := by
  refine s_in Try.func19 Try.ntmps19 rfl [.inl (.agg (ck f0)), .inl (.agg (ck f1)), .inl (.agg (ck f2))] ?_
  intro β a h
  refine sym_seq ?_
  refine St.rg h [(3, .inr (0, pt 0)), (4, .inr (1, pt 0)), (5, .inr (2, pt 0)), (6, .inr (3, pt 0))] [(ck f0, 23), (ck f1, 23), (ck f2, 23), (ck (fun _ => 0), 23)] [] [eN 0, eN 1, eN 2, eN 3] ?_ ?_
  · exact oc (k_bx 0 (.agg (ck f0)) (bxK (b := f0)) rfl rfl) <|
    oc (k_bx 1 (.agg (ck f1)) (bxK (b := f1)) rfl rfl) <|
    oc (k_bx 2 (.agg (ck f2)) (bxK (b := f2)) rfl rfl) <|
    oc (k_al 3 alK rfl rfl) <|
    ok_nil
  clear h; intro β a w h
  refine sym_then ?_
  refine sym_seq ?_
  refine St.rg h [(9, .inl (.agg (rs 1))), (7, .inr (4, pt 0))] [(rs 0, 83)] [(4, rs 1)] [nn, eN 4, eS 4] ?_ ?_
  · exact oc (k_bu #[(0, .int .u64 ((1 : Nat) : Int))] (.agg (rs 1)) bdN1 rfl rfl) <|
    oc (k_al 4 alN rfl rfl) <|
    oc (k_st 4 0 (.agg (rs 1)) (c := rs 0) (n := rs 1) (stN' (n := 1) 83 rfl) rfl rfl) <|
    ok_nil
  clear h; intro β a w h
  refine sym_then ?_
  refine sym_seq ?_
  refine St.rg h [(10, .inr (0, sl 0 32 32)), (11, .inr (1, sl 0 32 32)), (12, .inl (.agg (rs 1))), (13, .inl (.agg (rs (nB f1 32 * 1 % oL)))), (14, .inl (.agg (rs (nB f0 32 * (nB f1 32 * 1 % oL) % oL)))), (8, .inr (5, pt 0))] [(rs 0, 83)] [(5, rs (nB f0 32 * (nB f1 32 * 1 % oL) % oL))] [nn, nn, eR 4, eR 1, eR 0, eN 5, eS 5] ?_ ?_
  · exact oc (k_sl 0 32 rfl rfl sl_k) <|
    oc (k_sl 1 32 rfl rfl sl_k) <|
    oc (k_ld 4 0 (.agg (rs 1)) (c := rs 1) (ldN (n := 1) 83) rfl rfl) <|
    oc (k_cb 51 (fun q => #[.slice (some ⟨q, 0, none⟩) 32 32, .agg (rs 1)]) (.agg (rs (nB f1 32 * 1 % oL))) 1 11 (fun w q _ hq => times_L one_oL (by omega) w (bs_key hf1 hq)) rfl rfl (by simp) (fm := sl 0 32 32) (t0 := 23)) <|
    oc (k_cb 51 (fun q => #[.slice (some ⟨q, 0, none⟩) 32 32, .agg (rs (nB f1 32 * 1 % oL))]) (.agg (rs (nB f0 32 * (nB f1 32 * 1 % oL) % oL))) 0 10 (fun w q _ hq => times_L (Nat.mod_lt _ oL_pos) (by omega) w (bs_key hf0 hq)) rfl rfl (by simp) (fm := sl 0 32 32) (t0 := 23)) <|
    oc (k_al 5 alN rfl rfl) <|
    oc (k_st 5 0 (.agg (rs (nB f0 32 * (nB f1 32 * 1 % oL) % oL))) (c := rs 0) (n := rs (nB f0 32 * (nB f1 32 * 1 % oL) % oL)) (stN' (n := (nB f0 32 * (nB f1 32 * 1 % oL) % oL)) 83 rfl) rfl rfl) <|
    ok_nil
  clear h; intro β a w h
  refine sym_then ?_
  refine sym_seq ?_
  refine St.rg h [(15, .inl (.agg (rs (nB f0 32 * (nB f1 32 * 1 % oL) % oL)))), (16, .inr (2, sl 0 32 32)), (17, .inl (.agg (rs 1))), (18, .inl (.agg (rs (nB f2 32 * 1 % oL)))), (19, .inl (.agg (rs (sumL (nB f0 32 * (nB f1 32 * 1 % oL) % oL) (nB f2 32 * 1 % oL))))), (20, .inl (.agg (ck (kq (sumL (nB f0 32 * (nB f1 32 * 1 % oL) % oL) (nB f2 32 * 1 % oL))))))] [] [(3, ck (kq (sumL (nB f0 32 * (nB f1 32 * 1 % oL) % oL) (nB f2 32 * 1 % oL))))] [eR 5, nn, eR 4, eR 2, nn, nn, eS 3] ?_ ?_
  · exact oc (k_ld 5 0 (.agg (rs (nB f0 32 * (nB f1 32 * 1 % oL) % oL))) (c := rs (nB f0 32 * (nB f1 32 * 1 % oL) % oL)) (ldN (n := (nB f0 32 * (nB f1 32 * 1 % oL) % oL)) 83) rfl rfl) <|
    oc (k_sl 2 32 rfl rfl sl_k) <|
    oc (k_ld 4 0 (.agg (rs 1)) (c := rs 1) (ldN (n := 1) 83) rfl rfl) <|
    oc (k_cb 51 (fun q => #[.slice (some ⟨q, 0, none⟩) 32 32, .agg (rs 1)]) (.agg (rs (nB f2 32 * 1 % oL))) 2 16 (fun w q _ hq => times_L one_oL (by omega) w (bs_key hf2 hq)) rfl rfl (by simp) (fm := sl 0 32 32) (t0 := 23)) <|
    oc (k_ca 52 #[.agg (rs (nB f0 32 * (nB f1 32 * 1 % oL) % oL)), .agg (rs (nB f2 32 * 1 % oL))] (.agg (rs (sumL (nB f0 32 * (nB f1 32 * 1 % oL) % oL) (nB f2 32 * 1 % oL)))) (fun w => plus_res (Nat.mod_lt _ oL_pos) (Nat.mod_lt _ oL_pos) w) rfl rfl) <|
    oc (k_ca 53 #[.agg (rs (sumL (nB f0 32 * (nB f1 32 * 1 % oL) % oL) (nB f2 32 * 1 % oL)))] (.agg (ck (kq (sumL (nB f0 32 * (nB f1 32 * 1 % oL) % oL) (nB f2 32 * 1 % oL))))) (fun w => rkey_L _ w) rfl rfl) <|
    oc (k_st 3 0 (.agg (ck (kq (sumL (nB f0 32 * (nB f1 32 * 1 % oL) % oL) (nB f2 32 * 1 % oL))))) (c := ck (fun _ => 0)) (n := ck (kq (sumL (nB f0 32 * (nB f1 32 * 1 % oL) % oL) (nB f2 32 * 1 % oL)))) (stK (F := (kq (sumL (nB f0 32 * (nB f1 32 * 1 % oL) % oL) (nB f2 32 * 1 % oL)))) (c := ck (fun _ => 0)) 23 (ck_size _)) rfl rfl) <|
    ok_nil
  clear h; intro β a w h
  refine sym_then ?_
  refine wp_ret ?_
  exact s_rc (b := 3) (t0 := 23) (c := ck (kq (sumL (nB f0 32 * (nB f1 32 * 1 % oL) % oL) (nB f2 32 * 1 % oL)))) h Try.results19 Try.underlying23 (fun hb => ⟨rfl, hb⟩) (by rw [ck_size]; kernel_rfl)
theorem times_K {f0 f1 f2 : Nat → Nat} (hf0 : ∀ i, f0 i < 256) (hf1 : ∀ i, f1 i < 256) (hf2 : ∀ i, f2 i < 256) (W0 : World) : Calls Try.prog 19 #[.agg (ck f0), .agg (ck f1), .agg (ck f2)] W0 fun e w' => e = .returned (.agg (ck (kq ((nB f0 32 * nB f1 32 + nB f2 32) % oL)))) ∧ Below W0.heap.size W0 w' := by
  have h := times_w hf0 hf1 hf2 W0
  have e : sumL (nB f0 32 * (nB f1 32 * 1 % oL) % oL) (nB f2 32 * 1 % oL) = (nB f0 32 * nB f1 32 + nB f2 32) % oL := by
    unfold sumL
    rw [Nat.mul_one, Nat.mul_one, Nat.mul_mod_mod, ← Nat.add_mod]
  rwa [e] at h

set_option maxRecDepth 100000 in
theorem eqK_f2 {x u : Operand} {F G : Nat → Nat} (h : ¬ ∀ i, i < 32 → F i = G i) (w : World) : (do eqGuard .eql 23 x u (.agg (ck F)) (.agg (ck G)); binOp .eql 23 (.agg (ck F)) (.agg (ck G))).run Try.prog w = .ok (.bool false) w := by
  have h1 := eq_ints (P := Try.prog) (t := 23) (e := 5) (n := 32) (k := .u8) (k' := .u8) Try.underlying23 (inf := _) rfl (by kernel_rfl) Try.underlying5 (fun _ => by kernel_rfl) (ck F) (ck G) (fun i => (F i : Int)) (fun i => (G i : Int)) (fun i hi => arr_get _ _ _ hi) (fun i hi => arr_get _ _ _ hi) w
  rw [decide_eq_false (fun hh => h fun i hi => by have := hh i hi; omega)] at h1
  simp [eqGuard, binOp, go_sem, Op.equal, Op.maxDepth, h1]

set_option maxHeartbeats 4000000 in
theorem least_t {f : Nat → Nat} (hf : ∀ i, f i < 256) (hk : ∀ i, i < 32 → kq (nB f 32 % oL) i = f i) (W0 : World) : Calls Try.prog 23 #[.agg (ck f)] W0 fun e w' => e = .returned (.bool true) ∧ Below W0.heap.size W0 w' := by
  refine s_in Try.func23 Try.ntmps23 rfl [.inl (.agg (ck f))] ?_
  intro β a h
  refine sym_seq ?_
  refine St.rg h [(1, .inr (0, pt 0)), (2, .inl (.bool false))] [(ck f, 23)] [] [eN 0] ?_ ?_
  · exact oc (k_bx 0 (.agg (ck f)) (bxK (b := f)) rfl rfl) <|
    oz (k_mv (.inr rfl) rfl) <|
    ok_nil
  clear h; intro β a w h
  refine sym_then ?_
  refine sym_seq ?_
  refine St.rg h [(6, .inr (0, sl 0 32 32)), (7, .inl (.tuple #[.agg (ck (kq (nB f 32 % oL))), .bool true])), (5, .inl (.tuple #[.agg (ck (kq (nB f 32 % oL))), .bool true])), (8, .inl (.agg (ck (kq (nB f 32 % oL))))), (9, .inl (.bool true)), (3, .inr (1, pt 0)), (4, .inl (.bool true))] [(ck (fun _ => 0), 23)] [(1, ck (kq (nB f 32 % oL)))] [nn, eR 0, nn, nn, nn, eN 1, eS 1] ?_ ?_
  · exact oc (k_sl 0 32 rfl rfl sl_k) <|
    oc (k_cb 21 (fun q => #[.slice (some ⟨q, 0, none⟩) 32 32]) (.tuple #[.agg (ck (kq (nB f 32 % oL))), .bool true]) 0 6 (fun w q _ hq => residue_L (by omega) w (bs_key hf hq)) rfl rfl (by simp) (fm := sl 0 32 32) (t0 := 23)) <|
    oc (k_mv (.inl rfl) rfl) <|
    oc (k_ex (.tuple #[.agg (ck (kq (nB f 32 % oL))), .bool true]) (.agg (ck (kq (nB f 32 % oL)))) rfl rfl) <|
    oc (k_ex (.tuple #[.agg (ck (kq (nB f 32 % oL))), .bool true]) (.bool true) rfl rfl) <|
    oc (k_al 1 alK rfl rfl) <|
    oc (k_st 1 0 (.agg (ck (kq (nB f 32 % oL)))) (c := ck (fun _ => 0)) (n := ck (kq (nB f 32 % oL))) (stK (F := (kq (nB f 32 % oL))) (c := ck (fun _ => 0)) 23 (ck_size _)) rfl rfl) <|
    oz (k_mv (.inr rfl) rfl) <|
    ok_nil
  clear h; intro β a w h
  refine sym_then ?_
  refine sym_seq ?_
  refine St.r0 h [(10, .inl (.agg (ck (kq (nB f 32 % oL))))), (11, .inl (.agg (ck f))), (12, .inl (.bool true)), (2, .inl (.bool true))] [eR 1, eR 0] ?_ ?_
  · exact oc (k_ld 1 0 (.agg (ck (kq (nB f 32 % oL)))) (c := ck (kq (nB f 32 % oL))) (ldK (b := (kq (nB f 32 % oL))) 23) rfl rfl) <|
    oc (k_ld 0 0 (.agg (ck f)) (c := ck f) (ldK (b := f) 23) rfl rfl) <|
    oz (k_bi (.agg (ck (kq (nB f 32 % oL)))) (.agg (ck f)) (.bool true) (eqK_t (F := (kq (nB f 32 % oL))) (G := f) hk) rfl rfl) <|
    oz (k_mv (.inr rfl) rfl) <|
    ok_nil
  clear h; intro β a w h
  refine sym_then ?_
  refine wp_ret ?_
  exact s_rt h Try.results23 (fun hb => ⟨rfl, hb⟩)

set_option maxHeartbeats 4000000 in
theorem least_f {f : Nat → Nat} (hf : ∀ i, f i < 256) (hk : ¬ ∀ i, i < 32 → kq (nB f 32 % oL) i = f i) (W0 : World) : Calls Try.prog 23 #[.agg (ck f)] W0 fun e w' => e = .returned (.bool false) ∧ Below W0.heap.size W0 w' := by
  refine s_in Try.func23 Try.ntmps23 rfl [.inl (.agg (ck f))] ?_
  intro β a h
  refine sym_seq ?_
  refine St.rg h [(1, .inr (0, pt 0)), (2, .inl (.bool false))] [(ck f, 23)] [] [eN 0] ?_ ?_
  · exact oc (k_bx 0 (.agg (ck f)) (bxK (b := f)) rfl rfl) <|
    oz (k_mv (.inr rfl) rfl) <|
    ok_nil
  clear h; intro β a w h
  refine sym_then ?_
  refine sym_seq ?_
  refine St.rg h [(6, .inr (0, sl 0 32 32)), (7, .inl (.tuple #[.agg (ck (kq (nB f 32 % oL))), .bool true])), (5, .inl (.tuple #[.agg (ck (kq (nB f 32 % oL))), .bool true])), (8, .inl (.agg (ck (kq (nB f 32 % oL))))), (9, .inl (.bool true)), (3, .inr (1, pt 0)), (4, .inl (.bool true))] [(ck (fun _ => 0), 23)] [(1, ck (kq (nB f 32 % oL)))] [nn, eR 0, nn, nn, nn, eN 1, eS 1] ?_ ?_
  · exact oc (k_sl 0 32 rfl rfl sl_k) <|
    oc (k_cb 21 (fun q => #[.slice (some ⟨q, 0, none⟩) 32 32]) (.tuple #[.agg (ck (kq (nB f 32 % oL))), .bool true]) 0 6 (fun w q _ hq => residue_L (by omega) w (bs_key hf hq)) rfl rfl (by simp) (fm := sl 0 32 32) (t0 := 23)) <|
    oc (k_mv (.inl rfl) rfl) <|
    oc (k_ex (.tuple #[.agg (ck (kq (nB f 32 % oL))), .bool true]) (.agg (ck (kq (nB f 32 % oL)))) rfl rfl) <|
    oc (k_ex (.tuple #[.agg (ck (kq (nB f 32 % oL))), .bool true]) (.bool true) rfl rfl) <|
    oc (k_al 1 alK rfl rfl) <|
    oc (k_st 1 0 (.agg (ck (kq (nB f 32 % oL)))) (c := ck (fun _ => 0)) (n := ck (kq (nB f 32 % oL))) (stK (F := (kq (nB f 32 % oL))) (c := ck (fun _ => 0)) 23 (ck_size _)) rfl rfl) <|
    oz (k_mv (.inr rfl) rfl) <|
    ok_nil
  clear h; intro β a w h
  refine sym_then ?_
  refine sym_seq ?_
  refine St.r0 h [(10, .inl (.agg (ck (kq (nB f 32 % oL))))), (11, .inl (.agg (ck f))), (12, .inl (.bool false))] [eR 1, eR 0] ?_ ?_
  · exact oc (k_ld 1 0 (.agg (ck (kq (nB f 32 % oL)))) (c := ck (kq (nB f 32 % oL))) (ldK (b := (kq (nB f 32 % oL))) 23) rfl rfl) <|
    oc (k_ld 0 0 (.agg (ck f)) (c := ck f) (ldK (b := f) 23) rfl rfl) <|
    oz (k_bi (.agg (ck (kq (nB f 32 % oL)))) (.agg (ck f)) (.bool false) (eqK_f2 (F := (kq (nB f 32 % oL))) (G := f) hk) rfl rfl) <|
    oz (k_mv (.inr rfl) rfl) <|
    ok_nil
  clear h; intro β a w h
  refine sym_then ?_
  refine wp_ret ?_
  exact s_rt h Try.results23 (fun hb => ⟨rfl, hb⟩)

end Go.Proofs.Ytpogmflgmpifoaa

namespace Go.Proofs.Ytpogmflgmpifoaa
open Go.RowKit Go.Shelf

/-- The number of the first k figures. -/
def pvq (F : Nat → Nat) : Nat → Nat
  | 0 => 0
  | k + 1 => pvq F k + F k * 256 ^ k

theorem p4q (k : Nat) : 0 < 256 ^ k := Nat.pow_pos (by omega)
theorem div_stepq (n k : Nat) : n / 256 ^ k = kq n k + 256 * (n / 256 ^ (k + 1)) := by
  unfold kq
  rw [Nat.pow_succ, ← Nat.div_div_eq_div_mul]
  omega
theorem mod_stepq (n k : Nat) : n % 256 ^ (k + 1) = n % 256 ^ k + kq n k * 256 ^ k := by
  unfold kq
  rw [Nat.pow_succ, Nat.mod_mul, Nat.mul_comm]
theorem pv_dgq (n : Nat) : ∀ k, pvq (kq n) k = n % 256 ^ k := by
  intro k
  induction k with
  | zero => simp [pvq, Nat.mod_one]
  | succ k ih => rw [pvq, ih, mod_stepq]
theorem pv_congrq {F G : Nat → Nat} : ∀ k, (∀ i, i < k → F i = G i) → pvq F k = pvq G k := by
  intro k
  induction k with
  | zero => intro _; rfl
  | succ k ih => intro h; rw [pvq, pvq, ih (fun i hi => h i (by omega)), h k (by omega)]
theorem dg_bigq {n k : Nat} (h : n < 256 ^ k) (i : Nat) (hi : k ≤ i) : kq n i = 0 := by
  unfold kq
  rw [Nat.div_eq_of_lt (Nat.lt_of_lt_of_le h (Nat.pow_le_pow_right (by omega) hi))]
theorem div_topq {n k : Nat} (h : n < 256 ^ (k + 1)) : kq n k = n / 256 ^ k := by
  unfold kq
  refine Nat.mod_eq_of_lt (Nat.div_lt_of_lt_mul ?_)
  rw [← Nat.pow_succ]; exact h

/-- Which is below: by the highest figure that differs. -/
theorem top_eqq {m n k : Nat} (h : m / 256 ^ (k + 1) = n / 256 ^ (k + 1)) (hd : kq m k = kq n k) : m / 256 ^ k = n / 256 ^ k := by
  rw [div_stepq m k, div_stepq n k, h, hd]
theorem lt_of_divq {m n d : Nat} (h : m / d < n / d) : m < n := by
  rcases Nat.lt_or_ge m n with h1 | h1
  · exact h1
  · exact absurd (Nat.div_le_div_right (c := d) h1) (by omega)
theorem top_ltq {m n k : Nat} (h : m / 256 ^ (k + 1) = n / 256 ^ (k + 1)) (hd : kq m k < kq n k) : m < n := by
  refine lt_of_divq (d := 256 ^ k) ?_
  rw [div_stepq m k, div_stepq n k, h]; omega

/-- What is borrowed of figure number k. -/
def boq (m n k : Nat) : Nat := if m % 256 ^ k < n % 256 ^ k then 1 else 0
theorem bo_leq (m n k : Nat) : boq m n k ≤ 1 := by unfold boq; split <;> omega
theorem bo_zeroq (m n : Nat) : boq m n 0 = 0 := by simp [boq, Nat.mod_one]
theorem bo_yesq {m n k : Nat} (h : kq m k < kq n k + boq m n k) : boq m n (k + 1) = 1 := by
  unfold boq at *
  rw [if_pos]
  rw [mod_stepq m k, mod_stepq n k]
  have hm : m % 256 ^ k < 256 ^ k := Nat.mod_lt _ (p4q k)
  have hn : n % 256 ^ k < 256 ^ k := Nat.mod_lt _ (p4q k)
  split at h
  · have : kq m k * 256 ^ k ≤ kq n k * 256 ^ k := Nat.mul_le_mul_right _ (by omega)
    omega
  · have : (kq m k + 1) * 256 ^ k ≤ kq n k * 256 ^ k := Nat.mul_le_mul_right _ (by omega)
    rw [Nat.add_mul, Nat.one_mul] at this
    omega
theorem bo_noq {m n k : Nat} (h : kq n k + boq m n k ≤ kq m k) : boq m n (k + 1) = 0 := by
  unfold boq at *
  rw [if_neg]
  rw [mod_stepq m k, mod_stepq n k]
  have hm : m % 256 ^ k < 256 ^ k := Nat.mod_lt _ (p4q k)
  have hn : n % 256 ^ k < 256 ^ k := Nat.mod_lt _ (p4q k)
  split at h
  · have : (kq n k + 1) * 256 ^ k ≤ kq m k * 256 ^ k := Nat.mul_le_mul_right _ (by omega)
    rw [Nat.add_mul, Nat.one_mul] at this
    omega
  · have : kq n k * 256 ^ k ≤ kq m k * 256 ^ k := Nat.mul_le_mul_right _ (by omega)
    omega
/-- A difference's quotients. -/
theorem sub_divq {m n : Nat} (h : n ≤ m) : ∀ k, (m - n) / 256 ^ k + n / 256 ^ k + boq m n k = m / 256 ^ k := by
  intro k
  have hp := p4q k
  have e1 : m = m / 256 ^ k * 256 ^ k + m % 256 ^ k := (Nat.div_add_mod' m _).symm
  have e2 : n = n / 256 ^ k * 256 ^ k + n % 256 ^ k := (Nat.div_add_mod' n _).symm
  have hm : m % 256 ^ k < 256 ^ k := Nat.mod_lt _ hp
  have hn : n % 256 ^ k < 256 ^ k := Nat.mod_lt _ hp
  unfold boq
  generalize 256 ^ k = d at *
  generalize m / d = a at *
  generalize n / d = b at *
  generalize m % d = r at *
  generalize n % d = s at *
  have hab : b ≤ a := by
    rcases Nat.lt_or_ge a b with hlt | hge
    · exfalso
      have : (a + 1) * d ≤ b * d := Nat.mul_le_mul_right _ hlt
      rw [Nat.add_mul, Nat.one_mul] at this
      omega
    · exact hge
  obtain ⟨c, rfl⟩ : ∃ c, a = b + c := ⟨a - b, by omega⟩
  have e3 : (b + c) * d = b * d + c * d := Nat.add_mul _ _ _
  split
  · rename_i hlt
    have hc : 0 < c := by
      rcases Nat.eq_zero_or_pos c with h0 | h0
      · subst h0; rw [Nat.add_zero] at e1; omega
      · exact h0
    obtain ⟨c', rfl⟩ : ∃ c', c = c' + 1 := ⟨c - 1, by omega⟩
    have e4 : (c' + 1) * d = c' * d + d := by rw [Nat.add_mul, Nat.one_mul]
    have e5 : m - n = c' * d + (d + r - s) := by omega
    rw [e5, Nat.mul_comm, Nat.mul_add_div hp, Nat.div_eq_of_lt (by omega)]
    omega
  · have e5 : m - n = c * d + (r - s) := by omega
    rw [e5, Nat.mul_comm, Nat.mul_add_div hp, Nat.div_eq_of_lt (by omega)]
    omega
theorem sub_yesq {m n k : Nat} (h : n ≤ m) (hb : kq m k < kq n k + boq m n k) : kq (m - n) k = kq m k + 256 - (kq n k + boq m n k) := by
  have h1 := sub_divq h k
  have h2 := sub_divq h (k + 1)
  rw [bo_yesq hb] at h2
  rw [div_stepq m k, div_stepq n k, div_stepq (m - n) k] at h1
  have := kq_lt (m - n) k; have := kq_lt m k; have := kq_lt n k
  omega
theorem sub_noq {m n k : Nat} (h : n ≤ m) (hb : kq n k + boq m n k ≤ kq m k) : kq (m - n) k = kq m k - (kq n k + boq m n k) := by
  have h1 := sub_divq h k
  have h2 := sub_divq h (k + 1)
  rw [bo_noq hb] at h2
  rw [div_stepq m k, div_stepq n k, div_stepq (m - n) k] at h1
  have := kq_lt (m - n) k; have := kq_lt m k; have := kq_lt n k
  omega
/-- A difference, so many figures of it done. -/
def suFq (m n k j : Nat) : Nat := if j < k then kq (m - n) j else kq m j
theorem suF_atq (m n k : Nat) : suFq m n k k = kq m k := by simp [suFq]
theorem suF_nextq {m n k v : Nat} (h : v = kq (m - n) k) : ai 34 (updN (suFq m n k) k v) = ai 34 (suFq m n (k + 1)) := ai_congr fun i _ => by
  unfold updN suFq
  by_cases e : i = k
  · subst e; simp [h]
  · have : (i < k + 1) = (i < k) := by simp; omega
    simp [e, this]
theorem suF_zeroq (m n : Nat) : ai 34 (kq m) = ai 34 (suFq m n 0) := ai_congr fun i _ => by simp [suFq]
theorem suF_endq (m n : Nat) : ai 34 (suFq m n 34) = ai 34 (kq (m - n)) := ai_congr fun i hi => by simp [suFq, hi]

theorem oL_32 : oL < 256 ^ 32 := by decide +kernel
theorem kq_oL {k : Nat} (h : 32 ≤ k) : kq oL k = 0 := dg_bigq oL_32 k h
/-- A shift by one byte, so many of 33 bytes moved. -/
def shF (R t i : Nat) : Nat := if 33 - t < i then kq R (i - 1) else kq R i
theorem shF_0 (R : Nat) : ai 34 (kq R) = ai 34 (shF R 0) := ai_congr fun i hi => by unfold shF; rw [if_neg (by omega)]
theorem shF_at {R t : Nat} (h : t < 33) : shF R t (33 - t - 1) = kq R (33 - t - 1) := by unfold shF; rw [if_neg (by omega)]
theorem shF_next {R t : Nat} (h : t < 33) : ai 34 (updN (shF R t) (33 - t) (kq R (33 - t - 1))) = ai 34 (shF R (t + 1)) := ai_congr fun i _ => by
  unfold updN shF
  by_cases e : i = 33 - t
  · subst e; rw [if_pos rfl, if_pos (by omega)]
  · rw [if_neg e]
    by_cases e2 : 33 - t < i
    · rw [if_pos e2, if_pos (by omega)]
    · rw [if_neg e2, if_neg (by omega)]
theorem kq_mul {R x i : Nat} (hx : x < 256) : kq (256 * R + x) (i + 1) = kq R i := by
  unfold kq
  rw [Nat.pow_succ, Nat.mul_comm _ 256, ← Nat.div_div_eq_div_mul, Nat.mul_add_div (by omega), Nat.div_eq_of_lt hx, Nat.add_zero]
theorem shF_end {R x : Nat} (hx : x < 256) : ai 34 (updN (shF R 33) 0 x) = ai 34 (kq (256 * R + x)) := ai_congr fun i _ => by
  unfold updN shF
  rcases i with _ | i
  · rw [if_pos rfl]; unfold kq; rw [Nat.pow_zero, Nat.div_one]; omega
  · rw [if_neg (by omega), if_pos (by omega), kq_mul hx]; rfl
/-- Which is below: by the highest byte that differs. -/
theorem be0 {X : Nat} (h : X < 256 ^ 34) : X / 256 ^ (34 - 0) = oL / 256 ^ (34 - 0) := by
  rw [Nat.div_eq_of_lt h, Nat.div_eq_of_lt (Nat.lt_trans oL_32 (by decide +kernel))]
theorem be1 {X t : Nat} (h : X / 256 ^ (34 - t) = oL / 256 ^ (34 - t)) (ht : t < 34) (hd : kq X (33 - t) = kq oL (33 - t)) : X / 256 ^ (34 - (t + 1)) = oL / 256 ^ (34 - (t + 1)) := by
  rw [show 34 - (t + 1) = 33 - t by omega]
  rw [show 34 - t = (33 - t) + 1 by omega] at h
  exact top_eqq h hd
theorem be2 {X t : Nat} (h : X / 256 ^ (34 - t) = oL / 256 ^ (34 - t)) (ht : t < 34) (hd : ¬ kq X (33 - t) = kq oL (33 - t)) : (X < oL ↔ kq X (33 - t) < kq oL (33 - t)) := by
  rw [show 34 - t = (33 - t) + 1 by omega] at h
  constructor
  · intro h1
    rcases Nat.lt_or_ge (kq X (33 - t)) (kq oL (33 - t)) with h2 | h2
    · exact h2
    · exact absurd (top_ltq h.symm (by omega : kq oL (33 - t) < kq X (33 - t))) (by omega)
  · intro h1; exact top_ltq h h1
theorem be3 {X : Nat} (h : X / 256 ^ (34 - 34) = oL / 256 ^ (34 - 34)) : X = oL := by
  rw [Nat.sub_self, Nat.pow_zero, Nat.div_one, Nat.div_one] at h; exact h
/-- A slice of whole numbers, each a byte. -/
def Bi (w : World) (a : Option Addr) (len : Nat) (g : Nat → Nat) : Prop :=
  (∀ i, g i < 256) ∧ (0 < len → ∃ b off, a = some ⟨b, off, none⟩ ∧ ∀ i, i < len → w.cell? ⟨b, off + i, none⟩ = some (.int .i64 ((g i : Nat) : Int)))
theorem Bi.later {w w' : World} {a : Option Addr} {len : Nat} {f : Nat → Nat} (h : Bi w a len f) (hb : Below w.heap.size w w') : Bi w' a len f :=
  ⟨h.1, fun hl => by
    obtain ⟨b, off, e, hc⟩ := h.2 hl
    exact ⟨b, off, e, fun i hi => cell_later hb (hc i hi)⟩⟩
theorem len_runi {aa : Option Addr} {n c : Nat} (ty : TypeId) (w : World) : (Builtin.len_ #[86] ty #[.slice aa n c]).run Try.prog w = .ok (.int .i64 ((n : Nat) : Int)) w := by
  simp [Builtin.len_, go_sem]
theorem ix34 {i : Nat} (hi : i < 34) (w : World) (q : Nat) : (Instr.indexAt 106 (.pointer (some ⟨q, 0, none⟩)) (.int .i64 ((i : Nat) : Int))).run Try.prog w = .ok (.pointer (some ⟨q, i, none⟩)) w := by
  simp [Instr.indexAt, go_sem, hi, addr_add]
theorem al34 (w : World) : (Instr.alloc 106 true (.tuple #[])).run Try.prog w = .ok (.pointer (some ⟨w.heap.size, 0, none⟩)) (w.alloc (.cells (ai 34 (kq 0)) 106)) := by
  have e : ai 34 (kq 0) = ai 34 (fun _ => 0) := ai_congr fun i _ => by unfold kq; rw [Nat.zero_div, Nat.zero_mod]
  rw [e, ai_zero]
  simp [Instr.alloc, go_sem]
theorem ix_sl {aa : Option Addr} {b off len cap i : Nat} (he : aa = some ⟨b, off, none⟩) (hi : i < len) (w : World) : (Instr.indexAt 86 (.slice aa len cap) (.int .i64 ((i : Nat) : Int))).run Try.prog w = .ok (.pointer (some ⟨b, off + i, none⟩)) w := by
  subst he
  simp [Instr.indexAt, go_sem, hi]
section
variable {P : Program} {W : Wd} {ops : Array Oper} {s0 s1 : List SV} {z : List Blk} {y : List (Array Value)} {o : Oper}
/-- A place of a slice that came in; what lies there. -/
theorem k_is {t : TypeId} {x u : Operand} {d : Tmp} (x1 u1 v : Value) (hr : ∀ w, (Instr.indexAt t x1 u1).run P w = .ok v w) (ho : o.op = .indexAddr t x u) (hd : o.dst = some d) (hw : wantF ops s1 o = true := by kernel_rfl) (hpx : plainB s1 x = true := by kernel_rfl) (hx1 : evS s1 x = x1 := by kernel_rfl) (hpu : plainB s1 u = true := by kernel_rfl) (hu1 : evS s1 u = u1 := by kernel_rfl) (hs : slot s1 d = .inl v := by kernel_rfl) : Ok1 P W ops s0 s1 z y o ⟨none, none, none, false⟩ := by
  refine ok_val hw hd hs (fun β a w ha => ?_)
  have h1 : a.eval x = x1 := by rw [← hx1]; exact ev_plain ha (by rw [ho]; simp [Op.operands]) hpx
  have h2 : a.eval u = u1 := by rw [← hu1]; exact ev_plain ha (by rw [ho]; simp [Op.operands]) hpu
  simp only [execOp, ho, h1, h2, Sem.run_bind, hr w, Result.andThen_ok, Sem.run_pure]
theorem k_lf {t : TypeId} {x : Operand} {d : Tmp} (x1 v : Value) (hr : ∀ w, KW W w → (Instr.loadAt t x1).run P w = .ok v w) (ho : o.op = .load t x) (hd : o.dst = some d) (hw : wantF ops s1 o = true := by kernel_rfl) (hpx : plainB s1 x = true := by kernel_rfl) (hx1 : evS s1 x = x1 := by kernel_rfl) (hs : slot s1 d = .inl v := by kernel_rfl) : Ok1 P W ops s0 s1 z y o ⟨none, none, none, false⟩ := by
  refine Or.inl ⟨hw, ⟨?_, fun b h => by simp at h, fun b _ h => by simp at h, ?_⟩⟩
  · rintro b (h | h | ⟨_, d', off, h1, h2⟩)
    · simp at h
    · simp at h
    · rw [hd] at h1; cases h1; rw [hs] at h2; cases h2
  · intro β a w ha hb hr' K Q hK
    have h1 : a.eval x = x1 := by rw [← hx1]; exact ev_plain ha (by rw [ho]; simp [Op.operands]) hpx
    have h3 := hr w hb
    unfold Oper.wp
    simp only [execOp, ho, h1, Sem.run_bind, h3, Result.andThen_ok, Sem.run_pure, Oper.upon_value]
    exact hK _ _ ⟨fun d' h => by rw [hd] at h; cases h; rw [hs]; rfl, Below.refl _ _⟩
/-- Slots of which nothing is told but some. -/
def jk (n : Nat) (x : Nat → SV) : List SV := (List.range n).map x
theorem lk_zip (f : Nat → SV) (t : Nat) {b : List SV} (hb : slot b t = f t) : ∀ idx : List Nat, lk (idx.zip (idx.map f)) t b = f t
  | [] => hb
  | i :: r => by
    show (bif Nat.beq i t then f i else lk (r.zip (r.map f)) t b) = f t
    cases e : Nat.beq i t with
    | true => rw [Nat.beq_eq.mp e]; rfl
    | false => exact lk_zip f t hb r
theorem St.jn {n : Nat} {s : List SV} {d : List (Nat × SV)} {m : List Blk} {β : Nat → Nat} {a : Act} {w : World} (h : St W (ov s d) m β a w) (idx : List Nat) (vals : List SV) (m' : List Blk) (e : idx.map (fun i => lk d i s) = vals) (hn : Nat.beq s.length n = true) (hm : m = m') : ∃ x, St W (ov (jk n x) (idx.zip vals)) m' β a w := by
  subst hm; subst e
  have hn := Nat.beq_eq.mp hn
  refine ⟨fun t => lk d t s, ?_⟩
  have e : ov (jk n fun t => lk d t s) (idx.zip (idx.map fun i => lk d i s)) = ov s d := by
    have hl : (jk n fun t => lk d t s).length = s.length := by simp [jk, hn]
    unfold ov
    rw [hl]
    refine List.map_congr_left fun t ht => lk_zip (fun t => lk d t s) t ?_ idx
    have ht : t < n := by rw [← hn]; simpa using ht
    simp [slot, jk, ht]
  rw [e]; exact h
/-- A cut: what holds behind a statement that is left at its end alone. -/
theorem seq_cut {a : Act} {w : World} {Q : Exit → Act → World → Prop} {x y : Code} (I : Act → World → Prop) (hx : x.wp P (fun e a w => e = .normal ∧ I a w) a w) (hy : ∀ a w, I a w → y.wp P Q a w) : (Code.seq x y).wp P Q a w := by
  refine wp_seq (wp_mono hx ?_)
  rintro e a w ⟨rfl, h⟩
  exact hy a w h
end
theorem ld_far {b off i n : Nat} {w : World} (h : w.cell? ⟨b, off + i, none⟩ = some (.int .i64 ((n : Nat) : Int))) : (Instr.loadAt 3 (.pointer (some ⟨b, off + i, none⟩))).run Try.prog w = .ok (.int .i64 ((n : Nat) : Int)) w := by
  simp [Instr.loadAt, Instr.sureAddr, go_sem, h]
end Go.Proofs.Ytpogmflgmpifoaa

/- TRb, TRc, LAe, TRd, TRe, TRf, TRg: laid together. -/
import Derived.Maps.Own
import Derived.Maps.Views
import Derived.DeepKeys4
import Derived.BigQuiet
import Derived.Shelf.Spec.TrailingZeros
import Derived.Test.YtdofoampjlebbaaDoorG5
namespace Go.Proofs.YtdofoampjlebbaaDoor
open Go.RowKit Go.Maps Sh
variable {q : Option Nat}

theorem tm_all (t : Array Value) {n : Nat} (h : t.size = n) : t = ((List.range n).map fun i => t.getD i undef).toArray := by
  subst h
  apply Array.ext_getElem?
  intro i
  have e : ((List.range t.size).map fun i => t.getD i undef).toArray[i]? = ((List.range t.size)[i]?).map fun i => t.getD i undef := by simp
  rw [e]
  rcases Nat.lt_or_ge i t.size with h | h
  · rw [List.getElem?_range h, Option.map_some, Array.getElem?_eq_getElem h, Array.getD_eq_getD_getElem?, Array.getElem?_eq_getElem h]; rfl
  · rw [Array.getElem?_eq_none h, List.getElem?_eq_none (by simpa using h)]; rfl
theorem ld_lv {w : World} {b o : Nat} {v : Value} (h1 : w.cell? ⟨b, o, none⟩ = some v) : (Instr.loadAt 60 (.pointer (some ⟨b, o, none⟩))).run Tryd.prog w = .ok v w := by
  simp [Instr.loadAt, Instr.sureAddr, go_sem, h1]
theorem ld_ro {w : World} {b o : Nat} {v : Value} (h1 : w.cell? ⟨b, o, none⟩ = some v) : (Instr.loadAt 22 (.pointer (some ⟨b, o, none⟩))).run Tryd.prog w = .ok v w := by
  simp [Instr.loadAt, Instr.sureAddr, go_sem, h1]
theorem ix_lv {g K cap k : Nat} (hk : k < K) (w : World) : (Instr.indexAt 60 (.slice (some ⟨g, 0, none⟩) K cap) (.int .i64 ((k : Nat) : Int))).run Tryd.prog w = .ok (.pointer (some ⟨g, k, none⟩)) w := by
  simp [Instr.indexAt, go_sem, hk]
/-- What append leaves. -/
structure PutA (w1 : World) (lo : Nat) (v0 : Value) (n : Nat) (X : List (Nat → Nat)) (v : Value) (w : World) : Prop where
  row : w.ownsRow lo 27 32 v (n + 1) (ssv X)
  gr : w1.grownBy w v0.ownBlock
  ob : v.ownBlock = v0.ownBlock ∨ ∃ g, v.ownBlock = some g ∧ w1.heap.size ≤ g
theorem grown_later {w w1 w2 : World} {row : Option Nat} (h : w.grownBy w1 row) (hb : Below w1.heap.size w1 w2) : w.grownBy w2 row :=
  ⟨hb.os.trans h.os, hb.tape.trans h.tape, hb.output.trans h.output, Nat.le_trans h.size hb.size, fun j hj hne => (hb.block j (Nat.lt_of_lt_of_le hj h.size)).trans (h.block j hj hne)⟩
theorem grown_of {w w1 : World} {row : Option Nat} (hb : Below w.heap.size w w1) : w.grownBy w1 row := ⟨hb.os, hb.tape, hb.output, hb.size, fun j hj _ => hb.block j hj⟩
theorem PutA.later {w1 : World} {lo : Nat} {v0 : Value} {n : Nat} {X : List (Nat → Nat)} {v : Value} {w w' : World} (h : PutA w1 lo v0 n X v w) (hb : Below w.heap.size w w') : PutA w1 lo v0 n X v w' := ⟨own_later h.row hb, grown_later h.gr hb, h.ob⟩
/-- Memory while the digest is appended: before and behind it. -/
def PM (w1 : World) (ob : Option Nat) (q : Nat) (D : Nat → Bool) (w : World) : Prop := w1.grownBy w ob ∧ (D q = false → Below w1.heap.size w1 w)
theorem PM.same {w1 : World} {ob : Option Nat} {q i : Nat} {D : Nat → Bool} {w : World} (h : PM w1 ob q D w) (hi : i ≠ q) : PM w1 ob q (add1 D i) w := ⟨h.1, fun e => h.2 (by rwa [add1_ne (fun x => hi x.symm)] at e)⟩
theorem PM.grow {w1 : World} {ob : Option Nat} {q i : Nat} {D : Nat → Bool} {w w' : World} (h : PM w1 ob q D w) (hi : i ≠ q) (hb : Below w.heap.size w w') : PM w1 ob q (add1 D i) w' := ⟨grown_later h.1 hb, fun e => blw (h.2 (by rwa [add1_ne (fun x => hi x.symm)] at e)) hb⟩
theorem oper_put {Q : Exit → Act → World → Prop} {o : Oper} {a : Act} {w : World} {K : Act → World → Prop} (s x : Operand) (ho : o.op = .call { callee := .builtin .append, args := #[s, x], argTypes := #[22, 22] }) (w1 : World) (lo : Nat) (v : Value) (n : Nat) (L : List (Nat → Nat)) (hs : a.eval s = v) (hown : w.ownsRow lo 27 32 v n (ssv L)) {g : Nat} {R : Nat → Nat} (hx : a.eval x = .slice (some ⟨g, 0, none⟩) 1 1) (hg : w.heap[g]? = some (.cells (ab 32 R) 27 (0, 0)))
    (hbytes : n + 1 ≤ 2000000) (hlo : lo ≤ w.heap.size) (hb : Below w1.heap.size w1 w) (h : ∀ v' w', PutA w1 lo v n (L ++ [R]) v' w' → K (a.put o.dst v') w') : o.wp Tryd.prog a w K Q := by
  obtain ⟨i0, hi, hz0, hz1, hz2⟩ := info_parts info_sum
  have hnews : ∀ j u, (ssv [R])[j]? = some u → w.cell? ((⟨g, 0, none⟩ : Addr).add j) = some u := by
    intro j u hj
    have hjl : j < 32 := by have := (List.getElem?_eq_some_iff.1 hj).1; rw [ssv_len] at this; simpa using this
    have h5 := ssv_get [R] 0 j (by simp) hjl
    rw [show 32 * 0 + j = j by omega] at h5
    rw [Addr.add_lit, cell_of_row _ _ _ _ _ _ hg, Nat.zero_add, ← hj, h5]
    exact arr_get _ _ _ hjl
  obtain ⟨v', w', hr, h4, h5, _, h6⟩ := run_append_own_at (P := Tryd.prog) w lo 22 o.type 27 i0 _ 32 32 Tryd.underlying22 hi hz0 hz1 hz2 (ab_size _ _) (by decide) v n (ssv L) hown ⟨g, 0, none⟩ 1 1 (ssv [R]) (by rw [ssv_len]; rfl) hnews
      (ssv_one _) (by unfold maxLen; omega) (by omega) hlo
  unfold Oper.wp execOp
  simp only [ho, resolve, invoke, builtin, Sem.run_bind, Sem.run_pure, Result.andThen_ok, List.map_toArray, List.map_cons, List.map_nil, hs, hx, hr]
  refine h v' w' ⟨by rw [ssv_app]; exact h4, ?_, ?_⟩
  · exact ⟨h5.os.trans hb.os, h5.tape.trans hb.tape, h5.output.trans hb.output, Nat.le_trans hb.size h5.size, fun j hj hne => (h5.block j (Nat.lt_of_lt_of_le hj hb.size) hne).trans (hb.block j hj)⟩
  · rcases h6 with e | e
    · exact .inl e
    · exact .inr ⟨_, e, hb.size⟩
/-- Below lo all is as it was, and so is every map. -/
def MK (w w' : World) : Prop := ∀ (j : Nat) (es : Array MapEntry) (c : Nat), w.heap[j]? = some (Obj.map es c) → w'.heap[j]? = some (Obj.map es c)
structure Bm (q : Option Nat) (lo : Nat) (w w' : World) : Prop where
  b : Below lo w w'
  m : MK w w'
  k : ∀ b, q = some b → b < w.heap.size → w'.heap[b]? = w.heap[b]?
theorem Bm.trans {lo : Nat} {a b c : World} (h : Bm q lo a b) (k : Bm q lo b c) : Bm q lo a c := ⟨h.b.trans k.b, fun j es c h1 => k.m j es c (h.m j es c h1), fun b e hb => (k.k b e (Nat.lt_of_lt_of_le hb h.b.size)).trans (h.k b e hb)⟩
theorem Bm.of {lo : Nat} {w w' : World} (h : Below w.heap.size w w') (hl : lo ≤ w.heap.size) : Bm q lo w w' := ⟨h.mono hl, fun j _ _ h1 => (h.block j (Array.getElem?_eq_some_iff.1 h1).1).trans h1, fun b _ hb => h.block b hb⟩
structure Bq (q : Option Nat) (lo : Nat) (w w' : World) : Prop where
  b : Below lo w w'
  k : ∀ b, q = some b → b < w.heap.size → w'.heap[b]? = w.heap[b]?
theorem Bq.trans {lo : Nat} {a b c : World} (h : Bq q lo a b) (k : Bq q lo b c) : Bq q lo a c := ⟨h.b.trans k.b, fun b e hb => (k.k b e (Nat.lt_of_lt_of_le hb h.b.size)).trans (h.k b e hb)⟩
theorem Bm.bq {lo : Nat} {w w' : World} (h : Bm q lo w w') : Bq q lo w w' := ⟨h.b, h.k⟩
theorem Bq.of {lo : Nat} {w w' : World} (h : Below w.heap.size w w') (hl : lo ≤ w.heap.size) : Bq q lo w w' := ⟨h.mono hl, fun b _ hb => h.block b hb⟩
theorem MK.grown {w w' : World} {row : Option Nat} (h : w.grownBy w' row) (hr : ∀ q, row = some q → ∃ c t, w.heap[q]? = some (.cells c t (0, 0))) : MK w w' := fun j es c h1 => (h.block j (Array.getElem?_eq_some_iff.1 h1).1 (fun e => by
  obtain ⟨c2, t2, h2⟩ := hr j e.symm
  rw [h1] at h2; cases h2)).trans h1
theorem MK.set {w : World} {p : Addr} {c0 : Array Value} {t0 : TypeId} (v : Value) (h : w.heap[p.block]? = some (.cells c0 t0 (0, 0))) : MK w (w.setCell p v) := fun j es c h1 => by
  rw [Below.heap_setCell _ _ _ _ (fun e => by rw [e, h] at h1; cases h1)]; exact h1
/-- What a level holds behind a digest put. -/
def updM (M : Nat → List (Nat → Nat)) (k : Nat) (X : List (Nat → Nat)) (i : Nat) : List (Nat → Nat) := if i = k then X else M i
theorem own_lt {w : World} {base n : Nat} {e : TypeId} {size : Nat} {v : Value} {xs : List Value} (h : w.ownsRow base e size v n xs) {g : Nat} (hg : v.ownBlock = some g) : base ≤ g ∧ ∃ c, w.heap[g]? = some (.cells c e (0, 0)) := by
  rcases h.2 with ⟨rfl, _⟩ | ⟨g', cap, cur, rfl, h1, h2, _⟩
  · cases hg
  · obtain rfl : g' = g := by simpa [Value.ownBlock] using hg
    exact ⟨h1, cur, h2⟩
theorem own_grown {w w' : World} {base n : Nat} {e : TypeId} {size : Nat} {v : Value} {xs : List Value} {row : Option Nat} (h : w.ownsRow base e size v n xs) (hg : w.grownBy w' row) (hne : ∀ g, v.ownBlock = some g → some g ≠ row) : w'.ownsRow base e size v n xs := by
  refine h.kept hg ?_
  rcases h.2 with ⟨rfl, _⟩ | ⟨g, cap, cur, rfl, _⟩
  · exact .inl rfl
  · exact .inr (hne g rfl)
theorem own_set {w : World} {base n : Nat} {e : TypeId} {size : Nat} {v : Value} {xs : List Value} {p : Addr} (u : Value) (h : w.ownsRow base e size v n xs) (hne : ∀ g, v.ownBlock = some g → g ≠ p.block) : (w.setCell p u).ownsRow base e size v n xs := by
  refine own_grown (row := some p.block) h ⟨rfl, rfl, rfl, by simp [World.setCell], fun j _ hj => Below.heap_setCell _ _ _ _ (fun e => hj (by rw [e]))⟩ (fun g hg e => hne g hg (by cases e; rfl))
/-- The row of levels with one of them turned. -/
theorem row_set {w : World} {lo K cap g k : Nat} {vs : List Value} {u : Value} (h : w.ownsRow lo 22 1 (.slice (some ⟨g, 0, none⟩) K cap) K vs) (_hk : k < K) : (w.setCell ⟨g, k, none⟩ u).ownsRow lo 22 1 (.slice (some ⟨g, 0, none⟩) K cap) K (vs.set k u) := by
  rcases h.2 with ⟨e, _⟩ | ⟨g', cap', cur, e, h1, h2, h3, h4, h5, h6⟩
  · cases e
  · cases e
    refine ⟨by rw [List.length_set]; exact h.1, .inr ⟨g, cap, cur.setIfInBounds k u, rfl, h1, ?_, h3, h4, by simpa using h5, ?_⟩⟩
    · simp only [World.setCell, Array.getElem?_modify]
      rw [h2]
      simp
    · rw [Array.toList_setIfInBounds, List.take_set, h6]
theorem getD_set {vs : List Value} {k i : Nat} {u : Value} (hk : k < vs.length) : (vs.set k u).getD i nilV = if i = k then u else vs.getD i nilV := by
  rw [List.getD_eq_getElem?_getD, List.getElem?_set]
  by_cases e : k = i
  · subst e; rw [if_pos rfl, if_pos hk, if_pos rfl]; rfl
  · rw [if_neg e, if_neg (fun h => e h.symm), List.getD_eq_getElem?_getD]
theorem type_ne {w : World} {a b : Nat} {c c' : Array Value} {t t' : TypeId} (h1 : w.heap[a]? = some (.cells c t (0, 0))) (h2 : w.heap[b]? = some (.cells c' t' (0, 0))) (ht : t ≠ t') : a ≠ b := by
  rintro rfl
  rw [h1] at h2; cases h2; exact ht rfl
theorem LvAt.put {w u : World} {lo tb K k cap g : Nat} {mv v' : Value} {M : Nat → List (Nat → Nat)} {vs : List Value} {d : Nat → Nat} (h : LvAt q w lo tb mv K M (.slice (some ⟨g, 0, none⟩) K cap) vs) (hk : k < K) (hd : ∀ j, d j < 256) (hp : PutA w lo (vs.getD k nilV) (M k).length (M k ++ [d]) v' u) :
    LvAt q (u.setCell ⟨g, k, none⟩ v') lo tb mv K (updM M k (M k ++ [d])) (.slice (some ⟨g, 0, none⟩) K cap) (vs.set k v') ∧ Bm q lo w (u.setCell ⟨g, k, none⟩ v') := by
  have hl : vs.length = K := by have := h.row.1; omega
  have hlk := h.lev k hk
  obtain ⟨hlo, cg, hcg⟩ := own_lt h.row (g := g) rfl
  have hlu := Nat.lt_of_lt_of_le (Array.getElem?_eq_some_iff.1 h.cell).1 hp.gr.size
  -- blocks of other types than a level's
  have n1 : ∀ q c t, w.heap[q]? = some (.cells c t (0, 0)) → t ≠ 27 → some q ≠ (vs.getD k nilV).ownBlock := fun q c t hq ht e => by
    obtain ⟨_, c2, h2⟩ := own_lt hlk e.symm
    exact type_ne hq h2 ht rfl
  have ctb : u.heap[tb]? = some (.cells #[.slice (some ⟨g, 0, none⟩) K cap, mv] 62 (0, 0)) := (hp.gr.block tb (Array.getElem?_eq_some_iff.1 h.cell).1 (n1 _ _ _ h.cell (by decide))).trans h.cell
  have hru := own_grown h.row hp.gr (fun q e => by
    obtain ⟨_, c2, h2⟩ := own_lt h.row e
    exact n1 _ _ _ h2 (by decide))
  obtain ⟨_, cu, hcu⟩ := own_lt hru (g := g) rfl
  have hsz : (M k).length + 1 = (M k ++ [d]).length := by simp
  refine ⟨⟨h.tl, ?_, row_set hru hk, fun i hi => ?_, fun i j q hi hj hij e => ?_, fun i F hi hF j => ?_, fun b e => ?_⟩, ?_⟩
  · rw [Below.heap_setCell _ _ _ _ (type_ne ctb hcu (by decide))]; exact ctb
  · rw [getD_set (by omega)]
    unfold updM
    by_cases e : i = k
    · rw [if_pos e, if_pos e, ← hsz]
      refine own_set _ hp.row (fun q hq => ?_)
      obtain ⟨_, c2, h2⟩ := own_lt hp.row hq
      exact type_ne h2 hcu (by decide)
    · rw [if_neg e, if_neg e]
      have h1 := own_grown (h.lev i hi) hp.gr (fun q hq e2 => h.ap i k q hi hk e hq e2.symm)
      refine own_set _ h1 (fun q hq => ?_)
      obtain ⟨_, c2, h2⟩ := own_lt h1 hq
      exact type_ne h2 hcu (by decide)
  · rw [getD_set (by omega)] at e ⊢
    have key : ∀ i, i < K → i ≠ k → ∀ q, (vs.getD i nilV).ownBlock = some q → v'.ownBlock ≠ some q := fun i hi hne q hq e2 => by
      rcases hp.ob with e3 | ⟨g2, e3, h2⟩
      · rw [e3] at e2; exact h.ap i k q hi hk hne hq e2
      · rw [e3] at e2; cases e2
        obtain ⟨_, c2, h3⟩ := own_lt (h.lev i hi) hq
        have := (Array.getElem?_eq_some_iff.1 h3).1
        omega
    by_cases ei : i = k
    · rw [if_pos ei] at e
      rw [if_neg (fun x => hij (by omega))]
      exact fun e2 => key j hj (fun x => hij (by omega)) q e2 e
    · rw [if_neg ei] at e
      by_cases ej : j = k
      · rw [if_pos ej]; exact key i hi ei q e
      · rw [if_neg ej]; exact h.ap i j q hi hj hij e
  · unfold updM at hF
    split at hF
    · rcases List.mem_append.1 hF with hF | hF
      · exact h.lt k F hk hF j
      · rw [List.mem_singleton.1 hF]; exact hd j
    · exact h.lt i F hi hF j
  · obtain ⟨h1, h2, h3, h4⟩ := h.av b e
    refine ⟨by rw [show (u.setCell ⟨g, k, none⟩ v').heap.size = u.heap.size by simp [World.setCell]]; exact Nat.lt_of_lt_of_le h1 hp.gr.size, h2, h3, fun i => ?_⟩
    rw [getD_set (by omega)]
    split
    · rcases hp.ob with e3 | ⟨g2, e3, h5⟩
      · rw [e3]; exact h4 k
      · rw [e3]; intro e4; cases e4; omega
    · exact h4 i
  · refine ⟨((Below.refl lo w).grown hp.gr ?_ (fun q e => ?_)).setCell hlo _, fun j es c h1 => MK.set _ hcu j es c (MK.grown hp.gr (fun q e => ?_) j es c h1), fun b e hb => ?_⟩
    · exact Nat.le_trans h.tl (Nat.le_of_lt (Array.getElem?_eq_some_iff.1 h.cell).1)
    · exact (own_lt hlk e).1
    · obtain ⟨_, c2, h2⟩ := own_lt hlk e
      exact ⟨_, _, h2⟩
    · obtain ⟨h1, h2, h3, h4⟩ := h.av b e
      rw [Below.heap_setCell _ _ _ _ (fun e2 => h3 (by rw [e2]; rfl))]
      exact hp.gr.block b hb (fun e2 => h4 k e2.symm)
theorem info_row : (Tryd.prog.info? 22).map (fun i => (i.zero, i.size, i.bytes)) = some (some nilV, 1, 24) := by kernel_rfl
/-- A level without digests is put behind the others. -/
theorem wpList_append_lv {w : World} {ops : Array Oper} {rest : List Oper} {o : Oper} {a : Act} {Q : Exit → Act → World → Prop} (hgd : o.guard = none) (s x : Operand)
    (ho : o.op = .call { callee := .builtin .append, args := #[s, x], argTypes := #[60, 60] }) (lo : Nat)
    (v : Value) (n : Nat) (xs : List Value) (hs : a.eval s = v) (hown : w.ownsRow lo 22 1 v n xs) {g : Nat} (hx : a.eval x = .slice (some ⟨g, 0, none⟩) 1 1) (hg : w.heap[g]? = some (.cells #[nilV] 22 (0, 0)))
    (hbytes : n + 1 ≤ 1000000) (hlo : lo ≤ w.heap.size)
    (h : ∀ v' w', w'.ownsRow lo 22 1 v' (n + 1) (xs ++ [nilV]) → w.grownBy w' v.ownBlock → (v'.ownBlock = v.ownBlock ∨ v'.ownBlock = some w.heap.size) → wpList Tryd.prog ops Q rest (a.put o.dst v') w') : wpList Tryd.prog ops Q (o :: rest) a w := by
  refine wpList_plain hgd fun K hK => ?_
  obtain ⟨i0, hi, hz0, hz1, hz2⟩ := info_parts info_row
  have hnews : ∀ j u, [nilV][j]? = some u → w.cell? ((⟨g, 0, none⟩ : Addr).add j) = some u := by
    intro j u hj
    obtain rfl : j = 0 := by have := (List.getElem?_eq_some_iff.1 hj).1; simpa using this
    rw [Addr.add_lit, cell_of_row _ _ _ _ _ _ hg, ← hj]; rfl
  obtain ⟨v', w', hr, h4, h5, _, h6⟩ := run_append_own_at (P := Tryd.prog) w lo 60 o.type 22 i0 _ 1 24 Tryd.underlying60 hi hz0 hz1 hz2 rfl (by decide) v n xs hown ⟨g, 0, none⟩ 1 1 [nilV] rfl hnews
      (fun u hu => by rw [List.mem_singleton.1 hu]; rfl) (by unfold maxLen; omega) (by omega) hlo
  unfold Oper.wp execOp
  simp only [ho, resolve, invoke, builtin, Sem.run_bind, Sem.run_pure, Result.andThen_ok, List.map_toArray, List.map_cons, List.map_nil, hs, hx, hr]
  exact hK _ _ (h v' w' h4 h5 h6)
theorem getD_app {vs : List Value} {i : Nat} : (vs ++ [nilV]).getD i nilV = vs.getD i nilV := by
  rw [List.getD_eq_getElem?_getD, List.getD_eq_getElem?_getD]
  rcases Nat.lt_or_ge i vs.length with h | h
  · rw [List.getElem?_append_left h]
  · rw [List.getElem?_append_right h, List.getElem?_eq_none h]
    rcases Nat.eq_zero_or_pos (i - vs.length) with e | e
    · rw [e]; rfl
    · rw [List.getElem?_eq_none (by simp; omega)]
theorem LvAt.more {w u : World} {lo tb K : Nat} {mv lv v' : Value} {M : Nat → List (Nat → Nat)} {vs : List Value} (h : LvAt q w lo tb mv K M lv vs) (hM : M K = []) (ho : u.ownsRow lo 22 1 v' (K + 1) (vs ++ [nilV])) (hg : w.grownBy u lv.ownBlock) (hob : v'.ownBlock = lv.ownBlock ∨ v'.ownBlock = some w.heap.size) :
    u.cell? ⟨tb, 0, none⟩ = some lv ∧ u.frozen? ⟨tb, 0, none⟩ = false ∧ LvAt q (u.setCell ⟨tb, 0, none⟩ v') lo tb mv (K + 1) M v' (vs ++ [nilV]) ∧ Bm q lo w (u.setCell ⟨tb, 0, none⟩ v') ∧
      ∀ b {c : Array Value}, w.heap[b]? = some (.cells c 27 (0, 0)) → b < w.heap.size → (u.setCell ⟨tb, 0, none⟩ v').heap[b]? = some (.cells c 27 (0, 0)) := by
  have n1 : ∀ q c t, w.heap[q]? = some (.cells c t (0, 0)) → t ≠ 22 → some q ≠ lv.ownBlock := fun q c t hq ht e => by
    obtain ⟨_, c2, h2⟩ := own_lt h.row e.symm
    exact type_ne hq h2 ht rfl
  have ctb : u.heap[tb]? = some (.cells #[lv, mv] 62 (0, 0)) := (hg.block tb (Array.getElem?_eq_some_iff.1 h.cell).1 (n1 _ _ _ h.cell (by decide))).trans h.cell
  have hl : vs.length = K := by have := h.row.1; omega
  refine ⟨by rw [cell_of_row _ _ _ _ _ _ ctb]; rfl, by simp [World.frozen?, ctb], ⟨h.tl, ?_, ?_, fun i hi => ?_, fun i j q hi hj hij e => ?_, fun i F hi hF j => ?_, fun b e => ?_⟩, ?_, fun b c hb hlt => ?_⟩
  · simp only [World.setCell, Array.getElem?_modify]
    rw [ctb]
    simp
  · refine own_set _ ho (fun q hq => ?_)
    obtain ⟨_, c2, h2⟩ := own_lt ho hq
    exact type_ne h2 ctb (by decide)
  · rw [getD_app]
    by_cases e : i < K
    · have h1 := own_grown (h.lev i e) hg (fun q hq => by
        obtain ⟨_, c2, h2⟩ := own_lt (h.lev i e) hq
        exact n1 _ _ _ h2 (by decide))
      refine own_set _ h1 (fun q hq => ?_)
      obtain ⟨_, c2, h2⟩ := own_lt h1 hq
      exact type_ne h2 ctb (by decide)
    · obtain rfl : i = K := by omega
      rw [hM, List.getD_eq_getElem?_getD, List.getElem?_eq_none (by omega)]
      exact World.ownsRow_nil _ _ _ _
  · rw [getD_app] at e ⊢
    have hiK : i < K := by
      rcases Nat.lt_or_ge i K with h | h
      · exact h
      · rw [List.getD_eq_getElem?_getD, List.getElem?_eq_none (by omega)] at e; cases e
    rcases Nat.lt_or_ge j K with hjK | hjK
    · exact h.ap i j q hiK hjK hij e
    · rw [List.getD_eq_getElem?_getD, List.getElem?_eq_none (by omega)]; exact fun e2 => by cases e2
  · rcases Nat.lt_or_ge i K with h1 | h1
    · exact h.lt i F h1 hF j
    · obtain rfl : i = K := by omega
      rw [hM] at hF; cases hF
  · obtain ⟨h1, h2, h3, h4⟩ := h.av b e
    refine ⟨by rw [show (u.setCell ⟨tb, 0, none⟩ v').heap.size = u.heap.size by simp [World.setCell]]; exact Nat.lt_of_lt_of_le h1 hg.size, h2, ?_, fun i => by rw [getD_app]; exact h4 i⟩
    rcases hob with e3 | e3
    · rw [e3]; exact h3
    · rw [e3]; intro e4; cases e4; omega
  · refine ⟨((Below.refl lo w).grown hg ?_ (fun q e => ?_)).setCell h.tl _, fun j es c h1 => MK.set _ ctb j es c (MK.grown hg (fun q e => ?_) j es c h1), fun b e hb => ?_⟩
    · exact Nat.le_trans h.tl (Nat.le_of_lt (Array.getElem?_eq_some_iff.1 h.cell).1)
    · exact (own_lt h.row e).1
    · obtain ⟨_, c2, h2⟩ := own_lt h.row e
      exact ⟨_, _, h2⟩
    · obtain ⟨h1, h2, h3, h4⟩ := h.av b e
      rw [Below.heap_setCell _ _ _ _ (fun e2 => h2 e2.symm)]
      exact hg.block b hb (fun e2 => h3 e2.symm)
  · have hb2 := (hg.block b hlt (n1 _ _ _ hb (by decide))).trans hb
    rw [Below.heap_setCell _ _ _ _ (type_ne hb2 ctb (by decide))]; exact hb2
end Go.Proofs.YtdofoampjlebbaaDoor

namespace Go.Proofs.YtdofoampjlebbaaDoor
open Go.RowKit Go.Maps Sh
set_option linter.unusedVariables false
variable {q : Option Nat}
section
variable {x u : Operand}
theorem add_n1 {m : Nat} (hm : m ≤ 1000000000) (w : World) : (do eqGuard .add 3 x u (.int .i64 ((m : Nat) : Int)) (.int .i64 1); binOp .add 3 (.int .i64 ((m : Nat) : Int)) (.int .i64 1)).run Tryd.prog w = .ok (.int .i64 ((m + 1 : Nat) : Int)) w := by
  have := ad_zn (x := x) (u := u) (m := ((m : Nat) : Int)) (n := ((1 : Nat) : Int)) (k := m + 1) (by omega) (by omega) w
  exact this
theorem sub_2 {m : Nat} (h : 2 ≤ m) (hm : m ≤ 1000000000) (w : World) : (do eqGuard .sub 3 x u (.int .i64 ((m : Nat) : Int)) (.int .i64 2); binOp .sub 3 (.int .i64 ((m : Nat) : Int)) (.int .i64 2)).run Tryd.prog w = .ok (.int .i64 ((m - 2 : Nat) : Int)) w := sub_nn (k := 2) h hm w
theorem sub_1 {m : Nat} (h : 1 ≤ m) (hm : m ≤ 1000000000) (w : World) : (do eqGuard .sub 3 x u (.int .i64 ((m : Nat) : Int)) (.int .i64 1); binOp .sub 3 (.int .i64 ((m : Nat) : Int)) (.int .i64 1)).run Tryd.prog w = .ok (.int .i64 ((m - 1 : Nat) : Int)) w := sub_nn (k := 1) h hm w
end
/-- Memory ahead of the inner put. -/
def QM (w1 : World) (q : Nat) (D : Nat → Bool) (w : World) : Prop := D q = false → Below w1.heap.size w1 w
theorem QM.same {w1 : World} {q i : Nat} {D : Nat → Bool} {w : World} (h : QM w1 q D w) (hi : i ≠ q) : QM w1 q (add1 D i) w := fun e => h (by rwa [add1_ne (fun x => hi x.symm)] at e)
theorem QM.grow {w1 : World} {q i : Nat} {D : Nat → Bool} {w w' : World} (h : QM w1 q D w) (hi : i ≠ q) (hb : Below w.heap.size w w') : QM w1 q (add1 D i) w' := fun e => blw (h (by rwa [add1_ne (fun x => hi x.symm)] at e)) hb
def GlLo (lo : Nat) : Prop := 2 < lo ∧ 3 < lo
theorem gl_lo {w w' : World} {lo : Nat} (h : Gl w) (hb : Below lo w w') (hl : GlLo lo) : Gl w' := ⟨fun i hi => (hb.cell hl.1).trans (h.1 i hi), fun i hi => (hb.cell hl.2).trans (h.2 i hi)⟩
def PJ (J : World → Prop) (_ : Value) (w : World) : Prop := ∃ w0, J w0 ∧ Below w0.heap.size w0 w
theorem PJ.later {J : World → Prop} {v : Value} {w w' : World} (h : PJ J v w) (hb : Below w.heap.size w w') : PJ J v w' := by
  obtain ⟨w0, h1, h2⟩ := h
  exact ⟨w0, h1, blw h2 hb⟩
def PU3 (tb k b0 g Kn cp lo n : Nat) (v0 : Value) (X : List (Nat → Nat)) (d : Nat → Nat) (w1 : World) : (Nat → Bool) → Nat → Value → World → Prop
  | _, 0, v, _ => v = .pointer (some ⟨tb, 0, none⟩)
  | _, 1, v, _ => v = .pointer (some ⟨tb, 0, none⟩)
  | _, 2, v, _ => v = .pointer (some ⟨tb, 0, none⟩)
  | _, 3, v, _ => v = .slice (some ⟨g, 0, none⟩) Kn cp
  | _, 4, v, _ => v = .int .i64 ((k : Nat) : Int)
  | _, 5, v, _ => v = .pointer (some ⟨g, k, none⟩)
  | _, 6, v, _ => v = v0
  | _, 7, v, _ => v = .agg (ab 32 d)
  | D, 8, v, w => D 9 = false → Row1 d v w
  | D, 9, v, w => D 9 = true ∧ PutA w1 lo v0 n (X ++ [d]) v w
  | D, 10, v, w => D 9 = true ∧ PutA w1 lo v0 n (X ++ [d]) v w
  | _, _, _, _ => True
def PU3d : Nat → Nat
  | 0 => 24
  | 1 => 25
  | 2 => 26
  | 3 => 27
  | 4 => 28
  | 5 => 29
  | 6 => 30
  | 7 => 31
  | 8 => 32
  | 9 => 33
  | 10 => 6
  | i => 2000 + i
theorem PU3_mono (tb k b0 g Kn cp lo n : Nat) (v0 : Value) (X : List (Nat → Nat)) (d : Nat → Nat) (w1 : World) {D : Nat → Bool} {ix : Nat} {w w' : World} (hD : D ix = false) (hb : ix ≠ 9 → Below w.heap.size w w') : ∀ (j : Nat) (u : Value), j ≠ ix → PU3 tb k b0 g Kn cp lo n v0 X d w1 D j u w → PU3 tb k b0 g Kn cp lo n v0 X d w1 (add1 D ix) j u w'
  | 0, _, _, h => h
  | 1, _, _, h => h
  | 2, _, _, h => h
  | 3, _, _, h => h
  | 4, _, _, h => h
  | 5, _, _, h => h
  | 6, _, _, h => h
  | 7, _, _, h => h
  | 8, _, _, h => fun hd => by
    by_cases e : ix = 9
    · subst e; rw [add1_eq] at hd; cases hd
    · rw [add1_ne (fun q => e q.symm)] at hd; exact (h hd).later (hb e)
  | 9, _, _, h => by
    have e : ix ≠ 9 := fun e => by rw [e] at hD; rw [h.1] at hD; cases hD
    exact ⟨by rw [add1_ne (fun q => e q.symm)]; exact h.1, h.2.later (hb e)⟩
  | 10, _, _, h => by
    have e : ix ≠ 9 := fun e => by rw [e] at hD; rw [h.1] at hD; cases hD
    exact ⟨by rw [add1_ne (fun q => e q.symm)]; exact h.1, h.2.later (hb e)⟩
  | _ + 11, _, _, _ => trivial
def PU7 (tb k g2 N c2 : Nat) (x y : Nat → Nat) (J : World → Prop) : (Nat → Bool) → Nat → Value → World → Prop
  | _, 0, v, _ => v = .pointer (some ⟨tb, 0, none⟩)
  | _, 1, v, _ => v = .int .i64 ((k : Nat) : Int)
  | _, 2, v, _ => v = .int .i64 ((k + 1 : Nat) : Int)
  | _, 3, v, _ => v = .slice (some ⟨g2, 0, none⟩) N c2
  | _, 4, v, _ => v = .int .i64 ((N : Nat) : Int)
  | _, 5, v, _ => v = .int .i64 ((N - 2 : Nat) : Int)
  | _, 6, v, _ => v = .pointer (some ⟨g2, 0 + 32 * (N - 2), none⟩)
  | _, 7, v, _ => v = .agg (ab 32 x)
  | _, 8, v, _ => v = .slice (some ⟨g2, 0, none⟩) N c2
  | _, 9, v, _ => v = .int .i64 ((N : Nat) : Int)
  | _, 10, v, _ => v = .int .i64 ((N - 1 : Nat) : Int)
  | _, 11, v, _ => v = .pointer (some ⟨g2, 0 + 32 * (N - 1), none⟩)
  | _, 12, v, _ => v = .agg (ab 32 y)
  | _, 13, v, _ => v = .agg (ab 32 (nd x y))
  | D, 14, v, w => D 14 = true ∧ PJ J v w
  | _, _, _, _ => True
def PU7d : Nat → Nat
  | 0 => 46
  | 1 => 47
  | 2 => 48
  | 3 => 49
  | 4 => 50
  | 5 => 51
  | 6 => 52
  | 7 => 53
  | 8 => 54
  | 9 => 55
  | 10 => 56
  | 11 => 57
  | 12 => 58
  | 13 => 59
  | 14 => 60
  | i => 2000 + i
theorem PU7_mono (tb k g2 N c2 : Nat) (x y : Nat → Nat) (J : World → Prop) {D : Nat → Bool} {ix : Nat} {w w' : World} (hD : D ix = false) (hb : ix ≠ 14 → Below w.heap.size w w') : ∀ (j : Nat) (u : Value), j ≠ ix → PU7 tb k g2 N c2 x y J D j u w → PU7 tb k g2 N c2 x y J (add1 D ix) j u w'
  | 0, _, _, h => h
  | 1, _, _, h => h
  | 2, _, _, h => h
  | 3, _, _, h => h
  | 4, _, _, h => h
  | 5, _, _, h => h
  | 6, _, _, h => h
  | 7, _, _, h => h
  | 8, _, _, h => h
  | 9, _, _, h => h
  | 10, _, _, h => h
  | 11, _, _, h => h
  | 12, _, _, h => h
  | 13, _, _, h => h
  | 14, _, _, h => by
    have e : ix ≠ 14 := fun e => by rw [e] at hD; rw [h.1] at hD; cases hD
    exact ⟨by rw [add1_ne (fun q => e q.symm)]; exact h.1, (h.2).later (hb e)⟩
  | _ + 15, _, _, _ => trivial
set_option maxHeartbeats 4000000 in
set_option maxRecDepth 100000 in
theorem put_in {w : World} {lo tb Kn k : Nat} {mv lv : Value} {M : Nat → List (Nat → Nat)} {vs : List Value} {d : Nat → Nat} (h : LvAt q w lo tb mv Kn M lv vs) (hk : k < Kn) (hd : ∀ j, d j < 256) (hg : Gl w) (hgo : GlLo lo) (hn : (M k).length ≤ 1048576) (hKn : Kn ≤ 64) {J : World → Prop} (hJ : ∀ w w', J w → Below w.heap.size w w' → J w')
    (hodd : (M k).length % 2 = 0 → ∀ w' lv' vs', LvAt q w' lo tb mv Kn (updM M k (M k ++ [d])) lv' vs' → Bm q lo w w' → J w')
    (hev : (M k).length % 2 = 1 → ∀ w' lv' vs', LvAt q w' lo tb mv Kn (updM M k (M k ++ [d])) lv' vs' → Bm q lo w w' → Calls Tryd.prog 31 #[.pointer (some ⟨tb, 0, none⟩), .int .i64 ((k + 1 : Nat) : Int), .agg (ab 32 (nd ((M k).getD ((M k).length - 1) fun _ => 0) d))] w' fun e w'' => ∃ r, e = .returned r ∧ J w'') :
    Calls Tryd.prog 31 #[.pointer (some ⟨tb, 0, none⟩), .int .i64 ((k : Nat) : Int), .agg (ab 32 d)] w fun e w' => e = .returned (.tuple #[]) ∧ J w' := by
  obtain ⟨g, cp, rfl, -, -, -⟩ := h.rw (by omega)
  have hlo0 : lo ≤ w.heap.size := Nat.le_trans h.tl (Nat.le_of_lt (Array.getElem?_eq_some_iff.1 h.cell).1)
  have hal : Below w.heap.size w (w.alloc (.cells (ab 32 d) 27)) := (Below.refl _ _).alloc (Nat.le_refl _) _
  have h1 := h.later hal
  have hb0 : (w.alloc (.cells (ab 32 d) 27)).heap[w.heap.size]? = some (.cells (ab 32 d) 27 (0, 0)) := (MapKept.heap_alloc w _).1
  obtain ⟨A, hA⟩ : ∃ A, Hid (A = ab 32 d) := ⟨_, hide1 rfl⟩
  have bxA : ∀ w : World, (Instr.box 27 (.agg A)).run Tryd.prog w = .ok (.pointer (some ⟨w.heap.size, 0, none⟩)) (w.alloc (.cells A 27)) := fun w => bx_agg w
  have hlo : lo ≤ (w.alloc (.cells (ab 32 d) 27)).heap.size := Nat.le_trans hlo0 hal.size
  have hc0 := h1.c0
  have hkK : ((k : Int) == (Kn : Int)) = false := by rw [beq_eq_false_iff_ne]; omega
  have hgl := gl_b hg hal
  have hb01 : Bm q lo w (w.alloc (.cells (ab 32 d) 27)) := Bm.of hal hlo0
  obtain ⟨b0, hb00⟩ : ∃ b0, Hid (b0 = w.heap.size) := ⟨_, hide1 rfl⟩
  rw [← hb00.out] at hb0
  rw [← hA.out] at h1 hb0 hlo hc0 hgl hb01
  rw [← hA.out]
  go_enter Tryd.func31, Tryd.ntmps31
  go_upto_region 3 with fail
  generalize w.alloc (.cells A 27) = w1 at h1 hb0 hlo hc0 hgl hb01 ⊢
  rw [← hb00.out]
  clear bxA hkK hal
  rw [hA.out] at hb0 ⊢
  have hv0b : (vs.getD k nilV).ownBlock ≠ some b0 := fun e => by
    obtain ⟨_, c3, h3⟩ := own_lt (h.lev k hk) e
    have := (Array.getElem?_eq_some_iff.1 h3).1
    rw [hb00.out] at this
    omega
  have hown := h1.lev k hk
  obtain ⟨_, _, e1, -, -, hck⟩ := h1.rw (by omega)
  cases e1
  have hcg := hck k hk
  clear hck
  obtain ⟨v0, hv0⟩ : ∃ v0, Hid (v0 = vs.getD k nilV) := ⟨_, hide1 rfl⟩
  rw [← hv0.out] at hown hcg
  obtain ⟨_, cgg, hcgg⟩ := own_lt h1.row (g := g) rfl
  -- blocks that the append leaves
  have keep : ∀ q c t w', w1.grownBy w' v0.ownBlock → w1.heap[q]? = some (.cells c t (0, 0)) → (t ≠ 27 ∨ q = b0) → w'.heap[q]? = w1.heap[q]? := fun q c t w' hgr hq ht => hgr.block q (Array.getElem?_eq_some_iff.1 hq).1 (fun e => by
    obtain ⟨_, c2, h2⟩ := own_lt hown e.symm
    rcases ht with ht | ht
    · exact type_ne hq h2 ht rfl
    · exact hv0b (by rw [← hv0.out, ← ht]; exact e.symm))
  have hl3 : ∀ D w', PM w1 v0.ownBlock 9 D w' → (Instr.loadAt 60 (.pointer (some ⟨tb, 0, none⟩))).run Tryd.prog w' = .ok (.slice (some ⟨g, 0, none⟩) Kn cp) w' := fun D w' hM => ld_lv ((World.cell?_of_block (w := w1) (keep tb _ _ w' hM.1 h1.cell (.inl (by decide)))).trans hc0)
  have hl6 : ∀ D w', PM w1 v0.ownBlock 9 D w' → (Instr.loadAt 22 (.pointer (some ⟨g, k, none⟩))).run Tryd.prog w' = .ok v0 w' := fun D w' hM => ld_ro ((World.cell?_of_block (w := w1) (keep g _ _ w' hM.1 hcgg (.inl (by decide)))).trans hcg)
  have hl7 : ∀ D w', PM w1 v0.ownBlock 9 D w' → (Instr.loadAt 27 (.pointer (some ⟨b0, 0, none⟩))).run Tryd.prog w' = .ok (.agg (ab 32 d)) w' := fun D w' hM => ldS 27 w' b0 ((keep b0 _ _ w' hM.1 hb0 (.inr rfl)).trans hb0)
  obtain ⟨n, hnn⟩ : ∃ n, Hid (n = (M k).length) := ⟨_, hide1 rfl⟩
  obtain ⟨X, hX⟩ : ∃ X, Hid (X = M k) := ⟨_, hide1 rfl⟩
  rw [← hnn.out, ← hX.out] at hown
  rw [← hnn.out] at hn
  replace keep := hide1 keep
  refine wp_rel3 _ _ (PU3 tb k b0 g Kn cp lo n v0 X d w1) (PM w1 v0.ownBlock 9) PU3d (by kernel_rfl) (by kernel_rfl) 11 (by kernel_rfl) ?_ ?_ rfl (⟨grown_of (Below.refl _ _).drew, fun _ => (Below.refl _ _).drew⟩) ?_ ?_
  · intro ix o ho
    match ix, ho with
    | 0, ho => obtain rfl := Option.some.inj ho; exact .inl ⟨rfl, by show 24 < 61; decide⟩
    | 1, ho => obtain rfl := Option.some.inj ho; exact .inl ⟨rfl, by show 25 < 61; decide⟩
    | 2, ho => obtain rfl := Option.some.inj ho; exact .inl ⟨rfl, by show 26 < 61; decide⟩
    | 3, ho => obtain rfl := Option.some.inj ho; exact .inl ⟨rfl, by show 27 < 61; decide⟩
    | 4, ho => obtain rfl := Option.some.inj ho; exact .inl ⟨rfl, by show 28 < 61; decide⟩
    | 5, ho => obtain rfl := Option.some.inj ho; exact .inl ⟨rfl, by show 29 < 61; decide⟩
    | 6, ho => obtain rfl := Option.some.inj ho; exact .inl ⟨rfl, by show 30 < 61; decide⟩
    | 7, ho => obtain rfl := Option.some.inj ho; exact .inl ⟨rfl, by show 31 < 61; decide⟩
    | 8, ho => obtain rfl := Option.some.inj ho; exact .inl ⟨rfl, by show 32 < 61; decide⟩
    | 9, ho => obtain rfl := Option.some.inj ho; exact .inl ⟨rfl, by show 33 < 61; decide⟩
    | 10, ho => obtain rfl := Option.some.inj ho; exact .inl ⟨rfl, by show 6 < 61; decide⟩
    | _ + 11, ho => exact absurd ho (by simp)
  · intro ix jx hi hj e; unfold PU3d at e; split at e <;> split at e <;> omega
  · intro ix o ho
    match ix, ho with
    | 0, ho =>
      obtain rfl := Option.some.inj ho
      intro D a w hM hsl hdep hDi hcl K hK
      have hp0 : a.tmps.getD 0 undef = .pointer (some ⟨tb, 0, none⟩) := hsl 0 (by intro j hj; unfold PU3d; split <;> omega)
      refine ⟨rfl, ?_⟩
      refine wp_val (w' := w) (v := .pointer (some ⟨tb, 0, none⟩)) (by simp only [execOp, Act.eval]; rw [show a.tmps.getD 0 undef = _ from hp0]; rfl) ?_
      exact hK _ _ rfl (hM.same (by decide)) (PU3_mono tb k b0 g Kn cp lo n v0 X d w1 hDi (fun _ => (Below.refl _ _)))
    | 1, ho =>
      obtain rfl := Option.some.inj ho
      intro D a w hM hsl hdep hDi hcl K hK
      have e0 := (hdep ⟨0, .data⟩ (by simp) rfl).1
      refine ⟨rfl, ?_⟩
      refine wp_val (w' := w) (v := .pointer (some ⟨tb, 0, none⟩)) (by simp only [execOp, Act.eval]; rw [show a.tmps.getD 24 undef = _ from e0]; kernel_rfl) ?_
      exact hK _ _ rfl (hM.same (by decide)) (PU3_mono tb k b0 g Kn cp lo n v0 X d w1 hDi (fun _ => (Below.refl _ _)))
    | 2, ho =>
      obtain rfl := Option.some.inj ho
      intro D a w hM hsl hdep hDi hcl K hK
      have e1 := (hdep ⟨1, .data⟩ (by simp) rfl).1
      refine ⟨rfl, ?_⟩
      refine wp_val (w' := w) (v := .pointer (some ⟨tb, 0, none⟩)) (by simp only [execOp, Act.eval]; rw [show a.tmps.getD 25 undef = _ from e1]; kernel_rfl) ?_
      exact hK _ _ rfl (hM.same (by decide)) (PU3_mono tb k b0 g Kn cp lo n v0 X d w1 hDi (fun _ => (Below.refl _ _)))
    | 3, ho =>
      obtain rfl := Option.some.inj ho
      intro D a w hM hsl hdep hDi hcl K hK
      have e2 := (hdep ⟨2, .data⟩ (by simp) rfl).1
      refine ⟨rfl, ?_⟩
      have hl := hl3 _ w hM
      refine wp_val (w' := w) (v := .slice (some ⟨g, 0, none⟩) Kn cp) (by simp only [execOp, Act.eval]; rw [show a.tmps.getD 26 undef = _ from e2]; simp only [Sem.run_bind, hl, Result.andThen_ok, Sem.run_pure]) ?_
      exact hK _ _ rfl (hM.same (by decide)) (PU3_mono tb k b0 g Kn cp lo n v0 X d w1 hDi (fun _ => (Below.refl _ _)))
    | 4, ho =>
      obtain rfl := Option.some.inj ho
      intro D a w hM hsl hdep hDi hcl K hK
      have hp1 : a.tmps.getD 1 undef = .int .i64 ((k : Nat) : Int) := hsl 1 (by intro j hj; unfold PU3d; split <;> omega)
      refine ⟨rfl, ?_⟩
      refine wp_val (w' := w) (v := .int .i64 ((k : Nat) : Int)) (by simp only [execOp, Act.eval]; rw [show a.tmps.getD 1 undef = _ from hp1]; rfl) ?_
      exact hK _ _ rfl (hM.same (by decide)) (PU3_mono tb k b0 g Kn cp lo n v0 X d w1 hDi (fun _ => (Below.refl _ _)))
    | 5, ho =>
      obtain rfl := Option.some.inj ho
      intro D a w hM hsl hdep hDi hcl K hK
      have e3 := (hdep ⟨3, .data⟩ (by simp) rfl).1
      have e4 := (hdep ⟨4, .data⟩ (by simp) rfl).1
      refine ⟨rfl, ?_⟩
      have hl := ix_lv (g := g) (K := Kn) (cap := cp) (k := k) hk w
      refine wp_val (w' := w) (v := .pointer (some ⟨g, k, none⟩)) (by simp only [execOp, Act.eval]; rw [show a.tmps.getD 27 undef = _ from e3, show a.tmps.getD 28 undef = _ from e4]; simp only [Sem.run_bind, hl, Result.andThen_ok, Sem.run_pure]) ?_
      exact hK _ _ rfl (hM.same (by decide)) (PU3_mono tb k b0 g Kn cp lo n v0 X d w1 hDi (fun _ => (Below.refl _ _)))
    | 6, ho =>
      obtain rfl := Option.some.inj ho
      intro D a w hM hsl hdep hDi hcl K hK
      have e5 := (hdep ⟨5, .data⟩ (by simp) rfl).1
      refine ⟨rfl, ?_⟩
      have hl := hl6 _ w hM
      refine wp_val (w' := w) (v := v0) (by simp only [execOp, Act.eval]; rw [show a.tmps.getD 29 undef = _ from e5]; simp only [Sem.run_bind, hl, Result.andThen_ok, Sem.run_pure]) ?_
      exact hK _ _ rfl (hM.same (by decide)) (PU3_mono tb k b0 g Kn cp lo n v0 X d w1 hDi (fun _ => (Below.refl _ _)))
    | 7, ho =>
      obtain rfl := Option.some.inj ho
      intro D a w hM hsl hdep hDi hcl K hK
      have hp5 : a.tmps.getD 5 undef = .pointer (some ⟨b0, 0, none⟩) := hsl 5 (by intro j hj; unfold PU3d; split <;> omega)
      refine ⟨rfl, ?_⟩
      have hl := hl7 _ w hM
      refine wp_val (w' := w) (v := .agg (ab 32 d)) (by simp only [execOp, Act.eval]; rw [show a.tmps.getD 5 undef = _ from hp5]; simp only [Sem.run_bind, hl, Result.andThen_ok, Sem.run_pure]) ?_
      exact hK _ _ rfl (hM.same (by decide)) (PU3_mono tb k b0 g Kn cp lo n v0 X d w1 hDi (fun _ => (Below.refl _ _)))
    | 8, ho =>
      obtain rfl := Option.some.inj ho
      intro D a w hM hsl hdep hDi hcl K hK
      have e7 := (hdep ⟨7, .data⟩ (by simp) rfl).1
      refine ⟨rfl, ?_⟩
      have hl := bs_sum d w
      refine wp_val (w' := w.alloc (.cells (ab 32 d) 27)) (v := .slice (some ⟨w.heap.size, 0, none⟩) 1 1) (by simp only [execOp, Act.eval, List.map_toArray, List.map_cons, List.map_nil]; rw [show a.tmps.getD 31 undef = _ from e7]; simp only [Sem.run_bind, hl, Result.andThen_ok, Sem.run_pure]) ?_
      exact hK _ _ (fun _ => ⟨_, rfl, World.alloc_heap_new w _⟩) (hM.grow (by decide) ((Below.refl _ _).alloc (Nat.le_refl _) _)) (PU3_mono tb k b0 g Kn cp lo n v0 X d w1 hDi (fun _ => (Below.refl _ _).alloc (Nat.le_refl _) _))
    | 9, ho =>
      obtain rfl := Option.some.inj ho
      intro D a w hM hsl hdep hDi hcl K hK
      have e6 := (hdep ⟨6, .data⟩ (by simp) rfl).1
      have e8 := (hdep ⟨8, .data⟩ (by simp) rfl).1
      refine ⟨rfl, ?_⟩
      have hbw := hM.2 hDi
      obtain ⟨gb, eg, hgb⟩ := e8 hDi
      refine oper_put (.tmp 30) (.tmp 32) rfl w1 lo v0 n X (show a.tmps.getD 30 undef = _ from e6) (own_later hown hbw) (show a.tmps.getD 32 undef = _ from eg) hgb (by omega) (Nat.le_trans hlo hbw.size) hbw fun v' w' ho' => ?_
      exact hK _ _ ⟨add1_eq, ho'⟩ ⟨ho'.gr, fun e => by rw [add1_eq] at e; cases e⟩ (PU3_mono tb k b0 g Kn cp lo n v0 X d w1 hDi (fun h => absurd rfl h))
    | 10, ho =>
      obtain rfl := Option.some.inj ho
      intro D a w hM hsl hdep hDi hcl K hK
      have e9 := (hdep ⟨9, .data⟩ (by simp) rfl).1
      refine ⟨rfl, ?_⟩
      refine wp_val (w' := w) (v := a.tmps.getD 33 undef) (by simp only [execOp, Act.eval]; rfl) ?_
      exact hK _ _ ⟨by rw [add1_ne (by decide)]; exact e9.1, e9.2⟩ (hM.same (by decide)) (PU3_mono tb k b0 g Kn cp lo n v0 X d w1 hDi (fun _ => (Below.refl _ _)))
    | _ + 11, ho => exact absurd ho (by simp)
  · intro D a u hall hd' hs hM hsl hr
    obtain ⟨tm, df⟩ := a
    obtain rfl : df = [] := hd'
    have t0 : tm.getD 0 undef = .pointer (some ⟨tb, 0, none⟩) := hsl 0 (by intro j hj; unfold PU3d; split <;> omega)
    have t1 : tm.getD 1 undef = .int .i64 ((k : Nat) : Int) := hsl 1 (by intro j hj; unfold PU3d; split <;> omega)
    obtain ⟨-, hPB⟩ := hr 10 (by decide)
    replace hPB : PutA w1 lo v0 n (X ++ [d]) (tm.getD 6 undef) u := hPB
    obtain ⟨v', t6⟩ : ∃ v', tm.getD 6 undef = v' := ⟨_, rfl⟩
    rw [t6] at hPB
    obtain ⟨h5, hb5⟩ := h1.put hk hd (by have h := hPB; rw [hv0.out, hnn.out, hX.out] at h; exact h)
    replace hb5 := hb01.trans hb5
    obtain ⟨g2, c2, rfl⟩ := ownsRow_succ hPB.row
    have hcg5 := (World.cell?_of_block (w := w1) (keep.out g _ _ u hPB.gr hcgg (.inl (by decide)))).trans hcg
    have hc05 := (World.cell?_of_block (w := w1) (keep.out tb _ _ u hPB.gr h1.cell (.inl (by decide)))).trans hc0
    have hfr : u.frozen? ⟨g, k, none⟩ = false := (World.frozen?_of_block (w := w1) (keep.out g _ _ u hPB.gr hcgg (.inl (by decide)))).trans (by simp [World.frozen?, hcgg])
    replace hs : tm.size = 61 := hs
    have htm := tm_all tm (n := 61) hs
    obtain ⟨xx, hxx⟩ : ∃ x : Nat → Value, ∀ i, x i = tm.getD i undef := ⟨_, fun _ => rfl⟩
    replace htm : tm = ((.pointer (some ⟨tb, 0, none⟩)) :: (.int .i64 ((k : Nat) : Int)) :: (xx 2) :: (xx 3) :: (xx 4) :: (xx 5) :: (.slice (some ⟨g2, 0, none⟩) (n + 1) c2) :: (xx 7) :: (xx 8) :: (xx 9) :: (xx 10) :: (xx 11) :: (xx 12) :: (xx 13) :: (xx 14) :: (xx 15) :: (xx 16) :: (xx 17) :: (xx 18) :: (xx 19) :: (xx 20) :: (xx 21) :: (xx 22) :: (xx 23) :: (xx 24) :: (xx 25) :: (xx 26) :: (xx 27) :: (xx 28) :: (xx 29) :: (xx 30) :: (xx 31) :: (xx 32) :: (xx 33) :: (xx 34) :: (xx 35) :: (xx 36) :: (xx 37) :: (xx 38) :: (xx 39) :: (xx 40) :: (xx 41) :: (xx 42) :: (xx 43) :: (xx 44) :: (xx 45) :: (xx 46) :: (xx 47) :: (xx 48) :: (xx 49) :: (xx 50) :: (xx 51) :: (xx 52) :: (xx 53) :: (xx 54) :: (xx 55) :: (xx 56) :: (xx 57) :: (xx 58) :: (xx 59) :: (xx 60) :: []).toArray := by
      refine htm.trans ?_
      show ((tm.getD 0 undef) :: (tm.getD 1 undef) :: (tm.getD 2 undef) :: (tm.getD 3 undef) :: (tm.getD 4 undef) :: (tm.getD 5 undef) :: (tm.getD 6 undef) :: (tm.getD 7 undef) :: (tm.getD 8 undef) :: (tm.getD 9 undef) :: (tm.getD 10 undef) :: (tm.getD 11 undef) :: (tm.getD 12 undef) :: (tm.getD 13 undef) :: (tm.getD 14 undef) :: (tm.getD 15 undef) :: (tm.getD 16 undef) :: (tm.getD 17 undef) :: (tm.getD 18 undef) :: (tm.getD 19 undef) :: (tm.getD 20 undef) :: (tm.getD 21 undef) :: (tm.getD 22 undef) :: (tm.getD 23 undef) :: (tm.getD 24 undef) :: (tm.getD 25 undef) :: (tm.getD 26 undef) :: (tm.getD 27 undef) :: (tm.getD 28 undef) :: (tm.getD 29 undef) :: (tm.getD 30 undef) :: (tm.getD 31 undef) :: (tm.getD 32 undef) :: (tm.getD 33 undef) :: (tm.getD 34 undef) :: (tm.getD 35 undef) :: (tm.getD 36 undef) :: (tm.getD 37 undef) :: (tm.getD 38 undef) :: (tm.getD 39 undef) :: (tm.getD 40 undef) :: (tm.getD 41 undef) :: (tm.getD 42 undef) :: (tm.getD 43 undef) :: (tm.getD 44 undef) :: (tm.getD 45 undef) :: (tm.getD 46 undef) :: (tm.getD 47 undef) :: (tm.getD 48 undef) :: (tm.getD 49 undef) :: (tm.getD 50 undef) :: (tm.getD 51 undef) :: (tm.getD 52 undef) :: (tm.getD 53 undef) :: (tm.getD 54 undef) :: (tm.getD 55 undef) :: (tm.getD 56 undef) :: (tm.getD 57 undef) :: (tm.getD 58 undef) :: (tm.getD 59 undef) :: (tm.getD 60 undef) :: []).toArray = _
      rw [t0, t1, t6]
      simp only [hxx]
    subst htm
    clear hxx hs hsl hr
    refine (‹∀ (a : Act) (w : World), Code.wp Tryd.prog _ _ a w → _›) _ u ?_
    clear keep hl3 hl6 hl7 hM hall t0 t1 t6
    rcases Nat.mod_two_eq_zero_or_one n with hpar | hpar
    · have hJ5 := hide1 (hodd (by rw [← hnn.out]; exact hpar) _ _ _ h5 hb5)
      have hr1 : ((n : Int) + 1) % 2 = 1 := by omega
      have hr2 : ((n : Int) + 1).tmod 2 = 1 := by rw [Int.tmod_eq_emod_of_nonneg (by omega)]; omega
      clear h5 hb5 hPB hev hodd
      go_wp2
      exact bodyPost_end (results_none rfl _ _ _) rfl ⟨rfl, hJ5.out⟩
    · have hr1 : ((n : Int) + 1) % 2 = 0 := by omega
      have hr2 : ((n : Int) + 1).tmod 2 = 0 := by rw [Int.tmod_eq_emod_of_nonneg (by omega)]; omega
      replace h5 := hide1 h5
      replace hb5 := hide1 hb5
      go_upto_region 7 with fail
      have hl7 : vs.length = Kn := by have := h1.row.1; omega
      have hw5 := h5.out
      have hbw5 := hb5.out
      have hput := hev (by rw [← hnn.out]; exact hpar)
      have hrow5 := hw5.lev k hk
      rw [getD_set (by omega), if_pos rfl] at hrow5
      unfold updM at hrow5
      rw [if_pos rfl] at hrow5
      have hlt5 : ∀ F ∈ M k ++ [d], ∀ j, F j < 256 := fun F hF j => by
        rcases List.mem_append.1 hF with hF | hF
        · exact h1.lt k F hk hF j
        · rw [List.mem_singleton.1 hF]; exact hd j
      have hln5 : (M k ++ [d]).length = n + 1 := by rw [List.length_append, List.length_singleton, ← hnn.out]
      rw [hln5] at hrow5
      obtain ⟨_, _, e5, hS5, -⟩ := ss_own hlt5 hln5 hrow5
      cases e5
      have hgl5 := gl_lo hg hbw5.b hgo
      rw [← hnn.out] at hput
      obtain ⟨x, hx⟩ : ∃ x, Hid (x = (M k).getD (n - 1) fun _ => 0) := ⟨_, hide1 rfl⟩
      rw [← hx.out] at hput
      have hx1 : (M k)[n - 1]? = some x := by rw [hx.out, List.getD_eq_getElem?_getD, List.getElem?_eq_getElem (by rw [← hnn.out]; omega)]; rfl
      have hxl : ∀ j, x j < 256 := h1.lt k x hk (List.mem_of_getElem? hx1)
      replace hput := fun w' (hb : Below _ _ w') => hput w' _ _ (hw5.later hb) (hbw5.trans (Bm.of hb (Nat.le_trans hw5.tl (Nat.le_of_lt (Array.getElem?_eq_some_iff.1 hw5.cell).1))))
      clear h5 hb5 hrow5 hcg5 hc05 hfr hPB hev hodd
      generalize u.setCell ⟨g, k, none⟩ (.slice (some ⟨g2, 0, none⟩) (n + 1) c2) = w5 at *
      have hlx : ∀ w', Below w5.heap.size w5 w' → (Instr.loadAt 27 (.pointer (some ⟨g2, 0 + 32 * (n + 1 - 2), none⟩))).run Tryd.prog w' = .ok (.agg (ab 32 x)) w' := fun w' hb => by
        rw [ld_ss (hS5.later hb) (i := n + 1 - 2) (by rw [hln5]; omega)]
        have : (M k ++ [d])[n + 1 - 2]? = some x := by rw [List.getElem?_append_left (by rw [← hnn.out]; omega), show n + 1 - 2 = n - 1 by omega]; exact hx1
        rw [List.getElem?_eq_getElem (by rw [hln5]; omega)] at this
        rw [Option.some.inj this]
      have hly : ∀ w', Below w5.heap.size w5 w' → (Instr.loadAt 27 (.pointer (some ⟨g2, 0 + 32 * (n + 1 - 1), none⟩))).run Tryd.prog w' = .ok (.agg (ab 32 d)) w' := fun w' hb => by
        rw [ld_ss (hS5.later hb) (i := n + 1 - 1) (by rw [hln5]; omega)]
        have : (M k ++ [d])[n + 1 - 1]? = some d := by rw [List.getElem?_append_right (by rw [← hnn.out]; omega), ← hnn.out, show n + 1 - 1 - n = 0 by omega]; rfl
        rw [List.getElem?_eq_getElem (by rw [hln5]; omega)] at this
        rw [Option.some.inj this]
      have hnd := fun w' (hb : Below w5.heap.size w5 w') => node_d (gl_b hgl5 hb) hxl hd
      have hk7 : k ≤ 1000000000 := by omega
      refine wp_rel3 _ _ (PU7 tb k g2 (n + 1) c2 x d J) (QM w5 14) PU7d (by kernel_rfl) (by kernel_rfl) 15 (by kernel_rfl) ?_ ?_ rfl (fun _ => (Below.refl _ _).drew) ?_ ?_
      · intro ix o ho
        match ix, ho with
        | 0, ho => obtain rfl := Option.some.inj ho; exact .inl ⟨rfl, by show 46 < 61; decide⟩
        | 1, ho => obtain rfl := Option.some.inj ho; exact .inl ⟨rfl, by show 47 < 61; decide⟩
        | 2, ho => obtain rfl := Option.some.inj ho; exact .inl ⟨rfl, by show 48 < 61; decide⟩
        | 3, ho => obtain rfl := Option.some.inj ho; exact .inl ⟨rfl, by show 49 < 61; decide⟩
        | 4, ho => obtain rfl := Option.some.inj ho; exact .inl ⟨rfl, by show 50 < 61; decide⟩
        | 5, ho => obtain rfl := Option.some.inj ho; exact .inl ⟨rfl, by show 51 < 61; decide⟩
        | 6, ho => obtain rfl := Option.some.inj ho; exact .inl ⟨rfl, by show 52 < 61; decide⟩
        | 7, ho => obtain rfl := Option.some.inj ho; exact .inl ⟨rfl, by show 53 < 61; decide⟩
        | 8, ho => obtain rfl := Option.some.inj ho; exact .inl ⟨rfl, by show 54 < 61; decide⟩
        | 9, ho => obtain rfl := Option.some.inj ho; exact .inl ⟨rfl, by show 55 < 61; decide⟩
        | 10, ho => obtain rfl := Option.some.inj ho; exact .inl ⟨rfl, by show 56 < 61; decide⟩
        | 11, ho => obtain rfl := Option.some.inj ho; exact .inl ⟨rfl, by show 57 < 61; decide⟩
        | 12, ho => obtain rfl := Option.some.inj ho; exact .inl ⟨rfl, by show 58 < 61; decide⟩
        | 13, ho => obtain rfl := Option.some.inj ho; exact .inl ⟨rfl, by show 59 < 61; decide⟩
        | 14, ho => obtain rfl := Option.some.inj ho; exact .inl ⟨rfl, by show 60 < 61; decide⟩
        | _ + 15, ho => exact absurd ho (by simp)
      · intro ix jx hi hj e; unfold PU7d at e; split at e <;> split at e <;> omega
      · intro ix o ho
        match ix, ho with
        | 0, ho =>
          obtain rfl := Option.some.inj ho
          intro D a w hM hsl hdep hDi hcl K hK
          have hp0 : a.tmps.getD 0 undef = .pointer (some ⟨tb, 0, none⟩) := hsl 0 (by intro j hj; unfold PU7d; split <;> omega)
          refine ⟨rfl, ?_⟩
          refine wp_val (w' := w) (v := .pointer (some ⟨tb, 0, none⟩)) (by simp only [execOp, Act.eval]; rw [show a.tmps.getD 0 undef = _ from hp0]; rfl) ?_
          exact hK _ _ rfl (hM.same (by decide)) (PU7_mono tb k g2 (n + 1) c2 x d J hDi (fun _ => (Below.refl _ _)))
        | 1, ho =>
          obtain rfl := Option.some.inj ho
          intro D a w hM hsl hdep hDi hcl K hK
          have hp1 : a.tmps.getD 1 undef = .int .i64 ((k : Nat) : Int) := hsl 1 (by intro j hj; unfold PU7d; split <;> omega)
          refine ⟨rfl, ?_⟩
          refine wp_val (w' := w) (v := .int .i64 ((k : Nat) : Int)) (by simp only [execOp, Act.eval]; rw [show a.tmps.getD 1 undef = _ from hp1]; rfl) ?_
          exact hK _ _ rfl (hM.same (by decide)) (PU7_mono tb k g2 (n + 1) c2 x d J hDi (fun _ => (Below.refl _ _)))
        | 2, ho =>
          obtain rfl := Option.some.inj ho
          intro D a w hM hsl hdep hDi hcl K hK
          have e1 := (hdep ⟨1, .data⟩ (by simp) rfl).1
          refine ⟨rfl, ?_⟩
          have hl := add_n1 (x := .tmp 47) (u := .const (.int .i64 1)) hk7 w
          refine wp_val (w' := w) (v := .int .i64 ((k + 1 : Nat) : Int)) (by simp only [execOp, Act.eval]; rw [show a.tmps.getD 47 undef = _ from e1]; simp only [Sem.run_bind, hl, Result.andThen_ok, Sem.run_pure]) ?_
          exact hK _ _ rfl (hM.same (by decide)) (PU7_mono tb k g2 (n + 1) c2 x d J hDi (fun _ => (Below.refl _ _)))
        | 3, ho =>
          obtain rfl := Option.some.inj ho
          intro D a w hM hsl hdep hDi hcl K hK
          have hp6 : a.tmps.getD 6 undef = .slice (some ⟨g2, 0, none⟩) (n + 1) c2 := hsl 6 (by intro j hj; unfold PU7d; split <;> omega)
          refine ⟨rfl, ?_⟩
          refine wp_val (w' := w) (v := .slice (some ⟨g2, 0, none⟩) (n + 1) c2) (by simp only [execOp, Act.eval]; rw [show a.tmps.getD 6 undef = _ from hp6]; rfl) ?_
          exact hK _ _ rfl (hM.same (by decide)) (PU7_mono tb k g2 (n + 1) c2 x d J hDi (fun _ => (Below.refl _ _)))
        | 4, ho =>
          obtain rfl := Option.some.inj ho
          intro D a w hM hsl hdep hDi hcl K hK
          have hp7 : a.tmps.getD 7 undef = .int .i64 ((n + 1 : Nat) : Int) := hsl 7 (by intro j hj; unfold PU7d; split <;> omega)
          refine ⟨rfl, ?_⟩
          refine wp_val (w' := w) (v := .int .i64 ((n + 1 : Nat) : Int)) (by simp only [execOp, Act.eval]; rw [show a.tmps.getD 7 undef = _ from hp7]; rfl) ?_
          exact hK _ _ rfl (hM.same (by decide)) (PU7_mono tb k g2 (n + 1) c2 x d J hDi (fun _ => (Below.refl _ _)))
        | 5, ho =>
          obtain rfl := Option.some.inj ho
          intro D a w hM hsl hdep hDi hcl K hK
          have e4 := (hdep ⟨4, .data⟩ (by simp) rfl).1
          refine ⟨rfl, ?_⟩
          have hl := sub_2 (x := .tmp 50) (u := .const (.int .i64 2)) (m := (n + 1)) (by omega) (by omega) w
          refine wp_val (w' := w) (v := .int .i64 (((n + 1) - 2 : Nat) : Int)) (by simp only [execOp, Act.eval]; rw [show a.tmps.getD 50 undef = _ from e4]; simp only [Sem.run_bind, hl, Result.andThen_ok, Sem.run_pure]) ?_
          exact hK _ _ rfl (hM.same (by decide)) (PU7_mono tb k g2 (n + 1) c2 x d J hDi (fun _ => (Below.refl _ _)))
        | 6, ho =>
          obtain rfl := Option.some.inj ho
          intro D a w hM hsl hdep hDi hcl K hK
          have e3 := (hdep ⟨3, .data⟩ (by simp) rfl).1
          have e5 := (hdep ⟨5, .data⟩ (by simp) rfl).1
          refine ⟨rfl, ?_⟩
          have hl := ix_ss (b := g2) (off := 0) (n := (n + 1)) (cap := c2) (i := (n + 1) - 2) (by omega) w
          refine wp_val (w' := w) (v := .pointer (some ⟨g2, 0 + 32 * ((n + 1) - 2), none⟩)) (by simp only [execOp, Act.eval]; rw [show a.tmps.getD 49 undef = _ from e3, show a.tmps.getD 51 undef = _ from e5]; simp only [Sem.run_bind, hl, Result.andThen_ok, Sem.run_pure]) ?_
          exact hK _ _ rfl (hM.same (by decide)) (PU7_mono tb k g2 (n + 1) c2 x d J hDi (fun _ => (Below.refl _ _)))
        | 7, ho =>
          obtain rfl := Option.some.inj ho
          intro D a w hM hsl hdep hDi hcl K hK
          have hD14 : D 14 = false := by
            rcases Bool.eq_false_or_eq_true (D 14) with h | h
            · have h13 := hcl 14 _ rfl h ⟨13, .data⟩ (by simp) rfl
              have hq := hcl 13 _ rfl h13 ⟨7, .data⟩ (by simp) rfl
              rw [hDi] at hq; cases hq
            · exact h
          have e6 := (hdep ⟨6, .data⟩ (by simp) rfl).1
          refine ⟨rfl, ?_⟩
          have hl := hlx w (hM hD14)
          refine wp_val (w' := w) (v := .agg (ab 32 x)) (by simp only [execOp, Act.eval]; rw [show a.tmps.getD 52 undef = _ from e6]; simp only [Sem.run_bind, hl, Result.andThen_ok, Sem.run_pure]) ?_
          exact hK _ _ rfl (hM.same (by decide)) (PU7_mono tb k g2 (n + 1) c2 x d J hDi (fun _ => (Below.refl _ _)))
        | 8, ho =>
          obtain rfl := Option.some.inj ho
          intro D a w hM hsl hdep hDi hcl K hK
          have hp6 : a.tmps.getD 6 undef = .slice (some ⟨g2, 0, none⟩) (n + 1) c2 := hsl 6 (by intro j hj; unfold PU7d; split <;> omega)
          refine ⟨rfl, ?_⟩
          refine wp_val (w' := w) (v := .slice (some ⟨g2, 0, none⟩) (n + 1) c2) (by simp only [execOp, Act.eval]; rw [show a.tmps.getD 6 undef = _ from hp6]; rfl) ?_
          exact hK _ _ rfl (hM.same (by decide)) (PU7_mono tb k g2 (n + 1) c2 x d J hDi (fun _ => (Below.refl _ _)))
        | 9, ho =>
          obtain rfl := Option.some.inj ho
          intro D a w hM hsl hdep hDi hcl K hK
          have hp7 : a.tmps.getD 7 undef = .int .i64 ((n + 1 : Nat) : Int) := hsl 7 (by intro j hj; unfold PU7d; split <;> omega)
          refine ⟨rfl, ?_⟩
          refine wp_val (w' := w) (v := .int .i64 ((n + 1 : Nat) : Int)) (by simp only [execOp, Act.eval]; rw [show a.tmps.getD 7 undef = _ from hp7]; rfl) ?_
          exact hK _ _ rfl (hM.same (by decide)) (PU7_mono tb k g2 (n + 1) c2 x d J hDi (fun _ => (Below.refl _ _)))
        | 10, ho =>
          obtain rfl := Option.some.inj ho
          intro D a w hM hsl hdep hDi hcl K hK
          have e9 := (hdep ⟨9, .data⟩ (by simp) rfl).1
          refine ⟨rfl, ?_⟩
          have hl := sub_1 (x := .tmp 55) (u := .const (.int .i64 1)) (m := (n + 1)) (by omega) (by omega) w
          refine wp_val (w' := w) (v := .int .i64 (((n + 1) - 1 : Nat) : Int)) (by simp only [execOp, Act.eval]; rw [show a.tmps.getD 55 undef = _ from e9]; simp only [Sem.run_bind, hl, Result.andThen_ok, Sem.run_pure]) ?_
          exact hK _ _ rfl (hM.same (by decide)) (PU7_mono tb k g2 (n + 1) c2 x d J hDi (fun _ => (Below.refl _ _)))
        | 11, ho =>
          obtain rfl := Option.some.inj ho
          intro D a w hM hsl hdep hDi hcl K hK
          have e8 := (hdep ⟨8, .data⟩ (by simp) rfl).1
          have e10 := (hdep ⟨10, .data⟩ (by simp) rfl).1
          refine ⟨rfl, ?_⟩
          have hl := ix_ss (b := g2) (off := 0) (n := (n + 1)) (cap := c2) (i := (n + 1) - 1) (by omega) w
          refine wp_val (w' := w) (v := .pointer (some ⟨g2, 0 + 32 * ((n + 1) - 1), none⟩)) (by simp only [execOp, Act.eval]; rw [show a.tmps.getD 54 undef = _ from e8, show a.tmps.getD 56 undef = _ from e10]; simp only [Sem.run_bind, hl, Result.andThen_ok, Sem.run_pure]) ?_
          exact hK _ _ rfl (hM.same (by decide)) (PU7_mono tb k g2 (n + 1) c2 x d J hDi (fun _ => (Below.refl _ _)))
        | 12, ho =>
          obtain rfl := Option.some.inj ho
          intro D a w hM hsl hdep hDi hcl K hK
          have hD14 : D 14 = false := by
            rcases Bool.eq_false_or_eq_true (D 14) with h | h
            · have h13 := hcl 14 _ rfl h ⟨13, .data⟩ (by simp) rfl
              have hq := hcl 13 _ rfl h13 ⟨12, .data⟩ (by simp) rfl
              rw [hDi] at hq; cases hq
            · exact h
          have e11 := (hdep ⟨11, .data⟩ (by simp) rfl).1
          refine ⟨rfl, ?_⟩
          have hl := hly w (hM hD14)
          refine wp_val (w' := w) (v := .agg (ab 32 d)) (by simp only [execOp, Act.eval]; rw [show a.tmps.getD 57 undef = _ from e11]; simp only [Sem.run_bind, hl, Result.andThen_ok, Sem.run_pure]) ?_
          exact hK _ _ rfl (hM.same (by decide)) (PU7_mono tb k g2 (n + 1) c2 x d J hDi (fun _ => (Below.refl _ _)))
        | 13, ho =>
          obtain rfl := Option.some.inj ho
          intro D a w hM hsl hdep hDi hcl K hK
          have hD14 : D 14 = false := by
            rcases Bool.eq_false_or_eq_true (D 14) with h | h
            · have h13 := hcl 14 _ rfl h ⟨13, .data⟩ (by simp) rfl
              rw [hDi] at h13; cases h13
            · exact h
          have e7 := (hdep ⟨7, .data⟩ (by simp) rfl).1
          have e12 := (hdep ⟨12, .data⟩ (by simp) rfl).1
          refine ⟨rfl, ?_⟩
          refine oper_callg 45 #[.tmp 53, .tmp 58] _ rfl #[.agg (ab 32 x), .agg (ab 32 d)] (by simp only [List.map_toArray, List.map_cons, List.map_nil, Act.eval]; rw [show a.tmps.getD 53 undef = _ from e7, show a.tmps.getD 58 undef = _ from e12]) (fun w => by kernel_rfl) (hnd w (hM hD14)) fun w' hb => ?_
          exact hK _ _ rfl (hM.grow (by decide) hb) (PU7_mono tb k g2 (n + 1) c2 x d J hDi (fun _ => hb))
        | 14, ho =>
          obtain rfl := Option.some.inj ho
          intro D a w hM hsl hdep hDi hcl K hK
          have e0 := (hdep ⟨0, .data⟩ (by simp) rfl).1
          have e2 := (hdep ⟨2, .data⟩ (by simp) rfl).1
          have e13 := (hdep ⟨13, .data⟩ (by simp) rfl).1
          refine ⟨rfl, ?_⟩
          refine oper_any 31 #[.tmp 46, .tmp 48, .tmp 59] _ rfl #[.pointer (some ⟨tb, 0, none⟩), .int .i64 ((k + 1 : Nat) : Int), .agg (ab 32 (nd x d))] (by simp only [List.map_toArray, List.map_cons, List.map_nil, Act.eval]; rw [show a.tmps.getD 46 undef = _ from e0, show a.tmps.getD 48 undef = _ from e2, show a.tmps.getD 59 undef = _ from e13]) (fun w => by kernel_rfl) (hput w (hM hDi)) fun r w' hj => ?_
          exact hK _ _ ⟨add1_eq, _, hj, Below.refl _ _⟩ (fun e => by rw [add1_eq] at e; cases e) (PU7_mono tb k g2 (n + 1) c2 x d J hDi (fun h => absurd rfl h))
        | _ + 15, ho => exact absurd ho (by simp)
      · intro D a u hall hd' hs hM hsl hr
        obtain ⟨-, w0, hJ0, hb0⟩ := hr 14 (by decide)
        exact bodyPost_end (results_none rfl _ _ _) hd' ⟨rfl, hJ _ _ hJ0 hb0⟩
set_option maxHeartbeats 4000000 in
set_option maxRecDepth 100000 in
theorem put_new {w : World} {lo tb k : Nat} {mv lv : Value} {M : Nat → List (Nat → Nat)} {vss : List Value} {d : Nat → Nat} (h : LvAt q w lo tb mv k M lv vss) (hMk : M k = []) (hd : ∀ j, d j < 256) (hg : Gl w) (hgo : GlLo lo) (hk6 : k < 64) {J : World → Prop} (hJ : ∀ w w', J w → Below w.heap.size w w' → J w')
    (hodd : (M k).length % 2 = 0 → ∀ w' lv' vs', LvAt q w' lo tb mv (k + 1) (updM M k (M k ++ [d])) lv' vs' → Bm q lo w w' → J w') :
    Calls Tryd.prog 31 #[.pointer (some ⟨tb, 0, none⟩), .int .i64 ((k : Nat) : Int), .agg (ab 32 d)] w fun e w' => e = .returned (.tuple #[]) ∧ J w' := by
  have hlo0 : lo ≤ w.heap.size := Nat.le_trans h.tl (Nat.le_of_lt (Array.getElem?_eq_some_iff.1 h.cell).1)
  have hal : Below w.heap.size w (w.alloc (.cells (ab 32 d) 27)) := (Below.refl _ _).alloc (Nat.le_refl _) _
  have hA1 := h.later hal
  have hb0A : (w.alloc (.cells (ab 32 d) 27)).heap[w.heap.size]? = some (.cells (ab 32 d) 27 (0, 0)) := (MapKept.heap_alloc w _).1
  obtain ⟨A, hA⟩ : ∃ A, Hid (A = ab 32 d) := ⟨_, hide1 rfl⟩
  have bxA : ∀ w : World, (Instr.box 27 (.agg A)).run Tryd.prog w = .ok (.pointer (some ⟨w.heap.size, 0, none⟩)) (w.alloc (.cells A 27)) := fun w => bx_agg w
  have hloA : lo ≤ (w.alloc (.cells (ab 32 d) 27)).heap.size := Nat.le_trans hlo0 hal.size
  have hcA := hA1.c0
  have hb0l : Bm q lo w (w.alloc (.cells (ab 32 d) 27)) := Bm.of hal hlo0
  obtain ⟨aa, ccp, rfl⟩ : ∃ a cap, lv = .slice a k cap := by
    rcases h.row.2 with ⟨e1, e2⟩ | ⟨g, cap, cur, e, _⟩
    · exact ⟨none, 0, by rw [e1, e2]⟩
    · exact ⟨_, _, e⟩
  obtain ⟨b0, hb00⟩ : ∃ b0, Hid (b0 = w.heap.size) := ⟨_, hide1 rfl⟩
  have hbl : b0 < (w.alloc (.cells (ab 32 d) 27)).heap.size := by rw [hb00.out]; simp
  rw [← hb00.out] at hb0A
  rw [← hA.out] at hA1 hb0A hloA hcA hb0l hbl
  rw [← hA.out]
  go_enter Tryd.func31, Tryd.ntmps31
  go_upto_region 2 with fail
  generalize w.alloc (.cells A 27) = wA at hA1 hb0A hloA hcA hb0l hbl ⊢
  rw [← hb00.out]
  clear bxA hal
  rw [hA.out] at hb0A ⊢
  have halB : Below wA.heap.size wA (wA.alloc (.cells #[nilV] 22)) := (Below.refl _ _).alloc (Nat.le_refl _) _
  have hB1 := hA1.later halB
  have hcB := hB1.c0
  have hb0B := (halB.block b0 hbl).trans hb0A
  have hloB : lo ≤ (wA.alloc (.cells #[nilV] 22)).heap.size := Nat.le_trans hloA halB.size
  have hbB : Bm q lo w (wA.alloc (.cells #[nilV] 22)) := hb0l.trans (Bm.of halB hloA)
  have hnB : (wA.alloc (.cells #[nilV] 22)).heap[wA.heap.size]? = some (.cells #[nilV] 22 (0, 0)) := (MapKept.heap_alloc wA _).1
  have hfB : wA.heap.size = wA.heap.size := rfl
  go_upto_region 3 with (at_builtin; refine wpList_append_lv rfl (.tmp 19) (.tmp 20) rfl lo (.slice aa k ccp) k vss rfl hB1.row rfl hnB (by omega) hloB ?_
                         intro v1 wC hoC hgC hobC
                         obtain ⟨g, cp, rfl⟩ := ownsRow_succ hoC
                         have hLC := LvAt.more hB1 hMk hoC hgC hobC
                         have hcC := hLC.1
                         have hfC := hLC.2.1
                         have hb0C := hLC.2.2.2.2 b0 hb0B (Nat.lt_of_lt_of_le hbl halB.size)
                         have hbC := hbB.trans hLC.2.2.2.1
                         have h1 := hLC.2.2.1
                         clear hLC hoC hgC hobC)
  generalize wC.setCell ⟨tb, 0, none⟩ (.slice (some ⟨g, 0, none⟩) (k + 1) cp) = w1 at h1 hb0C hbC ⊢
  have hb0 := hb0C
  have hb01 := hbC
  obtain ⟨Kn, hKn1⟩ : ∃ Kn, Hid (Kn = k + 1) := ⟨_, hide1 rfl⟩
  rw [← hKn1.out] at h1 hodd
  have hev : (M k).length % 2 = 1 → ∀ w' lv' vs', LvAt q w' lo tb mv Kn (updM M k (M k ++ [d])) lv' vs' → Bm q lo w w' → Calls Tryd.prog 31 #[.pointer (some ⟨tb, 0, none⟩), .int .i64 ((k + 1 : Nat) : Int), .agg (ab 32 (nd ((M k).getD ((M k).length - 1) fun _ => 0) d))] w' fun e w'' => ∃ r, e = .returned r ∧ J w'' := fun e => by rw [hMk] at e; cases e
  have hk : k < Kn := by rw [hKn1.out]; omega
  have hKn : Kn ≤ 64 := by rw [hKn1.out]; omega
  have hc0 := h1.c0
  have hlo : lo ≤ w1.heap.size := Nat.le_trans h1.tl (Nat.le_of_lt (Array.getElem?_eq_some_iff.1 h1.cell).1)
  have hgl : Gl w1 := gl_lo hg hb01.b hgo
  have hn : (M k).length ≤ 1048576 := by rw [hMk]; exact Nat.zero_le _
  have hv0b : ((vss ++ [nilV]).getD k nilV).ownBlock ≠ some b0 := by
    have hl : vss.length = k := by have := h.row.1; omega
    rw [List.getD_eq_getElem?_getD, List.getElem?_append_right (by omega), hl, Nat.sub_self]
    exact fun e => by cases e
  generalize vss ++ [nilV] = vs at h1 hv0b
  have hown := h1.lev k hk
  obtain ⟨_, _, e1, -, -, hck⟩ := h1.rw (by omega)
  cases e1
  have hcg := hck k hk
  clear hck
  obtain ⟨v0, hv0⟩ : ∃ v0, Hid (v0 = vs.getD k nilV) := ⟨_, hide1 rfl⟩
  rw [← hv0.out] at hown hcg
  obtain ⟨_, cgg, hcgg⟩ := own_lt h1.row (g := g) rfl
  -- blocks that the append leaves
  have keep : ∀ q c t w', w1.grownBy w' v0.ownBlock → w1.heap[q]? = some (.cells c t (0, 0)) → (t ≠ 27 ∨ q = b0) → w'.heap[q]? = w1.heap[q]? := fun q c t w' hgr hq ht => hgr.block q (Array.getElem?_eq_some_iff.1 hq).1 (fun e => by
    obtain ⟨_, c2, h2⟩ := own_lt hown e.symm
    rcases ht with ht | ht
    · exact type_ne hq h2 ht rfl
    · exact hv0b (by rw [← hv0.out, ← ht]; exact e.symm))
  have hl3 : ∀ D w', PM w1 v0.ownBlock 9 D w' → (Instr.loadAt 60 (.pointer (some ⟨tb, 0, none⟩))).run Tryd.prog w' = .ok (.slice (some ⟨g, 0, none⟩) Kn cp) w' := fun D w' hM => ld_lv ((World.cell?_of_block (w := w1) (keep tb _ _ w' hM.1 h1.cell (.inl (by decide)))).trans hc0)
  have hl6 : ∀ D w', PM w1 v0.ownBlock 9 D w' → (Instr.loadAt 22 (.pointer (some ⟨g, k, none⟩))).run Tryd.prog w' = .ok v0 w' := fun D w' hM => ld_ro ((World.cell?_of_block (w := w1) (keep g _ _ w' hM.1 hcgg (.inl (by decide)))).trans hcg)
  have hl7 : ∀ D w', PM w1 v0.ownBlock 9 D w' → (Instr.loadAt 27 (.pointer (some ⟨b0, 0, none⟩))).run Tryd.prog w' = .ok (.agg (ab 32 d)) w' := fun D w' hM => ldS 27 w' b0 ((keep b0 _ _ w' hM.1 hb0 (.inr rfl)).trans hb0)
  obtain ⟨n, hnn⟩ : ∃ n, Hid (n = (M k).length) := ⟨_, hide1 rfl⟩
  obtain ⟨X, hX⟩ : ∃ X, Hid (X = M k) := ⟨_, hide1 rfl⟩
  rw [← hnn.out, ← hX.out] at hown
  rw [← hnn.out] at hn
  replace keep := hide1 keep
  refine wp_rel3 _ _ (PU3 tb k b0 g Kn cp lo n v0 X d w1) (PM w1 v0.ownBlock 9) PU3d (by kernel_rfl) (by kernel_rfl) 11 (by kernel_rfl) ?_ ?_ rfl (⟨grown_of (Below.refl _ _).drew, fun _ => (Below.refl _ _).drew⟩) ?_ ?_
  · intro ix o ho
    match ix, ho with
    | 0, ho => obtain rfl := Option.some.inj ho; exact .inl ⟨rfl, by show 24 < 61; decide⟩
    | 1, ho => obtain rfl := Option.some.inj ho; exact .inl ⟨rfl, by show 25 < 61; decide⟩
    | 2, ho => obtain rfl := Option.some.inj ho; exact .inl ⟨rfl, by show 26 < 61; decide⟩
    | 3, ho => obtain rfl := Option.some.inj ho; exact .inl ⟨rfl, by show 27 < 61; decide⟩
    | 4, ho => obtain rfl := Option.some.inj ho; exact .inl ⟨rfl, by show 28 < 61; decide⟩
    | 5, ho => obtain rfl := Option.some.inj ho; exact .inl ⟨rfl, by show 29 < 61; decide⟩
    | 6, ho => obtain rfl := Option.some.inj ho; exact .inl ⟨rfl, by show 30 < 61; decide⟩
    | 7, ho => obtain rfl := Option.some.inj ho; exact .inl ⟨rfl, by show 31 < 61; decide⟩
    | 8, ho => obtain rfl := Option.some.inj ho; exact .inl ⟨rfl, by show 32 < 61; decide⟩
    | 9, ho => obtain rfl := Option.some.inj ho; exact .inl ⟨rfl, by show 33 < 61; decide⟩
    | 10, ho => obtain rfl := Option.some.inj ho; exact .inl ⟨rfl, by show 6 < 61; decide⟩
    | _ + 11, ho => exact absurd ho (by simp)
  · intro ix jx hi hj e; unfold PU3d at e; split at e <;> split at e <;> omega
  · intro ix o ho
    match ix, ho with
    | 0, ho =>
      obtain rfl := Option.some.inj ho
      intro D a w hM hsl hdep hDi hcl K hK
      have hp0 : a.tmps.getD 0 undef = .pointer (some ⟨tb, 0, none⟩) := hsl 0 (by intro j hj; unfold PU3d; split <;> omega)
      refine ⟨rfl, ?_⟩
      refine wp_val (w' := w) (v := .pointer (some ⟨tb, 0, none⟩)) (by simp only [execOp, Act.eval]; rw [show a.tmps.getD 0 undef = _ from hp0]; rfl) ?_
      exact hK _ _ rfl (hM.same (by decide)) (PU3_mono tb k b0 g Kn cp lo n v0 X d w1 hDi (fun _ => (Below.refl _ _)))
    | 1, ho =>
      obtain rfl := Option.some.inj ho
      intro D a w hM hsl hdep hDi hcl K hK
      have e0 := (hdep ⟨0, .data⟩ (by simp) rfl).1
      refine ⟨rfl, ?_⟩
      refine wp_val (w' := w) (v := .pointer (some ⟨tb, 0, none⟩)) (by simp only [execOp, Act.eval]; rw [show a.tmps.getD 24 undef = _ from e0]; kernel_rfl) ?_
      exact hK _ _ rfl (hM.same (by decide)) (PU3_mono tb k b0 g Kn cp lo n v0 X d w1 hDi (fun _ => (Below.refl _ _)))
    | 2, ho =>
      obtain rfl := Option.some.inj ho
      intro D a w hM hsl hdep hDi hcl K hK
      have e1 := (hdep ⟨1, .data⟩ (by simp) rfl).1
      refine ⟨rfl, ?_⟩
      refine wp_val (w' := w) (v := .pointer (some ⟨tb, 0, none⟩)) (by simp only [execOp, Act.eval]; rw [show a.tmps.getD 25 undef = _ from e1]; kernel_rfl) ?_
      exact hK _ _ rfl (hM.same (by decide)) (PU3_mono tb k b0 g Kn cp lo n v0 X d w1 hDi (fun _ => (Below.refl _ _)))
    | 3, ho =>
      obtain rfl := Option.some.inj ho
      intro D a w hM hsl hdep hDi hcl K hK
      have e2 := (hdep ⟨2, .data⟩ (by simp) rfl).1
      refine ⟨rfl, ?_⟩
      have hl := hl3 _ w hM
      refine wp_val (w' := w) (v := .slice (some ⟨g, 0, none⟩) Kn cp) (by simp only [execOp, Act.eval]; rw [show a.tmps.getD 26 undef = _ from e2]; simp only [Sem.run_bind, hl, Result.andThen_ok, Sem.run_pure]) ?_
      exact hK _ _ rfl (hM.same (by decide)) (PU3_mono tb k b0 g Kn cp lo n v0 X d w1 hDi (fun _ => (Below.refl _ _)))
    | 4, ho =>
      obtain rfl := Option.some.inj ho
      intro D a w hM hsl hdep hDi hcl K hK
      have hp1 : a.tmps.getD 1 undef = .int .i64 ((k : Nat) : Int) := hsl 1 (by intro j hj; unfold PU3d; split <;> omega)
      refine ⟨rfl, ?_⟩
      refine wp_val (w' := w) (v := .int .i64 ((k : Nat) : Int)) (by simp only [execOp, Act.eval]; rw [show a.tmps.getD 1 undef = _ from hp1]; rfl) ?_
      exact hK _ _ rfl (hM.same (by decide)) (PU3_mono tb k b0 g Kn cp lo n v0 X d w1 hDi (fun _ => (Below.refl _ _)))
    | 5, ho =>
      obtain rfl := Option.some.inj ho
      intro D a w hM hsl hdep hDi hcl K hK
      have e3 := (hdep ⟨3, .data⟩ (by simp) rfl).1
      have e4 := (hdep ⟨4, .data⟩ (by simp) rfl).1
      refine ⟨rfl, ?_⟩
      have hl := ix_lv (g := g) (K := Kn) (cap := cp) (k := k) hk w
      refine wp_val (w' := w) (v := .pointer (some ⟨g, k, none⟩)) (by simp only [execOp, Act.eval]; rw [show a.tmps.getD 27 undef = _ from e3, show a.tmps.getD 28 undef = _ from e4]; simp only [Sem.run_bind, hl, Result.andThen_ok, Sem.run_pure]) ?_
      exact hK _ _ rfl (hM.same (by decide)) (PU3_mono tb k b0 g Kn cp lo n v0 X d w1 hDi (fun _ => (Below.refl _ _)))
    | 6, ho =>
      obtain rfl := Option.some.inj ho
      intro D a w hM hsl hdep hDi hcl K hK
      have e5 := (hdep ⟨5, .data⟩ (by simp) rfl).1
      refine ⟨rfl, ?_⟩
      have hl := hl6 _ w hM
      refine wp_val (w' := w) (v := v0) (by simp only [execOp, Act.eval]; rw [show a.tmps.getD 29 undef = _ from e5]; simp only [Sem.run_bind, hl, Result.andThen_ok, Sem.run_pure]) ?_
      exact hK _ _ rfl (hM.same (by decide)) (PU3_mono tb k b0 g Kn cp lo n v0 X d w1 hDi (fun _ => (Below.refl _ _)))
    | 7, ho =>
      obtain rfl := Option.some.inj ho
      intro D a w hM hsl hdep hDi hcl K hK
      have hp5 : a.tmps.getD 5 undef = .pointer (some ⟨b0, 0, none⟩) := hsl 5 (by intro j hj; unfold PU3d; split <;> omega)
      refine ⟨rfl, ?_⟩
      have hl := hl7 _ w hM
      refine wp_val (w' := w) (v := .agg (ab 32 d)) (by simp only [execOp, Act.eval]; rw [show a.tmps.getD 5 undef = _ from hp5]; simp only [Sem.run_bind, hl, Result.andThen_ok, Sem.run_pure]) ?_
      exact hK _ _ rfl (hM.same (by decide)) (PU3_mono tb k b0 g Kn cp lo n v0 X d w1 hDi (fun _ => (Below.refl _ _)))
    | 8, ho =>
      obtain rfl := Option.some.inj ho
      intro D a w hM hsl hdep hDi hcl K hK
      have e7 := (hdep ⟨7, .data⟩ (by simp) rfl).1
      refine ⟨rfl, ?_⟩
      have hl := bs_sum d w
      refine wp_val (w' := w.alloc (.cells (ab 32 d) 27)) (v := .slice (some ⟨w.heap.size, 0, none⟩) 1 1) (by simp only [execOp, Act.eval, List.map_toArray, List.map_cons, List.map_nil]; rw [show a.tmps.getD 31 undef = _ from e7]; simp only [Sem.run_bind, hl, Result.andThen_ok, Sem.run_pure]) ?_
      exact hK _ _ (fun _ => ⟨_, rfl, World.alloc_heap_new w _⟩) (hM.grow (by decide) ((Below.refl _ _).alloc (Nat.le_refl _) _)) (PU3_mono tb k b0 g Kn cp lo n v0 X d w1 hDi (fun _ => (Below.refl _ _).alloc (Nat.le_refl _) _))
    | 9, ho =>
      obtain rfl := Option.some.inj ho
      intro D a w hM hsl hdep hDi hcl K hK
      have e6 := (hdep ⟨6, .data⟩ (by simp) rfl).1
      have e8 := (hdep ⟨8, .data⟩ (by simp) rfl).1
      refine ⟨rfl, ?_⟩
      have hbw := hM.2 hDi
      obtain ⟨gb, eg, hgb⟩ := e8 hDi
      refine oper_put (.tmp 30) (.tmp 32) rfl w1 lo v0 n X (show a.tmps.getD 30 undef = _ from e6) (own_later hown hbw) (show a.tmps.getD 32 undef = _ from eg) hgb (by omega) (Nat.le_trans hlo hbw.size) hbw fun v' w' ho' => ?_
      exact hK _ _ ⟨add1_eq, ho'⟩ ⟨ho'.gr, fun e => by rw [add1_eq] at e; cases e⟩ (PU3_mono tb k b0 g Kn cp lo n v0 X d w1 hDi (fun h => absurd rfl h))
    | 10, ho =>
      obtain rfl := Option.some.inj ho
      intro D a w hM hsl hdep hDi hcl K hK
      have e9 := (hdep ⟨9, .data⟩ (by simp) rfl).1
      refine ⟨rfl, ?_⟩
      refine wp_val (w' := w) (v := a.tmps.getD 33 undef) (by simp only [execOp, Act.eval]; rfl) ?_
      exact hK _ _ ⟨by rw [add1_ne (by decide)]; exact e9.1, e9.2⟩ (hM.same (by decide)) (PU3_mono tb k b0 g Kn cp lo n v0 X d w1 hDi (fun _ => (Below.refl _ _)))
    | _ + 11, ho => exact absurd ho (by simp)
  · intro D a u hall hd' hs hM hsl hr
    obtain ⟨tm, df⟩ := a
    obtain rfl : df = [] := hd'
    have t0 : tm.getD 0 undef = .pointer (some ⟨tb, 0, none⟩) := hsl 0 (by intro j hj; unfold PU3d; split <;> omega)
    have t1 : tm.getD 1 undef = .int .i64 ((k : Nat) : Int) := hsl 1 (by intro j hj; unfold PU3d; split <;> omega)
    obtain ⟨-, hPB⟩ := hr 10 (by decide)
    replace hPB : PutA w1 lo v0 n (X ++ [d]) (tm.getD 6 undef) u := hPB
    obtain ⟨v', t6⟩ : ∃ v', tm.getD 6 undef = v' := ⟨_, rfl⟩
    rw [t6] at hPB
    obtain ⟨h5, hb5⟩ := h1.put hk hd (by have h := hPB; rw [hv0.out, hnn.out, hX.out] at h; exact h)
    replace hb5 := hb01.trans hb5
    obtain ⟨g2, c2, rfl⟩ := ownsRow_succ hPB.row
    have hcg5 := (World.cell?_of_block (w := w1) (keep.out g _ _ u hPB.gr hcgg (.inl (by decide)))).trans hcg
    have hc05 := (World.cell?_of_block (w := w1) (keep.out tb _ _ u hPB.gr h1.cell (.inl (by decide)))).trans hc0
    have hfr : u.frozen? ⟨g, k, none⟩ = false := (World.frozen?_of_block (w := w1) (keep.out g _ _ u hPB.gr hcgg (.inl (by decide)))).trans (by simp [World.frozen?, hcgg])
    replace hs : tm.size = 61 := hs
    have htm := tm_all tm (n := 61) hs
    obtain ⟨xx, hxx⟩ : ∃ x : Nat → Value, ∀ i, x i = tm.getD i undef := ⟨_, fun _ => rfl⟩
    replace htm : tm = ((.pointer (some ⟨tb, 0, none⟩)) :: (.int .i64 ((k : Nat) : Int)) :: (xx 2) :: (xx 3) :: (xx 4) :: (xx 5) :: (.slice (some ⟨g2, 0, none⟩) (n + 1) c2) :: (xx 7) :: (xx 8) :: (xx 9) :: (xx 10) :: (xx 11) :: (xx 12) :: (xx 13) :: (xx 14) :: (xx 15) :: (xx 16) :: (xx 17) :: (xx 18) :: (xx 19) :: (xx 20) :: (xx 21) :: (xx 22) :: (xx 23) :: (xx 24) :: (xx 25) :: (xx 26) :: (xx 27) :: (xx 28) :: (xx 29) :: (xx 30) :: (xx 31) :: (xx 32) :: (xx 33) :: (xx 34) :: (xx 35) :: (xx 36) :: (xx 37) :: (xx 38) :: (xx 39) :: (xx 40) :: (xx 41) :: (xx 42) :: (xx 43) :: (xx 44) :: (xx 45) :: (xx 46) :: (xx 47) :: (xx 48) :: (xx 49) :: (xx 50) :: (xx 51) :: (xx 52) :: (xx 53) :: (xx 54) :: (xx 55) :: (xx 56) :: (xx 57) :: (xx 58) :: (xx 59) :: (xx 60) :: []).toArray := by
      refine htm.trans ?_
      show ((tm.getD 0 undef) :: (tm.getD 1 undef) :: (tm.getD 2 undef) :: (tm.getD 3 undef) :: (tm.getD 4 undef) :: (tm.getD 5 undef) :: (tm.getD 6 undef) :: (tm.getD 7 undef) :: (tm.getD 8 undef) :: (tm.getD 9 undef) :: (tm.getD 10 undef) :: (tm.getD 11 undef) :: (tm.getD 12 undef) :: (tm.getD 13 undef) :: (tm.getD 14 undef) :: (tm.getD 15 undef) :: (tm.getD 16 undef) :: (tm.getD 17 undef) :: (tm.getD 18 undef) :: (tm.getD 19 undef) :: (tm.getD 20 undef) :: (tm.getD 21 undef) :: (tm.getD 22 undef) :: (tm.getD 23 undef) :: (tm.getD 24 undef) :: (tm.getD 25 undef) :: (tm.getD 26 undef) :: (tm.getD 27 undef) :: (tm.getD 28 undef) :: (tm.getD 29 undef) :: (tm.getD 30 undef) :: (tm.getD 31 undef) :: (tm.getD 32 undef) :: (tm.getD 33 undef) :: (tm.getD 34 undef) :: (tm.getD 35 undef) :: (tm.getD 36 undef) :: (tm.getD 37 undef) :: (tm.getD 38 undef) :: (tm.getD 39 undef) :: (tm.getD 40 undef) :: (tm.getD 41 undef) :: (tm.getD 42 undef) :: (tm.getD 43 undef) :: (tm.getD 44 undef) :: (tm.getD 45 undef) :: (tm.getD 46 undef) :: (tm.getD 47 undef) :: (tm.getD 48 undef) :: (tm.getD 49 undef) :: (tm.getD 50 undef) :: (tm.getD 51 undef) :: (tm.getD 52 undef) :: (tm.getD 53 undef) :: (tm.getD 54 undef) :: (tm.getD 55 undef) :: (tm.getD 56 undef) :: (tm.getD 57 undef) :: (tm.getD 58 undef) :: (tm.getD 59 undef) :: (tm.getD 60 undef) :: []).toArray = _
      rw [t0, t1, t6]
      simp only [hxx]
    subst htm
    clear hxx hs hsl hr
    refine (‹∀ (a : Act) (w : World), Code.wp Tryd.prog _ _ a w → _›) _ u ?_
    clear keep hl3 hl6 hl7 hM hall t0 t1 t6
    rcases Nat.mod_two_eq_zero_or_one n with hpar | hpar
    · have hJ5 := hide1 (hodd (by rw [← hnn.out]; exact hpar) _ _ _ h5 hb5)
      have hr1 : ((n : Int) + 1) % 2 = 1 := by omega
      have hr2 : ((n : Int) + 1).tmod 2 = 1 := by rw [Int.tmod_eq_emod_of_nonneg (by omega)]; omega
      clear h5 hb5 hPB hev hodd
      go_wp2
      exact bodyPost_end (results_none rfl _ _ _) rfl ⟨rfl, hJ5.out⟩
    · have hr1 : ((n : Int) + 1) % 2 = 0 := by omega
      have hr2 : ((n : Int) + 1).tmod 2 = 0 := by rw [Int.tmod_eq_emod_of_nonneg (by omega)]; omega
      replace h5 := hide1 h5
      replace hb5 := hide1 hb5
      go_upto_region 7 with fail
      have hl7 : vs.length = Kn := by have := h1.row.1; omega
      have hw5 := h5.out
      have hbw5 := hb5.out
      have hput := hev (by rw [← hnn.out]; exact hpar)
      have hrow5 := hw5.lev k hk
      rw [getD_set (by omega), if_pos rfl] at hrow5
      unfold updM at hrow5
      rw [if_pos rfl] at hrow5
      have hlt5 : ∀ F ∈ M k ++ [d], ∀ j, F j < 256 := fun F hF j => by
        rcases List.mem_append.1 hF with hF | hF
        · exact h1.lt k F hk hF j
        · rw [List.mem_singleton.1 hF]; exact hd j
      have hln5 : (M k ++ [d]).length = n + 1 := by rw [List.length_append, List.length_singleton, ← hnn.out]
      rw [hln5] at hrow5
      obtain ⟨_, _, e5, hS5, -⟩ := ss_own hlt5 hln5 hrow5
      cases e5
      have hgl5 := gl_lo hg hbw5.b hgo
      rw [← hnn.out] at hput
      obtain ⟨x, hx⟩ : ∃ x, Hid (x = (M k).getD (n - 1) fun _ => 0) := ⟨_, hide1 rfl⟩
      rw [← hx.out] at hput
      have hx1 : (M k)[n - 1]? = some x := by rw [hx.out, List.getD_eq_getElem?_getD, List.getElem?_eq_getElem (by rw [← hnn.out]; omega)]; rfl
      have hxl : ∀ j, x j < 256 := h1.lt k x hk (List.mem_of_getElem? hx1)
      replace hput := fun w' (hb : Below _ _ w') => hput w' _ _ (hw5.later hb) (hbw5.trans (Bm.of hb (Nat.le_trans hw5.tl (Nat.le_of_lt (Array.getElem?_eq_some_iff.1 hw5.cell).1))))
      clear h5 hb5 hrow5 hcg5 hc05 hfr hPB hev hodd
      generalize u.setCell ⟨g, k, none⟩ (.slice (some ⟨g2, 0, none⟩) (n + 1) c2) = w5 at *
      have hlx : ∀ w', Below w5.heap.size w5 w' → (Instr.loadAt 27 (.pointer (some ⟨g2, 0 + 32 * (n + 1 - 2), none⟩))).run Tryd.prog w' = .ok (.agg (ab 32 x)) w' := fun w' hb => by
        rw [ld_ss (hS5.later hb) (i := n + 1 - 2) (by rw [hln5]; omega)]
        have : (M k ++ [d])[n + 1 - 2]? = some x := by rw [List.getElem?_append_left (by rw [← hnn.out]; omega), show n + 1 - 2 = n - 1 by omega]; exact hx1
        rw [List.getElem?_eq_getElem (by rw [hln5]; omega)] at this
        rw [Option.some.inj this]
      have hly : ∀ w', Below w5.heap.size w5 w' → (Instr.loadAt 27 (.pointer (some ⟨g2, 0 + 32 * (n + 1 - 1), none⟩))).run Tryd.prog w' = .ok (.agg (ab 32 d)) w' := fun w' hb => by
        rw [ld_ss (hS5.later hb) (i := n + 1 - 1) (by rw [hln5]; omega)]
        have : (M k ++ [d])[n + 1 - 1]? = some d := by rw [List.getElem?_append_right (by rw [← hnn.out]; omega), ← hnn.out, show n + 1 - 1 - n = 0 by omega]; rfl
        rw [List.getElem?_eq_getElem (by rw [hln5]; omega)] at this
        rw [Option.some.inj this]
      have hnd := fun w' (hb : Below w5.heap.size w5 w') => node_d (gl_b hgl5 hb) hxl hd
      have hk7 : k ≤ 1000000000 := by omega
      refine wp_rel3 _ _ (PU7 tb k g2 (n + 1) c2 x d J) (QM w5 14) PU7d (by kernel_rfl) (by kernel_rfl) 15 (by kernel_rfl) ?_ ?_ rfl (fun _ => (Below.refl _ _).drew) ?_ ?_
      · intro ix o ho
        match ix, ho with
        | 0, ho => obtain rfl := Option.some.inj ho; exact .inl ⟨rfl, by show 46 < 61; decide⟩
        | 1, ho => obtain rfl := Option.some.inj ho; exact .inl ⟨rfl, by show 47 < 61; decide⟩
        | 2, ho => obtain rfl := Option.some.inj ho; exact .inl ⟨rfl, by show 48 < 61; decide⟩
        | 3, ho => obtain rfl := Option.some.inj ho; exact .inl ⟨rfl, by show 49 < 61; decide⟩
        | 4, ho => obtain rfl := Option.some.inj ho; exact .inl ⟨rfl, by show 50 < 61; decide⟩
        | 5, ho => obtain rfl := Option.some.inj ho; exact .inl ⟨rfl, by show 51 < 61; decide⟩
        | 6, ho => obtain rfl := Option.some.inj ho; exact .inl ⟨rfl, by show 52 < 61; decide⟩
        | 7, ho => obtain rfl := Option.some.inj ho; exact .inl ⟨rfl, by show 53 < 61; decide⟩
        | 8, ho => obtain rfl := Option.some.inj ho; exact .inl ⟨rfl, by show 54 < 61; decide⟩
        | 9, ho => obtain rfl := Option.some.inj ho; exact .inl ⟨rfl, by show 55 < 61; decide⟩
        | 10, ho => obtain rfl := Option.some.inj ho; exact .inl ⟨rfl, by show 56 < 61; decide⟩
        | 11, ho => obtain rfl := Option.some.inj ho; exact .inl ⟨rfl, by show 57 < 61; decide⟩
        | 12, ho => obtain rfl := Option.some.inj ho; exact .inl ⟨rfl, by show 58 < 61; decide⟩
        | 13, ho => obtain rfl := Option.some.inj ho; exact .inl ⟨rfl, by show 59 < 61; decide⟩
        | 14, ho => obtain rfl := Option.some.inj ho; exact .inl ⟨rfl, by show 60 < 61; decide⟩
        | _ + 15, ho => exact absurd ho (by simp)
      · intro ix jx hi hj e; unfold PU7d at e; split at e <;> split at e <;> omega
      · intro ix o ho
        match ix, ho with
        | 0, ho =>
          obtain rfl := Option.some.inj ho
          intro D a w hM hsl hdep hDi hcl K hK
          have hp0 : a.tmps.getD 0 undef = .pointer (some ⟨tb, 0, none⟩) := hsl 0 (by intro j hj; unfold PU7d; split <;> omega)
          refine ⟨rfl, ?_⟩
          refine wp_val (w' := w) (v := .pointer (some ⟨tb, 0, none⟩)) (by simp only [execOp, Act.eval]; rw [show a.tmps.getD 0 undef = _ from hp0]; rfl) ?_
          exact hK _ _ rfl (hM.same (by decide)) (PU7_mono tb k g2 (n + 1) c2 x d J hDi (fun _ => (Below.refl _ _)))
        | 1, ho =>
          obtain rfl := Option.some.inj ho
          intro D a w hM hsl hdep hDi hcl K hK
          have hp1 : a.tmps.getD 1 undef = .int .i64 ((k : Nat) : Int) := hsl 1 (by intro j hj; unfold PU7d; split <;> omega)
          refine ⟨rfl, ?_⟩
          refine wp_val (w' := w) (v := .int .i64 ((k : Nat) : Int)) (by simp only [execOp, Act.eval]; rw [show a.tmps.getD 1 undef = _ from hp1]; rfl) ?_
          exact hK _ _ rfl (hM.same (by decide)) (PU7_mono tb k g2 (n + 1) c2 x d J hDi (fun _ => (Below.refl _ _)))
        | 2, ho =>
          obtain rfl := Option.some.inj ho
          intro D a w hM hsl hdep hDi hcl K hK
          have e1 := (hdep ⟨1, .data⟩ (by simp) rfl).1
          refine ⟨rfl, ?_⟩
          have hl := add_n1 (x := .tmp 47) (u := .const (.int .i64 1)) hk7 w
          refine wp_val (w' := w) (v := .int .i64 ((k + 1 : Nat) : Int)) (by simp only [execOp, Act.eval]; rw [show a.tmps.getD 47 undef = _ from e1]; simp only [Sem.run_bind, hl, Result.andThen_ok, Sem.run_pure]) ?_
          exact hK _ _ rfl (hM.same (by decide)) (PU7_mono tb k g2 (n + 1) c2 x d J hDi (fun _ => (Below.refl _ _)))
        | 3, ho =>
          obtain rfl := Option.some.inj ho
          intro D a w hM hsl hdep hDi hcl K hK
          have hp6 : a.tmps.getD 6 undef = .slice (some ⟨g2, 0, none⟩) (n + 1) c2 := hsl 6 (by intro j hj; unfold PU7d; split <;> omega)
          refine ⟨rfl, ?_⟩
          refine wp_val (w' := w) (v := .slice (some ⟨g2, 0, none⟩) (n + 1) c2) (by simp only [execOp, Act.eval]; rw [show a.tmps.getD 6 undef = _ from hp6]; rfl) ?_
          exact hK _ _ rfl (hM.same (by decide)) (PU7_mono tb k g2 (n + 1) c2 x d J hDi (fun _ => (Below.refl _ _)))
        | 4, ho =>
          obtain rfl := Option.some.inj ho
          intro D a w hM hsl hdep hDi hcl K hK
          have hp7 : a.tmps.getD 7 undef = .int .i64 ((n + 1 : Nat) : Int) := hsl 7 (by intro j hj; unfold PU7d; split <;> omega)
          refine ⟨rfl, ?_⟩
          refine wp_val (w' := w) (v := .int .i64 ((n + 1 : Nat) : Int)) (by simp only [execOp, Act.eval]; rw [show a.tmps.getD 7 undef = _ from hp7]; rfl) ?_
          exact hK _ _ rfl (hM.same (by decide)) (PU7_mono tb k g2 (n + 1) c2 x d J hDi (fun _ => (Below.refl _ _)))
        | 5, ho =>
          obtain rfl := Option.some.inj ho
          intro D a w hM hsl hdep hDi hcl K hK
          have e4 := (hdep ⟨4, .data⟩ (by simp) rfl).1
          refine ⟨rfl, ?_⟩
          have hl := sub_2 (x := .tmp 50) (u := .const (.int .i64 2)) (m := (n + 1)) (by omega) (by omega) w
          refine wp_val (w' := w) (v := .int .i64 (((n + 1) - 2 : Nat) : Int)) (by simp only [execOp, Act.eval]; rw [show a.tmps.getD 50 undef = _ from e4]; simp only [Sem.run_bind, hl, Result.andThen_ok, Sem.run_pure]) ?_
          exact hK _ _ rfl (hM.same (by decide)) (PU7_mono tb k g2 (n + 1) c2 x d J hDi (fun _ => (Below.refl _ _)))
        | 6, ho =>
          obtain rfl := Option.some.inj ho
          intro D a w hM hsl hdep hDi hcl K hK
          have e3 := (hdep ⟨3, .data⟩ (by simp) rfl).1
          have e5 := (hdep ⟨5, .data⟩ (by simp) rfl).1
          refine ⟨rfl, ?_⟩
          have hl := ix_ss (b := g2) (off := 0) (n := (n + 1)) (cap := c2) (i := (n + 1) - 2) (by omega) w
          refine wp_val (w' := w) (v := .pointer (some ⟨g2, 0 + 32 * ((n + 1) - 2), none⟩)) (by simp only [execOp, Act.eval]; rw [show a.tmps.getD 49 undef = _ from e3, show a.tmps.getD 51 undef = _ from e5]; simp only [Sem.run_bind, hl, Result.andThen_ok, Sem.run_pure]) ?_
          exact hK _ _ rfl (hM.same (by decide)) (PU7_mono tb k g2 (n + 1) c2 x d J hDi (fun _ => (Below.refl _ _)))
        | 7, ho =>
          obtain rfl := Option.some.inj ho
          intro D a w hM hsl hdep hDi hcl K hK
          have hD14 : D 14 = false := by
            rcases Bool.eq_false_or_eq_true (D 14) with h | h
            · have h13 := hcl 14 _ rfl h ⟨13, .data⟩ (by simp) rfl
              have hq := hcl 13 _ rfl h13 ⟨7, .data⟩ (by simp) rfl
              rw [hDi] at hq; cases hq
            · exact h
          have e6 := (hdep ⟨6, .data⟩ (by simp) rfl).1
          refine ⟨rfl, ?_⟩
          have hl := hlx w (hM hD14)
          refine wp_val (w' := w) (v := .agg (ab 32 x)) (by simp only [execOp, Act.eval]; rw [show a.tmps.getD 52 undef = _ from e6]; simp only [Sem.run_bind, hl, Result.andThen_ok, Sem.run_pure]) ?_
          exact hK _ _ rfl (hM.same (by decide)) (PU7_mono tb k g2 (n + 1) c2 x d J hDi (fun _ => (Below.refl _ _)))
        | 8, ho =>
          obtain rfl := Option.some.inj ho
          intro D a w hM hsl hdep hDi hcl K hK
          have hp6 : a.tmps.getD 6 undef = .slice (some ⟨g2, 0, none⟩) (n + 1) c2 := hsl 6 (by intro j hj; unfold PU7d; split <;> omega)
          refine ⟨rfl, ?_⟩
          refine wp_val (w' := w) (v := .slice (some ⟨g2, 0, none⟩) (n + 1) c2) (by simp only [execOp, Act.eval]; rw [show a.tmps.getD 6 undef = _ from hp6]; rfl) ?_
          exact hK _ _ rfl (hM.same (by decide)) (PU7_mono tb k g2 (n + 1) c2 x d J hDi (fun _ => (Below.refl _ _)))
        | 9, ho =>
          obtain rfl := Option.some.inj ho
          intro D a w hM hsl hdep hDi hcl K hK
          have hp7 : a.tmps.getD 7 undef = .int .i64 ((n + 1 : Nat) : Int) := hsl 7 (by intro j hj; unfold PU7d; split <;> omega)
          refine ⟨rfl, ?_⟩
          refine wp_val (w' := w) (v := .int .i64 ((n + 1 : Nat) : Int)) (by simp only [execOp, Act.eval]; rw [show a.tmps.getD 7 undef = _ from hp7]; rfl) ?_
          exact hK _ _ rfl (hM.same (by decide)) (PU7_mono tb k g2 (n + 1) c2 x d J hDi (fun _ => (Below.refl _ _)))
        | 10, ho =>
          obtain rfl := Option.some.inj ho
          intro D a w hM hsl hdep hDi hcl K hK
          have e9 := (hdep ⟨9, .data⟩ (by simp) rfl).1
          refine ⟨rfl, ?_⟩
          have hl := sub_1 (x := .tmp 55) (u := .const (.int .i64 1)) (m := (n + 1)) (by omega) (by omega) w
          refine wp_val (w' := w) (v := .int .i64 (((n + 1) - 1 : Nat) : Int)) (by simp only [execOp, Act.eval]; rw [show a.tmps.getD 55 undef = _ from e9]; simp only [Sem.run_bind, hl, Result.andThen_ok, Sem.run_pure]) ?_
          exact hK _ _ rfl (hM.same (by decide)) (PU7_mono tb k g2 (n + 1) c2 x d J hDi (fun _ => (Below.refl _ _)))
        | 11, ho =>
          obtain rfl := Option.some.inj ho
          intro D a w hM hsl hdep hDi hcl K hK
          have e8 := (hdep ⟨8, .data⟩ (by simp) rfl).1
          have e10 := (hdep ⟨10, .data⟩ (by simp) rfl).1
          refine ⟨rfl, ?_⟩
          have hl := ix_ss (b := g2) (off := 0) (n := (n + 1)) (cap := c2) (i := (n + 1) - 1) (by omega) w
          refine wp_val (w' := w) (v := .pointer (some ⟨g2, 0 + 32 * ((n + 1) - 1), none⟩)) (by simp only [execOp, Act.eval]; rw [show a.tmps.getD 54 undef = _ from e8, show a.tmps.getD 56 undef = _ from e10]; simp only [Sem.run_bind, hl, Result.andThen_ok, Sem.run_pure]) ?_
          exact hK _ _ rfl (hM.same (by decide)) (PU7_mono tb k g2 (n + 1) c2 x d J hDi (fun _ => (Below.refl _ _)))
        | 12, ho =>
          obtain rfl := Option.some.inj ho
          intro D a w hM hsl hdep hDi hcl K hK
          have hD14 : D 14 = false := by
            rcases Bool.eq_false_or_eq_true (D 14) with h | h
            · have h13 := hcl 14 _ rfl h ⟨13, .data⟩ (by simp) rfl
              have hq := hcl 13 _ rfl h13 ⟨12, .data⟩ (by simp) rfl
              rw [hDi] at hq; cases hq
            · exact h
          have e11 := (hdep ⟨11, .data⟩ (by simp) rfl).1
          refine ⟨rfl, ?_⟩
          have hl := hly w (hM hD14)
          refine wp_val (w' := w) (v := .agg (ab 32 d)) (by simp only [execOp, Act.eval]; rw [show a.tmps.getD 57 undef = _ from e11]; simp only [Sem.run_bind, hl, Result.andThen_ok, Sem.run_pure]) ?_
          exact hK _ _ rfl (hM.same (by decide)) (PU7_mono tb k g2 (n + 1) c2 x d J hDi (fun _ => (Below.refl _ _)))
        | 13, ho =>
          obtain rfl := Option.some.inj ho
          intro D a w hM hsl hdep hDi hcl K hK
          have hD14 : D 14 = false := by
            rcases Bool.eq_false_or_eq_true (D 14) with h | h
            · have h13 := hcl 14 _ rfl h ⟨13, .data⟩ (by simp) rfl
              rw [hDi] at h13; cases h13
            · exact h
          have e7 := (hdep ⟨7, .data⟩ (by simp) rfl).1
          have e12 := (hdep ⟨12, .data⟩ (by simp) rfl).1
          refine ⟨rfl, ?_⟩
          refine oper_callg 45 #[.tmp 53, .tmp 58] _ rfl #[.agg (ab 32 x), .agg (ab 32 d)] (by simp only [List.map_toArray, List.map_cons, List.map_nil, Act.eval]; rw [show a.tmps.getD 53 undef = _ from e7, show a.tmps.getD 58 undef = _ from e12]) (fun w => by kernel_rfl) (hnd w (hM hD14)) fun w' hb => ?_
          exact hK _ _ rfl (hM.grow (by decide) hb) (PU7_mono tb k g2 (n + 1) c2 x d J hDi (fun _ => hb))
        | 14, ho =>
          obtain rfl := Option.some.inj ho
          intro D a w hM hsl hdep hDi hcl K hK
          have e0 := (hdep ⟨0, .data⟩ (by simp) rfl).1
          have e2 := (hdep ⟨2, .data⟩ (by simp) rfl).1
          have e13 := (hdep ⟨13, .data⟩ (by simp) rfl).1
          refine ⟨rfl, ?_⟩
          refine oper_any 31 #[.tmp 46, .tmp 48, .tmp 59] _ rfl #[.pointer (some ⟨tb, 0, none⟩), .int .i64 ((k + 1 : Nat) : Int), .agg (ab 32 (nd x d))] (by simp only [List.map_toArray, List.map_cons, List.map_nil, Act.eval]; rw [show a.tmps.getD 46 undef = _ from e0, show a.tmps.getD 48 undef = _ from e2, show a.tmps.getD 59 undef = _ from e13]) (fun w => by kernel_rfl) (hput w (hM hDi)) fun r w' hj => ?_
          exact hK _ _ ⟨add1_eq, _, hj, Below.refl _ _⟩ (fun e => by rw [add1_eq] at e; cases e) (PU7_mono tb k g2 (n + 1) c2 x d J hDi (fun h => absurd rfl h))
        | _ + 15, ho => exact absurd ho (by simp)
      · intro D a u hall hd' hs hM hsl hr
        obtain ⟨-, w0, hJ0, hb0⟩ := hr 14 (by decide)
        exact bodyPost_end (results_none rfl _ _ _) hd' ⟨rfl, hJ _ _ hJ0 hb0⟩
end Go.Proofs.YtdofoampjlebbaaDoor

namespace Go.Proofs.YtdofoampjlebbaaDoor
open Go.RowKit Go.Maps Sh

set_option maxRecDepth 100000 in
theorem laidO : laidOutB Tryd.prog = true := by kernel_rfl
set_option maxRecDepth 100000 in
theorem rowK : (27 : TypeId) < Tryd.prog.types.size := of_decide_eq_true (by kernel_rfl)
set_option maxRecDepth 100000 in
theorem wideK : (match Tryd.prog.underlying 27 with | some (.array _ _) | some (.struct _) => true | _ => false) = true := by rw [Tryd.underlying27]
set_option maxRecDepth 100000 in
theorem keyL : Keyed Tryd.prog 27 := Keyed.of_law (deep_law_laid laidO (m := 3) (by omega) rowK (by kernel_rfl) wideK)
set_option maxRecDepth 100000 in
theorem mapM_some {α β : Type} {f : α → Option β} {g : α → β} : ∀ l : List α, (∀ x ∈ l, f x = some (g x)) → l.mapM f = some (l.map g)
  | [], _ => rfl
  | x :: r, h => by
    rw [List.mapM_cons, h x (by simp), mapM_some r (fun y hy => h y (by simp [hy]))]; rfl
set_option maxRecDepth 100000 in
theorem key_s (F : Nat → Nat) (hF : ∀ i, F i < 256) : ∃ kl, keyOf Tryd.prog 27 (.agg (ab 32 F)) = some kl := by
  have h1 : Tryd.prog.keyType 27 = true := by kernel_rfl
  have c1 : Tryd.prog.cellsOf 5 = 1 := by kernel_rfl
  have c2 : Tryd.prog.cellsOf 27 = 32 := by kernel_rfl
  have h2 : (Value.agg (ab 32 F)).formed Tryd.prog 27 = true := by simp [Value.formed, Tryd.underlying27, c2, ab_size]
  have hl : (Value.agg (ab 32 F)).cells.toList = (List.range 32).map fun j => Value.int .u8 ((F j : Nat) : Int) := by
    show (ab 32 F).toList = _
    rw [ab_list]
  have h3 : Tryd.prog.keyLits (Tryd.prog.types.size + 1) 27 (Value.agg (ab 32 F)).cells.toList = some (((List.range 32).map fun i => [Lit.int .u8 ((F i : Nat) : Int)]).flatten) := by
    rw [hl]
    unfold Program.keyLits
    rw [Tryd.underlying27]
    have hm : (List.range 32).mapM (fun i => Tryd.prog.keyLits Tryd.prog.types.size 5 ((((List.range 32).map fun j => Value.int .u8 ((F j : Nat) : Int)).drop (i * Tryd.prog.cellsOf 5)).take (Tryd.prog.cellsOf 5))) = some ((List.range 32).map fun i => [Lit.int .u8 ((F i : Nat) : Int)]) := by
      refine mapM_some _ fun i hi => ?_
      have hi := List.mem_range.1 hi
      rw [c1, Nat.mul_one]
      have e : (((List.range 32).map fun j => Value.int .u8 ((F j : Nat) : Int)).drop i).take 1 = [Value.int .u8 ((F i : Nat) : Int)] := by
        rw [List.take_one, List.head?_drop, List.getElem?_map, List.getElem?_range hi]; rfl
      rw [e]
      obtain ⟨k, hk⟩ : ∃ k, Tryd.prog.types.size = k + 1 := ⟨Tryd.prog.types.size - 1, (Nat.succ_pred_eq_of_pos (Nat.lt_of_le_of_lt (Nat.zero_le _) rowK)).symm⟩
      rw [hk]
      unfold Program.keyLits
      rw [Tryd.underlying5]
      have hw : (Lit.int .u8 ((F i : Nat) : Int)).wf = true := by
        have := hF i
        simp only [Lit.wf, Bool.and_eq_true, decide_eq_true_eq]
        have e1 : IntKind.u8.min = 0 := rfl
        have e2 : IntKind.u8.max = 255 := rfl
        omega
      simp [hw]
    simp only [List.length_map, List.length_range, c2, if_true, hm, Option.map_some]
  refine ⟨.string (keyBytes (((List.range 32).map fun i => [Lit.int .u8 ((F i : Nat) : Int)]).flatten)), ?_⟩
  unfold keyOf
  rw [Tryd.underlying27]
  simp only [h1, h2, Bool.and_self, if_true, h3, Option.map_some]
end Go.Proofs.YtdofoampjlebbaaDoor

namespace Go.Proofs.YtdofoampjlebbaaDoor
open Go.RowKit Go.Maps Sh
variable {q : Option Nat}

/-- The levels on the way: those below k have the new digest. -/
def Mx (L : List (Nat → Nat)) (d : Nat → Nat) (k i : Nat) : List (Nat → Nat) := if i < k then lvl (L ++ [d]) i else lvl L i
theorem Mx_0 (L : List (Nat → Nat)) (d : Nat → Nat) : Mx L d 0 = lvl L := funext fun i => by unfold Mx; rw [if_neg (by omega)]
theorem Mx_k (L : List (Nat → Nat)) (d : Nat → Nat) (k : Nat) : Mx L d k k = lvl L k := by unfold Mx; rw [if_neg (by omega)]
theorem Mx_s {L : List (Nat → Nat)} {d : Nat → Nat} {k : Nat} (h : 2 ^ k ∣ L.length + 1) : updM (Mx L d k) k (Mx L d k k ++ [newd L d k]) = Mx L d (k + 1) := by
  funext i
  unfold updM
  by_cases e : i = k
  · subst e
    rw [if_pos rfl, Mx_k]
    unfold Mx
    rw [if_pos (by omega), lvl_snoc h]; rfl
  · rw [if_neg e]
    unfold Mx
    by_cases h1 : i < k
    · rw [if_pos h1, if_pos (by omega)]
    · rw [if_neg h1, if_neg (by omega)]
theorem pow_dvd_le {i j : Nat} (h : i ≤ j) : 2 ^ i ∣ 2 ^ j := ⟨2 ^ (j - i), by rw [← Nat.pow_add]; congr 1; omega⟩
theorem odd_no {n k i : Nat} (h2 : (n + 1) / 2 ^ k % 2 = 1) (hi : k < i) : ¬ 2 ^ i ∣ n + 1 := by
  intro hd
  obtain ⟨q, hq⟩ := Nat.dvd_trans (pow_dvd_le (show k + 1 ≤ i by omega)) hd
  have h0 : 1 ≤ 2 ^ k := Nat.one_le_two_pow
  rw [hq, Nat.pow_succ, Nat.mul_assoc, Nat.mul_div_cancel_left _ (by omega)] at h2
  omega
theorem Mx_end {L : List (Nat → Nat)} {d : Nat → Nat} {k : Nat} (h2 : (L.length + 1) / 2 ^ k % 2 = 1) : Mx L d (k + 1) = lvl (L ++ [d]) := by
  funext i
  unfold Mx
  by_cases h1 : i < k + 1
  · rw [if_pos h1]
  · rw [if_neg h1, lvl_same (odd_no h2 (by omega))]
theorem lvs_end {n k : Nat} (h : 2 ^ k ∣ n + 1) (h2 : (n + 1) / 2 ^ k % 2 = 1) : lvs (n + 1) = max (k + 1) (lvs n) := by
  have key : ∀ j, j < lvs (n + 1) ↔ j < max (k + 1) (lvs n) := fun j => by
    rw [lvs_lt]
    have h1 : j < max (k + 1) (lvs n) ↔ j < k + 1 ∨ j < lvs n := by omega
    rw [h1, lvs_lt]
    constructor
    · intro hj
      rcases Nat.lt_or_ge n (2 ^ j) with h3 | h3
      · left
        rcases Nat.lt_or_ge k j with h4 | h4
        · exact absurd ⟨1, by omega⟩ (odd_no (i := j) h2 h4)
        · omega
      · exact .inr h3
    · rintro (h3 | h3)
      · have h4 : 2 ^ j ≤ 2 ^ k := Nat.pow_le_pow_right (by decide) (by omega)
        have := Nat.le_of_dvd (by omega) h
        omega
      · omega
  have a := key (lvs (n + 1))
  have b := key (max (k + 1) (lvs n))
  omega
theorem lvs_le {n : Nat} (h : n < 2097152) : lvs n ≤ 21 := by
  rcases Nat.lt_or_ge 21 (lvs n) with h1 | h1
  · have := lvs_lt.1 h1
    omega
  · exact h1
theorem newd_lt {L : List (Nat → Nat)} {d : Nat → Nat} (hL : ∀ F ∈ L, ∀ j, F j < 256) (hd : ∀ j, d j < 256) (k : Nat) : ∀ j, newd L d k j < 256 := root_lt _ _ rfl (fun F hF => by
  have hm := List.mem_of_mem_take (List.mem_of_mem_drop hF)
  rcases List.mem_append.1 hm with h | h
  · exact hL F h
  · rw [List.mem_singleton.1 h]; exact hd)
/-- What put leaves. -/
def PutT (q : Option Nat) (w0 : World) (lo tb : Nat) (mv : Value) (L : List (Nat → Nat)) (w : World) : Prop := (∃ lv vs, LvAt q w lo tb mv (lvs L.length) (lvl L) lv vs) ∧ Bm q lo w0 w
theorem PutT.later {w0 : World} {lo tb : Nat} {mv : Value} {L : List (Nat → Nat)} {w w' : World} (h : PutT q w0 lo tb mv L w) (hb : Below w.heap.size w w') : PutT q w0 lo tb mv L w' := by
  obtain ⟨⟨lv, vs, h1⟩, h2⟩ := h
  exact ⟨⟨lv, vs, h1.later hb⟩, h2.trans (Bm.of hb (Nat.le_trans h1.tl (Nat.le_of_lt (Array.getElem?_eq_some_iff.1 h1.cell).1)))⟩
theorem put_t {lo tb : Nat} {mv : Value} {L : List (Nat → Nat)} {d : Nat → Nat} (hgo : GlLo lo) (hL : ∀ F ∈ L, ∀ j, F j < 256) (hd : ∀ j, d j < 256) (hn : L.length < 1048576) : ∀ (c k : Nat) (w : World) (lv : Value) (vs : List Value), c = (L.length + 1) / 2 ^ k → 2 ^ k ∣ L.length + 1 → k ≤ lvs L.length → LvAt q w lo tb mv (lvs L.length) (Mx L d k) lv vs → Gl w →
    Calls Tryd.prog 31 #[.pointer (some ⟨tb, 0, none⟩), .int .i64 ((k : Nat) : Int), .agg (ab 32 (newd L d k))] w fun e w' => e = .returned (.tuple #[]) ∧ PutT q w lo tb mv (L ++ [d]) w' := by
  intro c
  induction c using Nat.strongRecOn with
  | ind c ih =>
    intro k w lv vs hc hdv hk h hg
    have h0 : 1 ≤ 2 ^ k := Nat.one_le_two_pow
    have hdn := newd_lt hL hd k
    have hlen := lvl_len L k
    have hmore := div_more h0 hdv
    have hle : L.length / 2 ^ k ≤ L.length := Nat.div_le_self _ _
    have h21 := lvs_le (n := L.length) (by omega)
    have hLd : (L ++ [d]).length = L.length + 1 := by simp
    have hfin : ∀ K, K = max (k + 1) (lvs L.length) → (Mx L d k k).length % 2 = 0 → ∀ w' lv' vs', LvAt q w' lo tb mv K (updM (Mx L d k) k (Mx L d k k ++ [newd L d k])) lv' vs' → Bm q lo w w' → PutT q w lo tb mv (L ++ [d]) w' := by
      intro K hK he w' lv' vs' h' hb'
      rw [Mx_k, hlen] at he
      have ho : (L.length + 1) / 2 ^ k % 2 = 1 := by omega
      rw [Mx_s hdv, Mx_end ho, hK, ← lvs_end hdv ho, ← hLd] at h'
      exact ⟨⟨lv', vs', h'⟩, hb'⟩
    rcases Nat.lt_or_ge k (lvs L.length) with hlt | hge
    · refine put_in h hlt hdn hg hgo (by rw [Mx_k, hlen]; omega) (by omega) (fun w1 w2 h1 h2 => PutT.later h1 h2) (hfin _ (by omega)) ?_
      intro he w' lv' vs' h' hb'
      rw [Mx_k, hlen] at he
      have h1 : (L.length + 1) / 2 ^ k % 2 = 0 := by omega
      have hp : 2 ^ (k + 1) = 2 ^ k * 2 := Nat.pow_succ ..
      have hd2 : 2 ^ (k + 1) ∣ L.length + 1 := by
        obtain ⟨q, hq⟩ := hdv
        rw [hq, Nat.mul_div_cancel_left _ (by omega)] at h1
        exact ⟨q / 2, by rw [hq, hp, Nat.mul_assoc]; congr 1; omega⟩
      have hle2 := Nat.le_of_dvd (by omega) hd2
      have hk1 : k + 1 ≤ lvs L.length := lvs_lt.2 (by omega)
      rw [Mx_s hdv] at h'
      have hcc : (L.length + 1) / 2 ^ (k + 1) < c := by
        rw [hp, ← Nat.div_div_eq_div_mul, ← hc]; omega
      obtain ⟨x, hx, hnw⟩ := newd_s (d := d) hd2
      have hlst : (Mx L d k k).getD ((Mx L d k k).length - 1) (fun _ => 0) = x := by
        rw [Mx_k, List.getD_eq_getElem?_getD, ← List.getLast?_eq_getElem?, hx]; rfl
      rw [hlst, ← hnw]
      refine (ih _ hcc (k + 1) w' lv' vs' rfl hd2 hk1 h' (gl_lo hg hb'.b hgo)).mono ?_
      rintro e w2 ⟨rfl, h3, h4⟩
      exact ⟨_, rfl, h3, hb'.trans h4⟩
    · obtain rfl : k = lvs L.length := by omega
      have hnil : Mx L d (lvs L.length) (lvs L.length) = [] := by rw [Mx_k, lvl_none (Nat.le_refl _)]
      exact put_new h hnil hdn hg hgo (by omega) (fun w1 w2 h1 h2 => PutT.later h1 h2) (hfin _ (by omega))
/-! The tree as a whole. -/
/-- Where a digest stands for the first time. -/
def fstI : List (Nat → Nat) → (Nat → Nat) → Option Nat
  | [], _ => none
  | G :: r, F => if eqD G F then some 0 else (fstI r F).map (· + 1)
def mapIs (D : DataW Unit) (L : List (Nat → Nat)) : Prop := ∀ F kl, (∀ j, F j < 256) → keyOf Tryd.prog 27 (.agg (ab 32 F)) = some kl → ∀ z, D.atKey kl z = match fstI L F with | some i => .lit (.int .i64 ((i : Nat) : Int)) | none => z
structure TrAt (q : Option Nat) (w : World) (lo tb : Nat) (L : List (Nat → Nat)) (mb : Nat) (D : DataW Unit) (lv : Value) (vs : List Value) : Prop where
  lev : LvAt q w lo tb (.map (some mb)) (lvs L.length) (lvl L) lv vs
  mp : w.ownsMap Tryd.prog 27 (plainElem Tryd.prog 3) mb L.length D
  ml : lo ≤ mb
  is : mapIs D L
  lt : ∀ F ∈ L, ∀ j, F j < 256
  am : ∀ b, q = some b → mb ≠ b
def TrQ (q : Option Nat) (w : World) (lo tb : Nat) (L : List (Nat → Nat)) : Prop := ∃ mb D lv vs, TrAt q w lo tb L mb D lv vs
abbrev Tr (w : World) (lo tb : Nat) (L : List (Nat → Nat)) : Prop := TrQ none w lo tb L
theorem map_later {w w' : World} {P : Program} {k : TypeId} {R : Value → Option (DataW Unit × List MemPlace)} {b n : Nat} {D : DataW Unit} (h : w.ownsMap P k R b n D) (hb : Below w.heap.size w w') : w'.ownsMap P k R b n D := h.kept (row := none) ⟨hb.os, hb.tape, hb.output, hb.size, fun j hj _ => hb.block j hj⟩ (by simp)
theorem TrAt.later {w w' : World} {lo tb mb : Nat} {L : List (Nat → Nat)} {D : DataW Unit} {lv : Value} {vs : List Value} (h : TrAt q w lo tb L mb D lv vs) (hb : Below w.heap.size w w') : TrAt q w' lo tb L mb D lv vs := ⟨h.lev.later hb, map_later h.mp hb, h.ml, h.is, h.lt, h.am⟩
theorem TrQ.later {w w' : World} {lo tb : Nat} {L : List (Nat → Nat)} (h : TrQ q w lo tb L) (hb : Below w.heap.size w w') : TrQ q w' lo tb L := by
  obtain ⟨mb, D, lv, vs, h⟩ := h
  exact ⟨mb, D, lv, vs, h.later hb⟩
theorem Tr.later {w w' : World} {lo tb : Nat} {L : List (Nat → Nat)} (h : Tr w lo tb L) (hb : Below w.heap.size w w') : Tr w' lo tb L := TrQ.later h hb
/-- A block that was laid behind the tree is none of its own. -/
theorem TrQ.fresh {w w' : World} {lo tb b : Nat} {L : List (Nat → Nat)} (h : TrQ q w lo tb L) (hb : Below w.heap.size w w') (h1 : w.heap.size ≤ b) (h2 : b < w'.heap.size) : TrQ (some b) w' lo tb L := by
  obtain ⟨mb, D, lv, vs, h⟩ := h
  have hr := h.later hb
  have hlt : ∀ {e : TypeId} {size n base : Nat} {v : Value} {xs : List Value}, w.ownsRow base e size v n xs → v.ownBlock ≠ some b := fun ho e => by
    obtain ⟨_, c, hc⟩ := own_lt ho e
    have := (Array.getElem?_eq_some_iff.1 hc).1
    omega
  refine ⟨mb, D, lv, vs, ⟨hr.lev.tl, hr.lev.cell, hr.lev.row, hr.lev.lev, hr.lev.ap, hr.lev.lt, fun b' e => ?_⟩, hr.mp, hr.ml, hr.is, hr.lt, fun b' e => ?_⟩
  · cases e
    refine ⟨h2, ?_, hlt h.lev.row, fun k => ?_⟩
    · have := (Array.getElem?_eq_some_iff.1 h.lev.cell).1
      omega
    · rcases Nat.lt_or_ge k (lvs L.length) with hk | hk
      · exact hlt (h.lev.lev k hk)
      · have hl : vs.length = lvs L.length := by have := h.lev.row.1; omega
        rw [List.getD_eq_getElem?_getD, List.getElem?_eq_none (by omega)]
        exact fun e => by cases e
  · cases e
    have := h.mp.lt
    omega
theorem TrQ.weak {w : World} {lo tb : Nat} {L : List (Nat → Nat)} (h : TrQ q w lo tb L) : Tr w lo tb L := by
  obtain ⟨mb, D, lv, vs, h⟩ := h
  exact ⟨mb, D, lv, vs, ⟨h.lev.tl, h.lev.cell, h.lev.row, h.lev.lev, h.lev.ap, h.lev.lt, fun b' e => by cases e⟩, h.mp, h.ml, h.is, h.lt, fun b' e => by cases e⟩
theorem TrAt.lo {w : World} {lo tb mb : Nat} {L : List (Nat → Nat)} {D : DataW Unit} {lv : Value} {vs : List Value} (h : TrAt q w lo tb L mb D lv vs) : lo ≤ w.heap.size := Nat.le_trans h.lev.tl (Nat.le_of_lt (Array.getElem?_eq_some_iff.1 h.lev.cell).1)
/-- The leaves themselves. -/
theorem TrAt.leaves {w : World} {lo tb mb : Nat} {L : List (Nat → Nat)} {D : DataW Unit} {lv : Value} {vs : List Value} (h : TrAt q w lo tb L mb D lv vs) {k : Nat} (hk : k < lvs L.length) : ∃ a cap, vs.getD k nilV = .slice a (lvl L k).length cap ∧ SsAt w a (lvl L k) ∧ (lvl L k).length ≤ cap := ss_own (fun F hF => h.lev.lt k F hk hF) rfl (h.lev.lev k hk)
theorem len_d {w : World} {lo tb : Nat} {L : List (Nat → Nat)} (h : TrQ q w lo tb L) : Calls Tryd.prog 14 #[.pointer (some ⟨tb, 0, none⟩)] w fun e w' => e = .returned (.int .i64 ((L.length : Nat) : Int)) ∧ w' = w := by
  obtain ⟨mb, D, lv, vs, h⟩ := h
  rcases Nat.eq_zero_or_pos L.length with e | e
  · have hl : lvs L.length = 0 := by rw [e]; rfl
    have hc := level_out h.lev (k := 0) (.inr (by rw [hl]; exact Int.le_refl _))
    rw [e]
    clear h e hl
    go_enter Tryd.func14, Tryd.ntmps14
    go_wp2_with fail
    refine hc.mono ?_
    rintro e w' ⟨rfl, rfl⟩
    go_wp2
    go_ret
    exact ⟨rfl, rfl⟩
  · have hl : 0 < lvs L.length := lvs_lt.2 (by rw [Nat.pow_zero]; omega)
    have hc := level_in h.lev hl
    obtain ⟨a, cap, e1, -, -⟩ := h.leaves hl
    rw [e1, lvl_0] at hc
    clear h e hl e1
    go_enter Tryd.func14, Tryd.ntmps14
    go_wp2_with fail
    refine hc.mono ?_
    rintro e w' ⟨rfl, rfl⟩
    go_wp2
    go_ret
    exact ⟨rfl, rfl⟩
theorem len_nil (w : World) : Calls Tryd.prog 14 #[.pointer none] w fun e w' => e = .returned (.int .i64 0) ∧ w' = w := by
  go_enter Tryd.func14, Tryd.ntmps14
  go_wp2_with fail
  refine (level_nil 0 w).mono ?_
  rintro e w' ⟨rfl, rfl⟩
  go_wp2
  go_ret
  exact ⟨rfl, rfl⟩
theorem atKey_empty (kl : Lit) (z : DataW Unit) : (DataW.map [] : DataW Unit).atKey kl z = z := by rfl
theorem new_d (w : World) : Calls Tryd.prog 9 #[] w fun e w' => e = .returned (.pointer (some ⟨w.heap.size + 1, 0, none⟩)) ∧ Tr w' w.heap.size (w.heap.size + 1) [] ∧ Below w.heap.size w w' := by
  have hmm := @run_makeMap Tryd.prog
  go_enter Tryd.func9, Tryd.ntmps9
  go_wp2
  go_ret
  have h1 := World.ownsMap_made w Tryd.prog 27 (plainElem (H := Unit) Tryd.prog 3)
  refine ⟨by simp, ⟨w.heap.size, _, nilV, [], ⟨by omega, ?_, World.ownsRow_nil _ _ _ _, fun k hk => absurd hk (by show ¬ k < 0; omega), fun i j g hi => absurd hi (by show ¬ i < 0; omega), fun k F hk => absurd hk (by show ¬ k < 0; omega), fun b e => by cases e⟩, h1.alloc _, Nat.le_refl _, fun F kl _ _ z => rfl, (fun F hF => by cases hF), fun b e => by cases e⟩, ((Below.refl _ _).alloc (Nat.le_refl _) _).alloc (by simp) _⟩
  have := (MapKept.heap_alloc (w.alloc (.map #[] 0)) (.cells #[nilV, .map (some w.heap.size)] 62)).1
  rwa [show (w.alloc (.map #[] 0)).heap.size = w.heap.size + 1 by simp] at this
end Go.Proofs.YtdofoampjlebbaaDoor

namespace Go.Proofs.YtdofoampjlebbaaDoor
open Go.RowKit Go.Maps Sh
variable {q : Option Nat}

theorem eqD_symm {F G : Nat → Nat} : eqD F G = eqD G F := by
  rw [Bool.eq_iff_iff, eqD_iff, eqD_iff]
  exact ⟨fun h i hi => (h i hi).symm, fun h i hi => (h i hi).symm⟩
theorem fstI_cong {F G : Nat → Nat} (h : eqD F G = true) : ∀ L, fstI L F = fstI L G
  | [] => rfl
  | H :: r => by
    have e : eqD H F = eqD H G := by
      rw [Bool.eq_iff_iff, eqD_iff, eqD_iff]
      exact ⟨fun k i hi => (k i hi).trans (eqD_iff.1 h i hi), fun k i hi => (k i hi).trans (eqD_iff.1 h i hi).symm⟩
    unfold fstI
    rw [e, fstI_cong h r]
theorem fstI_snoc (F G : Nat → Nat) : ∀ L, fstI (L ++ [F]) G = match fstI L G with | some i => some i | none => if eqD F G then some L.length else none
  | [] => by
    show (if eqD F G then some 0 else none) = if eqD F G then some 0 else none
    rfl
  | H :: r => by
    show (if eqD H G then some 0 else (fstI (r ++ [F]) G).map (· + 1)) = match (if eqD H G then some 0 else (fstI r G).map (· + 1)) with | some i => some i | none => if eqD F G then some (r.length + 1) else none
    cases eqD H G with
    | true => rfl
    | false =>
      rw [fstI_snoc F G r]
      simp only [Bool.false_eq_true, if_false]
      cases fstI r G with
      | some i => rfl
      | none => cases eqD F G <;> rfl
theorem fstI_lt {F : Nat → Nat} : ∀ {L : List (Nat → Nat)} {i : Nat}, fstI L F = some i → i < L.length
  | [], i, h => by cases h
  | H :: r, i, h => by
    unfold fstI at h
    split at h
    · cases h; simp
    · obtain ⟨j, hj, rfl⟩ := Option.map_eq_some_iff.1 h
      have := fstI_lt hj
      simp; omega
theorem agg_inj {a b : Array Value} (h : Value.agg a = Value.agg b) : a = b := by cases h; rfl
theorem ab_inj {F G : Nat → Nat} (h : ab 32 F = ab 32 G) : eqD F G = true := by
  rw [eqD_iff]
  intro i hi
  have e1 : (ab 32 F)[i]? = some (.int .u8 ((F i : Nat) : Int)) := arr_get _ _ _ hi
  have e2 : (ab 32 G)[i]? = some (.int .u8 ((G i : Nat) : Int)) := arr_get _ _ _ hi
  generalize ab 32 F = A at h e1
  subst h
  rw [e1] at e2
  have e3 := Option.some.inj e2
  have e4 : ((F i : Nat) : Int) = ((G i : Nat) : Int) := by injection e3
  omega
theorem key_eq {F G : Nat → Nat} {k : Lit} (hF : keyOf Tryd.prog 27 (.agg (ab 32 F)) = some k) (hG : keyOf Tryd.prog 27 (.agg (ab 32 G)) = some k) : eqD F G = true := by
  refine ab_inj ?_
  generalize ab 32 F = A at hF ⊢
  generalize ab 32 G = B at hG ⊢
  exact agg_inj (keyL.inj hF hG)
theorem eq_key {F G : Nat → Nat} {k l : Lit} (h : eqD F G = true) (hF : keyOf Tryd.prog 27 (.agg (ab 32 F)) = some k) (hG : keyOf Tryd.prog 27 (.agg (ab 32 G)) = some l) : k = l := by
  have e : ab 32 F = ab 32 G := arr_congr fun i hi => by rw [eqD_iff.1 h i hi]
  rw [e, hG] at hF
  exact (Option.some.inj hF).symm
theorem look_i {w : World} {b n : Nat} {D : DataW Unit} {L : List (Nat → Nat)} {F : Nat → Nat} (h : w.ownsMap Tryd.prog 27 (plainElem Tryd.prog 3) b n D) (his : mapIs D L) (hF : ∀ j, F j < 256) :
    (Instr.lookup 59 (.map (some b)) (.agg (ab 32 F)) true).run Tryd.prog w = .ok (.tuple #[.int .i64 (((fstI L F).getD 0 : Nat) : Int), .bool (fstI L F).isSome]) w := by
  obtain ⟨kl, hk⟩ := key_s F hF
  have hi := his F kl hF hk
  obtain ⟨es, clock, hb, hFt, _, rfl⟩ := h
  have hz : (zeroValue 3).run Tryd.prog w = .ok (.int .i64 0) w := by kernel_rfl
  rcases fit_look true keyL Tryd.underlying59 hz hb hFt hk with ⟨h1, _, h2⟩ | ⟨e0, y, _, _, h1, h2, h3, _⟩
  · cases e : fstI L F with
    | none => exact h1
    | some i =>
      rw [e] at hi
      have h4 := hi .nil
      rw [h2] at h4
      cases h4
  · obtain ⟨c, e1, e2, _⟩ := plainElem_int_inv Tryd.underlying3 h2
    cases e : fstI L F with
    | none =>
      rw [e] at hi
      have h4 := hi .nil
      rw [h3, e2] at h4
      cases h4
    | some i =>
      rw [e] at hi
      have h4 := hi .nil
      rw [h3, e2] at h4
      have h5 : c = ((i : Nat) : Int) := by
        simp only [DataW.lit.injEq, Lit.int.injEq, true_and] at h4
        exact h4
      rw [h1, e1, h5]; rfl
theorem mapIs_same {D : DataW Unit} {L : List (Nat → Nat)} {F : Nat → Nat} (h : mapIs D L) {i : Nat} (hf : fstI L F = some i) : mapIs D (L ++ [F]) := by
  intro G kl hG hk z
  rw [h G kl hG hk z, fstI_snoc]
  cases e : fstI L G with
  | some j => rfl
  | none =>
    cases e2 : eqD F G with
    | false => rfl
    | true => rw [fstI_cong e2, e] at hf; cases hf
theorem mapIs_put {D : DataW Unit} {L : List (Nat → Nat)} {F : Nat → Nat} {kl : Lit} (hD : IsMap D) (h : mapIs D L) (hk : keyOf Tryd.prog 27 (.agg (ab 32 F)) = some kl) (hf : fstI L F = none) : mapIs (D.put kl (.lit (.int .i64 ((L.length : Nat) : Int)))) (L ++ [F]) := by
  intro G kg hG hkg z
  rw [fstI_snoc]
  by_cases e : kg = kl
  · subst e
    have he := key_eq hk hkg
    rw [← fstI_cong he, hf, he, atKey_put_same hD (keyL.key hk)]; rfl
  · rw [atKey_put_other e, h G kg hG hkg z]
    have he : eqD F G = false := by
      rcases Bool.eq_false_or_eq_true (eqD F G) with h1 | h1
      · exact absurd (eq_key h1 hk hkg).symm e
      · exact h1
    rw [he]
    cases fstI L G <;> rfl
theorem ld_mp {w : World} {b o : Nat} {v : Value} (h1 : w.cell? ⟨b, o, none⟩ = some v) : (Instr.loadAt 59 (.pointer (some ⟨b, o, none⟩))).run Tryd.prog w = .ok v w := by
  simp [Instr.loadAt, Instr.sureAddr, go_sem, h1]
/-- A tree whose map was turned. -/
theorem LvAt.mapped {w w' : World} {lo tb K mb : Nat} {M : Nat → List (Nat → Nat)} {mv lv : Value} {vs : List Value} (h : LvAt q w lo tb mv K M lv vs) (hm : ∃ es c, w.heap[mb]? = some (.map es c)) (hg : w.grownBy w' (some mb)) : LvAt q w' lo tb mv K M lv vs := by
  obtain ⟨es, c, hm⟩ := hm
  have hne : ∀ q cc t, w.heap[q]? = some (.cells cc t (0, 0)) → some q ≠ some mb := fun q cc t hq e => by
    cases e; rw [hm] at hq; cases hq
  refine ⟨h.tl, (hg.block tb (Array.getElem?_eq_some_iff.1 h.cell).1 (hne _ _ _ h.cell)).trans h.cell, own_grown h.row hg (fun q e => ?_), fun k hk => own_grown (h.lev k hk) hg (fun q e => ?_), h.ap, h.lt, fun b e => ⟨Nat.lt_of_lt_of_le (h.av b e).1 hg.size, (h.av b e).2⟩⟩
  · obtain ⟨_, c2, h2⟩ := own_lt h.row e
    exact hne _ _ _ h2
  · obtain ⟨_, c2, h2⟩ := own_lt (h.lev k hk) e
    exact hne _ _ _ h2
theorem isMap_o {w : World} {P : Program} {k : TypeId} {R : Value → Option (DataW Unit × List MemPlace)} {b n : Nat} {D : DataW Unit} (h : w.ownsMap P k R b n D) : IsMap D := by
  obtain ⟨es, clock, _, _, _, rfl⟩ := h
  exact ⟨_, rfl⟩
theorem wf_n {n : Nat} (h : n ≤ 1000000000) : (Lit.int .i64 ((n : Nat) : Int)).wf = true := by
  simp only [Lit.wf, Bool.and_eq_true, decide_eq_true_eq]
  have e1 : IntKind.i64.min = -9223372036854775808 := rfl
  have e2 : IntKind.i64.max = 9223372036854775807 := rfl
  omega
end Go.Proofs.YtdofoampjlebbaaDoor

namespace Go.Proofs.YtdofoampjlebbaaDoor
open Go.RowKit Go.Maps Sh
set_option linter.unusedVariables false
variable {q : Option Nat}
def FN3 (tb b0 mb : Nat) (F : Nat → Nat) (r : Option Nat) : (Nat → Bool) → Nat → Value → World → Prop
  | _, 0, v, _ => v = .pointer (some ⟨tb, 0, none⟩)
  | _, 1, v, _ => v = .pointer (some ⟨tb, 0, none⟩)
  | _, 2, v, _ => v = .pointer (some ⟨tb, 1, none⟩)
  | _, 3, v, _ => v = .map (some mb)
  | _, 4, v, _ => v = .agg (ab 32 F)
  | _, 5, v, _ => v = .tuple #[.int .i64 ((r.getD 0 : Nat) : Int), .bool r.isSome]
  | _, 6, v, _ => v = .tuple #[.int .i64 ((r.getD 0 : Nat) : Int), .bool r.isSome]
  | _, 7, v, _ => v = .int .i64 ((r.getD 0 : Nat) : Int)
  | _, 8, v, _ => v = .bool r.isSome
  | _, 9, v, _ => v = .int .i64 ((r.getD 0 : Nat) : Int)
  | _, 10, v, _ => v = .bool r.isSome
  | _, _, _, _ => True
def FN3d : Nat → Nat
  | 0 => 11
  | 1 => 12
  | 2 => 13
  | 3 => 14
  | 4 => 15
  | 5 => 16
  | 6 => 10
  | 7 => 17
  | 8 => 18
  | 9 => 6
  | 10 => 7
  | i => 2000 + i
theorem FN3_mono (tb b0 mb : Nat) (F : Nat → Nat) (r : Option Nat) {D : Nat → Bool} {ix : Nat} {w w' : World} (_hD : D ix = false) (hb : Below w.heap.size w w') : ∀ (j : Nat) (u : Value), j ≠ ix → FN3 tb b0 mb F r D j u w → FN3 tb b0 mb F r (add1 D ix) j u w'
  | 0, _, _, h => h
  | 1, _, _, h => h
  | 2, _, _, h => h
  | 3, _, _, h => h
  | 4, _, _, h => h
  | 5, _, _, h => h
  | 6, _, _, h => h
  | 7, _, _, h => h
  | 8, _, _, h => h
  | 9, _, _, h => h
  | 10, _, _, h => h
  | _ + 11, _, _, _ => trivial
set_option maxHeartbeats 4000000 in
set_option maxRecDepth 100000 in
theorem find_d {w : World} {lo tb : Nat} {L : List (Nat → Nat)} {F : Nat → Nat} (h : Tr w lo tb L) (hF : ∀ j, F j < 256) : Calls Tryd.prog 22 #[.pointer (some ⟨tb, 0, none⟩), .agg (ab 32 F)] w fun e w' => e = .returned (.tuple #[.int .i64 (((fstI L F).getD 0 : Nat) : Int), .bool (fstI L F).isSome]) ∧ Below w.heap.size w w' := by
  obtain ⟨mb, DM, lv, vs, h⟩ := h
  obtain ⟨A, hA⟩ : ∃ A, Hid (A = ab 32 F) := ⟨_, hide1 rfl⟩
  have bxA : ∀ w : World, (Instr.box 27 (.agg A)).run Tryd.prog w = .ok (.pointer (some ⟨w.heap.size, 0, none⟩)) (w.alloc (.cells A 27)) := fun w => bx_agg w
  have hal : Below w.heap.size w (w.alloc (.cells A 27)) := (Below.refl _ _).alloc (Nat.le_refl _) _
  have hb0 : (w.alloc (.cells A 27)).heap[w.heap.size]? = some (.cells A 27 (0, 0)) := (MapKept.heap_alloc w _).1
  have h1 := h.later hal
  obtain ⟨b0, hb00⟩ : ∃ b0, Hid (b0 = w.heap.size) := ⟨_, hide1 rfl⟩
  rw [← hb00.out] at hb0
  have hc1 := h1.lev.c1
  rw [← hA.out]
  clear h
  go_enter Tryd.func22, Tryd.ntmps22
  go_upto_region 3 with fail
  generalize w.alloc (.cells A 27) = w1 at h1 hb0 hc1 hal ⊢
  rw [← hb00.out]
  clear bxA
  rw [hA.out] at hb0 ⊢
  have hl3 : ∀ w', Below w1.heap.size w1 w' → (Instr.loadAt 59 (.pointer (some ⟨tb, 1, none⟩))).run Tryd.prog w' = .ok (.map (some mb)) w' := fun w' hb => ld_mp (cell_later hb hc1)
  have hl4 : ∀ w', Below w1.heap.size w1 w' → (Instr.loadAt 27 (.pointer (some ⟨b0, 0, none⟩))).run Tryd.prog w' = .ok (.agg (ab 32 F)) w' := fun w' hb => ldS 27 w' b0 ((hb.block b0 (Array.getElem?_eq_some_iff.1 hb0).1).trans hb0)
  have hlk : ∀ w', Below w1.heap.size w1 w' → (Instr.lookup 59 (.map (some mb)) (.agg (ab 32 F)) true).run Tryd.prog w' = .ok (.tuple #[.int .i64 (((fstI L F).getD 0 : Nat) : Int), .bool (fstI L F).isSome]) w' := fun w' hb => look_i (map_later h1.mp hb) h1.is hF
  obtain ⟨r, hrr⟩ : ∃ r, Hid (fstI L F = r) := ⟨_, hide1 rfl⟩
  rw [hrr.out] at hlk
  clear h1
  refine wp_rel3 _ _ (FN3 tb b0 mb F r) (fun _ w => Below w1.heap.size w1 w) FN3d (by kernel_rfl) (by kernel_rfl) 11 (by kernel_rfl) ?_ ?_ rfl ((Below.refl _ _).drew) ?_ ?_
  · intro ix o ho
    match ix, ho with
    | 0, ho => obtain rfl := Option.some.inj ho; exact .inl ⟨rfl, by show 11 < 21; decide⟩
    | 1, ho => obtain rfl := Option.some.inj ho; exact .inl ⟨rfl, by show 12 < 21; decide⟩
    | 2, ho => obtain rfl := Option.some.inj ho; exact .inl ⟨rfl, by show 13 < 21; decide⟩
    | 3, ho => obtain rfl := Option.some.inj ho; exact .inl ⟨rfl, by show 14 < 21; decide⟩
    | 4, ho => obtain rfl := Option.some.inj ho; exact .inl ⟨rfl, by show 15 < 21; decide⟩
    | 5, ho => obtain rfl := Option.some.inj ho; exact .inl ⟨rfl, by show 16 < 21; decide⟩
    | 6, ho => obtain rfl := Option.some.inj ho; exact .inl ⟨rfl, by show 10 < 21; decide⟩
    | 7, ho => obtain rfl := Option.some.inj ho; exact .inl ⟨rfl, by show 17 < 21; decide⟩
    | 8, ho => obtain rfl := Option.some.inj ho; exact .inl ⟨rfl, by show 18 < 21; decide⟩
    | 9, ho => obtain rfl := Option.some.inj ho; exact .inl ⟨rfl, by show 6 < 21; decide⟩
    | 10, ho => obtain rfl := Option.some.inj ho; exact .inl ⟨rfl, by show 7 < 21; decide⟩
    | _ + 11, ho => exact absurd ho (by simp)
  · intro ix jx hi hj e; unfold FN3d at e; split at e <;> split at e <;> omega
  · intro ix o ho
    match ix, ho with
    | 0, ho =>
      obtain rfl := Option.some.inj ho
      intro D a w hM hsl hdep hDi hcl K hK
      have hp0 : a.tmps.getD 0 undef = .pointer (some ⟨tb, 0, none⟩) := hsl 0 (by intro j hj; unfold FN3d; split <;> omega)
      refine ⟨rfl, ?_⟩
      refine wp_val (w' := w) (v := .pointer (some ⟨tb, 0, none⟩)) (by simp only [execOp, Act.eval]; rw [show a.tmps.getD 0 undef = _ from hp0]; rfl) ?_
      exact hK _ _ rfl hM (FN3_mono tb b0 mb F r hDi ((Below.refl _ _)))
    | 1, ho =>
      obtain rfl := Option.some.inj ho
      intro D a w hM hsl hdep hDi hcl K hK
      have e0 := (hdep ⟨0, .data⟩ (by simp) rfl).1
      refine ⟨rfl, ?_⟩
      refine wp_val (w' := w) (v := .pointer (some ⟨tb, 0, none⟩)) (by simp only [execOp, Act.eval]; rw [show a.tmps.getD 11 undef = _ from e0]; kernel_rfl) ?_
      exact hK _ _ rfl hM (FN3_mono tb b0 mb F r hDi ((Below.refl _ _)))
    | 2, ho =>
      obtain rfl := Option.some.inj ho
      intro D a w hM hsl hdep hDi hcl K hK
      have e1 := (hdep ⟨1, .data⟩ (by simp) rfl).1
      refine ⟨rfl, ?_⟩
      refine wp_val (w' := w) (v := .pointer (some ⟨tb, 1, none⟩)) (by simp only [execOp, Act.eval]; rw [show a.tmps.getD 12 undef = _ from e1]; kernel_rfl) ?_
      exact hK _ _ rfl hM (FN3_mono tb b0 mb F r hDi ((Below.refl _ _)))
    | 3, ho =>
      obtain rfl := Option.some.inj ho
      intro D a w hM hsl hdep hDi hcl K hK
      have e2 := (hdep ⟨2, .data⟩ (by simp) rfl).1
      refine ⟨rfl, ?_⟩
      have hl := hl3 w hM
      refine wp_val (w' := w) (v := .map (some mb)) (by simp only [execOp, Act.eval]; rw [show a.tmps.getD 13 undef = _ from e2]; simp only [Sem.run_bind, hl, Result.andThen_ok, Sem.run_pure]) ?_
      exact hK _ _ rfl hM (FN3_mono tb b0 mb F r hDi ((Below.refl _ _)))
    | 4, ho =>
      obtain rfl := Option.some.inj ho
      intro D a w hM hsl hdep hDi hcl K hK
      have hp3 : a.tmps.getD 3 undef = .pointer (some ⟨b0, 0, none⟩) := hsl 3 (by intro j hj; unfold FN3d; split <;> omega)
      refine ⟨rfl, ?_⟩
      have hl := hl4 w hM
      refine wp_val (w' := w) (v := .agg (ab 32 F)) (by simp only [execOp, Act.eval]; rw [show a.tmps.getD 3 undef = _ from hp3]; simp only [Sem.run_bind, hl, Result.andThen_ok, Sem.run_pure]) ?_
      exact hK _ _ rfl hM (FN3_mono tb b0 mb F r hDi ((Below.refl _ _)))
    | 5, ho =>
      obtain rfl := Option.some.inj ho
      intro D a w hM hsl hdep hDi hcl K hK
      have e3 := (hdep ⟨3, .data⟩ (by simp) rfl).1
      have e4 := (hdep ⟨4, .data⟩ (by simp) rfl).1
      refine ⟨rfl, ?_⟩
      have hl := hlk w hM
      refine wp_val (w' := w) (v := .tuple #[.int .i64 ((r.getD 0 : Nat) : Int), .bool r.isSome]) (by simp only [execOp, Act.eval]; rw [show a.tmps.getD 14 undef = _ from e3, show a.tmps.getD 15 undef = _ from e4]; simp only [Sem.run_bind, hl, Result.andThen_ok, Sem.run_pure]) ?_
      exact hK _ _ rfl hM (FN3_mono tb b0 mb F r hDi ((Below.refl _ _)))
    | 6, ho =>
      obtain rfl := Option.some.inj ho
      intro D a w hM hsl hdep hDi hcl K hK
      have e5 := (hdep ⟨5, .data⟩ (by simp) rfl).1
      refine ⟨rfl, ?_⟩
      refine wp_val (w' := w) (v := .tuple #[.int .i64 ((r.getD 0 : Nat) : Int), .bool r.isSome]) (by simp only [execOp, Act.eval]; rw [show a.tmps.getD 16 undef = _ from e5]; rfl) ?_
      exact hK _ _ rfl hM (FN3_mono tb b0 mb F r hDi ((Below.refl _ _)))
    | 7, ho =>
      obtain rfl := Option.some.inj ho
      intro D a w hM hsl hdep hDi hcl K hK
      have e6 := (hdep ⟨6, .data⟩ (by simp) rfl).1
      refine ⟨rfl, ?_⟩
      refine wp_val (w' := w) (v := .int .i64 ((r.getD 0 : Nat) : Int)) (by simp only [execOp, Act.eval]; rw [show a.tmps.getD 10 undef = _ from e6]; kernel_rfl) ?_
      exact hK _ _ rfl hM (FN3_mono tb b0 mb F r hDi ((Below.refl _ _)))
    | 8, ho =>
      obtain rfl := Option.some.inj ho
      intro D a w hM hsl hdep hDi hcl K hK
      have e6 := (hdep ⟨6, .data⟩ (by simp) rfl).1
      refine ⟨rfl, ?_⟩
      refine wp_val (w' := w) (v := .bool r.isSome) (by simp only [execOp, Act.eval]; rw [show a.tmps.getD 10 undef = _ from e6]; kernel_rfl) ?_
      exact hK _ _ rfl hM (FN3_mono tb b0 mb F r hDi ((Below.refl _ _)))
    | 9, ho =>
      obtain rfl := Option.some.inj ho
      intro D a w hM hsl hdep hDi hcl K hK
      have e7 := (hdep ⟨7, .data⟩ (by simp) rfl).1
      refine ⟨rfl, ?_⟩
      refine wp_val (w' := w) (v := .int .i64 ((r.getD 0 : Nat) : Int)) (by simp only [execOp, Act.eval]; rw [show a.tmps.getD 17 undef = _ from e7]; rfl) ?_
      exact hK _ _ rfl hM (FN3_mono tb b0 mb F r hDi ((Below.refl _ _)))
    | 10, ho =>
      obtain rfl := Option.some.inj ho
      intro D a w hM hsl hdep hDi hcl K hK
      have e8 := (hdep ⟨8, .data⟩ (by simp) rfl).1
      refine ⟨rfl, ?_⟩
      refine wp_val (w' := w) (v := .bool r.isSome) (by simp only [execOp, Act.eval]; rw [show a.tmps.getD 18 undef = _ from e8]; rfl) ?_
      exact hK _ _ rfl hM (FN3_mono tb b0 mb F r hDi ((Below.refl _ _)))
    | _ + 11, ho => exact absurd ho (by simp)
  · intro D a u hall hd hs hM hsl hr
    obtain ⟨tm, df⟩ := a
    obtain rfl : df = [] := hd
    replace hs : tm.size = 21 := hs
    have t0 : tm.getD 0 undef = .pointer (some ⟨tb, 0, none⟩) := hsl 0 (by intro j hj; unfold FN3d; split <;> omega)
    have t6 : tm.getD 6 undef = .int .i64 ((r.getD 0 : Nat) : Int) := hr 9 (by decide)
    have t7 : tm.getD 7 undef = .bool r.isSome := hr 10 (by decide)
    have htm := tm_all tm (n := 21) hs
    obtain ⟨xx, hxx⟩ : ∃ x : Nat → Value, ∀ i, x i = tm.getD i undef := ⟨_, fun _ => rfl⟩
    replace htm : tm = #[.pointer (some ⟨tb, 0, none⟩), xx 1, xx 2, xx 3, xx 4, xx 5, .int .i64 ((r.getD 0 : Nat) : Int), .bool r.isSome, xx 8, xx 9, xx 10, xx 11, xx 12, xx 13, xx 14, xx 15, xx 16, xx 17, xx 18, xx 19, xx 20] := by
      refine htm.trans ?_
      show #[tm.getD 0 undef, tm.getD 1 undef, tm.getD 2 undef, tm.getD 3 undef, tm.getD 4 undef, tm.getD 5 undef, tm.getD 6 undef, tm.getD 7 undef, tm.getD 8 undef, tm.getD 9 undef, tm.getD 10 undef, tm.getD 11 undef, tm.getD 12 undef, tm.getD 13 undef, tm.getD 14 undef, tm.getD 15 undef, tm.getD 16 undef, tm.getD 17 undef, tm.getD 18 undef, tm.getD 19 undef, tm.getD 20 undef] = _
      rw [t0, t6, t7]
      simp only [hxx]
    subst htm
    clear hxx hs hsl hr
    clear t0 t6 t7 hall hl3 hl4 hlk
    refine (‹∀ (a : Act) (w : World), Code.wp Tryd.prog _ _ a w → _›) _ u ?_
    go_wp2
    go_ret2
    exact ⟨by rw [hrr.out]; rfl, blw hal hM⟩
def AD4 (tb b0 mb : Nat) (F : Nat → Nat) (r : Option Nat) : (Nat → Bool) → Nat → Value → World → Prop
  | _, 0, v, _ => v = .pointer (some ⟨tb, 0, none⟩)
  | _, 1, v, _ => v = .pointer (some ⟨tb, 0, none⟩)
  | _, 2, v, _ => v = .pointer (some ⟨tb, 1, none⟩)
  | _, 3, v, _ => v = .map (some mb)
  | _, 4, v, _ => v = .agg (ab 32 F)
  | _, 5, v, _ => v = .tuple #[.int .i64 ((r.getD 0 : Nat) : Int), .bool r.isSome]
  | _, 6, v, _ => v = .tuple #[.int .i64 ((r.getD 0 : Nat) : Int), .bool r.isSome]
  | _, 7, v, _ => v = .int .i64 ((r.getD 0 : Nat) : Int)
  | _, 8, v, _ => v = .bool r.isSome
  | _, 9, v, _ => v = .int .i64 ((r.getD 0 : Nat) : Int)
  | _, 10, v, _ => v = .bool r.isSome
  | _, _, _, _ => True
def AD4d : Nat → Nat
  | 0 => 20
  | 1 => 21
  | 2 => 22
  | 3 => 23
  | 4 => 24
  | 5 => 25
  | 6 => 19
  | 7 => 26
  | 8 => 27
  | 9 => 7
  | 10 => 8
  | i => 2000 + i
theorem AD4_mono (tb b0 mb : Nat) (F : Nat → Nat) (r : Option Nat) {D : Nat → Bool} {ix : Nat} {w w' : World} (_hD : D ix = false) (hb : Below w.heap.size w w') : ∀ (j : Nat) (u : Value), j ≠ ix → AD4 tb b0 mb F r D j u w → AD4 tb b0 mb F r (add1 D ix) j u w'
  | 0, _, _, h => h
  | 1, _, _, h => h
  | 2, _, _, h => h
  | 3, _, _, h => h
  | 4, _, _, h => h
  | 5, _, _, h => h
  | 6, _, _, h => h
  | 7, _, _, h => h
  | 8, _, _, h => h
  | 9, _, _, h => h
  | 10, _, _, h => h
  | _ + 11, _, _, _ => trivial
def AD6 (tb b0 mb : Nat) (F : Nat → Nat) (N : Nat) : (Nat → Bool) → Nat → Value → World → Prop
  | _, 0, v, _ => v = .pointer (some ⟨tb, 0, none⟩)
  | _, 1, v, _ => v = .pointer (some ⟨tb, 0, none⟩)
  | _, 2, v, _ => v = .pointer (some ⟨tb, 1, none⟩)
  | _, 3, v, _ => v = .map (some mb)
  | _, 4, v, _ => v = .agg (ab 32 F)
  | _, 5, v, _ => v = .int .i64 ((N : Nat) : Int)
  | _, 6, _, _ => True
  | _, _, _, _ => True
def AD6d : Nat → Nat
  | 0 => 30
  | 1 => 31
  | 2 => 32
  | 3 => 33
  | 4 => 34
  | 5 => 35
  | 6 => 1006
  | i => 2000 + i
theorem AD6_mono (tb b0 mb : Nat) (F : Nat → Nat) (N : Nat) {D : Nat → Bool} {ix : Nat} {w w' : World} (hD : D ix = false) (hb : ix ≠ 6 → Below w.heap.size w w') : ∀ (j : Nat) (u : Value), j ≠ ix → AD6 tb b0 mb F N D j u w → AD6 tb b0 mb F N (add1 D ix) j u w'
  | 0, _, _, h => h
  | 1, _, _, h => h
  | 2, _, _, h => h
  | 3, _, _, h => h
  | 4, _, _, h => h
  | 5, _, _, h => h
  | 6, _, _, h => h
  | _ + 7, _, _, _ => trivial
/-- Memory ahead of a store and behind it. -/
def MM (w1 : World) (q : Nat) (J : World → Prop) (D : Nat → Bool) (w : World) : Prop := (D q = false → Below w1.heap.size w1 w) ∧ (D q = true → J w)
theorem MM.same {w1 : World} {q i : Nat} {J : World → Prop} {D : Nat → Bool} {w : World} (h : MM w1 q J D w) (hi : i ≠ q) : MM w1 q J (add1 D i) w := ⟨fun e => h.1 (by rwa [add1_ne (fun x => hi x.symm)] at e), fun e => h.2 (by rwa [add1_ne (fun x => hi x.symm)] at e)⟩
set_option maxHeartbeats 4000000 in
set_option maxRecDepth 100000 in
theorem add_f {w : World} {lo tb : Nat} {L : List (Nat → Nat)} {F : Nat → Nat} (h : TrQ q w lo tb L) (hF : ∀ j, F j < 256) (hg : Gl w) (hgo : GlLo lo) (hn : L.length < 1048576) {i0 : Nat} (hfi : fstI L F = some i0) : Calls Tryd.prog 13 #[.pointer (some ⟨tb, 0, none⟩), .agg (ab 32 F)] w fun e w' => e = .returned (.tuple #[.int .i64 ((L.length : Nat) : Int), .nilIface]) ∧ TrQ q w' lo tb (L ++ [F]) ∧ Bq q lo w w' := by
  have hT := h
  obtain ⟨mb, DM, lv, vs, h⟩ := h
  obtain ⟨A, hA⟩ : ∃ A, Hid (A = ab 32 F) := ⟨_, hide1 rfl⟩
  have bxA : ∀ w : World, (Instr.box 27 (.agg A)).run Tryd.prog w = .ok (.pointer (some ⟨w.heap.size, 0, none⟩)) (w.alloc (.cells A 27)) := fun w => bx_agg w
  have hal : Below w.heap.size w (w.alloc (.cells A 27)) := (Below.refl _ _).alloc (Nat.le_refl _) _
  have hb0 : (w.alloc (.cells A 27)).heap[w.heap.size]? = some (.cells A 27 (0, 0)) := (MapKept.heap_alloc w _).1
  have h1 := h.later hal
  obtain ⟨b0, hb00⟩ : ∃ b0, Hid (b0 = w.heap.size) := ⟨_, hide1 rfl⟩
  rw [← hb00.out] at hb0
  have hc1 := h1.lev.c1
  have hlw := h.lo
  have hle := fun w' (hb : Below w.heap.size w w') => len_d (hT.later hb)
  have hnq : decide ((1048576 : Int) ≤ ((L.length : Nat) : Int)) = false := decide_eq_false (by omega)
  obtain ⟨n, hnn⟩ : ∃ n, Hid (n = L.length) := ⟨_, hide1 rfl⟩
  rw [← hnn.out] at hle hnq ⊢
  have hnH := hide1 hn
  clear hn
  rw [← hA.out]
  go_enter Tryd.func13, Tryd.ntmps13
  go_wp2_with fail
  refine (hle _ hal).mono ?_
  rintro e w' ⟨rfl, rfl⟩
  go_wp2_with fail
  refine (hle _ hal).mono ?_
  rintro e w' ⟨rfl, rfl⟩
  go_upto_region 4 with fail
  generalize w.alloc (.cells A 27) = w1 at h1 hb0 hc1 hal ⊢
  rw [← hb00.out]
  clear bxA hle hnq
  rw [hA.out] at hb0 ⊢
  have hn := hnH.out
  have hl3 : ∀ w', Below w1.heap.size w1 w' → (Instr.loadAt 59 (.pointer (some ⟨tb, 1, none⟩))).run Tryd.prog w' = .ok (.map (some mb)) w' := fun w' hb => ld_mp (cell_later hb hc1)
  have hl4 : ∀ w', Below w1.heap.size w1 w' → (Instr.loadAt 27 (.pointer (some ⟨b0, 0, none⟩))).run Tryd.prog w' = .ok (.agg (ab 32 F)) w' := fun w' hb => ldS 27 w' b0 ((hb.block b0 (Array.getElem?_eq_some_iff.1 hb0).1).trans hb0)
  have hlk : ∀ w', Below w1.heap.size w1 w' → (Instr.lookup 59 (.map (some mb)) (.agg (ab 32 F)) true).run Tryd.prog w' = .ok (.tuple #[.int .i64 (((fstI L F).getD 0 : Nat) : Int), .bool (fstI L F).isSome]) w' := fun w' hb => look_i (map_later h1.mp hb) h1.is hF
  obtain ⟨r, hrr⟩ : ∃ r, Hid (fstI L F = r) := ⟨_, hide1 rfl⟩
  rw [hrr.out] at hlk hfi
  refine wp_rel3 _ _ (AD4 tb b0 mb F r) (fun _ w => Below w1.heap.size w1 w) AD4d (by kernel_rfl) (by kernel_rfl) 11 (by kernel_rfl) ?_ ?_ rfl ((Below.refl _ _).drew) ?_ ?_
  · intro ix o ho
    match ix, ho with
    | 0, ho => obtain rfl := Option.some.inj ho; exact .inl ⟨rfl, by show 20 < 40; decide⟩
    | 1, ho => obtain rfl := Option.some.inj ho; exact .inl ⟨rfl, by show 21 < 40; decide⟩
    | 2, ho => obtain rfl := Option.some.inj ho; exact .inl ⟨rfl, by show 22 < 40; decide⟩
    | 3, ho => obtain rfl := Option.some.inj ho; exact .inl ⟨rfl, by show 23 < 40; decide⟩
    | 4, ho => obtain rfl := Option.some.inj ho; exact .inl ⟨rfl, by show 24 < 40; decide⟩
    | 5, ho => obtain rfl := Option.some.inj ho; exact .inl ⟨rfl, by show 25 < 40; decide⟩
    | 6, ho => obtain rfl := Option.some.inj ho; exact .inl ⟨rfl, by show 19 < 40; decide⟩
    | 7, ho => obtain rfl := Option.some.inj ho; exact .inl ⟨rfl, by show 26 < 40; decide⟩
    | 8, ho => obtain rfl := Option.some.inj ho; exact .inl ⟨rfl, by show 27 < 40; decide⟩
    | 9, ho => obtain rfl := Option.some.inj ho; exact .inl ⟨rfl, by show 7 < 40; decide⟩
    | 10, ho => obtain rfl := Option.some.inj ho; exact .inl ⟨rfl, by show 8 < 40; decide⟩
    | _ + 11, ho => exact absurd ho (by simp)
  · intro ix jx hi hj e; unfold AD4d at e; split at e <;> split at e <;> omega
  · intro ix o ho
    match ix, ho with
    | 0, ho =>
      obtain rfl := Option.some.inj ho
      intro D a w hM hsl hdep hDi hcl K hK
      have hp0 : a.tmps.getD 0 undef = .pointer (some ⟨tb, 0, none⟩) := hsl 0 (by intro j hj; unfold AD4d; split <;> omega)
      refine ⟨rfl, ?_⟩
      refine wp_val (w' := w) (v := .pointer (some ⟨tb, 0, none⟩)) (by simp only [execOp, Act.eval]; rw [show a.tmps.getD 0 undef = _ from hp0]; rfl) ?_
      exact hK _ _ rfl hM (AD4_mono tb b0 mb F r hDi ((Below.refl _ _)))
    | 1, ho =>
      obtain rfl := Option.some.inj ho
      intro D a w hM hsl hdep hDi hcl K hK
      have e0 := (hdep ⟨0, .data⟩ (by simp) rfl).1
      refine ⟨rfl, ?_⟩
      refine wp_val (w' := w) (v := .pointer (some ⟨tb, 0, none⟩)) (by simp only [execOp, Act.eval]; rw [show a.tmps.getD 20 undef = _ from e0]; kernel_rfl) ?_
      exact hK _ _ rfl hM (AD4_mono tb b0 mb F r hDi ((Below.refl _ _)))
    | 2, ho =>
      obtain rfl := Option.some.inj ho
      intro D a w hM hsl hdep hDi hcl K hK
      have e1 := (hdep ⟨1, .data⟩ (by simp) rfl).1
      refine ⟨rfl, ?_⟩
      refine wp_val (w' := w) (v := .pointer (some ⟨tb, 1, none⟩)) (by simp only [execOp, Act.eval]; rw [show a.tmps.getD 21 undef = _ from e1]; kernel_rfl) ?_
      exact hK _ _ rfl hM (AD4_mono tb b0 mb F r hDi ((Below.refl _ _)))
    | 3, ho =>
      obtain rfl := Option.some.inj ho
      intro D a w hM hsl hdep hDi hcl K hK
      have e2 := (hdep ⟨2, .data⟩ (by simp) rfl).1
      refine ⟨rfl, ?_⟩
      have hl := hl3 w hM
      refine wp_val (w' := w) (v := .map (some mb)) (by simp only [execOp, Act.eval]; rw [show a.tmps.getD 22 undef = _ from e2]; simp only [Sem.run_bind, hl, Result.andThen_ok, Sem.run_pure]) ?_
      exact hK _ _ rfl hM (AD4_mono tb b0 mb F r hDi ((Below.refl _ _)))
    | 4, ho =>
      obtain rfl := Option.some.inj ho
      intro D a w hM hsl hdep hDi hcl K hK
      have hp3 : a.tmps.getD 3 undef = .pointer (some ⟨b0, 0, none⟩) := hsl 3 (by intro j hj; unfold AD4d; split <;> omega)
      refine ⟨rfl, ?_⟩
      have hl := hl4 w hM
      refine wp_val (w' := w) (v := .agg (ab 32 F)) (by simp only [execOp, Act.eval]; rw [show a.tmps.getD 3 undef = _ from hp3]; simp only [Sem.run_bind, hl, Result.andThen_ok, Sem.run_pure]) ?_
      exact hK _ _ rfl hM (AD4_mono tb b0 mb F r hDi ((Below.refl _ _)))
    | 5, ho =>
      obtain rfl := Option.some.inj ho
      intro D a w hM hsl hdep hDi hcl K hK
      have e3 := (hdep ⟨3, .data⟩ (by simp) rfl).1
      have e4 := (hdep ⟨4, .data⟩ (by simp) rfl).1
      refine ⟨rfl, ?_⟩
      have hl := hlk w hM
      refine wp_val (w' := w) (v := .tuple #[.int .i64 ((r.getD 0 : Nat) : Int), .bool r.isSome]) (by simp only [execOp, Act.eval]; rw [show a.tmps.getD 23 undef = _ from e3, show a.tmps.getD 24 undef = _ from e4]; simp only [Sem.run_bind, hl, Result.andThen_ok, Sem.run_pure]) ?_
      exact hK _ _ rfl hM (AD4_mono tb b0 mb F r hDi ((Below.refl _ _)))
    | 6, ho =>
      obtain rfl := Option.some.inj ho
      intro D a w hM hsl hdep hDi hcl K hK
      have e5 := (hdep ⟨5, .data⟩ (by simp) rfl).1
      refine ⟨rfl, ?_⟩
      refine wp_val (w' := w) (v := .tuple #[.int .i64 ((r.getD 0 : Nat) : Int), .bool r.isSome]) (by simp only [execOp, Act.eval]; rw [show a.tmps.getD 25 undef = _ from e5]; rfl) ?_
      exact hK _ _ rfl hM (AD4_mono tb b0 mb F r hDi ((Below.refl _ _)))
    | 7, ho =>
      obtain rfl := Option.some.inj ho
      intro D a w hM hsl hdep hDi hcl K hK
      have e6 := (hdep ⟨6, .data⟩ (by simp) rfl).1
      refine ⟨rfl, ?_⟩
      refine wp_val (w' := w) (v := .int .i64 ((r.getD 0 : Nat) : Int)) (by simp only [execOp, Act.eval]; rw [show a.tmps.getD 19 undef = _ from e6]; kernel_rfl) ?_
      exact hK _ _ rfl hM (AD4_mono tb b0 mb F r hDi ((Below.refl _ _)))
    | 8, ho =>
      obtain rfl := Option.some.inj ho
      intro D a w hM hsl hdep hDi hcl K hK
      have e6 := (hdep ⟨6, .data⟩ (by simp) rfl).1
      refine ⟨rfl, ?_⟩
      refine wp_val (w' := w) (v := .bool r.isSome) (by simp only [execOp, Act.eval]; rw [show a.tmps.getD 19 undef = _ from e6]; kernel_rfl) ?_
      exact hK _ _ rfl hM (AD4_mono tb b0 mb F r hDi ((Below.refl _ _)))
    | 9, ho =>
      obtain rfl := Option.some.inj ho
      intro D a w hM hsl hdep hDi hcl K hK
      have e7 := (hdep ⟨7, .data⟩ (by simp) rfl).1
      refine ⟨rfl, ?_⟩
      refine wp_val (w' := w) (v := .int .i64 ((r.getD 0 : Nat) : Int)) (by simp only [execOp, Act.eval]; rw [show a.tmps.getD 26 undef = _ from e7]; rfl) ?_
      exact hK _ _ rfl hM (AD4_mono tb b0 mb F r hDi ((Below.refl _ _)))
    | 10, ho =>
      obtain rfl := Option.some.inj ho
      intro D a w hM hsl hdep hDi hcl K hK
      have e8 := (hdep ⟨8, .data⟩ (by simp) rfl).1
      refine ⟨rfl, ?_⟩
      refine wp_val (w' := w) (v := .bool r.isSome) (by simp only [execOp, Act.eval]; rw [show a.tmps.getD 27 undef = _ from e8]; rfl) ?_
      exact hK _ _ rfl hM (AD4_mono tb b0 mb F r hDi ((Below.refl _ _)))
    | _ + 11, ho => exact absurd ho (by simp)
  · intro D a u hall hd hs hM hsl hr
    obtain ⟨tm, df⟩ := a
    obtain rfl : df = [] := hd
    replace hs : tm.size = 40 := hs
    have t0 : tm.getD 0 undef = .pointer (some ⟨tb, 0, none⟩) := hsl 0 (by intro j hj; unfold AD4d; split <;> omega)
    have t3 : tm.getD 3 undef = .pointer (some ⟨b0, 0, none⟩) := hsl 3 (by intro j hj; unfold AD4d; split <;> omega)
    have t6 : tm.getD 6 undef = .int .i64 ((n : Nat) : Int) := hsl 6 (by intro j hj; unfold AD4d; split <;> omega)
    have t7 : tm.getD 7 undef = .int .i64 ((r.getD 0 : Nat) : Int) := hr 9 (by decide)
    have t8 : tm.getD 8 undef = .bool r.isSome := hr 10 (by decide)
    have htm := tm_all tm (n := 40) hs
    obtain ⟨xx, hxx⟩ : ∃ x : Nat → Value, ∀ i, x i = tm.getD i undef := ⟨_, fun _ => rfl⟩
    replace htm : tm = #[.pointer (some ⟨tb, 0, none⟩), xx 1, xx 2, .pointer (some ⟨b0, 0, none⟩), xx 4, xx 5, .int .i64 ((n : Nat) : Int), .int .i64 ((r.getD 0 : Nat) : Int), .bool r.isSome, xx 9, xx 10, xx 11, xx 12, xx 13, xx 14, xx 15, xx 16, xx 17, xx 18, xx 19, xx 20, xx 21, xx 22, xx 23, xx 24, xx 25, xx 26, xx 27, xx 28, xx 29, xx 30, xx 31, xx 32, xx 33, xx 34, xx 35, xx 36, xx 37, xx 38, xx 39] := by
      refine htm.trans ?_
      show #[tm.getD 0 undef, tm.getD 1 undef, tm.getD 2 undef, tm.getD 3 undef, tm.getD 4 undef, tm.getD 5 undef, tm.getD 6 undef, tm.getD 7 undef, tm.getD 8 undef, tm.getD 9 undef, tm.getD 10 undef, tm.getD 11 undef, tm.getD 12 undef, tm.getD 13 undef, tm.getD 14 undef, tm.getD 15 undef, tm.getD 16 undef, tm.getD 17 undef, tm.getD 18 undef, tm.getD 19 undef, tm.getD 20 undef, tm.getD 21 undef, tm.getD 22 undef, tm.getD 23 undef, tm.getD 24 undef, tm.getD 25 undef, tm.getD 26 undef, tm.getD 27 undef, tm.getD 28 undef, tm.getD 29 undef, tm.getD 30 undef, tm.getD 31 undef, tm.getD 32 undef, tm.getD 33 undef, tm.getD 34 undef, tm.getD 35 undef, tm.getD 36 undef, tm.getD 37 undef, tm.getD 38 undef, tm.getD 39 undef] = _
      rw [t0, t3, t6, t7, t8]
      simp only [hxx]
    subst htm
    clear hxx hs hsl hr
    clear t0 t3 t6 t7 t8 hall hl3 hl4 hlk
    refine (‹∀ (a : Act) (w : World), Code.wp Tryd.prog _ _ a w → _›) _ u ?_
    replace h1 := h1.later hM
    replace hal := blw hal hM
    replace hb0 := (hM.block b0 (Array.getElem?_eq_some_iff.1 hb0).1).trans hb0
    replace hc1 := cell_later hM hc1
    clear hM
    have hg1 := gl_b hg hal
    have hbl : Bq q lo w u := Bq.of hal hlw
    have hnx : LvAt q u lo tb (.map (some mb)) (lvs L.length) (Mx L F 0) lv vs := by rw [Mx_0]; exact h1.lev
    have hpu := put_t hgo h1.lt hF hn _ 0 u lv vs rfl ⟨_, (Nat.one_mul _).symm⟩ (Nat.zero_le _) hnx hg1
    rw [newd_0] at hpu
    have hld0 : (Instr.loadAt 27 (.pointer (some ⟨b0, 0, none⟩))).run Tryd.prog u = .ok (.agg (ab 32 F)) u := ldS 27 u b0 hb0
    have hfin : ∀ w', PutT q u lo tb (.map (some mb)) (L ++ [F]) w' → TrQ q w' lo tb (L ++ [F]) ∧ Bq q lo w w' := by
      rintro w' ⟨⟨lv2, vs2, h2⟩, hb2⟩
      refine ⟨⟨mb, DM, lv2, vs2, h2, ?_, h1.ml, mapIs_same h1.is (hrr.out.trans hfi), fun G hG => ?_, h1.am⟩, hbl.trans hb2.bq⟩
      · obtain ⟨es, ck, hm1, hm2, hm3, hm4⟩ := h1.mp
        exact ⟨es, ck, hb2.m _ _ _ hm1, hm2, by rw [List.length_append]; omega, hm4⟩
      · rcases List.mem_append.1 hG with hG | hG
        · exact h1.lt G hG
        · rw [List.mem_singleton.1 hG]; exact hF
    subst hfi
    go_wp2_with (refine wpList_load_row rfl 27 (.tmp 3) rfl b0 (ab 32 F) 27 rfl Tryd.underlying27 (sum_sz F) hb0 ?_)
    refine hpu.mono ?_
    rintro e w2 ⟨rfl, h2⟩
    go_wp2
    go_ret2
    exact ⟨rfl, hfin w2 h2⟩
set_option maxHeartbeats 4000000 in
set_option maxRecDepth 100000 in
theorem add_n {w : World} {lo tb : Nat} {L : List (Nat → Nat)} {F : Nat → Nat} (h : TrQ q w lo tb L) (hF : ∀ j, F j < 256) (hg : Gl w) (hgo : GlLo lo) (hn : L.length < 1048576) (hfi : fstI L F = none) : Calls Tryd.prog 13 #[.pointer (some ⟨tb, 0, none⟩), .agg (ab 32 F)] w fun e w' => e = .returned (.tuple #[.int .i64 ((L.length : Nat) : Int), .nilIface]) ∧ TrQ q w' lo tb (L ++ [F]) ∧ Bq q lo w w' := by
  have hT := h
  obtain ⟨mb, DM, lv, vs, h⟩ := h
  obtain ⟨A, hA⟩ : ∃ A, Hid (A = ab 32 F) := ⟨_, hide1 rfl⟩
  have bxA : ∀ w : World, (Instr.box 27 (.agg A)).run Tryd.prog w = .ok (.pointer (some ⟨w.heap.size, 0, none⟩)) (w.alloc (.cells A 27)) := fun w => bx_agg w
  have hal : Below w.heap.size w (w.alloc (.cells A 27)) := (Below.refl _ _).alloc (Nat.le_refl _) _
  have hb0 : (w.alloc (.cells A 27)).heap[w.heap.size]? = some (.cells A 27 (0, 0)) := (MapKept.heap_alloc w _).1
  have h1 := h.later hal
  obtain ⟨b0, hb00⟩ : ∃ b0, Hid (b0 = w.heap.size) := ⟨_, hide1 rfl⟩
  rw [← hb00.out] at hb0
  have hc1 := h1.lev.c1
  have hlw := h.lo
  have hle := fun w' (hb : Below w.heap.size w w') => len_d (hT.later hb)
  have hnq : decide ((1048576 : Int) ≤ ((L.length : Nat) : Int)) = false := decide_eq_false (by omega)
  obtain ⟨n, hnn⟩ : ∃ n, Hid (n = L.length) := ⟨_, hide1 rfl⟩
  rw [← hnn.out] at hle hnq ⊢
  have hnH := hide1 hn
  clear hn
  rw [← hA.out]
  go_enter Tryd.func13, Tryd.ntmps13
  go_wp2_with fail
  refine (hle _ hal).mono ?_
  rintro e w' ⟨rfl, rfl⟩
  go_wp2_with fail
  refine (hle _ hal).mono ?_
  rintro e w' ⟨rfl, rfl⟩
  go_upto_region 4 with fail
  generalize w.alloc (.cells A 27) = w1 at h1 hb0 hc1 hal ⊢
  rw [← hb00.out]
  clear bxA hle hnq
  rw [hA.out] at hb0 ⊢
  have hn := hnH.out
  have hl3 : ∀ w', Below w1.heap.size w1 w' → (Instr.loadAt 59 (.pointer (some ⟨tb, 1, none⟩))).run Tryd.prog w' = .ok (.map (some mb)) w' := fun w' hb => ld_mp (cell_later hb hc1)
  have hl4 : ∀ w', Below w1.heap.size w1 w' → (Instr.loadAt 27 (.pointer (some ⟨b0, 0, none⟩))).run Tryd.prog w' = .ok (.agg (ab 32 F)) w' := fun w' hb => ldS 27 w' b0 ((hb.block b0 (Array.getElem?_eq_some_iff.1 hb0).1).trans hb0)
  have hlk : ∀ w', Below w1.heap.size w1 w' → (Instr.lookup 59 (.map (some mb)) (.agg (ab 32 F)) true).run Tryd.prog w' = .ok (.tuple #[.int .i64 (((fstI L F).getD 0 : Nat) : Int), .bool (fstI L F).isSome]) w' := fun w' hb => look_i (map_later h1.mp hb) h1.is hF
  obtain ⟨r, hrr⟩ : ∃ r, Hid (fstI L F = r) := ⟨_, hide1 rfl⟩
  rw [hrr.out] at hlk hfi
  refine wp_rel3 _ _ (AD4 tb b0 mb F r) (fun _ w => Below w1.heap.size w1 w) AD4d (by kernel_rfl) (by kernel_rfl) 11 (by kernel_rfl) ?_ ?_ rfl ((Below.refl _ _).drew) ?_ ?_
  · intro ix o ho
    match ix, ho with
    | 0, ho => obtain rfl := Option.some.inj ho; exact .inl ⟨rfl, by show 20 < 40; decide⟩
    | 1, ho => obtain rfl := Option.some.inj ho; exact .inl ⟨rfl, by show 21 < 40; decide⟩
    | 2, ho => obtain rfl := Option.some.inj ho; exact .inl ⟨rfl, by show 22 < 40; decide⟩
    | 3, ho => obtain rfl := Option.some.inj ho; exact .inl ⟨rfl, by show 23 < 40; decide⟩
    | 4, ho => obtain rfl := Option.some.inj ho; exact .inl ⟨rfl, by show 24 < 40; decide⟩
    | 5, ho => obtain rfl := Option.some.inj ho; exact .inl ⟨rfl, by show 25 < 40; decide⟩
    | 6, ho => obtain rfl := Option.some.inj ho; exact .inl ⟨rfl, by show 19 < 40; decide⟩
    | 7, ho => obtain rfl := Option.some.inj ho; exact .inl ⟨rfl, by show 26 < 40; decide⟩
    | 8, ho => obtain rfl := Option.some.inj ho; exact .inl ⟨rfl, by show 27 < 40; decide⟩
    | 9, ho => obtain rfl := Option.some.inj ho; exact .inl ⟨rfl, by show 7 < 40; decide⟩
    | 10, ho => obtain rfl := Option.some.inj ho; exact .inl ⟨rfl, by show 8 < 40; decide⟩
    | _ + 11, ho => exact absurd ho (by simp)
  · intro ix jx hi hj e; unfold AD4d at e; split at e <;> split at e <;> omega
  · intro ix o ho
    match ix, ho with
    | 0, ho =>
      obtain rfl := Option.some.inj ho
      intro D a w hM hsl hdep hDi hcl K hK
      have hp0 : a.tmps.getD 0 undef = .pointer (some ⟨tb, 0, none⟩) := hsl 0 (by intro j hj; unfold AD4d; split <;> omega)
      refine ⟨rfl, ?_⟩
      refine wp_val (w' := w) (v := .pointer (some ⟨tb, 0, none⟩)) (by simp only [execOp, Act.eval]; rw [show a.tmps.getD 0 undef = _ from hp0]; rfl) ?_
      exact hK _ _ rfl hM (AD4_mono tb b0 mb F r hDi ((Below.refl _ _)))
    | 1, ho =>
      obtain rfl := Option.some.inj ho
      intro D a w hM hsl hdep hDi hcl K hK
      have e0 := (hdep ⟨0, .data⟩ (by simp) rfl).1
      refine ⟨rfl, ?_⟩
      refine wp_val (w' := w) (v := .pointer (some ⟨tb, 0, none⟩)) (by simp only [execOp, Act.eval]; rw [show a.tmps.getD 20 undef = _ from e0]; kernel_rfl) ?_
      exact hK _ _ rfl hM (AD4_mono tb b0 mb F r hDi ((Below.refl _ _)))
    | 2, ho =>
      obtain rfl := Option.some.inj ho
      intro D a w hM hsl hdep hDi hcl K hK
      have e1 := (hdep ⟨1, .data⟩ (by simp) rfl).1
      refine ⟨rfl, ?_⟩
      refine wp_val (w' := w) (v := .pointer (some ⟨tb, 1, none⟩)) (by simp only [execOp, Act.eval]; rw [show a.tmps.getD 21 undef = _ from e1]; kernel_rfl) ?_
      exact hK _ _ rfl hM (AD4_mono tb b0 mb F r hDi ((Below.refl _ _)))
    | 3, ho =>
      obtain rfl := Option.some.inj ho
      intro D a w hM hsl hdep hDi hcl K hK
      have e2 := (hdep ⟨2, .data⟩ (by simp) rfl).1
      refine ⟨rfl, ?_⟩
      have hl := hl3 w hM
      refine wp_val (w' := w) (v := .map (some mb)) (by simp only [execOp, Act.eval]; rw [show a.tmps.getD 22 undef = _ from e2]; simp only [Sem.run_bind, hl, Result.andThen_ok, Sem.run_pure]) ?_
      exact hK _ _ rfl hM (AD4_mono tb b0 mb F r hDi ((Below.refl _ _)))
    | 4, ho =>
      obtain rfl := Option.some.inj ho
      intro D a w hM hsl hdep hDi hcl K hK
      have hp3 : a.tmps.getD 3 undef = .pointer (some ⟨b0, 0, none⟩) := hsl 3 (by intro j hj; unfold AD4d; split <;> omega)
      refine ⟨rfl, ?_⟩
      have hl := hl4 w hM
      refine wp_val (w' := w) (v := .agg (ab 32 F)) (by simp only [execOp, Act.eval]; rw [show a.tmps.getD 3 undef = _ from hp3]; simp only [Sem.run_bind, hl, Result.andThen_ok, Sem.run_pure]) ?_
      exact hK _ _ rfl hM (AD4_mono tb b0 mb F r hDi ((Below.refl _ _)))
    | 5, ho =>
      obtain rfl := Option.some.inj ho
      intro D a w hM hsl hdep hDi hcl K hK
      have e3 := (hdep ⟨3, .data⟩ (by simp) rfl).1
      have e4 := (hdep ⟨4, .data⟩ (by simp) rfl).1
      refine ⟨rfl, ?_⟩
      have hl := hlk w hM
      refine wp_val (w' := w) (v := .tuple #[.int .i64 ((r.getD 0 : Nat) : Int), .bool r.isSome]) (by simp only [execOp, Act.eval]; rw [show a.tmps.getD 23 undef = _ from e3, show a.tmps.getD 24 undef = _ from e4]; simp only [Sem.run_bind, hl, Result.andThen_ok, Sem.run_pure]) ?_
      exact hK _ _ rfl hM (AD4_mono tb b0 mb F r hDi ((Below.refl _ _)))
    | 6, ho =>
      obtain rfl := Option.some.inj ho
      intro D a w hM hsl hdep hDi hcl K hK
      have e5 := (hdep ⟨5, .data⟩ (by simp) rfl).1
      refine ⟨rfl, ?_⟩
      refine wp_val (w' := w) (v := .tuple #[.int .i64 ((r.getD 0 : Nat) : Int), .bool r.isSome]) (by simp only [execOp, Act.eval]; rw [show a.tmps.getD 25 undef = _ from e5]; rfl) ?_
      exact hK _ _ rfl hM (AD4_mono tb b0 mb F r hDi ((Below.refl _ _)))
    | 7, ho =>
      obtain rfl := Option.some.inj ho
      intro D a w hM hsl hdep hDi hcl K hK
      have e6 := (hdep ⟨6, .data⟩ (by simp) rfl).1
      refine ⟨rfl, ?_⟩
      refine wp_val (w' := w) (v := .int .i64 ((r.getD 0 : Nat) : Int)) (by simp only [execOp, Act.eval]; rw [show a.tmps.getD 19 undef = _ from e6]; kernel_rfl) ?_
      exact hK _ _ rfl hM (AD4_mono tb b0 mb F r hDi ((Below.refl _ _)))
    | 8, ho =>
      obtain rfl := Option.some.inj ho
      intro D a w hM hsl hdep hDi hcl K hK
      have e6 := (hdep ⟨6, .data⟩ (by simp) rfl).1
      refine ⟨rfl, ?_⟩
      refine wp_val (w' := w) (v := .bool r.isSome) (by simp only [execOp, Act.eval]; rw [show a.tmps.getD 19 undef = _ from e6]; kernel_rfl) ?_
      exact hK _ _ rfl hM (AD4_mono tb b0 mb F r hDi ((Below.refl _ _)))
    | 9, ho =>
      obtain rfl := Option.some.inj ho
      intro D a w hM hsl hdep hDi hcl K hK
      have e7 := (hdep ⟨7, .data⟩ (by simp) rfl).1
      refine ⟨rfl, ?_⟩
      refine wp_val (w' := w) (v := .int .i64 ((r.getD 0 : Nat) : Int)) (by simp only [execOp, Act.eval]; rw [show a.tmps.getD 26 undef = _ from e7]; rfl) ?_
      exact hK _ _ rfl hM (AD4_mono tb b0 mb F r hDi ((Below.refl _ _)))
    | 10, ho =>
      obtain rfl := Option.some.inj ho
      intro D a w hM hsl hdep hDi hcl K hK
      have e8 := (hdep ⟨8, .data⟩ (by simp) rfl).1
      refine ⟨rfl, ?_⟩
      refine wp_val (w' := w) (v := .bool r.isSome) (by simp only [execOp, Act.eval]; rw [show a.tmps.getD 27 undef = _ from e8]; rfl) ?_
      exact hK _ _ rfl hM (AD4_mono tb b0 mb F r hDi ((Below.refl _ _)))
    | _ + 11, ho => exact absurd ho (by simp)
  · intro D a u hall hd hs hM hsl hr
    obtain ⟨tm, df⟩ := a
    obtain rfl : df = [] := hd
    replace hs : tm.size = 40 := hs
    have t0 : tm.getD 0 undef = .pointer (some ⟨tb, 0, none⟩) := hsl 0 (by intro j hj; unfold AD4d; split <;> omega)
    have t3 : tm.getD 3 undef = .pointer (some ⟨b0, 0, none⟩) := hsl 3 (by intro j hj; unfold AD4d; split <;> omega)
    have t6 : tm.getD 6 undef = .int .i64 ((n : Nat) : Int) := hsl 6 (by intro j hj; unfold AD4d; split <;> omega)
    have t7 : tm.getD 7 undef = .int .i64 ((r.getD 0 : Nat) : Int) := hr 9 (by decide)
    have t8 : tm.getD 8 undef = .bool r.isSome := hr 10 (by decide)
    have htm := tm_all tm (n := 40) hs
    obtain ⟨xx, hxx⟩ : ∃ x : Nat → Value, ∀ i, x i = tm.getD i undef := ⟨_, fun _ => rfl⟩
    replace htm : tm = #[.pointer (some ⟨tb, 0, none⟩), xx 1, xx 2, .pointer (some ⟨b0, 0, none⟩), xx 4, xx 5, .int .i64 ((n : Nat) : Int), .int .i64 ((r.getD 0 : Nat) : Int), .bool r.isSome, xx 9, xx 10, xx 11, xx 12, xx 13, xx 14, xx 15, xx 16, xx 17, xx 18, xx 19, xx 20, xx 21, xx 22, xx 23, xx 24, xx 25, xx 26, xx 27, xx 28, xx 29, xx 30, xx 31, xx 32, xx 33, xx 34, xx 35, xx 36, xx 37, xx 38, xx 39] := by
      refine htm.trans ?_
      show #[tm.getD 0 undef, tm.getD 1 undef, tm.getD 2 undef, tm.getD 3 undef, tm.getD 4 undef, tm.getD 5 undef, tm.getD 6 undef, tm.getD 7 undef, tm.getD 8 undef, tm.getD 9 undef, tm.getD 10 undef, tm.getD 11 undef, tm.getD 12 undef, tm.getD 13 undef, tm.getD 14 undef, tm.getD 15 undef, tm.getD 16 undef, tm.getD 17 undef, tm.getD 18 undef, tm.getD 19 undef, tm.getD 20 undef, tm.getD 21 undef, tm.getD 22 undef, tm.getD 23 undef, tm.getD 24 undef, tm.getD 25 undef, tm.getD 26 undef, tm.getD 27 undef, tm.getD 28 undef, tm.getD 29 undef, tm.getD 30 undef, tm.getD 31 undef, tm.getD 32 undef, tm.getD 33 undef, tm.getD 34 undef, tm.getD 35 undef, tm.getD 36 undef, tm.getD 37 undef, tm.getD 38 undef, tm.getD 39 undef] = _
      rw [t0, t3, t6, t7, t8]
      simp only [hxx]
    subst htm
    clear hxx hs hsl hr
    clear t0 t3 t6 t7 t8 hall hl3 hl4 hlk
    refine (‹∀ (a : Act) (w : World), Code.wp Tryd.prog _ _ a w → _›) _ u ?_
    replace h1 := h1.later hM
    replace hal := blw hal hM
    replace hb0 := (hM.block b0 (Array.getElem?_eq_some_iff.1 hb0).1).trans hb0
    replace hc1 := cell_later hM hc1
    clear hM
    have hg1 := gl_b hg hal
    have hbl : Bq q lo w u := Bq.of hal hlw
    obtain ⟨kl, hkl⟩ := key_s F hF
    have hfi' := hrr.out.trans hfi
    have hup : ∀ w', Below u.heap.size u w' → ∃ w2, (Instr.mapUpdate 59 (.map (some mb)) (.agg (ab 32 F)) (.int .i64 ((n : Nat) : Int))).run Tryd.prog w' = .ok () w2 ∧ (LvAt q w2 lo tb (.map (some mb)) (lvs L.length) (lvl L) lv vs ∧ w2.ownsMap Tryd.prog 27 (plainElem Tryd.prog 3) mb (L ++ [F]).length (DM.put kl (.lit (.int .i64 ((L.length : Nat) : Int)))) ∧ Bq q lo w w2 ∧ w2.heap[b0]? = some (.cells (ab 32 F) 27 (0, 0))) := fun w' hb => by
      have hmw := map_later h1.mp hb
      obtain ⟨w2, hrun, hm2, hg2⟩ := hmw.update keyL Tryd.underlying59 (by unfold maxLen; omega) (key := .agg (ab 32 F)) (val := .int .i64 ((n : Nat) : Int)) hkl (plainElem_int Tryd.underlying3 (by rw [hnn.out]; exact wf_n (by omega)))
      have hex : ∃ es c, w'.heap[mb]? = some (.map es c) := by
        obtain ⟨es, ck, hm, _⟩ := hmw
        exact ⟨es, ck, hm⟩
      refine ⟨w2, hrun, (h1.lev.later hb).mapped hex hg2, by rw [List.length_append, ← hnn.out] at *; rw [← hnn.out]; exact hm2, ?_, ?_⟩
      · have hbw : Bq q lo w w' := hbl.trans (Bq.of hb (Nat.le_trans h1.lev.tl (Nat.le_of_lt (Array.getElem?_eq_some_iff.1 h1.lev.cell).1)))
        refine ⟨hbw.b.grown hg2 (Nat.le_trans h1.ml (Nat.le_of_lt hmw.lt)) (fun q e => by cases e; exact h1.ml), fun b e hb2 => ?_⟩
        rw [← hbw.k b e hb2]
        exact hg2.block b (Nat.lt_of_lt_of_le hb2 hbw.b.size) (fun e2 => h1.am b e (by cases e2; rfl))
      · have hb1 := (hb.block b0 (Array.getElem?_eq_some_iff.1 hb0).1).trans hb0
        refine (hg2.block b0 (Array.getElem?_eq_some_iff.1 hb1).1 (fun e => ?_)).trans hb1
        cases e
        obtain ⟨es, c, hm⟩ := hex
        rw [hm] at hb1; cases hb1
    have hl3 : ∀ w', Below u.heap.size u w' → (Instr.loadAt 59 (.pointer (some ⟨tb, 1, none⟩))).run Tryd.prog w' = .ok (.map (some mb)) w' := fun w' hb => ld_mp (cell_later hb hc1)
    have hl4 : ∀ w', Below u.heap.size u w' → (Instr.loadAt 27 (.pointer (some ⟨b0, 0, none⟩))).run Tryd.prog w' = .ok (.agg (ab 32 F)) w' := fun w' hb => ldS 27 w' b0 ((hb.block b0 (Array.getElem?_eq_some_iff.1 hb0).1).trans hb0)
    have hfin : ∀ w2 w', LvAt q w2 lo tb (.map (some mb)) (lvs L.length) (lvl L) lv vs → w2.ownsMap Tryd.prog 27 (plainElem Tryd.prog 3) mb (L ++ [F]).length (DM.put kl (.lit (.int .i64 ((L.length : Nat) : Int)))) → Bq q lo w w2 → PutT q w2 lo tb (.map (some mb)) (L ++ [F]) w' → TrQ q w' lo tb (L ++ [F]) ∧ Bq q lo w w' := by
      rintro w2 w' h2 hm2 hb2 ⟨⟨lv3, vs3, h3⟩, hb3⟩
      refine ⟨⟨mb, _, lv3, vs3, h3, ?_, h1.ml, mapIs_put (isMap_o h1.mp) h1.is hkl hfi', fun G hG => ?_, h1.am⟩, hb2.trans hb3.bq⟩
      · obtain ⟨es, ck, hq1, hq2, hq3, hq4⟩ := hm2
        exact ⟨es, ck, hb3.m _ _ _ hq1, hq2, hq3, hq4⟩
      · rcases List.mem_append.1 hG with hG | hG
        · exact h1.lt G hG
        · rw [List.mem_singleton.1 hG]; exact hF
    have hput : ∀ w2, LvAt q w2 lo tb (.map (some mb)) (lvs L.length) (lvl L) lv vs → Bq q lo w w2 → Calls Tryd.prog 31 #[.pointer (some ⟨tb, 0, none⟩), .int .i64 ((0 : Nat) : Int), .agg (ab 32 F)] w2 fun e w' => e = .returned (.tuple #[]) ∧ PutT q w2 lo tb (.map (some mb)) (L ++ [F]) w' := fun w2 h2 hb2 => by
      have := put_t hgo h1.lt hF hn _ 0 w2 lv vs rfl ⟨_, (Nat.one_mul _).symm⟩ (Nat.zero_le _) (by rw [Mx_0]; exact h2) (gl_lo hg hb2.b hgo)
      rw [newd_0] at this
      exact this
    subst hfi
    clear h1 hc1 hal hg1 hbl hn
    go_upto_region 6 with fail
    refine wp_rel3 _ _ (AD6 tb b0 mb F n) (MM u 6 (fun w2 => LvAt q w2 lo tb (.map (some mb)) (lvs L.length) (lvl L) lv vs ∧ w2.ownsMap Tryd.prog 27 (plainElem Tryd.prog 3) mb (L ++ [F]).length (DM.put kl (.lit (.int .i64 ((L.length : Nat) : Int)))) ∧ Bq q lo w w2 ∧ w2.heap[b0]? = some (.cells (ab 32 F) 27 (0, 0)))) AD6d (by kernel_rfl) (by kernel_rfl) 7 (by kernel_rfl) ?_ ?_ rfl (⟨fun _ => (Below.refl _ _).drew, fun e => by cases e⟩) ?_ ?_
    · intro ix o ho
      match ix, ho with
      | 0, ho => obtain rfl := Option.some.inj ho; exact .inl ⟨rfl, by show 30 < 40; decide⟩
      | 1, ho => obtain rfl := Option.some.inj ho; exact .inl ⟨rfl, by show 31 < 40; decide⟩
      | 2, ho => obtain rfl := Option.some.inj ho; exact .inl ⟨rfl, by show 32 < 40; decide⟩
      | 3, ho => obtain rfl := Option.some.inj ho; exact .inl ⟨rfl, by show 33 < 40; decide⟩
      | 4, ho => obtain rfl := Option.some.inj ho; exact .inl ⟨rfl, by show 34 < 40; decide⟩
      | 5, ho => obtain rfl := Option.some.inj ho; exact .inl ⟨rfl, by show 35 < 40; decide⟩
      | 6, ho => obtain rfl := Option.some.inj ho; exact .inr ⟨⟨rfl, fun _ _ _ _ => trivial⟩, by show 40 ≤ 1006; decide⟩
      | _ + 7, ho => exact absurd ho (by simp)
    · intro ix jx hi hj e; unfold AD6d at e; split at e <;> split at e <;> omega
    · intro ix o ho
      match ix, ho with
      | 0, ho =>
        obtain rfl := Option.some.inj ho
        intro D a w hM hsl hdep hDi hcl K hK
        have hp0 : a.tmps.getD 0 undef = .pointer (some ⟨tb, 0, none⟩) := hsl 0 (by intro j hj; unfold AD6d; split <;> omega)
        refine ⟨rfl, ?_⟩
        refine wp_val (w' := w) (v := .pointer (some ⟨tb, 0, none⟩)) (by simp only [execOp, Act.eval]; rw [show a.tmps.getD 0 undef = _ from hp0]; rfl) ?_
        exact hK _ _ rfl (hM.same (by decide)) (AD6_mono tb b0 mb F n hDi (fun _ => (Below.refl _ _)))
      | 1, ho =>
        obtain rfl := Option.some.inj ho
        intro D a w hM hsl hdep hDi hcl K hK
        have e0 := (hdep ⟨0, .data⟩ (by simp) rfl).1
        refine ⟨rfl, ?_⟩
        refine wp_val (w' := w) (v := .pointer (some ⟨tb, 0, none⟩)) (by simp only [execOp, Act.eval]; rw [show a.tmps.getD 30 undef = _ from e0]; kernel_rfl) ?_
        exact hK _ _ rfl (hM.same (by decide)) (AD6_mono tb b0 mb F n hDi (fun _ => (Below.refl _ _)))
      | 2, ho =>
        obtain rfl := Option.some.inj ho
        intro D a w hM hsl hdep hDi hcl K hK
        have e1 := (hdep ⟨1, .data⟩ (by simp) rfl).1
        refine ⟨rfl, ?_⟩
        refine wp_val (w' := w) (v := .pointer (some ⟨tb, 1, none⟩)) (by simp only [execOp, Act.eval]; rw [show a.tmps.getD 31 undef = _ from e1]; kernel_rfl) ?_
        exact hK _ _ rfl (hM.same (by decide)) (AD6_mono tb b0 mb F n hDi (fun _ => (Below.refl _ _)))
      | 3, ho =>
        obtain rfl := Option.some.inj ho
        intro D a w hM hsl hdep hDi hcl K hK
        have hD6 : D 6 = false := by
          rcases Bool.eq_false_or_eq_true (D 6) with h | h
          · have hq := hcl 6 _ rfl h ⟨3, .data⟩ (by simp) rfl
            rw [hDi] at hq; cases hq
          · exact h
        have e2 := (hdep ⟨2, .data⟩ (by simp) rfl).1
        refine ⟨rfl, ?_⟩
        have hl := hl3 w (hM.1 hD6)
        refine wp_val (w' := w) (v := .map (some mb)) (by simp only [execOp, Act.eval]; rw [show a.tmps.getD 32 undef = _ from e2]; simp only [Sem.run_bind, hl, Result.andThen_ok, Sem.run_pure]) ?_
        exact hK _ _ rfl (hM.same (by decide)) (AD6_mono tb b0 mb F n hDi (fun _ => (Below.refl _ _)))
      | 4, ho =>
        obtain rfl := Option.some.inj ho
        intro D a w hM hsl hdep hDi hcl K hK
        have hD6 : D 6 = false := by
          rcases Bool.eq_false_or_eq_true (D 6) with h | h
          · have hq := hcl 6 _ rfl h ⟨4, .data⟩ (by simp) rfl
            rw [hDi] at hq; cases hq
          · exact h
        have hp3 : a.tmps.getD 3 undef = .pointer (some ⟨b0, 0, none⟩) := hsl 3 (by intro j hj; unfold AD6d; split <;> omega)
        refine ⟨rfl, ?_⟩
        have hl := hl4 w (hM.1 hD6)
        refine wp_val (w' := w) (v := .agg (ab 32 F)) (by simp only [execOp, Act.eval]; rw [show a.tmps.getD 3 undef = _ from hp3]; simp only [Sem.run_bind, hl, Result.andThen_ok, Sem.run_pure]) ?_
        exact hK _ _ rfl (hM.same (by decide)) (AD6_mono tb b0 mb F n hDi (fun _ => (Below.refl _ _)))
      | 5, ho =>
        obtain rfl := Option.some.inj ho
        intro D a w hM hsl hdep hDi hcl K hK
        have hp6 : a.tmps.getD 6 undef = .int .i64 ((n : Nat) : Int) := hsl 6 (by intro j hj; unfold AD6d; split <;> omega)
        refine ⟨rfl, ?_⟩
        refine wp_val (w' := w) (v := .int .i64 ((n : Nat) : Int)) (by simp only [execOp, Act.eval]; rw [show a.tmps.getD 6 undef = _ from hp6]; rfl) ?_
        exact hK _ _ rfl (hM.same (by decide)) (AD6_mono tb b0 mb F n hDi (fun _ => (Below.refl _ _)))
      | 6, ho =>
        obtain rfl := Option.some.inj ho
        intro D a w hM hsl hdep hDi hcl K hK
        have e3 := (hdep ⟨3, .data⟩ (by simp) rfl).1
        have e4 := (hdep ⟨4, .data⟩ (by simp) rfl).1
        have e5 := (hdep ⟨5, .data⟩ (by simp) rfl).1
        refine ⟨rfl, ?_⟩
        have hbw := hM.1 hDi
        obtain ⟨w2, hrun, hpost⟩ := hup w hbw
        refine wp_skp (w' := w2) (by simp only [execOp, Act.eval]; rw [show a.tmps.getD 33 undef = _ from e3, show a.tmps.getD 34 undef = _ from e4, show a.tmps.getD 35 undef = _ from e5]; simp only [Sem.run_bind, hrun, Result.andThen_ok, Sem.run_pure]) ?_
        exact hK _ _ trivial ⟨fun e => (by rw [add1_eq] at e; cases e), fun _ => hpost⟩ (AD6_mono tb b0 mb F n hDi (fun h => absurd rfl h))
      | _ + 7, ho => exact absurd ho (by simp)
    · intro D a u2 hall hd hs hM hsl hr
      obtain ⟨h2, hm2, hb2, hb02⟩ := hM.2 (hall 6 (by decide))
      obtain ⟨tm, df⟩ := a
      obtain rfl : df = [] := hd
      replace hs : tm.size = 40 := hs
      have t0 : tm.getD 0 undef = .pointer (some ⟨tb, 0, none⟩) := hsl 0 (by intro j hj; unfold AD6d; split <;> omega)
      have t3 : tm.getD 3 undef = .pointer (some ⟨b0, 0, none⟩) := hsl 3 (by intro j hj; unfold AD6d; split <;> omega)
      have t6 : tm.getD 6 undef = .int .i64 ((n : Nat) : Int) := hsl 6 (by intro j hj; unfold AD6d; split <;> omega)
      have htm := tm_all tm (n := 40) hs
      obtain ⟨xx, hxx⟩ : ∃ x : Nat → Value, ∀ i, x i = tm.getD i undef := ⟨_, fun _ => rfl⟩
      replace htm : tm = #[.pointer (some ⟨tb, 0, none⟩), xx 1, xx 2, .pointer (some ⟨b0, 0, none⟩), xx 4, xx 5, .int .i64 ((n : Nat) : Int), xx 7, xx 8, xx 9, xx 10, xx 11, xx 12, xx 13, xx 14, xx 15, xx 16, xx 17, xx 18, xx 19, xx 20, xx 21, xx 22, xx 23, xx 24, xx 25, xx 26, xx 27, xx 28, xx 29, xx 30, xx 31, xx 32, xx 33, xx 34, xx 35, xx 36, xx 37, xx 38, xx 39] := by
        refine htm.trans ?_
        show #[tm.getD 0 undef, tm.getD 1 undef, tm.getD 2 undef, tm.getD 3 undef, tm.getD 4 undef, tm.getD 5 undef, tm.getD 6 undef, tm.getD 7 undef, tm.getD 8 undef, tm.getD 9 undef, tm.getD 10 undef, tm.getD 11 undef, tm.getD 12 undef, tm.getD 13 undef, tm.getD 14 undef, tm.getD 15 undef, tm.getD 16 undef, tm.getD 17 undef, tm.getD 18 undef, tm.getD 19 undef, tm.getD 20 undef, tm.getD 21 undef, tm.getD 22 undef, tm.getD 23 undef, tm.getD 24 undef, tm.getD 25 undef, tm.getD 26 undef, tm.getD 27 undef, tm.getD 28 undef, tm.getD 29 undef, tm.getD 30 undef, tm.getD 31 undef, tm.getD 32 undef, tm.getD 33 undef, tm.getD 34 undef, tm.getD 35 undef, tm.getD 36 undef, tm.getD 37 undef, tm.getD 38 undef, tm.getD 39 undef] = _
        rw [t0, t3, t6]
        simp only [hxx]
      subst htm
      clear hxx hs hsl hr
      clear t0 t3 t6 hall hl3 hl4 hup hM
      have hpu := hput u2 h2 hb2
      have hfi2 := hfin u2
      refine (‹∀ (a : Act) (w : World), Code.wp Tryd.prog _ _ a w → _›) _ u2 ?_
      go_wp2_with (refine wpList_load_row rfl 27 (.tmp 3) rfl b0 (ab 32 F) 27 rfl Tryd.underlying27 (sum_sz F) hb02 ?_)
      refine hpu.mono ?_
      rintro e w3 ⟨rfl, h3⟩
      go_wp2
      go_ret2
      exact ⟨rfl, hfi2 w3 h2 hm2 hb2 h3⟩
end Go.Proofs.YtdofoampjlebbaaDoor

namespace Go.Proofs.YtdofoampjlebbaaDoor
open Go.RowKit Go.Maps Sh

/-- The library's table. -/
def Gz (w : World) : Prop := TabAt 1 Lib.deBruijn64tab w
theorem gz_b {w w' : World} (h : Gz w) (hb : Below w.heap.size w w') : Gz w' := fun j hj => cell_later hb (h j hj)
def GzLo (lo : Nat) : Prop := 1 < lo
theorem gz_lo {w w' : World} {lo : Nat} (h : Gz w) (hb : Below lo w w') (hl : GzLo lo) : Gz w' := fun j hj => (hb.cell (show 1 < lo from hl)).trans (h j hj)
set_option maxHeartbeats 1000000 in
theorem tz64_core {x k idx : Nat} {w : World} (hx0 : ((x : Int) == 0) = false) (key : IntKind.u64.wrap (bits BinOp.and IntKind.u64 (x : Int) (IntKind.u64.wrap (-(x : Int))) * 285870213051353865) / 288230376151711744 = (idx : Int)) (hi : idx < 64) (hk : k < 64) (hcell : w.cell? ⟨1, idx, none⟩ = some (.int .u8 k)) :
    Calls Tryd.prog 53 #[.int .u64 x] w fun e w' => e = .returned (.int .i64 k) ∧ w' = w := by
  go_enter Tryd.func53, Tryd.ntmps53
  go_wp2_with (simp only [key])
  go_ret
  exact ⟨rfl, rfl⟩
theorem tz64_d {x : Nat} (hx0 : x ≠ 0) (hx : x < 18446744073709551616) {w : World} (hT : Gz w) : Calls Tryd.prog 53 #[.int .u64 x] w fun e w' => e = .returned (.int .i64 (Lib.ctz 64 x)) ∧ w' = w := by
  obtain ⟨hlow, hk⟩ := Lib.lowest_bit 64 x hx0 hx
  obtain ⟨hi, htab⟩ := Lib.deBruijn64_at _ hk
  have hcell := hT _ hi
  rw [htab] at hcell
  exact tz64_core (by simp; omega) (tz64_key x _ hx hx0 hlow) hi hk hcell
theorem tz_d {x : Nat} (hx0 : x ≠ 0) (hx : x < 18446744073709551616) {w : World} (hT : Gz w) : Calls Tryd.prog 43 #[.int .u64 x] w fun e w' => e = .returned (.int .i64 (Lib.ctz 64 x)) ∧ w' = w := by
  have h := tz64_d hx0 hx hT
  clear hT
  go_enter Tryd.func43, Tryd.ntmps43
  go_wp2_with fail
  refine h.mono ?_
  rintro e w' ⟨rfl, rfl⟩
  go_wp2
  go_ret
  exact ⟨rfl, rfl⟩
theorem ctz_is {x : Nat} (hx0 : x ≠ 0) (hx : x < 2 ^ 64) : ∃ m, x = 2 ^ Lib.ctz 64 x * (2 * m + 1) ∧ Lib.ctz 64 x < 64 := by
  have := Lib.ctzFrom_spec 64 x (by omega) hx
  unfold Lib.ctz
  rw [if_neg hx0]
  exact this
section
variable {x u : Operand}
theorem shl_1 {k : Nat} (hk : k < 62) (w : World) : (do eqGuard .shl 3 x u (.int .i64 1) (.int .i64 ((k : Nat) : Int)); binOp .shl 3 (.int .i64 1) (.int .i64 ((k : Nat) : Int))).run Tryd.prog w = .ok (.int .i64 ((2 ^ k : Nat) : Int)) w := by
  have h : 2 ^ k < 2 ^ 62 := Nat.pow_lt_pow_right (by decide) hk
  have hg : ∀ p : Nat, p < 2 ^ 62 → IntKind.i64.wrap ((p : Nat) : Int) = ((p : Nat) : Int) := fun p hp => wrapI _ (by omega) (by omega)
  have h1 := hg _ h
  have h2 : ((2 ^ k : Nat) : Int) = (2 : Int) ^ k := by simp
  rw [h2] at h1 ⊢
  simp [eqGuard, binOp, go_sem, h1]
theorem shr_n {m k : Nat} (hk : k < 64) (w : World) : (do eqGuard .shr 3 x u (.int .i64 ((m : Nat) : Int)) (.int .i64 ((k : Nat) : Int)); binOp .shr 3 (.int .i64 ((m : Nat) : Int)) (.int .i64 ((k : Nat) : Int))).run Tryd.prog w = .ok (.int .i64 ((m / 2 ^ k : Nat) : Int)) w := by
  simp [eqGuard, binOp, go_sem]
end
end Go.Proofs.YtdofoampjlebbaaDoor

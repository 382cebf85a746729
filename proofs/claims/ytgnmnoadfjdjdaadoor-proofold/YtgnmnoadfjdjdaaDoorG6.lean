/- LAc, LAd, PRL, PRK, PRf, PHd, PRA, PRN, PRO, PB1, PB2, PBp, PB3, PX0, PB4, PBM, PBo1: laid together. -/
import Derived.Test.YtgnmnoadfjdjdaaDoorG5
namespace Go.Proofs.YtgnmnoadfjdjdaaDoor
open Go.RowKit Go.Maps Sh

/-- A text of 65 bytes in a block of its own. -/
def TxV (w : World) (B : Nat) (r : Value) (T : Nat → Nat) : Prop := ∃ b c cap, r = .slice (some ⟨b, 0, none⟩) 65 cap ∧ B ≤ b ∧ 65 ≤ cap ∧ w.heap[b]? = some (.cells c 5 (0, 0)) ∧ ∀ j, j < 65 → c[j]? = some (.int .u8 ((T j : Nat) : Int))
theorem tx_own {w : World} {base B : Nat} {v : Value} {T : Nat → Nat} (hB : B ≤ base) (h : w.ownsRow base 5 1 v 65 (bvs 65 T)) : TxV w B v T := by
  rcases h.2 with ⟨_, h0⟩ | ⟨q, cap, cur, rfl, hbq, hgq, hnc, hcm, hcs, hty⟩
  · exfalso; omega
  · refine ⟨q, cur, cap, rfl, by omega, hnc, hgq, fun j hj => ?_⟩
    have h1 := h.cellAt j (by omega)
    rw [bvs_get T hj] at h1
    rw [← h1, cell_of_row _ _ _ _ _ _ hgq]
theorem TxV.later {w w' : World} {B : Nat} {r : Value} {T : Nat → Nat} (h : TxV w B r T) (hb : Below w.heap.size w w') : TxV w' B r T := by
  obtain ⟨b, c, cap, e, h1, h2, h3, h4⟩ := h
  exact ⟨b, c, cap, e, h1, h2, (hb.block b (Array.getElem?_eq_some_iff.1 h3).1).trans h3, h4⟩
theorem TxV.mono {w : World} {B B' : Nat} {r : Value} {T : Nat → Nat} (h : TxV w B r T) (hB : B' ≤ B) : TxV w B' r T := by
  obtain ⟨b, c, cap, e, h1, h2, h3, h4⟩ := h
  exact ⟨b, c, cap, e, by omega, h2, h3, h4⟩
/-- .. where a row of slices has grown. -/
theorem TxV.grown {w w' : World} {B : Nat} {r : Value} {T : Nat → Nat} {o : Option Nat} (h : TxV w B r T) (hg : w.grownBy w' o) (ho : ∀ g, o = some g → ∃ c, w.heap[g]? = some (.cells c 97 (0, 0))) : TxV w' B r T := by
  obtain ⟨b, c, cap, e, h1, h2, h3, h4⟩ := h
  refine ⟨b, c, cap, e, h1, h2, ?_, h4⟩
  have hne : some b ≠ o := by
    intro e2
    obtain ⟨c2, hc2⟩ := ho b e2.symm
    rw [h3] at hc2
    cases hc2
  exact (hg.block b (Array.getElem?_eq_some_iff.1 h3).1 hne).trans h3
theorem TxV.bs {w : World} {B : Nat} {r : Value} {T : Nat → Nat} (h : TxV w B r T) (hT : ∀ i, T i < 256) : ∃ a cap, r = .slice a 65 cap ∧ Bs w a 65 T := by
  obtain ⟨b, c, cap, e, h1, h2, h3, h4⟩ := h
  refine ⟨_, cap, e, hT, fun _ => ⟨b, 0, rfl, fun i hi => ?_⟩⟩
  rw [cell_of_row _ _ _ _ _ _ h3, Nat.zero_add]
  exact h4 i hi
/-- Texts, in the order of a row of slices. -/
def TsAt (w : World) (B : Nat) (xs : List Value) (T : List (Nat → Nat)) : Prop := xs.length = T.length ∧ ∀ i, i < T.length → TxV w B (xs.getD i undef) (T.getD i fun _ => 0)
theorem TsAt.app {w : World} {B : Nat} {xs ys : List Value} {T U : List (Nat → Nat)} (h : TsAt w B xs T) (k : TsAt w B ys U) : TsAt w B (xs ++ ys) (T ++ U) := by
  refine ⟨by rw [List.length_append, List.length_append, h.1, k.1], fun i hi => ?_⟩
  rw [List.length_append] at hi
  rcases Nat.lt_or_ge i T.length with h1 | h1
  · have := h.2 i h1
    simp only [List.getD_eq_getElem?_getD] at this ⊢
    rw [List.getElem?_append_left (by rw [h.1]; exact h1), List.getElem?_append_left h1]
    exact this
  · have := k.2 (i - T.length) (by omega)
    simp only [List.getD_eq_getElem?_getD] at this ⊢
    rw [List.getElem?_append_right (by rw [h.1]; exact h1), List.getElem?_append_right h1, h.1]
    exact this
theorem TsAt.map {w w' : World} {B B' : Nat} {xs : List Value} {T : List (Nat → Nat)} (h : TsAt w B xs T) (f : ∀ {r T}, TxV w B r T → TxV w' B' r T) : TsAt w' B' xs T := ⟨h.1, fun i hi => f (h.2 i hi)⟩
theorem TsAt.one {w : World} {B : Nat} {r : Value} {T : Nat → Nat} (h : TxV w B r T) : TsAt w B [r] [T] := ⟨rfl, fun i hi => by
  obtain rfl : i = 0 := by simp at hi; omega
  exact h⟩
theorem TsAt.none (w : World) (B : Nat) : TsAt w B [] [] := ⟨rfl, fun i hi => absurd hi (by simp)⟩
theorem info_sl : (Tryd.prog.info? 97).map (fun i => (i.zero, i.size, i.bytes)) = some (some (.slice none 0 0), 1, 24) := by kernel_rfl
theorem TsAt.cells {w : World} {B : Nat} {xs : List Value} {T : List (Nat → Nat)} (h : TsAt w B xs T) : ∀ v ∈ xs, v.oneCell' = true := by
  intro v hv
  obtain ⟨i, hi, rfl⟩ := List.getElem_of_mem hv
  obtain ⟨b, c, cap, e, _⟩ := h.2 i (by rw [← h.1]; exact hi)
  rw [List.getD_eq_getElem?_getD, List.getElem?_eq_getElem hi, Option.getD_some] at e
  rw [e]; rfl
/-- Slices are put behind a row of slices of the call's own. -/
theorem run_append_sl (w : World) (base ty : Nat) (v : Value) (n : Nat) (xs : List Value) (hown : w.ownsRow base 97 1 v n xs) (u : Value) (m : Nat) (ys : List Value) (hu : w.ownsRow 0 97 1 u m ys) (h1 : ∀ y ∈ ys, y.oneCell' = true)
    (hbytes : n + m ≤ 1000000) (hbase : base ≤ w.heap.size) :
    ∃ v' w', (Builtin.append_ #[78, 78] ty #[v, u]).run Tryd.prog w = .ok v' w' ∧ w'.ownsRow base 97 1 v' (n + m) (xs ++ ys) ∧ w.grownBy w' v.ownBlock := by
  obtain ⟨i0, hi, hz0, hz1, hz2⟩ := info_parts info_sl
  rcases hu.2 with ⟨rfl, rfl⟩ | ⟨gu, cu, curu, rfl, _, hgu, hnu, _, hcsu, htu⟩
  · obtain rfl : ys = [] := List.eq_nil_of_length_eq_zero (by rw [hu.1])
    refine ⟨v, w, ?_, by simpa using hown, ⟨rfl, rfl, rfl, Nat.le_refl _, fun _ _ _ => rfl⟩⟩
    rcases hown.2 with ⟨rfl, rfl⟩ | ⟨g, cap, cur, rfl, _, _, hnc, _⟩
    · simp [Builtin.append_, run_underlying Tryd.underlying78, sizeOf, typeInfo, hi, Builtin.lenOf, Builtin.firstCells]
    · simp [Builtin.append_, run_underlying Tryd.underlying78, sizeOf, typeInfo, hi, Builtin.lenOf, Builtin.firstCells, hnc, storeCells]
  · have hnews : ∀ j x, ys[j]? = some x → w.cell? ((⟨gu, 0, none⟩ : Addr).add j) = some x := by
      intro j x hj
      rw [← htu, List.getElem?_take] at hj
      split at hj
      · rw [Addr.add_lit, cell_of_row _ _ _ _ _ _ hgu, Nat.zero_add, ← Array.getElem?_toList]; exact hj
      · cases hj
    obtain ⟨v', w', hr, h4, h5, _, h6⟩ := run_append_own_at (P := Tryd.prog) w base 78 ty 97 i0 _ 1 24 Tryd.underlying78 hi hz0 hz1 hz2 rfl (by decide) v n xs hown ⟨gu, 0, none⟩ m cu ys (by rw [hu.1]) hnews
      h1 (by unfold maxLen; omega) (by omega) hbase
    exact ⟨v', w', hr, h4, h5⟩
theorem step_append_sl {w : World} {ops : Array Oper} {o : Oper} {a : Act} {K : Act → World → Prop} {Q : Exit → Act → World → Prop} {E : Prop} (hgd : o.guard = none) (s x : Operand)
    (ho : o.op = .call { callee := .builtin .append, args := #[s, x], argTypes := #[78, 78] }) (base : Nat)
    (v : Value) (n : Nat) (xs : List Value) (hs : a.eval s = v) (hown : w.ownsRow base 97 1 v n xs) (u : Value) (m : Nat) (ys : List Value) (hx : a.eval x = u) (hu : w.ownsRow 0 97 1 u m ys) (h1 : ∀ y ∈ ys, y.oneCell' = true)
    (hbytes : n + m ≤ 1000000) (hbase : base ≤ w.heap.size)
    (h : ∀ v' w', w'.ownsRow base 97 1 v' (n + m) (xs ++ ys) → w.grownBy w' v.ownBlock → K (a.put o.dst v') w') : if Region.wanted o (yielded ops a.tmps) = true then Oper.wp Tryd.prog o a w K Q else E := by
  have hw : Region.wanted o (yielded ops a.tmps) = true := by simp [Region.wanted, hgd]
  rw [if_pos hw]
  obtain ⟨v', w', hr, h2, h3⟩ := run_append_sl w base o.type v n xs hown u m ys hu h1 hbytes hbase
  unfold Oper.wp execOp
  simp only [ho, resolve, invoke, builtin, Sem.run_bind, Sem.run_pure, Result.andThen_ok, List.map_toArray, List.map_cons, List.map_nil, hs, hx, hr]
  exact h v' w' h2 h3
/-- A call in a region that draws, whatever it answers. -/
theorem step_any1 {w : World} {ops : Array Oper} {o : Oper} {a : Act} {K : Act → World → Prop} {Q : Exit → Act → World → Prop} {E : Prop} (hgd : o.guard = none) (f : FuncId) (x : Operand) {tys : Array TypeId} (ho : o.op = .call { callee := .value (.func f), args := #[x], argTypes := tys }) {v : Value} {J : Value → World → Prop} (hx : a.eval x = v)
    (he : ∀ w, (callFunc f #[v]).run Tryd.prog w = .ok (.enter f #[v]) w) (hc : Calls Tryd.prog f #[v] w fun e w' => ∃ r, e = .returned r ∧ J r w') (h : ∀ r w', J r w' → K (a.put o.dst r) w') : if Region.wanted o (yielded ops a.tmps) = true then Oper.wp Tryd.prog o a w K Q else E := by
  have hw : Region.wanted o (yielded ops a.tmps) = true := by simp [Region.wanted, hgd]
  rw [if_pos hw]
  have hev : a.eval (.func f) = .func (.func f) #[] #[] := rfl
  have hv : #[x].map a.eval = #[v] := by simp [hx]
  unfold Oper.wp execOp
  simp only [ho, resolve, invoke, Sem.run_bind, hv, hev, Deferred.ofValue, Sem.run_pure, Result.andThen_ok, Array.append_empty, Array.empty_append, he, Oper.upon_enter]
  exact hc.mono (by rintro e w' ⟨r, rfl, hJ⟩; exact h r w' hJ)
theorem step_any2 {w : World} {ops : Array Oper} {o : Oper} {a : Act} {K : Act → World → Prop} {Q : Exit → Act → World → Prop} {E : Prop} (hgd : o.guard = none) (f : FuncId) (x y : Operand) {tys : Array TypeId} (ho : o.op = .call { callee := .value (.func f), args := #[x, y], argTypes := tys }) {v u : Value} {J : Value → World → Prop} (hx : a.eval x = v) (hy : a.eval y = u)
    (he : ∀ w, (callFunc f #[v, u]).run Tryd.prog w = .ok (.enter f #[v, u]) w) (hc : Calls Tryd.prog f #[v, u] w fun e w' => ∃ r, e = .returned r ∧ J r w') (h : ∀ r w', J r w' → K (a.put o.dst r) w') : if Region.wanted o (yielded ops a.tmps) = true then Oper.wp Tryd.prog o a w K Q else E := by
  have hw : Region.wanted o (yielded ops a.tmps) = true := by simp [Region.wanted, hgd]
  rw [if_pos hw]
  have hev : a.eval (.func f) = .func (.func f) #[] #[] := rfl
  have hv : #[x, y].map a.eval = #[v, u] := by simp [hx, hy]
  unfold Oper.wp execOp
  simp only [ho, resolve, invoke, Sem.run_bind, hv, hev, Deferred.ofValue, Sem.run_pure, Result.andThen_ok, Array.append_empty, Array.empty_append, he, Oper.upon_enter]
  exact hc.mono (by rintro e w' ⟨r, rfl, hJ⟩; exact h r w' hJ)
set_option maxHeartbeats 4000000 in
set_option maxRecDepth 100000 in
theorem text_h {F G : Nat → Nat} {W0 : World} (hF : ∀ i, F i < 256) (hG : ∀ i, G i < 256) : Calls Tryd.prog 69 #[.agg (ab 32 F), .agg (ab 32 G)] W0 fun e w' => ∃ r, e = .returned r ∧ TxV w' W0.heap.size r (txt F G) ∧ Below W0.heap.size W0 w' := by
  obtain ⟨A, hA⟩ : ∃ A, Hid (A = ab 32 F) := ⟨_, hide1 rfl⟩
  obtain ⟨B, hB⟩ : ∃ B, Hid (B = ab 32 G) := ⟨_, hide1 rfl⟩
  obtain ⟨T, hT⟩ : ∃ T, Hid (T = txt F G) := ⟨_, hide1 rfl⟩
  have hTl : ∀ i, T i < 256 := by rw [hT.out]; exact txt_b hF hG
  have hX1 : bvs 1 (fun _ => 1) ++ bvs 32 F = bvs 33 T := by
    rw [show bvs 1 (fun _ => 1) = bvs 1 T from bvs_cong fun i hi => by rw [hT.out]; unfold txt; rw [if_pos (by omega)]]
    exact bvs_app fun i hi => by rw [hT.out]; unfold txt; rw [if_neg (by omega), if_pos (by omega), show 1 + i - 1 = i by omega]
  have hX2 : bvs 33 T ++ bvs 32 G = bvs 65 T := bvs_app fun i hi => by rw [hT.out]; unfold txt; rw [if_neg (by omega), if_neg (by omega), show 33 + i - 33 = i by omega]
  rw [← hA.out, ← hB.out, ← hT.out]
  have bxA : ∀ w : World, (Instr.box 34 (.agg A)).run Tryd.prog w = .ok (.pointer (some ⟨w.heap.size, 0, none⟩)) (w.alloc (.cells A 34)) := fun w => bx_agg w
  have bxB : ∀ w : World, (Instr.box 34 (.agg B)).run Tryd.prog w = .ok (.pointer (some ⟨w.heap.size, 0, none⟩)) (w.alloc (.cells B 34)) := fun w => bx_agg w
  obtain ⟨w1, hw1⟩ : ∃ w1, Hid (w1 = (W0.alloc (.cells A 34)).alloc (.cells B 34)) := ⟨_, hide1 rfl⟩
  have h1 : Below W0.heap.size W0 w1 := by rw [hw1.out]; exact ((Below.refl _ _).alloc (Nat.le_refl _) _).alloc (by simp) _
  have rA : w1.heap[W0.heap.size]? = some (.cells A 34 (0, 0)) := by
    rw [hw1.out, Below.heap_alloc _ _ _ (by simp)]; exact (MapKept.heap_alloc W0 _).1
  have rB : w1.heap[W0.heap.size + 1]? = some (.cells B 34 (0, 0)) := by
    rw [hw1.out]
    have := (MapKept.heap_alloc (W0.alloc (.cells A 34)) (.cells B 34)).1
    rwa [show (W0.alloc (.cells A 34)).heap.size = W0.heap.size + 1 by simp] at this
  have bA : ∀ w', Below w1.heap.size w1 w' → Bs w' (some ⟨W0.heap.size, 0, none⟩) 32 F := fun w' hb => by
    have := bs_ab (off := 0) (n := 32) hF (by rw [hA.out] at rA; exact rA) (Nat.le_refl _)
    simpa using this.later hb
  have bB : ∀ w', Below w1.heap.size w1 w' → Bs w' (some ⟨W0.heap.size + 1, 0, none⟩) 32 G := fun w' hb => by
    have := bs_ab (off := 0) (n := 32) hG (by rw [hB.out] at rB; exact rB) (Nat.le_refl _)
    simpa using this.later hb
  have hs1 := h1.size
  have hoX : ∀ w' : World, w'.heap = (w1.alloc (.cells #[.int .u8 1] 5)).heap → w'.ownsRow w1.heap.size 5 1 (.slice (some ⟨w1.heap.size, 0, none⟩) 1 1) 1 (bvs 1 fun _ => 1) := fun w' hw => by
    have h := own_one w1 1
    exact ⟨h.1, by
      rcases h.2 with e | ⟨g, cap, cur, r1, r2, r3, r4⟩
      · exact .inl e
      · exact .inr ⟨g, cap, cur, r1, r2, by rw [hw]; exact r3, r4⟩⟩
  go_enter Tryd.func69, Tryd.ntmps69
  go_upto_region 1 with fail
  rw [← hw1.out]
  replace hoX := hide1 hoX
  clear bxA bxB rA rB
  go_region_law (first
    | (refine step_append_f rfl (.tmp 5) (.tmp 6) rfl w1.heap.size _ 1 _ (by first | (simp [Act.eval]; done) | (simp [Act.eval, Act.put]; done) | rfl) (hoX.out _ rfl) _ 32 32 F (by first | (simp [Act.eval]; done) | (simp [Act.eval, Act.put]; done) | rfl) (bA _ (((Below.refl _ _).alloc (Nat.le_refl _) _).drew)) (by omega) (by simp) ?_
       intro v1 w2 ho2 hg2 _
       rw [hX1] at ho2
       have hw2 := below_app (((Below.refl _ _).alloc (Nat.le_refl _) _).drew) (by simp) (hoX.out _ rfl) hg2
       obtain ⟨a1, c1, rfl, -, -⟩ := bs_own ho2 hTl
       have hs2 := hide1 hw2.size
       clear hg2)
    | (refine step_append_f rfl (.tmp 7) (.tmp 8) rfl w1.heap.size _ 33 _ (by first | (simp [Act.eval]; done) | (simp [Act.eval, Act.put]; done) | rfl) ho2 _ 32 32 G (by first | (simp [Act.eval]; done) | (simp [Act.eval, Act.put]; done) | rfl) (bB _ hw2) (by omega) hs2.out ?_
       intro v2 w3 ho3 hg3 _
       rw [hX2] at ho3
       have hw3 := below_app hw2 hs2.out ho2 hg3
       have ht3 := tx_own hs1 ho3
       have hf3 := h1.trans (hw3.mono hs1)
       replace ht3 := hide1 ht3
       replace hf3 := hide1 hf3
       clear hg3 ho3 ho2))
  all_goals
    go_wp2
    go_ret
    exact ⟨_, rfl, ht3.out, hf3.out⟩
end Go.Proofs.YtgnmnoadfjdjdaaDoor

namespace Go.Proofs.YtgnmnoadfjdjdaaDoor
open Go.RowKit Go.Maps Sh

/-- What Texts answers. -/
def TsO (W0 : World) (T : List (Nat → Nat)) (r : Value) (w' : World) : Prop := ∃ xs, w'.ownsRow W0.heap.size 97 1 r T.length xs ∧ TsAt w' W0.heap.size xs T ∧ Below W0.heap.size W0 w'
theorem own_any {w : World} {base : Nat} {e : TypeId} {v : Value} {n : Nat} {xs : List Value} (h : w.ownsRow base e 1 v n xs) : w.ownsRow 0 e 1 v n xs := by
  refine ⟨h.1, ?_⟩
  rcases h.2 with h2 | ⟨g, cap, cur, e1, _, r⟩
  · exact .inl h2
  · exact .inr ⟨g, cap, cur, e1, Nat.zero_le _, r⟩
theorem own_at {w w' : World} {base : Nat} {e : TypeId} {v : Value} {n : Nat} {xs : List Value} (h : w.ownsRow base e 1 v n xs) (hb : Below w.heap.size w w') : w'.ownsRow base e 1 v n xs := by
  refine ⟨h.1, ?_⟩
  rcases h.2 with h2 | ⟨g, cap, cur, e1, hb', hg, r⟩
  · exact .inl h2
  · exact .inr ⟨g, cap, cur, e1, hb', (hb.block g (Array.getElem?_eq_some_iff.1 hg).1).trans hg, r⟩
theorem own_mono {w : World} {base base' : Nat} {e : TypeId} {v : Value} {n : Nat} {xs : List Value} (h : w.ownsRow base e 1 v n xs) (hb : base' ≤ base) : w.ownsRow base' e 1 v n xs := by
  refine ⟨h.1, ?_⟩
  rcases h.2 with h2 | ⟨g, cap, cur, e1, hb', r⟩
  · exact .inl h2
  · exact .inr ⟨g, cap, cur, e1, by omega, r⟩
theorem own_ty {w : World} {base : Nat} {e : TypeId} {v : Value} {n : Nat} {xs : List Value} (h : w.ownsRow base e 1 v n xs) : ∀ g, v.ownBlock = some g → ∃ c, w.heap[g]? = some (.cells c e (0, 0)) := by
  intro g hg
  rcases h.2 with ⟨rfl, _⟩ | ⟨q, cap, cur, rfl, _, hq, _⟩
  · cases hg
  · cases hg; exact ⟨cur, hq⟩
set_option maxHeartbeats 4000000 in
set_option maxRecDepth 100000 in
theorem texts_2 {b off n cap : Nat} {W0 : World} {L : List (Nat → Nat)} (hL : L.length = n) (hn : 2 ≤ n) (hm : n ≤ 1000) (hcap : n ≤ cap) (hs : SsAt W0 (some ⟨b, off, none⟩) L)
    (hlo : ∀ w, Below W0.heap.size W0 w → Calls Tryd.prog 48 #[.slice (some ⟨b, off, none⟩) (cut n) cap] w fun e w' => ∃ r, e = .returned r ∧ TsO w (texts (L.take (cut n))) r w')
    (hhi : ∀ w, Below W0.heap.size W0 w → Calls Tryd.prog 48 #[.slice (some ⟨b, off + 32 * cut n, none⟩) (n - cut n) (cap - cut n)] w fun e w' => ∃ r, e = .returned r ∧ TsO w (texts (L.drop (cut n))) r w') :
    Calls Tryd.prog 48 #[.slice (some ⟨b, off, none⟩) n cap] W0 fun e w' => ∃ r, e = .returned r ∧ TsO W0 (texts L) r w' := by
  have hk := cut_in hn
  have ht := texts_n (l := L) (by omega)
  rw [hL] at ht
  have l1 : (L.take (cut n)).length = cut n := by rw [List.length_take]; omega
  have l2 : (L.drop (cut n)).length = n - cut n := by rw [List.length_drop]; omega
  have b1 := root_lt _ (L.take (cut n)) rfl (fun F hF => hs.1 F (List.mem_of_mem_take hF))
  have b2 := root_lt _ (L.drop (cut n)) rfl (fun F hF => hs.1 F (List.mem_of_mem_drop hF))
  have tl1 := texts_len _ (L.take (cut n)) l1
  have tl2 := texts_len _ (L.drop (cut n)) l2
  have r1 := fun w (hb : Below W0.heap.size W0 w) => root_r (cut n) (L.take (cut n)) _ cap w l1 (by omega) (hs.lo.later hb) (by omega)
  have r2 := fun w (hb : Below W0.heap.size W0 w) => root_r (n - cut n) (L.drop (cut n)) _ (cap - cut n) w l2 (by omega) (hs.hi.later hb) (by omega)
  have s1 := fun w => sl_lo (b := b) (off := off) (n := n) (cap := cap) (k := cut n) (by omega) hcap w
  have s2 := fun w => sl_hi (b := b) (off := off) (n := n) (cap := cap) (k := cut n) (by omega) hcap w
  have ck := cut_r (n : Int) (by omega)
  rw [Int.toNat_natCast] at ck
  generalize hA : root (L.take (cut n)) = A at *
  generalize hB : root (L.drop (cut n)) = B at *
  have tx := fun w => text_h (W0 := w) b1 b2
  generalize hU : txt A B = U at *
  generalize hT1 : texts (L.take (cut n)) = T1 at *
  generalize hT2 : texts (L.drop (cut n)) = T2 at *
  have hnl : ¬ ((n : Int) < 2) := by omega
  rw [ht]
  replace ht := hide1 ht
  replace hA := hide1 hA
  replace hB := hide1 hB
  replace hU := hide1 hU
  replace hT1 := hide1 hT1
  replace hT2 := hide1 hT2
  replace l1 := hide1 l1
  replace l2 := hide1 l2
  generalize cut n = k at *
  obtain ⟨hk1, hk2, hk3⟩ := hk
  go_enter Tryd.func48, Tryd.ntmps48
  go_wp2_with fail
  refine (ck _).mono ?_
  rintro e w1 ⟨rfl, rfl⟩
  go_wp2_with fail
  have hbd : Below w1.heap.size w1 w1.drew := (Below.refl _ _).drew
  go_region_law (first
    | (refine step_any1 rfl 48 (.tmp 13) rfl (by first | (simp [Act.eval]; done) | (simp [Act.eval, Act.put]; done) | rfl) (fun w => by kernel_rfl) (hlo _ hbd) ?_
       rintro q1 w2 ⟨xs, ho1, ht1, hb2⟩
       replace hb2 := hbd.trans (hb2.mono (Nat.le_refl _))
       replace ho1 := hide1 ho1
       replace ht1 := hide1 ht1)
    | (refine step_any1 rfl 48 (.tmp 17) rfl (by first | (simp [Act.eval]; done) | (simp [Act.eval, Act.put]; done) | rfl) (fun w => by kernel_rfl) (hhi _ hb2) ?_
       rintro q2 w3 ⟨ys, ho2, ht2, hb3⟩
       have hs2 := hb2.size
       have ho13 := own_at ho1.out hb3
       have ht13 := ht1.out.map fun h => h.later hb3
       have hb13 := hb2.trans (hb3.mono hs2)
       have ho2a := own_any ho2
       have ht2a := ht2.map fun h => h.mono hs2
       replace ho13 := hide1 ho13
       replace ho2a := hide1 ho2a
       replace ht13 := hide1 ht13
       replace ht2a := hide1 ht2a
       replace hs2 := hide1 hs2
       clear ho1 ht1 ho2 ht2 hb3 hb2)
    | (refine step_append_sl rfl (.tmp 14) (.tmp 18) rfl w1.heap.size _ T1.length xs (by first | (simp [Act.eval]; done) | (simp [Act.eval, Act.put]; done) | rfl) ho13.out _ T2.length ys (by first | (simp [Act.eval]; done) | (simp [Act.eval, Act.put]; done) | rfl) ho2a.out ht2a.out.cells (by omega) hb13.size ?_
       intro q3 w4 ho4 hg4
       have ht4 := (ht13.out.map fun h => h.grown hg4 (own_ty ho13.out)).app (ht2a.out.map fun h => h.grown hg4 (own_ty ho13.out))
       have hb4 : Below w1.heap.size w1 w4 := hb13.grown hg4 hb13.size (fun g e => (ho13.out.lt g e).1)
       replace ho4 := hide1 ho4
       replace ht4 := hide1 ht4
       clear hg4 ho13 ho2a ht13 ht2a hb13))
  all_goals
    clear hlo hhi hbd
    go_wp2_with fail
    have hb4d : Below w1.heap.size w1 w4.drew := hb4.drew
    have r1d := fun w hb => (r1 w hb).mono (R' := fun e w' => ∃ r, e = .returned r ∧ (r = .agg (ab 32 A) ∧ Below w.heap.size w w')) fun e w' h => ⟨_, h.1, rfl, h.2⟩
    have r2d := fun w hb => (r2 w hb).mono (R' := fun e w' => ∃ r, e = .returned r ∧ (r = .agg (ab 32 B) ∧ Below w.heap.size w w')) fun e w' h => ⟨_, h.1, rfl, h.2⟩
    clear r1 r2
    have ho4d : Hid (w4.drew.ownsRow w1.heap.size 97 1 q3 (T1.length + T2.length) (xs ++ ys)) := ho4
    have ht4d : Hid (TsAt w4.drew w1.heap.size (xs ++ ys) (T1 ++ T2)) := ht4
    clear ho4 ht4 hb4
    go_region_law (first
      | (refine step_any1 rfl 15 (.tmp 23) rfl (by first | (simp [Act.eval]; done) | (simp [Act.eval, Act.put]; done) | rfl) (fun w => by kernel_rfl) (r1d _ hb4d) ?_
         rintro _ w5 ⟨rfl, hb5⟩
         have hb15 := hb4d.trans (hb5.mono hb4d.size)
         have ho5 := hide1 (own_at ho4d.out hb5)
         have ht5 := hide1 (ht4d.out.map fun h => h.later hb5))
      | (refine step_any1 rfl 15 (.tmp 27) rfl (by first | (simp [Act.eval]; done) | (simp [Act.eval, Act.put]; done) | rfl) (fun w => by kernel_rfl) (r2d _ hb15) ?_
         rintro _ w6 ⟨rfl, hb6⟩
         have hb16 := hb15.trans (hb6.mono hb15.size)
         have ho6 := hide1 (own_at ho5.out hb6)
         have ht6 := hide1 (ht5.out.map fun h => h.later hb6))
      | (refine step_any2 rfl 69 (.tmp 24) (.tmp 28) rfl (by first | rfl | (simp [Act.eval]; done)) (by first | rfl | (simp [Act.eval]; done)) (fun w => by kernel_rfl) (tx w6) ?_
         rintro rt w7 ⟨htx, hb7⟩
         have htx2 := htx
         obtain ⟨tb, _, tcap, rfl, _⟩ := htx2
         have hb17 := hb16.trans (hb7.mono hb16.size)
         have ho7 := hide1 (own_at ho6.out hb7)
         have ht7 := hide1 (ht6.out.map fun h => h.later hb7)
         have hal : Below w7.heap.size w7 (w7.alloc (.cells #[.slice (some ⟨tb, 0, none⟩) 65 tcap] 97)) := (Below.refl _ _).alloc (Nat.le_refl _) _
         have ho8 := hide1 (own_at ho7.out hal)
         have ht8 := hide1 ((ht7.out.map fun h => h.later hal).app (TsAt.one ((htx.mono hb16.size).later hal)))
         have hb18 := hb17.trans (hal.mono hb17.size)
         have hu8 : Hid ((w7.alloc (.cells #[.slice (some ⟨tb, 0, none⟩) 65 tcap] 97)).ownsRow 0 97 1 (.slice (some ⟨w7.heap.size, 0, none⟩) 1 1) 1 [.slice (some ⟨tb, 0, none⟩) 65 tcap]) := hide1 ⟨rfl, .inr ⟨w7.heap.size, 1, _, rfl, Nat.zero_le _, (MapKept.heap_alloc w7 _).1, Nat.le_refl _, by decide, rfl, rfl⟩⟩
         have hc8 : ∀ y ∈ [Value.slice (some ⟨tb, 0, none⟩) 65 tcap], y.oneCell' = true := (TsAt.one htx).cells
         clear htx hal ho7 ht7 ho6 ht6 ho5 ht5)
      | (refine step_append_sl rfl (.tmp 20) (.tmp 30) rfl w1.heap.size _ (T1.length + T2.length) (xs ++ ys) (by first | (simp [Act.eval]; done) | (simp [Act.eval, Act.put]; done) | rfl) ho8.out _ 1 [.slice (some ⟨tb, 0, none⟩) 65 tcap] (by first | (simp [Act.eval]; done) | (simp [Act.eval, Act.put]; done) | rfl) hu8.out hc8 (by omega) hb18.size ?_
         intro r9 w9 ho9 hg9
         have ht9 := hide1 (ht8.out.map fun h => h.grown hg9 (own_ty ho8.out))
         have hb9 : Below w1.heap.size w1 w9 := hb18.grown hg9 hb18.size (fun g e => (ho8.out.lt g e).1)
         replace ho9 := hide1 ho9
         clear hg9))
    all_goals
      go_wp2
      go_ret
      refine ⟨_, rfl, _, ?_, ht9.out, hb9⟩
      rw [List.length_append, List.length_append]
      exact ho9.out
theorem texts_r : ∀ (n : Nat) (L : List (Nat → Nat)) (a : Option Addr) (cap : Nat) (W0 : World), L.length = n → n ≤ 1000 → SsAt W0 a L → n ≤ cap → Calls Tryd.prog 48 #[.slice a n cap] W0 fun e w' => ∃ r, e = .returned r ∧ TsO W0 (texts L) r w' := by
  intro n
  induction n using Nat.strongRecOn with
  | ind n ih =>
    intro L a cap W0 hL hm hs hcap
    rcases Nat.lt_or_ge n 2 with h2 | h2
    · rw [texts_s (by omega)]
      have hnl : (n : Int) < 2 := by omega
      go_enter Tryd.func48, Tryd.ntmps48
      go_wp2
      go_ret
      exact ⟨_, rfl, [], ⟨rfl, .inl ⟨rfl, rfl⟩⟩, TsAt.none _ _, Below.refl _ _⟩
    · obtain ⟨b, off, rfl, hc⟩ := hs.2 (by omega)
      have hk := cut_in h2
      exact texts_2 hL h2 hm hcap hs
        (fun w hw => ih (cut n) hk.2.1 (L.take (cut n)) _ cap w (by rw [List.length_take]; omega) (by omega) (hs.lo.later hw) (by omega))
        (fun w hw => ih (n - cut n) (by omega) (L.drop (cut n)) _ (cap - cut n) w (by rw [List.length_drop]; omega) (by omega) (hs.hi.later hw) (by omega))
end Go.Proofs.YtgnmnoadfjdjdaaDoor

namespace Go.Proofs.YtgnmnoadfjdjdaaDoor
open Go.RowKit
section
variable {P : Program} {Q : Exit → Act → World → Prop}
theorem putg_ {a : Act} {d t : Nat} {v : Value} (hd : d < a.tmps.size) : (a.put (some d) v).tmps.getD t undef = if t = d then v else a.tmps.getD t undef := by
  unfold Act.put
  simp only [Array.getD_eq_getD_getElem?, Array.getElem?_setIfInBounds]
  by_cases e : d = t
  · subst e; simp [hd]
  · rw [if_neg e, if_neg (fun h => e h.symm)]
theorem wp_val {o : Oper} {a : Act} {w w' : World} {K : Act → World → Prop} {v : Value} (h : (execOp a.eval o).run P w = .ok (.value v) w') (hk : K (a.put o.dst v) w') : o.wp P a w K Q := by
  unfold Oper.wp; rw [h]; exact hk
theorem wp_skp {o : Oper} {a : Act} {w w' : World} {K : Act → World → Prop} (h : (execOp a.eval o).run P w = .ok .skip w') (hk : K (a.put o.dst undef) w') : o.wp P a w K Q := by
  unfold Oper.wp; rw [h]; exact hk
theorem wnt {ops : Array Oper} {a : Act} {o : Oper} {j d : Nat} (hg : o.guard = some (j, true)) (hd : (ops[j]?).bind (·.dst) = some d) (h : a.tmps.getD d undef = .bool true) : Region.wanted o (yielded ops a.tmps) = true := by
  have ht : a.tmps[d]? = some (.bool true) := by
    rw [Array.getD_eq_getD_getElem?] at h
    cases hx : a.tmps[d]? with
    | none => rw [hx] at h; cases h
    | some x => rw [hx] at h; rw [← h]; rfl
  unfold Region.wanted yielded
  rw [hg]
  simp only [hd, Option.bind_some, ht]
  rfl
theorem s_raw {fn : Func} {a : Act} {w : World} {R : Ending → World → Prop} {t : Nat} {v : Value} (hd : a.defers = []) (ht : t < a.tmps.size) (hv : a.tmps.getD t undef = v) (hr : fn.results = #[.tmp t]) (hR : R (.returned v) w) : bodyPost P fn R .ret a w := by
  refine ⟨hd, v, ?_, hR⟩
  have htm : a.tmps[t]? = some v := by
    simp only [Array.getD, ht] at hv
    simp at hv
    simp [ht, hv]
  simp only [results, hr]
  simp [htm]
/-- One operation's step: the others' answers stay told, the memory's predicate goes on. -/
def Hop (P : Program) (Q : Exit → Act → World → Prop) (l : List Oper) (n : Nat) (a0 : Act) (dd : Nat → Nat) (Rr : (Nat → Bool) → Nat → Value → World → Prop) (M : (Nat → Bool) → World → Prop) (i : Nat) (o : Oper) : Prop :=
  ∀ (D : Nat → Bool) (a : Act) (w : World), M D w → (∀ t, (∀ j, j < n → dd j ≠ t) → a.tmps.getD t undef = a0.tmps.getD t undef) → (∀ e ∈ o.after, Region.binds .any e = true → Rr D e.on (a.tmps.getD (dd e.on) undef) w ∧ D e.on = true) → D i = false → (∀ j oj, l[j]? = some oj → D j = true → ∀ e ∈ oj.after, Region.binds .any e = true → D e.on = true) →
    ∀ K : Act → World → Prop, (∀ v w', Rr (add1 D i) i v w' → M (add1 D i) w' → (∀ j u, j ≠ i → Rr D j u w → Rr (add1 D i) j u w') → K (a.put o.dst v) w') → Region.wanted o (yielded l.toArray a.tmps) = true ∧ o.wp P a w K Q
theorem wp_rel3 {l : List Oper} {id : Nat} (a0 : Act) (w0 : World) (Rr : (Nat → Bool) → Nat → Value → World → Prop) (M : (Nat → Bool) → World → Prop) (dd : Nat → Nat) (hm : P.follows .mixedOrders = true) (hac : acycB l.toArray = true) (n : Nat) (hn : l.length = n)
    (hdst : ∀ i o, l[i]? = some o → (o.dst = some (dd i) ∧ dd i < a0.tmps.size) ∨ (o.dst = none ∧ ∀ D v w, Rr D i v w → Rr D i undef w) ∧ a0.tmps.size ≤ dd i)
    (hinj : ∀ i j, i < n → j < n → dd i = dd j → i = j) (hdf : a0.defers = []) (h0 : M (fun _ => false) w0.drew)
    (hop : ∀ i o, l[i]? = some o → Hop P Q l n a0 dd Rr M i o)
    (hend : ∀ (D : Nat → Bool) (a : Act) (w : World), (∀ i, i < n → D i = true) → a.defers = [] → a.tmps.size = a0.tmps.size → M D w → (∀ t, (∀ j, j < n → dd j ≠ t) → a.tmps.getD t undef = a0.tmps.getD t undef) → (∀ i, i < n → Rr D i (a.tmps.getD (dd i) undef) w) → Q .normal a w) : (Code.region id l.toArray true).wp P Q a0 w0 := by
  subst hn
  have hacyc := acyc_of (ops := l.toArray) hac
  refine wp_region_any hm (wpAny_sym hacyc (fun D a w => a.defers = [] ∧ a.tmps.size = a0.tmps.size ∧ M D w ∧ (∀ t, (∀ j, j < l.length → dd j ≠ t) → a.tmps.getD t undef = a0.tmps.getD t undef) ∧ (∀ i, i < l.length → D i = true → Rr D i (a.tmps.getD (dd i) undef) w) ∧ ∀ j oj, l[j]? = some oj → D j = true → ∀ e ∈ oj.after, Region.binds .any e = true → D e.on = true) ?_ ?_ l.toArray.size _ a0 _ (by simp) ?_ ?_)
  · rintro D a w ⟨h1, h2, h3, h4, h5, h6⟩ i o ho hD hdep K hK
    have ho' : l[i]? = some o := by simpa using ho
    have hil : i < l.length := (List.getElem?_eq_some_iff.1 ho').1
    left
    refine hop i o ho' D a w h3 h4 (fun e he hb => ⟨h5 e.on (by have := hacyc i o ho e he hb; omega) (hdep e he hb), hdep e he hb⟩) (by simpa using hD) h6 K fun v w' hR hM hmono => hK _ _ ?_
    have hold : ∀ j, j < l.length → j ≠ i → add1 D i j = true → Rr (add1 D i) j (a.tmps.getD (dd j) undef) w' := fun j hj hne hDj => hmono j _ hne (h5 j hj (by unfold add1 at hDj; rwa [if_neg hne] at hDj))
    have hcl : ∀ j oj, l[j]? = some oj → add1 D i j = true → ∀ e ∈ oj.after, Region.binds .any e = true → add1 D i e.on = true := by
      intro j oj hj hDj e he hb
      unfold add1
      split
      · rfl
      · unfold add1 at hDj
        split at hDj
        · rename_i hji
          subst hji
          rw [ho'] at hj; cases hj
          exact hdep e he hb
        · exact h6 j oj hj hDj e he hb
    rcases hdst i o ho' with ⟨hd, hlt⟩ | ⟨⟨hd, hu⟩, hge⟩
    · have hdi : dd i < a.tmps.size := by rw [h2]; exact hlt
      rw [hd]
      refine ⟨h1, by unfold Act.put; simpa using h2, hM, fun t ht => ?_, fun j hj hDj => ?_, hcl⟩
      · rw [putg_ hdi, if_neg (fun e => ht i hil e.symm)]; exact h4 t ht
      · rw [putg_ hdi]
        by_cases e : dd j = dd i
        · rw [if_pos e, hinj j i hj hil e]; exact hR
        · rw [if_neg e]; exact hold j hj (fun e2 => e (by rw [e2])) hDj
    · rw [hd]
      refine ⟨h1, h2, hM, h4, fun j hj hDj => ?_, hcl⟩
      by_cases e : j = i
      · subst e
        have hz : a.tmps.getD (dd j) undef = undef := by
          rw [Array.getD_eq_getD_getElem?, Array.getElem?_eq_none (by rw [h2]; exact hge)]; rfl
        rw [show (a.put none v).tmps.getD (dd j) undef = undef from hz]
        exact hu _ _ _ hR
      · exact hold j hj e hDj
  · rintro D a w ⟨h1, h2, h3, h4, h5, _⟩ hall
    exact hend D a w (fun i hi => hall i (by simpa using hi)) h1 h2 h3 h4 fun i hi => h5 i hi (hall i (by simpa using hi))
  · exact Nat.le_trans (List.length_filter_le _ _) (by simp)
  · have e : ∀ i, (Array.replicate l.toArray.size false).getD i false = false := by
      intro i
      by_cases h : i < l.toArray.size <;> simp [Array.getD]
    have ef : (fun i => (Array.replicate l.toArray.size false).getD i false) = fun _ => false := funext e
    refine ⟨hdf, rfl, ?_, fun _ _ => rfl, fun i _ hi => ?_, fun i _ _ hi => ?_⟩
    · exact ef ▸ h0
    · replace hi : (Array.replicate l.toArray.size false).getD i false = true := hi
      rw [e] at hi; cases hi
    · replace hi : (Array.replicate l.toArray.size false).getD i false = true := hi
      rw [e] at hi; cases hi
end
end Go.Proofs.YtgnmnoadfjdjdaaDoor

namespace Go.Proofs.YtgnmnoadfjdjdaaDoor
open Go.RowKit Sh
section
variable {Q : Exit → Act → World → Prop}
theorem oper_any {o : Oper} {a : Act} {w : World} {K : Act → World → Prop} (f : FuncId) (xs : Array Operand) (tys : Array TypeId) (ho : o.op = .call { callee := .value (.func f), args := xs, argTypes := tys }) (vs : Array Value) (hv : xs.map a.eval = vs) (he : ∀ w, (callFunc f vs).run Tryd.prog w = .ok (.enter f vs) w) {J : Value → World → Prop}
    (hc : Calls Tryd.prog f vs w fun e w' => ∃ r, e = .returned r ∧ J r w') (h : ∀ r w', J r w' → K (a.put o.dst r) w') : o.wp Tryd.prog a w K Q := by
  have hev : a.eval (.func f) = .func (.func f) #[] #[] := rfl
  unfold Oper.wp execOp
  simp only [ho, resolve, invoke, Sem.run_bind, hv, hev, Deferred.ofValue, Sem.run_pure, Result.andThen_ok, Array.append_empty, Array.empty_append, he, Oper.upon_enter]
  exact hc.mono (by rintro e w' ⟨r, rfl, hJ⟩; exact h r w' hJ)
theorem oper_app {o : Oper} {a : Act} {w : World} {K : Act → World → Prop} (s x : Operand) (ho : o.op = .call { callee := .builtin .append, args := #[s, x], argTypes := #[22, 22] }) (base : Nat) (v : Value) (n : Nat) (xs : List Value) (hs : a.eval s = v) (hown : w.ownsRow base 34 32 v n xs) {g : Nat} {R : Nat → Nat} (hx : a.eval x = .slice (some ⟨g, 0, none⟩) 1 1) (hg : w.heap[g]? = some (.cells (ab 32 R) 34 (0, 0))) (hR : ∀ i, R i < 256)
    (hbytes : n + 1 ≤ 1000000) (hbase : base ≤ w.heap.size) (h : ∀ v' w', w'.ownsRow base 34 32 v' (n + 1) (xs ++ ssv [R]) → Below base w w' → K (a.put o.dst v') w') : o.wp Tryd.prog a w K Q := by
  have hb : SsAt w (some ⟨g, 0, none⟩) [R] := ⟨fun F h j => by rw [List.mem_singleton.1 h]; exact hR j, fun _ => ⟨_, 0, rfl, fun i h j hj => by
    obtain rfl : i = 0 := by simpa using h
    rw [cell_of_row _ _ _ _ _ _ hg, show 0 + 32 * 0 + j = j by omega]
    exact arr_get _ _ _ hj⟩⟩
  obtain ⟨v', w', hr, h2, h3⟩ := run_append_ss w base o.type v n xs hown (some ⟨g, 0, none⟩) 1 1 [R] hb rfl hbytes hbase
  unfold Oper.wp execOp
  simp only [ho, resolve, invoke, builtin, Sem.run_bind, Sem.run_pure, Result.andThen_ok, List.map_toArray, List.map_cons, List.map_nil, hs, hx, hr]
  exact h v' w' h2 (own_below hown hbase h3)
end
def OwnS (base n : Nat) (L : List (Nat → Nat)) (v : Value) (w : World) : Prop := w.ownsRow base 34 32 v n (ssv L) ∧ base ≤ w.heap.size
theorem OwnS.later {base n : Nat} {L : List (Nat → Nat)} {v : Value} {w w' : World} (h : OwnS base n L v w) (hb : Below w.heap.size w w') : OwnS base n L v w' := ⟨own_later h.1 hb, Nat.le_trans h.2 hb.size⟩
def Row1 (R : Nat → Nat) (v : Value) (w : World) : Prop := ∃ g, v = .slice (some ⟨g, 0, none⟩) 1 1 ∧ w.heap[g]? = some (.cells (ab 32 R) 34 (0, 0))
theorem Row1.later {R : Nat → Nat} {v : Value} {w w' : World} (h : Row1 R v w) (hb : Below w.heap.size w w') : Row1 R v w' := by
  obtain ⟨g, e, h1⟩ := h
  exact ⟨g, e, (hb.block g (Array.getElem?_eq_some_iff.1 h1).1).trans h1⟩
theorem add1_ne {D : Nat → Bool} {i j : Nat} (h : j ≠ i) : add1 D i j = D j := by unfold add1; rw [if_neg h]
theorem add1_eq {D : Nat → Bool} {i : Nat} : add1 D i i = true := by unfold add1; rw [if_pos rfl]
end Go.Proofs.YtgnmnoadfjdjdaaDoor

namespace Go.Proofs.YtgnmnoadfjdjdaaDoor
open Go.RowKit Go.Maps Sh
section
variable {x u : Operand}
theorem sub_nn {m k : Nat} (h : k ≤ m) (hm : m ≤ 1000000000) (w : World) : (do eqGuard .sub 3 x u (.int .i64 ((m : Nat) : Int)) (.int .i64 ((k : Nat) : Int)); binOp .sub 3 (.int .i64 ((m : Nat) : Int)) (.int .i64 ((k : Nat) : Int))).run Tryd.prog w = .ok (.int .i64 ((m - k : Nat) : Int)) w := by
  have := sb_zn (x := x) (u := u) (m := ((m : Nat) : Int)) (n := ((k : Nat) : Int)) (k := m - k) (by omega) (by omega) w
  exact this
end
def PA5 (b off n cap i N1 B : Nat) (A : List (Nat → Nat)) (R : Nat → Nat) : (Nat → Bool) → Nat → Value → World → Prop
  | _, 0, v, _ => v = .slice (some ⟨b, off, none⟩) n cap
  | _, 1, v, _ => v = .int .i64 ((cut n : Nat) : Int)
  | _, 2, v, _ => v = .slice (some ⟨b, off, none⟩) (cut n) cap
  | _, 3, v, _ => v = .int .i64 ((i : Nat) : Int)
  | D, 4, v, w => D 10 = false → OwnS B N1 A v w
  | _, 5, v, _ => v = .slice (some ⟨b, off, none⟩) n cap
  | _, 6, v, _ => v = .int .i64 ((cut n : Nat) : Int)
  | _, 7, v, _ => v = .slice (some ⟨b, off + 32 * cut n, none⟩) (n - cut n) (cap - cut n)
  | _, 8, v, _ => v = .agg (ab 32 R)
  | D, 9, v, w => D 10 = false → Row1 R v w
  | D, 10, v, w => D 10 = true ∧ OwnS B (N1 + 1) (A ++ [R]) v w
  | D, 11, v, w => D 10 = true ∧ OwnS B (N1 + 1) (A ++ [R]) v w
  | _, _, _, _ => True
def PA5d : Nat → Nat
  | 0 => 15
  | 1 => 16
  | 2 => 17
  | 3 => 18
  | 4 => 19
  | 5 => 20
  | 6 => 21
  | 7 => 22
  | 8 => 23
  | 9 => 24
  | 10 => 25
  | 11 => 4
  | i => 2000 + i
theorem PA5_mono (b off n cap i N1 B : Nat) (A : List (Nat → Nat)) (R : Nat → Nat) {D : Nat → Bool} {ix : Nat} {w w' : World} (hD : D ix = false) (hb : ix ≠ 10 → Below w.heap.size w w') : ∀ (j : Nat) (u : Value), j ≠ ix → PA5 b off n cap i N1 B A R D j u w → PA5 b off n cap i N1 B A R (add1 D ix) j u w'
  | 0, _, _, h => h
  | 1, _, _, h => h
  | 2, _, _, h => h
  | 3, _, _, h => h
  | 4, _, _, h => fun hd => by
    by_cases e : ix = 10
    · subst e; rw [add1_eq] at hd; cases hd
    · rw [add1_ne (fun q => e q.symm)] at hd; exact (h hd).later (hb e)
  | 5, _, _, h => h
  | 6, _, _, h => h
  | 7, _, _, h => h
  | 8, _, _, h => h
  | 9, _, _, h => fun hd => by
    by_cases e : ix = 10
    · subst e; rw [add1_eq] at hd; cases hd
    · rw [add1_ne (fun q => e q.symm)] at hd; exact (h hd).later (hb e)
  | 10, _, _, h => by
    have e : ix ≠ 10 := fun e => by rw [e] at hD; rw [h.1] at hD; cases hD
    exact ⟨by rw [add1_ne (fun q => e q.symm)]; exact h.1, h.2.later (hb e)⟩
  | 11, _, _, h => by
    have e : ix ≠ 10 := fun e => by rw [e] at hD; rw [h.1] at hD; cases hD
    exact ⟨by rw [add1_ne (fun q => e q.symm)]; exact h.1, h.2.later (hb e)⟩
  | _ + 12, _, _, _ => trivial
def PA6 (b off n cap i N1 B : Nat) (A : List (Nat → Nat)) (R : Nat → Nat) : (Nat → Bool) → Nat → Value → World → Prop
  | _, 0, v, _ => v = .slice (some ⟨b, off, none⟩) n cap
  | _, 1, v, _ => v = .int .i64 ((cut n : Nat) : Int)
  | _, 2, v, _ => v = .slice (some ⟨b, off + 32 * cut n, none⟩) (n - cut n) (cap - cut n)
  | _, 3, v, _ => v = .int .i64 ((i : Nat) : Int)
  | _, 4, v, _ => v = .int .i64 ((cut n : Nat) : Int)
  | _, 5, v, _ => v = .int .i64 ((i - cut n : Nat) : Int)
  | D, 6, v, w => D 12 = false → OwnS B N1 A v w
  | _, 7, v, _ => v = .slice (some ⟨b, off, none⟩) n cap
  | _, 8, v, _ => v = .int .i64 ((cut n : Nat) : Int)
  | _, 9, v, _ => v = .slice (some ⟨b, off, none⟩) (cut n) cap
  | _, 10, v, _ => v = .agg (ab 32 R)
  | D, 11, v, w => D 12 = false → Row1 R v w
  | D, 12, v, w => D 12 = true ∧ OwnS B (N1 + 1) (A ++ [R]) v w
  | D, 13, v, w => D 12 = true ∧ OwnS B (N1 + 1) (A ++ [R]) v w
  | _, _, _, _ => True
def PA6d : Nat → Nat
  | 0 => 26
  | 1 => 27
  | 2 => 28
  | 3 => 29
  | 4 => 30
  | 5 => 31
  | 6 => 32
  | 7 => 33
  | 8 => 34
  | 9 => 35
  | 10 => 36
  | 11 => 37
  | 12 => 38
  | 13 => 4
  | i => 2000 + i
theorem PA6_mono (b off n cap i N1 B : Nat) (A : List (Nat → Nat)) (R : Nat → Nat) {D : Nat → Bool} {ix : Nat} {w w' : World} (hD : D ix = false) (hb : ix ≠ 12 → Below w.heap.size w w') : ∀ (j : Nat) (u : Value), j ≠ ix → PA6 b off n cap i N1 B A R D j u w → PA6 b off n cap i N1 B A R (add1 D ix) j u w'
  | 0, _, _, h => h
  | 1, _, _, h => h
  | 2, _, _, h => h
  | 3, _, _, h => h
  | 4, _, _, h => h
  | 5, _, _, h => h
  | 6, _, _, h => fun hd => by
    by_cases e : ix = 12
    · subst e; rw [add1_eq] at hd; cases hd
    · rw [add1_ne (fun q => e q.symm)] at hd; exact (h hd).later (hb e)
  | 7, _, _, h => h
  | 8, _, _, h => h
  | 9, _, _, h => h
  | 10, _, _, h => h
  | 11, _, _, h => fun hd => by
    by_cases e : ix = 12
    · subst e; rw [add1_eq] at hd; cases hd
    · rw [add1_ne (fun q => e q.symm)] at hd; exact (h hd).later (hb e)
  | 12, _, _, h => by
    have e : ix ≠ 12 := fun e => by rw [e] at hD; rw [h.1] at hD; cases hD
    exact ⟨by rw [add1_ne (fun q => e q.symm)]; exact h.1, h.2.later (hb e)⟩
  | 13, _, _, h => by
    have e : ix ≠ 12 := fun e => by rw [e] at hD; rw [h.1] at hD; cases hD
    exact ⟨by rw [add1_ne (fun q => e q.symm)]; exact h.1, h.2.later (hb e)⟩
  | _ + 14, _, _, _ => trivial
set_option maxHeartbeats 4000000 in
set_option maxRecDepth 100000 in
theorem refPath_lo {b off n cap i N1 : Nat} {A : List (Nat → Nat)} {R : Nat → Nat} {W0 : World} (hn : 2 ≤ n) (hm : n ≤ 1000) (hcap : n ≤ cap) (hk : 1 ≤ cut n ∧ cut n < n ∧ n ≤ 2 * cut n) (hN : N1 ≤ 1000) (hRl : ∀ i, R i < 256) (hci : i < cut n) (_hin : i < n)
    (hP : ∀ w, Below W0.heap.size W0 w → Calls Tryd.prog 55 #[.slice (some ⟨b, off, none⟩) (cut n) cap, .int .i64 ((i : Nat) : Int)] w fun e w' => ∃ r, e = .returned r ∧ OwnS W0.heap.size N1 A r w' ∧ Below w.heap.size w w')
    (hR : ∀ w, Below W0.heap.size W0 w → Calls Tryd.prog 15 #[.slice (some ⟨b, off + 32 * cut n, none⟩) (n - cut n) (cap - cut n)] w fun e w' => e = .returned (.agg (ab 32 R)) ∧ Below w.heap.size w w') : Calls Tryd.prog 55 #[.slice (some ⟨b, off, none⟩) n cap, .int .i64 ((i : Nat) : Int)] W0 fun e w' => ∃ r, e = .returned r ∧ OwnS W0.heap.size (N1 + 1) (A ++ [R]) r w' ∧ Below W0.heap.size W0 w' := by
  obtain ⟨hk1, hk2, hk3⟩ := hk
  have h1 : ((n : Int) == 1) = false := by rw [beq_eq_false_iff_ne]; omega
  have hlt : (i : Int) < (cut n : Int) := by omega
  go_enter Tryd.func55, Tryd.ntmps55
  go_wp2_with fail
  refine (cut_kr n (by omega) W0).mono ?_
  rintro e w1 ⟨rfl, hb1⟩
  go_upto_region 5 with fail
  refine wp_rel3 _ _ (PA5 b off n cap i N1 W0.heap.size A R) (fun _ w => Below W0.heap.size W0 w) PA5d (by kernel_rfl) (by kernel_rfl) 12 (by kernel_rfl) ?_ ?_ rfl (hb1.drew) ?_ ?_
  · intro ix o ho
    match ix, ho with
    | 0, ho => obtain rfl := Option.some.inj ho; exact .inl ⟨rfl, by show 15 < 39; decide⟩
    | 1, ho => obtain rfl := Option.some.inj ho; exact .inl ⟨rfl, by show 16 < 39; decide⟩
    | 2, ho => obtain rfl := Option.some.inj ho; exact .inl ⟨rfl, by show 17 < 39; decide⟩
    | 3, ho => obtain rfl := Option.some.inj ho; exact .inl ⟨rfl, by show 18 < 39; decide⟩
    | 4, ho => obtain rfl := Option.some.inj ho; exact .inl ⟨rfl, by show 19 < 39; decide⟩
    | 5, ho => obtain rfl := Option.some.inj ho; exact .inl ⟨rfl, by show 20 < 39; decide⟩
    | 6, ho => obtain rfl := Option.some.inj ho; exact .inl ⟨rfl, by show 21 < 39; decide⟩
    | 7, ho => obtain rfl := Option.some.inj ho; exact .inl ⟨rfl, by show 22 < 39; decide⟩
    | 8, ho => obtain rfl := Option.some.inj ho; exact .inl ⟨rfl, by show 23 < 39; decide⟩
    | 9, ho => obtain rfl := Option.some.inj ho; exact .inl ⟨rfl, by show 24 < 39; decide⟩
    | 10, ho => obtain rfl := Option.some.inj ho; exact .inl ⟨rfl, by show 25 < 39; decide⟩
    | 11, ho => obtain rfl := Option.some.inj ho; exact .inl ⟨rfl, by show 4 < 39; decide⟩
    | _ + 12, ho => exact absurd ho (by simp)
  · intro ix jx hi hj e; unfold PA5d at e; split at e <;> split at e <;> omega
  · intro ix o ho
    match ix, ho with
    | 0, ho =>
      obtain rfl := Option.some.inj ho
      intro D a w hM hsl hdep hDi hcl K hK
      have hp0 : a.tmps.getD 0 undef = .slice (some ⟨b, off, none⟩) n cap := hsl 0 (by intro j hj; unfold PA5d; split <;> omega)
      refine ⟨rfl, ?_⟩
      refine wp_val (w' := w) (v := .slice (some ⟨b, off, none⟩) n cap) (by simp only [execOp, Act.eval]; rw [show a.tmps.getD 0 undef = _ from hp0]; rfl) ?_
      exact hK _ _ rfl hM (PA5_mono b off n cap i N1 W0.heap.size A R hDi (fun _ => (Below.refl _ _)))
    | 1, ho =>
      obtain rfl := Option.some.inj ho
      intro D a w hM hsl hdep hDi hcl K hK
      have hp5 : a.tmps.getD 5 undef = .int .i64 ((cut n : Nat) : Int) := hsl 5 (by intro j hj; unfold PA5d; split <;> omega)
      refine ⟨rfl, ?_⟩
      refine wp_val (w' := w) (v := .int .i64 ((cut n : Nat) : Int)) (by simp only [execOp, Act.eval]; rw [show a.tmps.getD 5 undef = _ from hp5]; rfl) ?_
      exact hK _ _ rfl hM (PA5_mono b off n cap i N1 W0.heap.size A R hDi (fun _ => (Below.refl _ _)))
    | 2, ho =>
      obtain rfl := Option.some.inj ho
      intro D a w hM hsl hdep hDi hcl K hK
      have e0 := (hdep ⟨0, .data⟩ (by simp) rfl).1
      have e1 := (hdep ⟨1, .data⟩ (by simp) rfl).1
      refine ⟨rfl, ?_⟩
      have hl := sl_lo (b := b) (off := off) (n := n) (cap := cap) (k := cut n) (by omega) hcap w
      refine wp_val (w' := w) (v := .slice (some ⟨b, off, none⟩) (cut n) cap) (by simp only [execOp, Act.eval, Option.map_some, Option.map_none]; rw [show a.tmps.getD 15 undef = _ from e0, show a.tmps.getD 16 undef = _ from e1]; simp only [Sem.run_bind, hl, Result.andThen_ok, Sem.run_pure]) ?_
      exact hK _ _ rfl hM (PA5_mono b off n cap i N1 W0.heap.size A R hDi (fun _ => (Below.refl _ _)))
    | 3, ho =>
      obtain rfl := Option.some.inj ho
      intro D a w hM hsl hdep hDi hcl K hK
      have hp1 : a.tmps.getD 1 undef = .int .i64 ((i : Nat) : Int) := hsl 1 (by intro j hj; unfold PA5d; split <;> omega)
      refine ⟨rfl, ?_⟩
      refine wp_val (w' := w) (v := .int .i64 ((i : Nat) : Int)) (by simp only [execOp, Act.eval]; rw [show a.tmps.getD 1 undef = _ from hp1]; rfl) ?_
      exact hK _ _ rfl hM (PA5_mono b off n cap i N1 W0.heap.size A R hDi (fun _ => (Below.refl _ _)))
    | 4, ho =>
      obtain rfl := Option.some.inj ho
      intro D a w hM hsl hdep hDi hcl K hK
      have e2 := (hdep ⟨2, .data⟩ (by simp) rfl).1
      have e3 := (hdep ⟨3, .data⟩ (by simp) rfl).1
      refine ⟨rfl, ?_⟩
      refine oper_any 55 #[.tmp 17, .tmp 18] _ rfl #[.slice (some ⟨b, off, none⟩) (cut n) cap, .int .i64 ((i : Nat) : Int)] (by simp only [List.map_toArray, List.map_cons, List.map_nil, Act.eval]; rw [show a.tmps.getD 17 undef = _ from e2, show a.tmps.getD 18 undef = _ from e3]) (fun w => by kernel_rfl) (hP w hM) fun r w' hj => ?_
      obtain ⟨hr, hb⟩ := hj
      exact hK _ _ (fun _ => hr) (blw hM hb) (PA5_mono b off n cap i N1 W0.heap.size A R hDi (fun _ => hb))
    | 5, ho =>
      obtain rfl := Option.some.inj ho
      intro D a w hM hsl hdep hDi hcl K hK
      have hp0 : a.tmps.getD 0 undef = .slice (some ⟨b, off, none⟩) n cap := hsl 0 (by intro j hj; unfold PA5d; split <;> omega)
      refine ⟨rfl, ?_⟩
      refine wp_val (w' := w) (v := .slice (some ⟨b, off, none⟩) n cap) (by simp only [execOp, Act.eval]; rw [show a.tmps.getD 0 undef = _ from hp0]; rfl) ?_
      exact hK _ _ rfl hM (PA5_mono b off n cap i N1 W0.heap.size A R hDi (fun _ => (Below.refl _ _)))
    | 6, ho =>
      obtain rfl := Option.some.inj ho
      intro D a w hM hsl hdep hDi hcl K hK
      have hp5 : a.tmps.getD 5 undef = .int .i64 ((cut n : Nat) : Int) := hsl 5 (by intro j hj; unfold PA5d; split <;> omega)
      refine ⟨rfl, ?_⟩
      refine wp_val (w' := w) (v := .int .i64 ((cut n : Nat) : Int)) (by simp only [execOp, Act.eval]; rw [show a.tmps.getD 5 undef = _ from hp5]; rfl) ?_
      exact hK _ _ rfl hM (PA5_mono b off n cap i N1 W0.heap.size A R hDi (fun _ => (Below.refl _ _)))
    | 7, ho =>
      obtain rfl := Option.some.inj ho
      intro D a w hM hsl hdep hDi hcl K hK
      have e5 := (hdep ⟨5, .data⟩ (by simp) rfl).1
      have e6 := (hdep ⟨6, .data⟩ (by simp) rfl).1
      refine ⟨rfl, ?_⟩
      have hl := sl_hi (b := b) (off := off) (n := n) (cap := cap) (k := cut n) (by omega) hcap w
      refine wp_val (w' := w) (v := .slice (some ⟨b, off + 32 * cut n, none⟩) (n - cut n) (cap - cut n)) (by simp only [execOp, Act.eval, Option.map_some, Option.map_none]; rw [show a.tmps.getD 20 undef = _ from e5, show a.tmps.getD 21 undef = _ from e6]; simp only [Sem.run_bind, hl, Result.andThen_ok, Sem.run_pure]) ?_
      exact hK _ _ rfl hM (PA5_mono b off n cap i N1 W0.heap.size A R hDi (fun _ => (Below.refl _ _)))
    | 8, ho =>
      obtain rfl := Option.some.inj ho
      intro D a w hM hsl hdep hDi hcl K hK
      have e7 := (hdep ⟨7, .data⟩ (by simp) rfl).1
      refine ⟨rfl, ?_⟩
      refine oper_callg 15 #[.tmp 22] _ rfl #[.slice (some ⟨b, off + 32 * cut n, none⟩) (n - cut n) (cap - cut n)] (by simp only [List.map_toArray, List.map_cons, List.map_nil, Act.eval]; rw [show a.tmps.getD 22 undef = _ from e7]) (fun w => by kernel_rfl) (hR w hM) fun w' hb => ?_
      exact hK _ _ rfl (blw hM hb) (PA5_mono b off n cap i N1 W0.heap.size A R hDi (fun _ => hb))
    | 9, ho =>
      obtain rfl := Option.some.inj ho
      intro D a w hM hsl hdep hDi hcl K hK
      have e8 := (hdep ⟨8, .data⟩ (by simp) rfl).1
      refine ⟨rfl, ?_⟩
      have hl := bs_sum R w
      refine wp_val (w' := w.alloc (.cells (ab 32 R) 34)) (v := .slice (some ⟨w.heap.size, 0, none⟩) 1 1) (by simp only [execOp, Act.eval, List.map_toArray, List.map_cons, List.map_nil]; rw [show a.tmps.getD 23 undef = _ from e8]; simp only [Sem.run_bind, hl, Result.andThen_ok, Sem.run_pure]) ?_
      exact hK _ _ (fun _ => ⟨_, rfl, World.alloc_heap_new w _⟩) (blw hM ((Below.refl _ _).alloc (Nat.le_refl _) _)) (PA5_mono b off n cap i N1 W0.heap.size A R hDi (fun _ => (Below.refl _ _).alloc (Nat.le_refl _) _))
    | 10, ho =>
      obtain rfl := Option.some.inj ho
      intro D a w hM hsl hdep hDi hcl K hK
      have e4 := (hdep ⟨4, .data⟩ (by simp) rfl).1
      have e9 := (hdep ⟨9, .data⟩ (by simp) rfl).1
      refine ⟨rfl, ?_⟩
      have ho := e4 hDi
      obtain ⟨g, eg, hg⟩ := e9 hDi
      refine oper_app (.tmp 19) (.tmp 24) rfl W0.heap.size _ N1 _ rfl ho.1 (show a.tmps.getD 24 undef = _ from eg) hg hRl (by omega) ho.2 fun v' w' ho' hb' => ?_
      exact hK _ _ ⟨add1_eq, by rw [ssv_app]; exact ho', Nat.le_trans ho.2 hb'.size⟩ (hM.trans hb') (PA5_mono b off n cap i N1 W0.heap.size A R hDi (fun h => absurd rfl h))
    | 11, ho =>
      obtain rfl := Option.some.inj ho
      intro D a w hM hsl hdep hDi hcl K hK
      have e10 := (hdep ⟨10, .data⟩ (by simp) rfl).1
      refine ⟨rfl, ?_⟩
      refine wp_val (w' := w) (v := a.tmps.getD 25 undef) (by simp only [execOp, Act.eval]; rfl) ?_
      exact hK _ _ ⟨by rw [add1_ne (by decide)]; exact e10.1, e10.2⟩ hM (PA5_mono b off n cap i N1 W0.heap.size A R hDi (fun _ => (Below.refl _ _)))
    | _ + 12, ho => exact absurd ho (by simp)
  · intro D a u hall hd hs hM hsl hr
    obtain ⟨-, hv⟩ := hr 11 (by decide)
    refine (‹∀ (a : Act) (w : World), Code.wp Tryd.prog Code.ret _ a w → _›) a u ?_
    refine wp_ret ?_
    refine then_ret ?_
    exact s_raw hd (by rw [hs]; show 4 < 39; decide) rfl Tryd.results55 ⟨_, rfl, hv, hM⟩
set_option maxHeartbeats 4000000 in
set_option maxRecDepth 100000 in
theorem refPath_hi {b off n cap i N1 : Nat} {A : List (Nat → Nat)} {R : Nat → Nat} {W0 : World} (hn : 2 ≤ n) (hm : n ≤ 1000) (hcap : n ≤ cap) (hk : 1 ≤ cut n ∧ cut n < n ∧ n ≤ 2 * cut n) (hN : N1 ≤ 1000) (hRl : ∀ i, R i < 256) (hci : cut n ≤ i) (hin : i < n)
    (hP : ∀ w, Below W0.heap.size W0 w → Calls Tryd.prog 55 #[.slice (some ⟨b, off + 32 * cut n, none⟩) (n - cut n) (cap - cut n), .int .i64 ((i - cut n : Nat) : Int)] w fun e w' => ∃ r, e = .returned r ∧ OwnS W0.heap.size N1 A r w' ∧ Below w.heap.size w w')
    (hR : ∀ w, Below W0.heap.size W0 w → Calls Tryd.prog 15 #[.slice (some ⟨b, off, none⟩) (cut n) cap] w fun e w' => e = .returned (.agg (ab 32 R)) ∧ Below w.heap.size w w') : Calls Tryd.prog 55 #[.slice (some ⟨b, off, none⟩) n cap, .int .i64 ((i : Nat) : Int)] W0 fun e w' => ∃ r, e = .returned r ∧ OwnS W0.heap.size (N1 + 1) (A ++ [R]) r w' ∧ Below W0.heap.size W0 w' := by
  obtain ⟨hk1, hk2, hk3⟩ := hk
  have h1 : ((n : Int) == 1) = false := by rw [beq_eq_false_iff_ne]; omega
  have hlt : ¬ (i : Int) < (cut n : Int) := by omega
  go_enter Tryd.func55, Tryd.ntmps55
  go_wp2_with fail
  refine (cut_kr n (by omega) W0).mono ?_
  rintro e w1 ⟨rfl, hb1⟩
  go_upto_region 6 with fail
  refine wp_rel3 _ _ (PA6 b off n cap i N1 W0.heap.size A R) (fun _ w => Below W0.heap.size W0 w) PA6d (by kernel_rfl) (by kernel_rfl) 14 (by kernel_rfl) ?_ ?_ rfl (hb1.drew) ?_ ?_
  · intro ix o ho
    match ix, ho with
    | 0, ho => obtain rfl := Option.some.inj ho; exact .inl ⟨rfl, by show 26 < 39; decide⟩
    | 1, ho => obtain rfl := Option.some.inj ho; exact .inl ⟨rfl, by show 27 < 39; decide⟩
    | 2, ho => obtain rfl := Option.some.inj ho; exact .inl ⟨rfl, by show 28 < 39; decide⟩
    | 3, ho => obtain rfl := Option.some.inj ho; exact .inl ⟨rfl, by show 29 < 39; decide⟩
    | 4, ho => obtain rfl := Option.some.inj ho; exact .inl ⟨rfl, by show 30 < 39; decide⟩
    | 5, ho => obtain rfl := Option.some.inj ho; exact .inl ⟨rfl, by show 31 < 39; decide⟩
    | 6, ho => obtain rfl := Option.some.inj ho; exact .inl ⟨rfl, by show 32 < 39; decide⟩
    | 7, ho => obtain rfl := Option.some.inj ho; exact .inl ⟨rfl, by show 33 < 39; decide⟩
    | 8, ho => obtain rfl := Option.some.inj ho; exact .inl ⟨rfl, by show 34 < 39; decide⟩
    | 9, ho => obtain rfl := Option.some.inj ho; exact .inl ⟨rfl, by show 35 < 39; decide⟩
    | 10, ho => obtain rfl := Option.some.inj ho; exact .inl ⟨rfl, by show 36 < 39; decide⟩
    | 11, ho => obtain rfl := Option.some.inj ho; exact .inl ⟨rfl, by show 37 < 39; decide⟩
    | 12, ho => obtain rfl := Option.some.inj ho; exact .inl ⟨rfl, by show 38 < 39; decide⟩
    | 13, ho => obtain rfl := Option.some.inj ho; exact .inl ⟨rfl, by show 4 < 39; decide⟩
    | _ + 14, ho => exact absurd ho (by simp)
  · intro ix jx hi hj e; unfold PA6d at e; split at e <;> split at e <;> omega
  · intro ix o ho
    match ix, ho with
    | 0, ho =>
      obtain rfl := Option.some.inj ho
      intro D a w hM hsl hdep hDi hcl K hK
      have hp0 : a.tmps.getD 0 undef = .slice (some ⟨b, off, none⟩) n cap := hsl 0 (by intro j hj; unfold PA6d; split <;> omega)
      refine ⟨rfl, ?_⟩
      refine wp_val (w' := w) (v := .slice (some ⟨b, off, none⟩) n cap) (by simp only [execOp, Act.eval]; rw [show a.tmps.getD 0 undef = _ from hp0]; rfl) ?_
      exact hK _ _ rfl hM (PA6_mono b off n cap i N1 W0.heap.size A R hDi (fun _ => (Below.refl _ _)))
    | 1, ho =>
      obtain rfl := Option.some.inj ho
      intro D a w hM hsl hdep hDi hcl K hK
      have hp5 : a.tmps.getD 5 undef = .int .i64 ((cut n : Nat) : Int) := hsl 5 (by intro j hj; unfold PA6d; split <;> omega)
      refine ⟨rfl, ?_⟩
      refine wp_val (w' := w) (v := .int .i64 ((cut n : Nat) : Int)) (by simp only [execOp, Act.eval]; rw [show a.tmps.getD 5 undef = _ from hp5]; rfl) ?_
      exact hK _ _ rfl hM (PA6_mono b off n cap i N1 W0.heap.size A R hDi (fun _ => (Below.refl _ _)))
    | 2, ho =>
      obtain rfl := Option.some.inj ho
      intro D a w hM hsl hdep hDi hcl K hK
      have e0 := (hdep ⟨0, .data⟩ (by simp) rfl).1
      have e1 := (hdep ⟨1, .data⟩ (by simp) rfl).1
      refine ⟨rfl, ?_⟩
      have hl := sl_hi (b := b) (off := off) (n := n) (cap := cap) (k := cut n) (by omega) hcap w
      refine wp_val (w' := w) (v := .slice (some ⟨b, off + 32 * cut n, none⟩) (n - cut n) (cap - cut n)) (by simp only [execOp, Act.eval, Option.map_some, Option.map_none]; rw [show a.tmps.getD 26 undef = _ from e0, show a.tmps.getD 27 undef = _ from e1]; simp only [Sem.run_bind, hl, Result.andThen_ok, Sem.run_pure]) ?_
      exact hK _ _ rfl hM (PA6_mono b off n cap i N1 W0.heap.size A R hDi (fun _ => (Below.refl _ _)))
    | 3, ho =>
      obtain rfl := Option.some.inj ho
      intro D a w hM hsl hdep hDi hcl K hK
      have hp1 : a.tmps.getD 1 undef = .int .i64 ((i : Nat) : Int) := hsl 1 (by intro j hj; unfold PA6d; split <;> omega)
      refine ⟨rfl, ?_⟩
      refine wp_val (w' := w) (v := .int .i64 ((i : Nat) : Int)) (by simp only [execOp, Act.eval]; rw [show a.tmps.getD 1 undef = _ from hp1]; rfl) ?_
      exact hK _ _ rfl hM (PA6_mono b off n cap i N1 W0.heap.size A R hDi (fun _ => (Below.refl _ _)))
    | 4, ho =>
      obtain rfl := Option.some.inj ho
      intro D a w hM hsl hdep hDi hcl K hK
      have hp5 : a.tmps.getD 5 undef = .int .i64 ((cut n : Nat) : Int) := hsl 5 (by intro j hj; unfold PA6d; split <;> omega)
      refine ⟨rfl, ?_⟩
      refine wp_val (w' := w) (v := .int .i64 ((cut n : Nat) : Int)) (by simp only [execOp, Act.eval]; rw [show a.tmps.getD 5 undef = _ from hp5]; rfl) ?_
      exact hK _ _ rfl hM (PA6_mono b off n cap i N1 W0.heap.size A R hDi (fun _ => (Below.refl _ _)))
    | 5, ho =>
      obtain rfl := Option.some.inj ho
      intro D a w hM hsl hdep hDi hcl K hK
      have e3 := (hdep ⟨3, .data⟩ (by simp) rfl).1
      have e4 := (hdep ⟨4, .data⟩ (by simp) rfl).1
      refine ⟨rfl, ?_⟩
      have hl := sub_nn (x := .tmp 29) (u := .tmp 30) hci (by omega) w
      refine wp_val (w' := w) (v := .int .i64 ((i - cut n : Nat) : Int)) (by simp only [execOp, Act.eval]; rw [show a.tmps.getD 29 undef = _ from e3, show a.tmps.getD 30 undef = _ from e4]; simp only [Sem.run_bind, hl, Result.andThen_ok, Sem.run_pure]) ?_
      exact hK _ _ rfl hM (PA6_mono b off n cap i N1 W0.heap.size A R hDi (fun _ => (Below.refl _ _)))
    | 6, ho =>
      obtain rfl := Option.some.inj ho
      intro D a w hM hsl hdep hDi hcl K hK
      have e2 := (hdep ⟨2, .data⟩ (by simp) rfl).1
      have e5 := (hdep ⟨5, .data⟩ (by simp) rfl).1
      refine ⟨rfl, ?_⟩
      refine oper_any 55 #[.tmp 28, .tmp 31] _ rfl #[.slice (some ⟨b, off + 32 * cut n, none⟩) (n - cut n) (cap - cut n), .int .i64 ((i - cut n : Nat) : Int)] (by simp only [List.map_toArray, List.map_cons, List.map_nil, Act.eval]; rw [show a.tmps.getD 28 undef = _ from e2, show a.tmps.getD 31 undef = _ from e5]) (fun w => by kernel_rfl) (hP w hM) fun r w' hj => ?_
      obtain ⟨hr, hb⟩ := hj
      exact hK _ _ (fun _ => hr) (blw hM hb) (PA6_mono b off n cap i N1 W0.heap.size A R hDi (fun _ => hb))
    | 7, ho =>
      obtain rfl := Option.some.inj ho
      intro D a w hM hsl hdep hDi hcl K hK
      have hp0 : a.tmps.getD 0 undef = .slice (some ⟨b, off, none⟩) n cap := hsl 0 (by intro j hj; unfold PA6d; split <;> omega)
      refine ⟨rfl, ?_⟩
      refine wp_val (w' := w) (v := .slice (some ⟨b, off, none⟩) n cap) (by simp only [execOp, Act.eval]; rw [show a.tmps.getD 0 undef = _ from hp0]; rfl) ?_
      exact hK _ _ rfl hM (PA6_mono b off n cap i N1 W0.heap.size A R hDi (fun _ => (Below.refl _ _)))
    | 8, ho =>
      obtain rfl := Option.some.inj ho
      intro D a w hM hsl hdep hDi hcl K hK
      have hp5 : a.tmps.getD 5 undef = .int .i64 ((cut n : Nat) : Int) := hsl 5 (by intro j hj; unfold PA6d; split <;> omega)
      refine ⟨rfl, ?_⟩
      refine wp_val (w' := w) (v := .int .i64 ((cut n : Nat) : Int)) (by simp only [execOp, Act.eval]; rw [show a.tmps.getD 5 undef = _ from hp5]; rfl) ?_
      exact hK _ _ rfl hM (PA6_mono b off n cap i N1 W0.heap.size A R hDi (fun _ => (Below.refl _ _)))
    | 9, ho =>
      obtain rfl := Option.some.inj ho
      intro D a w hM hsl hdep hDi hcl K hK
      have e7 := (hdep ⟨7, .data⟩ (by simp) rfl).1
      have e8 := (hdep ⟨8, .data⟩ (by simp) rfl).1
      refine ⟨rfl, ?_⟩
      have hl := sl_lo (b := b) (off := off) (n := n) (cap := cap) (k := cut n) (by omega) hcap w
      refine wp_val (w' := w) (v := .slice (some ⟨b, off, none⟩) (cut n) cap) (by simp only [execOp, Act.eval, Option.map_some, Option.map_none]; rw [show a.tmps.getD 33 undef = _ from e7, show a.tmps.getD 34 undef = _ from e8]; simp only [Sem.run_bind, hl, Result.andThen_ok, Sem.run_pure]) ?_
      exact hK _ _ rfl hM (PA6_mono b off n cap i N1 W0.heap.size A R hDi (fun _ => (Below.refl _ _)))
    | 10, ho =>
      obtain rfl := Option.some.inj ho
      intro D a w hM hsl hdep hDi hcl K hK
      have e9 := (hdep ⟨9, .data⟩ (by simp) rfl).1
      refine ⟨rfl, ?_⟩
      refine oper_callg 15 #[.tmp 35] _ rfl #[.slice (some ⟨b, off, none⟩) (cut n) cap] (by simp only [List.map_toArray, List.map_cons, List.map_nil, Act.eval]; rw [show a.tmps.getD 35 undef = _ from e9]) (fun w => by kernel_rfl) (hR w hM) fun w' hb => ?_
      exact hK _ _ rfl (blw hM hb) (PA6_mono b off n cap i N1 W0.heap.size A R hDi (fun _ => hb))
    | 11, ho =>
      obtain rfl := Option.some.inj ho
      intro D a w hM hsl hdep hDi hcl K hK
      have e10 := (hdep ⟨10, .data⟩ (by simp) rfl).1
      refine ⟨rfl, ?_⟩
      have hl := bs_sum R w
      refine wp_val (w' := w.alloc (.cells (ab 32 R) 34)) (v := .slice (some ⟨w.heap.size, 0, none⟩) 1 1) (by simp only [execOp, Act.eval, List.map_toArray, List.map_cons, List.map_nil]; rw [show a.tmps.getD 36 undef = _ from e10]; simp only [Sem.run_bind, hl, Result.andThen_ok, Sem.run_pure]) ?_
      exact hK _ _ (fun _ => ⟨_, rfl, World.alloc_heap_new w _⟩) (blw hM ((Below.refl _ _).alloc (Nat.le_refl _) _)) (PA6_mono b off n cap i N1 W0.heap.size A R hDi (fun _ => (Below.refl _ _).alloc (Nat.le_refl _) _))
    | 12, ho =>
      obtain rfl := Option.some.inj ho
      intro D a w hM hsl hdep hDi hcl K hK
      have e6 := (hdep ⟨6, .data⟩ (by simp) rfl).1
      have e11 := (hdep ⟨11, .data⟩ (by simp) rfl).1
      refine ⟨rfl, ?_⟩
      have ho := e6 hDi
      obtain ⟨g, eg, hg⟩ := e11 hDi
      refine oper_app (.tmp 32) (.tmp 37) rfl W0.heap.size _ N1 _ rfl ho.1 (show a.tmps.getD 37 undef = _ from eg) hg hRl (by omega) ho.2 fun v' w' ho' hb' => ?_
      exact hK _ _ ⟨add1_eq, by rw [ssv_app]; exact ho', Nat.le_trans ho.2 hb'.size⟩ (hM.trans hb') (PA6_mono b off n cap i N1 W0.heap.size A R hDi (fun h => absurd rfl h))
    | 13, ho =>
      obtain rfl := Option.some.inj ho
      intro D a w hM hsl hdep hDi hcl K hK
      have e12 := (hdep ⟨12, .data⟩ (by simp) rfl).1
      refine ⟨rfl, ?_⟩
      refine wp_val (w' := w) (v := a.tmps.getD 38 undef) (by simp only [execOp, Act.eval]; rfl) ?_
      exact hK _ _ ⟨by rw [add1_ne (by decide)]; exact e12.1, e12.2⟩ hM (PA6_mono b off n cap i N1 W0.heap.size A R hDi (fun _ => (Below.refl _ _)))
    | _ + 14, ho => exact absurd ho (by simp)
  · intro D a u hall hd hs hM hsl hr
    obtain ⟨-, hv⟩ := hr 13 (by decide)
    refine (‹∀ (a : Act) (w : World), Code.wp Tryd.prog Code.ret _ a w → _›) a u ?_
    refine wp_ret ?_
    exact s_raw hd (by rw [hs]; show 4 < 39; decide) rfl Tryd.results55 ⟨_, rfl, hv, hM⟩
theorem refPath_d : ∀ (n i : Nat) (L : List (Nat → Nat)) (a : Option Addr) (cap : Nat) (W0 : World), L.length = n → i < n → n ≤ 1000 → SsAt W0 a L → n ≤ cap → Calls Tryd.prog 55 #[.slice a n cap, .int .i64 ((i : Nat) : Int)] W0 fun e w' => ∃ r, e = .returned r ∧ OwnS W0.heap.size (way i n).length (asl L (way i n)) r w' ∧ Below W0.heap.size W0 w' := by
  intro n
  induction n using Nat.strongRecOn with
  | ind n ih =>
    intro i L a cap W0 hL hi hm hs hcap
    rcases Nat.lt_or_ge n 2 with h2 | h2
    · obtain rfl : n = 1 := by omega
      obtain rfl : i = 0 := by omega
      rw [way_1]
      go_enter Tryd.func55, Tryd.ntmps55
      go_wp2
      go_ret
      exact ⟨_, rfl, ⟨World.ownsRow_nil _ _ _ _, Nat.le_refl _⟩, Below.refl _ _⟩
    · obtain ⟨b, off, rfl, hc⟩ := hs.2 (by omega)
      have hk := cut_in h2
      have l1 : (L.take (cut n)).length = cut n := by rw [List.length_take]; omega
      have l2 : (L.drop (cut n)).length = n - cut n := by rw [List.length_drop]; omega
      have b1 := root_lt _ (L.take (cut n)) rfl (fun F hF => hs.1 F (List.mem_of_mem_take hF))
      have b2 := root_lt _ (L.drop (cut n)) rfl (fun F hF => hs.1 F (List.mem_of_mem_drop hF))
      rcases Nat.lt_or_ge i (cut n) with h | h
      · rw [asl_lo hL h2 h, way_len_lo h2 h, Nat.add_comm 1]
        exact refPath_lo h2 hm hcap hk (by have := way_le i (cut n); omega) b2 h hi (fun w hw => (ih (cut n) hk.2.1 i (L.take (cut n)) _ cap w l1 h (by omega) (hs.lo.later hw) (by omega)).mono fun e w' ⟨r, e1, h1, h2⟩ => ⟨r, e1, ⟨own_weak h1.1 hw.size, Nat.le_trans hw.size h2.size⟩, h2⟩)
          (fun w hw => root_r (n - cut n) (L.drop (cut n)) _ (cap - cut n) w l2 (by omega) (hs.hi.later hw) (by omega))
      · rw [asl_hi h2 h, way_len_hi h2 h, Nat.add_comm 1]
        exact refPath_hi h2 hm hcap hk (by have := way_le (i - cut n) (n - cut n); omega) b1 h hi (fun w hw => (ih (n - cut n) (by omega) (i - cut n) (L.drop (cut n)) _ (cap - cut n) w l2 (by omega) (by omega) (hs.hi.later hw) (by omega)).mono fun e w' ⟨r, e1, h1, h2⟩ => ⟨r, e1, ⟨own_weak h1.1 hw.size, Nat.le_trans hw.size h2.size⟩, h2⟩)
          (fun w hw => root_r (cut n) (L.take (cut n)) _ cap w l1 (by omega) (hs.lo.later hw) (by omega))
end Go.Proofs.YtgnmnoadfjdjdaaDoor

namespace Go.Proofs.YtgnmnoadfjdjdaaDoor
end Go.Proofs.YtgnmnoadfjdjdaaDoor

namespace Go.Proofs.YtgnmnoadfjdjdaaDoor
open Go.RowKit Sh

theorem as_err (v : Value) (w : World) : (Instr.typeAssert (.iface 29 v) 25 29 true).run Tryd.prog w = .ok (.tuple #[v, .bool true]) w := by kernel_rfl
set_option maxHeartbeats 400000 in
theorem num_e (n : Int) (_h : (n == 0) = false) (w : World) : Calls Tryd.prog 38 #[ev n] w fun e w' => e = .returned (.int .i64 n) ∧ w' = w := by
  have has := as_err (.int .i64 n)
  unfold ev
  go_enter Tryd.func38, Tryd.ntmps38
  go_wp2
  go_ret
  exact ⟨rfl, rfl⟩
set_option maxHeartbeats 400000 in
theorem is_e (n : Int) (h : (n == 0) = false) (w : World) : Calls Tryd.prog 11 #[ev n, .int .i64 n] w fun e w' => e = .returned (.bool true) ∧ w' = w := by
  go_enter Tryd.func11, Tryd.ntmps11
  go_wp2_with fail
  refine (num_e n h _).mono ?_
  rintro e w1 ⟨rfl, rfl⟩
  go_wp2
  go_ret
  exact ⟨rfl, rfl⟩
set_option maxHeartbeats 400000 in
theorem same_d {aa a2 : Option Addr} {n m cap cap2 : Nat} {L M : List (Nat → Nat)} {W0 : World} (hL : SsAt W0 aa L) (hM : SsAt W0 a2 M) (lL : L.length = n) (lM : M.length = m) (hm : n ≤ 1000000) : Calls Tryd.prog 12 #[.slice aa n cap, .slice a2 m cap2] W0 fun e w' => e = .returned (.bool (eqLs L M)) ∧ Below W0.heap.size W0 w' := by
  have h := sums_d (cap := cap) (cap2 := cap2) hL hM lL lM hm
  go_enter Tryd.func12, Tryd.ntmps12
  go_wp2_with fail
  refine h.mono ?_
  rintro e w1 ⟨rfl, hb⟩
  go_wp2
  go_ret
  exact ⟨rfl, hb⟩
def z5 : Array Value := Array.replicate 160 (.int .u8 0)
theorem mk5 (w : World) : (Instr.makeSlice 22 (.int .i64 5) (.int .i64 5)).run Tryd.prog w = .ok (.slice (some ⟨w.heap.size, 0, none⟩) 5 5) (w.alloc (.cells z5 34)) := by kernel_rfl
theorem wpList_mk5 {w : World} {ops : Array Oper} {rest : List Oper} {o : Oper} {a : Act} {Q : Exit → Act → World → Prop} (hgd : o.guard = none) (ho : o.op = .makeSlice 22 (.const (.int .i64 5)) (.const (.int .i64 5)))
    (h : wpList Tryd.prog ops Q rest (a.put o.dst (.slice (some ⟨w.heap.size, 0, none⟩) 5 5)) (w.alloc (.cells z5 34))) : wpList Tryd.prog ops Q (o :: rest) a w := by
  refine wpList_plain hgd fun K hK => ?_
  unfold Oper.wp execOp
  simp only [ho, Act.eval, Sem.run_bind, mk5 w, Result.andThen_ok, Sem.run_pure]
  exact hK _ _ h
theorem ss_z5 {w : World} : SsAt (w.alloc (.cells z5 34)) (some ⟨w.heap.size, 0, none⟩) (List.replicate 5 fun _ => 0) :=
  ⟨fun F h j => by rw [(List.mem_replicate.1 h).2]; exact (by decide : 0 < 256), fun _ => ⟨_, 0, rfl, fun i h j hj => by
    rw [cell_of_row _ _ _ _ _ _ (World.alloc_heap_new w _)]
    rw [List.length_replicate] at h
    rw [List.getElem_replicate]
    unfold z5
    rw [Array.getElem?_replicate, if_pos (by omega)]
    rfl⟩⟩
theorem own_shape {w : World} {base n : Nat} {L : List (Nat → Nat)} {v : Value} (hL : ∀ F ∈ L, ∀ j, F j < 256) (hn : L.length = n) (h : w.ownsRow base 34 32 v n (ssv L)) : ∃ a cap, v = .slice a n cap ∧ SsAt w a L ∧ n ≤ cap := ss_own hL hn h
theorem asl_lt {L : List (Nat → Nat)} (h : ∀ F ∈ L, ∀ j, F j < 256) (xs : List Cu) : ∀ F ∈ asl L xs, ∀ j, F j < 256 := by
  intro F hF
  obtain ⟨c, _, rfl⟩ := List.mem_map.1 hF
  refine root_lt _ _ rfl fun G hG => h G ?_
  split at hG
  · exact List.mem_of_mem_take (List.mem_of_mem_drop hG)
  · exact List.mem_of_mem_take (List.mem_of_mem_drop hG)
theorem w45 : (way 4 5).length = 1 := by decide +kernel
theorem w05 : (way 0 5).length = 3 := by decide +kernel
set_option maxHeartbeats 4000000 in
set_option maxRecDepth 100000 in
theorem alive_t {W0 : World} (hg : Gl W0) : Calls Tryd.prog 9 #[] W0 fun e w' => e = .returned (.bool true) ∧ Below W0.heap.size W0 w' := by
  have hal : Below W0.heap.size W0 (W0.alloc (.cells z5 34)) := (Below.refl _ _).alloc (Nat.le_refl _) _
  have hss := ss_z5 (w := W0)
  have hl5 : (List.replicate 5 fun _ : Nat => 0).length = 5 := rfl
  have hlt := asl_lt hss.1
  go_enter Tryd.func9, Tryd.ntmps9
  go_wp2_with (refine wpList_mk5 rfl rfl ?_)
  generalize W0.alloc (.cells z5 34) = w1 at hal hss ⊢
  have h1 := path_d (i := 4) (cap := 5) (gl_b hg hal) (by decide) hl5 (by decide) (by decide) hss
  rw [w45] at h1
  refine h1.mono ?_
  rintro e w2 ⟨v, rfl, ho, hb2⟩
  obtain ⟨a1, c1, rfl, -, -⟩ := own_shape (hlt _) (by rw [asl_len, w45]) ho
  have hb02 := blw hal hb2
  have h2 := path_d (i := 0) (cap := 5) (gl_b hg hb02) (by decide) hl5 (by decide) (by decide) (hss.later hb2)
  rw [w05] at h2
  clear h1 ho
  go_wp2_with fail
  refine h2.mono ?_
  rintro e w3 ⟨v, rfl, ho, hb3⟩
  obtain ⟨a2, c2, rfl, -, -⟩ := own_shape (hlt _) (by rw [asl_len, w05]) ho
  have hb03 := blw hb02 hb3
  have h3 := length_d (i := 0) (n := 5) (by decide) (by decide) w3
  rw [w05] at h3
  clear h2 ho
  go_wp2_with fail
  refine h3.mono ?_
  rintro e w4 ⟨rfl, hb4⟩
  have hb04 := blw hb03 hb4
  go_wp2
  go_ret
  exact ⟨rfl, hb04⟩
end Go.Proofs.YtgnmnoadfjdjdaaDoor

namespace Go.Proofs.YtgnmnoadfjdjdaaDoor
open Go.RowKit Sh

theorem cut_rr (n : Nat) (hn : n ≤ 1048576) (w : World) : Calls Tryd.prog 43 #[.int .i64 ((n : Nat) : Int)] w fun e w' => e = .returned (.int .i64 ((cut n : Nat) : Int)) ∧ w' = w :=
  (cut_r ((n : Nat) : Int) (by omega) w).mono fun e w' h => ⟨by rw [h.1, Int.toNat_natCast], h.2⟩
def tx (r : Bool) (F p : Nat → Nat) : Nat → Nat := if r then txt p F else txt F p
/-- The texts digested on the way up. -/
def ctxL : List Cu → List (Nat → Nat) → (Nat → Nat) → List (Nat → Nat)
  | c :: cs, p :: ps, F => tx c.r F p :: ctxL cs ps (jn c.r F p)
  | _, _, _ => []
theorem ctxL_snoc : ∀ (cs : List Cu) (ps : List (Nat → Nat)) (F : Nat → Nat) (c : Cu) (p : Nat → Nat), cs.length = ps.length → ctxL (cs ++ [c]) (ps ++ [p]) F = ctxL cs ps F ++ [tx c.r (comeL cs ps F) p]
  | [], [], F, c, p, _ => rfl
  | c' :: cs, p' :: ps, F, c, p, h => by
    show tx c'.r F p' :: ctxL (cs ++ [c]) (ps ++ [p]) _ = _
    rw [ctxL_snoc cs ps _ c p (by simpa using h)]; rfl
  | [], _ :: _, _, _, _, h => by simp at h
  | _ :: _, [], _, _, _, h => by simp at h
theorem ctxL_map (s : Nat) : ∀ (cs : List Cu) (ps : List (Nat → Nat)) (F : Nat → Nat), ctxL (cs.map (sh s)) ps F = ctxL cs ps F
  | [], [], _ => rfl
  | [], _ :: _, _ => rfl
  | _ :: _, [], _ => rfl
  | c :: cs, p :: ps, F => by show tx c.r F p :: _ = tx c.r F p :: _; congr 1; exact ctxL_map s cs ps (jn c.r F p)
theorem ctxL_len : ∀ (cs : List Cu) (ps : List (Nat → Nat)) (F : Nat → Nat), cs.length = ps.length → (ctxL cs ps F).length = ps.length
  | [], [], _, _ => rfl
  | c :: cs, p :: ps, F, h => by show (ctxL cs ps _).length + 1 = _; rw [ctxL_len cs ps _ (by simpa using h)]; rfl
  | [], _ :: _, _, h => by simp at h
  | _ :: _, [], _, h => by simp at h
theorem ctx_lo {i n : Nat} {ps : List (Nat → Nat)} {p F : Nat → Nat} (hn : 2 ≤ n) (h : i < cut n) (hl : ps.length = (way i (cut n)).length) : ctxL (way i n).reverse (ps ++ [p]) F = ctxL (way i (cut n)).reverse ps F ++ [txt (comeL (way i (cut n)).reverse ps F) p] := by
  rw [way_lo hn h, List.reverse_cons, ctxL_snoc _ _ _ _ _ (by rw [List.length_reverse]; exact hl.symm)]; rfl
theorem ctx_hi {i n : Nat} {ps : List (Nat → Nat)} {p F : Nat → Nat} (hn : 2 ≤ n) (h : cut n ≤ i) (hl : ps.length = (way (i - cut n) (n - cut n)).length) : ctxL (way i n).reverse (ps ++ [p]) F = ctxL (way (i - cut n) (n - cut n)).reverse ps F ++ [txt p (comeL (way (i - cut n) (n - cut n)).reverse ps F)] := by
  rw [way_hi hn h, List.reverse_cons, ctxL_snoc _ _ _ _ _ (by rw [List.length_reverse, List.length_map]; exact hl.symm), ← List.map_reverse, ctxL_map, comeL_map]; rfl
/-- A load whose run is known, in a plain region. -/
theorem wpList_ld {w : World} {ops : Array Oper} {rest : List Oper} {o : Oper} {a : Act} {Q : Exit → Act → World → Prop} (hgd : Region.wanted o (yielded ops a.tmps) = true) (t : TypeId) (p : Operand) (ho : o.op = .load t p) {v : Value} (pv : Value) (hp : a.eval p = pv) (hl : (Instr.loadAt t pv).run Tryd.prog w = .ok v w) (h : wpList Tryd.prog ops Q rest (a.put o.dst v) w) : wpList Tryd.prog ops Q (o :: rest) a w := by
  refine wpList_step fun K hK => ?_
  rw [if_pos hgd]
  unfold Oper.wp execOp
  simp only [ho, hp, Sem.run_bind, hl, Result.andThen_ok, Sem.run_pure]
  exact hK _ _ h
theorem wpList_eqG {w : World} {ops : Array Oper} {rest : List Oper} {o : Oper} {a : Act} {Q : Exit → Act → World → Prop} (hgd : Region.wanted o (yielded ops a.tmps) = true) (x u : Operand) (ho : o.op = .binOp .eql 34 x u 34) {F G : Nat → Nat} {b : Bool} (hx : a.eval x = .agg (ab 32 F)) (hu : a.eval u = .agg (ab 32 G)) (hb : eqD F G = b) (h : wpList Tryd.prog ops Q rest (a.put o.dst (.bool b)) w) : wpList Tryd.prog ops Q (o :: rest) a w := by
  refine wpList_step fun K hK => ?_
  rw [if_pos hgd]
  have hl := eqS_v (x := x) (u := u) hb w
  unfold Oper.wp execOp
  simp only [ho, hx, hu]
  simp only [Sem.run_bind] at hl ⊢
  simp only [hl, Result.andThen_ok, Sem.run_pure]
  exact hK _ _ h
end Go.Proofs.YtgnmnoadfjdjdaaDoor

namespace Go.Proofs.YtgnmnoadfjdjdaaDoor
open Go.RowKit Sh

/-- All that is no row of digests stays; the heap grows. -/
def Gx (w w' : World) : Prop := w.heap.size ≤ w'.heap.size ∧ ∀ (g : Nat) (c : Array Value) (t : TypeId) (fr : Nat × Nat), w.heap[g]? = some (.cells c t fr) → t ≠ 34 → w'.heap[g]? = some (.cells c t fr)
theorem Gx.of {w w' : World} (h : Below w.heap.size w w') : Gx w w' := ⟨h.size, fun g _ _ _ hg _ => (h.block g (Array.getElem?_eq_some_iff.1 hg).1).trans hg⟩
theorem Gx.row {w : World} {g : Nat} {c c' : Array Value} (h : w.heap[g]? = some (.cells c 34 (0, 0))) : Gx w (w.setRow g c') :=
  ⟨by simp [World.setRow], fun k d t fr hk ht => (setRow_other w g k c' (fun e => by rw [e, h] at hk; cases hk; exact ht rfl)).trans hk⟩
def TxW (B : Nat) (T : Nat → Nat) (v : Value) (w : World) : Prop := TxV w B v T
theorem TxW.later {B : Nat} {T : Nat → Nat} {v : Value} {w w' : World} (h : TxW B T v w) (hg : Gx w w') : TxW B T v w' := by
  obtain ⟨b, c, cap, e, h1, h2, h3, h4⟩ := h
  exact ⟨b, c, cap, e, h1, h2, hg.2 b _ _ _ h3 (by decide), h4⟩
/-- Texts in a row of the call's own. -/
def TsV (B : Nat) (T : List (Nat → Nat)) (v : Value) (w : World) : Prop := B ≤ w.heap.size ∧ ∃ xs, w.ownsRow B 97 1 v T.length xs ∧ TsAt w B xs T
theorem own_gx {w w' : World} {base n : Nat} {v : Value} {xs : List Value} (h : w.ownsRow base 97 1 v n xs) (hg : Gx w w') : w'.ownsRow base 97 1 v n xs := by
  refine ⟨h.1, ?_⟩
  rcases h.2 with h2 | ⟨g, cap, cur, h1, h2, h3, h4⟩
  · exact .inl h2
  · exact .inr ⟨g, cap, cur, h1, h2, hg.2 g _ _ _ h3 (by decide), h4⟩
theorem TsV.later {B : Nat} {T : List (Nat → Nat)} {v : Value} {w w' : World} (h : TsV B T v w) (hg : Gx w w') : TsV B T v w' := by
  obtain ⟨h0, xs, h1, h2⟩ := h
  exact ⟨Nat.le_trans h0 hg.1, xs, own_gx h1 hg, h2.map (fun h => TxW.later h hg)⟩
def Row1t (B : Nat) (T : Nat → Nat) (v : Value) (w : World) : Prop := ∃ g r, v = .slice (some ⟨g, 0, none⟩) 1 1 ∧ w.heap[g]? = some (.cells #[r] 97 (0, 0)) ∧ TxV w B r T
theorem Row1t.later {B : Nat} {T : Nat → Nat} {v : Value} {w w' : World} (h : Row1t B T v w) (hg : Gx w w') : Row1t B T v w' := by
  obtain ⟨g, r, e, h1, h2⟩ := h
  exact ⟨g, r, e, hg.2 g _ _ _ h1 (by decide), TxW.later h2 hg⟩
/-- The memory of a region: three blocks of digests, and the texts till operation p comes up; q: the store. -/
structure MC (W0 : World) (g1 g2 g8 : Nat) (F1 F2 R : Nat → Nat) (Z : Array Value) (T : List (Nat → Nat)) (tv : Value) (p q : Nat) (D : Nat → Bool) (w : World) : Prop where
  bel : Below W0.heap.size W0 w
  r1 : w.heap[g1]? = some (.cells (ab 32 F1) 34 (0, 0))
  r2 : w.heap[g2]? = some (.cells (ab 32 F2) 34 (0, 0))
  r8 : w.heap[g8]? = some (.cells (if D q then ab 32 R else Z) 34 (0, 0))
  ts : D p = false → TsV W0.heap.size T tv w
theorem MC.step {W0 : World} {g1 g2 g8 : Nat} {F1 F2 R : Nat → Nat} {Z : Array Value} {T : List (Nat → Nat)} {tv : Value} {p q i : Nat} {D : Nat → Bool} {w w' : World} (h : MC W0 g1 g2 g8 F1 F2 R Z T tv p q D w) (hb : Below w.heap.size w w') (hp : i ≠ p) (hq : i ≠ q) : MC W0 g1 g2 g8 F1 F2 R Z T tv p q (add1 D i) w' :=
  ⟨blw h.bel hb, (hb.block _ (Array.getElem?_eq_some_iff.1 h.r1).1).trans h.r1, (hb.block _ (Array.getElem?_eq_some_iff.1 h.r2).1).trans h.r2, by rw [add1_ne (Ne.symm hq)]; exact (hb.block _ (Array.getElem?_eq_some_iff.1 h.r8).1).trans h.r8, by rw [add1_ne (Ne.symm hp)]; exact fun hd => (h.ts hd).later (Gx.of hb)⟩
theorem MC.app {W0 : World} {g1 g2 g8 : Nat} {F1 F2 R : Nat → Nat} {Z : Array Value} {T : List (Nat → Nat)} {tv v : Value} {p q n : Nat} {xs : List Value} {D : Nat → Bool} {w w' : World} (h : MC W0 g1 g2 g8 F1 F2 R Z T tv p q D w) (ho : w.ownsRow W0.heap.size 97 1 v n xs) (hg : w.grownBy w' v.ownBlock) (hpq : p ≠ q) : MC W0 g1 g2 g8 F1 F2 R Z T tv p q (add1 D p) w' := by
  have hs : ∀ (g : Nat) (c : Array Value), w.heap[g]? = some (Obj.cells c 34 (0, 0)) → w'.heap[g]? = some (Obj.cells c 34 (0, 0)) := fun g c hc => (hg.block g (Array.getElem?_eq_some_iff.1 hc).1 (fun e => by
    obtain ⟨c', hc'⟩ := own_ty ho g e.symm
    rw [hc] at hc'; cases hc')).trans hc
  refine ⟨h.bel.trans ((Below.refl _ w).grown hg (Nat.le_trans (Nat.le_refl _) h.bel.size) (fun k ek => ?_)), hs _ _ h.r1, hs _ _ h.r2, by rw [add1_ne (Ne.symm hpq)]; exact hs _ _ h.r8, fun hd => by rw [add1_eq] at hd; cases hd⟩
  rcases ho.2 with ⟨rfl, _⟩ | ⟨g, cap, cur, rfl, hb, _⟩
  · simp [Value.ownBlock] at ek
  · obtain rfl : g = k := by simpa [Value.ownBlock] using ek
    exact hb
theorem MC.sto {W0 : World} {g1 g2 g8 : Nat} {F1 F2 R : Nat → Nat} {Z : Array Value} {T : List (Nat → Nat)} {tv : Value} {p q : Nat} {D : Nat → Bool} {w : World} (h : MC W0 g1 g2 g8 F1 F2 R Z T tv p q D w) (h8 : W0.heap.size ≤ g8) (h1 : g1 ≠ g8) (h2 : g2 ≠ g8) (hpq : p ≠ q) : MC W0 g1 g2 g8 F1 F2 R Z T tv p q (add1 D q) (w.setRow g8 (ab 32 R)) := by
  have hw := wrt_row (c' := ab 32 R) h.r8
  exact ⟨below_wrt h.bel hw h8 (by have := h.bel.size; omega), (setRow_other w g8 g1 _ h1).trans h.r1, (setRow_other w g8 g2 _ h2).trans h.r2, by rw [add1_eq]; exact hw.row, by rw [add1_ne hpq]; exact fun hd => (h.ts hd).later (Gx.row h.r8)⟩
theorem s_raw2 {fn : Func} {a : Act} {w : World} {R : Ending → World → Prop} {p u g : Nat} {c : Array Value} {v : Value} (hd : a.defers = []) (hp : a.tmps.getD p undef = .pointer (some ⟨g, 0, none⟩)) (hv : a.tmps.getD u undef = v) (hr : fn.results = #[.cell p 34, .tmp u]) (hi : (Tryd.prog.info? 34).map (·.size) = some c.size) (hrow : w.heap[g]? = some (.cells c 34 (0, 0))) (hR : R (.returned (.tuple #[.agg c, v])) w) : bodyPost Tryd.prog fn R .ret a w := by
  refine ⟨hd, _, ?_, hR⟩
  have hl := run_loadVar_row (P := Tryd.prog) w g 34 34 c (0, 0) _ hrow Tryd.underlying34 rfl hi
  have ht2 : a.tmps[p]?.getD undef = .pointer (some ⟨g, 0, none⟩) := by simpa using hp
  have hu2 : a.tmps[u]?.getD undef = v := by simpa using hv
  simp [results, hr, ht2, asAddr, hl, Result.andThen, hu2]
theorem bs_txt (r : Value) (h1 : r.oneCell' = true) (w : World) : (Instr.buildSlice 78 1 #[(0, r)]).run Tryd.prog w = .ok (.slice (some ⟨w.heap.size, 0, none⟩) 1 1) (w.alloc (.cells #[r] 97)) := by
  cases r <;> first | (cases h1; done) | kernel_rfl
end Go.Proofs.YtgnmnoadfjdjdaaDoor

namespace Go.Proofs.YtgnmnoadfjdjdaaDoor
open Go.RowKit Sh

theorem wayN_top {q i f e : Nat} (h : f + 1 < e) : ∃ r, wayN (q + 1) i f e = ⟨f, f + cut (e - f), e, decide (f + cut (e - f) ≤ i)⟩ :: r := ⟨_, wayN_s h⟩
theorem ahead_eq {n : Nat} (hn : 1 ≤ n) : aheadL n n = [] := by
  unfold aheadL
  rcases Nat.lt_or_ge n 2 with h | h
  · obtain rfl : n = 1 := by omega
    rw [way_1]; rfl
  · rcases Nat.lt_or_ge (n - 1) (cut n) with h1 | h1
    · rw [way_lo h h1, List.takeWhile_cons]; simp
    · rw [way_hi h h1, List.takeWhile_cons]; simp
theorem ahead_lo {m n : Nat} (hm : 1 ≤ m) (hn : 2 ≤ n) (h : m ≤ cut n) : aheadL m n = ⟨0, cut n, n, false⟩ :: aheadL m (cut n) := by
  have hc := cut_in hn
  unfold aheadL
  rw [way_lo hn (by omega), List.takeWhile_cons]
  rw [if_pos (by simp; omega)]
theorem tw_map (s : Nat) (p q : Cu → Bool) (h : ∀ c, p (sh s c) = q c) : ∀ xs : List Cu, (xs.map (sh s)).takeWhile p = (xs.takeWhile q).map (sh s)
  | [] => rfl
  | c :: xs => by
    rw [List.map_cons, List.takeWhile_cons, List.takeWhile_cons, h c]
    cases q c
    · rfl
    · simp only [if_true, List.map_cons]; rw [tw_map s p q h xs]
theorem ahead_hi {m n : Nat} (hmn : m < n) (hn : 2 ≤ n) (h : cut n < m) : aheadL m n = ⟨0, cut n, n, true⟩ :: (aheadL (m - cut n) (n - cut n)).map (sh (cut n)) := by
  have hc := cut_in hn
  unfold aheadL
  rw [way_hi hn (by omega), List.takeWhile_cons, if_pos (by simp; omega), show m - 1 - cut n = m - cut n - 1 by omega]
  congr 1
  refine tw_map _ _ _ (fun c => ?_) _
  show (!(c.e + cut n == m)) = !(c.e == m - cut n)
  congr 1
  rw [Bool.eq_iff_iff, beq_iff_eq, beq_iff_eq]
  omega
/-- Where the part begins, from s on. -/
def stG (s : Nat) (xs : List Cu) : Nat := xs.foldl (fun s c => if c.r then c.a else s) s
theorem stG_sh (k : Nat) : ∀ (xs : List Cu) (s : Nat), stG (s + k) (xs.map (sh k)) = stG s xs + k
  | [], _ => rfl
  | c :: xs, s => by
    show stG (if c.r then c.a + k else s + k) (xs.map (sh k)) = stG (if c.r then c.a else s) xs + k
    cases c.r
    · exact stG_sh k xs s
    · exact stG_sh k xs c.a
theorem st_eq {n : Nat} (hn : 1 ≤ n) : stF (aheadL n n) = 0 := by rw [ahead_eq hn]; rfl
theorem st_lo {m n : Nat} (hm : 1 ≤ m) (hn : 2 ≤ n) (h : m ≤ cut n) : stF (aheadL m n) = stF (aheadL m (cut n)) := by rw [ahead_lo hm hn h]; rfl
theorem st_hi {m n : Nat} (hmn : m < n) (hn : 2 ≤ n) (h : cut n < m) : stF (aheadL m n) = stF (aheadL (m - cut n) (n - cut n)) + cut n := by
  rw [ahead_hi hmn hn h]
  show stG (cut n) _ = _
  have := stG_sh (cut n) (aheadL (m - cut n) (n - cut n)) 0
  rw [Nat.zero_add] at this
  exact this
/-- The proof that the first m are the beginning. -/
def beg (L : List (Nat → Nat)) (m n : Nat) (all : Bool) : List (Nat → Nat) := (if all && decide (stF (aheadL m n) = 0) then [] else [root (part L (stF (aheadL m n)) m)]) ++ asl L (aheadL m n)
theorem beg_eq {L : List (Nat → Nat)} {n : Nat} (hL : L.length = n) (hn : 1 ≤ n) (all : Bool) : beg L n n all = if all then [] else [root L] := by
  unfold beg
  rw [st_eq hn, ahead_eq hn]
  have : part L 0 n = L := by unfold part; rw [List.take_of_length_le (by omega)]; rfl
  rw [this]
  cases all <;> rfl
theorem st_lt : ∀ (n m : Nat), 1 ≤ m → m ≤ n → stF (aheadL m n) < m := by
  intro n
  induction n using Nat.strongRecOn with
  | ind n ih =>
    intro m hm hmn
    rcases Nat.lt_or_ge m n with h | h
    · have hc := cut_in (n := n) (by omega)
      rcases Nat.lt_or_ge (cut n) m with h1 | h1
      · rw [st_hi h (by omega) h1]
        have := ih (n - cut n) (by omega) (m - cut n) (by omega) (by omega)
        omega
      · rw [st_lo hm (by omega) h1]
        exact ih (cut n) hc.2.1 m hm h1
    · obtain rfl : m = n := by omega
      rw [st_eq hm]; omega
theorem beg_lo {L : List (Nat → Nat)} {m n : Nat} (hL : L.length = n) (hm : 1 ≤ m) (hn : 2 ≤ n) (h : m ≤ cut n) (all : Bool) : beg L m n all = beg (L.take (cut n)) m (cut n) all ++ [root (L.drop (cut n))] := by
  have hc := cut_in hn
  unfold beg
  rw [st_lo hm hn h, part_lo h, ahead_lo hm hn h, asl_cons, ← List.append_assoc]
  congr 1
  · congr 1
    unfold asl
    exact List.map_congr_left fun c hc' => (asd_lo (ahead_ok m (cut n) c (List.mem_reverse.1 hc'))).symm
  · unfold asd part
    simp only [Bool.false_eq_true, if_false]
    rw [List.take_of_length_le (by omega)]
theorem beg_hi {L : List (Nat → Nat)} {m n : Nat} (hmn : m < n) (hn : 2 ≤ n) (h : cut n < m) (all : Bool) : beg L m n all = beg (L.drop (cut n)) (m - cut n) (n - cut n) false ++ [root (L.take (cut n))] := by
  have hc := cut_in hn
  unfold beg
  rw [st_hi hmn hn h, ahead_hi hmn hn h, asl_cons, asl_map, ← List.append_assoc]
  have hp : part L (stF (aheadL (m - cut n) (n - cut n)) + cut n) m = part (L.drop (cut n)) (stF (aheadL (m - cut n) (n - cut n))) (m - cut n) := by
    rw [← part_sh, show m - cut n + cut n = m by omega]
  rw [hp]
  congr 1
  congr 1
  rw [decide_eq_false (by omega : ¬ stF (aheadL (m - cut n) (n - cut n)) + cut n = 0)]
  cases all <;> rfl
end Go.Proofs.YtgnmnoadfjdjdaaDoor

namespace Go.Proofs.YtgnmnoadfjdjdaaDoor
open Go.RowKit Sh

theorem cut_same {m n : Nat} (h : cut n < m) (hn : 2 ≤ n) (hmn : m ≤ n) : cut m = cut n := by
  have hc := cut_in hn
  have he : cut n = 2 ^ (n - 1).log2 := if_neg (by omega)
  rw [he] at h hc ⊢
  exact cut_of h (by omega)
/-- What the first m come to: cuts on whose left side the way goes on are left out. -/
def firstL : List Cu → List (Nat → Nat) → (Nat → Nat) → (Nat → Nat)
  | c :: cs, p :: ps, F => firstL cs ps (if c.r then jn c.r F p else F)
  | _, _, F => F
theorem firstL_snoc : ∀ (cs : List Cu) (ps : List (Nat → Nat)) (F : Nat → Nat) (c : Cu) (p : Nat → Nat), cs.length = ps.length → firstL (cs ++ [c]) (ps ++ [p]) F = if c.r then jn c.r (firstL cs ps F) p else firstL cs ps F
  | [], [], F, c, p, _ => rfl
  | c' :: cs, p' :: ps, F, c, p, h => firstL_snoc cs ps _ c p (by simpa using h)
  | [], _ :: _, _, _, _, h => by simp at h
  | _ :: _, [], _, _, _, h => by simp at h
theorem firstL_map (s : Nat) : ∀ (cs : List Cu) (ps : List (Nat → Nat)) (F : Nat → Nat), firstL (cs.map (sh s)) ps F = firstL cs ps F
  | [], [], _ => rfl
  | [], _ :: _, _ => rfl
  | _ :: _, [], _ => rfl
  | c :: cs, p :: ps, F => firstL_map s cs ps (if c.r then jn c.r F p else F)
theorem all_lo {m n : Nat} {ps : List (Nat → Nat)} {p F : Nat → Nat} (hm : 1 ≤ m) (hn : 2 ≤ n) (h : m ≤ cut n) (hl : ps.length = (aheadL m (cut n)).length) : comeL (aheadL m n).reverse (ps ++ [p]) F = nd (comeL (aheadL m (cut n)).reverse ps F) p := by
  rw [ahead_lo hm hn h, List.reverse_cons, comeL_snoc _ _ _ _ _ (by rw [List.length_reverse]; exact hl.symm)]; rfl
theorem all_hi {m n : Nat} {ps : List (Nat → Nat)} {p F : Nat → Nat} (hmn : m < n) (hn : 2 ≤ n) (h : cut n < m) (hl : ps.length = (aheadL (m - cut n) (n - cut n)).length) : comeL (aheadL m n).reverse (ps ++ [p]) F = nd p (comeL (aheadL (m - cut n) (n - cut n)).reverse ps F) := by
  rw [ahead_hi hmn hn h, List.reverse_cons, comeL_snoc _ _ _ _ _ (by rw [List.length_reverse, List.length_map]; exact hl.symm), ← List.map_reverse, comeL_map]; rfl
theorem fst_lo {m n : Nat} {ps : List (Nat → Nat)} {p F : Nat → Nat} (hm : 1 ≤ m) (hn : 2 ≤ n) (h : m ≤ cut n) (hl : ps.length = (aheadL m (cut n)).length) : firstL (aheadL m n).reverse (ps ++ [p]) F = firstL (aheadL m (cut n)).reverse ps F := by
  rw [ahead_lo hm hn h, List.reverse_cons, firstL_snoc _ _ _ _ _ (by rw [List.length_reverse]; exact hl.symm)]; rfl
theorem fst_hi {m n : Nat} {ps : List (Nat → Nat)} {p F : Nat → Nat} (hmn : m < n) (hn : 2 ≤ n) (h : cut n < m) (hl : ps.length = (aheadL (m - cut n) (n - cut n)).length) : firstL (aheadL m n).reverse (ps ++ [p]) F = nd p (firstL (aheadL (m - cut n) (n - cut n)).reverse ps F) := by
  rw [ahead_hi hmn hn h, List.reverse_cons, firstL_snoc _ _ _ _ _ (by rw [List.length_reverse, List.length_map]; exact hl.symm), ← List.map_reverse, firstL_map]; rfl
/-- What the proof leaves out, or begins with. -/
def pt0 (L : List (Nat → Nat)) (m n : Nat) : Nat → Nat := root (part L (stF (aheadL m n)) m)
theorem pt0_lo {L : List (Nat → Nat)} {m n : Nat} (hm : 1 ≤ m) (hn : 2 ≤ n) (h : m ≤ cut n) : pt0 L m n = pt0 (L.take (cut n)) m (cut n) := by
  unfold pt0; rw [st_lo hm hn h, part_lo h]
theorem pt0_hi {L : List (Nat → Nat)} {m n : Nat} (hmn : m < n) (hn : 2 ≤ n) (h : cut n < m) : pt0 L m n = pt0 (L.drop (cut n)) (m - cut n) (n - cut n) := by
  unfold pt0
  rw [st_hi hmn hn h, ← part_sh, show m - cut n + cut n = m by omega]
theorem aslA_lo {L : List (Nat → Nat)} {m n : Nat} (hL : L.length = n) (hm : 1 ≤ m) (hn : 2 ≤ n) (h : m ≤ cut n) : asl L (aheadL m n) = asl (L.take (cut n)) (aheadL m (cut n)) ++ [root (L.drop (cut n))] := by
  have hc := cut_in hn
  rw [ahead_lo hm hn h, asl_cons]
  congr 1
  · unfold asl
    exact List.map_congr_left fun c hc' => (asd_lo (ahead_ok m (cut n) c (List.mem_reverse.1 hc'))).symm
  · unfold asd part
    simp only [Bool.false_eq_true, if_false]
    rw [List.take_of_length_le (by omega)]
theorem aslA_hi {L : List (Nat → Nat)} {m n : Nat} (hmn : m < n) (hn : 2 ≤ n) (h : cut n < m) : asl L (aheadL m n) = asl (L.drop (cut n)) (aheadL (m - cut n) (n - cut n)) ++ [root (L.take (cut n))] := by
  rw [ahead_hi hmn hn h, asl_cons, asl_map]
  congr 1
theorem both_root : ∀ (n m : Nat) (L : List (Nat → Nat)), L.length = n → 1 ≤ m → m ≤ n →
    comeL (aheadL m n).reverse (asl L (aheadL m n)) (pt0 L m n) = root L ∧ firstL (aheadL m n).reverse (asl L (aheadL m n)) (pt0 L m n) = root (L.take m) := by
  intro n
  induction n using Nat.strongRecOn with
  | ind n ih =>
    intro m L hL hm hmn
    rcases Nat.lt_or_ge m n with hlt | hge
    · have h2 : 2 ≤ n := by omega
      have hc := cut_in h2
      rcases Nat.lt_or_ge (cut n) m with h | h
      · obtain ⟨i1, i2⟩ := ih (n - cut n) (by omega) (m - cut n) (L.drop (cut n)) (by rw [List.length_drop]; omega) (by omega) (by omega)
        rw [aslA_hi hlt h2 h, all_hi hlt h2 h (by rw [asl_len]), fst_hi hlt h2 h (by rw [asl_len]), pt0_hi hlt h2 h, i1, i2]
        refine ⟨by rw [root_n (l := L) (by omega), hL], ?_⟩
        have hlm : (L.take m).length = m := by rw [List.length_take]; omega
        rw [root_n (l := L.take m) (by omega), hlm, cut_same h h2 hmn, List.take_take, Nat.min_eq_left (by omega), List.take_drop, show cut n + (m - cut n) = m by omega]
      · obtain ⟨i1, i2⟩ := ih (cut n) hc.2.1 m (L.take (cut n)) (by rw [List.length_take]; omega) hm h
        rw [aslA_lo hL hm h2 h, all_lo hm h2 h (by rw [asl_len]), fst_lo hm h2 h (by rw [asl_len]), pt0_lo hm h2 h, i1, i2]
        refine ⟨by rw [root_n (l := L) (by omega), hL], by rw [List.take_take, Nat.min_eq_left h]⟩
    · obtain rfl : m = n := by omega
      have hp : pt0 L m m = root L := by
        unfold pt0; rw [st_eq hm]
        have : part L 0 m = L := by unfold part; rw [List.take_of_length_le (by omega)]; rfl
        rw [this]
      rw [ahead_eq hm, hp, List.take_of_length_le (by omega)]
      exact ⟨rfl, rfl⟩
end Go.Proofs.YtgnmnoadfjdjdaaDoor

namespace Go.Proofs.YtgnmnoadfjdjdaaDoor
open Go.RowKit Go.Maps Sh
def PP8 (b off n cap i N1 B : Nat) (al : Bool) (A : List (Nat → Nat)) (R : Nat → Nat) : (Nat → Bool) → Nat → Value → World → Prop
  | _, 0, v, _ => v = .slice (some ⟨b, off, none⟩) n cap
  | _, 1, v, _ => v = .int .i64 ((cut n : Nat) : Int)
  | _, 2, v, _ => v = .slice (some ⟨b, off, none⟩) (cut n) cap
  | _, 3, v, _ => v = .int .i64 ((i : Nat) : Int)
  | _, 4, v, _ => v = .bool al
  | D, 5, v, w => D 11 = false → OwnS B N1 A v w
  | _, 6, v, _ => v = .slice (some ⟨b, off, none⟩) n cap
  | _, 7, v, _ => v = .int .i64 ((cut n : Nat) : Int)
  | _, 8, v, _ => v = .slice (some ⟨b, off + 32 * cut n, none⟩) (n - cut n) (cap - cut n)
  | _, 9, v, _ => v = .agg (ab 32 R)
  | D, 10, v, w => D 11 = false → Row1 R v w
  | D, 11, v, w => D 11 = true ∧ OwnS B (N1 + 1) (A ++ [R]) v w
  | D, 12, v, w => D 11 = true ∧ OwnS B (N1 + 1) (A ++ [R]) v w
  | _, _, _, _ => True
def PP8d : Nat → Nat
  | 0 => 23
  | 1 => 24
  | 2 => 25
  | 3 => 26
  | 4 => 27
  | 5 => 28
  | 6 => 29
  | 7 => 30
  | 8 => 31
  | 9 => 32
  | 10 => 33
  | 11 => 34
  | 12 => 6
  | i => 2000 + i
theorem PP8_mono (b off n cap i N1 B : Nat) (al : Bool) (A : List (Nat → Nat)) (R : Nat → Nat) {D : Nat → Bool} {ix : Nat} {w w' : World} (hD : D ix = false) (hb : ix ≠ 11 → Below w.heap.size w w') : ∀ (j : Nat) (u : Value), j ≠ ix → PP8 b off n cap i N1 B al A R D j u w → PP8 b off n cap i N1 B al A R (add1 D ix) j u w'
  | 0, _, _, h => h
  | 1, _, _, h => h
  | 2, _, _, h => h
  | 3, _, _, h => h
  | 4, _, _, h => h
  | 5, _, _, h => fun hd => by
    by_cases e : ix = 11
    · subst e; rw [add1_eq] at hd; cases hd
    · rw [add1_ne (fun q => e q.symm)] at hd; exact (h hd).later (hb e)
  | 6, _, _, h => h
  | 7, _, _, h => h
  | 8, _, _, h => h
  | 9, _, _, h => h
  | 10, _, _, h => fun hd => by
    by_cases e : ix = 11
    · subst e; rw [add1_eq] at hd; cases hd
    · rw [add1_ne (fun q => e q.symm)] at hd; exact (h hd).later (hb e)
  | 11, _, _, h => by
    have e : ix ≠ 11 := fun e => by rw [e] at hD; rw [h.1] at hD; cases hD
    exact ⟨by rw [add1_ne (fun q => e q.symm)]; exact h.1, h.2.later (hb e)⟩
  | 12, _, _, h => by
    have e : ix ≠ 11 := fun e => by rw [e] at hD; rw [h.1] at hD; cases hD
    exact ⟨by rw [add1_ne (fun q => e q.symm)]; exact h.1, h.2.later (hb e)⟩
  | _ + 13, _, _, _ => trivial
def PP9 (b off n cap i N1 B : Nat) (A : List (Nat → Nat)) (R : Nat → Nat) : (Nat → Bool) → Nat → Value → World → Prop
  | _, 0, v, _ => v = .slice (some ⟨b, off, none⟩) n cap
  | _, 1, v, _ => v = .int .i64 ((cut n : Nat) : Int)
  | _, 2, v, _ => v = .slice (some ⟨b, off + 32 * cut n, none⟩) (n - cut n) (cap - cut n)
  | _, 3, v, _ => v = .int .i64 ((i : Nat) : Int)
  | _, 4, v, _ => v = .int .i64 ((cut n : Nat) : Int)
  | _, 5, v, _ => v = .int .i64 ((i - cut n : Nat) : Int)
  | D, 6, v, w => D 12 = false → OwnS B N1 A v w
  | _, 7, v, _ => v = .slice (some ⟨b, off, none⟩) n cap
  | _, 8, v, _ => v = .int .i64 ((cut n : Nat) : Int)
  | _, 9, v, _ => v = .slice (some ⟨b, off, none⟩) (cut n) cap
  | _, 10, v, _ => v = .agg (ab 32 R)
  | D, 11, v, w => D 12 = false → Row1 R v w
  | D, 12, v, w => D 12 = true ∧ OwnS B (N1 + 1) (A ++ [R]) v w
  | D, 13, v, w => D 12 = true ∧ OwnS B (N1 + 1) (A ++ [R]) v w
  | _, _, _, _ => True
def PP9d : Nat → Nat
  | 0 => 35
  | 1 => 36
  | 2 => 37
  | 3 => 38
  | 4 => 39
  | 5 => 40
  | 6 => 41
  | 7 => 42
  | 8 => 43
  | 9 => 44
  | 10 => 45
  | 11 => 46
  | 12 => 47
  | 13 => 6
  | i => 2000 + i
theorem PP9_mono (b off n cap i N1 B : Nat) (A : List (Nat → Nat)) (R : Nat → Nat) {D : Nat → Bool} {ix : Nat} {w w' : World} (hD : D ix = false) (hb : ix ≠ 12 → Below w.heap.size w w') : ∀ (j : Nat) (u : Value), j ≠ ix → PP9 b off n cap i N1 B A R D j u w → PP9 b off n cap i N1 B A R (add1 D ix) j u w'
  | 0, _, _, h => h
  | 1, _, _, h => h
  | 2, _, _, h => h
  | 3, _, _, h => h
  | 4, _, _, h => h
  | 5, _, _, h => h
  | 6, _, _, h => fun hd => by
    by_cases e : ix = 12
    · subst e; rw [add1_eq] at hd; cases hd
    · rw [add1_ne (fun q => e q.symm)] at hd; exact (h hd).later (hb e)
  | 7, _, _, h => h
  | 8, _, _, h => h
  | 9, _, _, h => h
  | 10, _, _, h => h
  | 11, _, _, h => fun hd => by
    by_cases e : ix = 12
    · subst e; rw [add1_eq] at hd; cases hd
    · rw [add1_ne (fun q => e q.symm)] at hd; exact (h hd).later (hb e)
  | 12, _, _, h => by
    have e : ix ≠ 12 := fun e => by rw [e] at hD; rw [h.1] at hD; cases hD
    exact ⟨by rw [add1_ne (fun q => e q.symm)]; exact h.1, h.2.later (hb e)⟩
  | 13, _, _, h => by
    have e : ix ≠ 12 := fun e => by rw [e] at hD; rw [h.1] at hD; cases hD
    exact ⟨by rw [add1_ne (fun q => e q.symm)]; exact h.1, h.2.later (hb e)⟩
  | _ + 14, _, _, _ => trivial
set_option maxHeartbeats 4000000 in
set_option maxRecDepth 100000 in
theorem refProve_lo {b off n cap i N1 : Nat} {al : Bool} {A : List (Nat → Nat)} {R : Nat → Nat} {W0 : World} (hn : 2 ≤ n) (hm : n ≤ 1000) (hcap : n ≤ cap) (hk : 1 ≤ cut n ∧ cut n < n ∧ n ≤ 2 * cut n) (hN : N1 ≤ 1000) (hRl : ∀ i, R i < 256) (hci : i ≤ cut n) (_hin : i < n) (_hcj : i ≤ cut n)
    (hP : ∀ w, Below W0.heap.size W0 w → Calls Tryd.prog 39 #[.slice (some ⟨b, off, none⟩) (cut n) cap, .int .i64 ((i : Nat) : Int), .bool al] w fun e w' => ∃ r, e = .returned r ∧ OwnS W0.heap.size N1 A r w' ∧ Below w.heap.size w w')
    (hR : ∀ w, Below W0.heap.size W0 w → Calls Tryd.prog 15 #[.slice (some ⟨b, off + 32 * cut n, none⟩) (n - cut n) (cap - cut n)] w fun e w' => e = .returned (.agg (ab 32 R)) ∧ Below w.heap.size w w') : Calls Tryd.prog 39 #[.slice (some ⟨b, off, none⟩) n cap, .int .i64 ((i : Nat) : Int), .bool al] W0 fun e w' => ∃ r, e = .returned r ∧ OwnS W0.heap.size (N1 + 1) (A ++ [R]) r w' ∧ Below W0.heap.size W0 w' := by
  obtain ⟨hk1, hk2, hk3⟩ := hk
  have h1 : ((i : Int) == (n : Int)) = false := by rw [beq_eq_false_iff_ne]; omega
  have hlt : (i : Int) ≤ (cut n : Int) := by omega
  go_enter Tryd.func39, Tryd.ntmps39
  go_wp2_with fail
  refine (cut_kr n (by omega) W0).mono ?_
  rintro e w1 ⟨rfl, hb1⟩
  go_upto_region 8 with fail
  refine wp_rel3 _ _ (PP8 b off n cap i N1 W0.heap.size al A R) (fun _ w => Below W0.heap.size W0 w) PP8d (by kernel_rfl) (by kernel_rfl) 13 (by kernel_rfl) ?_ ?_ rfl (hb1.drew) ?_ ?_
  · intro ix o ho
    match ix, ho with
    | 0, ho => obtain rfl := Option.some.inj ho; exact .inl ⟨rfl, by show 23 < 48; decide⟩
    | 1, ho => obtain rfl := Option.some.inj ho; exact .inl ⟨rfl, by show 24 < 48; decide⟩
    | 2, ho => obtain rfl := Option.some.inj ho; exact .inl ⟨rfl, by show 25 < 48; decide⟩
    | 3, ho => obtain rfl := Option.some.inj ho; exact .inl ⟨rfl, by show 26 < 48; decide⟩
    | 4, ho => obtain rfl := Option.some.inj ho; exact .inl ⟨rfl, by show 27 < 48; decide⟩
    | 5, ho => obtain rfl := Option.some.inj ho; exact .inl ⟨rfl, by show 28 < 48; decide⟩
    | 6, ho => obtain rfl := Option.some.inj ho; exact .inl ⟨rfl, by show 29 < 48; decide⟩
    | 7, ho => obtain rfl := Option.some.inj ho; exact .inl ⟨rfl, by show 30 < 48; decide⟩
    | 8, ho => obtain rfl := Option.some.inj ho; exact .inl ⟨rfl, by show 31 < 48; decide⟩
    | 9, ho => obtain rfl := Option.some.inj ho; exact .inl ⟨rfl, by show 32 < 48; decide⟩
    | 10, ho => obtain rfl := Option.some.inj ho; exact .inl ⟨rfl, by show 33 < 48; decide⟩
    | 11, ho => obtain rfl := Option.some.inj ho; exact .inl ⟨rfl, by show 34 < 48; decide⟩
    | 12, ho => obtain rfl := Option.some.inj ho; exact .inl ⟨rfl, by show 6 < 48; decide⟩
    | _ + 13, ho => exact absurd ho (by simp)
  · intro ix jx hi hj e; unfold PP8d at e; split at e <;> split at e <;> omega
  · intro ix o ho
    match ix, ho with
    | 0, ho =>
      obtain rfl := Option.some.inj ho
      intro D a w hM hsl hdep hDi hcl K hK
      have hp0 : a.tmps.getD 0 undef = .slice (some ⟨b, off, none⟩) n cap := hsl 0 (by intro j hj; unfold PP8d; split <;> omega)
      refine ⟨rfl, ?_⟩
      refine wp_val (w' := w) (v := .slice (some ⟨b, off, none⟩) n cap) (by simp only [execOp, Act.eval]; rw [show a.tmps.getD 0 undef = _ from hp0]; rfl) ?_
      exact hK _ _ rfl hM (PP8_mono b off n cap i N1 W0.heap.size al A R hDi (fun _ => (Below.refl _ _)))
    | 1, ho =>
      obtain rfl := Option.some.inj ho
      intro D a w hM hsl hdep hDi hcl K hK
      have hp8 : a.tmps.getD 8 undef = .int .i64 ((cut n : Nat) : Int) := hsl 8 (by intro j hj; unfold PP8d; split <;> omega)
      refine ⟨rfl, ?_⟩
      refine wp_val (w' := w) (v := .int .i64 ((cut n : Nat) : Int)) (by simp only [execOp, Act.eval]; rw [show a.tmps.getD 8 undef = _ from hp8]; rfl) ?_
      exact hK _ _ rfl hM (PP8_mono b off n cap i N1 W0.heap.size al A R hDi (fun _ => (Below.refl _ _)))
    | 2, ho =>
      obtain rfl := Option.some.inj ho
      intro D a w hM hsl hdep hDi hcl K hK
      have e0 := (hdep ⟨0, .data⟩ (by simp) rfl).1
      have e1 := (hdep ⟨1, .data⟩ (by simp) rfl).1
      refine ⟨rfl, ?_⟩
      have hl := sl_lo (b := b) (off := off) (n := n) (cap := cap) (k := cut n) (by omega) hcap w
      refine wp_val (w' := w) (v := .slice (some ⟨b, off, none⟩) (cut n) cap) (by simp only [execOp, Act.eval, Option.map_some, Option.map_none]; rw [show a.tmps.getD 23 undef = _ from e0, show a.tmps.getD 24 undef = _ from e1]; simp only [Sem.run_bind, hl, Result.andThen_ok, Sem.run_pure]) ?_
      exact hK _ _ rfl hM (PP8_mono b off n cap i N1 W0.heap.size al A R hDi (fun _ => (Below.refl _ _)))
    | 3, ho =>
      obtain rfl := Option.some.inj ho
      intro D a w hM hsl hdep hDi hcl K hK
      have hp1 : a.tmps.getD 1 undef = .int .i64 ((i : Nat) : Int) := hsl 1 (by intro j hj; unfold PP8d; split <;> omega)
      refine ⟨rfl, ?_⟩
      refine wp_val (w' := w) (v := .int .i64 ((i : Nat) : Int)) (by simp only [execOp, Act.eval]; rw [show a.tmps.getD 1 undef = _ from hp1]; rfl) ?_
      exact hK _ _ rfl hM (PP8_mono b off n cap i N1 W0.heap.size al A R hDi (fun _ => (Below.refl _ _)))
    | 4, ho =>
      obtain rfl := Option.some.inj ho
      intro D a w hM hsl hdep hDi hcl K hK
      have hp2 : a.tmps.getD 2 undef = .bool al := hsl 2 (by intro j hj; unfold PP8d; split <;> omega)
      refine ⟨rfl, ?_⟩
      refine wp_val (w' := w) (v := .bool al) (by simp only [execOp, Act.eval]; rw [show a.tmps.getD 2 undef = _ from hp2]; rfl) ?_
      exact hK _ _ rfl hM (PP8_mono b off n cap i N1 W0.heap.size al A R hDi (fun _ => (Below.refl _ _)))
    | 5, ho =>
      obtain rfl := Option.some.inj ho
      intro D a w hM hsl hdep hDi hcl K hK
      have e2 := (hdep ⟨2, .data⟩ (by simp) rfl).1
      have e3 := (hdep ⟨3, .data⟩ (by simp) rfl).1
      have e4 := (hdep ⟨4, .data⟩ (by simp) rfl).1
      refine ⟨rfl, ?_⟩
      refine oper_any 39 #[.tmp 25, .tmp 26, .tmp 27] _ rfl #[.slice (some ⟨b, off, none⟩) (cut n) cap, .int .i64 ((i : Nat) : Int), .bool al] (by simp only [List.map_toArray, List.map_cons, List.map_nil, Act.eval]; rw [show a.tmps.getD 25 undef = _ from e2, show a.tmps.getD 26 undef = _ from e3, show a.tmps.getD 27 undef = _ from e4]) (fun w => by kernel_rfl) (hP w hM) fun r w' hj => ?_
      obtain ⟨hr, hb⟩ := hj
      exact hK _ _ (fun _ => hr) (blw hM hb) (PP8_mono b off n cap i N1 W0.heap.size al A R hDi (fun _ => hb))
    | 6, ho =>
      obtain rfl := Option.some.inj ho
      intro D a w hM hsl hdep hDi hcl K hK
      have hp0 : a.tmps.getD 0 undef = .slice (some ⟨b, off, none⟩) n cap := hsl 0 (by intro j hj; unfold PP8d; split <;> omega)
      refine ⟨rfl, ?_⟩
      refine wp_val (w' := w) (v := .slice (some ⟨b, off, none⟩) n cap) (by simp only [execOp, Act.eval]; rw [show a.tmps.getD 0 undef = _ from hp0]; rfl) ?_
      exact hK _ _ rfl hM (PP8_mono b off n cap i N1 W0.heap.size al A R hDi (fun _ => (Below.refl _ _)))
    | 7, ho =>
      obtain rfl := Option.some.inj ho
      intro D a w hM hsl hdep hDi hcl K hK
      have hp8 : a.tmps.getD 8 undef = .int .i64 ((cut n : Nat) : Int) := hsl 8 (by intro j hj; unfold PP8d; split <;> omega)
      refine ⟨rfl, ?_⟩
      refine wp_val (w' := w) (v := .int .i64 ((cut n : Nat) : Int)) (by simp only [execOp, Act.eval]; rw [show a.tmps.getD 8 undef = _ from hp8]; rfl) ?_
      exact hK _ _ rfl hM (PP8_mono b off n cap i N1 W0.heap.size al A R hDi (fun _ => (Below.refl _ _)))
    | 8, ho =>
      obtain rfl := Option.some.inj ho
      intro D a w hM hsl hdep hDi hcl K hK
      have e6 := (hdep ⟨6, .data⟩ (by simp) rfl).1
      have e7 := (hdep ⟨7, .data⟩ (by simp) rfl).1
      refine ⟨rfl, ?_⟩
      have hl := sl_hi (b := b) (off := off) (n := n) (cap := cap) (k := cut n) (by omega) hcap w
      refine wp_val (w' := w) (v := .slice (some ⟨b, off + 32 * cut n, none⟩) (n - cut n) (cap - cut n)) (by simp only [execOp, Act.eval, Option.map_some, Option.map_none]; rw [show a.tmps.getD 29 undef = _ from e6, show a.tmps.getD 30 undef = _ from e7]; simp only [Sem.run_bind, hl, Result.andThen_ok, Sem.run_pure]) ?_
      exact hK _ _ rfl hM (PP8_mono b off n cap i N1 W0.heap.size al A R hDi (fun _ => (Below.refl _ _)))
    | 9, ho =>
      obtain rfl := Option.some.inj ho
      intro D a w hM hsl hdep hDi hcl K hK
      have e8 := (hdep ⟨8, .data⟩ (by simp) rfl).1
      refine ⟨rfl, ?_⟩
      refine oper_callg 15 #[.tmp 31] _ rfl #[.slice (some ⟨b, off + 32 * cut n, none⟩) (n - cut n) (cap - cut n)] (by simp only [List.map_toArray, List.map_cons, List.map_nil, Act.eval]; rw [show a.tmps.getD 31 undef = _ from e8]) (fun w => by kernel_rfl) (hR w hM) fun w' hb => ?_
      exact hK _ _ rfl (blw hM hb) (PP8_mono b off n cap i N1 W0.heap.size al A R hDi (fun _ => hb))
    | 10, ho =>
      obtain rfl := Option.some.inj ho
      intro D a w hM hsl hdep hDi hcl K hK
      have e9 := (hdep ⟨9, .data⟩ (by simp) rfl).1
      refine ⟨rfl, ?_⟩
      have hl := bs_sum R w
      refine wp_val (w' := w.alloc (.cells (ab 32 R) 34)) (v := .slice (some ⟨w.heap.size, 0, none⟩) 1 1) (by simp only [execOp, Act.eval, List.map_toArray, List.map_cons, List.map_nil]; rw [show a.tmps.getD 32 undef = _ from e9]; simp only [Sem.run_bind, hl, Result.andThen_ok, Sem.run_pure]) ?_
      exact hK _ _ (fun _ => ⟨_, rfl, World.alloc_heap_new w _⟩) (blw hM ((Below.refl _ _).alloc (Nat.le_refl _) _)) (PP8_mono b off n cap i N1 W0.heap.size al A R hDi (fun _ => (Below.refl _ _).alloc (Nat.le_refl _) _))
    | 11, ho =>
      obtain rfl := Option.some.inj ho
      intro D a w hM hsl hdep hDi hcl K hK
      have e5 := (hdep ⟨5, .data⟩ (by simp) rfl).1
      have e10 := (hdep ⟨10, .data⟩ (by simp) rfl).1
      refine ⟨rfl, ?_⟩
      have ho := e5 hDi
      obtain ⟨g, eg, hg⟩ := e10 hDi
      refine oper_app (.tmp 28) (.tmp 33) rfl W0.heap.size _ N1 _ rfl ho.1 (show a.tmps.getD 33 undef = _ from eg) hg hRl (by omega) ho.2 fun v' w' ho' hb' => ?_
      exact hK _ _ ⟨add1_eq, by rw [ssv_app]; exact ho', Nat.le_trans ho.2 hb'.size⟩ (hM.trans hb') (PP8_mono b off n cap i N1 W0.heap.size al A R hDi (fun h => absurd rfl h))
    | 12, ho =>
      obtain rfl := Option.some.inj ho
      intro D a w hM hsl hdep hDi hcl K hK
      have e11 := (hdep ⟨11, .data⟩ (by simp) rfl).1
      refine ⟨rfl, ?_⟩
      refine wp_val (w' := w) (v := a.tmps.getD 34 undef) (by simp only [execOp, Act.eval]; rfl) ?_
      exact hK _ _ ⟨by rw [add1_ne (by decide)]; exact e11.1, e11.2⟩ hM (PP8_mono b off n cap i N1 W0.heap.size al A R hDi (fun _ => (Below.refl _ _)))
    | _ + 13, ho => exact absurd ho (by simp)
  · intro D a u hall hd hs hM hsl hr
    obtain ⟨-, hv⟩ := hr 12 (by decide)
    refine (‹∀ (a : Act) (w : World), Code.wp Tryd.prog Code.ret _ a w → _›) a u ?_
    refine wp_ret ?_
    refine then_ret ?_
    exact s_raw hd (by rw [hs]; show 6 < 48; decide) rfl Tryd.results39 ⟨_, rfl, hv, hM⟩
set_option maxHeartbeats 4000000 in
set_option maxRecDepth 100000 in
theorem refProve_hi {b off n cap i N1 : Nat} {al : Bool} {A : List (Nat → Nat)} {R : Nat → Nat} {W0 : World} (hn : 2 ≤ n) (hm : n ≤ 1000) (hcap : n ≤ cap) (hk : 1 ≤ cut n ∧ cut n < n ∧ n ≤ 2 * cut n) (hN : N1 ≤ 1000) (hRl : ∀ i, R i < 256) (hci : cut n ≤ i) (hin : i < n) (hcj : cut n < i)
    (hP : ∀ w, Below W0.heap.size W0 w → Calls Tryd.prog 39 #[.slice (some ⟨b, off + 32 * cut n, none⟩) (n - cut n) (cap - cut n), .int .i64 ((i - cut n : Nat) : Int), .bool false] w fun e w' => ∃ r, e = .returned r ∧ OwnS W0.heap.size N1 A r w' ∧ Below w.heap.size w w')
    (hR : ∀ w, Below W0.heap.size W0 w → Calls Tryd.prog 15 #[.slice (some ⟨b, off, none⟩) (cut n) cap] w fun e w' => e = .returned (.agg (ab 32 R)) ∧ Below w.heap.size w w') : Calls Tryd.prog 39 #[.slice (some ⟨b, off, none⟩) n cap, .int .i64 ((i : Nat) : Int), .bool al] W0 fun e w' => ∃ r, e = .returned r ∧ OwnS W0.heap.size (N1 + 1) (A ++ [R]) r w' ∧ Below W0.heap.size W0 w' := by
  obtain ⟨hk1, hk2, hk3⟩ := hk
  have h1 : ((i : Int) == (n : Int)) = false := by rw [beq_eq_false_iff_ne]; omega
  have hlt : ¬ (i : Int) ≤ (cut n : Int) := by omega
  go_enter Tryd.func39, Tryd.ntmps39
  go_wp2_with fail
  refine (cut_kr n (by omega) W0).mono ?_
  rintro e w1 ⟨rfl, hb1⟩
  go_upto_region 9 with fail
  refine wp_rel3 _ _ (PP9 b off n cap i N1 W0.heap.size A R) (fun _ w => Below W0.heap.size W0 w) PP9d (by kernel_rfl) (by kernel_rfl) 14 (by kernel_rfl) ?_ ?_ rfl (hb1.drew) ?_ ?_
  · intro ix o ho
    match ix, ho with
    | 0, ho => obtain rfl := Option.some.inj ho; exact .inl ⟨rfl, by show 35 < 48; decide⟩
    | 1, ho => obtain rfl := Option.some.inj ho; exact .inl ⟨rfl, by show 36 < 48; decide⟩
    | 2, ho => obtain rfl := Option.some.inj ho; exact .inl ⟨rfl, by show 37 < 48; decide⟩
    | 3, ho => obtain rfl := Option.some.inj ho; exact .inl ⟨rfl, by show 38 < 48; decide⟩
    | 4, ho => obtain rfl := Option.some.inj ho; exact .inl ⟨rfl, by show 39 < 48; decide⟩
    | 5, ho => obtain rfl := Option.some.inj ho; exact .inl ⟨rfl, by show 40 < 48; decide⟩
    | 6, ho => obtain rfl := Option.some.inj ho; exact .inl ⟨rfl, by show 41 < 48; decide⟩
    | 7, ho => obtain rfl := Option.some.inj ho; exact .inl ⟨rfl, by show 42 < 48; decide⟩
    | 8, ho => obtain rfl := Option.some.inj ho; exact .inl ⟨rfl, by show 43 < 48; decide⟩
    | 9, ho => obtain rfl := Option.some.inj ho; exact .inl ⟨rfl, by show 44 < 48; decide⟩
    | 10, ho => obtain rfl := Option.some.inj ho; exact .inl ⟨rfl, by show 45 < 48; decide⟩
    | 11, ho => obtain rfl := Option.some.inj ho; exact .inl ⟨rfl, by show 46 < 48; decide⟩
    | 12, ho => obtain rfl := Option.some.inj ho; exact .inl ⟨rfl, by show 47 < 48; decide⟩
    | 13, ho => obtain rfl := Option.some.inj ho; exact .inl ⟨rfl, by show 6 < 48; decide⟩
    | _ + 14, ho => exact absurd ho (by simp)
  · intro ix jx hi hj e; unfold PP9d at e; split at e <;> split at e <;> omega
  · intro ix o ho
    match ix, ho with
    | 0, ho =>
      obtain rfl := Option.some.inj ho
      intro D a w hM hsl hdep hDi hcl K hK
      have hp0 : a.tmps.getD 0 undef = .slice (some ⟨b, off, none⟩) n cap := hsl 0 (by intro j hj; unfold PP9d; split <;> omega)
      refine ⟨rfl, ?_⟩
      refine wp_val (w' := w) (v := .slice (some ⟨b, off, none⟩) n cap) (by simp only [execOp, Act.eval]; rw [show a.tmps.getD 0 undef = _ from hp0]; rfl) ?_
      exact hK _ _ rfl hM (PP9_mono b off n cap i N1 W0.heap.size A R hDi (fun _ => (Below.refl _ _)))
    | 1, ho =>
      obtain rfl := Option.some.inj ho
      intro D a w hM hsl hdep hDi hcl K hK
      have hp8 : a.tmps.getD 8 undef = .int .i64 ((cut n : Nat) : Int) := hsl 8 (by intro j hj; unfold PP9d; split <;> omega)
      refine ⟨rfl, ?_⟩
      refine wp_val (w' := w) (v := .int .i64 ((cut n : Nat) : Int)) (by simp only [execOp, Act.eval]; rw [show a.tmps.getD 8 undef = _ from hp8]; rfl) ?_
      exact hK _ _ rfl hM (PP9_mono b off n cap i N1 W0.heap.size A R hDi (fun _ => (Below.refl _ _)))
    | 2, ho =>
      obtain rfl := Option.some.inj ho
      intro D a w hM hsl hdep hDi hcl K hK
      have e0 := (hdep ⟨0, .data⟩ (by simp) rfl).1
      have e1 := (hdep ⟨1, .data⟩ (by simp) rfl).1
      refine ⟨rfl, ?_⟩
      have hl := sl_hi (b := b) (off := off) (n := n) (cap := cap) (k := cut n) (by omega) hcap w
      refine wp_val (w' := w) (v := .slice (some ⟨b, off + 32 * cut n, none⟩) (n - cut n) (cap - cut n)) (by simp only [execOp, Act.eval, Option.map_some, Option.map_none]; rw [show a.tmps.getD 35 undef = _ from e0, show a.tmps.getD 36 undef = _ from e1]; simp only [Sem.run_bind, hl, Result.andThen_ok, Sem.run_pure]) ?_
      exact hK _ _ rfl hM (PP9_mono b off n cap i N1 W0.heap.size A R hDi (fun _ => (Below.refl _ _)))
    | 3, ho =>
      obtain rfl := Option.some.inj ho
      intro D a w hM hsl hdep hDi hcl K hK
      have hp1 : a.tmps.getD 1 undef = .int .i64 ((i : Nat) : Int) := hsl 1 (by intro j hj; unfold PP9d; split <;> omega)
      refine ⟨rfl, ?_⟩
      refine wp_val (w' := w) (v := .int .i64 ((i : Nat) : Int)) (by simp only [execOp, Act.eval]; rw [show a.tmps.getD 1 undef = _ from hp1]; rfl) ?_
      exact hK _ _ rfl hM (PP9_mono b off n cap i N1 W0.heap.size A R hDi (fun _ => (Below.refl _ _)))
    | 4, ho =>
      obtain rfl := Option.some.inj ho
      intro D a w hM hsl hdep hDi hcl K hK
      have hp8 : a.tmps.getD 8 undef = .int .i64 ((cut n : Nat) : Int) := hsl 8 (by intro j hj; unfold PP9d; split <;> omega)
      refine ⟨rfl, ?_⟩
      refine wp_val (w' := w) (v := .int .i64 ((cut n : Nat) : Int)) (by simp only [execOp, Act.eval]; rw [show a.tmps.getD 8 undef = _ from hp8]; rfl) ?_
      exact hK _ _ rfl hM (PP9_mono b off n cap i N1 W0.heap.size A R hDi (fun _ => (Below.refl _ _)))
    | 5, ho =>
      obtain rfl := Option.some.inj ho
      intro D a w hM hsl hdep hDi hcl K hK
      have e3 := (hdep ⟨3, .data⟩ (by simp) rfl).1
      have e4 := (hdep ⟨4, .data⟩ (by simp) rfl).1
      refine ⟨rfl, ?_⟩
      have hl := sub_nn (x := .tmp 38) (u := .tmp 39) hci (by omega) w
      refine wp_val (w' := w) (v := .int .i64 ((i - cut n : Nat) : Int)) (by simp only [execOp, Act.eval]; rw [show a.tmps.getD 38 undef = _ from e3, show a.tmps.getD 39 undef = _ from e4]; simp only [Sem.run_bind, hl, Result.andThen_ok, Sem.run_pure]) ?_
      exact hK _ _ rfl hM (PP9_mono b off n cap i N1 W0.heap.size A R hDi (fun _ => (Below.refl _ _)))
    | 6, ho =>
      obtain rfl := Option.some.inj ho
      intro D a w hM hsl hdep hDi hcl K hK
      have e2 := (hdep ⟨2, .data⟩ (by simp) rfl).1
      have e5 := (hdep ⟨5, .data⟩ (by simp) rfl).1
      refine ⟨rfl, ?_⟩
      refine oper_any 39 #[.tmp 37, .tmp 40, .const (.bool false)] _ rfl #[.slice (some ⟨b, off + 32 * cut n, none⟩) (n - cut n) (cap - cut n), .int .i64 ((i - cut n : Nat) : Int), .bool false] (by simp only [List.map_toArray, List.map_cons, List.map_nil, Act.eval]; rw [show a.tmps.getD 37 undef = _ from e2, show a.tmps.getD 40 undef = _ from e5]) (fun w => by kernel_rfl) (hP w hM) fun r w' hj => ?_
      obtain ⟨hr, hb⟩ := hj
      exact hK _ _ (fun _ => hr) (blw hM hb) (PP9_mono b off n cap i N1 W0.heap.size A R hDi (fun _ => hb))
    | 7, ho =>
      obtain rfl := Option.some.inj ho
      intro D a w hM hsl hdep hDi hcl K hK
      have hp0 : a.tmps.getD 0 undef = .slice (some ⟨b, off, none⟩) n cap := hsl 0 (by intro j hj; unfold PP9d; split <;> omega)
      refine ⟨rfl, ?_⟩
      refine wp_val (w' := w) (v := .slice (some ⟨b, off, none⟩) n cap) (by simp only [execOp, Act.eval]; rw [show a.tmps.getD 0 undef = _ from hp0]; rfl) ?_
      exact hK _ _ rfl hM (PP9_mono b off n cap i N1 W0.heap.size A R hDi (fun _ => (Below.refl _ _)))
    | 8, ho =>
      obtain rfl := Option.some.inj ho
      intro D a w hM hsl hdep hDi hcl K hK
      have hp8 : a.tmps.getD 8 undef = .int .i64 ((cut n : Nat) : Int) := hsl 8 (by intro j hj; unfold PP9d; split <;> omega)
      refine ⟨rfl, ?_⟩
      refine wp_val (w' := w) (v := .int .i64 ((cut n : Nat) : Int)) (by simp only [execOp, Act.eval]; rw [show a.tmps.getD 8 undef = _ from hp8]; rfl) ?_
      exact hK _ _ rfl hM (PP9_mono b off n cap i N1 W0.heap.size A R hDi (fun _ => (Below.refl _ _)))
    | 9, ho =>
      obtain rfl := Option.some.inj ho
      intro D a w hM hsl hdep hDi hcl K hK
      have e7 := (hdep ⟨7, .data⟩ (by simp) rfl).1
      have e8 := (hdep ⟨8, .data⟩ (by simp) rfl).1
      refine ⟨rfl, ?_⟩
      have hl := sl_lo (b := b) (off := off) (n := n) (cap := cap) (k := cut n) (by omega) hcap w
      refine wp_val (w' := w) (v := .slice (some ⟨b, off, none⟩) (cut n) cap) (by simp only [execOp, Act.eval, Option.map_some, Option.map_none]; rw [show a.tmps.getD 42 undef = _ from e7, show a.tmps.getD 43 undef = _ from e8]; simp only [Sem.run_bind, hl, Result.andThen_ok, Sem.run_pure]) ?_
      exact hK _ _ rfl hM (PP9_mono b off n cap i N1 W0.heap.size A R hDi (fun _ => (Below.refl _ _)))
    | 10, ho =>
      obtain rfl := Option.some.inj ho
      intro D a w hM hsl hdep hDi hcl K hK
      have e9 := (hdep ⟨9, .data⟩ (by simp) rfl).1
      refine ⟨rfl, ?_⟩
      refine oper_callg 15 #[.tmp 44] _ rfl #[.slice (some ⟨b, off, none⟩) (cut n) cap] (by simp only [List.map_toArray, List.map_cons, List.map_nil, Act.eval]; rw [show a.tmps.getD 44 undef = _ from e9]) (fun w => by kernel_rfl) (hR w hM) fun w' hb => ?_
      exact hK _ _ rfl (blw hM hb) (PP9_mono b off n cap i N1 W0.heap.size A R hDi (fun _ => hb))
    | 11, ho =>
      obtain rfl := Option.some.inj ho
      intro D a w hM hsl hdep hDi hcl K hK
      have e10 := (hdep ⟨10, .data⟩ (by simp) rfl).1
      refine ⟨rfl, ?_⟩
      have hl := bs_sum R w
      refine wp_val (w' := w.alloc (.cells (ab 32 R) 34)) (v := .slice (some ⟨w.heap.size, 0, none⟩) 1 1) (by simp only [execOp, Act.eval, List.map_toArray, List.map_cons, List.map_nil]; rw [show a.tmps.getD 45 undef = _ from e10]; simp only [Sem.run_bind, hl, Result.andThen_ok, Sem.run_pure]) ?_
      exact hK _ _ (fun _ => ⟨_, rfl, World.alloc_heap_new w _⟩) (blw hM ((Below.refl _ _).alloc (Nat.le_refl _) _)) (PP9_mono b off n cap i N1 W0.heap.size A R hDi (fun _ => (Below.refl _ _).alloc (Nat.le_refl _) _))
    | 12, ho =>
      obtain rfl := Option.some.inj ho
      intro D a w hM hsl hdep hDi hcl K hK
      have e6 := (hdep ⟨6, .data⟩ (by simp) rfl).1
      have e11 := (hdep ⟨11, .data⟩ (by simp) rfl).1
      refine ⟨rfl, ?_⟩
      have ho := e6 hDi
      obtain ⟨g, eg, hg⟩ := e11 hDi
      refine oper_app (.tmp 41) (.tmp 46) rfl W0.heap.size _ N1 _ rfl ho.1 (show a.tmps.getD 46 undef = _ from eg) hg hRl (by omega) ho.2 fun v' w' ho' hb' => ?_
      exact hK _ _ ⟨add1_eq, by rw [ssv_app]; exact ho', Nat.le_trans ho.2 hb'.size⟩ (hM.trans hb') (PP9_mono b off n cap i N1 W0.heap.size A R hDi (fun h => absurd rfl h))
    | 13, ho =>
      obtain rfl := Option.some.inj ho
      intro D a w hM hsl hdep hDi hcl K hK
      have e12 := (hdep ⟨12, .data⟩ (by simp) rfl).1
      refine ⟨rfl, ?_⟩
      refine wp_val (w' := w) (v := a.tmps.getD 47 undef) (by simp only [execOp, Act.eval]; rfl) ?_
      exact hK _ _ ⟨by rw [add1_ne (by decide)]; exact e12.1, e12.2⟩ hM (PP9_mono b off n cap i N1 W0.heap.size A R hDi (fun _ => (Below.refl _ _)))
    | _ + 14, ho => exact absurd ho (by simp)
  · intro D a u hall hd hs hM hsl hr
    obtain ⟨-, hv⟩ := hr 13 (by decide)
    refine (‹∀ (a : Act) (w : World), Code.wp Tryd.prog Code.ret _ a w → _›) a u ?_
    refine wp_ret ?_
    exact s_raw hd (by rw [hs]; show 6 < 48; decide) rfl Tryd.results39 ⟨_, rfl, hv, hM⟩
theorem ssv_ab (R : Nat → Nat) : ssv [R] = (ab 32 R).toList := by kernel_rfl
theorem ab_sz (R : Nat → Nat) : (ab 32 R).size = 1 * 32 := by kernel_rfl
theorem beg_le (L : List (Nat → Nat)) (m n : Nat) (all : Bool) : (beg L m n all).length ≤ n + 1 := by
  have h : (aheadL m n).length ≤ n := Nat.le_trans (List.takeWhile_sublist _).length_le (way_le _ _)
  unfold beg
  rw [List.length_append, asl_len]
  split <;> simp only [List.length_nil, List.length_singleton] <;> omega
set_option maxHeartbeats 4000000 in
theorem refProve_eq {b off n cap : Nat} {R : Nat → Nat} {W0 : World} {all : Bool} (hR : Calls Tryd.prog 15 #[.slice (some ⟨b, off, none⟩) n cap] W0 fun e w' => e = .returned (.agg (ab 32 R)) ∧ Below W0.heap.size W0 w') : Calls Tryd.prog 39 #[.slice (some ⟨b, off, none⟩) n cap, .int .i64 ((n : Nat) : Int), .bool all] W0 fun e w' => ∃ r, e = .returned r ∧ OwnS W0.heap.size (if all then [] else [R]).length (if all then [] else [R]) r w' ∧ Below W0.heap.size W0 w' := by
  cases all
  · go_enter Tryd.func39, Tryd.ntmps39
    go_wp2_with fail
    refine hR.mono ?_
    rintro e w1 ⟨rfl, hb1⟩
    go_wp2_with (refine wpList_bs_sum rfl (.tmp 16) rfl rfl ?_)
    go_ret
    refine ⟨_, rfl, ⟨?_, (hb1.alloc hb1.size _).size⟩, hb1.alloc hb1.size _⟩
    have := World.ownsRow_lit (base := W0.heap.size) (e := 34) (size := 32) w1 (ab 32 R) 1 hb1.size (by decide) (ab_sz R)
    rw [← ssv_ab] at this
    exact this
  · go_enter Tryd.func39, Tryd.ntmps39
    go_wp2
    go_ret
    exact ⟨_, rfl, ⟨World.ownsRow_nil _ _ _ _, Nat.le_refl _⟩, Below.refl _ _⟩
theorem refProve_d : ∀ (n i : Nat) (L : List (Nat → Nat)) (a : Option Addr) (cap : Nat) (all : Bool) (W0 : World), L.length = n → 1 ≤ i → i ≤ n → n ≤ 1000 → SsAt W0 a L → n ≤ cap → Calls Tryd.prog 39 #[.slice a n cap, .int .i64 ((i : Nat) : Int), .bool all] W0 fun e w' => ∃ r, e = .returned r ∧ OwnS W0.heap.size (beg L i n all).length (beg L i n all) r w' ∧ Below W0.heap.size W0 w' := by
  intro n
  induction n using Nat.strongRecOn with
  | ind n ih =>
    intro i L a cap all W0 hL hi0 hi hm hs hcap
    obtain ⟨b, off, rfl, hc⟩ := hs.2 (by omega)
    rcases Nat.lt_or_ge i n with hin | hge
    · have h2 : 2 ≤ n := by omega
      have hk := cut_in h2
      have l1 : (L.take (cut n)).length = cut n := by rw [List.length_take]; omega
      have l2 : (L.drop (cut n)).length = n - cut n := by rw [List.length_drop]; omega
      have b1 := root_lt _ (L.take (cut n)) rfl (fun F hF => hs.1 F (List.mem_of_mem_take hF))
      have b2 := root_lt _ (L.drop (cut n)) rfl (fun F hF => hs.1 F (List.mem_of_mem_drop hF))
      rcases Nat.lt_or_ge (cut n) i with h | h
      · rw [beg_hi hin h2 h, List.length_append, List.length_singleton]
        exact refProve_hi h2 hm hcap hk (by have := beg_le (L.drop (cut n)) (i - cut n) (n - cut n) false; omega) b1 (by omega) hin h (fun w hw => (ih (n - cut n) (by omega) (i - cut n) (L.drop (cut n)) _ (cap - cut n) false w l2 (by omega) (by omega) (by omega) (hs.hi.later hw) (by omega)).mono fun e w' ⟨r, e1, h1, h2⟩ => ⟨r, e1, ⟨own_weak h1.1 hw.size, Nat.le_trans hw.size h2.size⟩, h2⟩)
          (fun w hw => root_r (cut n) (L.take (cut n)) _ cap w l1 (by omega) (hs.lo.later hw) (by omega))
      · rw [beg_lo hL hi0 h2 h, List.length_append, List.length_singleton]
        exact refProve_lo h2 hm hcap hk (by have := beg_le (L.take (cut n)) i (cut n) all; omega) b2 h hin h (fun w hw => (ih (cut n) hk.2.1 i (L.take (cut n)) _ cap all w l1 hi0 h (by omega) (hs.lo.later hw) (by omega)).mono fun e w' ⟨r, e1, h1, h2⟩ => ⟨r, e1, ⟨own_weak h1.1 hw.size, Nat.le_trans hw.size h2.size⟩, h2⟩)
          (fun w hw => root_r (n - cut n) (L.drop (cut n)) _ (cap - cut n) w l2 (by omega) (hs.hi.later hw) (by omega))
    · obtain rfl : i = n := by omega
      rw [beg_eq hL hi0]
      exact refProve_eq (root_r i L _ cap W0 hL (by omega) hs hcap)
end Go.Proofs.YtgnmnoadfjdjdaaDoor

namespace Go.Proofs.YtgnmnoadfjdjdaaDoor
open Go.RowKit Sh

/-- How many digests the proof of a beginning has. -/
def nds (m n : Nat) (all : Bool) : Nat := (if all && decide (stF (aheadL m n) = 0) then 0 else 1) + (aheadL m n).length
theorem nds_beg (L : List (Nat → Nat)) (m n : Nat) (all : Bool) : (beg L m n all).length = nds m n all := by
  unfold beg nds
  rw [List.length_append, asl_len]
  split <;> rfl
theorem nds_le (m n : Nat) (all : Bool) : nds m n all ≤ n + 1 := by rw [← nds_beg []]; exact beg_le _ _ _ _
theorem nds_eq {n : Nat} (hn : 1 ≤ n) (all : Bool) : nds n n all = if all then 0 else 1 := by
  unfold nds; rw [st_eq hn, ahead_eq hn]; cases all <;> rfl
theorem nds_lo {m n : Nat} (hm : 1 ≤ m) (hn : 2 ≤ n) (h : m ≤ cut n) (all : Bool) : nds m n all = 1 + nds m (cut n) all := by
  unfold nds; rw [st_lo hm hn h, ahead_lo hm hn h, List.length_cons]; omega
theorem nds_hi {m n : Nat} (hmn : m < n) (hn : 2 ≤ n) (h : cut n < m) (all : Bool) : nds m n all = 1 + nds (m - cut n) (n - cut n) false := by
  have hc := cut_in hn
  unfold nds
  rw [st_hi hmn hn h, ahead_hi hmn hn h, List.length_cons, List.length_map, decide_eq_false (by omega : ¬ stF (aheadL (m - cut n) (n - cut n)) + cut n = 0)]
  cases all <;> simp <;> omega
set_option maxHeartbeats 4000000 in
theorem refNeeds_d : ∀ (n i : Nat) (all : Bool) (w : World), 1 ≤ i → i ≤ n → n ≤ 1048576 → Calls Tryd.prog 45 #[.int .i64 ((i : Nat) : Int), .int .i64 ((n : Nat) : Int), .bool all] w fun e w' => e = .returned (.int .i64 ((nds i n all : Nat) : Int)) ∧ w' = w := by
  intro n
  induction n using Nat.strongRecOn with
  | ind n ih =>
    intro i all w hi0 hi hn
    rcases Nat.lt_or_ge i n with hin | hge
    · have h2 : 2 ≤ n := by omega
      have hk := cut_in h2
      have h1 : ((i : Int) == (n : Int)) = false := by rw [beq_eq_false_iff_ne]; omega
      rcases Nat.lt_or_ge (cut n) i with h | h
      · have hr := ih (n - cut n) (by omega) (i - cut n) false w (by omega) (by omega) (by omega)
        have hwl := nds_le (i - cut n) (n - cut n) false
        rw [nds_hi hin h2 h]
        have hc := cut_rr n hn w
        generalize nds (i - cut n) (n - cut n) false = N at *
        generalize cut n = k at *
        have hlt : ¬ (i : Int) ≤ (k : Int) := by omega
        rw [show ((i - k : Nat) : Int) = (i : Int) - (k : Int) by omega, show ((n - k : Nat) : Int) = (n : Int) - (k : Int) by omega] at hr
        go_enter Tryd.func45, Tryd.ntmps45
        go_wp2_with fail
        refine hc.mono ?_
        rintro e w1 ⟨rfl, rfl⟩
        go_wp2_with fail
        refine hr.mono ?_
        rintro e w1 ⟨rfl, rfl⟩
        go_wp2
        go_ret
        exact ⟨by simp, rfl⟩
      · have hr := ih (cut n) hk.2.1 i all w hi0 h (by omega)
        have hwl := nds_le i (cut n) all
        rw [nds_lo hi0 h2 h]
        have hc := cut_rr n hn w
        generalize nds i (cut n) all = N at *
        generalize cut n = k at *
        have hlt : (i : Int) ≤ (k : Int) := by omega
        go_enter Tryd.func45, Tryd.ntmps45
        go_wp2_with fail
        refine hc.mono ?_
        rintro e w1 ⟨rfl, rfl⟩
        go_wp2_with fail
        refine hr.mono ?_
        rintro e w1 ⟨rfl, rfl⟩
        go_wp2
        go_ret
        exact ⟨by simp, rfl⟩
    · obtain rfl : i = n := by omega
      rw [nds_eq hi0]
      cases all
      · go_enter Tryd.func45, Tryd.ntmps45
        go_wp2
        go_ret
        exact ⟨rfl, rfl⟩
      · go_enter Tryd.func45, Tryd.ntmps45
        go_wp2
        go_ret
        exact ⟨rfl, rfl⟩
theorem refBegins_d (n i : Nat) (L : List (Nat → Nat)) (a : Option Addr) (cap : Nat) (W0 : World) (hL : L.length = n) (h1 : 1 ≤ i) (h2 : i ≤ n) (hn : n ≤ 1000) (hs : SsAt W0 a L) (hc : n ≤ cap) : Calls Tryd.prog 13 #[.slice a n cap, .int .i64 ((i : Nat) : Int)] W0 fun e w' => ∃ r, e = .returned r ∧ OwnS W0.heap.size (beg L i n true).length (beg L i n true) r w' ∧ Below W0.heap.size W0 w' := by
  have hp := refProve_d n i L a cap true W0 hL h1 h2 hn hs hc
  go_enter Tryd.func13, Tryd.ntmps13
  go_wp2_with fail
  refine hp.mono ?_
  rintro e w1 ⟨r, rfl, hb1, hb2⟩
  go_wp2
  go_ret
  exact ⟨r, rfl, hb1, hb2⟩
end Go.Proofs.YtgnmnoadfjdjdaaDoor

namespace Go.Proofs.YtgnmnoadfjdjdaaDoor
open Go.RowKit Sh
theorem txt_F {F G : Nat → Nat} {i : Nat} (h : i < 32) : txt F G (i + 1) = F i := by
  unfold txt
  rw [if_neg (by omega), if_pos (by omega), show i + 1 - 1 = i by omega]
theorem txt_G {F G : Nat → Nat} {i : Nat} : txt F G (i + 33) = G i := by
  unfold txt
  rw [if_neg (by omega), if_neg (by omega), show i + 33 - 33 = i by omega]
theorem txt_apart {F G F' G' : Nat → Nat} (h : ∀ i, i < 65 → txt F G i = txt F' G' i) : Eq32 F F' ∧ Eq32 G G' := by
  constructor
  · intro i hi
    have := h (i + 1) (by omega)
    rwa [txt_F hi, txt_F hi] at this
  · intro i hi
    have := h (i + 33) (by omega)
    rwa [txt_G, txt_G] at this
theorem nd_cases {F G F' G' : Nat → Nat} (h : Eq32 (nd F G) (nd F' G')) : (Eq32 F F' ∧ Eq32 G G') ∨ Clash (txt F G) (txt F' G') := by
  by_cases he : ∀ i, i < 65 → txt F G i = txt F' G' i
  · exact .inl (txt_apart he)
  · refine .inr ⟨h, ?_⟩
    obtain ⟨i, hi⟩ := Classical.not_forall.1 he
    exact ⟨i, Classical.not_imp.1 hi |>.1, Classical.not_imp.1 hi |>.2⟩
end Go.Proofs.YtgnmnoadfjdjdaaDoor

namespace Go.Proofs.YtgnmnoadfjdjdaaDoor
open Go.RowKit Sh

/-- What a proof begins with: the digest that is known, or the proof's first one. -/
def F0 (all : Bool) (m n : Nat) (old : Nat → Nat) (ps : List (Nat → Nat)) : Nat → Nat := if all && decide (stF (aheadL m n) = 0) then old else ps.getD 0 fun _ => 0
/-- .. and the others. -/
def Q0 (all : Bool) (m n : Nat) (ps : List (Nat → Nat)) : List (Nat → Nat) := if all && decide (stF (aheadL m n) = 0) then ps else ps.drop 1
/-- The texts digested on the way up, of both. -/
def btL : List Cu → List (Nat → Nat) → (Nat → Nat) → (Nat → Nat) → List (Nat → Nat)
  | c :: cs, p :: ps, W, N => (if c.r then [txt p W, txt p N] else [txt N p]) ++ btL cs ps (if c.r then jn c.r W p else W) (jn c.r N p)
  | _, _, _, _ => []
theorem btL_snoc : ∀ (cs : List Cu) (ps : List (Nat → Nat)) (W N : Nat → Nat) (c : Cu) (p : Nat → Nat), cs.length = ps.length → btL (cs ++ [c]) (ps ++ [p]) W N = btL cs ps W N ++ (if c.r then [txt p (firstL cs ps W), txt p (comeL cs ps N)] else [txt (comeL cs ps N) p])
  | [], [], W, N, c, p, _ => by show _ ++ [] = [] ++ _; rw [List.append_nil, List.nil_append]; rfl
  | c' :: cs, p' :: ps, W, N, c, p, h => by
    show _ ++ btL (cs ++ [c]) (ps ++ [p]) _ _ = _
    rw [btL_snoc cs ps _ _ c p (by simpa using h), ← List.append_assoc]; rfl
  | [], _ :: _, _, _, _, _, h => by simp at h
  | _ :: _, [], _, _, _, _, h => by simp at h
theorem btL_map (s : Nat) : ∀ (cs : List Cu) (ps : List (Nat → Nat)) (W N : Nat → Nat), btL (cs.map (sh s)) ps W N = btL cs ps W N
  | [], [], _, _ => rfl
  | [], _ :: _, _, _ => rfl
  | _ :: _, [], _, _ => rfl
  | c :: cs, p :: ps, W, N => by
    show _ ++ btL (cs.map (sh s)) ps _ _ = _
    rw [btL_map s cs ps _ _]; rfl
theorem btL_len : ∀ (cs : List Cu) (ps : List (Nat → Nat)) (W N : Nat → Nat), (btL cs ps W N).length ≤ 2 * ps.length
  | [], [], _, _ => Nat.zero_le _
  | [], _ :: _, _, _ => Nat.zero_le _
  | _ :: _, [], _, _ => Nat.zero_le _
  | c :: cs, p :: ps, W, N => by
    show (_ ++ btL cs ps _ _).length ≤ _
    have := btL_len cs ps (if c.r then jn c.r W p else W) (jn c.r N p)
    rw [List.length_append, List.length_cons]
    generalize (btL cs ps (if c.r then jn c.r W p else W) (jn c.r N p)).length = k at *
    split <;> simp <;> omega
theorem firstL_lt {F : Nat → Nat} (hF : ∀ i, F i < 256) : ∀ (cs : List Cu) (ps : List (Nat → Nat)), ∀ i, firstL cs ps F i < 256 := by
  intro cs
  induction cs generalizing F with
  | nil => intro ps; cases ps <;> exact hF
  | cons c cs ih =>
    intro ps
    cases ps with
    | nil => exact hF
    | cons p ps =>
      refine ih (F := if c.r then jn c.r F p else F) (fun i => ?_) ps
      split
      · exact jn_lt _ _ _ i
      · exact hF i
def wasB (all : Bool) (m n : Nat) (old : Nat → Nat) (ps : List (Nat → Nat)) : Nat → Nat := firstL (aheadL m n).reverse (Q0 all m n ps) (F0 all m n old ps)
def nowB (all : Bool) (m n : Nat) (old : Nat → Nat) (ps : List (Nat → Nat)) : Nat → Nat := comeL (aheadL m n).reverse (Q0 all m n ps) (F0 all m n old ps)
def txB (all : Bool) (m n : Nat) (old : Nat → Nat) (ps : List (Nat → Nat)) : List (Nat → Nat) := btL (aheadL m n).reverse (Q0 all m n ps) (F0 all m n old ps) (F0 all m n old ps)
theorem F0_lt {all : Bool} {m n : Nat} {old : Nat → Nat} {ps : List (Nat → Nat)} (ho : ∀ i, old i < 256) (hp : ∀ P ∈ ps, ∀ j, P j < 256) : ∀ i, F0 all m n old ps i < 256 := by
  unfold F0
  split
  · exact ho
  · exact getD_lt hp 0
theorem wasB_lt {all : Bool} {m n : Nat} {old : Nat → Nat} {ps : List (Nat → Nat)} (ho : ∀ i, old i < 256) (hp : ∀ P ∈ ps, ∀ j, P j < 256) : ∀ i, wasB all m n old ps i < 256 := firstL_lt (F0_lt ho hp) _ _
theorem nowB_lt {all : Bool} {m n : Nat} {old : Nat → Nat} {ps : List (Nat → Nat)} (ho : ∀ i, old i < 256) (hp : ∀ P ∈ ps, ∀ j, P j < 256) : ∀ i, nowB all m n old ps i < 256 := comeL_lt (F0_lt ho hp) _ _
theorem txB_len {all : Bool} {m n : Nat} {old : Nat → Nat} {ps : List (Nat → Nat)} : (txB all m n old ps).length ≤ 2 * ps.length := by
  refine Nat.le_trans (btL_len _ _ _ _) ?_
  unfold Q0
  split
  · omega
  · rw [List.length_drop]; omega
theorem Q0_len {all : Bool} {m n : Nat} {ps : List (Nat → Nat)} (h : ps.length = nds m n all) : (Q0 all m n ps).length = (aheadL m n).length := by
  unfold Q0
  unfold nds at h
  split
  · rename_i h1; rw [if_pos h1] at h; omega
  · rename_i h1; rw [if_neg h1] at h; rw [List.length_drop]; omega
theorem snoc0 {all : Bool} {m n : Nat} {old p : Nat → Nat} {ps : List (Nat → Nat)} (h : ps.length = nds m n all) : F0 all m n old (ps ++ [p]) = F0 all m n old ps ∧ Q0 all m n (ps ++ [p]) = Q0 all m n ps ++ [p] := by
  unfold F0 Q0
  unfold nds at h
  by_cases h1 : (all && decide (stF (aheadL m n) = 0)) = true
  · rw [if_pos h1, if_pos h1, if_pos h1, if_pos h1]; exact ⟨rfl, rfl⟩
  · rw [if_neg h1] at h
    rw [if_neg h1, if_neg h1, if_neg h1, if_neg h1]
    cases ps with
    | nil => simp at h; omega
    | cons q qs => exact ⟨rfl, rfl⟩
theorem F0_lo {all : Bool} {m n : Nat} {old : Nat → Nat} {ps : List (Nat → Nat)} (hm : 1 ≤ m) (hn : 2 ≤ n) (h : m ≤ cut n) : F0 all m n old ps = F0 all m (cut n) old ps ∧ Q0 all m n ps = Q0 all m (cut n) ps := by
  unfold F0 Q0; rw [st_lo hm hn h]; exact ⟨rfl, rfl⟩
theorem F0_hi {all : Bool} {m n : Nat} {old : Nat → Nat} {ps : List (Nat → Nat)} (hmn : m < n) (hn : 2 ≤ n) (h : cut n < m) : F0 all m n old ps = F0 false (m - cut n) (n - cut n) old ps ∧ Q0 all m n ps = Q0 false (m - cut n) (n - cut n) ps := by
  have hc := cut_in hn
  unfold F0 Q0
  rw [st_hi hmn hn h, decide_eq_false (by omega : ¬ stF (aheadL (m - cut n) (n - cut n)) + cut n = 0)]
  cases all <;> exact ⟨rfl, rfl⟩
theorem both_eq {n : Nat} (hn : 1 ≤ n) (all : Bool) (old : Nat → Nat) (ps : List (Nat → Nat)) : wasB all n n old ps = (if all then old else ps.getD 0 fun _ => 0) ∧ nowB all n n old ps = (if all then old else ps.getD 0 fun _ => 0) ∧ txB all n n old ps = [] := by
  have e : F0 all n n old ps = if all then old else ps.getD 0 fun _ => 0 := by unfold F0; rw [st_eq hn]; cases all <;> rfl
  unfold wasB nowB txB
  rw [ahead_eq hn, e]
  refine ⟨?_, ?_, ?_⟩
  · cases Q0 all n n ps <;> rfl
  · cases Q0 all n n ps <;> rfl
  · cases Q0 all n n ps <;> rfl
theorem both_lo {all : Bool} {m n : Nat} {old p : Nat → Nat} {ps : List (Nat → Nat)} (hm : 1 ≤ m) (hn : 2 ≤ n) (h : m ≤ cut n) (hl : ps.length = nds m (cut n) all) :
    wasB all m n old (ps ++ [p]) = wasB all m (cut n) old ps ∧ nowB all m n old (ps ++ [p]) = nd (nowB all m (cut n) old ps) p ∧ txB all m n old (ps ++ [p]) = txB all m (cut n) old ps ++ [txt (nowB all m (cut n) old ps) p] := by
  have hq := Q0_len hl
  obtain ⟨e1, e2⟩ := F0_lo (all := all) (old := old) (ps := ps ++ [p]) hm hn h
  obtain ⟨e3, e4⟩ := snoc0 (old := old) (p := p) hl
  unfold wasB nowB txB
  rw [e1, e2, e3, e4]
  refine ⟨fst_lo hm hn h hq, all_lo hm hn h hq, ?_⟩
  rw [ahead_lo hm hn h, List.reverse_cons, btL_snoc _ _ _ _ _ _ (by rw [List.length_reverse]; exact hq.symm)]
  rfl
theorem both_hi {all : Bool} {m n : Nat} {old p : Nat → Nat} {ps : List (Nat → Nat)} (hmn : m < n) (hn : 2 ≤ n) (h : cut n < m) (hl : ps.length = nds (m - cut n) (n - cut n) false) :
    wasB all m n old (ps ++ [p]) = nd p (wasB false (m - cut n) (n - cut n) old ps) ∧ nowB all m n old (ps ++ [p]) = nd p (nowB false (m - cut n) (n - cut n) old ps) ∧ txB all m n old (ps ++ [p]) = txB false (m - cut n) (n - cut n) old ps ++ [txt p (wasB false (m - cut n) (n - cut n) old ps), txt p (nowB false (m - cut n) (n - cut n) old ps)] := by
  have hq := Q0_len hl
  obtain ⟨e1, e2⟩ := F0_hi (all := all) (old := old) (ps := ps ++ [p]) hmn hn h
  obtain ⟨e3, e4⟩ := snoc0 (old := old) (p := p) hl
  unfold wasB nowB txB
  rw [e1, e2, e3, e4]
  refine ⟨fst_hi hmn hn h hq, all_hi hmn hn h hq, ?_⟩
  rw [ahead_hi hmn hn h, List.reverse_cons, btL_snoc _ _ _ _ _ _ (by rw [List.length_reverse, List.length_map]; exact hq.symm), ← List.map_reverse, btL_map, firstL_map, comeL_map]
  rfl
theorem nd_cong {F G F' G' : Nat → Nat} (h1 : Eq32 F F') (h2 : Eq32 G G') : nd F G = nd F' G' := by
  refine dg_cong fun i hi => ?_
  unfold txt
  by_cases c0 : i = 0
  · rw [if_pos c0, if_pos c0]
  · rw [if_neg c0, if_neg c0]
    by_cases c1 : i < 33
    · rw [if_pos c1, if_pos c1, h1 (i - 1) (by omega)]
    · rw [if_neg c1, if_neg c1, h2 (i - 33) (by omega)]
/-- A proof that comes to a row's digest comes to that of its first ones, or two unlike texts have one digest. -/
theorem old_clash : ∀ (n m : Nat) (L qs : List (Nat → Nat)) (F : Nat → Nat), L.length = n → 1 ≤ m → m ≤ n → qs.length = (aheadL m n).length → Eq32 (comeL (aheadL m n).reverse qs F) (root L) →
    Eq32 (firstL (aheadL m n).reverse qs F) (root (L.take m)) ∨ ∃ T ∈ btL (aheadL m n).reverse qs F F, ∃ U ∈ texts L ++ texts (L.take m), Clash T U := by
  intro n
  induction n using Nat.strongRecOn with
  | ind n ih =>
    intro m L qs F hL hm hmn hl he
    rcases Nat.lt_or_ge m n with hlt | hge
    · have h2 : 2 ≤ n := by omega
      have hc := cut_in h2
      have hm1 : 1 ≤ qs.length := by
        rcases Nat.lt_or_ge (cut n) m with h | h
        · rw [hl, ahead_hi hlt h2 h]; simp
        · rw [hl, ahead_lo hm h2 h]; simp
      have e1 : qs = qs.take (qs.length - 1) ++ [qs.getD (qs.length - 1) fun _ => 0] := by
        have := List.take_succ_eq_append_getElem (l := qs) (i := qs.length - 1) (by omega)
        rw [show qs.length - 1 + 1 = qs.length by omega, List.take_of_length_le (by omega)] at this
        conv => lhs; rw [this]
        congr 2
        simp [List.getD_eq_getElem?_getD, show qs.length - 1 < qs.length by omega]
      have lt1 : (qs.take (qs.length - 1)).length = qs.length - 1 := by rw [List.length_take]; omega
      rw [root_n (l := L) (by omega), hL] at he
      have htx := texts_n (l := L) (by omega)
      rw [hL] at htx
      generalize qs.take (qs.length - 1) = ps at *
      generalize (qs.getD (qs.length - 1) fun _ => 0) = p at *
      rw [e1] at he ⊢
      rcases Nat.lt_or_ge (cut n) m with h | h
      · have hl' : ps.length = (aheadL (m - cut n) (n - cut n)).length := by rw [ahead_hi hlt h2 h, List.length_cons, List.length_map] at hl; omega
        have hlm : (L.take m).length = m := by rw [List.length_take]; omega
        have htm := texts_n (l := L.take m) (by omega)
        rw [hlm, cut_same h h2 hmn, List.take_take, Nat.min_eq_left (by omega), List.drop_take] at htm
        have hbt : btL (aheadL m n).reverse (ps ++ [p]) F F = btL (aheadL (m - cut n) (n - cut n)).reverse ps F F ++ [txt p (firstL (aheadL (m - cut n) (n - cut n)).reverse ps F), txt p (comeL (aheadL (m - cut n) (n - cut n)).reverse ps F)] := by
          rw [ahead_hi hlt h2 h, List.reverse_cons, btL_snoc _ _ _ _ _ _ (by rw [List.length_reverse, List.length_map]; exact hl'.symm), ← List.map_reverse, btL_map, firstL_map, comeL_map]
          rfl
        rw [all_hi hlt h2 h hl'] at he
        rw [fst_hi hlt h2 h hl', hbt]
        rcases nd_cases he with ⟨h3, h4⟩ | h3
        · rcases ih (n - cut n) (by omega) (m - cut n) (L.drop (cut n)) ps F (by rw [List.length_drop]; omega) (by omega) (by omega) hl' h4 with h5 | ⟨T, hT, U, hU, hcl⟩
          · refine .inl ?_
            rw [root_n (l := L.take m) (by omega), hlm, cut_same h h2 hmn, List.take_take, Nat.min_eq_left (by omega), List.drop_take, nd_cong h3 h5]
            exact fun _ _ => rfl
          · refine .inr ⟨T, List.mem_append_left _ hT, U, ?_, hcl⟩
            rw [htx, htm]
            rcases List.mem_append.1 hU with hU | hU
            · exact List.mem_append_left _ (List.mem_append_left _ (List.mem_append_right _ hU))
            · exact List.mem_append_right _ (List.mem_append_left _ (List.mem_append_right _ hU))
        · refine .inr ⟨_, List.mem_append_right _ (List.mem_cons_of_mem _ (List.mem_singleton.2 rfl)), _, ?_, h3⟩
          rw [htx]
          exact List.mem_append_left _ (List.mem_append_right _ (List.mem_singleton.2 rfl))
      · have hl' : ps.length = (aheadL m (cut n)).length := by rw [ahead_lo hm h2 h, List.length_cons] at hl; omega
        have hbt : btL (aheadL m n).reverse (ps ++ [p]) F F = btL (aheadL m (cut n)).reverse ps F F ++ [txt (comeL (aheadL m (cut n)).reverse ps F) p] := by
          rw [ahead_lo hm h2 h, List.reverse_cons, btL_snoc _ _ _ _ _ _ (by rw [List.length_reverse]; exact hl'.symm)]
          rfl
        have htk : (L.take (cut n)).take m = L.take m := by rw [List.take_take, Nat.min_eq_left h]
        rw [all_lo hm h2 h hl'] at he
        rw [fst_lo hm h2 h hl', hbt]
        rcases nd_cases he with ⟨h3, _⟩ | h3
        · rcases ih (cut n) hc.2.1 m (L.take (cut n)) ps F (by rw [List.length_take]; omega) hm h hl' h3 with h5 | ⟨T, hT, U, hU, hcl⟩
          · rw [htk] at h5
            exact .inl h5
          · rw [htk] at hU
            refine .inr ⟨T, List.mem_append_left _ hT, U, ?_, hcl⟩
            rw [htx]
            rcases List.mem_append.1 hU with hU | hU
            · exact List.mem_append_left _ (List.mem_append_left _ (List.mem_append_left _ hU))
            · exact List.mem_append_right _ hU
        · refine .inr ⟨_, List.mem_append_right _ (List.mem_singleton.2 rfl), _, ?_, h3⟩
          rw [htx]
          exact List.mem_append_left _ (List.mem_append_right _ (List.mem_singleton.2 rfl))
    · obtain rfl : m = n := by omega
      rw [ahead_eq hm] at hl he ⊢
      obtain rfl : qs = [] := List.eq_nil_of_length_eq_zero hl
      rw [List.take_of_length_le (by omega)]
      exact .inl he
end Go.Proofs.YtgnmnoadfjdjdaaDoor

namespace Go.Proofs.YtgnmnoadfjdjdaaDoor
open Go.RowKit Sh

/-- What lies in a result's block: the digest once its store (operation s) has come up. -/
def stc (s : Nat) (R : Nat → Nat) (Z : Array Value) (D : Nat → Bool) : Array Value := if D s && decide (s < 1000) then ab 32 R else Z
theorem stc_ne {s i : Nat} {R : Nat → Nat} {Z : Array Value} {D : Nat → Bool} (h : i ≠ s) : stc s R Z (add1 D i) = stc s R Z D := by unfold stc; rw [add1_ne (Ne.symm h)]
theorem stc_eq {s : Nat} {R : Nat → Nat} {Z : Array Value} {D : Nat → Bool} (h : s < 1000) : stc s R Z (add1 D s) = ab 32 R := by unfold stc; rw [add1_eq]; simp [h]
theorem stc_no {R : Nat → Nat} {Z : Array Value} {D : Nat → Bool} : stc 1000 R Z D = Z := by simp [stc]
theorem stc_on {s : Nat} {R : Nat → Nat} {Z : Array Value} {D : Nat → Bool} (h : s < 1000) (hD : D s = true) : stc s R Z D = ab 32 R := by simp [stc, h, hD]
theorem stc_size {s : Nat} {R : Nat → Nat} {Z : Array Value} {D : Nat → Bool} (hZ : Z.size = 32) : (stc s R Z D).size = 32 := by
  unfold stc; split
  · exact ab_size _ _
  · exact hZ
structure MB (W0 : World) (g1 g2 g3 ga gb : Nat) (F1 F2 F3 Ra Rb : Nat → Nat) (Z : Array Value) (T : List (Nat → Nat)) (tv : Value) (p sa sb : Nat) (D : Nat → Bool) (w : World) : Prop where
  bel : Below W0.heap.size W0 w
  r1 : w.heap[g1]? = some (.cells (ab 32 F1) 34 (0, 0))
  r2 : w.heap[g2]? = some (.cells (ab 32 F2) 34 (0, 0))
  r3 : w.heap[g3]? = some (.cells (ab 32 F3) 34 (0, 0))
  ra : w.heap[ga]? = some (.cells (stc sa Ra Z D) 34 (0, 0))
  rb : w.heap[gb]? = some (.cells (stc sb Rb Z D) 34 (0, 0))
  ts : (p < 1000 → D p = false) → TsV W0.heap.size T tv w
section
variable {W0 : World} {g1 g2 g3 ga gb : Nat} {F1 F2 F3 Ra Rb : Nat → Nat} {Z : Array Value} {T : List (Nat → Nat)} {tv : Value} {p sa sb : Nat} {D : Nat → Bool} {w : World}
theorem MB.step {i : Nat} {w' : World} (h : MB W0 g1 g2 g3 ga gb F1 F2 F3 Ra Rb Z T tv p sa sb D w) (hb : Below w.heap.size w w') (hp : i ≠ p) (ha : i ≠ sa) (hc : i ≠ sb) : MB W0 g1 g2 g3 ga gb F1 F2 F3 Ra Rb Z T tv p sa sb (add1 D i) w' :=
  ⟨blw h.bel hb, (hb.block _ (Array.getElem?_eq_some_iff.1 h.r1).1).trans h.r1, (hb.block _ (Array.getElem?_eq_some_iff.1 h.r2).1).trans h.r2, (hb.block _ (Array.getElem?_eq_some_iff.1 h.r3).1).trans h.r3, by rw [stc_ne ha]; exact (hb.block _ (Array.getElem?_eq_some_iff.1 h.ra).1).trans h.ra, by rw [stc_ne hc]; exact (hb.block _ (Array.getElem?_eq_some_iff.1 h.rb).1).trans h.rb, fun hd => (h.ts (fun h1 => by have := hd h1; rwa [add1_ne (Ne.symm hp)] at this)).later (Gx.of hb)⟩
theorem MB.app {n : Nat} {v : Value} {xs : List Value} {w' : World} (h : MB W0 g1 g2 g3 ga gb F1 F2 F3 Ra Rb Z T tv p sa sb D w) (ho : w.ownsRow W0.heap.size 97 1 v n xs) (hg : w.grownBy w' v.ownBlock) (hp : p < 1000) (hpa : p ≠ sa) (hpb : p ≠ sb) : MB W0 g1 g2 g3 ga gb F1 F2 F3 Ra Rb Z T tv p sa sb (add1 D p) w' := by
  have hs : ∀ (g : Nat) (c : Array Value), w.heap[g]? = some (Obj.cells c 34 (0, 0)) → w'.heap[g]? = some (Obj.cells c 34 (0, 0)) := fun g c hc => (hg.block g (Array.getElem?_eq_some_iff.1 hc).1 (fun e => by
    obtain ⟨c', hc'⟩ := own_ty ho g e.symm
    rw [hc] at hc'; cases hc')).trans hc
  refine ⟨h.bel.trans ((Below.refl _ w).grown hg (Nat.le_trans (Nat.le_refl _) h.bel.size) (fun k ek => ?_)), hs _ _ h.r1, hs _ _ h.r2, hs _ _ h.r3, by rw [stc_ne hpa]; exact hs _ _ h.ra, by rw [stc_ne hpb]; exact hs _ _ h.rb, fun hd => by have := hd hp; rw [add1_eq] at this; cases this⟩
  rcases ho.2 with ⟨rfl, _⟩ | ⟨g, cap, cur, rfl, hb, _⟩
  · simp [Value.ownBlock] at ek
  · obtain rfl : g = k := by simpa [Value.ownBlock] using ek
    exact hb
theorem MB.stoA (h : MB W0 g1 g2 g3 ga gb F1 F2 F3 Ra Rb Z T tv p sa sb D w) (h0 : W0.heap.size ≤ ga) (h1 : g1 ≠ ga) (h2 : g2 ≠ ga) (h3 : g3 ≠ ga) (h4 : gb ≠ ga) (hp : p ≠ sa) (hs : sa < 1000) (hab : sa ≠ sb) : MB W0 g1 g2 g3 ga gb F1 F2 F3 Ra Rb Z T tv p sa sb (add1 D sa) (w.setRow ga (ab 32 Ra)) := by
  have hw := wrt_row (c' := ab 32 Ra) h.ra
  exact ⟨below_wrt h.bel hw h0 (by have := h.bel.size; omega), (setRow_other w ga g1 _ h1).trans h.r1, (setRow_other w ga g2 _ h2).trans h.r2, (setRow_other w ga g3 _ h3).trans h.r3, by rw [stc_eq hs]; exact hw.row, by rw [stc_ne hab]; exact (setRow_other w ga gb _ h4).trans h.rb, fun hd => (h.ts (fun h1 => by have := hd h1; rwa [add1_ne hp] at this)).later (Gx.row h.ra)⟩
theorem MB.stoB (h : MB W0 g1 g2 g3 ga gb F1 F2 F3 Ra Rb Z T tv p sa sb D w) (h0 : W0.heap.size ≤ gb) (h1 : g1 ≠ gb) (h2 : g2 ≠ gb) (h3 : g3 ≠ gb) (h4 : ga ≠ gb) (hp : p ≠ sb) (hs : sb < 1000) (hab : sb ≠ sa) : MB W0 g1 g2 g3 ga gb F1 F2 F3 Ra Rb Z T tv p sa sb (add1 D sb) (w.setRow gb (ab 32 Rb)) := by
  have hw := wrt_row (c' := ab 32 Rb) h.rb
  exact ⟨below_wrt h.bel hw h0 (by have := h.bel.size; omega), (setRow_other w gb g1 _ h1).trans h.r1, (setRow_other w gb g2 _ h2).trans h.r2, (setRow_other w gb g3 _ h3).trans h.r3, by rw [stc_ne hab]; exact (setRow_other w gb ga _ h4).trans h.ra, by rw [stc_eq hs]; exact hw.row, fun hd => (h.ts (fun h1 => by have := hd h1; rwa [add1_ne hp] at this)).later (Gx.row h.rb)⟩
end
def Row2t (B : Nat) (T1 T2 : Nat → Nat) (v : Value) (w : World) : Prop := ∃ g r1 r2, v = .slice (some ⟨g, 0, none⟩) 2 2 ∧ w.heap[g]? = some (.cells #[r1, r2] 97 (0, 0)) ∧ TxV w B r1 T1 ∧ TxV w B r2 T2
theorem Row2t.later {B : Nat} {T1 T2 : Nat → Nat} {v : Value} {w w' : World} (h : Row2t B T1 T2 v w) (hg : Gx w w') : Row2t B T1 T2 v w' := by
  obtain ⟨g, r1, r2, e, h1, h2, h3⟩ := h
  exact ⟨g, r1, r2, e, hg.2 g _ _ _ h1 (by decide), TxW.later h2 hg, TxW.later h3 hg⟩
theorem bs_txt2 (r q : Value) (h1 : r.oneCell' = true) (h2 : q.oneCell' = true) (w : World) : (Instr.buildSlice 78 2 #[(0, r), (1, q)]).run Tryd.prog w = .ok (.slice (some ⟨w.heap.size, 0, none⟩) 2 2) (w.alloc (.cells #[r, q] 97)) := by
  cases r <;> first | (cases h1; done) | (cases q <;> first | (cases h2; done) | kernel_rfl)
theorem TsAt.two {w : World} {B : Nat} {r1 r2 : Value} {T1 T2 : Nat → Nat} (h1 : TxV w B r1 T1) (h2 : TxV w B r2 T2) : TsAt w B [r1, r2] [T1, T2] := (TsAt.one h1).app (TsAt.one h2)
theorem s_raw3 {fn : Func} {a : Act} {w : World} {R : Ending → World → Prop} {p q u g k : Nat} {c d : Array Value} {v : Value} (hd : a.defers = []) (hp : a.tmps.getD p undef = .pointer (some ⟨g, 0, none⟩)) (hq : a.tmps.getD q undef = .pointer (some ⟨k, 0, none⟩)) (hv : a.tmps.getD u undef = v) (hr : fn.results = #[.cell p 34, .cell q 34, .tmp u]) (hi : (Tryd.prog.info? 34).map (·.size) = some c.size) (hj : (Tryd.prog.info? 34).map (·.size) = some d.size) (hrow : w.heap[g]? = some (.cells c 34 (0, 0))) (hrow2 : w.heap[k]? = some (.cells d 34 (0, 0))) (hR : R (.returned (.tuple #[.agg c, .agg d, v])) w) : bodyPost Tryd.prog fn R .ret a w := by
  refine ⟨hd, _, ?_, hR⟩
  have hl := run_loadVar_row (P := Tryd.prog) w g 34 34 c (0, 0) _ hrow Tryd.underlying34 rfl hi
  have hm := run_loadVar_row (P := Tryd.prog) w k 34 34 d (0, 0) _ hrow2 Tryd.underlying34 rfl hj
  have ht2 : a.tmps[p]?.getD undef = .pointer (some ⟨g, 0, none⟩) := by simpa using hp
  have hq2 : a.tmps[q]?.getD undef = .pointer (some ⟨k, 0, none⟩) := by simpa using hq
  have hu2 : a.tmps[u]?.getD undef = v := by simpa using hv
  simp [results, hr, ht2, hq2, asAddr, hl, hm, Result.andThen, hu2]
end Go.Proofs.YtgnmnoadfjdjdaaDoor

namespace Go.Proofs.YtgnmnoadfjdjdaaDoor
open Go.RowKit Go.Maps Sh
def BO3 (F1 : Nat → Nat) : (Nat → Bool) → Nat → Value → World → Prop
  | _, 0, v, _ => v = .agg (ab 32 F1)
  | _, 1, v, _ => v = .agg (ab 32 F1)
  | _, 2, _, _ => True
  | _, 3, _, _ => True
  | _, 4, v, _ => v = .slice none 0 0
  | _, _, _, _ => True
def BO3d : Nat → Nat
  | 0 => 26
  | 1 => 27
  | 2 => 1002
  | 3 => 1003
  | 4 => 12
  | i => 2000 + i
theorem BO3_mono (F1 : Nat → Nat) {D : Nat → Bool} {ix : Nat} {w w' : World} (_hD : D ix = false) (_hb : Gx w w') : ∀ (j : Nat) (u : Value), j ≠ ix → BO3 F1 D j u w → BO3 F1 (add1 D ix) j u w'
  | 0, _, _, h => h
  | 1, _, _, h => h
  | 2, _, _, h => h
  | 3, _, _, h => h
  | 4, _, _, h => h
  | _ + 5, _, _, _ => trivial
def BO4 (b off q cap : Nat) (F2 : Nat → Nat) : (Nat → Bool) → Nat → Value → World → Prop
  | _, 0, v, _ => v = .slice (some ⟨b, off, none⟩) q cap
  | _, 1, v, _ => v = .pointer (some ⟨b, off + 32 * 0, none⟩)
  | _, 2, v, _ => v = .agg (ab 32 F2)
  | _, 3, v, _ => v = .slice (some ⟨b, off, none⟩) q cap
  | _, 4, v, _ => v = .pointer (some ⟨b, off + 32 * 0, none⟩)
  | _, 5, v, _ => v = .agg (ab 32 F2)
  | _, 6, _, _ => True
  | _, 7, _, _ => True
  | _, 8, v, _ => v = .slice none 0 0
  | _, _, _, _ => True
def BO4d : Nat → Nat
  | 0 => 28
  | 1 => 29
  | 2 => 30
  | 3 => 31
  | 4 => 32
  | 5 => 33
  | 6 => 1006
  | 7 => 1007
  | 8 => 12
  | i => 2000 + i
theorem BO4_mono (b off q cap : Nat) (F2 : Nat → Nat) {D : Nat → Bool} {ix : Nat} {w w' : World} (_hD : D ix = false) (_hb : Gx w w') : ∀ (j : Nat) (u : Value), j ≠ ix → BO4 b off q cap F2 D j u w → BO4 b off q cap F2 (add1 D ix) j u w'
  | 0, _, _, h => h
  | 1, _, _, h => h
  | 2, _, _, h => h
  | 3, _, _, h => h
  | 4, _, _, h => h
  | 5, _, _, h => h
  | 6, _, _, h => h
  | 7, _, _, h => h
  | 8, _, _, h => h
  | _ + 9, _, _, _ => trivial
set_option maxHeartbeats 8000000 in
set_option maxRecDepth 100000 in
theorem both_rA {n q cap : Nat} {pa : Option Addr} {F : Nat → Nat} {W0 : World} : Calls Tryd.prog 46 #[.int .i64 ((n : Nat) : Int), .int .i64 ((n : Nat) : Int), .bool true, .agg (ab 32 F), .slice pa q cap] W0 fun e w' => ∃ tv, e = .returned (.tuple #[.agg (ab 32 F), .agg (ab 32 F), tv]) ∧ TsV W0.heap.size [] tv w' ∧ Below W0.heap.size W0 w' := by
  obtain ⟨A, hA⟩ : ∃ A, Hid (A = ab 32 F) := ⟨_, hide1 rfl⟩
  obtain ⟨Z, hZ⟩ : ∃ Z, Hid (Z = ab 32 fun _ => 0) := ⟨_, hide1 rfl⟩
  have bxA : ∀ w : World, (Instr.box 34 (.agg A)).run Tryd.prog w = .ok (.pointer (some ⟨w.heap.size, 0, none⟩)) (w.alloc (.cells A 34)) := fun w => bx_agg w
  have hzs : ∀ w : World, (zeroValue 34).run Tryd.prog w = .ok (.agg Z) w := fun w => by rw [hZ.out]; kernel_rfl
  have szA : (Tryd.prog.info? 34).map (·.size) = some A.size := by rw [hA.out]; exact sum_sz _
  have hZs : Z.size = 32 := by rw [hZ.out]; exact ab_size _ _
  rw [← hA.out]
  obtain ⟨w1, hw1⟩ : ∃ w1, Hid (w1 = ((W0.alloc (.cells A 34)).alloc (.cells Z 34)).alloc (.cells Z 34)) := ⟨_, hide1 rfl⟩
  have hb1 : Below W0.heap.size W0 w1 := by rw [hw1.out]; exact (((Below.refl _ _).alloc (Nat.le_refl _) _).alloc (by rw [World.size_alloc]; omega) _).alloc (by rw [World.size_alloc, World.size_alloc]; omega) _
  have hrA : w1.heap[W0.heap.size]? = some (.cells A 34 (0, 0)) := by rw [hw1.out]; exact (Below.heap_alloc _ _ _ (by rw [World.size_alloc, World.size_alloc]; omega)).trans ((Below.heap_alloc _ _ _ (by rw [World.size_alloc]; omega)).trans (World.alloc_heap_new W0 _))
  have hra : w1.heap[W0.heap.size + 1]? = some (.cells Z 34 (0, 0)) := by
    rw [hw1.out]; have := World.alloc_heap_new (W0.alloc (.cells A 34)) (.cells Z 34); rw [World.size_alloc] at this; exact (Below.heap_alloc _ _ _ (by rw [World.size_alloc, World.size_alloc]; omega)).trans this
  have hrb : w1.heap[W0.heap.size + 1 + 1]? = some (.cells Z 34 (0, 0)) := by
    rw [hw1.out]; have := World.alloc_heap_new ((W0.alloc (.cells A 34)).alloc (.cells Z 34)) (.cells Z 34); rwa [World.size_alloc, World.size_alloc] at this
  have hz1 : Hid (w1.heap.size = W0.heap.size + 3) := hide1 (by rw [hw1.out]; simp)
  go_enter Tryd.func46, Tryd.ntmps46
  go_upto_region 1 with fail
  rw [← hw1.out]
  go_upto_region 3 with fail
  rw [hA.out] at hrA
  have hz := hz1.out
  generalize hgb : W0.heap.size + 1 + 1 = gb at *
  generalize hga : W0.heap.size + 1 = ga at *
  obtain ⟨g1, hg1⟩ : ∃ g1, Hid (g1 = W0.heap.size) := ⟨_, hide1 rfl⟩
  have hg1' := hg1.out
  have h0a : W0.heap.size ≤ ga := by omega
  have h1a : W0.heap.size ≠ ga := by omega
  have h2a : W0.heap.size ≠ ga := by omega
  have h3a : W0.heap.size ≠ ga := by omega
  have h4a : gb ≠ ga := by omega
  have h0b : W0.heap.size ≤ gb := by omega
  have h1b : W0.heap.size ≠ gb := by omega
  have h2b : W0.heap.size ≠ gb := by omega
  have h3b : W0.heap.size ≠ gb := by omega
  have h4b : ga ≠ gb := by omega
  clear hg1' hg1 hz
  refine wp_rel3 _ _ (BO3 F) (MB W0 W0.heap.size W0.heap.size W0.heap.size ga gb F F F F F Z [] (.slice none 0 0) 1000 2 3) BO3d (by kernel_rfl) (by kernel_rfl) 5 (by kernel_rfl) ?_ ?_ rfl (⟨hb1.drew, hrA, hrA, hrA, by rw [show stc 2 F Z (fun _ => false) = Z from rfl]; exact hra, by rw [show stc 3 F Z (fun _ => false) = Z from rfl]; exact hrb, fun _ => ⟨hb1.size, [], World.ownsRow_nil _ _ _ _, TsAt.none _ _⟩⟩) ?_ ?_
  · intro ix o ho
    match ix, ho with
    | 0, ho => obtain rfl := Option.some.inj ho; exact .inl ⟨rfl, by show 26 < 99; decide⟩
    | 1, ho => obtain rfl := Option.some.inj ho; exact .inl ⟨rfl, by show 27 < 99; decide⟩
    | 2, ho => obtain rfl := Option.some.inj ho; exact .inr ⟨⟨rfl, fun _ _ _ _ => trivial⟩, by show 99 ≤ 1002; decide⟩
    | 3, ho => obtain rfl := Option.some.inj ho; exact .inr ⟨⟨rfl, fun _ _ _ _ => trivial⟩, by show 99 ≤ 1003; decide⟩
    | 4, ho => obtain rfl := Option.some.inj ho; exact .inl ⟨rfl, by show 12 < 99; decide⟩
    | _ + 5, ho => exact absurd ho (by simp)
  · intro ix jx hi hj e; unfold BO3d at e; split at e <;> split at e <;> omega
  · intro ix o ho
    match ix, ho with
    | 0, ho =>
      obtain rfl := Option.some.inj ho
      intro D a w hM hsl hdep hDi hcl K hK
      have hp8 : a.tmps.getD 8 undef = .pointer (some ⟨W0.heap.size, 0, none⟩) := hsl 8 (by intro j hj; unfold BO3d; split <;> omega)
      refine ⟨rfl, ?_⟩
      have hl := ldS (F := F) 34 w _ hM.r1
      refine wp_val (w' := w) (v := .agg (ab 32 F)) (by simp only [execOp, Act.eval]; rw [show a.tmps.getD 8 undef = _ from hp8]; simp only [Sem.run_bind, hl, Result.andThen_ok, Sem.run_pure]) ?_
      exact hK _ _ rfl (hM.step (Below.refl _ _) (by decide) (by decide) (by decide)) (BO3_mono F hDi ((Gx.of (Below.refl _ _))))
    | 1, ho =>
      obtain rfl := Option.some.inj ho
      intro D a w hM hsl hdep hDi hcl K hK
      have hp8 : a.tmps.getD 8 undef = .pointer (some ⟨W0.heap.size, 0, none⟩) := hsl 8 (by intro j hj; unfold BO3d; split <;> omega)
      refine ⟨rfl, ?_⟩
      have hl := ldS (F := F) 34 w _ hM.r1
      refine wp_val (w' := w) (v := .agg (ab 32 F)) (by simp only [execOp, Act.eval]; rw [show a.tmps.getD 8 undef = _ from hp8]; simp only [Sem.run_bind, hl, Result.andThen_ok, Sem.run_pure]) ?_
      exact hK _ _ rfl (hM.step (Below.refl _ _) (by decide) (by decide) (by decide)) (BO3_mono F hDi ((Gx.of (Below.refl _ _))))
    | 2, ho =>
      obtain rfl := Option.some.inj ho
      intro D a w hM hsl hdep hDi hcl K hK
      have e0 := (hdep ⟨0, .data⟩ (by simp) rfl).1
      have hp10 : a.tmps.getD 10 undef = .pointer (some ⟨ga, 0, none⟩) := hsl 10 (by intro j hj; unfold BO3d; split <;> omega)
      refine ⟨rfl, ?_⟩
      have hl := stS (F := F) 34 (stc_size hZs) w ga hM.ra
      refine wp_skp (w' := w.setRow ga (ab 32 F)) (by simp only [execOp, Act.eval]; rw [show a.tmps.getD 10 undef = _ from hp10, show a.tmps.getD 26 undef = _ from e0]; simp only [Sem.run_bind, hl, Result.andThen_ok, Sem.run_pure]) ?_
      exact hK undef _ trivial (hM.stoA h0a h1a h2a h3a h4a (by decide) (by decide) (by decide)) (BO3_mono F hDi (Gx.row hM.ra))
    | 3, ho =>
      obtain rfl := Option.some.inj ho
      intro D a w hM hsl hdep hDi hcl K hK
      have e1 := (hdep ⟨1, .data⟩ (by simp) rfl).1
      have hp11 : a.tmps.getD 11 undef = .pointer (some ⟨gb, 0, none⟩) := hsl 11 (by intro j hj; unfold BO3d; split <;> omega)
      refine ⟨rfl, ?_⟩
      have hl := stS (F := F) 34 (stc_size hZs) w gb hM.rb
      refine wp_skp (w' := w.setRow gb (ab 32 F)) (by simp only [execOp, Act.eval]; rw [show a.tmps.getD 11 undef = _ from hp11, show a.tmps.getD 27 undef = _ from e1]; simp only [Sem.run_bind, hl, Result.andThen_ok, Sem.run_pure]) ?_
      exact hK undef _ trivial (hM.stoB h0b h1b h2b h3b h4b (by decide) (by decide) (by decide)) (BO3_mono F hDi (Gx.row hM.rb))
    | 4, ho =>
      obtain rfl := Option.some.inj ho
      intro D a w hM hsl hdep hDi hcl K hK
      refine ⟨rfl, ?_⟩
      refine wp_val (w' := w) (v := .slice none 0 0) (by simp only [execOp, Act.eval]; rfl) ?_
      exact hK _ _ rfl (hM.step (Below.refl _ _) (by decide) (by decide) (by decide)) (BO3_mono F hDi ((Gx.of (Below.refl _ _))))
    | _ + 5, ho => exact absurd ho (by simp)
  · intro D a u hall hd hs hM hsl hr
    have hv : a.tmps.getD 12 undef = .slice none 0 0 := hr 4 (by decide)
    have hs10 : a.tmps.getD 10 undef = .pointer (some ⟨ga, 0, none⟩) := hsl 10 (by intro j hj; unfold BO3d; split <;> omega)
    have hs11 : a.tmps.getD 11 undef = .pointer (some ⟨gb, 0, none⟩) := hsl 11 (by intro j hj; unfold BO3d; split <;> omega)
    have hra := hM.ra
    have hrb := hM.rb
    rw [stc_on (by decide) (hall 2 (by decide))] at hra
    rw [stc_on (by decide) (hall 3 (by decide))] at hrb
    refine (‹∀ (a : Act) (w : World), Code.wp Tryd.prog Code.ret _ a w → _›) a u ?_
    refine wp_ret ?_
    refine then_ret ?_
    refine then_ret ?_
    exact s_raw3 hd hs10 hs11 hv Tryd.results46 (sum_sz _) (sum_sz _) hra hrb ⟨.slice none 0 0, by rw [hA.out], ⟨hM.bel.size, [], World.ownsRow_nil _ _ _ _, TsAt.none _ _⟩, hM.bel⟩
set_option maxHeartbeats 8000000 in
set_option maxRecDepth 100000 in
theorem both_rB {b off n q cap : Nat} {F P : Nat → Nat} {W0 : World} (hq : 0 < q) (hld : ∀ w, Below W0.heap.size W0 w → (Instr.loadAt 34 (.pointer (some ⟨b, off + 32 * 0, none⟩))).run Tryd.prog w = .ok (.agg (ab 32 P)) w) : Calls Tryd.prog 46 #[.int .i64 ((n : Nat) : Int), .int .i64 ((n : Nat) : Int), .bool false, .agg (ab 32 F), .slice (some ⟨b, off, none⟩) q cap] W0 fun e w' => ∃ tv, e = .returned (.tuple #[.agg (ab 32 P), .agg (ab 32 P), tv]) ∧ TsV W0.heap.size [] tv w' ∧ Below W0.heap.size W0 w' := by
  obtain ⟨A, hA⟩ : ∃ A, Hid (A = ab 32 F) := ⟨_, hide1 rfl⟩
  obtain ⟨Z, hZ⟩ : ∃ Z, Hid (Z = ab 32 fun _ => 0) := ⟨_, hide1 rfl⟩
  have bxA : ∀ w : World, (Instr.box 34 (.agg A)).run Tryd.prog w = .ok (.pointer (some ⟨w.heap.size, 0, none⟩)) (w.alloc (.cells A 34)) := fun w => bx_agg w
  have hzs : ∀ w : World, (zeroValue 34).run Tryd.prog w = .ok (.agg Z) w := fun w => by rw [hZ.out]; kernel_rfl
  have szA : (Tryd.prog.info? 34).map (·.size) = some A.size := by rw [hA.out]; exact sum_sz _
  have hZs : Z.size = 32 := by rw [hZ.out]; exact ab_size _ _
  rw [← hA.out]
  obtain ⟨w1, hw1⟩ : ∃ w1, Hid (w1 = ((W0.alloc (.cells A 34)).alloc (.cells Z 34)).alloc (.cells Z 34)) := ⟨_, hide1 rfl⟩
  have hb1 : Below W0.heap.size W0 w1 := by rw [hw1.out]; exact (((Below.refl _ _).alloc (Nat.le_refl _) _).alloc (by rw [World.size_alloc]; omega) _).alloc (by rw [World.size_alloc, World.size_alloc]; omega) _
  have hrA : w1.heap[W0.heap.size]? = some (.cells A 34 (0, 0)) := by rw [hw1.out]; exact (Below.heap_alloc _ _ _ (by rw [World.size_alloc, World.size_alloc]; omega)).trans ((Below.heap_alloc _ _ _ (by rw [World.size_alloc]; omega)).trans (World.alloc_heap_new W0 _))
  have hra : w1.heap[W0.heap.size + 1]? = some (.cells Z 34 (0, 0)) := by
    rw [hw1.out]; have := World.alloc_heap_new (W0.alloc (.cells A 34)) (.cells Z 34); rw [World.size_alloc] at this; exact (Below.heap_alloc _ _ _ (by rw [World.size_alloc, World.size_alloc]; omega)).trans this
  have hrb : w1.heap[W0.heap.size + 1 + 1]? = some (.cells Z 34 (0, 0)) := by
    rw [hw1.out]; have := World.alloc_heap_new ((W0.alloc (.cells A 34)).alloc (.cells Z 34)) (.cells Z 34); rwa [World.size_alloc, World.size_alloc] at this
  have hz1 : Hid (w1.heap.size = W0.heap.size + 3) := hide1 (by rw [hw1.out]; simp)
  go_enter Tryd.func46, Tryd.ntmps46
  go_upto_region 1 with fail
  rw [← hw1.out]
  go_upto_region 4 with fail
  rw [hA.out] at hrA
  have hz := hz1.out
  generalize hgb : W0.heap.size + 1 + 1 = gb at *
  generalize hga : W0.heap.size + 1 = ga at *
  have h0a : W0.heap.size ≤ ga := by omega
  have h1a : W0.heap.size ≠ ga := by omega
  have h2a : W0.heap.size ≠ ga := by omega
  have h3a : W0.heap.size ≠ ga := by omega
  have h4a : gb ≠ ga := by omega
  have h0b : W0.heap.size ≤ gb := by omega
  have h1b : W0.heap.size ≠ gb := by omega
  have h2b : W0.heap.size ≠ gb := by omega
  have h3b : W0.heap.size ≠ gb := by omega
  have h4b : ga ≠ gb := by omega
  clear hz
  refine wp_rel3 _ _ (BO4 b off q cap P) (MB W0 W0.heap.size W0.heap.size W0.heap.size ga gb F F F P P Z [] (.slice none 0 0) 1000 6 7) BO4d (by kernel_rfl) (by kernel_rfl) 9 (by kernel_rfl) ?_ ?_ rfl (⟨hb1.drew, hrA, hrA, hrA, by rw [show stc 6 P Z (fun _ => false) = Z from rfl]; exact hra, by rw [show stc 7 P Z (fun _ => false) = Z from rfl]; exact hrb, fun _ => ⟨hb1.size, [], World.ownsRow_nil _ _ _ _, TsAt.none _ _⟩⟩) ?_ ?_
  · intro ix o ho
    match ix, ho with
    | 0, ho => obtain rfl := Option.some.inj ho; exact .inl ⟨rfl, by show 28 < 99; decide⟩
    | 1, ho => obtain rfl := Option.some.inj ho; exact .inl ⟨rfl, by show 29 < 99; decide⟩
    | 2, ho => obtain rfl := Option.some.inj ho; exact .inl ⟨rfl, by show 30 < 99; decide⟩
    | 3, ho => obtain rfl := Option.some.inj ho; exact .inl ⟨rfl, by show 31 < 99; decide⟩
    | 4, ho => obtain rfl := Option.some.inj ho; exact .inl ⟨rfl, by show 32 < 99; decide⟩
    | 5, ho => obtain rfl := Option.some.inj ho; exact .inl ⟨rfl, by show 33 < 99; decide⟩
    | 6, ho => obtain rfl := Option.some.inj ho; exact .inr ⟨⟨rfl, fun _ _ _ _ => trivial⟩, by show 99 ≤ 1006; decide⟩
    | 7, ho => obtain rfl := Option.some.inj ho; exact .inr ⟨⟨rfl, fun _ _ _ _ => trivial⟩, by show 99 ≤ 1007; decide⟩
    | 8, ho => obtain rfl := Option.some.inj ho; exact .inl ⟨rfl, by show 12 < 99; decide⟩
    | _ + 9, ho => exact absurd ho (by simp)
  · intro ix jx hi hj e; unfold BO4d at e; split at e <;> split at e <;> omega
  · intro ix o ho
    match ix, ho with
    | 0, ho =>
      obtain rfl := Option.some.inj ho
      intro D a w hM hsl hdep hDi hcl K hK
      have hp4 : a.tmps.getD 4 undef = .slice (some ⟨b, off, none⟩) q cap := hsl 4 (by intro j hj; unfold BO4d; split <;> omega)
      refine ⟨rfl, ?_⟩
      refine wp_val (w' := w) (v := .slice (some ⟨b, off, none⟩) q cap) (by simp only [execOp, Act.eval]; rw [show a.tmps.getD 4 undef = _ from hp4]; rfl) ?_
      exact hK _ _ rfl (hM.step (Below.refl _ _) (by decide) (by decide) (by decide)) (BO4_mono b off q cap P hDi ((Gx.of (Below.refl _ _))))
    | 1, ho =>
      obtain rfl := Option.some.inj ho
      intro D a w hM hsl hdep hDi hcl K hK
      have e0 := (hdep ⟨0, .data⟩ (by simp) rfl).1
      refine ⟨rfl, ?_⟩
      have hl := (show (Instr.indexAt 22 (.slice (some ⟨b, off, none⟩) q cap) (.int .i64 0)).run Tryd.prog w = .ok (.pointer (some ⟨b, off + 32 * 0, none⟩)) w from ix_ss (b := b) (off := off) (n := q) (cap := cap) (i := 0) hq w)
      refine wp_val (w' := w) (v := .pointer (some ⟨b, off + 32 * 0, none⟩)) (by simp only [execOp, Act.eval]; rw [show a.tmps.getD 28 undef = _ from e0]; simp only [Sem.run_bind, hl, Result.andThen_ok, Sem.run_pure]) ?_
      exact hK _ _ rfl (hM.step (Below.refl _ _) (by decide) (by decide) (by decide)) (BO4_mono b off q cap P hDi ((Gx.of (Below.refl _ _))))
    | 2, ho =>
      obtain rfl := Option.some.inj ho
      intro D a w hM hsl hdep hDi hcl K hK
      have e1 := (hdep ⟨1, .data⟩ (by simp) rfl).1
      refine ⟨rfl, ?_⟩
      have hl := hld w hM.bel
      refine wp_val (w' := w) (v := .agg (ab 32 P)) (by simp only [execOp, Act.eval]; rw [show a.tmps.getD 29 undef = _ from e1]; simp only [Sem.run_bind, hl, Result.andThen_ok, Sem.run_pure]) ?_
      exact hK _ _ rfl (hM.step (Below.refl _ _) (by decide) (by decide) (by decide)) (BO4_mono b off q cap P hDi ((Gx.of (Below.refl _ _))))
    | 3, ho =>
      obtain rfl := Option.some.inj ho
      intro D a w hM hsl hdep hDi hcl K hK
      have hp4 : a.tmps.getD 4 undef = .slice (some ⟨b, off, none⟩) q cap := hsl 4 (by intro j hj; unfold BO4d; split <;> omega)
      refine ⟨rfl, ?_⟩
      refine wp_val (w' := w) (v := .slice (some ⟨b, off, none⟩) q cap) (by simp only [execOp, Act.eval]; rw [show a.tmps.getD 4 undef = _ from hp4]; rfl) ?_
      exact hK _ _ rfl (hM.step (Below.refl _ _) (by decide) (by decide) (by decide)) (BO4_mono b off q cap P hDi ((Gx.of (Below.refl _ _))))
    | 4, ho =>
      obtain rfl := Option.some.inj ho
      intro D a w hM hsl hdep hDi hcl K hK
      have e3 := (hdep ⟨3, .data⟩ (by simp) rfl).1
      refine ⟨rfl, ?_⟩
      have hl := (show (Instr.indexAt 22 (.slice (some ⟨b, off, none⟩) q cap) (.int .i64 0)).run Tryd.prog w = .ok (.pointer (some ⟨b, off + 32 * 0, none⟩)) w from ix_ss (b := b) (off := off) (n := q) (cap := cap) (i := 0) hq w)
      refine wp_val (w' := w) (v := .pointer (some ⟨b, off + 32 * 0, none⟩)) (by simp only [execOp, Act.eval]; rw [show a.tmps.getD 31 undef = _ from e3]; simp only [Sem.run_bind, hl, Result.andThen_ok, Sem.run_pure]) ?_
      exact hK _ _ rfl (hM.step (Below.refl _ _) (by decide) (by decide) (by decide)) (BO4_mono b off q cap P hDi ((Gx.of (Below.refl _ _))))
    | 5, ho =>
      obtain rfl := Option.some.inj ho
      intro D a w hM hsl hdep hDi hcl K hK
      have e4 := (hdep ⟨4, .data⟩ (by simp) rfl).1
      refine ⟨rfl, ?_⟩
      have hl := hld w hM.bel
      refine wp_val (w' := w) (v := .agg (ab 32 P)) (by simp only [execOp, Act.eval]; rw [show a.tmps.getD 32 undef = _ from e4]; simp only [Sem.run_bind, hl, Result.andThen_ok, Sem.run_pure]) ?_
      exact hK _ _ rfl (hM.step (Below.refl _ _) (by decide) (by decide) (by decide)) (BO4_mono b off q cap P hDi ((Gx.of (Below.refl _ _))))
    | 6, ho =>
      obtain rfl := Option.some.inj ho
      intro D a w hM hsl hdep hDi hcl K hK
      have e2 := (hdep ⟨2, .data⟩ (by simp) rfl).1
      have hp10 : a.tmps.getD 10 undef = .pointer (some ⟨ga, 0, none⟩) := hsl 10 (by intro j hj; unfold BO4d; split <;> omega)
      refine ⟨rfl, ?_⟩
      have hl := stS (F := P) 34 (stc_size hZs) w ga hM.ra
      refine wp_skp (w' := w.setRow ga (ab 32 P)) (by simp only [execOp, Act.eval]; rw [show a.tmps.getD 10 undef = _ from hp10, show a.tmps.getD 30 undef = _ from e2]; simp only [Sem.run_bind, hl, Result.andThen_ok, Sem.run_pure]) ?_
      exact hK undef _ trivial (hM.stoA h0a h1a h2a h3a h4a (by decide) (by decide) (by decide)) (BO4_mono b off q cap P hDi (Gx.row hM.ra))
    | 7, ho =>
      obtain rfl := Option.some.inj ho
      intro D a w hM hsl hdep hDi hcl K hK
      have e5 := (hdep ⟨5, .data⟩ (by simp) rfl).1
      have hp11 : a.tmps.getD 11 undef = .pointer (some ⟨gb, 0, none⟩) := hsl 11 (by intro j hj; unfold BO4d; split <;> omega)
      refine ⟨rfl, ?_⟩
      have hl := stS (F := P) 34 (stc_size hZs) w gb hM.rb
      refine wp_skp (w' := w.setRow gb (ab 32 P)) (by simp only [execOp, Act.eval]; rw [show a.tmps.getD 11 undef = _ from hp11, show a.tmps.getD 33 undef = _ from e5]; simp only [Sem.run_bind, hl, Result.andThen_ok, Sem.run_pure]) ?_
      exact hK undef _ trivial (hM.stoB h0b h1b h2b h3b h4b (by decide) (by decide) (by decide)) (BO4_mono b off q cap P hDi (Gx.row hM.rb))
    | 8, ho =>
      obtain rfl := Option.some.inj ho
      intro D a w hM hsl hdep hDi hcl K hK
      refine ⟨rfl, ?_⟩
      refine wp_val (w' := w) (v := .slice none 0 0) (by simp only [execOp, Act.eval]; rfl) ?_
      exact hK _ _ rfl (hM.step (Below.refl _ _) (by decide) (by decide) (by decide)) (BO4_mono b off q cap P hDi ((Gx.of (Below.refl _ _))))
    | _ + 9, ho => exact absurd ho (by simp)
  · intro D a u hall hd hs hM hsl hr
    have hv : a.tmps.getD 12 undef = .slice none 0 0 := hr 8 (by decide)
    have hs10 : a.tmps.getD 10 undef = .pointer (some ⟨ga, 0, none⟩) := hsl 10 (by intro j hj; unfold BO4d; split <;> omega)
    have hs11 : a.tmps.getD 11 undef = .pointer (some ⟨gb, 0, none⟩) := hsl 11 (by intro j hj; unfold BO4d; split <;> omega)
    have hra := hM.ra
    have hrb := hM.rb
    rw [stc_on (by decide) (hall 6 (by decide))] at hra
    rw [stc_on (by decide) (hall 7 (by decide))] at hrb
    refine (‹∀ (a : Act) (w : World), Code.wp Tryd.prog Code.ret _ a w → _›) a u ?_
    refine wp_ret ?_
    refine then_ret ?_
    exact s_raw3 hd hs10 hs11 hv Tryd.results46 (sum_sz _) (sum_sz _) hra hrb ⟨_, rfl, ⟨hM.bel.size, [], World.ownsRow_nil _ _ _ _, TsAt.none _ _⟩, hM.bel⟩
end Go.Proofs.YtgnmnoadfjdjdaaDoor

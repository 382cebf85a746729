/- LAc, LAd, PRL, PRK, PRf, PB1, PB2, PBp, PHd, PRA, PRN, PB3, PI2, PI3, PI4, PX0, PB4, PX1: laid together. -/
import Derived.Lib.AppendZerosOnto
import Derived.Lib.Overlaps
import Derived.Laws.CopyRow
import Derived.Test.YtgnmnoadfjdjdaaDoorG5
namespace Go.Proofs.YtgnmnoadfjdjdaaDoor
open Go.RowKit Go.Maps Sh

/-- A text of 65 bytes in a block of its own. -/
def TxV (w : World) (B : Nat) (r : Value) (T : Nat → Nat) : Prop := ∃ b c cap, r = .slice (some ⟨b, 0, none⟩) 65 cap ∧ B ≤ b ∧ 65 ≤ cap ∧ w.heap[b]? = some (.cells c 5 (0, 0)) ∧ ∀ j, j < 65 → c[j]? = some (.int .u8 ((T j : Nat) : Int))
theorem tx_own {w : World} {base B : Nat} {v : Value} {T : Nat → Nat} (hB : B ≤ base) (h : w.ownsRow base 5 1 v 65 (bvs 65 T)) : TxV w B v T := by
  rcases h.2 with ⟨_, h0⟩ | ⟨q, cap, cur, rfl, hbq, hgq, hnc, hcm, hcs, hty⟩
  · exfalso; omega
  · refine ⟨q, cur, cap, rfl, by omega, hnc, hgq, fun j hj => ?_⟩
    have h1 := h.cellAt j (by omega)
    rw [bvs_get T hj] at h1
    rw [← h1, cell_of_row _ _ _ _ _ _ hgq]
theorem TxV.later {w w' : World} {B : Nat} {r : Value} {T : Nat → Nat} (h : TxV w B r T) (hb : Below w.heap.size w w') : TxV w' B r T := by
  obtain ⟨b, c, cap, e, h1, h2, h3, h4⟩ := h
  exact ⟨b, c, cap, e, h1, h2, (hb.block b (Array.getElem?_eq_some_iff.1 h3).1).trans h3, h4⟩
theorem TxV.mono {w : World} {B B' : Nat} {r : Value} {T : Nat → Nat} (h : TxV w B r T) (hB : B' ≤ B) : TxV w B' r T := by
  obtain ⟨b, c, cap, e, h1, h2, h3, h4⟩ := h
  exact ⟨b, c, cap, e, by omega, h2, h3, h4⟩
/-- .. where a row of slices has grown. -/
theorem TxV.grown {w w' : World} {B : Nat} {r : Value} {T : Nat → Nat} {o : Option Nat} (h : TxV w B r T) (hg : w.grownBy w' o) (ho : ∀ g, o = some g → ∃ c, w.heap[g]? = some (.cells c 97 (0, 0))) : TxV w' B r T := by
  obtain ⟨b, c, cap, e, h1, h2, h3, h4⟩ := h
  refine ⟨b, c, cap, e, h1, h2, ?_, h4⟩
  have hne : some b ≠ o := by
    intro e2
    obtain ⟨c2, hc2⟩ := ho b e2.symm
    rw [h3] at hc2
    cases hc2
  exact (hg.block b (Array.getElem?_eq_some_iff.1 h3).1 hne).trans h3
theorem TxV.bs {w : World} {B : Nat} {r : Value} {T : Nat → Nat} (h : TxV w B r T) (hT : ∀ i, T i < 256) : ∃ a cap, r = .slice a 65 cap ∧ Bs w a 65 T := by
  obtain ⟨b, c, cap, e, h1, h2, h3, h4⟩ := h
  refine ⟨_, cap, e, hT, fun _ => ⟨b, 0, rfl, fun i hi => ?_⟩⟩
  rw [cell_of_row _ _ _ _ _ _ h3, Nat.zero_add]
  exact h4 i hi
/-- Texts, in the order of a row of slices. -/
def TsAt (w : World) (B : Nat) (xs : List Value) (T : List (Nat → Nat)) : Prop := xs.length = T.length ∧ ∀ i, i < T.length → TxV w B (xs.getD i undef) (T.getD i fun _ => 0)
theorem TsAt.app {w : World} {B : Nat} {xs ys : List Value} {T U : List (Nat → Nat)} (h : TsAt w B xs T) (k : TsAt w B ys U) : TsAt w B (xs ++ ys) (T ++ U) := by
  refine ⟨by rw [List.length_append, List.length_append, h.1, k.1], fun i hi => ?_⟩
  rw [List.length_append] at hi
  rcases Nat.lt_or_ge i T.length with h1 | h1
  · have := h.2 i h1
    simp only [List.getD_eq_getElem?_getD] at this ⊢
    rw [List.getElem?_append_left (by rw [h.1]; exact h1), List.getElem?_append_left h1]
    exact this
  · have := k.2 (i - T.length) (by omega)
    simp only [List.getD_eq_getElem?_getD] at this ⊢
    rw [List.getElem?_append_right (by rw [h.1]; exact h1), List.getElem?_append_right h1, h.1]
    exact this
theorem TsAt.map {w w' : World} {B B' : Nat} {xs : List Value} {T : List (Nat → Nat)} (h : TsAt w B xs T) (f : ∀ {r T}, TxV w B r T → TxV w' B' r T) : TsAt w' B' xs T := ⟨h.1, fun i hi => f (h.2 i hi)⟩
theorem TsAt.one {w : World} {B : Nat} {r : Value} {T : Nat → Nat} (h : TxV w B r T) : TsAt w B [r] [T] := ⟨rfl, fun i hi => by
  obtain rfl : i = 0 := by simp at hi; omega
  exact h⟩
theorem TsAt.none (w : World) (B : Nat) : TsAt w B [] [] := ⟨rfl, fun i hi => absurd hi (by simp)⟩
theorem info_sl : (Tryd.prog.info? 97).map (fun i => (i.zero, i.size, i.bytes)) = some (some (.slice none 0 0), 1, 24) := by kernel_rfl
theorem TsAt.cells {w : World} {B : Nat} {xs : List Value} {T : List (Nat → Nat)} (h : TsAt w B xs T) : ∀ v ∈ xs, v.oneCell' = true := by
  intro v hv
  obtain ⟨i, hi, rfl⟩ := List.getElem_of_mem hv
  obtain ⟨b, c, cap, e, _⟩ := h.2 i (by rw [← h.1]; exact hi)
  rw [List.getD_eq_getElem?_getD, List.getElem?_eq_getElem hi, Option.getD_some] at e
  rw [e]; rfl
/-- Slices are put behind a row of slices of the call's own. -/
theorem run_append_sl (w : World) (base ty : Nat) (v : Value) (n : Nat) (xs : List Value) (hown : w.ownsRow base 97 1 v n xs) (u : Value) (m : Nat) (ys : List Value) (hu : w.ownsRow 0 97 1 u m ys) (h1 : ∀ y ∈ ys, y.oneCell' = true)
    (hbytes : n + m ≤ 1000000) (hbase : base ≤ w.heap.size) :
    ∃ v' w', (Builtin.append_ #[78, 78] ty #[v, u]).run Tryd.prog w = .ok v' w' ∧ w'.ownsRow base 97 1 v' (n + m) (xs ++ ys) ∧ w.grownBy w' v.ownBlock := by
  obtain ⟨i0, hi, hz0, hz1, hz2⟩ := info_parts info_sl
  rcases hu.2 with ⟨rfl, rfl⟩ | ⟨gu, cu, curu, rfl, _, hgu, hnu, _, hcsu, htu⟩
  · obtain rfl : ys = [] := List.eq_nil_of_length_eq_zero (by rw [hu.1])
    refine ⟨v, w, ?_, by simpa using hown, ⟨rfl, rfl, rfl, Nat.le_refl _, fun _ _ _ => rfl⟩⟩
    rcases hown.2 with ⟨rfl, rfl⟩ | ⟨g, cap, cur, rfl, _, _, hnc, _⟩
    · simp [Builtin.append_, run_underlying Tryd.underlying78, sizeOf, typeInfo, hi, Builtin.lenOf, Builtin.firstCells]
    · simp [Builtin.append_, run_underlying Tryd.underlying78, sizeOf, typeInfo, hi, Builtin.lenOf, Builtin.firstCells, hnc, storeCells]
  · have hnews : ∀ j x, ys[j]? = some x → w.cell? ((⟨gu, 0, none⟩ : Addr).add j) = some x := by
      intro j x hj
      rw [← htu, List.getElem?_take] at hj
      split at hj
      · rw [Addr.add_lit, cell_of_row _ _ _ _ _ _ hgu, Nat.zero_add, ← Array.getElem?_toList]; exact hj
      · cases hj
    obtain ⟨v', w', hr, h4, h5, _, h6⟩ := run_append_own_at (P := Tryd.prog) w base 78 ty 97 i0 _ 1 24 Tryd.underlying78 hi hz0 hz1 hz2 rfl (by decide) v n xs hown ⟨gu, 0, none⟩ m cu ys (by rw [hu.1]) hnews
      h1 (by unfold maxLen; omega) (by omega) hbase
    exact ⟨v', w', hr, h4, h5⟩
theorem step_append_sl {w : World} {ops : Array Oper} {o : Oper} {a : Act} {K : Act → World → Prop} {Q : Exit → Act → World → Prop} {E : Prop} (hgd : o.guard = none) (s x : Operand)
    (ho : o.op = .call { callee := .builtin .append, args := #[s, x], argTypes := #[78, 78] }) (base : Nat)
    (v : Value) (n : Nat) (xs : List Value) (hs : a.eval s = v) (hown : w.ownsRow base 97 1 v n xs) (u : Value) (m : Nat) (ys : List Value) (hx : a.eval x = u) (hu : w.ownsRow 0 97 1 u m ys) (h1 : ∀ y ∈ ys, y.oneCell' = true)
    (hbytes : n + m ≤ 1000000) (hbase : base ≤ w.heap.size)
    (h : ∀ v' w', w'.ownsRow base 97 1 v' (n + m) (xs ++ ys) → w.grownBy w' v.ownBlock → K (a.put o.dst v') w') : if Region.wanted o (yielded ops a.tmps) = true then Oper.wp Tryd.prog o a w K Q else E := by
  have hw : Region.wanted o (yielded ops a.tmps) = true := by simp [Region.wanted, hgd]
  rw [if_pos hw]
  obtain ⟨v', w', hr, h2, h3⟩ := run_append_sl w base o.type v n xs hown u m ys hu h1 hbytes hbase
  unfold Oper.wp execOp
  simp only [ho, resolve, invoke, builtin, Sem.run_bind, Sem.run_pure, Result.andThen_ok, List.map_toArray, List.map_cons, List.map_nil, hs, hx, hr]
  exact h v' w' h2 h3
/-- A call in a region that draws, whatever it answers. -/
theorem step_any1 {w : World} {ops : Array Oper} {o : Oper} {a : Act} {K : Act → World → Prop} {Q : Exit → Act → World → Prop} {E : Prop} (hgd : o.guard = none) (f : FuncId) (x : Operand) {tys : Array TypeId} (ho : o.op = .call { callee := .value (.func f), args := #[x], argTypes := tys }) {v : Value} {J : Value → World → Prop} (hx : a.eval x = v)
    (he : ∀ w, (callFunc f #[v]).run Tryd.prog w = .ok (.enter f #[v]) w) (hc : Calls Tryd.prog f #[v] w fun e w' => ∃ r, e = .returned r ∧ J r w') (h : ∀ r w', J r w' → K (a.put o.dst r) w') : if Region.wanted o (yielded ops a.tmps) = true then Oper.wp Tryd.prog o a w K Q else E := by
  have hw : Region.wanted o (yielded ops a.tmps) = true := by simp [Region.wanted, hgd]
  rw [if_pos hw]
  have hev : a.eval (.func f) = .func (.func f) #[] #[] := rfl
  have hv : #[x].map a.eval = #[v] := by simp [hx]
  unfold Oper.wp execOp
  simp only [ho, resolve, invoke, Sem.run_bind, hv, hev, Deferred.ofValue, Sem.run_pure, Result.andThen_ok, Array.append_empty, Array.empty_append, he, Oper.upon_enter]
  exact hc.mono (by rintro e w' ⟨r, rfl, hJ⟩; exact h r w' hJ)
theorem step_any2 {w : World} {ops : Array Oper} {o : Oper} {a : Act} {K : Act → World → Prop} {Q : Exit → Act → World → Prop} {E : Prop} (hgd : o.guard = none) (f : FuncId) (x y : Operand) {tys : Array TypeId} (ho : o.op = .call { callee := .value (.func f), args := #[x, y], argTypes := tys }) {v u : Value} {J : Value → World → Prop} (hx : a.eval x = v) (hy : a.eval y = u)
    (he : ∀ w, (callFunc f #[v, u]).run Tryd.prog w = .ok (.enter f #[v, u]) w) (hc : Calls Tryd.prog f #[v, u] w fun e w' => ∃ r, e = .returned r ∧ J r w') (h : ∀ r w', J r w' → K (a.put o.dst r) w') : if Region.wanted o (yielded ops a.tmps) = true then Oper.wp Tryd.prog o a w K Q else E := by
  have hw : Region.wanted o (yielded ops a.tmps) = true := by simp [Region.wanted, hgd]
  rw [if_pos hw]
  have hev : a.eval (.func f) = .func (.func f) #[] #[] := rfl
  have hv : #[x, y].map a.eval = #[v, u] := by simp [hx, hy]
  unfold Oper.wp execOp
  simp only [ho, resolve, invoke, Sem.run_bind, hv, hev, Deferred.ofValue, Sem.run_pure, Result.andThen_ok, Array.append_empty, Array.empty_append, he, Oper.upon_enter]
  exact hc.mono (by rintro e w' ⟨r, rfl, hJ⟩; exact h r w' hJ)
set_option maxHeartbeats 4000000 in
set_option maxRecDepth 100000 in
theorem text_h {F G : Nat → Nat} {W0 : World} (hF : ∀ i, F i < 256) (hG : ∀ i, G i < 256) : Calls Tryd.prog 69 #[.agg (ab 32 F), .agg (ab 32 G)] W0 fun e w' => ∃ r, e = .returned r ∧ TxV w' W0.heap.size r (txt F G) ∧ Below W0.heap.size W0 w' := by
  obtain ⟨A, hA⟩ : ∃ A, Hid (A = ab 32 F) := ⟨_, hide1 rfl⟩
  obtain ⟨B, hB⟩ : ∃ B, Hid (B = ab 32 G) := ⟨_, hide1 rfl⟩
  obtain ⟨T, hT⟩ : ∃ T, Hid (T = txt F G) := ⟨_, hide1 rfl⟩
  have hTl : ∀ i, T i < 256 := by rw [hT.out]; exact txt_b hF hG
  have hX1 : bvs 1 (fun _ => 1) ++ bvs 32 F = bvs 33 T := by
    rw [show bvs 1 (fun _ => 1) = bvs 1 T from bvs_cong fun i hi => by rw [hT.out]; unfold txt; rw [if_pos (by omega)]]
    exact bvs_app fun i hi => by rw [hT.out]; unfold txt; rw [if_neg (by omega), if_pos (by omega), show 1 + i - 1 = i by omega]
  have hX2 : bvs 33 T ++ bvs 32 G = bvs 65 T := bvs_app fun i hi => by rw [hT.out]; unfold txt; rw [if_neg (by omega), if_neg (by omega), show 33 + i - 33 = i by omega]
  rw [← hA.out, ← hB.out, ← hT.out]
  have bxA : ∀ w : World, (Instr.box 34 (.agg A)).run Tryd.prog w = .ok (.pointer (some ⟨w.heap.size, 0, none⟩)) (w.alloc (.cells A 34)) := fun w => bx_agg w
  have bxB : ∀ w : World, (Instr.box 34 (.agg B)).run Tryd.prog w = .ok (.pointer (some ⟨w.heap.size, 0, none⟩)) (w.alloc (.cells B 34)) := fun w => bx_agg w
  obtain ⟨w1, hw1⟩ : ∃ w1, Hid (w1 = (W0.alloc (.cells A 34)).alloc (.cells B 34)) := ⟨_, hide1 rfl⟩
  have h1 : Below W0.heap.size W0 w1 := by rw [hw1.out]; exact ((Below.refl _ _).alloc (Nat.le_refl _) _).alloc (by simp) _
  have rA : w1.heap[W0.heap.size]? = some (.cells A 34 (0, 0)) := by
    rw [hw1.out, Below.heap_alloc _ _ _ (by simp)]; exact (MapKept.heap_alloc W0 _).1
  have rB : w1.heap[W0.heap.size + 1]? = some (.cells B 34 (0, 0)) := by
    rw [hw1.out]
    have := (MapKept.heap_alloc (W0.alloc (.cells A 34)) (.cells B 34)).1
    rwa [show (W0.alloc (.cells A 34)).heap.size = W0.heap.size + 1 by simp] at this
  have bA : ∀ w', Below w1.heap.size w1 w' → Bs w' (some ⟨W0.heap.size, 0, none⟩) 32 F := fun w' hb => by
    have := bs_ab (off := 0) (n := 32) hF (by rw [hA.out] at rA; exact rA) (Nat.le_refl _)
    simpa using this.later hb
  have bB : ∀ w', Below w1.heap.size w1 w' → Bs w' (some ⟨W0.heap.size + 1, 0, none⟩) 32 G := fun w' hb => by
    have := bs_ab (off := 0) (n := 32) hG (by rw [hB.out] at rB; exact rB) (Nat.le_refl _)
    simpa using this.later hb
  have hs1 := h1.size
  have hoX : ∀ w' : World, w'.heap = (w1.alloc (.cells #[.int .u8 1] 5)).heap → w'.ownsRow w1.heap.size 5 1 (.slice (some ⟨w1.heap.size, 0, none⟩) 1 1) 1 (bvs 1 fun _ => 1) := fun w' hw => by
    have h := own_one w1 1
    exact ⟨h.1, by
      rcases h.2 with e | ⟨g, cap, cur, r1, r2, r3, r4⟩
      · exact .inl e
      · exact .inr ⟨g, cap, cur, r1, r2, by rw [hw]; exact r3, r4⟩⟩
  go_enter Tryd.func69, Tryd.ntmps69
  go_upto_region 1 with fail
  rw [← hw1.out]
  replace hoX := hide1 hoX
  clear bxA bxB rA rB
  go_region_law (first
    | (refine step_append_f rfl (.tmp 5) (.tmp 6) rfl w1.heap.size _ 1 _ (by first | (simp [Act.eval]; done) | (simp [Act.eval, Act.put]; done) | rfl) (hoX.out _ rfl) _ 32 32 F (by first | (simp [Act.eval]; done) | (simp [Act.eval, Act.put]; done) | rfl) (bA _ (((Below.refl _ _).alloc (Nat.le_refl _) _).drew)) (by omega) (by simp) ?_
       intro v1 w2 ho2 hg2 _
       rw [hX1] at ho2
       have hw2 := below_app (((Below.refl _ _).alloc (Nat.le_refl _) _).drew) (by simp) (hoX.out _ rfl) hg2
       obtain ⟨a1, c1, rfl, -, -⟩ := bs_own ho2 hTl
       have hs2 := hide1 hw2.size
       clear hg2)
    | (refine step_append_f rfl (.tmp 7) (.tmp 8) rfl w1.heap.size _ 33 _ (by first | (simp [Act.eval]; done) | (simp [Act.eval, Act.put]; done) | rfl) ho2 _ 32 32 G (by first | (simp [Act.eval]; done) | (simp [Act.eval, Act.put]; done) | rfl) (bB _ hw2) (by omega) hs2.out ?_
       intro v2 w3 ho3 hg3 _
       rw [hX2] at ho3
       have hw3 := below_app hw2 hs2.out ho2 hg3
       have ht3 := tx_own hs1 ho3
       have hf3 := h1.trans (hw3.mono hs1)
       replace ht3 := hide1 ht3
       replace hf3 := hide1 hf3
       clear hg3 ho3 ho2))
  all_goals
    go_wp2
    go_ret
    exact ⟨_, rfl, ht3.out, hf3.out⟩
end Go.Proofs.YtgnmnoadfjdjdaaDoor

namespace Go.Proofs.YtgnmnoadfjdjdaaDoor
open Go.RowKit Go.Maps Sh

/-- What Texts answers. -/
def TsO (W0 : World) (T : List (Nat → Nat)) (r : Value) (w' : World) : Prop := ∃ xs, w'.ownsRow W0.heap.size 97 1 r T.length xs ∧ TsAt w' W0.heap.size xs T ∧ Below W0.heap.size W0 w'
theorem own_any {w : World} {base : Nat} {e : TypeId} {v : Value} {n : Nat} {xs : List Value} (h : w.ownsRow base e 1 v n xs) : w.ownsRow 0 e 1 v n xs := by
  refine ⟨h.1, ?_⟩
  rcases h.2 with h2 | ⟨g, cap, cur, e1, _, r⟩
  · exact .inl h2
  · exact .inr ⟨g, cap, cur, e1, Nat.zero_le _, r⟩
theorem own_at {w w' : World} {base : Nat} {e : TypeId} {v : Value} {n : Nat} {xs : List Value} (h : w.ownsRow base e 1 v n xs) (hb : Below w.heap.size w w') : w'.ownsRow base e 1 v n xs := by
  refine ⟨h.1, ?_⟩
  rcases h.2 with h2 | ⟨g, cap, cur, e1, hb', hg, r⟩
  · exact .inl h2
  · exact .inr ⟨g, cap, cur, e1, hb', (hb.block g (Array.getElem?_eq_some_iff.1 hg).1).trans hg, r⟩
theorem own_mono {w : World} {base base' : Nat} {e : TypeId} {v : Value} {n : Nat} {xs : List Value} (h : w.ownsRow base e 1 v n xs) (hb : base' ≤ base) : w.ownsRow base' e 1 v n xs := by
  refine ⟨h.1, ?_⟩
  rcases h.2 with h2 | ⟨g, cap, cur, e1, hb', r⟩
  · exact .inl h2
  · exact .inr ⟨g, cap, cur, e1, by omega, r⟩
theorem own_ty {w : World} {base : Nat} {e : TypeId} {v : Value} {n : Nat} {xs : List Value} (h : w.ownsRow base e 1 v n xs) : ∀ g, v.ownBlock = some g → ∃ c, w.heap[g]? = some (.cells c e (0, 0)) := by
  intro g hg
  rcases h.2 with ⟨rfl, _⟩ | ⟨q, cap, cur, rfl, _, hq, _⟩
  · cases hg
  · cases hg; exact ⟨cur, hq⟩
set_option maxHeartbeats 4000000 in
set_option maxRecDepth 100000 in
theorem texts_2 {b off n cap : Nat} {W0 : World} {L : List (Nat → Nat)} (hL : L.length = n) (hn : 2 ≤ n) (hm : n ≤ 1000) (hcap : n ≤ cap) (hs : SsAt W0 (some ⟨b, off, none⟩) L)
    (hlo : ∀ w, Below W0.heap.size W0 w → Calls Tryd.prog 48 #[.slice (some ⟨b, off, none⟩) (cut n) cap] w fun e w' => ∃ r, e = .returned r ∧ TsO w (texts (L.take (cut n))) r w')
    (hhi : ∀ w, Below W0.heap.size W0 w → Calls Tryd.prog 48 #[.slice (some ⟨b, off + 32 * cut n, none⟩) (n - cut n) (cap - cut n)] w fun e w' => ∃ r, e = .returned r ∧ TsO w (texts (L.drop (cut n))) r w') :
    Calls Tryd.prog 48 #[.slice (some ⟨b, off, none⟩) n cap] W0 fun e w' => ∃ r, e = .returned r ∧ TsO W0 (texts L) r w' := by
  have hk := cut_in hn
  have ht := texts_n (l := L) (by omega)
  rw [hL] at ht
  have l1 : (L.take (cut n)).length = cut n := by rw [List.length_take]; omega
  have l2 : (L.drop (cut n)).length = n - cut n := by rw [List.length_drop]; omega
  have b1 := root_lt _ (L.take (cut n)) rfl (fun F hF => hs.1 F (List.mem_of_mem_take hF))
  have b2 := root_lt _ (L.drop (cut n)) rfl (fun F hF => hs.1 F (List.mem_of_mem_drop hF))
  have tl1 := texts_len _ (L.take (cut n)) l1
  have tl2 := texts_len _ (L.drop (cut n)) l2
  have r1 := fun w (hb : Below W0.heap.size W0 w) => root_r (cut n) (L.take (cut n)) _ cap w l1 (by omega) (hs.lo.later hb) (by omega)
  have r2 := fun w (hb : Below W0.heap.size W0 w) => root_r (n - cut n) (L.drop (cut n)) _ (cap - cut n) w l2 (by omega) (hs.hi.later hb) (by omega)
  have s1 := fun w => sl_lo (b := b) (off := off) (n := n) (cap := cap) (k := cut n) (by omega) hcap w
  have s2 := fun w => sl_hi (b := b) (off := off) (n := n) (cap := cap) (k := cut n) (by omega) hcap w
  have ck := cut_r (n : Int) (by omega)
  rw [Int.toNat_natCast] at ck
  generalize hA : root (L.take (cut n)) = A at *
  generalize hB : root (L.drop (cut n)) = B at *
  have tx := fun w => text_h (W0 := w) b1 b2
  generalize hU : txt A B = U at *
  generalize hT1 : texts (L.take (cut n)) = T1 at *
  generalize hT2 : texts (L.drop (cut n)) = T2 at *
  have hnl : ¬ ((n : Int) < 2) := by omega
  rw [ht]
  replace ht := hide1 ht
  replace hA := hide1 hA
  replace hB := hide1 hB
  replace hU := hide1 hU
  replace hT1 := hide1 hT1
  replace hT2 := hide1 hT2
  replace l1 := hide1 l1
  replace l2 := hide1 l2
  generalize cut n = k at *
  obtain ⟨hk1, hk2, hk3⟩ := hk
  go_enter Tryd.func48, Tryd.ntmps48
  go_wp2_with fail
  refine (ck _).mono ?_
  rintro e w1 ⟨rfl, rfl⟩
  go_wp2_with fail
  have hbd : Below w1.heap.size w1 w1.drew := (Below.refl _ _).drew
  go_region_law (first
    | (refine step_any1 rfl 48 (.tmp 13) rfl (by first | (simp [Act.eval]; done) | (simp [Act.eval, Act.put]; done) | rfl) (fun w => by kernel_rfl) (hlo _ hbd) ?_
       rintro q1 w2 ⟨xs, ho1, ht1, hb2⟩
       replace hb2 := hbd.trans (hb2.mono (Nat.le_refl _))
       replace ho1 := hide1 ho1
       replace ht1 := hide1 ht1)
    | (refine step_any1 rfl 48 (.tmp 17) rfl (by first | (simp [Act.eval]; done) | (simp [Act.eval, Act.put]; done) | rfl) (fun w => by kernel_rfl) (hhi _ hb2) ?_
       rintro q2 w3 ⟨ys, ho2, ht2, hb3⟩
       have hs2 := hb2.size
       have ho13 := own_at ho1.out hb3
       have ht13 := ht1.out.map fun h => h.later hb3
       have hb13 := hb2.trans (hb3.mono hs2)
       have ho2a := own_any ho2
       have ht2a := ht2.map fun h => h.mono hs2
       replace ho13 := hide1 ho13
       replace ho2a := hide1 ho2a
       replace ht13 := hide1 ht13
       replace ht2a := hide1 ht2a
       replace hs2 := hide1 hs2
       clear ho1 ht1 ho2 ht2 hb3 hb2)
    | (refine step_append_sl rfl (.tmp 14) (.tmp 18) rfl w1.heap.size _ T1.length xs (by first | (simp [Act.eval]; done) | (simp [Act.eval, Act.put]; done) | rfl) ho13.out _ T2.length ys (by first | (simp [Act.eval]; done) | (simp [Act.eval, Act.put]; done) | rfl) ho2a.out ht2a.out.cells (by omega) hb13.size ?_
       intro q3 w4 ho4 hg4
       have ht4 := (ht13.out.map fun h => h.grown hg4 (own_ty ho13.out)).app (ht2a.out.map fun h => h.grown hg4 (own_ty ho13.out))
       have hb4 : Below w1.heap.size w1 w4 := hb13.grown hg4 hb13.size (fun g e => (ho13.out.lt g e).1)
       replace ho4 := hide1 ho4
       replace ht4 := hide1 ht4
       clear hg4 ho13 ho2a ht13 ht2a hb13))
  all_goals
    clear hlo hhi hbd
    go_wp2_with fail
    have hb4d : Below w1.heap.size w1 w4.drew := hb4.drew
    have r1d := fun w hb => (r1 w hb).mono (R' := fun e w' => ∃ r, e = .returned r ∧ (r = .agg (ab 32 A) ∧ Below w.heap.size w w')) fun e w' h => ⟨_, h.1, rfl, h.2⟩
    have r2d := fun w hb => (r2 w hb).mono (R' := fun e w' => ∃ r, e = .returned r ∧ (r = .agg (ab 32 B) ∧ Below w.heap.size w w')) fun e w' h => ⟨_, h.1, rfl, h.2⟩
    clear r1 r2
    have ho4d : Hid (w4.drew.ownsRow w1.heap.size 97 1 q3 (T1.length + T2.length) (xs ++ ys)) := ho4
    have ht4d : Hid (TsAt w4.drew w1.heap.size (xs ++ ys) (T1 ++ T2)) := ht4
    clear ho4 ht4 hb4
    go_region_law (first
      | (refine step_any1 rfl 15 (.tmp 23) rfl (by first | (simp [Act.eval]; done) | (simp [Act.eval, Act.put]; done) | rfl) (fun w => by kernel_rfl) (r1d _ hb4d) ?_
         rintro _ w5 ⟨rfl, hb5⟩
         have hb15 := hb4d.trans (hb5.mono hb4d.size)
         have ho5 := hide1 (own_at ho4d.out hb5)
         have ht5 := hide1 (ht4d.out.map fun h => h.later hb5))
      | (refine step_any1 rfl 15 (.tmp 27) rfl (by first | (simp [Act.eval]; done) | (simp [Act.eval, Act.put]; done) | rfl) (fun w => by kernel_rfl) (r2d _ hb15) ?_
         rintro _ w6 ⟨rfl, hb6⟩
         have hb16 := hb15.trans (hb6.mono hb15.size)
         have ho6 := hide1 (own_at ho5.out hb6)
         have ht6 := hide1 (ht5.out.map fun h => h.later hb6))
      | (refine step_any2 rfl 69 (.tmp 24) (.tmp 28) rfl (by first | rfl | (simp [Act.eval]; done)) (by first | rfl | (simp [Act.eval]; done)) (fun w => by kernel_rfl) (tx w6) ?_
         rintro rt w7 ⟨htx, hb7⟩
         have htx2 := htx
         obtain ⟨tb, _, tcap, rfl, _⟩ := htx2
         have hb17 := hb16.trans (hb7.mono hb16.size)
         have ho7 := hide1 (own_at ho6.out hb7)
         have ht7 := hide1 (ht6.out.map fun h => h.later hb7)
         have hal : Below w7.heap.size w7 (w7.alloc (.cells #[.slice (some ⟨tb, 0, none⟩) 65 tcap] 97)) := (Below.refl _ _).alloc (Nat.le_refl _) _
         have ho8 := hide1 (own_at ho7.out hal)
         have ht8 := hide1 ((ht7.out.map fun h => h.later hal).app (TsAt.one ((htx.mono hb16.size).later hal)))
         have hb18 := hb17.trans (hal.mono hb17.size)
         have hu8 : Hid ((w7.alloc (.cells #[.slice (some ⟨tb, 0, none⟩) 65 tcap] 97)).ownsRow 0 97 1 (.slice (some ⟨w7.heap.size, 0, none⟩) 1 1) 1 [.slice (some ⟨tb, 0, none⟩) 65 tcap]) := hide1 ⟨rfl, .inr ⟨w7.heap.size, 1, _, rfl, Nat.zero_le _, (MapKept.heap_alloc w7 _).1, Nat.le_refl _, by decide, rfl, rfl⟩⟩
         have hc8 : ∀ y ∈ [Value.slice (some ⟨tb, 0, none⟩) 65 tcap], y.oneCell' = true := (TsAt.one htx).cells
         clear htx hal ho7 ht7 ho6 ht6 ho5 ht5)
      | (refine step_append_sl rfl (.tmp 20) (.tmp 30) rfl w1.heap.size _ (T1.length + T2.length) (xs ++ ys) (by first | (simp [Act.eval]; done) | (simp [Act.eval, Act.put]; done) | rfl) ho8.out _ 1 [.slice (some ⟨tb, 0, none⟩) 65 tcap] (by first | (simp [Act.eval]; done) | (simp [Act.eval, Act.put]; done) | rfl) hu8.out hc8 (by omega) hb18.size ?_
         intro r9 w9 ho9 hg9
         have ht9 := hide1 (ht8.out.map fun h => h.grown hg9 (own_ty ho8.out))
         have hb9 : Below w1.heap.size w1 w9 := hb18.grown hg9 hb18.size (fun g e => (ho8.out.lt g e).1)
         replace ho9 := hide1 ho9
         clear hg9))
    all_goals
      go_wp2
      go_ret
      refine ⟨_, rfl, _, ?_, ht9.out, hb9⟩
      rw [List.length_append, List.length_append]
      exact ho9.out
theorem texts_r : ∀ (n : Nat) (L : List (Nat → Nat)) (a : Option Addr) (cap : Nat) (W0 : World), L.length = n → n ≤ 1000 → SsAt W0 a L → n ≤ cap → Calls Tryd.prog 48 #[.slice a n cap] W0 fun e w' => ∃ r, e = .returned r ∧ TsO W0 (texts L) r w' := by
  intro n
  induction n using Nat.strongRecOn with
  | ind n ih =>
    intro L a cap W0 hL hm hs hcap
    rcases Nat.lt_or_ge n 2 with h2 | h2
    · rw [texts_s (by omega)]
      have hnl : (n : Int) < 2 := by omega
      go_enter Tryd.func48, Tryd.ntmps48
      go_wp2
      go_ret
      exact ⟨_, rfl, [], ⟨rfl, .inl ⟨rfl, rfl⟩⟩, TsAt.none _ _, Below.refl _ _⟩
    · obtain ⟨b, off, rfl, hc⟩ := hs.2 (by omega)
      have hk := cut_in h2
      exact texts_2 hL h2 hm hcap hs
        (fun w hw => ih (cut n) hk.2.1 (L.take (cut n)) _ cap w (by rw [List.length_take]; omega) (by omega) (hs.lo.later hw) (by omega))
        (fun w hw => ih (n - cut n) (by omega) (L.drop (cut n)) _ (cap - cut n) w (by rw [List.length_drop]; omega) (by omega) (hs.hi.later hw) (by omega))
end Go.Proofs.YtgnmnoadfjdjdaaDoor

namespace Go.Proofs.YtgnmnoadfjdjdaaDoor
open Go.RowKit
section
variable {P : Program} {Q : Exit → Act → World → Prop}
theorem putg_ {a : Act} {d t : Nat} {v : Value} (hd : d < a.tmps.size) : (a.put (some d) v).tmps.getD t undef = if t = d then v else a.tmps.getD t undef := by
  unfold Act.put
  simp only [Array.getD_eq_getD_getElem?, Array.getElem?_setIfInBounds]
  by_cases e : d = t
  · subst e; simp [hd]
  · rw [if_neg e, if_neg (fun h => e h.symm)]
theorem wp_val {o : Oper} {a : Act} {w w' : World} {K : Act → World → Prop} {v : Value} (h : (execOp a.eval o).run P w = .ok (.value v) w') (hk : K (a.put o.dst v) w') : o.wp P a w K Q := by
  unfold Oper.wp; rw [h]; exact hk
theorem wp_skp {o : Oper} {a : Act} {w w' : World} {K : Act → World → Prop} (h : (execOp a.eval o).run P w = .ok .skip w') (hk : K (a.put o.dst undef) w') : o.wp P a w K Q := by
  unfold Oper.wp; rw [h]; exact hk
theorem wnt {ops : Array Oper} {a : Act} {o : Oper} {j d : Nat} (hg : o.guard = some (j, true)) (hd : (ops[j]?).bind (·.dst) = some d) (h : a.tmps.getD d undef = .bool true) : Region.wanted o (yielded ops a.tmps) = true := by
  have ht : a.tmps[d]? = some (.bool true) := by
    rw [Array.getD_eq_getD_getElem?] at h
    cases hx : a.tmps[d]? with
    | none => rw [hx] at h; cases h
    | some x => rw [hx] at h; rw [← h]; rfl
  unfold Region.wanted yielded
  rw [hg]
  simp only [hd, Option.bind_some, ht]
  rfl
theorem s_raw {fn : Func} {a : Act} {w : World} {R : Ending → World → Prop} {t : Nat} {v : Value} (hd : a.defers = []) (ht : t < a.tmps.size) (hv : a.tmps.getD t undef = v) (hr : fn.results = #[.tmp t]) (hR : R (.returned v) w) : bodyPost P fn R .ret a w := by
  refine ⟨hd, v, ?_, hR⟩
  have htm : a.tmps[t]? = some v := by
    simp only [Array.getD, ht] at hv
    simp at hv
    simp [ht, hv]
  simp only [results, hr]
  simp [htm]
/-- One operation's step: the others' answers stay told, the memory's predicate goes on. -/
def Hop (P : Program) (Q : Exit → Act → World → Prop) (l : List Oper) (n : Nat) (a0 : Act) (dd : Nat → Nat) (Rr : (Nat → Bool) → Nat → Value → World → Prop) (M : (Nat → Bool) → World → Prop) (i : Nat) (o : Oper) : Prop :=
  ∀ (D : Nat → Bool) (a : Act) (w : World), M D w → (∀ t, (∀ j, j < n → dd j ≠ t) → a.tmps.getD t undef = a0.tmps.getD t undef) → (∀ e ∈ o.after, Region.binds .any e = true → Rr D e.on (a.tmps.getD (dd e.on) undef) w ∧ D e.on = true) → D i = false → (∀ j oj, l[j]? = some oj → D j = true → ∀ e ∈ oj.after, Region.binds .any e = true → D e.on = true) →
    ∀ K : Act → World → Prop, (∀ v w', Rr (add1 D i) i v w' → M (add1 D i) w' → (∀ j u, j ≠ i → Rr D j u w → Rr (add1 D i) j u w') → K (a.put o.dst v) w') → Region.wanted o (yielded l.toArray a.tmps) = true ∧ o.wp P a w K Q
theorem wp_rel3 {l : List Oper} {id : Nat} (a0 : Act) (w0 : World) (Rr : (Nat → Bool) → Nat → Value → World → Prop) (M : (Nat → Bool) → World → Prop) (dd : Nat → Nat) (hm : P.follows .mixedOrders = true) (hac : acycB l.toArray = true) (n : Nat) (hn : l.length = n)
    (hdst : ∀ i o, l[i]? = some o → (o.dst = some (dd i) ∧ dd i < a0.tmps.size) ∨ (o.dst = none ∧ ∀ D v w, Rr D i v w → Rr D i undef w) ∧ a0.tmps.size ≤ dd i)
    (hinj : ∀ i j, i < n → j < n → dd i = dd j → i = j) (hdf : a0.defers = []) (h0 : M (fun _ => false) w0.drew)
    (hop : ∀ i o, l[i]? = some o → Hop P Q l n a0 dd Rr M i o)
    (hend : ∀ (D : Nat → Bool) (a : Act) (w : World), (∀ i, i < n → D i = true) → a.defers = [] → a.tmps.size = a0.tmps.size → M D w → (∀ t, (∀ j, j < n → dd j ≠ t) → a.tmps.getD t undef = a0.tmps.getD t undef) → (∀ i, i < n → Rr D i (a.tmps.getD (dd i) undef) w) → Q .normal a w) : (Code.region id l.toArray true).wp P Q a0 w0 := by
  subst hn
  have hacyc := acyc_of (ops := l.toArray) hac
  refine wp_region_any hm (wpAny_sym hacyc (fun D a w => a.defers = [] ∧ a.tmps.size = a0.tmps.size ∧ M D w ∧ (∀ t, (∀ j, j < l.length → dd j ≠ t) → a.tmps.getD t undef = a0.tmps.getD t undef) ∧ (∀ i, i < l.length → D i = true → Rr D i (a.tmps.getD (dd i) undef) w) ∧ ∀ j oj, l[j]? = some oj → D j = true → ∀ e ∈ oj.after, Region.binds .any e = true → D e.on = true) ?_ ?_ l.toArray.size _ a0 _ (by simp) ?_ ?_)
  · rintro D a w ⟨h1, h2, h3, h4, h5, h6⟩ i o ho hD hdep K hK
    have ho' : l[i]? = some o := by simpa using ho
    have hil : i < l.length := (List.getElem?_eq_some_iff.1 ho').1
    left
    refine hop i o ho' D a w h3 h4 (fun e he hb => ⟨h5 e.on (by have := hacyc i o ho e he hb; omega) (hdep e he hb), hdep e he hb⟩) (by simpa using hD) h6 K fun v w' hR hM hmono => hK _ _ ?_
    have hold : ∀ j, j < l.length → j ≠ i → add1 D i j = true → Rr (add1 D i) j (a.tmps.getD (dd j) undef) w' := fun j hj hne hDj => hmono j _ hne (h5 j hj (by unfold add1 at hDj; rwa [if_neg hne] at hDj))
    have hcl : ∀ j oj, l[j]? = some oj → add1 D i j = true → ∀ e ∈ oj.after, Region.binds .any e = true → add1 D i e.on = true := by
      intro j oj hj hDj e he hb
      unfold add1
      split
      · rfl
      · unfold add1 at hDj
        split at hDj
        · rename_i hji
          subst hji
          rw [ho'] at hj; cases hj
          exact hdep e he hb
        · exact h6 j oj hj hDj e he hb
    rcases hdst i o ho' with ⟨hd, hlt⟩ | ⟨⟨hd, hu⟩, hge⟩
    · have hdi : dd i < a.tmps.size := by rw [h2]; exact hlt
      rw [hd]
      refine ⟨h1, by unfold Act.put; simpa using h2, hM, fun t ht => ?_, fun j hj hDj => ?_, hcl⟩
      · rw [putg_ hdi, if_neg (fun e => ht i hil e.symm)]; exact h4 t ht
      · rw [putg_ hdi]
        by_cases e : dd j = dd i
        · rw [if_pos e, hinj j i hj hil e]; exact hR
        · rw [if_neg e]; exact hold j hj (fun e2 => e (by rw [e2])) hDj
    · rw [hd]
      refine ⟨h1, h2, hM, h4, fun j hj hDj => ?_, hcl⟩
      by_cases e : j = i
      · subst e
        have hz : a.tmps.getD (dd j) undef = undef := by
          rw [Array.getD_eq_getD_getElem?, Array.getElem?_eq_none (by rw [h2]; exact hge)]; rfl
        rw [show (a.put none v).tmps.getD (dd j) undef = undef from hz]
        exact hu _ _ _ hR
      · exact hold j hj e hDj
  · rintro D a w ⟨h1, h2, h3, h4, h5, _⟩ hall
    exact hend D a w (fun i hi => hall i (by simpa using hi)) h1 h2 h3 h4 fun i hi => h5 i hi (hall i (by simpa using hi))
  · exact Nat.le_trans (List.length_filter_le _ _) (by simp)
  · have e : ∀ i, (Array.replicate l.toArray.size false).getD i false = false := by
      intro i
      by_cases h : i < l.toArray.size <;> simp [Array.getD]
    have ef : (fun i => (Array.replicate l.toArray.size false).getD i false) = fun _ => false := funext e
    refine ⟨hdf, rfl, ?_, fun _ _ => rfl, fun i _ hi => ?_, fun i _ _ hi => ?_⟩
    · exact ef ▸ h0
    · replace hi : (Array.replicate l.toArray.size false).getD i false = true := hi
      rw [e] at hi; cases hi
    · replace hi : (Array.replicate l.toArray.size false).getD i false = true := hi
      rw [e] at hi; cases hi
end
end Go.Proofs.YtgnmnoadfjdjdaaDoor

namespace Go.Proofs.YtgnmnoadfjdjdaaDoor
open Go.RowKit Sh
section
variable {Q : Exit → Act → World → Prop}
theorem oper_any {o : Oper} {a : Act} {w : World} {K : Act → World → Prop} (f : FuncId) (xs : Array Operand) (tys : Array TypeId) (ho : o.op = .call { callee := .value (.func f), args := xs, argTypes := tys }) (vs : Array Value) (hv : xs.map a.eval = vs) (he : ∀ w, (callFunc f vs).run Tryd.prog w = .ok (.enter f vs) w) {J : Value → World → Prop}
    (hc : Calls Tryd.prog f vs w fun e w' => ∃ r, e = .returned r ∧ J r w') (h : ∀ r w', J r w' → K (a.put o.dst r) w') : o.wp Tryd.prog a w K Q := by
  have hev : a.eval (.func f) = .func (.func f) #[] #[] := rfl
  unfold Oper.wp execOp
  simp only [ho, resolve, invoke, Sem.run_bind, hv, hev, Deferred.ofValue, Sem.run_pure, Result.andThen_ok, Array.append_empty, Array.empty_append, he, Oper.upon_enter]
  exact hc.mono (by rintro e w' ⟨r, rfl, hJ⟩; exact h r w' hJ)
theorem oper_app {o : Oper} {a : Act} {w : World} {K : Act → World → Prop} (s x : Operand) (ho : o.op = .call { callee := .builtin .append, args := #[s, x], argTypes := #[22, 22] }) (base : Nat) (v : Value) (n : Nat) (xs : List Value) (hs : a.eval s = v) (hown : w.ownsRow base 34 32 v n xs) {g : Nat} {R : Nat → Nat} (hx : a.eval x = .slice (some ⟨g, 0, none⟩) 1 1) (hg : w.heap[g]? = some (.cells (ab 32 R) 34 (0, 0))) (hR : ∀ i, R i < 256)
    (hbytes : n + 1 ≤ 1000000) (hbase : base ≤ w.heap.size) (h : ∀ v' w', w'.ownsRow base 34 32 v' (n + 1) (xs ++ ssv [R]) → Below base w w' → K (a.put o.dst v') w') : o.wp Tryd.prog a w K Q := by
  have hb : SsAt w (some ⟨g, 0, none⟩) [R] := ⟨fun F h j => by rw [List.mem_singleton.1 h]; exact hR j, fun _ => ⟨_, 0, rfl, fun i h j hj => by
    obtain rfl : i = 0 := by simpa using h
    rw [cell_of_row _ _ _ _ _ _ hg, show 0 + 32 * 0 + j = j by omega]
    exact arr_get _ _ _ hj⟩⟩
  obtain ⟨v', w', hr, h2, h3⟩ := run_append_ss w base o.type v n xs hown (some ⟨g, 0, none⟩) 1 1 [R] hb rfl hbytes hbase
  unfold Oper.wp execOp
  simp only [ho, resolve, invoke, builtin, Sem.run_bind, Sem.run_pure, Result.andThen_ok, List.map_toArray, List.map_cons, List.map_nil, hs, hx, hr]
  exact h v' w' h2 (own_below hown hbase h3)
end
def OwnS (base n : Nat) (L : List (Nat → Nat)) (v : Value) (w : World) : Prop := w.ownsRow base 34 32 v n (ssv L) ∧ base ≤ w.heap.size
theorem OwnS.later {base n : Nat} {L : List (Nat → Nat)} {v : Value} {w w' : World} (h : OwnS base n L v w) (hb : Below w.heap.size w w') : OwnS base n L v w' := ⟨own_later h.1 hb, Nat.le_trans h.2 hb.size⟩
def Row1 (R : Nat → Nat) (v : Value) (w : World) : Prop := ∃ g, v = .slice (some ⟨g, 0, none⟩) 1 1 ∧ w.heap[g]? = some (.cells (ab 32 R) 34 (0, 0))
theorem Row1.later {R : Nat → Nat} {v : Value} {w w' : World} (h : Row1 R v w) (hb : Below w.heap.size w w') : Row1 R v w' := by
  obtain ⟨g, e, h1⟩ := h
  exact ⟨g, e, (hb.block g (Array.getElem?_eq_some_iff.1 h1).1).trans h1⟩
theorem add1_ne {D : Nat → Bool} {i j : Nat} (h : j ≠ i) : add1 D i j = D j := by unfold add1; rw [if_neg h]
theorem add1_eq {D : Nat → Bool} {i : Nat} : add1 D i i = true := by unfold add1; rw [if_pos rfl]
end Go.Proofs.YtgnmnoadfjdjdaaDoor

namespace Go.Proofs.YtgnmnoadfjdjdaaDoor
open Go.RowKit Go.Maps Sh
section
variable {x u : Operand}
theorem sub_nn {m k : Nat} (h : k ≤ m) (hm : m ≤ 1000000000) (w : World) : (do eqGuard .sub 3 x u (.int .i64 ((m : Nat) : Int)) (.int .i64 ((k : Nat) : Int)); binOp .sub 3 (.int .i64 ((m : Nat) : Int)) (.int .i64 ((k : Nat) : Int))).run Tryd.prog w = .ok (.int .i64 ((m - k : Nat) : Int)) w := by
  have := sb_zn (x := x) (u := u) (m := ((m : Nat) : Int)) (n := ((k : Nat) : Int)) (k := m - k) (by omega) (by omega) w
  exact this
end
def PA5 (b off n cap i N1 B : Nat) (A : List (Nat → Nat)) (R : Nat → Nat) : (Nat → Bool) → Nat → Value → World → Prop
  | _, 0, v, _ => v = .slice (some ⟨b, off, none⟩) n cap
  | _, 1, v, _ => v = .int .i64 ((cut n : Nat) : Int)
  | _, 2, v, _ => v = .slice (some ⟨b, off, none⟩) (cut n) cap
  | _, 3, v, _ => v = .int .i64 ((i : Nat) : Int)
  | D, 4, v, w => D 10 = false → OwnS B N1 A v w
  | _, 5, v, _ => v = .slice (some ⟨b, off, none⟩) n cap
  | _, 6, v, _ => v = .int .i64 ((cut n : Nat) : Int)
  | _, 7, v, _ => v = .slice (some ⟨b, off + 32 * cut n, none⟩) (n - cut n) (cap - cut n)
  | _, 8, v, _ => v = .agg (ab 32 R)
  | D, 9, v, w => D 10 = false → Row1 R v w
  | D, 10, v, w => D 10 = true ∧ OwnS B (N1 + 1) (A ++ [R]) v w
  | D, 11, v, w => D 10 = true ∧ OwnS B (N1 + 1) (A ++ [R]) v w
  | _, _, _, _ => True
def PA5d : Nat → Nat
  | 0 => 15
  | 1 => 16
  | 2 => 17
  | 3 => 18
  | 4 => 19
  | 5 => 20
  | 6 => 21
  | 7 => 22
  | 8 => 23
  | 9 => 24
  | 10 => 25
  | 11 => 4
  | i => 2000 + i
theorem PA5_mono (b off n cap i N1 B : Nat) (A : List (Nat → Nat)) (R : Nat → Nat) {D : Nat → Bool} {ix : Nat} {w w' : World} (hD : D ix = false) (hb : ix ≠ 10 → Below w.heap.size w w') : ∀ (j : Nat) (u : Value), j ≠ ix → PA5 b off n cap i N1 B A R D j u w → PA5 b off n cap i N1 B A R (add1 D ix) j u w'
  | 0, _, _, h => h
  | 1, _, _, h => h
  | 2, _, _, h => h
  | 3, _, _, h => h
  | 4, _, _, h => fun hd => by
    by_cases e : ix = 10
    · subst e; rw [add1_eq] at hd; cases hd
    · rw [add1_ne (fun q => e q.symm)] at hd; exact (h hd).later (hb e)
  | 5, _, _, h => h
  | 6, _, _, h => h
  | 7, _, _, h => h
  | 8, _, _, h => h
  | 9, _, _, h => fun hd => by
    by_cases e : ix = 10
    · subst e; rw [add1_eq] at hd; cases hd
    · rw [add1_ne (fun q => e q.symm)] at hd; exact (h hd).later (hb e)
  | 10, _, _, h => by
    have e : ix ≠ 10 := fun e => by rw [e] at hD; rw [h.1] at hD; cases hD
    exact ⟨by rw [add1_ne (fun q => e q.symm)]; exact h.1, h.2.later (hb e)⟩
  | 11, _, _, h => by
    have e : ix ≠ 10 := fun e => by rw [e] at hD; rw [h.1] at hD; cases hD
    exact ⟨by rw [add1_ne (fun q => e q.symm)]; exact h.1, h.2.later (hb e)⟩
  | _ + 12, _, _, _ => trivial
def PA6 (b off n cap i N1 B : Nat) (A : List (Nat → Nat)) (R : Nat → Nat) : (Nat → Bool) → Nat → Value → World → Prop
  | _, 0, v, _ => v = .slice (some ⟨b, off, none⟩) n cap
  | _, 1, v, _ => v = .int .i64 ((cut n : Nat) : Int)
  | _, 2, v, _ => v = .slice (some ⟨b, off + 32 * cut n, none⟩) (n - cut n) (cap - cut n)
  | _, 3, v, _ => v = .int .i64 ((i : Nat) : Int)
  | _, 4, v, _ => v = .int .i64 ((cut n : Nat) : Int)
  | _, 5, v, _ => v = .int .i64 ((i - cut n : Nat) : Int)
  | D, 6, v, w => D 12 = false → OwnS B N1 A v w
  | _, 7, v, _ => v = .slice (some ⟨b, off, none⟩) n cap
  | _, 8, v, _ => v = .int .i64 ((cut n : Nat) : Int)
  | _, 9, v, _ => v = .slice (some ⟨b, off, none⟩) (cut n) cap
  | _, 10, v, _ => v = .agg (ab 32 R)
  | D, 11, v, w => D 12 = false → Row1 R v w
  | D, 12, v, w => D 12 = true ∧ OwnS B (N1 + 1) (A ++ [R]) v w
  | D, 13, v, w => D 12 = true ∧ OwnS B (N1 + 1) (A ++ [R]) v w
  | _, _, _, _ => True
def PA6d : Nat → Nat
  | 0 => 26
  | 1 => 27
  | 2 => 28
  | 3 => 29
  | 4 => 30
  | 5 => 31
  | 6 => 32
  | 7 => 33
  | 8 => 34
  | 9 => 35
  | 10 => 36
  | 11 => 37
  | 12 => 38
  | 13 => 4
  | i => 2000 + i
theorem PA6_mono (b off n cap i N1 B : Nat) (A : List (Nat → Nat)) (R : Nat → Nat) {D : Nat → Bool} {ix : Nat} {w w' : World} (hD : D ix = false) (hb : ix ≠ 12 → Below w.heap.size w w') : ∀ (j : Nat) (u : Value), j ≠ ix → PA6 b off n cap i N1 B A R D j u w → PA6 b off n cap i N1 B A R (add1 D ix) j u w'
  | 0, _, _, h => h
  | 1, _, _, h => h
  | 2, _, _, h => h
  | 3, _, _, h => h
  | 4, _, _, h => h
  | 5, _, _, h => h
  | 6, _, _, h => fun hd => by
    by_cases e : ix = 12
    · subst e; rw [add1_eq] at hd; cases hd
    · rw [add1_ne (fun q => e q.symm)] at hd; exact (h hd).later (hb e)
  | 7, _, _, h => h
  | 8, _, _, h => h
  | 9, _, _, h => h
  | 10, _, _, h => h
  | 11, _, _, h => fun hd => by
    by_cases e : ix = 12
    · subst e; rw [add1_eq] at hd; cases hd
    · rw [add1_ne (fun q => e q.symm)] at hd; exact (h hd).later (hb e)
  | 12, _, _, h => by
    have e : ix ≠ 12 := fun e => by rw [e] at hD; rw [h.1] at hD; cases hD
    exact ⟨by rw [add1_ne (fun q => e q.symm)]; exact h.1, h.2.later (hb e)⟩
  | 13, _, _, h => by
    have e : ix ≠ 12 := fun e => by rw [e] at hD; rw [h.1] at hD; cases hD
    exact ⟨by rw [add1_ne (fun q => e q.symm)]; exact h.1, h.2.later (hb e)⟩
  | _ + 14, _, _, _ => trivial
set_option maxHeartbeats 4000000 in
set_option maxRecDepth 100000 in
theorem refPath_lo {b off n cap i N1 : Nat} {A : List (Nat → Nat)} {R : Nat → Nat} {W0 : World} (hn : 2 ≤ n) (hm : n ≤ 1000) (hcap : n ≤ cap) (hk : 1 ≤ cut n ∧ cut n < n ∧ n ≤ 2 * cut n) (hN : N1 ≤ 1000) (hRl : ∀ i, R i < 256) (hci : i < cut n) (_hin : i < n)
    (hP : ∀ w, Below W0.heap.size W0 w → Calls Tryd.prog 55 #[.slice (some ⟨b, off, none⟩) (cut n) cap, .int .i64 ((i : Nat) : Int)] w fun e w' => ∃ r, e = .returned r ∧ OwnS W0.heap.size N1 A r w' ∧ Below w.heap.size w w')
    (hR : ∀ w, Below W0.heap.size W0 w → Calls Tryd.prog 15 #[.slice (some ⟨b, off + 32 * cut n, none⟩) (n - cut n) (cap - cut n)] w fun e w' => e = .returned (.agg (ab 32 R)) ∧ Below w.heap.size w w') : Calls Tryd.prog 55 #[.slice (some ⟨b, off, none⟩) n cap, .int .i64 ((i : Nat) : Int)] W0 fun e w' => ∃ r, e = .returned r ∧ OwnS W0.heap.size (N1 + 1) (A ++ [R]) r w' ∧ Below W0.heap.size W0 w' := by
  obtain ⟨hk1, hk2, hk3⟩ := hk
  have h1 : ((n : Int) == 1) = false := by rw [beq_eq_false_iff_ne]; omega
  have hlt : (i : Int) < (cut n : Int) := by omega
  go_enter Tryd.func55, Tryd.ntmps55
  go_wp2_with fail
  refine (cut_kr n (by omega) W0).mono ?_
  rintro e w1 ⟨rfl, hb1⟩
  go_upto_region 5 with fail
  refine wp_rel3 _ _ (PA5 b off n cap i N1 W0.heap.size A R) (fun _ w => Below W0.heap.size W0 w) PA5d (by kernel_rfl) (by kernel_rfl) 12 (by kernel_rfl) ?_ ?_ rfl (hb1.drew) ?_ ?_
  · intro ix o ho
    match ix, ho with
    | 0, ho => obtain rfl := Option.some.inj ho; exact .inl ⟨rfl, by show 15 < 39; decide⟩
    | 1, ho => obtain rfl := Option.some.inj ho; exact .inl ⟨rfl, by show 16 < 39; decide⟩
    | 2, ho => obtain rfl := Option.some.inj ho; exact .inl ⟨rfl, by show 17 < 39; decide⟩
    | 3, ho => obtain rfl := Option.some.inj ho; exact .inl ⟨rfl, by show 18 < 39; decide⟩
    | 4, ho => obtain rfl := Option.some.inj ho; exact .inl ⟨rfl, by show 19 < 39; decide⟩
    | 5, ho => obtain rfl := Option.some.inj ho; exact .inl ⟨rfl, by show 20 < 39; decide⟩
    | 6, ho => obtain rfl := Option.some.inj ho; exact .inl ⟨rfl, by show 21 < 39; decide⟩
    | 7, ho => obtain rfl := Option.some.inj ho; exact .inl ⟨rfl, by show 22 < 39; decide⟩
    | 8, ho => obtain rfl := Option.some.inj ho; exact .inl ⟨rfl, by show 23 < 39; decide⟩
    | 9, ho => obtain rfl := Option.some.inj ho; exact .inl ⟨rfl, by show 24 < 39; decide⟩
    | 10, ho => obtain rfl := Option.some.inj ho; exact .inl ⟨rfl, by show 25 < 39; decide⟩
    | 11, ho => obtain rfl := Option.some.inj ho; exact .inl ⟨rfl, by show 4 < 39; decide⟩
    | _ + 12, ho => exact absurd ho (by simp)
  · intro ix jx hi hj e; unfold PA5d at e; split at e <;> split at e <;> omega
  · intro ix o ho
    match ix, ho with
    | 0, ho =>
      obtain rfl := Option.some.inj ho
      intro D a w hM hsl hdep hDi hcl K hK
      have hp0 : a.tmps.getD 0 undef = .slice (some ⟨b, off, none⟩) n cap := hsl 0 (by intro j hj; unfold PA5d; split <;> omega)
      refine ⟨rfl, ?_⟩
      refine wp_val (w' := w) (v := .slice (some ⟨b, off, none⟩) n cap) (by simp only [execOp, Act.eval]; rw [show a.tmps.getD 0 undef = _ from hp0]; rfl) ?_
      exact hK _ _ rfl hM (PA5_mono b off n cap i N1 W0.heap.size A R hDi (fun _ => (Below.refl _ _)))
    | 1, ho =>
      obtain rfl := Option.some.inj ho
      intro D a w hM hsl hdep hDi hcl K hK
      have hp5 : a.tmps.getD 5 undef = .int .i64 ((cut n : Nat) : Int) := hsl 5 (by intro j hj; unfold PA5d; split <;> omega)
      refine ⟨rfl, ?_⟩
      refine wp_val (w' := w) (v := .int .i64 ((cut n : Nat) : Int)) (by simp only [execOp, Act.eval]; rw [show a.tmps.getD 5 undef = _ from hp5]; rfl) ?_
      exact hK _ _ rfl hM (PA5_mono b off n cap i N1 W0.heap.size A R hDi (fun _ => (Below.refl _ _)))
    | 2, ho =>
      obtain rfl := Option.some.inj ho
      intro D a w hM hsl hdep hDi hcl K hK
      have e0 := (hdep ⟨0, .data⟩ (by simp) rfl).1
      have e1 := (hdep ⟨1, .data⟩ (by simp) rfl).1
      refine ⟨rfl, ?_⟩
      have hl := sl_lo (b := b) (off := off) (n := n) (cap := cap) (k := cut n) (by omega) hcap w
      refine wp_val (w' := w) (v := .slice (some ⟨b, off, none⟩) (cut n) cap) (by simp only [execOp, Act.eval, Option.map_some, Option.map_none]; rw [show a.tmps.getD 15 undef = _ from e0, show a.tmps.getD 16 undef = _ from e1]; simp only [Sem.run_bind, hl, Result.andThen_ok, Sem.run_pure]) ?_
      exact hK _ _ rfl hM (PA5_mono b off n cap i N1 W0.heap.size A R hDi (fun _ => (Below.refl _ _)))
    | 3, ho =>
      obtain rfl := Option.some.inj ho
      intro D a w hM hsl hdep hDi hcl K hK
      have hp1 : a.tmps.getD 1 undef = .int .i64 ((i : Nat) : Int) := hsl 1 (by intro j hj; unfold PA5d; split <;> omega)
      refine ⟨rfl, ?_⟩
      refine wp_val (w' := w) (v := .int .i64 ((i : Nat) : Int)) (by simp only [execOp, Act.eval]; rw [show a.tmps.getD 1 undef = _ from hp1]; rfl) ?_
      exact hK _ _ rfl hM (PA5_mono b off n cap i N1 W0.heap.size A R hDi (fun _ => (Below.refl _ _)))
    | 4, ho =>
      obtain rfl := Option.some.inj ho
      intro D a w hM hsl hdep hDi hcl K hK
      have e2 := (hdep ⟨2, .data⟩ (by simp) rfl).1
      have e3 := (hdep ⟨3, .data⟩ (by simp) rfl).1
      refine ⟨rfl, ?_⟩
      refine oper_any 55 #[.tmp 17, .tmp 18] _ rfl #[.slice (some ⟨b, off, none⟩) (cut n) cap, .int .i64 ((i : Nat) : Int)] (by simp only [List.map_toArray, List.map_cons, List.map_nil, Act.eval]; rw [show a.tmps.getD 17 undef = _ from e2, show a.tmps.getD 18 undef = _ from e3]) (fun w => by kernel_rfl) (hP w hM) fun r w' hj => ?_
      obtain ⟨hr, hb⟩ := hj
      exact hK _ _ (fun _ => hr) (blw hM hb) (PA5_mono b off n cap i N1 W0.heap.size A R hDi (fun _ => hb))
    | 5, ho =>
      obtain rfl := Option.some.inj ho
      intro D a w hM hsl hdep hDi hcl K hK
      have hp0 : a.tmps.getD 0 undef = .slice (some ⟨b, off, none⟩) n cap := hsl 0 (by intro j hj; unfold PA5d; split <;> omega)
      refine ⟨rfl, ?_⟩
      refine wp_val (w' := w) (v := .slice (some ⟨b, off, none⟩) n cap) (by simp only [execOp, Act.eval]; rw [show a.tmps.getD 0 undef = _ from hp0]; rfl) ?_
      exact hK _ _ rfl hM (PA5_mono b off n cap i N1 W0.heap.size A R hDi (fun _ => (Below.refl _ _)))
    | 6, ho =>
      obtain rfl := Option.some.inj ho
      intro D a w hM hsl hdep hDi hcl K hK
      have hp5 : a.tmps.getD 5 undef = .int .i64 ((cut n : Nat) : Int) := hsl 5 (by intro j hj; unfold PA5d; split <;> omega)
      refine ⟨rfl, ?_⟩
      refine wp_val (w' := w) (v := .int .i64 ((cut n : Nat) : Int)) (by simp only [execOp, Act.eval]; rw [show a.tmps.getD 5 undef = _ from hp5]; rfl) ?_
      exact hK _ _ rfl hM (PA5_mono b off n cap i N1 W0.heap.size A R hDi (fun _ => (Below.refl _ _)))
    | 7, ho =>
      obtain rfl := Option.some.inj ho
      intro D a w hM hsl hdep hDi hcl K hK
      have e5 := (hdep ⟨5, .data⟩ (by simp) rfl).1
      have e6 := (hdep ⟨6, .data⟩ (by simp) rfl).1
      refine ⟨rfl, ?_⟩
      have hl := sl_hi (b := b) (off := off) (n := n) (cap := cap) (k := cut n) (by omega) hcap w
      refine wp_val (w' := w) (v := .slice (some ⟨b, off + 32 * cut n, none⟩) (n - cut n) (cap - cut n)) (by simp only [execOp, Act.eval, Option.map_some, Option.map_none]; rw [show a.tmps.getD 20 undef = _ from e5, show a.tmps.getD 21 undef = _ from e6]; simp only [Sem.run_bind, hl, Result.andThen_ok, Sem.run_pure]) ?_
      exact hK _ _ rfl hM (PA5_mono b off n cap i N1 W0.heap.size A R hDi (fun _ => (Below.refl _ _)))
    | 8, ho =>
      obtain rfl := Option.some.inj ho
      intro D a w hM hsl hdep hDi hcl K hK
      have e7 := (hdep ⟨7, .data⟩ (by simp) rfl).1
      refine ⟨rfl, ?_⟩
      refine oper_callg 15 #[.tmp 22] _ rfl #[.slice (some ⟨b, off + 32 * cut n, none⟩) (n - cut n) (cap - cut n)] (by simp only [List.map_toArray, List.map_cons, List.map_nil, Act.eval]; rw [show a.tmps.getD 22 undef = _ from e7]) (fun w => by kernel_rfl) (hR w hM) fun w' hb => ?_
      exact hK _ _ rfl (blw hM hb) (PA5_mono b off n cap i N1 W0.heap.size A R hDi (fun _ => hb))
    | 9, ho =>
      obtain rfl := Option.some.inj ho
      intro D a w hM hsl hdep hDi hcl K hK
      have e8 := (hdep ⟨8, .data⟩ (by simp) rfl).1
      refine ⟨rfl, ?_⟩
      have hl := bs_sum R w
      refine wp_val (w' := w.alloc (.cells (ab 32 R) 34)) (v := .slice (some ⟨w.heap.size, 0, none⟩) 1 1) (by simp only [execOp, Act.eval, List.map_toArray, List.map_cons, List.map_nil]; rw [show a.tmps.getD 23 undef = _ from e8]; simp only [Sem.run_bind, hl, Result.andThen_ok, Sem.run_pure]) ?_
      exact hK _ _ (fun _ => ⟨_, rfl, World.alloc_heap_new w _⟩) (blw hM ((Below.refl _ _).alloc (Nat.le_refl _) _)) (PA5_mono b off n cap i N1 W0.heap.size A R hDi (fun _ => (Below.refl _ _).alloc (Nat.le_refl _) _))
    | 10, ho =>
      obtain rfl := Option.some.inj ho
      intro D a w hM hsl hdep hDi hcl K hK
      have e4 := (hdep ⟨4, .data⟩ (by simp) rfl).1
      have e9 := (hdep ⟨9, .data⟩ (by simp) rfl).1
      refine ⟨rfl, ?_⟩
      have ho := e4 hDi
      obtain ⟨g, eg, hg⟩ := e9 hDi
      refine oper_app (.tmp 19) (.tmp 24) rfl W0.heap.size _ N1 _ rfl ho.1 (show a.tmps.getD 24 undef = _ from eg) hg hRl (by omega) ho.2 fun v' w' ho' hb' => ?_
      exact hK _ _ ⟨add1_eq, by rw [ssv_app]; exact ho', Nat.le_trans ho.2 hb'.size⟩ (hM.trans hb') (PA5_mono b off n cap i N1 W0.heap.size A R hDi (fun h => absurd rfl h))
    | 11, ho =>
      obtain rfl := Option.some.inj ho
      intro D a w hM hsl hdep hDi hcl K hK
      have e10 := (hdep ⟨10, .data⟩ (by simp) rfl).1
      refine ⟨rfl, ?_⟩
      refine wp_val (w' := w) (v := a.tmps.getD 25 undef) (by simp only [execOp, Act.eval]; rfl) ?_
      exact hK _ _ ⟨by rw [add1_ne (by decide)]; exact e10.1, e10.2⟩ hM (PA5_mono b off n cap i N1 W0.heap.size A R hDi (fun _ => (Below.refl _ _)))
    | _ + 12, ho => exact absurd ho (by simp)
  · intro D a u hall hd hs hM hsl hr
    obtain ⟨-, hv⟩ := hr 11 (by decide)
    refine (‹∀ (a : Act) (w : World), Code.wp Tryd.prog Code.ret _ a w → _›) a u ?_
    refine wp_ret ?_
    refine then_ret ?_
    exact s_raw hd (by rw [hs]; show 4 < 39; decide) rfl Tryd.results55 ⟨_, rfl, hv, hM⟩
set_option maxHeartbeats 4000000 in
set_option maxRecDepth 100000 in
theorem refPath_hi {b off n cap i N1 : Nat} {A : List (Nat → Nat)} {R : Nat → Nat} {W0 : World} (hn : 2 ≤ n) (hm : n ≤ 1000) (hcap : n ≤ cap) (hk : 1 ≤ cut n ∧ cut n < n ∧ n ≤ 2 * cut n) (hN : N1 ≤ 1000) (hRl : ∀ i, R i < 256) (hci : cut n ≤ i) (hin : i < n)
    (hP : ∀ w, Below W0.heap.size W0 w → Calls Tryd.prog 55 #[.slice (some ⟨b, off + 32 * cut n, none⟩) (n - cut n) (cap - cut n), .int .i64 ((i - cut n : Nat) : Int)] w fun e w' => ∃ r, e = .returned r ∧ OwnS W0.heap.size N1 A r w' ∧ Below w.heap.size w w')
    (hR : ∀ w, Below W0.heap.size W0 w → Calls Tryd.prog 15 #[.slice (some ⟨b, off, none⟩) (cut n) cap] w fun e w' => e = .returned (.agg (ab 32 R)) ∧ Below w.heap.size w w') : Calls Tryd.prog 55 #[.slice (some ⟨b, off, none⟩) n cap, .int .i64 ((i : Nat) : Int)] W0 fun e w' => ∃ r, e = .returned r ∧ OwnS W0.heap.size (N1 + 1) (A ++ [R]) r w' ∧ Below W0.heap.size W0 w' := by
  obtain ⟨hk1, hk2, hk3⟩ := hk
  have h1 : ((n : Int) == 1) = false := by rw [beq_eq_false_iff_ne]; omega
  have hlt : ¬ (i : Int) < (cut n : Int) := by omega
  go_enter Tryd.func55, Tryd.ntmps55
  go_wp2_with fail
  refine (cut_kr n (by omega) W0).mono ?_
  rintro e w1 ⟨rfl, hb1⟩
  go_upto_region 6 with fail
  refine wp_rel3 _ _ (PA6 b off n cap i N1 W0.heap.size A R) (fun _ w => Below W0.heap.size W0 w) PA6d (by kernel_rfl) (by kernel_rfl) 14 (by kernel_rfl) ?_ ?_ rfl (hb1.drew) ?_ ?_
  · intro ix o ho
    match ix, ho with
    | 0, ho => obtain rfl := Option.some.inj ho; exact .inl ⟨rfl, by show 26 < 39; decide⟩
    | 1, ho => obtain rfl := Option.some.inj ho; exact .inl ⟨rfl, by show 27 < 39; decide⟩
    | 2, ho => obtain rfl := Option.some.inj ho; exact .inl ⟨rfl, by show 28 < 39; decide⟩
    | 3, ho => obtain rfl := Option.some.inj ho; exact .inl ⟨rfl, by show 29 < 39; decide⟩
    | 4, ho => obtain rfl := Option.some.inj ho; exact .inl ⟨rfl, by show 30 < 39; decide⟩
    | 5, ho => obtain rfl := Option.some.inj ho; exact .inl ⟨rfl, by show 31 < 39; decide⟩
    | 6, ho => obtain rfl := Option.some.inj ho; exact .inl ⟨rfl, by show 32 < 39; decide⟩
    | 7, ho => obtain rfl := Option.some.inj ho; exact .inl ⟨rfl, by show 33 < 39; decide⟩
    | 8, ho => obtain rfl := Option.some.inj ho; exact .inl ⟨rfl, by show 34 < 39; decide⟩
    | 9, ho => obtain rfl := Option.some.inj ho; exact .inl ⟨rfl, by show 35 < 39; decide⟩
    | 10, ho => obtain rfl := Option.some.inj ho; exact .inl ⟨rfl, by show 36 < 39; decide⟩
    | 11, ho => obtain rfl := Option.some.inj ho; exact .inl ⟨rfl, by show 37 < 39; decide⟩
    | 12, ho => obtain rfl := Option.some.inj ho; exact .inl ⟨rfl, by show 38 < 39; decide⟩
    | 13, ho => obtain rfl := Option.some.inj ho; exact .inl ⟨rfl, by show 4 < 39; decide⟩
    | _ + 14, ho => exact absurd ho (by simp)
  · intro ix jx hi hj e; unfold PA6d at e; split at e <;> split at e <;> omega
  · intro ix o ho
    match ix, ho with
    | 0, ho =>
      obtain rfl := Option.some.inj ho
      intro D a w hM hsl hdep hDi hcl K hK
      have hp0 : a.tmps.getD 0 undef = .slice (some ⟨b, off, none⟩) n cap := hsl 0 (by intro j hj; unfold PA6d; split <;> omega)
      refine ⟨rfl, ?_⟩
      refine wp_val (w' := w) (v := .slice (some ⟨b, off, none⟩) n cap) (by simp only [execOp, Act.eval]; rw [show a.tmps.getD 0 undef = _ from hp0]; rfl) ?_
      exact hK _ _ rfl hM (PA6_mono b off n cap i N1 W0.heap.size A R hDi (fun _ => (Below.refl _ _)))
    | 1, ho =>
      obtain rfl := Option.some.inj ho
      intro D a w hM hsl hdep hDi hcl K hK
      have hp5 : a.tmps.getD 5 undef = .int .i64 ((cut n : Nat) : Int) := hsl 5 (by intro j hj; unfold PA6d; split <;> omega)
      refine ⟨rfl, ?_⟩
      refine wp_val (w' := w) (v := .int .i64 ((cut n : Nat) : Int)) (by simp only [execOp, Act.eval]; rw [show a.tmps.getD 5 undef = _ from hp5]; rfl) ?_
      exact hK _ _ rfl hM (PA6_mono b off n cap i N1 W0.heap.size A R hDi (fun _ => (Below.refl _ _)))
    | 2, ho =>
      obtain rfl := Option.some.inj ho
      intro D a w hM hsl hdep hDi hcl K hK
      have e0 := (hdep ⟨0, .data⟩ (by simp) rfl).1
      have e1 := (hdep ⟨1, .data⟩ (by simp) rfl).1
      refine ⟨rfl, ?_⟩
      have hl := sl_hi (b := b) (off := off) (n := n) (cap := cap) (k := cut n) (by omega) hcap w
      refine wp_val (w' := w) (v := .slice (some ⟨b, off + 32 * cut n, none⟩) (n - cut n) (cap - cut n)) (by simp only [execOp, Act.eval, Option.map_some, Option.map_none]; rw [show a.tmps.getD 26 undef = _ from e0, show a.tmps.getD 27 undef = _ from e1]; simp only [Sem.run_bind, hl, Result.andThen_ok, Sem.run_pure]) ?_
      exact hK _ _ rfl hM (PA6_mono b off n cap i N1 W0.heap.size A R hDi (fun _ => (Below.refl _ _)))
    | 3, ho =>
      obtain rfl := Option.some.inj ho
      intro D a w hM hsl hdep hDi hcl K hK
      have hp1 : a.tmps.getD 1 undef = .int .i64 ((i : Nat) : Int) := hsl 1 (by intro j hj; unfold PA6d; split <;> omega)
      refine ⟨rfl, ?_⟩
      refine wp_val (w' := w) (v := .int .i64 ((i : Nat) : Int)) (by simp only [execOp, Act.eval]; rw [show a.tmps.getD 1 undef = _ from hp1]; rfl) ?_
      exact hK _ _ rfl hM (PA6_mono b off n cap i N1 W0.heap.size A R hDi (fun _ => (Below.refl _ _)))
    | 4, ho =>
      obtain rfl := Option.some.inj ho
      intro D a w hM hsl hdep hDi hcl K hK
      have hp5 : a.tmps.getD 5 undef = .int .i64 ((cut n : Nat) : Int) := hsl 5 (by intro j hj; unfold PA6d; split <;> omega)
      refine ⟨rfl, ?_⟩
      refine wp_val (w' := w) (v := .int .i64 ((cut n : Nat) : Int)) (by simp only [execOp, Act.eval]; rw [show a.tmps.getD 5 undef = _ from hp5]; rfl) ?_
      exact hK _ _ rfl hM (PA6_mono b off n cap i N1 W0.heap.size A R hDi (fun _ => (Below.refl _ _)))
    | 5, ho =>
      obtain rfl := Option.some.inj ho
      intro D a w hM hsl hdep hDi hcl K hK
      have e3 := (hdep ⟨3, .data⟩ (by simp) rfl).1
      have e4 := (hdep ⟨4, .data⟩ (by simp) rfl).1
      refine ⟨rfl, ?_⟩
      have hl := sub_nn (x := .tmp 29) (u := .tmp 30) hci (by omega) w
      refine wp_val (w' := w) (v := .int .i64 ((i - cut n : Nat) : Int)) (by simp only [execOp, Act.eval]; rw [show a.tmps.getD 29 undef = _ from e3, show a.tmps.getD 30 undef = _ from e4]; simp only [Sem.run_bind, hl, Result.andThen_ok, Sem.run_pure]) ?_
      exact hK _ _ rfl hM (PA6_mono b off n cap i N1 W0.heap.size A R hDi (fun _ => (Below.refl _ _)))
    | 6, ho =>
      obtain rfl := Option.some.inj ho
      intro D a w hM hsl hdep hDi hcl K hK
      have e2 := (hdep ⟨2, .data⟩ (by simp) rfl).1
      have e5 := (hdep ⟨5, .data⟩ (by simp) rfl).1
      refine ⟨rfl, ?_⟩
      refine oper_any 55 #[.tmp 28, .tmp 31] _ rfl #[.slice (some ⟨b, off + 32 * cut n, none⟩) (n - cut n) (cap - cut n), .int .i64 ((i - cut n : Nat) : Int)] (by simp only [List.map_toArray, List.map_cons, List.map_nil, Act.eval]; rw [show a.tmps.getD 28 undef = _ from e2, show a.tmps.getD 31 undef = _ from e5]) (fun w => by kernel_rfl) (hP w hM) fun r w' hj => ?_
      obtain ⟨hr, hb⟩ := hj
      exact hK _ _ (fun _ => hr) (blw hM hb) (PA6_mono b off n cap i N1 W0.heap.size A R hDi (fun _ => hb))
    | 7, ho =>
      obtain rfl := Option.some.inj ho
      intro D a w hM hsl hdep hDi hcl K hK
      have hp0 : a.tmps.getD 0 undef = .slice (some ⟨b, off, none⟩) n cap := hsl 0 (by intro j hj; unfold PA6d; split <;> omega)
      refine ⟨rfl, ?_⟩
      refine wp_val (w' := w) (v := .slice (some ⟨b, off, none⟩) n cap) (by simp only [execOp, Act.eval]; rw [show a.tmps.getD 0 undef = _ from hp0]; rfl) ?_
      exact hK _ _ rfl hM (PA6_mono b off n cap i N1 W0.heap.size A R hDi (fun _ => (Below.refl _ _)))
    | 8, ho =>
      obtain rfl := Option.some.inj ho
      intro D a w hM hsl hdep hDi hcl K hK
      have hp5 : a.tmps.getD 5 undef = .int .i64 ((cut n : Nat) : Int) := hsl 5 (by intro j hj; unfold PA6d; split <;> omega)
      refine ⟨rfl, ?_⟩
      refine wp_val (w' := w) (v := .int .i64 ((cut n : Nat) : Int)) (by simp only [execOp, Act.eval]; rw [show a.tmps.getD 5 undef = _ from hp5]; rfl) ?_
      exact hK _ _ rfl hM (PA6_mono b off n cap i N1 W0.heap.size A R hDi (fun _ => (Below.refl _ _)))
    | 9, ho =>
      obtain rfl := Option.some.inj ho
      intro D a w hM hsl hdep hDi hcl K hK
      have e7 := (hdep ⟨7, .data⟩ (by simp) rfl).1
      have e8 := (hdep ⟨8, .data⟩ (by simp) rfl).1
      refine ⟨rfl, ?_⟩
      have hl := sl_lo (b := b) (off := off) (n := n) (cap := cap) (k := cut n) (by omega) hcap w
      refine wp_val (w' := w) (v := .slice (some ⟨b, off, none⟩) (cut n) cap) (by simp only [execOp, Act.eval, Option.map_some, Option.map_none]; rw [show a.tmps.getD 33 undef = _ from e7, show a.tmps.getD 34 undef = _ from e8]; simp only [Sem.run_bind, hl, Result.andThen_ok, Sem.run_pure]) ?_
      exact hK _ _ rfl hM (PA6_mono b off n cap i N1 W0.heap.size A R hDi (fun _ => (Below.refl _ _)))
    | 10, ho =>
      obtain rfl := Option.some.inj ho
      intro D a w hM hsl hdep hDi hcl K hK
      have e9 := (hdep ⟨9, .data⟩ (by simp) rfl).1
      refine ⟨rfl, ?_⟩
      refine oper_callg 15 #[.tmp 35] _ rfl #[.slice (some ⟨b, off, none⟩) (cut n) cap] (by simp only [List.map_toArray, List.map_cons, List.map_nil, Act.eval]; rw [show a.tmps.getD 35 undef = _ from e9]) (fun w => by kernel_rfl) (hR w hM) fun w' hb => ?_
      exact hK _ _ rfl (blw hM hb) (PA6_mono b off n cap i N1 W0.heap.size A R hDi (fun _ => hb))
    | 11, ho =>
      obtain rfl := Option.some.inj ho
      intro D a w hM hsl hdep hDi hcl K hK
      have e10 := (hdep ⟨10, .data⟩ (by simp) rfl).1
      refine ⟨rfl, ?_⟩
      have hl := bs_sum R w
      refine wp_val (w' := w.alloc (.cells (ab 32 R) 34)) (v := .slice (some ⟨w.heap.size, 0, none⟩) 1 1) (by simp only [execOp, Act.eval, List.map_toArray, List.map_cons, List.map_nil]; rw [show a.tmps.getD 36 undef = _ from e10]; simp only [Sem.run_bind, hl, Result.andThen_ok, Sem.run_pure]) ?_
      exact hK _ _ (fun _ => ⟨_, rfl, World.alloc_heap_new w _⟩) (blw hM ((Below.refl _ _).alloc (Nat.le_refl _) _)) (PA6_mono b off n cap i N1 W0.heap.size A R hDi (fun _ => (Below.refl _ _).alloc (Nat.le_refl _) _))
    | 12, ho =>
      obtain rfl := Option.some.inj ho
      intro D a w hM hsl hdep hDi hcl K hK
      have e6 := (hdep ⟨6, .data⟩ (by simp) rfl).1
      have e11 := (hdep ⟨11, .data⟩ (by simp) rfl).1
      refine ⟨rfl, ?_⟩
      have ho := e6 hDi
      obtain ⟨g, eg, hg⟩ := e11 hDi
      refine oper_app (.tmp 32) (.tmp 37) rfl W0.heap.size _ N1 _ rfl ho.1 (show a.tmps.getD 37 undef = _ from eg) hg hRl (by omega) ho.2 fun v' w' ho' hb' => ?_
      exact hK _ _ ⟨add1_eq, by rw [ssv_app]; exact ho', Nat.le_trans ho.2 hb'.size⟩ (hM.trans hb') (PA6_mono b off n cap i N1 W0.heap.size A R hDi (fun h => absurd rfl h))
    | 13, ho =>
      obtain rfl := Option.some.inj ho
      intro D a w hM hsl hdep hDi hcl K hK
      have e12 := (hdep ⟨12, .data⟩ (by simp) rfl).1
      refine ⟨rfl, ?_⟩
      refine wp_val (w' := w) (v := a.tmps.getD 38 undef) (by simp only [execOp, Act.eval]; rfl) ?_
      exact hK _ _ ⟨by rw [add1_ne (by decide)]; exact e12.1, e12.2⟩ hM (PA6_mono b off n cap i N1 W0.heap.size A R hDi (fun _ => (Below.refl _ _)))
    | _ + 14, ho => exact absurd ho (by simp)
  · intro D a u hall hd hs hM hsl hr
    obtain ⟨-, hv⟩ := hr 13 (by decide)
    refine (‹∀ (a : Act) (w : World), Code.wp Tryd.prog Code.ret _ a w → _›) a u ?_
    refine wp_ret ?_
    exact s_raw hd (by rw [hs]; show 4 < 39; decide) rfl Tryd.results55 ⟨_, rfl, hv, hM⟩
theorem refPath_d : ∀ (n i : Nat) (L : List (Nat → Nat)) (a : Option Addr) (cap : Nat) (W0 : World), L.length = n → i < n → n ≤ 1000 → SsAt W0 a L → n ≤ cap → Calls Tryd.prog 55 #[.slice a n cap, .int .i64 ((i : Nat) : Int)] W0 fun e w' => ∃ r, e = .returned r ∧ OwnS W0.heap.size (way i n).length (asl L (way i n)) r w' ∧ Below W0.heap.size W0 w' := by
  intro n
  induction n using Nat.strongRecOn with
  | ind n ih =>
    intro i L a cap W0 hL hi hm hs hcap
    rcases Nat.lt_or_ge n 2 with h2 | h2
    · obtain rfl : n = 1 := by omega
      obtain rfl : i = 0 := by omega
      rw [way_1]
      go_enter Tryd.func55, Tryd.ntmps55
      go_wp2
      go_ret
      exact ⟨_, rfl, ⟨World.ownsRow_nil _ _ _ _, Nat.le_refl _⟩, Below.refl _ _⟩
    · obtain ⟨b, off, rfl, hc⟩ := hs.2 (by omega)
      have hk := cut_in h2
      have l1 : (L.take (cut n)).length = cut n := by rw [List.length_take]; omega
      have l2 : (L.drop (cut n)).length = n - cut n := by rw [List.length_drop]; omega
      have b1 := root_lt _ (L.take (cut n)) rfl (fun F hF => hs.1 F (List.mem_of_mem_take hF))
      have b2 := root_lt _ (L.drop (cut n)) rfl (fun F hF => hs.1 F (List.mem_of_mem_drop hF))
      rcases Nat.lt_or_ge i (cut n) with h | h
      · rw [asl_lo hL h2 h, way_len_lo h2 h, Nat.add_comm 1]
        exact refPath_lo h2 hm hcap hk (by have := way_le i (cut n); omega) b2 h hi (fun w hw => (ih (cut n) hk.2.1 i (L.take (cut n)) _ cap w l1 h (by omega) (hs.lo.later hw) (by omega)).mono fun e w' ⟨r, e1, h1, h2⟩ => ⟨r, e1, ⟨own_weak h1.1 hw.size, Nat.le_trans hw.size h2.size⟩, h2⟩)
          (fun w hw => root_r (n - cut n) (L.drop (cut n)) _ (cap - cut n) w l2 (by omega) (hs.hi.later hw) (by omega))
      · rw [asl_hi h2 h, way_len_hi h2 h, Nat.add_comm 1]
        exact refPath_hi h2 hm hcap hk (by have := way_le (i - cut n) (n - cut n); omega) b1 h hi (fun w hw => (ih (n - cut n) (by omega) (i - cut n) (L.drop (cut n)) _ (cap - cut n) w l2 (by omega) (by omega) (hs.hi.later hw) (by omega)).mono fun e w' ⟨r, e1, h1, h2⟩ => ⟨r, e1, ⟨own_weak h1.1 hw.size, Nat.le_trans hw.size h2.size⟩, h2⟩)
          (fun w hw => root_r (cut n) (L.take (cut n)) _ cap w l1 (by omega) (hs.lo.later hw) (by omega))
end Go.Proofs.YtgnmnoadfjdjdaaDoor

namespace Go.Proofs.YtgnmnoadfjdjdaaDoor
open Go.RowKit Sh

theorem wayN_top {q i f e : Nat} (h : f + 1 < e) : ∃ r, wayN (q + 1) i f e = ⟨f, f + cut (e - f), e, decide (f + cut (e - f) ≤ i)⟩ :: r := ⟨_, wayN_s h⟩
theorem ahead_eq {n : Nat} (hn : 1 ≤ n) : aheadL n n = [] := by
  unfold aheadL
  rcases Nat.lt_or_ge n 2 with h | h
  · obtain rfl : n = 1 := by omega
    rw [way_1]; rfl
  · rcases Nat.lt_or_ge (n - 1) (cut n) with h1 | h1
    · rw [way_lo h h1, List.takeWhile_cons]; simp
    · rw [way_hi h h1, List.takeWhile_cons]; simp
theorem ahead_lo {m n : Nat} (hm : 1 ≤ m) (hn : 2 ≤ n) (h : m ≤ cut n) : aheadL m n = ⟨0, cut n, n, false⟩ :: aheadL m (cut n) := by
  have hc := cut_in hn
  unfold aheadL
  rw [way_lo hn (by omega), List.takeWhile_cons]
  rw [if_pos (by simp; omega)]
theorem tw_map (s : Nat) (p q : Cu → Bool) (h : ∀ c, p (sh s c) = q c) : ∀ xs : List Cu, (xs.map (sh s)).takeWhile p = (xs.takeWhile q).map (sh s)
  | [] => rfl
  | c :: xs => by
    rw [List.map_cons, List.takeWhile_cons, List.takeWhile_cons, h c]
    cases q c
    · rfl
    · simp only [if_true, List.map_cons]; rw [tw_map s p q h xs]
theorem ahead_hi {m n : Nat} (hmn : m < n) (hn : 2 ≤ n) (h : cut n < m) : aheadL m n = ⟨0, cut n, n, true⟩ :: (aheadL (m - cut n) (n - cut n)).map (sh (cut n)) := by
  have hc := cut_in hn
  unfold aheadL
  rw [way_hi hn (by omega), List.takeWhile_cons, if_pos (by simp; omega), show m - 1 - cut n = m - cut n - 1 by omega]
  congr 1
  refine tw_map _ _ _ (fun c => ?_) _
  show (!(c.e + cut n == m)) = !(c.e == m - cut n)
  congr 1
  rw [Bool.eq_iff_iff, beq_iff_eq, beq_iff_eq]
  omega
/-- Where the part begins, from s on. -/
def stG (s : Nat) (xs : List Cu) : Nat := xs.foldl (fun s c => if c.r then c.a else s) s
theorem stG_sh (k : Nat) : ∀ (xs : List Cu) (s : Nat), stG (s + k) (xs.map (sh k)) = stG s xs + k
  | [], _ => rfl
  | c :: xs, s => by
    show stG (if c.r then c.a + k else s + k) (xs.map (sh k)) = stG (if c.r then c.a else s) xs + k
    cases c.r
    · exact stG_sh k xs s
    · exact stG_sh k xs c.a
theorem st_eq {n : Nat} (hn : 1 ≤ n) : stF (aheadL n n) = 0 := by rw [ahead_eq hn]; rfl
theorem st_lo {m n : Nat} (hm : 1 ≤ m) (hn : 2 ≤ n) (h : m ≤ cut n) : stF (aheadL m n) = stF (aheadL m (cut n)) := by rw [ahead_lo hm hn h]; rfl
theorem st_hi {m n : Nat} (hmn : m < n) (hn : 2 ≤ n) (h : cut n < m) : stF (aheadL m n) = stF (aheadL (m - cut n) (n - cut n)) + cut n := by
  rw [ahead_hi hmn hn h]
  show stG (cut n) _ = _
  have := stG_sh (cut n) (aheadL (m - cut n) (n - cut n)) 0
  rw [Nat.zero_add] at this
  exact this
/-- The proof that the first m are the beginning. -/
def beg (L : List (Nat → Nat)) (m n : Nat) (all : Bool) : List (Nat → Nat) := (if all && decide (stF (aheadL m n) = 0) then [] else [root (part L (stF (aheadL m n)) m)]) ++ asl L (aheadL m n)
theorem beg_eq {L : List (Nat → Nat)} {n : Nat} (hL : L.length = n) (hn : 1 ≤ n) (all : Bool) : beg L n n all = if all then [] else [root L] := by
  unfold beg
  rw [st_eq hn, ahead_eq hn]
  have : part L 0 n = L := by unfold part; rw [List.take_of_length_le (by omega)]; rfl
  rw [this]
  cases all <;> rfl
theorem st_lt : ∀ (n m : Nat), 1 ≤ m → m ≤ n → stF (aheadL m n) < m := by
  intro n
  induction n using Nat.strongRecOn with
  | ind n ih =>
    intro m hm hmn
    rcases Nat.lt_or_ge m n with h | h
    · have hc := cut_in (n := n) (by omega)
      rcases Nat.lt_or_ge (cut n) m with h1 | h1
      · rw [st_hi h (by omega) h1]
        have := ih (n - cut n) (by omega) (m - cut n) (by omega) (by omega)
        omega
      · rw [st_lo hm (by omega) h1]
        exact ih (cut n) hc.2.1 m hm h1
    · obtain rfl : m = n := by omega
      rw [st_eq hm]; omega
theorem beg_lo {L : List (Nat → Nat)} {m n : Nat} (hL : L.length = n) (hm : 1 ≤ m) (hn : 2 ≤ n) (h : m ≤ cut n) (all : Bool) : beg L m n all = beg (L.take (cut n)) m (cut n) all ++ [root (L.drop (cut n))] := by
  have hc := cut_in hn
  unfold beg
  rw [st_lo hm hn h, part_lo h, ahead_lo hm hn h, asl_cons, ← List.append_assoc]
  congr 1
  · congr 1
    unfold asl
    exact List.map_congr_left fun c hc' => (asd_lo (ahead_ok m (cut n) c (List.mem_reverse.1 hc'))).symm
  · unfold asd part
    simp only [Bool.false_eq_true, if_false]
    rw [List.take_of_length_le (by omega)]
theorem beg_hi {L : List (Nat → Nat)} {m n : Nat} (hmn : m < n) (hn : 2 ≤ n) (h : cut n < m) (all : Bool) : beg L m n all = beg (L.drop (cut n)) (m - cut n) (n - cut n) false ++ [root (L.take (cut n))] := by
  have hc := cut_in hn
  unfold beg
  rw [st_hi hmn hn h, ahead_hi hmn hn h, asl_cons, asl_map, ← List.append_assoc]
  have hp : part L (stF (aheadL (m - cut n) (n - cut n)) + cut n) m = part (L.drop (cut n)) (stF (aheadL (m - cut n) (n - cut n))) (m - cut n) := by
    rw [← part_sh, show m - cut n + cut n = m by omega]
  rw [hp]
  congr 1
  congr 1
  rw [decide_eq_false (by omega : ¬ stF (aheadL (m - cut n) (n - cut n)) + cut n = 0)]
  cases all <;> rfl
end Go.Proofs.YtgnmnoadfjdjdaaDoor

namespace Go.Proofs.YtgnmnoadfjdjdaaDoor
open Go.RowKit Sh

theorem cut_same {m n : Nat} (h : cut n < m) (hn : 2 ≤ n) (hmn : m ≤ n) : cut m = cut n := by
  have hc := cut_in hn
  have he : cut n = 2 ^ (n - 1).log2 := if_neg (by omega)
  rw [he] at h hc ⊢
  exact cut_of h (by omega)
/-- What the first m come to: cuts on whose left side the way goes on are left out. -/
def firstL : List Cu → List (Nat → Nat) → (Nat → Nat) → (Nat → Nat)
  | c :: cs, p :: ps, F => firstL cs ps (if c.r then jn c.r F p else F)
  | _, _, F => F
theorem firstL_snoc : ∀ (cs : List Cu) (ps : List (Nat → Nat)) (F : Nat → Nat) (c : Cu) (p : Nat → Nat), cs.length = ps.length → firstL (cs ++ [c]) (ps ++ [p]) F = if c.r then jn c.r (firstL cs ps F) p else firstL cs ps F
  | [], [], F, c, p, _ => rfl
  | c' :: cs, p' :: ps, F, c, p, h => firstL_snoc cs ps _ c p (by simpa using h)
  | [], _ :: _, _, _, _, h => by simp at h
  | _ :: _, [], _, _, _, h => by simp at h
theorem firstL_map (s : Nat) : ∀ (cs : List Cu) (ps : List (Nat → Nat)) (F : Nat → Nat), firstL (cs.map (sh s)) ps F = firstL cs ps F
  | [], [], _ => rfl
  | [], _ :: _, _ => rfl
  | _ :: _, [], _ => rfl
  | c :: cs, p :: ps, F => firstL_map s cs ps (if c.r then jn c.r F p else F)
theorem all_lo {m n : Nat} {ps : List (Nat → Nat)} {p F : Nat → Nat} (hm : 1 ≤ m) (hn : 2 ≤ n) (h : m ≤ cut n) (hl : ps.length = (aheadL m (cut n)).length) : comeL (aheadL m n).reverse (ps ++ [p]) F = nd (comeL (aheadL m (cut n)).reverse ps F) p := by
  rw [ahead_lo hm hn h, List.reverse_cons, comeL_snoc _ _ _ _ _ (by rw [List.length_reverse]; exact hl.symm)]; rfl
theorem all_hi {m n : Nat} {ps : List (Nat → Nat)} {p F : Nat → Nat} (hmn : m < n) (hn : 2 ≤ n) (h : cut n < m) (hl : ps.length = (aheadL (m - cut n) (n - cut n)).length) : comeL (aheadL m n).reverse (ps ++ [p]) F = nd p (comeL (aheadL (m - cut n) (n - cut n)).reverse ps F) := by
  rw [ahead_hi hmn hn h, List.reverse_cons, comeL_snoc _ _ _ _ _ (by rw [List.length_reverse, List.length_map]; exact hl.symm), ← List.map_reverse, comeL_map]; rfl
theorem fst_lo {m n : Nat} {ps : List (Nat → Nat)} {p F : Nat → Nat} (hm : 1 ≤ m) (hn : 2 ≤ n) (h : m ≤ cut n) (hl : ps.length = (aheadL m (cut n)).length) : firstL (aheadL m n).reverse (ps ++ [p]) F = firstL (aheadL m (cut n)).reverse ps F := by
  rw [ahead_lo hm hn h, List.reverse_cons, firstL_snoc _ _ _ _ _ (by rw [List.length_reverse]; exact hl.symm)]; rfl
theorem fst_hi {m n : Nat} {ps : List (Nat → Nat)} {p F : Nat → Nat} (hmn : m < n) (hn : 2 ≤ n) (h : cut n < m) (hl : ps.length = (aheadL (m - cut n) (n - cut n)).length) : firstL (aheadL m n).reverse (ps ++ [p]) F = nd p (firstL (aheadL (m - cut n) (n - cut n)).reverse ps F) := by
  rw [ahead_hi hmn hn h, List.reverse_cons, firstL_snoc _ _ _ _ _ (by rw [List.length_reverse, List.length_map]; exact hl.symm), ← List.map_reverse, firstL_map]; rfl
/-- What the proof leaves out, or begins with. -/
def pt0 (L : List (Nat → Nat)) (m n : Nat) : Nat → Nat := root (part L (stF (aheadL m n)) m)
theorem pt0_lo {L : List (Nat → Nat)} {m n : Nat} (hm : 1 ≤ m) (hn : 2 ≤ n) (h : m ≤ cut n) : pt0 L m n = pt0 (L.take (cut n)) m (cut n) := by
  unfold pt0; rw [st_lo hm hn h, part_lo h]
theorem pt0_hi {L : List (Nat → Nat)} {m n : Nat} (hmn : m < n) (hn : 2 ≤ n) (h : cut n < m) : pt0 L m n = pt0 (L.drop (cut n)) (m - cut n) (n - cut n) := by
  unfold pt0
  rw [st_hi hmn hn h, ← part_sh, show m - cut n + cut n = m by omega]
theorem aslA_lo {L : List (Nat → Nat)} {m n : Nat} (hL : L.length = n) (hm : 1 ≤ m) (hn : 2 ≤ n) (h : m ≤ cut n) : asl L (aheadL m n) = asl (L.take (cut n)) (aheadL m (cut n)) ++ [root (L.drop (cut n))] := by
  have hc := cut_in hn
  rw [ahead_lo hm hn h, asl_cons]
  congr 1
  · unfold asl
    exact List.map_congr_left fun c hc' => (asd_lo (ahead_ok m (cut n) c (List.mem_reverse.1 hc'))).symm
  · unfold asd part
    simp only [Bool.false_eq_true, if_false]
    rw [List.take_of_length_le (by omega)]
theorem aslA_hi {L : List (Nat → Nat)} {m n : Nat} (hmn : m < n) (hn : 2 ≤ n) (h : cut n < m) : asl L (aheadL m n) = asl (L.drop (cut n)) (aheadL (m - cut n) (n - cut n)) ++ [root (L.take (cut n))] := by
  rw [ahead_hi hmn hn h, asl_cons, asl_map]
  congr 1
theorem both_root : ∀ (n m : Nat) (L : List (Nat → Nat)), L.length = n → 1 ≤ m → m ≤ n →
    comeL (aheadL m n).reverse (asl L (aheadL m n)) (pt0 L m n) = root L ∧ firstL (aheadL m n).reverse (asl L (aheadL m n)) (pt0 L m n) = root (L.take m) := by
  intro n
  induction n using Nat.strongRecOn with
  | ind n ih =>
    intro m L hL hm hmn
    rcases Nat.lt_or_ge m n with hlt | hge
    · have h2 : 2 ≤ n := by omega
      have hc := cut_in h2
      rcases Nat.lt_or_ge (cut n) m with h | h
      · obtain ⟨i1, i2⟩ := ih (n - cut n) (by omega) (m - cut n) (L.drop (cut n)) (by rw [List.length_drop]; omega) (by omega) (by omega)
        rw [aslA_hi hlt h2 h, all_hi hlt h2 h (by rw [asl_len]), fst_hi hlt h2 h (by rw [asl_len]), pt0_hi hlt h2 h, i1, i2]
        refine ⟨by rw [root_n (l := L) (by omega), hL], ?_⟩
        have hlm : (L.take m).length = m := by rw [List.length_take]; omega
        rw [root_n (l := L.take m) (by omega), hlm, cut_same h h2 hmn, List.take_take, Nat.min_eq_left (by omega), List.take_drop, show cut n + (m - cut n) = m by omega]
      · obtain ⟨i1, i2⟩ := ih (cut n) hc.2.1 m (L.take (cut n)) (by rw [List.length_take]; omega) hm h
        rw [aslA_lo hL hm h2 h, all_lo hm h2 h (by rw [asl_len]), fst_lo hm h2 h (by rw [asl_len]), pt0_lo hm h2 h, i1, i2]
        refine ⟨by rw [root_n (l := L) (by omega), hL], by rw [List.take_take, Nat.min_eq_left h]⟩
    · obtain rfl : m = n := by omega
      have hp : pt0 L m m = root L := by
        unfold pt0; rw [st_eq hm]
        have : part L 0 m = L := by unfold part; rw [List.take_of_length_le (by omega)]; rfl
        rw [this]
      rw [ahead_eq hm, hp, List.take_of_length_le (by omega)]
      exact ⟨rfl, rfl⟩
end Go.Proofs.YtgnmnoadfjdjdaaDoor

namespace Go.Proofs.YtgnmnoadfjdjdaaDoor
open Go.RowKit Go.Maps Sh
def PP8 (b off n cap i N1 B : Nat) (al : Bool) (A : List (Nat → Nat)) (R : Nat → Nat) : (Nat → Bool) → Nat → Value → World → Prop
  | _, 0, v, _ => v = .slice (some ⟨b, off, none⟩) n cap
  | _, 1, v, _ => v = .int .i64 ((cut n : Nat) : Int)
  | _, 2, v, _ => v = .slice (some ⟨b, off, none⟩) (cut n) cap
  | _, 3, v, _ => v = .int .i64 ((i : Nat) : Int)
  | _, 4, v, _ => v = .bool al
  | D, 5, v, w => D 11 = false → OwnS B N1 A v w
  | _, 6, v, _ => v = .slice (some ⟨b, off, none⟩) n cap
  | _, 7, v, _ => v = .int .i64 ((cut n : Nat) : Int)
  | _, 8, v, _ => v = .slice (some ⟨b, off + 32 * cut n, none⟩) (n - cut n) (cap - cut n)
  | _, 9, v, _ => v = .agg (ab 32 R)
  | D, 10, v, w => D 11 = false → Row1 R v w
  | D, 11, v, w => D 11 = true ∧ OwnS B (N1 + 1) (A ++ [R]) v w
  | D, 12, v, w => D 11 = true ∧ OwnS B (N1 + 1) (A ++ [R]) v w
  | _, _, _, _ => True
def PP8d : Nat → Nat
  | 0 => 23
  | 1 => 24
  | 2 => 25
  | 3 => 26
  | 4 => 27
  | 5 => 28
  | 6 => 29
  | 7 => 30
  | 8 => 31
  | 9 => 32
  | 10 => 33
  | 11 => 34
  | 12 => 6
  | i => 2000 + i
theorem PP8_mono (b off n cap i N1 B : Nat) (al : Bool) (A : List (Nat → Nat)) (R : Nat → Nat) {D : Nat → Bool} {ix : Nat} {w w' : World} (hD : D ix = false) (hb : ix ≠ 11 → Below w.heap.size w w') : ∀ (j : Nat) (u : Value), j ≠ ix → PP8 b off n cap i N1 B al A R D j u w → PP8 b off n cap i N1 B al A R (add1 D ix) j u w'
  | 0, _, _, h => h
  | 1, _, _, h => h
  | 2, _, _, h => h
  | 3, _, _, h => h
  | 4, _, _, h => h
  | 5, _, _, h => fun hd => by
    by_cases e : ix = 11
    · subst e; rw [add1_eq] at hd; cases hd
    · rw [add1_ne (fun q => e q.symm)] at hd; exact (h hd).later (hb e)
  | 6, _, _, h => h
  | 7, _, _, h => h
  | 8, _, _, h => h
  | 9, _, _, h => h
  | 10, _, _, h => fun hd => by
    by_cases e : ix = 11
    · subst e; rw [add1_eq] at hd; cases hd
    · rw [add1_ne (fun q => e q.symm)] at hd; exact (h hd).later (hb e)
  | 11, _, _, h => by
    have e : ix ≠ 11 := fun e => by rw [e] at hD; rw [h.1] at hD; cases hD
    exact ⟨by rw [add1_ne (fun q => e q.symm)]; exact h.1, h.2.later (hb e)⟩
  | 12, _, _, h => by
    have e : ix ≠ 11 := fun e => by rw [e] at hD; rw [h.1] at hD; cases hD
    exact ⟨by rw [add1_ne (fun q => e q.symm)]; exact h.1, h.2.later (hb e)⟩
  | _ + 13, _, _, _ => trivial
def PP9 (b off n cap i N1 B : Nat) (A : List (Nat → Nat)) (R : Nat → Nat) : (Nat → Bool) → Nat → Value → World → Prop
  | _, 0, v, _ => v = .slice (some ⟨b, off, none⟩) n cap
  | _, 1, v, _ => v = .int .i64 ((cut n : Nat) : Int)
  | _, 2, v, _ => v = .slice (some ⟨b, off + 32 * cut n, none⟩) (n - cut n) (cap - cut n)
  | _, 3, v, _ => v = .int .i64 ((i : Nat) : Int)
  | _, 4, v, _ => v = .int .i64 ((cut n : Nat) : Int)
  | _, 5, v, _ => v = .int .i64 ((i - cut n : Nat) : Int)
  | D, 6, v, w => D 12 = false → OwnS B N1 A v w
  | _, 7, v, _ => v = .slice (some ⟨b, off, none⟩) n cap
  | _, 8, v, _ => v = .int .i64 ((cut n : Nat) : Int)
  | _, 9, v, _ => v = .slice (some ⟨b, off, none⟩) (cut n) cap
  | _, 10, v, _ => v = .agg (ab 32 R)
  | D, 11, v, w => D 12 = false → Row1 R v w
  | D, 12, v, w => D 12 = true ∧ OwnS B (N1 + 1) (A ++ [R]) v w
  | D, 13, v, w => D 12 = true ∧ OwnS B (N1 + 1) (A ++ [R]) v w
  | _, _, _, _ => True
def PP9d : Nat → Nat
  | 0 => 35
  | 1 => 36
  | 2 => 37
  | 3 => 38
  | 4 => 39
  | 5 => 40
  | 6 => 41
  | 7 => 42
  | 8 => 43
  | 9 => 44
  | 10 => 45
  | 11 => 46
  | 12 => 47
  | 13 => 6
  | i => 2000 + i
theorem PP9_mono (b off n cap i N1 B : Nat) (A : List (Nat → Nat)) (R : Nat → Nat) {D : Nat → Bool} {ix : Nat} {w w' : World} (hD : D ix = false) (hb : ix ≠ 12 → Below w.heap.size w w') : ∀ (j : Nat) (u : Value), j ≠ ix → PP9 b off n cap i N1 B A R D j u w → PP9 b off n cap i N1 B A R (add1 D ix) j u w'
  | 0, _, _, h => h
  | 1, _, _, h => h
  | 2, _, _, h => h
  | 3, _, _, h => h
  | 4, _, _, h => h
  | 5, _, _, h => h
  | 6, _, _, h => fun hd => by
    by_cases e : ix = 12
    · subst e; rw [add1_eq] at hd; cases hd
    · rw [add1_ne (fun q => e q.symm)] at hd; exact (h hd).later (hb e)
  | 7, _, _, h => h
  | 8, _, _, h => h
  | 9, _, _, h => h
  | 10, _, _, h => h
  | 11, _, _, h => fun hd => by
    by_cases e : ix = 12
    · subst e; rw [add1_eq] at hd; cases hd
    · rw [add1_ne (fun q => e q.symm)] at hd; exact (h hd).later (hb e)
  | 12, _, _, h => by
    have e : ix ≠ 12 := fun e => by rw [e] at hD; rw [h.1] at hD; cases hD
    exact ⟨by rw [add1_ne (fun q => e q.symm)]; exact h.1, h.2.later (hb e)⟩
  | 13, _, _, h => by
    have e : ix ≠ 12 := fun e => by rw [e] at hD; rw [h.1] at hD; cases hD
    exact ⟨by rw [add1_ne (fun q => e q.symm)]; exact h.1, h.2.later (hb e)⟩
  | _ + 14, _, _, _ => trivial
set_option maxHeartbeats 4000000 in
set_option maxRecDepth 100000 in
theorem refProve_lo {b off n cap i N1 : Nat} {al : Bool} {A : List (Nat → Nat)} {R : Nat → Nat} {W0 : World} (hn : 2 ≤ n) (hm : n ≤ 1000) (hcap : n ≤ cap) (hk : 1 ≤ cut n ∧ cut n < n ∧ n ≤ 2 * cut n) (hN : N1 ≤ 1000) (hRl : ∀ i, R i < 256) (hci : i ≤ cut n) (_hin : i < n) (_hcj : i ≤ cut n)
    (hP : ∀ w, Below W0.heap.size W0 w → Calls Tryd.prog 39 #[.slice (some ⟨b, off, none⟩) (cut n) cap, .int .i64 ((i : Nat) : Int), .bool al] w fun e w' => ∃ r, e = .returned r ∧ OwnS W0.heap.size N1 A r w' ∧ Below w.heap.size w w')
    (hR : ∀ w, Below W0.heap.size W0 w → Calls Tryd.prog 15 #[.slice (some ⟨b, off + 32 * cut n, none⟩) (n - cut n) (cap - cut n)] w fun e w' => e = .returned (.agg (ab 32 R)) ∧ Below w.heap.size w w') : Calls Tryd.prog 39 #[.slice (some ⟨b, off, none⟩) n cap, .int .i64 ((i : Nat) : Int), .bool al] W0 fun e w' => ∃ r, e = .returned r ∧ OwnS W0.heap.size (N1 + 1) (A ++ [R]) r w' ∧ Below W0.heap.size W0 w' := by
  obtain ⟨hk1, hk2, hk3⟩ := hk
  have h1 : ((i : Int) == (n : Int)) = false := by rw [beq_eq_false_iff_ne]; omega
  have hlt : (i : Int) ≤ (cut n : Int) := by omega
  go_enter Tryd.func39, Tryd.ntmps39
  go_wp2_with fail
  refine (cut_kr n (by omega) W0).mono ?_
  rintro e w1 ⟨rfl, hb1⟩
  go_upto_region 8 with fail
  refine wp_rel3 _ _ (PP8 b off n cap i N1 W0.heap.size al A R) (fun _ w => Below W0.heap.size W0 w) PP8d (by kernel_rfl) (by kernel_rfl) 13 (by kernel_rfl) ?_ ?_ rfl (hb1.drew) ?_ ?_
  · intro ix o ho
    match ix, ho with
    | 0, ho => obtain rfl := Option.some.inj ho; exact .inl ⟨rfl, by show 23 < 48; decide⟩
    | 1, ho => obtain rfl := Option.some.inj ho; exact .inl ⟨rfl, by show 24 < 48; decide⟩
    | 2, ho => obtain rfl := Option.some.inj ho; exact .inl ⟨rfl, by show 25 < 48; decide⟩
    | 3, ho => obtain rfl := Option.some.inj ho; exact .inl ⟨rfl, by show 26 < 48; decide⟩
    | 4, ho => obtain rfl := Option.some.inj ho; exact .inl ⟨rfl, by show 27 < 48; decide⟩
    | 5, ho => obtain rfl := Option.some.inj ho; exact .inl ⟨rfl, by show 28 < 48; decide⟩
    | 6, ho => obtain rfl := Option.some.inj ho; exact .inl ⟨rfl, by show 29 < 48; decide⟩
    | 7, ho => obtain rfl := Option.some.inj ho; exact .inl ⟨rfl, by show 30 < 48; decide⟩
    | 8, ho => obtain rfl := Option.some.inj ho; exact .inl ⟨rfl, by show 31 < 48; decide⟩
    | 9, ho => obtain rfl := Option.some.inj ho; exact .inl ⟨rfl, by show 32 < 48; decide⟩
    | 10, ho => obtain rfl := Option.some.inj ho; exact .inl ⟨rfl, by show 33 < 48; decide⟩
    | 11, ho => obtain rfl := Option.some.inj ho; exact .inl ⟨rfl, by show 34 < 48; decide⟩
    | 12, ho => obtain rfl := Option.some.inj ho; exact .inl ⟨rfl, by show 6 < 48; decide⟩
    | _ + 13, ho => exact absurd ho (by simp)
  · intro ix jx hi hj e; unfold PP8d at e; split at e <;> split at e <;> omega
  · intro ix o ho
    match ix, ho with
    | 0, ho =>
      obtain rfl := Option.some.inj ho
      intro D a w hM hsl hdep hDi hcl K hK
      have hp0 : a.tmps.getD 0 undef = .slice (some ⟨b, off, none⟩) n cap := hsl 0 (by intro j hj; unfold PP8d; split <;> omega)
      refine ⟨rfl, ?_⟩
      refine wp_val (w' := w) (v := .slice (some ⟨b, off, none⟩) n cap) (by simp only [execOp, Act.eval]; rw [show a.tmps.getD 0 undef = _ from hp0]; rfl) ?_
      exact hK _ _ rfl hM (PP8_mono b off n cap i N1 W0.heap.size al A R hDi (fun _ => (Below.refl _ _)))
    | 1, ho =>
      obtain rfl := Option.some.inj ho
      intro D a w hM hsl hdep hDi hcl K hK
      have hp8 : a.tmps.getD 8 undef = .int .i64 ((cut n : Nat) : Int) := hsl 8 (by intro j hj; unfold PP8d; split <;> omega)
      refine ⟨rfl, ?_⟩
      refine wp_val (w' := w) (v := .int .i64 ((cut n : Nat) : Int)) (by simp only [execOp, Act.eval]; rw [show a.tmps.getD 8 undef = _ from hp8]; rfl) ?_
      exact hK _ _ rfl hM (PP8_mono b off n cap i N1 W0.heap.size al A R hDi (fun _ => (Below.refl _ _)))
    | 2, ho =>
      obtain rfl := Option.some.inj ho
      intro D a w hM hsl hdep hDi hcl K hK
      have e0 := (hdep ⟨0, .data⟩ (by simp) rfl).1
      have e1 := (hdep ⟨1, .data⟩ (by simp) rfl).1
      refine ⟨rfl, ?_⟩
      have hl := sl_lo (b := b) (off := off) (n := n) (cap := cap) (k := cut n) (by omega) hcap w
      refine wp_val (w' := w) (v := .slice (some ⟨b, off, none⟩) (cut n) cap) (by simp only [execOp, Act.eval, Option.map_some, Option.map_none]; rw [show a.tmps.getD 23 undef = _ from e0, show a.tmps.getD 24 undef = _ from e1]; simp only [Sem.run_bind, hl, Result.andThen_ok, Sem.run_pure]) ?_
      exact hK _ _ rfl hM (PP8_mono b off n cap i N1 W0.heap.size al A R hDi (fun _ => (Below.refl _ _)))
    | 3, ho =>
      obtain rfl := Option.some.inj ho
      intro D a w hM hsl hdep hDi hcl K hK
      have hp1 : a.tmps.getD 1 undef = .int .i64 ((i : Nat) : Int) := hsl 1 (by intro j hj; unfold PP8d; split <;> omega)
      refine ⟨rfl, ?_⟩
      refine wp_val (w' := w) (v := .int .i64 ((i : Nat) : Int)) (by simp only [execOp, Act.eval]; rw [show a.tmps.getD 1 undef = _ from hp1]; rfl) ?_
      exact hK _ _ rfl hM (PP8_mono b off n cap i N1 W0.heap.size al A R hDi (fun _ => (Below.refl _ _)))
    | 4, ho =>
      obtain rfl := Option.some.inj ho
      intro D a w hM hsl hdep hDi hcl K hK
      have hp2 : a.tmps.getD 2 undef = .bool al := hsl 2 (by intro j hj; unfold PP8d; split <;> omega)
      refine ⟨rfl, ?_⟩
      refine wp_val (w' := w) (v := .bool al) (by simp only [execOp, Act.eval]; rw [show a.tmps.getD 2 undef = _ from hp2]; rfl) ?_
      exact hK _ _ rfl hM (PP8_mono b off n cap i N1 W0.heap.size al A R hDi (fun _ => (Below.refl _ _)))
    | 5, ho =>
      obtain rfl := Option.some.inj ho
      intro D a w hM hsl hdep hDi hcl K hK
      have e2 := (hdep ⟨2, .data⟩ (by simp) rfl).1
      have e3 := (hdep ⟨3, .data⟩ (by simp) rfl).1
      have e4 := (hdep ⟨4, .data⟩ (by simp) rfl).1
      refine ⟨rfl, ?_⟩
      refine oper_any 39 #[.tmp 25, .tmp 26, .tmp 27] _ rfl #[.slice (some ⟨b, off, none⟩) (cut n) cap, .int .i64 ((i : Nat) : Int), .bool al] (by simp only [List.map_toArray, List.map_cons, List.map_nil, Act.eval]; rw [show a.tmps.getD 25 undef = _ from e2, show a.tmps.getD 26 undef = _ from e3, show a.tmps.getD 27 undef = _ from e4]) (fun w => by kernel_rfl) (hP w hM) fun r w' hj => ?_
      obtain ⟨hr, hb⟩ := hj
      exact hK _ _ (fun _ => hr) (blw hM hb) (PP8_mono b off n cap i N1 W0.heap.size al A R hDi (fun _ => hb))
    | 6, ho =>
      obtain rfl := Option.some.inj ho
      intro D a w hM hsl hdep hDi hcl K hK
      have hp0 : a.tmps.getD 0 undef = .slice (some ⟨b, off, none⟩) n cap := hsl 0 (by intro j hj; unfold PP8d; split <;> omega)
      refine ⟨rfl, ?_⟩
      refine wp_val (w' := w) (v := .slice (some ⟨b, off, none⟩) n cap) (by simp only [execOp, Act.eval]; rw [show a.tmps.getD 0 undef = _ from hp0]; rfl) ?_
      exact hK _ _ rfl hM (PP8_mono b off n cap i N1 W0.heap.size al A R hDi (fun _ => (Below.refl _ _)))
    | 7, ho =>
      obtain rfl := Option.some.inj ho
      intro D a w hM hsl hdep hDi hcl K hK
      have hp8 : a.tmps.getD 8 undef = .int .i64 ((cut n : Nat) : Int) := hsl 8 (by intro j hj; unfold PP8d; split <;> omega)
      refine ⟨rfl, ?_⟩
      refine wp_val (w' := w) (v := .int .i64 ((cut n : Nat) : Int)) (by simp only [execOp, Act.eval]; rw [show a.tmps.getD 8 undef = _ from hp8]; rfl) ?_
      exact hK _ _ rfl hM (PP8_mono b off n cap i N1 W0.heap.size al A R hDi (fun _ => (Below.refl _ _)))
    | 8, ho =>
      obtain rfl := Option.some.inj ho
      intro D a w hM hsl hdep hDi hcl K hK
      have e6 := (hdep ⟨6, .data⟩ (by simp) rfl).1
      have e7 := (hdep ⟨7, .data⟩ (by simp) rfl).1
      refine ⟨rfl, ?_⟩
      have hl := sl_hi (b := b) (off := off) (n := n) (cap := cap) (k := cut n) (by omega) hcap w
      refine wp_val (w' := w) (v := .slice (some ⟨b, off + 32 * cut n, none⟩) (n - cut n) (cap - cut n)) (by simp only [execOp, Act.eval, Option.map_some, Option.map_none]; rw [show a.tmps.getD 29 undef = _ from e6, show a.tmps.getD 30 undef = _ from e7]; simp only [Sem.run_bind, hl, Result.andThen_ok, Sem.run_pure]) ?_
      exact hK _ _ rfl hM (PP8_mono b off n cap i N1 W0.heap.size al A R hDi (fun _ => (Below.refl _ _)))
    | 9, ho =>
      obtain rfl := Option.some.inj ho
      intro D a w hM hsl hdep hDi hcl K hK
      have e8 := (hdep ⟨8, .data⟩ (by simp) rfl).1
      refine ⟨rfl, ?_⟩
      refine oper_callg 15 #[.tmp 31] _ rfl #[.slice (some ⟨b, off + 32 * cut n, none⟩) (n - cut n) (cap - cut n)] (by simp only [List.map_toArray, List.map_cons, List.map_nil, Act.eval]; rw [show a.tmps.getD 31 undef = _ from e8]) (fun w => by kernel_rfl) (hR w hM) fun w' hb => ?_
      exact hK _ _ rfl (blw hM hb) (PP8_mono b off n cap i N1 W0.heap.size al A R hDi (fun _ => hb))
    | 10, ho =>
      obtain rfl := Option.some.inj ho
      intro D a w hM hsl hdep hDi hcl K hK
      have e9 := (hdep ⟨9, .data⟩ (by simp) rfl).1
      refine ⟨rfl, ?_⟩
      have hl := bs_sum R w
      refine wp_val (w' := w.alloc (.cells (ab 32 R) 34)) (v := .slice (some ⟨w.heap.size, 0, none⟩) 1 1) (by simp only [execOp, Act.eval, List.map_toArray, List.map_cons, List.map_nil]; rw [show a.tmps.getD 32 undef = _ from e9]; simp only [Sem.run_bind, hl, Result.andThen_ok, Sem.run_pure]) ?_
      exact hK _ _ (fun _ => ⟨_, rfl, World.alloc_heap_new w _⟩) (blw hM ((Below.refl _ _).alloc (Nat.le_refl _) _)) (PP8_mono b off n cap i N1 W0.heap.size al A R hDi (fun _ => (Below.refl _ _).alloc (Nat.le_refl _) _))
    | 11, ho =>
      obtain rfl := Option.some.inj ho
      intro D a w hM hsl hdep hDi hcl K hK
      have e5 := (hdep ⟨5, .data⟩ (by simp) rfl).1
      have e10 := (hdep ⟨10, .data⟩ (by simp) rfl).1
      refine ⟨rfl, ?_⟩
      have ho := e5 hDi
      obtain ⟨g, eg, hg⟩ := e10 hDi
      refine oper_app (.tmp 28) (.tmp 33) rfl W0.heap.size _ N1 _ rfl ho.1 (show a.tmps.getD 33 undef = _ from eg) hg hRl (by omega) ho.2 fun v' w' ho' hb' => ?_
      exact hK _ _ ⟨add1_eq, by rw [ssv_app]; exact ho', Nat.le_trans ho.2 hb'.size⟩ (hM.trans hb') (PP8_mono b off n cap i N1 W0.heap.size al A R hDi (fun h => absurd rfl h))
    | 12, ho =>
      obtain rfl := Option.some.inj ho
      intro D a w hM hsl hdep hDi hcl K hK
      have e11 := (hdep ⟨11, .data⟩ (by simp) rfl).1
      refine ⟨rfl, ?_⟩
      refine wp_val (w' := w) (v := a.tmps.getD 34 undef) (by simp only [execOp, Act.eval]; rfl) ?_
      exact hK _ _ ⟨by rw [add1_ne (by decide)]; exact e11.1, e11.2⟩ hM (PP8_mono b off n cap i N1 W0.heap.size al A R hDi (fun _ => (Below.refl _ _)))
    | _ + 13, ho => exact absurd ho (by simp)
  · intro D a u hall hd hs hM hsl hr
    obtain ⟨-, hv⟩ := hr 12 (by decide)
    refine (‹∀ (a : Act) (w : World), Code.wp Tryd.prog Code.ret _ a w → _›) a u ?_
    refine wp_ret ?_
    refine then_ret ?_
    exact s_raw hd (by rw [hs]; show 6 < 48; decide) rfl Tryd.results39 ⟨_, rfl, hv, hM⟩
set_option maxHeartbeats 4000000 in
set_option maxRecDepth 100000 in
theorem refProve_hi {b off n cap i N1 : Nat} {al : Bool} {A : List (Nat → Nat)} {R : Nat → Nat} {W0 : World} (hn : 2 ≤ n) (hm : n ≤ 1000) (hcap : n ≤ cap) (hk : 1 ≤ cut n ∧ cut n < n ∧ n ≤ 2 * cut n) (hN : N1 ≤ 1000) (hRl : ∀ i, R i < 256) (hci : cut n ≤ i) (hin : i < n) (hcj : cut n < i)
    (hP : ∀ w, Below W0.heap.size W0 w → Calls Tryd.prog 39 #[.slice (some ⟨b, off + 32 * cut n, none⟩) (n - cut n) (cap - cut n), .int .i64 ((i - cut n : Nat) : Int), .bool false] w fun e w' => ∃ r, e = .returned r ∧ OwnS W0.heap.size N1 A r w' ∧ Below w.heap.size w w')
    (hR : ∀ w, Below W0.heap.size W0 w → Calls Tryd.prog 15 #[.slice (some ⟨b, off, none⟩) (cut n) cap] w fun e w' => e = .returned (.agg (ab 32 R)) ∧ Below w.heap.size w w') : Calls Tryd.prog 39 #[.slice (some ⟨b, off, none⟩) n cap, .int .i64 ((i : Nat) : Int), .bool al] W0 fun e w' => ∃ r, e = .returned r ∧ OwnS W0.heap.size (N1 + 1) (A ++ [R]) r w' ∧ Below W0.heap.size W0 w' := by
  obtain ⟨hk1, hk2, hk3⟩ := hk
  have h1 : ((i : Int) == (n : Int)) = false := by rw [beq_eq_false_iff_ne]; omega
  have hlt : ¬ (i : Int) ≤ (cut n : Int) := by omega
  go_enter Tryd.func39, Tryd.ntmps39
  go_wp2_with fail
  refine (cut_kr n (by omega) W0).mono ?_
  rintro e w1 ⟨rfl, hb1⟩
  go_upto_region 9 with fail
  refine wp_rel3 _ _ (PP9 b off n cap i N1 W0.heap.size A R) (fun _ w => Below W0.heap.size W0 w) PP9d (by kernel_rfl) (by kernel_rfl) 14 (by kernel_rfl) ?_ ?_ rfl (hb1.drew) ?_ ?_
  · intro ix o ho
    match ix, ho with
    | 0, ho => obtain rfl := Option.some.inj ho; exact .inl ⟨rfl, by show 35 < 48; decide⟩
    | 1, ho => obtain rfl := Option.some.inj ho; exact .inl ⟨rfl, by show 36 < 48; decide⟩
    | 2, ho => obtain rfl := Option.some.inj ho; exact .inl ⟨rfl, by show 37 < 48; decide⟩
    | 3, ho => obtain rfl := Option.some.inj ho; exact .inl ⟨rfl, by show 38 < 48; decide⟩
    | 4, ho => obtain rfl := Option.some.inj ho; exact .inl ⟨rfl, by show 39 < 48; decide⟩
    | 5, ho => obtain rfl := Option.some.inj ho; exact .inl ⟨rfl, by show 40 < 48; decide⟩
    | 6, ho => obtain rfl := Option.some.inj ho; exact .inl ⟨rfl, by show 41 < 48; decide⟩
    | 7, ho => obtain rfl := Option.some.inj ho; exact .inl ⟨rfl, by show 42 < 48; decide⟩
    | 8, ho => obtain rfl := Option.some.inj ho; exact .inl ⟨rfl, by show 43 < 48; decide⟩
    | 9, ho => obtain rfl := Option.some.inj ho; exact .inl ⟨rfl, by show 44 < 48; decide⟩
    | 10, ho => obtain rfl := Option.some.inj ho; exact .inl ⟨rfl, by show 45 < 48; decide⟩
    | 11, ho => obtain rfl := Option.some.inj ho; exact .inl ⟨rfl, by show 46 < 48; decide⟩
    | 12, ho => obtain rfl := Option.some.inj ho; exact .inl ⟨rfl, by show 47 < 48; decide⟩
    | 13, ho => obtain rfl := Option.some.inj ho; exact .inl ⟨rfl, by show 6 < 48; decide⟩
    | _ + 14, ho => exact absurd ho (by simp)
  · intro ix jx hi hj e; unfold PP9d at e; split at e <;> split at e <;> omega
  · intro ix o ho
    match ix, ho with
    | 0, ho =>
      obtain rfl := Option.some.inj ho
      intro D a w hM hsl hdep hDi hcl K hK
      have hp0 : a.tmps.getD 0 undef = .slice (some ⟨b, off, none⟩) n cap := hsl 0 (by intro j hj; unfold PP9d; split <;> omega)
      refine ⟨rfl, ?_⟩
      refine wp_val (w' := w) (v := .slice (some ⟨b, off, none⟩) n cap) (by simp only [execOp, Act.eval]; rw [show a.tmps.getD 0 undef = _ from hp0]; rfl) ?_
      exact hK _ _ rfl hM (PP9_mono b off n cap i N1 W0.heap.size A R hDi (fun _ => (Below.refl _ _)))
    | 1, ho =>
      obtain rfl := Option.some.inj ho
      intro D a w hM hsl hdep hDi hcl K hK
      have hp8 : a.tmps.getD 8 undef = .int .i64 ((cut n : Nat) : Int) := hsl 8 (by intro j hj; unfold PP9d; split <;> omega)
      refine ⟨rfl, ?_⟩
      refine wp_val (w' := w) (v := .int .i64 ((cut n : Nat) : Int)) (by simp only [execOp, Act.eval]; rw [show a.tmps.getD 8 undef = _ from hp8]; rfl) ?_
      exact hK _ _ rfl hM (PP9_mono b off n cap i N1 W0.heap.size A R hDi (fun _ => (Below.refl _ _)))
    | 2, ho =>
      obtain rfl := Option.some.inj ho
      intro D a w hM hsl hdep hDi hcl K hK
      have e0 := (hdep ⟨0, .data⟩ (by simp) rfl).1
      have e1 := (hdep ⟨1, .data⟩ (by simp) rfl).1
      refine ⟨rfl, ?_⟩
      have hl := sl_hi (b := b) (off := off) (n := n) (cap := cap) (k := cut n) (by omega) hcap w
      refine wp_val (w' := w) (v := .slice (some ⟨b, off + 32 * cut n, none⟩) (n - cut n) (cap - cut n)) (by simp only [execOp, Act.eval, Option.map_some, Option.map_none]; rw [show a.tmps.getD 35 undef = _ from e0, show a.tmps.getD 36 undef = _ from e1]; simp only [Sem.run_bind, hl, Result.andThen_ok, Sem.run_pure]) ?_
      exact hK _ _ rfl hM (PP9_mono b off n cap i N1 W0.heap.size A R hDi (fun _ => (Below.refl _ _)))
    | 3, ho =>
      obtain rfl := Option.some.inj ho
      intro D a w hM hsl hdep hDi hcl K hK
      have hp1 : a.tmps.getD 1 undef = .int .i64 ((i : Nat) : Int) := hsl 1 (by intro j hj; unfold PP9d; split <;> omega)
      refine ⟨rfl, ?_⟩
      refine wp_val (w' := w) (v := .int .i64 ((i : Nat) : Int)) (by simp only [execOp, Act.eval]; rw [show a.tmps.getD 1 undef = _ from hp1]; rfl) ?_
      exact hK _ _ rfl hM (PP9_mono b off n cap i N1 W0.heap.size A R hDi (fun _ => (Below.refl _ _)))
    | 4, ho =>
      obtain rfl := Option.some.inj ho
      intro D a w hM hsl hdep hDi hcl K hK
      have hp8 : a.tmps.getD 8 undef = .int .i64 ((cut n : Nat) : Int) := hsl 8 (by intro j hj; unfold PP9d; split <;> omega)
      refine ⟨rfl, ?_⟩
      refine wp_val (w' := w) (v := .int .i64 ((cut n : Nat) : Int)) (by simp only [execOp, Act.eval]; rw [show a.tmps.getD 8 undef = _ from hp8]; rfl) ?_
      exact hK _ _ rfl hM (PP9_mono b off n cap i N1 W0.heap.size A R hDi (fun _ => (Below.refl _ _)))
    | 5, ho =>
      obtain rfl := Option.some.inj ho
      intro D a w hM hsl hdep hDi hcl K hK
      have e3 := (hdep ⟨3, .data⟩ (by simp) rfl).1
      have e4 := (hdep ⟨4, .data⟩ (by simp) rfl).1
      refine ⟨rfl, ?_⟩
      have hl := sub_nn (x := .tmp 38) (u := .tmp 39) hci (by omega) w
      refine wp_val (w' := w) (v := .int .i64 ((i - cut n : Nat) : Int)) (by simp only [execOp, Act.eval]; rw [show a.tmps.getD 38 undef = _ from e3, show a.tmps.getD 39 undef = _ from e4]; simp only [Sem.run_bind, hl, Result.andThen_ok, Sem.run_pure]) ?_
      exact hK _ _ rfl hM (PP9_mono b off n cap i N1 W0.heap.size A R hDi (fun _ => (Below.refl _ _)))
    | 6, ho =>
      obtain rfl := Option.some.inj ho
      intro D a w hM hsl hdep hDi hcl K hK
      have e2 := (hdep ⟨2, .data⟩ (by simp) rfl).1
      have e5 := (hdep ⟨5, .data⟩ (by simp) rfl).1
      refine ⟨rfl, ?_⟩
      refine oper_any 39 #[.tmp 37, .tmp 40, .const (.bool false)] _ rfl #[.slice (some ⟨b, off + 32 * cut n, none⟩) (n - cut n) (cap - cut n), .int .i64 ((i - cut n : Nat) : Int), .bool false] (by simp only [List.map_toArray, List.map_cons, List.map_nil, Act.eval]; rw [show a.tmps.getD 37 undef = _ from e2, show a.tmps.getD 40 undef = _ from e5]) (fun w => by kernel_rfl) (hP w hM) fun r w' hj => ?_
      obtain ⟨hr, hb⟩ := hj
      exact hK _ _ (fun _ => hr) (blw hM hb) (PP9_mono b off n cap i N1 W0.heap.size A R hDi (fun _ => hb))
    | 7, ho =>
      obtain rfl := Option.some.inj ho
      intro D a w hM hsl hdep hDi hcl K hK
      have hp0 : a.tmps.getD 0 undef = .slice (some ⟨b, off, none⟩) n cap := hsl 0 (by intro j hj; unfold PP9d; split <;> omega)
      refine ⟨rfl, ?_⟩
      refine wp_val (w' := w) (v := .slice (some ⟨b, off, none⟩) n cap) (by simp only [execOp, Act.eval]; rw [show a.tmps.getD 0 undef = _ from hp0]; rfl) ?_
      exact hK _ _ rfl hM (PP9_mono b off n cap i N1 W0.heap.size A R hDi (fun _ => (Below.refl _ _)))
    | 8, ho =>
      obtain rfl := Option.some.inj ho
      intro D a w hM hsl hdep hDi hcl K hK
      have hp8 : a.tmps.getD 8 undef = .int .i64 ((cut n : Nat) : Int) := hsl 8 (by intro j hj; unfold PP9d; split <;> omega)
      refine ⟨rfl, ?_⟩
      refine wp_val (w' := w) (v := .int .i64 ((cut n : Nat) : Int)) (by simp only [execOp, Act.eval]; rw [show a.tmps.getD 8 undef = _ from hp8]; rfl) ?_
      exact hK _ _ rfl hM (PP9_mono b off n cap i N1 W0.heap.size A R hDi (fun _ => (Below.refl _ _)))
    | 9, ho =>
      obtain rfl := Option.some.inj ho
      intro D a w hM hsl hdep hDi hcl K hK
      have e7 := (hdep ⟨7, .data⟩ (by simp) rfl).1
      have e8 := (hdep ⟨8, .data⟩ (by simp) rfl).1
      refine ⟨rfl, ?_⟩
      have hl := sl_lo (b := b) (off := off) (n := n) (cap := cap) (k := cut n) (by omega) hcap w
      refine wp_val (w' := w) (v := .slice (some ⟨b, off, none⟩) (cut n) cap) (by simp only [execOp, Act.eval, Option.map_some, Option.map_none]; rw [show a.tmps.getD 42 undef = _ from e7, show a.tmps.getD 43 undef = _ from e8]; simp only [Sem.run_bind, hl, Result.andThen_ok, Sem.run_pure]) ?_
      exact hK _ _ rfl hM (PP9_mono b off n cap i N1 W0.heap.size A R hDi (fun _ => (Below.refl _ _)))
    | 10, ho =>
      obtain rfl := Option.some.inj ho
      intro D a w hM hsl hdep hDi hcl K hK
      have e9 := (hdep ⟨9, .data⟩ (by simp) rfl).1
      refine ⟨rfl, ?_⟩
      refine oper_callg 15 #[.tmp 44] _ rfl #[.slice (some ⟨b, off, none⟩) (cut n) cap] (by simp only [List.map_toArray, List.map_cons, List.map_nil, Act.eval]; rw [show a.tmps.getD 44 undef = _ from e9]) (fun w => by kernel_rfl) (hR w hM) fun w' hb => ?_
      exact hK _ _ rfl (blw hM hb) (PP9_mono b off n cap i N1 W0.heap.size A R hDi (fun _ => hb))
    | 11, ho =>
      obtain rfl := Option.some.inj ho
      intro D a w hM hsl hdep hDi hcl K hK
      have e10 := (hdep ⟨10, .data⟩ (by simp) rfl).1
      refine ⟨rfl, ?_⟩
      have hl := bs_sum R w
      refine wp_val (w' := w.alloc (.cells (ab 32 R) 34)) (v := .slice (some ⟨w.heap.size, 0, none⟩) 1 1) (by simp only [execOp, Act.eval, List.map_toArray, List.map_cons, List.map_nil]; rw [show a.tmps.getD 45 undef = _ from e10]; simp only [Sem.run_bind, hl, Result.andThen_ok, Sem.run_pure]) ?_
      exact hK _ _ (fun _ => ⟨_, rfl, World.alloc_heap_new w _⟩) (blw hM ((Below.refl _ _).alloc (Nat.le_refl _) _)) (PP9_mono b off n cap i N1 W0.heap.size A R hDi (fun _ => (Below.refl _ _).alloc (Nat.le_refl _) _))
    | 12, ho =>
      obtain rfl := Option.some.inj ho
      intro D a w hM hsl hdep hDi hcl K hK
      have e6 := (hdep ⟨6, .data⟩ (by simp) rfl).1
      have e11 := (hdep ⟨11, .data⟩ (by simp) rfl).1
      refine ⟨rfl, ?_⟩
      have ho := e6 hDi
      obtain ⟨g, eg, hg⟩ := e11 hDi
      refine oper_app (.tmp 41) (.tmp 46) rfl W0.heap.size _ N1 _ rfl ho.1 (show a.tmps.getD 46 undef = _ from eg) hg hRl (by omega) ho.2 fun v' w' ho' hb' => ?_
      exact hK _ _ ⟨add1_eq, by rw [ssv_app]; exact ho', Nat.le_trans ho.2 hb'.size⟩ (hM.trans hb') (PP9_mono b off n cap i N1 W0.heap.size A R hDi (fun h => absurd rfl h))
    | 13, ho =>
      obtain rfl := Option.some.inj ho
      intro D a w hM hsl hdep hDi hcl K hK
      have e12 := (hdep ⟨12, .data⟩ (by simp) rfl).1
      refine ⟨rfl, ?_⟩
      refine wp_val (w' := w) (v := a.tmps.getD 47 undef) (by simp only [execOp, Act.eval]; rfl) ?_
      exact hK _ _ ⟨by rw [add1_ne (by decide)]; exact e12.1, e12.2⟩ hM (PP9_mono b off n cap i N1 W0.heap.size A R hDi (fun _ => (Below.refl _ _)))
    | _ + 14, ho => exact absurd ho (by simp)
  · intro D a u hall hd hs hM hsl hr
    obtain ⟨-, hv⟩ := hr 13 (by decide)
    refine (‹∀ (a : Act) (w : World), Code.wp Tryd.prog Code.ret _ a w → _›) a u ?_
    refine wp_ret ?_
    exact s_raw hd (by rw [hs]; show 6 < 48; decide) rfl Tryd.results39 ⟨_, rfl, hv, hM⟩
theorem ssv_ab (R : Nat → Nat) : ssv [R] = (ab 32 R).toList := by kernel_rfl
theorem ab_sz (R : Nat → Nat) : (ab 32 R).size = 1 * 32 := by kernel_rfl
theorem beg_le (L : List (Nat → Nat)) (m n : Nat) (all : Bool) : (beg L m n all).length ≤ n + 1 := by
  have h : (aheadL m n).length ≤ n := Nat.le_trans (List.takeWhile_sublist _).length_le (way_le _ _)
  unfold beg
  rw [List.length_append, asl_len]
  split <;> simp only [List.length_nil, List.length_singleton] <;> omega
set_option maxHeartbeats 4000000 in
theorem refProve_eq {b off n cap : Nat} {R : Nat → Nat} {W0 : World} {all : Bool} (hR : Calls Tryd.prog 15 #[.slice (some ⟨b, off, none⟩) n cap] W0 fun e w' => e = .returned (.agg (ab 32 R)) ∧ Below W0.heap.size W0 w') : Calls Tryd.prog 39 #[.slice (some ⟨b, off, none⟩) n cap, .int .i64 ((n : Nat) : Int), .bool all] W0 fun e w' => ∃ r, e = .returned r ∧ OwnS W0.heap.size (if all then [] else [R]).length (if all then [] else [R]) r w' ∧ Below W0.heap.size W0 w' := by
  cases all
  · go_enter Tryd.func39, Tryd.ntmps39
    go_wp2_with fail
    refine hR.mono ?_
    rintro e w1 ⟨rfl, hb1⟩
    go_wp2_with (refine wpList_bs_sum rfl (.tmp 16) rfl rfl ?_)
    go_ret
    refine ⟨_, rfl, ⟨?_, (hb1.alloc hb1.size _).size⟩, hb1.alloc hb1.size _⟩
    have := World.ownsRow_lit (base := W0.heap.size) (e := 34) (size := 32) w1 (ab 32 R) 1 hb1.size (by decide) (ab_sz R)
    rw [← ssv_ab] at this
    exact this
  · go_enter Tryd.func39, Tryd.ntmps39
    go_wp2
    go_ret
    exact ⟨_, rfl, ⟨World.ownsRow_nil _ _ _ _, Nat.le_refl _⟩, Below.refl _ _⟩
theorem refProve_d : ∀ (n i : Nat) (L : List (Nat → Nat)) (a : Option Addr) (cap : Nat) (all : Bool) (W0 : World), L.length = n → 1 ≤ i → i ≤ n → n ≤ 1000 → SsAt W0 a L → n ≤ cap → Calls Tryd.prog 39 #[.slice a n cap, .int .i64 ((i : Nat) : Int), .bool all] W0 fun e w' => ∃ r, e = .returned r ∧ OwnS W0.heap.size (beg L i n all).length (beg L i n all) r w' ∧ Below W0.heap.size W0 w' := by
  intro n
  induction n using Nat.strongRecOn with
  | ind n ih =>
    intro i L a cap all W0 hL hi0 hi hm hs hcap
    obtain ⟨b, off, rfl, hc⟩ := hs.2 (by omega)
    rcases Nat.lt_or_ge i n with hin | hge
    · have h2 : 2 ≤ n := by omega
      have hk := cut_in h2
      have l1 : (L.take (cut n)).length = cut n := by rw [List.length_take]; omega
      have l2 : (L.drop (cut n)).length = n - cut n := by rw [List.length_drop]; omega
      have b1 := root_lt _ (L.take (cut n)) rfl (fun F hF => hs.1 F (List.mem_of_mem_take hF))
      have b2 := root_lt _ (L.drop (cut n)) rfl (fun F hF => hs.1 F (List.mem_of_mem_drop hF))
      rcases Nat.lt_or_ge (cut n) i with h | h
      · rw [beg_hi hin h2 h, List.length_append, List.length_singleton]
        exact refProve_hi h2 hm hcap hk (by have := beg_le (L.drop (cut n)) (i - cut n) (n - cut n) false; omega) b1 (by omega) hin h (fun w hw => (ih (n - cut n) (by omega) (i - cut n) (L.drop (cut n)) _ (cap - cut n) false w l2 (by omega) (by omega) (by omega) (hs.hi.later hw) (by omega)).mono fun e w' ⟨r, e1, h1, h2⟩ => ⟨r, e1, ⟨own_weak h1.1 hw.size, Nat.le_trans hw.size h2.size⟩, h2⟩)
          (fun w hw => root_r (cut n) (L.take (cut n)) _ cap w l1 (by omega) (hs.lo.later hw) (by omega))
      · rw [beg_lo hL hi0 h2 h, List.length_append, List.length_singleton]
        exact refProve_lo h2 hm hcap hk (by have := beg_le (L.take (cut n)) i (cut n) all; omega) b2 h hin h (fun w hw => (ih (cut n) hk.2.1 i (L.take (cut n)) _ cap all w l1 hi0 h (by omega) (hs.lo.later hw) (by omega)).mono fun e w' ⟨r, e1, h1, h2⟩ => ⟨r, e1, ⟨own_weak h1.1 hw.size, Nat.le_trans hw.size h2.size⟩, h2⟩)
          (fun w hw => root_r (n - cut n) (L.drop (cut n)) _ (cap - cut n) w l2 (by omega) (hs.hi.later hw) (by omega))
    · obtain rfl : i = n := by omega
      rw [beg_eq hL hi0]
      exact refProve_eq (root_r i L _ cap W0 hL (by omega) hs hcap)
end Go.Proofs.YtgnmnoadfjdjdaaDoor

namespace Go.Proofs.YtgnmnoadfjdjdaaDoor
end Go.Proofs.YtgnmnoadfjdjdaaDoor

namespace Go.Proofs.YtgnmnoadfjdjdaaDoor
open Go.RowKit Sh

theorem as_err (v : Value) (w : World) : (Instr.typeAssert (.iface 29 v) 25 29 true).run Tryd.prog w = .ok (.tuple #[v, .bool true]) w := by kernel_rfl
set_option maxHeartbeats 400000 in
theorem num_e (n : Int) (_h : (n == 0) = false) (w : World) : Calls Tryd.prog 38 #[ev n] w fun e w' => e = .returned (.int .i64 n) ∧ w' = w := by
  have has := as_err (.int .i64 n)
  unfold ev
  go_enter Tryd.func38, Tryd.ntmps38
  go_wp2
  go_ret
  exact ⟨rfl, rfl⟩
set_option maxHeartbeats 400000 in
theorem is_e (n : Int) (h : (n == 0) = false) (w : World) : Calls Tryd.prog 11 #[ev n, .int .i64 n] w fun e w' => e = .returned (.bool true) ∧ w' = w := by
  go_enter Tryd.func11, Tryd.ntmps11
  go_wp2_with fail
  refine (num_e n h _).mono ?_
  rintro e w1 ⟨rfl, rfl⟩
  go_wp2
  go_ret
  exact ⟨rfl, rfl⟩
set_option maxHeartbeats 400000 in
theorem same_d {aa a2 : Option Addr} {n m cap cap2 : Nat} {L M : List (Nat → Nat)} {W0 : World} (hL : SsAt W0 aa L) (hM : SsAt W0 a2 M) (lL : L.length = n) (lM : M.length = m) (hm : n ≤ 1000000) : Calls Tryd.prog 12 #[.slice aa n cap, .slice a2 m cap2] W0 fun e w' => e = .returned (.bool (eqLs L M)) ∧ Below W0.heap.size W0 w' := by
  have h := sums_d (cap := cap) (cap2 := cap2) hL hM lL lM hm
  go_enter Tryd.func12, Tryd.ntmps12
  go_wp2_with fail
  refine h.mono ?_
  rintro e w1 ⟨rfl, hb⟩
  go_wp2
  go_ret
  exact ⟨rfl, hb⟩
def z5 : Array Value := Array.replicate 160 (.int .u8 0)
theorem mk5 (w : World) : (Instr.makeSlice 22 (.int .i64 5) (.int .i64 5)).run Tryd.prog w = .ok (.slice (some ⟨w.heap.size, 0, none⟩) 5 5) (w.alloc (.cells z5 34)) := by kernel_rfl
theorem wpList_mk5 {w : World} {ops : Array Oper} {rest : List Oper} {o : Oper} {a : Act} {Q : Exit → Act → World → Prop} (hgd : o.guard = none) (ho : o.op = .makeSlice 22 (.const (.int .i64 5)) (.const (.int .i64 5)))
    (h : wpList Tryd.prog ops Q rest (a.put o.dst (.slice (some ⟨w.heap.size, 0, none⟩) 5 5)) (w.alloc (.cells z5 34))) : wpList Tryd.prog ops Q (o :: rest) a w := by
  refine wpList_plain hgd fun K hK => ?_
  unfold Oper.wp execOp
  simp only [ho, Act.eval, Sem.run_bind, mk5 w, Result.andThen_ok, Sem.run_pure]
  exact hK _ _ h
theorem ss_z5 {w : World} : SsAt (w.alloc (.cells z5 34)) (some ⟨w.heap.size, 0, none⟩) (List.replicate 5 fun _ => 0) :=
  ⟨fun F h j => by rw [(List.mem_replicate.1 h).2]; exact (by decide : 0 < 256), fun _ => ⟨_, 0, rfl, fun i h j hj => by
    rw [cell_of_row _ _ _ _ _ _ (World.alloc_heap_new w _)]
    rw [List.length_replicate] at h
    rw [List.getElem_replicate]
    unfold z5
    rw [Array.getElem?_replicate, if_pos (by omega)]
    rfl⟩⟩
theorem own_shape {w : World} {base n : Nat} {L : List (Nat → Nat)} {v : Value} (hL : ∀ F ∈ L, ∀ j, F j < 256) (hn : L.length = n) (h : w.ownsRow base 34 32 v n (ssv L)) : ∃ a cap, v = .slice a n cap ∧ SsAt w a L ∧ n ≤ cap := ss_own hL hn h
theorem asl_lt {L : List (Nat → Nat)} (h : ∀ F ∈ L, ∀ j, F j < 256) (xs : List Cu) : ∀ F ∈ asl L xs, ∀ j, F j < 256 := by
  intro F hF
  obtain ⟨c, _, rfl⟩ := List.mem_map.1 hF
  refine root_lt _ _ rfl fun G hG => h G ?_
  split at hG
  · exact List.mem_of_mem_take (List.mem_of_mem_drop hG)
  · exact List.mem_of_mem_take (List.mem_of_mem_drop hG)
theorem w45 : (way 4 5).length = 1 := by decide +kernel
theorem w05 : (way 0 5).length = 3 := by decide +kernel
set_option maxHeartbeats 4000000 in
set_option maxRecDepth 100000 in
theorem alive_t {W0 : World} (hg : Gl W0) : Calls Tryd.prog 9 #[] W0 fun e w' => e = .returned (.bool true) ∧ Below W0.heap.size W0 w' := by
  have hal : Below W0.heap.size W0 (W0.alloc (.cells z5 34)) := (Below.refl _ _).alloc (Nat.le_refl _) _
  have hss := ss_z5 (w := W0)
  have hl5 : (List.replicate 5 fun _ : Nat => 0).length = 5 := rfl
  have hlt := asl_lt hss.1
  go_enter Tryd.func9, Tryd.ntmps9
  go_wp2_with (refine wpList_mk5 rfl rfl ?_)
  generalize W0.alloc (.cells z5 34) = w1 at hal hss ⊢
  have h1 := path_d (i := 4) (cap := 5) (gl_b hg hal) (by decide) hl5 (by decide) (by decide) hss
  rw [w45] at h1
  refine h1.mono ?_
  rintro e w2 ⟨v, rfl, ho, hb2⟩
  obtain ⟨a1, c1, rfl, -, -⟩ := own_shape (hlt _) (by rw [asl_len, w45]) ho
  have hb02 := blw hal hb2
  have h2 := path_d (i := 0) (cap := 5) (gl_b hg hb02) (by decide) hl5 (by decide) (by decide) (hss.later hb2)
  rw [w05] at h2
  clear h1 ho
  go_wp2_with fail
  refine h2.mono ?_
  rintro e w3 ⟨v, rfl, ho, hb3⟩
  obtain ⟨a2, c2, rfl, -, -⟩ := own_shape (hlt _) (by rw [asl_len, w05]) ho
  have hb03 := blw hb02 hb3
  have h3 := length_d (i := 0) (n := 5) (by decide) (by decide) w3
  rw [w05] at h3
  clear h2 ho
  go_wp2_with fail
  refine h3.mono ?_
  rintro e w4 ⟨rfl, hb4⟩
  have hb04 := blw hb03 hb4
  go_wp2
  go_ret
  exact ⟨rfl, hb04⟩
end Go.Proofs.YtgnmnoadfjdjdaaDoor

namespace Go.Proofs.YtgnmnoadfjdjdaaDoor
open Go.RowKit Sh

theorem cut_rr (n : Nat) (hn : n ≤ 1048576) (w : World) : Calls Tryd.prog 43 #[.int .i64 ((n : Nat) : Int)] w fun e w' => e = .returned (.int .i64 ((cut n : Nat) : Int)) ∧ w' = w :=
  (cut_r ((n : Nat) : Int) (by omega) w).mono fun e w' h => ⟨by rw [h.1, Int.toNat_natCast], h.2⟩
def tx (r : Bool) (F p : Nat → Nat) : Nat → Nat := if r then txt p F else txt F p
/-- The texts digested on the way up. -/
def ctxL : List Cu → List (Nat → Nat) → (Nat → Nat) → List (Nat → Nat)
  | c :: cs, p :: ps, F => tx c.r F p :: ctxL cs ps (jn c.r F p)
  | _, _, _ => []
theorem ctxL_snoc : ∀ (cs : List Cu) (ps : List (Nat → Nat)) (F : Nat → Nat) (c : Cu) (p : Nat → Nat), cs.length = ps.length → ctxL (cs ++ [c]) (ps ++ [p]) F = ctxL cs ps F ++ [tx c.r (comeL cs ps F) p]
  | [], [], F, c, p, _ => rfl
  | c' :: cs, p' :: ps, F, c, p, h => by
    show tx c'.r F p' :: ctxL (cs ++ [c]) (ps ++ [p]) _ = _
    rw [ctxL_snoc cs ps _ c p (by simpa using h)]; rfl
  | [], _ :: _, _, _, _, h => by simp at h
  | _ :: _, [], _, _, _, h => by simp at h
theorem ctxL_map (s : Nat) : ∀ (cs : List Cu) (ps : List (Nat → Nat)) (F : Nat → Nat), ctxL (cs.map (sh s)) ps F = ctxL cs ps F
  | [], [], _ => rfl
  | [], _ :: _, _ => rfl
  | _ :: _, [], _ => rfl
  | c :: cs, p :: ps, F => by show tx c.r F p :: _ = tx c.r F p :: _; congr 1; exact ctxL_map s cs ps (jn c.r F p)
theorem ctxL_len : ∀ (cs : List Cu) (ps : List (Nat → Nat)) (F : Nat → Nat), cs.length = ps.length → (ctxL cs ps F).length = ps.length
  | [], [], _, _ => rfl
  | c :: cs, p :: ps, F, h => by show (ctxL cs ps _).length + 1 = _; rw [ctxL_len cs ps _ (by simpa using h)]; rfl
  | [], _ :: _, _, h => by simp at h
  | _ :: _, [], _, h => by simp at h
theorem ctx_lo {i n : Nat} {ps : List (Nat → Nat)} {p F : Nat → Nat} (hn : 2 ≤ n) (h : i < cut n) (hl : ps.length = (way i (cut n)).length) : ctxL (way i n).reverse (ps ++ [p]) F = ctxL (way i (cut n)).reverse ps F ++ [txt (comeL (way i (cut n)).reverse ps F) p] := by
  rw [way_lo hn h, List.reverse_cons, ctxL_snoc _ _ _ _ _ (by rw [List.length_reverse]; exact hl.symm)]; rfl
theorem ctx_hi {i n : Nat} {ps : List (Nat → Nat)} {p F : Nat → Nat} (hn : 2 ≤ n) (h : cut n ≤ i) (hl : ps.length = (way (i - cut n) (n - cut n)).length) : ctxL (way i n).reverse (ps ++ [p]) F = ctxL (way (i - cut n) (n - cut n)).reverse ps F ++ [txt p (comeL (way (i - cut n) (n - cut n)).reverse ps F)] := by
  rw [way_hi hn h, List.reverse_cons, ctxL_snoc _ _ _ _ _ (by rw [List.length_reverse, List.length_map]; exact hl.symm), ← List.map_reverse, ctxL_map, comeL_map]; rfl
/-- A load whose run is known, in a plain region. -/
theorem wpList_ld {w : World} {ops : Array Oper} {rest : List Oper} {o : Oper} {a : Act} {Q : Exit → Act → World → Prop} (hgd : Region.wanted o (yielded ops a.tmps) = true) (t : TypeId) (p : Operand) (ho : o.op = .load t p) {v : Value} (pv : Value) (hp : a.eval p = pv) (hl : (Instr.loadAt t pv).run Tryd.prog w = .ok v w) (h : wpList Tryd.prog ops Q rest (a.put o.dst v) w) : wpList Tryd.prog ops Q (o :: rest) a w := by
  refine wpList_step fun K hK => ?_
  rw [if_pos hgd]
  unfold Oper.wp execOp
  simp only [ho, hp, Sem.run_bind, hl, Result.andThen_ok, Sem.run_pure]
  exact hK _ _ h
theorem wpList_eqG {w : World} {ops : Array Oper} {rest : List Oper} {o : Oper} {a : Act} {Q : Exit → Act → World → Prop} (hgd : Region.wanted o (yielded ops a.tmps) = true) (x u : Operand) (ho : o.op = .binOp .eql 34 x u 34) {F G : Nat → Nat} {b : Bool} (hx : a.eval x = .agg (ab 32 F)) (hu : a.eval u = .agg (ab 32 G)) (hb : eqD F G = b) (h : wpList Tryd.prog ops Q rest (a.put o.dst (.bool b)) w) : wpList Tryd.prog ops Q (o :: rest) a w := by
  refine wpList_step fun K hK => ?_
  rw [if_pos hgd]
  have hl := eqS_v (x := x) (u := u) hb w
  unfold Oper.wp execOp
  simp only [ho, hx, hu]
  simp only [Sem.run_bind] at hl ⊢
  simp only [hl, Result.andThen_ok, Sem.run_pure]
  exact hK _ _ h
end Go.Proofs.YtgnmnoadfjdjdaaDoor

namespace Go.Proofs.YtgnmnoadfjdjdaaDoor
open Go.RowKit Sh

/-- How many digests the proof of a beginning has. -/
def nds (m n : Nat) (all : Bool) : Nat := (if all && decide (stF (aheadL m n) = 0) then 0 else 1) + (aheadL m n).length
theorem nds_beg (L : List (Nat → Nat)) (m n : Nat) (all : Bool) : (beg L m n all).length = nds m n all := by
  unfold beg nds
  rw [List.length_append, asl_len]
  split <;> rfl
theorem nds_le (m n : Nat) (all : Bool) : nds m n all ≤ n + 1 := by rw [← nds_beg []]; exact beg_le _ _ _ _
theorem nds_eq {n : Nat} (hn : 1 ≤ n) (all : Bool) : nds n n all = if all then 0 else 1 := by
  unfold nds; rw [st_eq hn, ahead_eq hn]; cases all <;> rfl
theorem nds_lo {m n : Nat} (hm : 1 ≤ m) (hn : 2 ≤ n) (h : m ≤ cut n) (all : Bool) : nds m n all = 1 + nds m (cut n) all := by
  unfold nds; rw [st_lo hm hn h, ahead_lo hm hn h, List.length_cons]; omega
theorem nds_hi {m n : Nat} (hmn : m < n) (hn : 2 ≤ n) (h : cut n < m) (all : Bool) : nds m n all = 1 + nds (m - cut n) (n - cut n) false := by
  have hc := cut_in hn
  unfold nds
  rw [st_hi hmn hn h, ahead_hi hmn hn h, List.length_cons, List.length_map, decide_eq_false (by omega : ¬ stF (aheadL (m - cut n) (n - cut n)) + cut n = 0)]
  cases all <;> simp <;> omega
set_option maxHeartbeats 4000000 in
theorem refNeeds_d : ∀ (n i : Nat) (all : Bool) (w : World), 1 ≤ i → i ≤ n → n ≤ 1048576 → Calls Tryd.prog 45 #[.int .i64 ((i : Nat) : Int), .int .i64 ((n : Nat) : Int), .bool all] w fun e w' => e = .returned (.int .i64 ((nds i n all : Nat) : Int)) ∧ w' = w := by
  intro n
  induction n using Nat.strongRecOn with
  | ind n ih =>
    intro i all w hi0 hi hn
    rcases Nat.lt_or_ge i n with hin | hge
    · have h2 : 2 ≤ n := by omega
      have hk := cut_in h2
      have h1 : ((i : Int) == (n : Int)) = false := by rw [beq_eq_false_iff_ne]; omega
      rcases Nat.lt_or_ge (cut n) i with h | h
      · have hr := ih (n - cut n) (by omega) (i - cut n) false w (by omega) (by omega) (by omega)
        have hwl := nds_le (i - cut n) (n - cut n) false
        rw [nds_hi hin h2 h]
        have hc := cut_rr n hn w
        generalize nds (i - cut n) (n - cut n) false = N at *
        generalize cut n = k at *
        have hlt : ¬ (i : Int) ≤ (k : Int) := by omega
        rw [show ((i - k : Nat) : Int) = (i : Int) - (k : Int) by omega, show ((n - k : Nat) : Int) = (n : Int) - (k : Int) by omega] at hr
        go_enter Tryd.func45, Tryd.ntmps45
        go_wp2_with fail
        refine hc.mono ?_
        rintro e w1 ⟨rfl, rfl⟩
        go_wp2_with fail
        refine hr.mono ?_
        rintro e w1 ⟨rfl, rfl⟩
        go_wp2
        go_ret
        exact ⟨by simp, rfl⟩
      · have hr := ih (cut n) hk.2.1 i all w hi0 h (by omega)
        have hwl := nds_le i (cut n) all
        rw [nds_lo hi0 h2 h]
        have hc := cut_rr n hn w
        generalize nds i (cut n) all = N at *
        generalize cut n = k at *
        have hlt : (i : Int) ≤ (k : Int) := by omega
        go_enter Tryd.func45, Tryd.ntmps45
        go_wp2_with fail
        refine hc.mono ?_
        rintro e w1 ⟨rfl, rfl⟩
        go_wp2_with fail
        refine hr.mono ?_
        rintro e w1 ⟨rfl, rfl⟩
        go_wp2
        go_ret
        exact ⟨by simp, rfl⟩
    · obtain rfl : i = n := by omega
      rw [nds_eq hi0]
      cases all
      · go_enter Tryd.func45, Tryd.ntmps45
        go_wp2
        go_ret
        exact ⟨rfl, rfl⟩
      · go_enter Tryd.func45, Tryd.ntmps45
        go_wp2
        go_ret
        exact ⟨rfl, rfl⟩
theorem refBegins_d (n i : Nat) (L : List (Nat → Nat)) (a : Option Addr) (cap : Nat) (W0 : World) (hL : L.length = n) (h1 : 1 ≤ i) (h2 : i ≤ n) (hn : n ≤ 1000) (hs : SsAt W0 a L) (hc : n ≤ cap) : Calls Tryd.prog 13 #[.slice a n cap, .int .i64 ((i : Nat) : Int)] W0 fun e w' => ∃ r, e = .returned r ∧ OwnS W0.heap.size (beg L i n true).length (beg L i n true) r w' ∧ Below W0.heap.size W0 w' := by
  have hp := refProve_d n i L a cap true W0 hL h1 h2 hn hs hc
  go_enter Tryd.func13, Tryd.ntmps13
  go_wp2_with fail
  refine hp.mono ?_
  rintro e w1 ⟨r, rfl, hb1, hb2⟩
  go_wp2
  go_ret
  exact ⟨r, rfl, hb1, hb2⟩
end Go.Proofs.YtgnmnoadfjdjdaaDoor

namespace Go.Proofs.YtgnmnoadfjdjdaaDoor
open Go.RowKit Go.Maps Sh

/-- Digests are copied into a row. -/
theorem run_copy_ss (w : World) (ty : TypeId) (g o dLen dCap : Nat) (a : Addr) (sLen sCap : Nat) (cur : Array Value) (t : TypeId) (cs : List Value) (hg : w.heap[g]? = some (.cells cur t (0, 0))) (k : Nat) (hk : Nat.min sLen dLen = k) (hn : cs.length = k * 32)
    (hsrc : ∀ j v, cs[j]? = some v → w.cell? (a.add j) = some v) (hfit : o + cs.length ≤ cur.size) (h1 : ∀ v ∈ cs, v.oneCell' = true) :
    (Builtin.copy_ #[22, 22] ty #[.slice (some ⟨g, o, none⟩) dLen dCap, .slice (some a) sLen sCap]).run Tryd.prog w = .ok (goInt k) (w.setRow g (cur.toList.take o ++ cs ++ cur.toList.drop (o + cs.length)).toArray) := by
  have hl := run_loadCells_list (P := Tryd.prog) w a cs hsrc
  have hst := run_storeCells_at Tryd.prog g o t cs 0 cur w hg (by simpa using hfit) h1
  obtain ⟨i0, hi, hz0, hz1, hz2⟩ := info_parts info_sum
  simp [Builtin.copy_, run_underlying Tryd.underlying22, Builtin.lenOf, Builtin.firstCells, sizeOf, typeInfo, hi, hz1, hk, ← hn, hl, hst]
theorem wpList_cpy {w : World} {ops : Array Oper} {rest : List Oper} {o : Oper} {a : Act} {Q : Exit → Act → World → Prop} (hgd : o.guard = none) (d s : Operand)
    (ho : o.op = .call { callee := .builtin .copy, args := #[d, s], argTypes := #[22, 22] }) (v u : Value) (hd : a.eval d = v) (hs : a.eval s = u) {v' : Value} {w' : World}
    (hr : (Builtin.copy_ #[22, 22] o.type #[v, u]).run Tryd.prog w = .ok v' w') (h : wpList Tryd.prog ops Q rest (a.put o.dst v') w') : wpList Tryd.prog ops Q (o :: rest) a w := by
  refine wpList_plain hgd fun K hK => ?_
  unfold Oper.wp execOp
  simp only [ho, resolve, invoke, builtin, Sem.run_bind, Sem.run_pure, Result.andThen_ok, List.map_toArray, List.map_cons, List.map_nil, hd, hs, hr]
  exact hK _ _ h
theorem step_cpy {w : World} {ops : Array Oper} {o : Oper} {a : Act} {K : Act → World → Prop} {Q : Exit → Act → World → Prop} {E : Prop} (hgd : o.guard = none) (d s : Operand)
    (ho : o.op = .call { callee := .builtin .copy, args := #[d, s], argTypes := #[22, 22] }) (v u : Value) (hd : a.eval d = v) (hs : a.eval s = u) {v' : Value} {w' : World}
    (hr : (Builtin.copy_ #[22, 22] o.type #[v, u]).run Tryd.prog w = .ok v' w') (hK : K (a.put o.dst v') w') :
    if Region.wanted o (yielded ops a.tmps) = true then Oper.wp Tryd.prog o a w K Q else E := by
  have hw : Region.wanted o (yielded ops a.tmps) = true := by simp [Region.wanted, hgd]
  rw [if_pos hw]
  unfold Oper.wp
  simp [execOp, ho, resolve, invoke, builtin, hd, hs, hr, Result.andThen]
  exact hK
theorem cells_R (R : Nat → Nat) : (ab 32 R).toList = ssv [R] := by
  apply List.ext_getElem?
  intro i
  rw [Array.getElem?_toList]
  by_cases h : i < 32
  · rw [show (ab 32 R)[i]? = _ from arr_get _ _ _ h]
    have := ssv_get [R] 0 i (by simp) h
    rw [show 32 * 0 + i = i by omega] at this
    rw [this]; rfl
  · rw [Array.getElem?_eq_none (by rw [ab_size]; omega), List.getElem?_eq_none (by rw [ssv_len]; simp; omega)]
theorem ssv_cons (R : Nat → Nat) (A : List (Nat → Nat)) : ssv (R :: A) = ssv [R] ++ ssv A := by simp [ssv]
/-- A row whose first cells are laid over. -/
theorem row_two (c xs ys : List Value) : let c1 := c.take 0 ++ xs ++ c.drop (0 + xs.length); (c1.take xs.length ++ ys ++ c1.drop (xs.length + ys.length)) = xs ++ ys ++ c.drop (xs.length + ys.length) := by
  intro c1
  have e1 : c1.take xs.length = xs := by simp [c1]
  have e2 : c1.drop (xs.length + ys.length) = c.drop (xs.length + ys.length) := by
    show ([] ++ xs ++ c.drop (0 + xs.length)).drop _ = _
    rw [List.nil_append, List.drop_append, List.drop_drop]
    simp
  rw [e1, e2]
theorem row_two2 (c xs ys : List Value) (h : xs.length + ys.length ≤ c.length) : let c1 := c.take xs.length ++ ys ++ c.drop (xs.length + ys.length); (c1.take 0 ++ xs ++ c1.drop (0 + xs.length)) = xs ++ ys ++ c.drop (xs.length + ys.length) := by
  intro c1
  have e2 : c1.drop (0 + xs.length) = ys ++ c.drop (xs.length + ys.length) := by
    show (c.take xs.length ++ ys ++ c.drop (xs.length + ys.length)).drop _ = _
    rw [List.append_assoc, List.drop_append]
    have : (c.take xs.length).length = xs.length := by rw [List.length_take]; omega
    rw [this]
    simp
  rw [e2]
  simp [List.append_assoc]
end Go.Proofs.YtgnmnoadfjdjdaaDoor

namespace Go.Proofs.YtgnmnoadfjdjdaaDoor
open Go.RowKit Go.Maps Sh

theorem own_mo {w : World} {base base' : Nat} {e s : Nat} {v : Value} {n : Nat} {xs : List Value} (h : w.ownsRow base e s v n xs) (hb : base' ≤ base) : w.ownsRow base' e s v n xs := by
  refine ⟨h.1, ?_⟩
  rcases h.2 with h2 | ⟨g, cap, cur, h1, h2, h3⟩
  · exact .inl h2
  · exact .inr ⟨g, cap, cur, h1, Nat.le_trans hb h2, h3⟩
theorem zc_len (z : Array Value) (hz : z.size = 32) : ∀ k, (Builtin.zeroCells z k).size = k * 32 := by
  intro k
  simp [Builtin.zeroCells, hz]
set_option maxHeartbeats 8000000 in
set_option maxRecDepth 100000 in
theorem ins_grow {w : World} {b g n : Nat} {cur : Array Value} {A : List (Nat → Nat)} {R : Nat → Nat} (hn1 : 1 ≤ n) (hn2 : n ≤ 1000000) (hA : A.length = n) (hb : w.heap[b]? = some (.cells cur 34 (0, 0))) (hct : cur.toList.take (n * 32) = ssv A) (hg : w.heap[g]? = some (.cells (ab 32 R) 34 (0, 0))) :
    Calls Tryd.prog 36 #[.slice (some ⟨b, 0, none⟩) n n, .int .i64 0, .slice (some ⟨g, 0, none⟩) 1 1] w fun e w' => ∃ r, e = .returned r ∧ w'.ownsRow w.heap.size 34 32 r (n + 1) (ssv (R :: A)) ∧ Below w.heap.size w w' := by
  obtain ⟨i0, hi0, hz0, hzs, hzb⟩ := info_parts info_sum
  have hbl := (Array.getElem?_eq_some_iff.1 hb).1
  have hgl := (Array.getElem?_eq_some_iff.1 hg).1
  have hold : (Builtin.firstCells i0.size 0 (.slice (some ⟨b, 0, none⟩) 0 n)).run Tryd.prog w.drew = .ok ([] : List Value).toArray w.drew := by
    rw [hzs]
    exact run_firstCells_some w.drew 32 0 ⟨b, 0, none⟩ 0 n [] (by simp) (fun j v hj => by simp at hj)
  have hrz : ∀ ty, (Builtin.append_ #[22, 3] ty #[.slice (some ⟨b, 0, none⟩) 0 n, .int .i64 ((n : Int) + 1)]).run Tryd.prog w = .ok (.slice (some ⟨w.heap.size, 0, none⟩) (n + 1) (grownCap w (n + 1) n 34)) (w.drew.alloc (.cells (([] : List Value).toArray ++ Builtin.zeroCells (Value.agg (ab 32 fun _ => 0)).cells (n + 1) ++ Builtin.zeroCells (Value.agg (ab 32 fun _ => 0)).cells (grownCap w (n + 1) n 34 - (n + 1))) 34)) := fun ty => by
    have h := Lib.run_append_grow_zeros w 22 3 ty 34 i0 _ .i64 .i64 Tryd.underlying22 Tryd.underlying3 hi0 hz0 (some ⟨b, 0, none⟩) 0 n [] hold (n + 1) (by omega) (by omega) (by omega) (by omega) (by rw [hzb]; omega) (by rw [hzb, Nat.zero_add]; exact growslice_fits (by omega) (by omega))
    rw [Nat.zero_add] at h
    rw [show (n : Int) + 1 = ((n + 1 : Nat) : Int) by omega]
    exact h
  obtain ⟨G, hG⟩ : ∃ G, Hid (G = grownCap w (n + 1) n 34) := ⟨_, hide1 rfl⟩
  have hGn : n + 1 ≤ G := by rw [hG.out]; exact grownCap_ge w _ _ _
  have hGm : G ≤ maxLen := by
    rw [hG.out]
    exact grownCap_le_maxLen w (n + 1) n 34 (by unfold maxLen; omega)
  rw [← hG.out] at hrz
  obtain ⟨ROW, hROW⟩ : ∃ ROW : Array Value, Hid (ROW = ([] : List Value).toArray ++ Builtin.zeroCells (Value.agg (ab 32 fun _ => 0)).cells (n + 1) ++ Builtin.zeroCells (Value.agg (ab 32 fun _ => 0)).cells (G - (n + 1))) := ⟨_, hide1 rfl⟩
  rw [← hROW.out] at hrz
  have hRs : ROW.size = G * 32 := by
    rw [hROW.out]
    simp only [Array.size_append]
    rw [show (Value.agg (ab 32 fun _ => 0)).cells = ab 32 (fun _ => 0) from rfl]
    simp only [zc_len _ (ab_size 32 (fun _ => 0))]
    simp
    omega
  have hlA : (ssv A).length = n * 32 := by rw [ssv_len, hA]
  have hlR : (ssv [R]).length = 1 * 32 := by rw [ssv_len]; rfl
  obtain ⟨w1, hw1⟩ : ∃ w1, Hid (w1 = w.drew.alloc (.cells ROW 34)) := ⟨_, hide1 rfl⟩
  have hb1 : Below w.heap.size w w1 := by rw [hw1.out]; exact (Below.refl _ _).drew.alloc (Nat.le_refl _) _
  have hr1 : w1.heap[w.heap.size]? = some (.cells ROW 34 (0, 0)) := by rw [hw1.out]; exact World.alloc_heap_new w.drew _
  have hcA : ∀ (v : World), Below w.heap.size w v → ∀ j u, (ssv A)[j]? = some u → v.cell? ((⟨b, 0, none⟩ : Addr).add j) = some u := fun v hv j u hj => by
    rw [Addr.add_lit, Nat.zero_add, cell_of_row _ _ _ _ _ _ ((hv.block b hbl).trans hb), ← Array.getElem?_toList]
    rw [← hct, List.getElem?_take] at hj
    split at hj
    · exact hj
    · cases hj
  have hcR : ∀ (v : World), Below w.heap.size w v → ∀ j u, (ssv [R])[j]? = some u → v.cell? ((⟨g, 0, none⟩ : Addr).add j) = some u := fun v hv j u hj => by
    rw [Addr.add_lit, Nat.zero_add, cell_of_row _ _ _ _ _ _ ((hv.block g hgl).trans hg), ← Array.getElem?_toList, cells_R]
    exact hj
  obtain ⟨R1, hR1⟩ : ∃ R1 : Array Value, Hid (R1 = (ROW.toList.take 0 ++ ssv [R] ++ ROW.toList.drop (0 + (ssv [R]).length)).toArray) := ⟨_, hide1 rfl⟩
  have hR1s : R1.size = G * 32 := by rw [hR1.out]; simp [hlR, hRs]; omega
  obtain ⟨w2, hw2⟩ : ∃ w2, Hid (w2 = w1.setRow w.heap.size R1) := ⟨_, hide1 rfl⟩
  have hwr2 := wrt_row (c' := R1) hr1
  have hb2 : Below w.heap.size w w2 := by rw [hw2.out]; exact below_wrt hb1 hwr2 (Nat.le_refl _) hb1.size
  have hr2 : w2.heap[w.heap.size]? = some (.cells R1 34 (0, 0)) := by rw [hw2.out]; exact hwr2.row
  have hcp1 : ∀ ty, (Builtin.copy_ #[22, 22] ty #[.slice (some ⟨w.heap.size, 0, none⟩) (n + 1) G, .slice (some ⟨g, 0, none⟩) 1 1]).run Tryd.prog w1 = .ok (goInt 1) w2 := fun ty => by
    rw [hw2.out, hR1.out]
    exact run_copy_ss w1 ty w.heap.size 0 (n + 1) G ⟨g, 0, none⟩ 1 1 ROW 34 (ssv [R]) hr1 1 (Nat.min_eq_left (by omega)) hlR (hcR w1 hb1) (by omega) (ssv_one _)
  obtain ⟨R2, hR2⟩ : ∃ R2 : Array Value, Hid (R2 = (R1.toList.take 32 ++ ssv A ++ R1.toList.drop (32 + (ssv A).length)).toArray) := ⟨_, hide1 rfl⟩
  have hR2s : R2.size = G * 32 := by rw [hR2.out]; simp [hlA, hR1s]; omega
  have hcp2 : ∀ (v : World), Below w.heap.size w v → v.heap[w.heap.size]? = some (.cells R1 34 (0, 0)) → ∀ ty, (Builtin.copy_ #[22, 22] ty #[.slice (some ⟨w.heap.size, 32, none⟩) (n + 1 - 1) (G - 1), .slice (some ⟨b, 0, none⟩) n n]).run Tryd.prog v = .ok (goInt n) (v.setRow w.heap.size R2) := fun v hv hr ty => by
    rw [hR2.out]
    exact run_copy_ss v ty w.heap.size 32 (n + 1 - 1) (G - 1) ⟨b, 0, none⟩ n n R1 34 (ssv A) hr n (by rw [Nat.add_sub_cancel]; exact Nat.min_self n) hlA (hcA v hv) (by omega) (ssv_one _)
  have htk : R2.toList.take ((n + 1) * 32) = ssv (R :: A) := by
    rw [hR2.out, hR1.out]
    have e := row_two ROW.toList (ssv [R]) (ssv A)
    rw [hlR, show 1 * 32 = 32 from rfl] at e
    simp only [hlR, show 1 * 32 = 32 from rfl]
    rw [e, ← ssv_cons, List.take_append_of_le_length (by rw [ssv_len, List.length_cons, hA]; omega)]
    exact List.take_of_length_le (by rw [ssv_len, List.length_cons, hA]; omega)
  have hend : ∀ v : World, Below w.heap.size w v → v.heap[w.heap.size]? = some (.cells R1 34 (0, 0)) → (v.setRow w.heap.size R2).ownsRow w.heap.size 34 32 (.slice (some ⟨w.heap.size, 0, none⟩) (n + 1) G) (n + 1) (ssv (R :: A)) ∧ Below w.heap.size w (v.setRow w.heap.size R2) := fun v hv hr => by
    have hwr := wrt_row (c' := R2) hr
    exact ⟨⟨by rw [ssv_len, List.length_cons, hA], .inr ⟨_, G, R2, rfl, Nat.le_refl _, hwr.row, hGn, hGm, hR2s, htk⟩⟩, below_wrt hv hwr (Nat.le_refl _) hv.size⟩
  have hz2 : ¬ ((0 : Int) = (n : Int)) := by omega
  have hz3 : (n : Int) < (n : Int) + 1 := by omega
  have hz4 : ¬ n = 0 := by omega
  have hG0 : ¬ G = 0 := by omega
  have hG1 : ¬ G = 1 := by omega
  have hG2 : (1 : Int) ≤ (n : Int) + 1 := by omega
  have hwp : IntKind.i64.wrap 1 = 1 := by decide
  clear hold hct hb hg hcA hcR htk hlA hlR hRs hR1s hR2s
  go_enter Tryd.func36, Tryd.ntmps36
  go_upto_region 10 with (at_builtin; refine Lib.wpList_append_run _ rfl _ _ _ _ rfl _ _ rfl rfl _ _ (hrz _) ?_; rw [← hw1.out])
  go_upto_region 11 with (at_builtin; refine wpList_cpy rfl (.tmp 43) (.tmp 44) rfl _ _ rfl rfl (hcp1 _) ?_)
  clear hrz hcp1 hr1 hb1 hwr2 hw1 hw2
  have hcp := fun ty => hcp2 w2.drew hb2.drew hr2 ty
  obtain ⟨hE1, hE2⟩ := hend w2.drew hb2.drew hr2
  replace hE1 := hide1 hE1
  replace hE2 := hide1 hE2
  clear hcp2 hend hb2 hr2
  go_region_law (refine step_cpy rfl (.tmp 50) (.tmp 53) rfl (.slice (some ⟨w.heap.size, 32, none⟩) (n + 1 - 1) (G - 1)) (.slice (some ⟨b, 0, none⟩) n n) (by simp [Act.eval, Act.put]) (by simp [Act.eval, Act.put]) (hcp _) ?_)
  go_wp2
  go_ret
  exact ⟨_, rfl, hE1.out, hE2.out⟩
set_option maxHeartbeats 8000000 in
set_option maxRecDepth 100000 in
theorem ins_place {w : World} {base b g n cap : Nat} {cur : Array Value} {A : List (Nat → Nat)} {R : Nat → Nat} (hn1 : 1 ≤ n) (hn2 : n ≤ 1000000) (hA : A.length = n) (hb : w.heap[b]? = some (.cells cur 34 (0, 0))) (hbb : base ≤ b) (hcs : cur.size = cap * 32) (hcap : n + 1 ≤ cap) (hcm : cap ≤ maxLen) (hct : cur.toList.take (n * 32) = ssv A) (hgb : g ≠ b) (hg : w.heap[g]? = some (.cells (ab 32 R) 34 (0, 0))) :
    Calls Tryd.prog 36 #[.slice (some ⟨b, 0, none⟩) n cap, .int .i64 0, .slice (some ⟨g, 0, none⟩) 1 1] w fun e w' => ∃ r, e = .returned r ∧ w'.ownsRow base 34 32 r (n + 1) (ssv (R :: A)) ∧ Below base w w' := by
  have hbl := (Array.getElem?_eq_some_iff.1 hb).1
  have hov : ∀ lb cb, (callFunc 58 #[.slice (some ⟨g, 0, none⟩) 1 1, .slice (some ⟨b, 32, none⟩) lb cb]).run Tryd.prog w = .ok (.value (.bool false)) w := fun lb cb => by
    rw [run_callFunc_extern Tryd.func58 (by kernel_rfl) (by kernel_rfl) (by kernel_rfl) (e := Extern.SlicesOverlaps.overlaps #[22, 22] #[4]) (by kernel_rfl),
      Lib.run_overlaps_apart w 22 4 34 Tryd.underlying22 32 (fun w => by kernel_rfl) ⟨g, 0, none⟩ ⟨b, 32, none⟩ 1 1 lb cb hgb 34 34 32 (cap * 32) (by simp [World.shape?, hg, ab_size]) (by simp [World.shape?, hb, hcs]) (by omega) (by simp [World.frozen?, hg]) (by simp [World.frozen?, hg])]
    rfl
  have hlA : (ssv A).length = n * 32 := by rw [ssv_len, hA]
  have hlR : (ssv [R]).length = 1 * 32 := by rw [ssv_len]; rfl
  obtain ⟨R1, hR1⟩ : ∃ R1 : Array Value, Hid (R1 = (cur.toList.take 32 ++ ssv A ++ cur.toList.drop (32 + (ssv A).length)).toArray) := ⟨_, hide1 rfl⟩
  have hR1s : R1.size = cap * 32 := by rw [hR1.out]; simp [hlA, hcs]; omega
  obtain ⟨w1, hw1⟩ : ∃ w1, Hid (w1 = w.drew.setRow b R1) := ⟨_, hide1 rfl⟩
  have hwr1 := wrt_row (w := w.drew) (c' := R1) hb
  have hb1 : Below base w w1 := by rw [hw1.out]; exact below_wrt (Below.refl _ _).drew hwr1 hbb (by show base ≤ w.heap.size; omega)
  have hr1 : w1.heap[b]? = some (.cells R1 34 (0, 0)) := by rw [hw1.out]; exact hwr1.row
  have hg1 : w1.heap[g]? = some (.cells (ab 32 R) 34 (0, 0)) := by rw [hw1.out]; exact (setRow_other w.drew b g R1 hgb).trans hg
  have hcp1 : ∀ ty, (Builtin.copy_ #[22, 22] ty #[.slice (some ⟨b, 32, none⟩) (n + 1 - 1) (cap - 1), .slice (some ⟨b, 0, none⟩) (n + 1) cap]).run Tryd.prog w.drew = .ok (goInt n) w1 := fun ty => by
    rw [hw1.out, hR1.out]
    refine run_copy_ss w.drew ty b 32 (n + 1 - 1) (cap - 1) ⟨b, 0, none⟩ (n + 1) cap cur 34 (ssv A) hb n (by rw [Nat.add_sub_cancel]; exact Nat.min_eq_right (by omega)) hlA (fun j u hj => ?_) (by omega) (ssv_one _)
    rw [Addr.add_lit, Nat.zero_add, show w.drew.cell? ⟨b, j, none⟩ = _ from cell_of_row w.drew _ _ _ _ _ hb, ← Array.getElem?_toList]
    rw [← hct, List.getElem?_take] at hj
    split at hj
    · exact hj
    · cases hj
  obtain ⟨R2, hR2⟩ : ∃ R2 : Array Value, Hid (R2 = (R1.toList.take 0 ++ ssv [R] ++ R1.toList.drop (0 + (ssv [R]).length)).toArray) := ⟨_, hide1 rfl⟩
  have hR2s : R2.size = cap * 32 := by rw [hR2.out]; simp [hlR, hR1s]; omega
  have hcp2 : ∀ ty, (Builtin.copy_ #[22, 22] ty #[.slice (some ⟨b, 0, none⟩) (n + 1) cap, .slice (some ⟨g, 0, none⟩) 1 1]).run Tryd.prog w1 = .ok (goInt 1) (w1.setRow b R2) := fun ty => by
    rw [hR2.out]
    refine run_copy_ss w1 ty b 0 (n + 1) cap ⟨g, 0, none⟩ 1 1 R1 34 (ssv [R]) hr1 1 (Nat.min_eq_left (by omega)) hlR (fun j u hj => ?_) (by omega) (ssv_one _)
    rw [Addr.add_lit, Nat.zero_add, cell_of_row _ _ _ _ _ _ hg1, ← Array.getElem?_toList, cells_R]
    exact hj
  have htk : R2.toList.take ((n + 1) * 32) = ssv (R :: A) := by
    rw [hR2.out, hR1.out]
    have e := row_two2 cur.toList (ssv [R]) (ssv A) (by rw [hlA, hlR, Array.length_toList, hcs]; omega)
    simp only [hlR, show 1 * 32 = 32 from rfl] at e ⊢
    rw [e, ← ssv_cons, List.take_append_of_le_length (by rw [ssv_len, List.length_cons, hA]; omega)]
    exact List.take_of_length_le (by rw [ssv_len, List.length_cons, hA]; omega)
  have hwr2 := wrt_row (c' := R2) hr1
  have hE1 : Hid ((w1.setRow b R2).ownsRow base 34 32 (.slice (some ⟨b, 0, none⟩) (n + 1) cap) (n + 1) (ssv (R :: A))) := hide1 ⟨by rw [ssv_len, List.length_cons, hA], .inr ⟨_, cap, R2, rfl, hbb, hwr2.row, hcap, hcm, hR2s, htk⟩⟩
  have hE2 : Hid (Below base w (w1.setRow b R2)) := hide1 (below_wrt hb1 hwr2 hbb (by have := hb1.size; omega))
  have hz2 : ¬ ((0 : Int) = (n : Int)) := by omega
  have hz3 : ¬ (cap : Int) < (n : Int) + 1 := by omega
  have hz4 : ¬ cap = 0 := by omega
  have hz5 : (n : Int) + 1 ≤ (cap : Int) := by omega
  have hG1 : ¬ cap = 1 := by omega
  have hG2 : (1 : Int) ≤ (n : Int) + 1 := by omega
  have hG3 : (0 : Int) ≤ (n : Int) + 1 := by omega
  have hG4 : ((n : Int) + 1).toNat = n + 1 := by omega
  have hwp : IntKind.i64.wrap 1 = 1 := by decide
  clear hct hb hg hg1 htk hlA hlR hR1s hR2s hwr1 hwr2 hb1 hr1 hR1 hR2 hw1
  go_enter Tryd.func36, Tryd.ntmps36
  go_wp2_with (simp only [hov])
  clear hov
  go_region_law (refine step_cpy rfl (.tmp 73) (.tmp 76) rfl (.slice (some ⟨b, 32, none⟩) (n + 1 - 1) (cap - 1)) (.slice (some ⟨b, 0, none⟩) (n + 1) cap) (by simp [Act.eval, Act.put]) (by simp [Act.eval, Act.put]) (hcp1 _) ?_)
  go_wp2_with (at_builtin; refine wpList_cpy rfl (.tmp 80) (.tmp 81) rfl _ _ rfl rfl (hcp2 _) ?_)
  go_ret
  exact ⟨_, rfl, hE1.out, hE2.out⟩
/-- One digest is put ahead of a row of the call's own. -/
theorem ins_d {w : World} {base g n : Nat} {v : Value} {A : List (Nat → Nat)} {R : Nat → Nat} (hn1 : 1 ≤ n) (hn2 : n ≤ 1000000) (hA : A.length = n) (ho : w.ownsRow base 34 32 v n (ssv A)) (hbase : base ≤ w.heap.size) (hg : w.heap[g]? = some (.cells (ab 32 R) 34 (0, 0))) (hgo : v.ownBlock ≠ some g) :
    Calls Tryd.prog 36 #[v, .int .i64 0, .slice (some ⟨g, 0, none⟩) 1 1] w fun e w' => ∃ r, e = .returned r ∧ w'.ownsRow base 34 32 r (n + 1) (ssv (R :: A)) ∧ Below base w w' := by
  rcases ho.2 with ⟨_, h⟩ | ⟨b, cap, cur, rfl, hbb, hb, hnc, hcm, hcs, hct⟩
  · omega
  · have hgb : g ≠ b := fun e => hgo (by rw [e]; rfl)
    rcases Nat.lt_or_ge cap (n + 1) with h | h
    · obtain rfl : cap = n := by omega
      exact (ins_grow hn1 hn2 hA hb hct hg).mono fun e w' ⟨r, h1, h2, h3⟩ => ⟨r, h1, own_mo h2 hbase, h3.mono hbase⟩
    · exact ins_place hn1 hn2 hA hb hbb hcs h hcm hct hgb hg
end Go.Proofs.YtgnmnoadfjdjdaaDoor

namespace Go.Proofs.YtgnmnoadfjdjdaaDoor
open Go.RowKit Go.Shelf Sh

set_option maxHeartbeats 4000000 in
theorem begins_bad {a : Option Addr} {n cap : Nat} {m : Int} {w : World} (h : m < 1 ∨ (n : Int) < m) : Calls Tryd.prog 10 #[.slice a n cap, .int .i64 m] w fun e W' => e = .returned (.tuple #[.slice none 0 0, ev 2]) ∧ W' = w := by
  by_cases h0 : m < 1
  · go_enter Tryd.func10, Tryd.ntmps10
    go_wp2
    go_ret2
    exact ⟨rfl, rfl⟩
  · have h1 : (n : Int) < m := by omega
    go_enter Tryd.func10, Tryd.ntmps10
    go_wp2
    go_ret2
    exact ⟨rfl, rfl⟩
theorem ahead_le (m n : Nat) : (aheadL m n).length ≤ n := Nat.le_trans (List.takeWhile_prefix _).length_le (way_le _ _)
theorem own_lt {w : World} {base e s n g : Nat} {v : Value} {xs : List Value} (h : w.ownsRow base e s v n xs) (hg : v.ownBlock = some g) : g < w.heap.size := by
  rcases h.2 with ⟨rfl, _⟩ | ⟨q, cap, cur, rfl, _, hq, _⟩
  · cases hg
  · obtain rfl : q = g := by simpa [Value.ownBlock] using hg
    exact (Array.getElem?_eq_some_iff.1 hq).1
set_option maxHeartbeats 8000000 in
set_option maxRecDepth 100000 in
theorem begins_d {a : Option Addr} {n cap m : Nat} {L : List (Nat → Nat)} {w : World} (hg : Gl w) (hm1 : 1 ≤ m) (hm2 : m ≤ n) (hL : L.length = n) (hn : n ≤ 100000) (hcap : n ≤ cap) (hS : SsAt w a L) :
    Calls Tryd.prog 10 #[.slice a n cap, .int .i64 ((m : Nat) : Int)] w fun e W' => ∃ v, e = .returned (.tuple #[v, .nilIface]) ∧ W'.ownsRow w.heap.size 34 32 v (beg L m n true).length (ssv (beg L m n true)) ∧ Below w.heap.size w W' := by
  obtain ⟨b, off, rfl, _⟩ := hS.2 (by omega)
  have h0 : ¬ (m : Int) < 1 := by omega
  have h1 : ¬ (n : Int) < (m : Int) := by omega
  obtain ⟨q1, q2, q3, q4⟩ := cuts_two (w := w) m n
  have hx := ahead_le m n
  have hseq := ahead_seq hm1 hm2 (by omega) q1 q2
  have eg := enters_of Tryd.func57 (by kernel_rfl) rfl
  have ha := asides_d (gf := 57) eg hseq (fun j hj => by rcases hj with rfl | rfl <;> omega) (by omega) (gl_b hg q3) hL (by omega) hcap (hS.later q3) (ahead_ok m n)
  have hst : ∀ v, Below ((w.alloc (.cells #[.int .i64 ((m : Nat) : Int)] 3)).alloc (.cells #[.int .i64 ((n : Nat) : Int)] 3)).heap.size ((w.alloc (.cells #[.int .i64 ((m : Nat) : Int)] 3)).alloc (.cells #[.int .i64 ((n : Nat) : Int)] 3)) v → Calls Tryd.prog 35 #[.func (.func 57) #[] #[.pointer (some ⟨w.heap.size, 0, none⟩), .pointer (some ⟨w.heap.size + 1, 0, none⟩)]] v fun e W' => e = .returned (.int .i64 ((stF (aheadL m n) : Nat) : Int)) ∧ Below v.heap.size v W' := fun v hv =>
    start_d eg (hseq.later hv) (fun j hj => by have := hv.size; rcases hj with rfl | rfl <;> omega)
  have hstl := st_lt n m hm1 hm2
  have hz := q3.size
  have hroot := fun v (hv : Below w.heap.size w v) => root_d (m - stF (aheadL m n)) (part L (stF (aheadL m n)) m) (some ⟨b, off + 32 * stF (aheadL m n), none⟩) (cap - stF (aheadL m n)) v (part_len (by omega)) (by omega) (gl_b hg hv) ((hS.later hv).part) (by omega)
  obtain ⟨R, hR⟩ : ∃ R, Hid (R = root (part L (stF (aheadL m n)) m)) := ⟨_, hide1 rfl⟩
  have hRl : ∀ i, R i < 256 := by rw [hR.out]; exact root_lt _ _ rfl (fun F hF => hS.1 F (List.mem_of_mem_take (List.mem_of_mem_drop hF)))
  have hlA : (asl L (aheadL m n)).length = (aheadL m n).length := asl_len _ _
  have hpos : 0 < stF (aheadL m n) → 1 ≤ (aheadL m n).length := fun h => by
    rcases Nat.eq_zero_or_pos (aheadL m n).length with h2 | h2
    · rw [List.eq_nil_of_length_eq_zero h2] at h; exact absurd h (by decide)
    · exact h2
  have hbeg : Hid (beg L m n true = (if stF (aheadL m n) = 0 then [] else [R]) ++ asl L (aheadL m n)) := hide1 (by
    rw [hR.out]; unfold beg
    by_cases h : stF (aheadL m n) = 0
    · simp [h]
    · simp [h])
  rw [← hR.out, Nat.mul_comm 32] at hroot
  clear q1 q2 q4 hseq eg
  generalize hA : asl L (aheadL m n) = A at *
  generalize hst' : stF (aheadL m n) = s at *
  generalize hN : (aheadL m n).length = N at *
  replace hA := hide1 hA
  replace hst' := hide1 hst'
  replace hN := hide1 hN
  by_cases hs : s = 0
  · subst hs
    have hb2 : beg L m n true = A := by rw [hbeg.out]; simp
    rw [hb2, hlA]
    clear hbeg hb2 hroot
    go_enter Tryd.func10, Tryd.ntmps10
    go_wp2_with fail
    refine (ahead_d _ _ _).mono ?_
    rintro e w' ⟨rfl, rfl⟩
    go_wp2_with fail
    refine ha.mono ?_
    rintro e w1 ⟨v, rfl, ho, hb⟩
    go_wp2_with fail
    refine (hst w1 hb).mono ?_
    rintro e w2 ⟨rfl, hb2⟩
    go_wp2
    go_ret2
    exact ⟨v, rfl, own_weak (own_later ho hb2) hz, blw (blw q3 hb) hb2⟩
  · have hb2 : beg L m n true = R :: A := by rw [hbeg.out, if_neg hs]; rfl
    rw [hb2, List.length_cons, hlA]
    have hN1 := hpos (by omega)
    have hs0 : (0 : Int) < (s : Int) := by omega
    have hsm : (s : Int) ≤ (m : Int) := by omega
    have hmc : (m : Int) ≤ (cap : Int) := by omega
    have hcs : ¬ cap = s := by omega
    clear hbeg hb2 hpos
    go_enter Tryd.func10, Tryd.ntmps10
    go_wp2_with fail
    refine (ahead_d _ _ _).mono ?_
    rintro e w' ⟨rfl, rfl⟩
    go_wp2_with fail
    refine ha.mono ?_
    rintro e w1 ⟨v, rfl, ho, hb⟩
    go_wp2_with fail
    refine (hst w1 hb).mono ?_
    rintro e w2 ⟨rfl, hb2⟩
    have hb02 := blw (blw q3 hb) hb2
    go_wp2_with fail
    refine (hroot w2 hb02).mono ?_
    rintro e w3 ⟨rfl, hb3⟩
    have hal : Below w3.heap.size w3 (w3.alloc (.cells (ab 32 R) 34)) := (Below.refl _ _).alloc (Nat.le_refl _) _
    have ho3 := own_later (own_later ho hb2) hb3
    have hb04 := blw (blw hb02 hb3) hal
    have hlt3 := fun h => own_lt (g := w3.heap.size) ho3 h
    have hins := ins_d hN1 (by omega) hlA (own_weak (own_later ho3 hal) hz) hb04.size (World.alloc_heap_new w3 _) (fun h => Nat.lt_irrefl _ (hlt3 h))
    clear ha hst hroot ho ho3 hlt3
    go_wp2_with (refine wpList_bs_sum rfl (.tmp 34) rfl rfl ?_)
    refine hins.mono ?_
    rintro e w5 ⟨r, rfl, ho5, hb5⟩
    go_wp2
    go_ret2
    exact ⟨r, rfl, ho5, hb04.trans hb5⟩
end Go.Proofs.YtgnmnoadfjdjdaaDoor

namespace Go.Proofs.YtgnmnoadfjdjdaaDoor
open Go.RowKit Sh
theorem txt_F {F G : Nat → Nat} {i : Nat} (h : i < 32) : txt F G (i + 1) = F i := by
  unfold txt
  rw [if_neg (by omega), if_pos (by omega), show i + 1 - 1 = i by omega]
theorem txt_G {F G : Nat → Nat} {i : Nat} : txt F G (i + 33) = G i := by
  unfold txt
  rw [if_neg (by omega), if_neg (by omega), show i + 33 - 33 = i by omega]
theorem txt_apart {F G F' G' : Nat → Nat} (h : ∀ i, i < 65 → txt F G i = txt F' G' i) : Eq32 F F' ∧ Eq32 G G' := by
  constructor
  · intro i hi
    have := h (i + 1) (by omega)
    rwa [txt_F hi, txt_F hi] at this
  · intro i hi
    have := h (i + 33) (by omega)
    rwa [txt_G, txt_G] at this
theorem nd_cases {F G F' G' : Nat → Nat} (h : Eq32 (nd F G) (nd F' G')) : (Eq32 F F' ∧ Eq32 G G') ∨ Clash (txt F G) (txt F' G') := by
  by_cases he : ∀ i, i < 65 → txt F G i = txt F' G' i
  · exact .inl (txt_apart he)
  · refine .inr ⟨h, ?_⟩
    obtain ⟨i, hi⟩ := Classical.not_forall.1 he
    exact ⟨i, Classical.not_imp.1 hi |>.1, Classical.not_imp.1 hi |>.2⟩
end Go.Proofs.YtgnmnoadfjdjdaaDoor

namespace Go.Proofs.YtgnmnoadfjdjdaaDoor
open Go.RowKit Sh

/-- What a proof begins with: the digest that is known, or the proof's first one. -/
def F0 (all : Bool) (m n : Nat) (old : Nat → Nat) (ps : List (Nat → Nat)) : Nat → Nat := if all && decide (stF (aheadL m n) = 0) then old else ps.getD 0 fun _ => 0
/-- .. and the others. -/
def Q0 (all : Bool) (m n : Nat) (ps : List (Nat → Nat)) : List (Nat → Nat) := if all && decide (stF (aheadL m n) = 0) then ps else ps.drop 1
/-- The texts digested on the way up, of both. -/
def btL : List Cu → List (Nat → Nat) → (Nat → Nat) → (Nat → Nat) → List (Nat → Nat)
  | c :: cs, p :: ps, W, N => (if c.r then [txt p W, txt p N] else [txt N p]) ++ btL cs ps (if c.r then jn c.r W p else W) (jn c.r N p)
  | _, _, _, _ => []
theorem btL_snoc : ∀ (cs : List Cu) (ps : List (Nat → Nat)) (W N : Nat → Nat) (c : Cu) (p : Nat → Nat), cs.length = ps.length → btL (cs ++ [c]) (ps ++ [p]) W N = btL cs ps W N ++ (if c.r then [txt p (firstL cs ps W), txt p (comeL cs ps N)] else [txt (comeL cs ps N) p])
  | [], [], W, N, c, p, _ => by show _ ++ [] = [] ++ _; rw [List.append_nil, List.nil_append]; rfl
  | c' :: cs, p' :: ps, W, N, c, p, h => by
    show _ ++ btL (cs ++ [c]) (ps ++ [p]) _ _ = _
    rw [btL_snoc cs ps _ _ c p (by simpa using h), ← List.append_assoc]; rfl
  | [], _ :: _, _, _, _, _, h => by simp at h
  | _ :: _, [], _, _, _, _, h => by simp at h
theorem btL_map (s : Nat) : ∀ (cs : List Cu) (ps : List (Nat → Nat)) (W N : Nat → Nat), btL (cs.map (sh s)) ps W N = btL cs ps W N
  | [], [], _, _ => rfl
  | [], _ :: _, _, _ => rfl
  | _ :: _, [], _, _ => rfl
  | c :: cs, p :: ps, W, N => by
    show _ ++ btL (cs.map (sh s)) ps _ _ = _
    rw [btL_map s cs ps _ _]; rfl
theorem btL_len : ∀ (cs : List Cu) (ps : List (Nat → Nat)) (W N : Nat → Nat), (btL cs ps W N).length ≤ 2 * ps.length
  | [], [], _, _ => Nat.zero_le _
  | [], _ :: _, _, _ => Nat.zero_le _
  | _ :: _, [], _, _ => Nat.zero_le _
  | c :: cs, p :: ps, W, N => by
    show (_ ++ btL cs ps _ _).length ≤ _
    have := btL_len cs ps (if c.r then jn c.r W p else W) (jn c.r N p)
    rw [List.length_append, List.length_cons]
    generalize (btL cs ps (if c.r then jn c.r W p else W) (jn c.r N p)).length = k at *
    split <;> simp <;> omega
theorem firstL_lt {F : Nat → Nat} (hF : ∀ i, F i < 256) : ∀ (cs : List Cu) (ps : List (Nat → Nat)), ∀ i, firstL cs ps F i < 256 := by
  intro cs
  induction cs generalizing F with
  | nil => intro ps; cases ps <;> exact hF
  | cons c cs ih =>
    intro ps
    cases ps with
    | nil => exact hF
    | cons p ps =>
      refine ih (F := if c.r then jn c.r F p else F) (fun i => ?_) ps
      split
      · exact jn_lt _ _ _ i
      · exact hF i
def wasB (all : Bool) (m n : Nat) (old : Nat → Nat) (ps : List (Nat → Nat)) : Nat → Nat := firstL (aheadL m n).reverse (Q0 all m n ps) (F0 all m n old ps)
def nowB (all : Bool) (m n : Nat) (old : Nat → Nat) (ps : List (Nat → Nat)) : Nat → Nat := comeL (aheadL m n).reverse (Q0 all m n ps) (F0 all m n old ps)
def txB (all : Bool) (m n : Nat) (old : Nat → Nat) (ps : List (Nat → Nat)) : List (Nat → Nat) := btL (aheadL m n).reverse (Q0 all m n ps) (F0 all m n old ps) (F0 all m n old ps)
theorem F0_lt {all : Bool} {m n : Nat} {old : Nat → Nat} {ps : List (Nat → Nat)} (ho : ∀ i, old i < 256) (hp : ∀ P ∈ ps, ∀ j, P j < 256) : ∀ i, F0 all m n old ps i < 256 := by
  unfold F0
  split
  · exact ho
  · exact getD_lt hp 0
theorem wasB_lt {all : Bool} {m n : Nat} {old : Nat → Nat} {ps : List (Nat → Nat)} (ho : ∀ i, old i < 256) (hp : ∀ P ∈ ps, ∀ j, P j < 256) : ∀ i, wasB all m n old ps i < 256 := firstL_lt (F0_lt ho hp) _ _
theorem nowB_lt {all : Bool} {m n : Nat} {old : Nat → Nat} {ps : List (Nat → Nat)} (ho : ∀ i, old i < 256) (hp : ∀ P ∈ ps, ∀ j, P j < 256) : ∀ i, nowB all m n old ps i < 256 := comeL_lt (F0_lt ho hp) _ _
theorem txB_len {all : Bool} {m n : Nat} {old : Nat → Nat} {ps : List (Nat → Nat)} : (txB all m n old ps).length ≤ 2 * ps.length := by
  refine Nat.le_trans (btL_len _ _ _ _) ?_
  unfold Q0
  split
  · omega
  · rw [List.length_drop]; omega
theorem Q0_len {all : Bool} {m n : Nat} {ps : List (Nat → Nat)} (h : ps.length = nds m n all) : (Q0 all m n ps).length = (aheadL m n).length := by
  unfold Q0
  unfold nds at h
  split
  · rename_i h1; rw [if_pos h1] at h; omega
  · rename_i h1; rw [if_neg h1] at h; rw [List.length_drop]; omega
theorem snoc0 {all : Bool} {m n : Nat} {old p : Nat → Nat} {ps : List (Nat → Nat)} (h : ps.length = nds m n all) : F0 all m n old (ps ++ [p]) = F0 all m n old ps ∧ Q0 all m n (ps ++ [p]) = Q0 all m n ps ++ [p] := by
  unfold F0 Q0
  unfold nds at h
  by_cases h1 : (all && decide (stF (aheadL m n) = 0)) = true
  · rw [if_pos h1, if_pos h1, if_pos h1, if_pos h1]; exact ⟨rfl, rfl⟩
  · rw [if_neg h1] at h
    rw [if_neg h1, if_neg h1, if_neg h1, if_neg h1]
    cases ps with
    | nil => simp at h; omega
    | cons q qs => exact ⟨rfl, rfl⟩
theorem F0_lo {all : Bool} {m n : Nat} {old : Nat → Nat} {ps : List (Nat → Nat)} (hm : 1 ≤ m) (hn : 2 ≤ n) (h : m ≤ cut n) : F0 all m n old ps = F0 all m (cut n) old ps ∧ Q0 all m n ps = Q0 all m (cut n) ps := by
  unfold F0 Q0; rw [st_lo hm hn h]; exact ⟨rfl, rfl⟩
theorem F0_hi {all : Bool} {m n : Nat} {old : Nat → Nat} {ps : List (Nat → Nat)} (hmn : m < n) (hn : 2 ≤ n) (h : cut n < m) : F0 all m n old ps = F0 false (m - cut n) (n - cut n) old ps ∧ Q0 all m n ps = Q0 false (m - cut n) (n - cut n) ps := by
  have hc := cut_in hn
  unfold F0 Q0
  rw [st_hi hmn hn h, decide_eq_false (by omega : ¬ stF (aheadL (m - cut n) (n - cut n)) + cut n = 0)]
  cases all <;> exact ⟨rfl, rfl⟩
theorem both_eq {n : Nat} (hn : 1 ≤ n) (all : Bool) (old : Nat → Nat) (ps : List (Nat → Nat)) : wasB all n n old ps = (if all then old else ps.getD 0 fun _ => 0) ∧ nowB all n n old ps = (if all then old else ps.getD 0 fun _ => 0) ∧ txB all n n old ps = [] := by
  have e : F0 all n n old ps = if all then old else ps.getD 0 fun _ => 0 := by unfold F0; rw [st_eq hn]; cases all <;> rfl
  unfold wasB nowB txB
  rw [ahead_eq hn, e]
  refine ⟨?_, ?_, ?_⟩
  · cases Q0 all n n ps <;> rfl
  · cases Q0 all n n ps <;> rfl
  · cases Q0 all n n ps <;> rfl
theorem both_lo {all : Bool} {m n : Nat} {old p : Nat → Nat} {ps : List (Nat → Nat)} (hm : 1 ≤ m) (hn : 2 ≤ n) (h : m ≤ cut n) (hl : ps.length = nds m (cut n) all) :
    wasB all m n old (ps ++ [p]) = wasB all m (cut n) old ps ∧ nowB all m n old (ps ++ [p]) = nd (nowB all m (cut n) old ps) p ∧ txB all m n old (ps ++ [p]) = txB all m (cut n) old ps ++ [txt (nowB all m (cut n) old ps) p] := by
  have hq := Q0_len hl
  obtain ⟨e1, e2⟩ := F0_lo (all := all) (old := old) (ps := ps ++ [p]) hm hn h
  obtain ⟨e3, e4⟩ := snoc0 (old := old) (p := p) hl
  unfold wasB nowB txB
  rw [e1, e2, e3, e4]
  refine ⟨fst_lo hm hn h hq, all_lo hm hn h hq, ?_⟩
  rw [ahead_lo hm hn h, List.reverse_cons, btL_snoc _ _ _ _ _ _ (by rw [List.length_reverse]; exact hq.symm)]
  rfl
theorem both_hi {all : Bool} {m n : Nat} {old p : Nat → Nat} {ps : List (Nat → Nat)} (hmn : m < n) (hn : 2 ≤ n) (h : cut n < m) (hl : ps.length = nds (m - cut n) (n - cut n) false) :
    wasB all m n old (ps ++ [p]) = nd p (wasB false (m - cut n) (n - cut n) old ps) ∧ nowB all m n old (ps ++ [p]) = nd p (nowB false (m - cut n) (n - cut n) old ps) ∧ txB all m n old (ps ++ [p]) = txB false (m - cut n) (n - cut n) old ps ++ [txt p (wasB false (m - cut n) (n - cut n) old ps), txt p (nowB false (m - cut n) (n - cut n) old ps)] := by
  have hq := Q0_len hl
  obtain ⟨e1, e2⟩ := F0_hi (all := all) (old := old) (ps := ps ++ [p]) hmn hn h
  obtain ⟨e3, e4⟩ := snoc0 (old := old) (p := p) hl
  unfold wasB nowB txB
  rw [e1, e2, e3, e4]
  refine ⟨fst_hi hmn hn h hq, all_hi hmn hn h hq, ?_⟩
  rw [ahead_hi hmn hn h, List.reverse_cons, btL_snoc _ _ _ _ _ _ (by rw [List.length_reverse, List.length_map]; exact hq.symm), ← List.map_reverse, btL_map, firstL_map, comeL_map]
  rfl
theorem nd_cong {F G F' G' : Nat → Nat} (h1 : Eq32 F F') (h2 : Eq32 G G') : nd F G = nd F' G' := by
  refine dg_cong fun i hi => ?_
  unfold txt
  by_cases c0 : i = 0
  · rw [if_pos c0, if_pos c0]
  · rw [if_neg c0, if_neg c0]
    by_cases c1 : i < 33
    · rw [if_pos c1, if_pos c1, h1 (i - 1) (by omega)]
    · rw [if_neg c1, if_neg c1, h2 (i - 33) (by omega)]
/-- A proof that comes to a row's digest comes to that of its first ones, or two unlike texts have one digest. -/
theorem old_clash : ∀ (n m : Nat) (L qs : List (Nat → Nat)) (F : Nat → Nat), L.length = n → 1 ≤ m → m ≤ n → qs.length = (aheadL m n).length → Eq32 (comeL (aheadL m n).reverse qs F) (root L) →
    Eq32 (firstL (aheadL m n).reverse qs F) (root (L.take m)) ∨ ∃ T ∈ btL (aheadL m n).reverse qs F F, ∃ U ∈ texts L ++ texts (L.take m), Clash T U := by
  intro n
  induction n using Nat.strongRecOn with
  | ind n ih =>
    intro m L qs F hL hm hmn hl he
    rcases Nat.lt_or_ge m n with hlt | hge
    · have h2 : 2 ≤ n := by omega
      have hc := cut_in h2
      have hm1 : 1 ≤ qs.length := by
        rcases Nat.lt_or_ge (cut n) m with h | h
        · rw [hl, ahead_hi hlt h2 h]; simp
        · rw [hl, ahead_lo hm h2 h]; simp
      have e1 : qs = qs.take (qs.length - 1) ++ [qs.getD (qs.length - 1) fun _ => 0] := by
        have := List.take_succ_eq_append_getElem (l := qs) (i := qs.length - 1) (by omega)
        rw [show qs.length - 1 + 1 = qs.length by omega, List.take_of_length_le (by omega)] at this
        conv => lhs; rw [this]
        congr 2
        simp [List.getD_eq_getElem?_getD, show qs.length - 1 < qs.length by omega]
      have lt1 : (qs.take (qs.length - 1)).length = qs.length - 1 := by rw [List.length_take]; omega
      rw [root_n (l := L) (by omega), hL] at he
      have htx := texts_n (l := L) (by omega)
      rw [hL] at htx
      generalize qs.take (qs.length - 1) = ps at *
      generalize (qs.getD (qs.length - 1) fun _ => 0) = p at *
      rw [e1] at he ⊢
      rcases Nat.lt_or_ge (cut n) m with h | h
      · have hl' : ps.length = (aheadL (m - cut n) (n - cut n)).length := by rw [ahead_hi hlt h2 h, List.length_cons, List.length_map] at hl; omega
        have hlm : (L.take m).length = m := by rw [List.length_take]; omega
        have htm := texts_n (l := L.take m) (by omega)
        rw [hlm, cut_same h h2 hmn, List.take_take, Nat.min_eq_left (by omega), List.drop_take] at htm
        have hbt : btL (aheadL m n).reverse (ps ++ [p]) F F = btL (aheadL (m - cut n) (n - cut n)).reverse ps F F ++ [txt p (firstL (aheadL (m - cut n) (n - cut n)).reverse ps F), txt p (comeL (aheadL (m - cut n) (n - cut n)).reverse ps F)] := by
          rw [ahead_hi hlt h2 h, List.reverse_cons, btL_snoc _ _ _ _ _ _ (by rw [List.length_reverse, List.length_map]; exact hl'.symm), ← List.map_reverse, btL_map, firstL_map, comeL_map]
          rfl
        rw [all_hi hlt h2 h hl'] at he
        rw [fst_hi hlt h2 h hl', hbt]
        rcases nd_cases he with ⟨h3, h4⟩ | h3
        · rcases ih (n - cut n) (by omega) (m - cut n) (L.drop (cut n)) ps F (by rw [List.length_drop]; omega) (by omega) (by omega) hl' h4 with h5 | ⟨T, hT, U, hU, hcl⟩
          · refine .inl ?_
            rw [root_n (l := L.take m) (by omega), hlm, cut_same h h2 hmn, List.take_take, Nat.min_eq_left (by omega), List.drop_take, nd_cong h3 h5]
            exact fun _ _ => rfl
          · refine .inr ⟨T, List.mem_append_left _ hT, U, ?_, hcl⟩
            rw [htx, htm]
            rcases List.mem_append.1 hU with hU | hU
            · exact List.mem_append_left _ (List.mem_append_left _ (List.mem_append_right _ hU))
            · exact List.mem_append_right _ (List.mem_append_left _ (List.mem_append_right _ hU))
        · refine .inr ⟨_, List.mem_append_right _ (List.mem_cons_of_mem _ (List.mem_singleton.2 rfl)), _, ?_, h3⟩
          rw [htx]
          exact List.mem_append_left _ (List.mem_append_right _ (List.mem_singleton.2 rfl))
      · have hl' : ps.length = (aheadL m (cut n)).length := by rw [ahead_lo hm h2 h, List.length_cons] at hl; omega
        have hbt : btL (aheadL m n).reverse (ps ++ [p]) F F = btL (aheadL m (cut n)).reverse ps F F ++ [txt (comeL (aheadL m (cut n)).reverse ps F) p] := by
          rw [ahead_lo hm h2 h, List.reverse_cons, btL_snoc _ _ _ _ _ _ (by rw [List.length_reverse]; exact hl'.symm)]
          rfl
        have htk : (L.take (cut n)).take m = L.take m := by rw [List.take_take, Nat.min_eq_left h]
        rw [all_lo hm h2 h hl'] at he
        rw [fst_lo hm h2 h hl', hbt]
        rcases nd_cases he with ⟨h3, _⟩ | h3
        · rcases ih (cut n) hc.2.1 m (L.take (cut n)) ps F (by rw [List.length_take]; omega) hm h hl' h3 with h5 | ⟨T, hT, U, hU, hcl⟩
          · rw [htk] at h5
            exact .inl h5
          · rw [htk] at hU
            refine .inr ⟨T, List.mem_append_left _ hT, U, ?_, hcl⟩
            rw [htx]
            rcases List.mem_append.1 hU with hU | hU
            · exact List.mem_append_left _ (List.mem_append_left _ (List.mem_append_left _ hU))
            · exact List.mem_append_right _ hU
        · refine .inr ⟨_, List.mem_append_right _ (List.mem_singleton.2 rfl), _, ?_, h3⟩
          rw [htx]
          exact List.mem_append_left _ (List.mem_append_right _ (List.mem_singleton.2 rfl))
    · obtain rfl : m = n := by omega
      rw [ahead_eq hm] at hl he ⊢
      obtain rfl : qs = [] := List.eq_nil_of_length_eq_zero hl
      rw [List.take_of_length_le (by omega)]
      exact .inl he
end Go.Proofs.YtgnmnoadfjdjdaaDoor

namespace Go.Proofs.YtgnmnoadfjdjdaaDoor
open Go.RowKit Go.Maps Sh

theorem ldR {c : Cu} {b : Bool} (hb : c.r = b) (t0 : TypeId) (w : World) (q : Nat) (h : w.heap[q]? = some (.cells (cvA c) t0 (0, 0))) : (Instr.loadAt 4 (.pointer (some ⟨q, 3, none⟩))).run Tryd.prog w = .ok (.bool b) w := by
  have hc : w.cell? ⟨q, 3, none⟩ = some (.bool b) := by rw [cell_of_row _ _ _ _ _ _ h, ← hb]; rfl
  simp [Instr.loadAt, go_sem, hc]
theorem gt_i {x u : Operand} {m n : Int} {b : Bool} (h : decide (n < m) = b) (w : World) : (do eqGuard .gtr 3 x u (.int .i64 m) (.int .i64 n); binOp .gtr 3 (.int .i64 m) (.int .i64 n)).run Tryd.prog w = .ok (.bool b) w := by
  subst h; simp [eqGuard, binOp, go_sem]
theorem fst_stepG {cs : List Cu} {ps : List (Nat → Nat)} {F : Nat → Nat} {N k : Nat} (lc : cs.length = N) (lp : ps.length = N) (hk : k < N) : firstL (cs.take (k + 1)) (ps.take (k + 1)) F = if (cs.getD k default).r then jn (cs.getD k default).r (firstL (cs.take k) (ps.take k) F) (ps.getD k fun _ => 0) else firstL (cs.take k) (ps.take k) F := by
  rw [List.take_succ_eq_append_getElem (by omega), List.take_succ_eq_append_getElem (l := ps) (by omega), firstL_snoc _ _ _ _ _ (by rw [List.length_take, List.length_take]; omega)]
  simp [List.getD_eq_getElem?_getD, show k < cs.length by omega, show k < ps.length by omega]
theorem fst_t {cs : List Cu} {ps : List (Nat → Nat)} {F : Nat → Nat} {N k : Nat} (lc : cs.length = N) (lp : ps.length = N) (hk : k < N) (hcr : (cs.getD k default).r = true) : jn (cs.getD k default).r (firstL (cs.take k) (ps.take k) F) (ps.getD k fun _ => 0) = firstL (cs.take (k + 1)) (ps.take (k + 1)) F := by
  rw [fst_stepG lc lp hk, if_pos hcr]
theorem fst_f {cs : List Cu} {ps : List (Nat → Nat)} {F : Nat → Nat} {N k : Nat} (lc : cs.length = N) (lp : ps.length = N) (hk : k < N) (hcr : (cs.getD k default).r = false) : firstL (cs.take k) (ps.take k) F = firstL (cs.take (k + 1)) (ps.take (k + 1)) F := by
  rw [fst_stepG lc lp hk, if_neg (by rw [hcr]; decide)]
theorem sl_one {b off n cap : Nat} (hn : 1 ≤ n) (hc : n ≤ cap) : ∃ ad, (∀ w, (Instr.sliceAt 22 (.slice (some ⟨b, off, none⟩) n cap) (some (.int .i64 ((1 : Nat) : Int))) none none).run Tryd.prog w = .ok (.slice ad (n - 1) (cap - 1)) w) ∧ ∀ (w : World) (ps : List (Nat → Nat)), ps.length = n → SsAt w (some ⟨b, off, none⟩) ps → SsAt w ad (ps.drop 1) := by
  have h1 : (1 : Int) ≤ (n : Int) := by omega
  by_cases h : cap = 1
  · refine ⟨some ⟨b, off, none⟩, fun w => by subst h; simp [Instr.sliceAt, go_sem, h1], fun w ps hl hs => ⟨fun F hF => hs.1 F (List.mem_of_mem_drop hF), fun h2 => ?_⟩⟩
    rw [List.length_drop] at h2; omega
  · exact ⟨some ⟨b, off + 32 * 1, none⟩, fun w => by simp [Instr.sliceAt, go_sem, h1, h], fun w ps _ hs => hs.hi⟩
end Go.Proofs.YtgnmnoadfjdjdaaDoor

/- PRc, TRo, TRt: laid together. -/
import Derived.Test.YtdofoampjlebbaaDoorG7
import Derived.Test.YtdofoampjlebbaaDoorG6
namespace Go.Proofs.YtdofoampjlebbaaDoor
open Go.RowKit Go.Maps Sh
def CA8 (B : Nat) (F1 F2 : Nat → Nat) (T : List (Nat → Nat)) (tv : Value) : (Nat → Bool) → Nat → Value → World → Prop
  | _, 0, v, _ => v = .agg (ab 32 F1)
  | _, 1, v, _ => v = .agg (ab 32 F2)
  | _, 2, v, _ => v = .agg (ab 32 (nd F1 F2))
  | _, 3, v, _ => v = tv
  | _, 4, v, _ => v = .agg (ab 32 F1)
  | _, 5, v, _ => v = .agg (ab 32 F2)
  | D, 6, v, w => D 8 = false → TxW B (txt F1 F2) v w
  | D, 7, v, w => D 8 = false → Row1t B (txt F1 F2) v w
  | D, 8, v, w => D 8 = true ∧ TsV B (T ++ [(txt F1 F2)]) v w
  | _, 9, _, _ => True
  | D, 10, v, w => D 8 = true ∧ TsV B (T ++ [(txt F1 F2)]) v w
  | _, _, _, _ => True
def CA8d : Nat → Nat
  | 0 => 44
  | 1 => 45
  | 2 => 46
  | 3 => 47
  | 4 => 48
  | 5 => 49
  | 6 => 50
  | 7 => 51
  | 8 => 52
  | 9 => 1009
  | 10 => 9
  | i => 2000 + i
theorem CA8_mono (B : Nat) (F1 F2 : Nat → Nat) (T : List (Nat → Nat)) (tv : Value) {D : Nat → Bool} {ix : Nat} {w w' : World} (hD : D ix = false) (hb : ix ≠ 8 → Gx w w') : ∀ (j : Nat) (u : Value), j ≠ ix → CA8 B F1 F2 T tv D j u w → CA8 B F1 F2 T tv (add1 D ix) j u w'
  | 0, _, _, h => h
  | 1, _, _, h => h
  | 2, _, _, h => h
  | 3, _, _, h => h
  | 4, _, _, h => h
  | 5, _, _, h => h
  | 6, _, _, h => fun hd => by
    by_cases e : ix = 8
    · subst e; rw [add1_eq] at hd; cases hd
    · rw [add1_ne (fun q => e q.symm)] at hd; exact (h hd).later (hb e)
  | 7, _, _, h => fun hd => by
    by_cases e : ix = 8
    · subst e; rw [add1_eq] at hd; cases hd
    · rw [add1_ne (fun q => e q.symm)] at hd; exact (h hd).later (hb e)
  | 8, _, _, h => by
    have e : ix ≠ 8 := fun e => by rw [e] at hD; rw [h.1] at hD; cases hD
    exact ⟨by rw [add1_ne (fun q => e q.symm)]; exact h.1, h.2.later (hb e)⟩
  | 9, _, _, h => h
  | 10, _, _, h => by
    have e : ix ≠ 8 := fun e => by rw [e] at hD; rw [h.1] at hD; cases hD
    exact ⟨by rw [add1_ne (fun q => e q.symm)]; exact h.1, h.2.later (hb e)⟩
  | _ + 11, _, _, _ => trivial
def CA10 (B : Nat) (F1 F2 : Nat → Nat) (T : List (Nat → Nat)) (tv : Value) : (Nat → Bool) → Nat → Value → World → Prop
  | _, 0, v, _ => v = .agg (ab 32 F1)
  | _, 1, v, _ => v = .agg (ab 32 F2)
  | _, 2, v, _ => v = .agg (ab 32 (nd F1 F2))
  | _, 3, v, _ => v = tv
  | _, 4, v, _ => v = .agg (ab 32 F1)
  | _, 5, v, _ => v = .agg (ab 32 F2)
  | D, 6, v, w => D 8 = false → TxW B (txt F1 F2) v w
  | D, 7, v, w => D 8 = false → Row1t B (txt F1 F2) v w
  | D, 8, v, w => D 8 = true ∧ TsV B (T ++ [(txt F1 F2)]) v w
  | _, 9, _, _ => True
  | D, 10, v, w => D 8 = true ∧ TsV B (T ++ [(txt F1 F2)]) v w
  | _, _, _, _ => True
def CA10d : Nat → Nat
  | 0 => 65
  | 1 => 66
  | 2 => 67
  | 3 => 68
  | 4 => 69
  | 5 => 70
  | 6 => 71
  | 7 => 72
  | 8 => 73
  | 9 => 1009
  | 10 => 9
  | i => 2000 + i
theorem CA10_mono (B : Nat) (F1 F2 : Nat → Nat) (T : List (Nat → Nat)) (tv : Value) {D : Nat → Bool} {ix : Nat} {w w' : World} (hD : D ix = false) (hb : ix ≠ 8 → Gx w w') : ∀ (j : Nat) (u : Value), j ≠ ix → CA10 B F1 F2 T tv D j u w → CA10 B F1 F2 T tv (add1 D ix) j u w'
  | 0, _, _, h => h
  | 1, _, _, h => h
  | 2, _, _, h => h
  | 3, _, _, h => h
  | 4, _, _, h => h
  | 5, _, _, h => h
  | 6, _, _, h => fun hd => by
    by_cases e : ix = 8
    · subst e; rw [add1_eq] at hd; cases hd
    · rw [add1_ne (fun q => e q.symm)] at hd; exact (h hd).later (hb e)
  | 7, _, _, h => fun hd => by
    by_cases e : ix = 8
    · subst e; rw [add1_eq] at hd; cases hd
    · rw [add1_ne (fun q => e q.symm)] at hd; exact (h hd).later (hb e)
  | 8, _, _, h => by
    have e : ix ≠ 8 := fun e => by rw [e] at hD; rw [h.1] at hD; cases hD
    exact ⟨by rw [add1_ne (fun q => e q.symm)]; exact h.1, h.2.later (hb e)⟩
  | 9, _, _, h => h
  | 10, _, _, h => by
    have e : ix ≠ 8 := fun e => by rw [e] at hD; rw [h.1] at hD; cases hD
    exact ⟨by rw [add1_ne (fun q => e q.symm)]; exact h.1, h.2.later (hb e)⟩
  | _ + 11, _, _, _ => trivial
set_option maxHeartbeats 8000000 in
set_option maxRecDepth 100000 in
theorem refCome_lo {b off n m cap i : Nat} {F C P : Nat → Nat} {T : List (Nat → Nat)} {W0 : World} (hn : 2 ≤ n) (hm : n ≤ 1048576) (hm1 : 1 ≤ m) (hm2 : m ≤ 1000) (hcap : m ≤ cap) (hk : 1 ≤ cut n ∧ cut n < n ∧ n ≤ 2 * cut n) (hci : i < cut n) (_hin : i < n) (hTl : T.length ≤ 1000) (hC : ∀ i, C i < 256) (hP : ∀ i, P i < 256)
    (hld : ∀ w, Below W0.heap.size W0 w → (Instr.loadAt 27 (.pointer (some ⟨b, off + 32 * (m - 1), none⟩))).run Tryd.prog w = .ok (.agg (ab 32 P)) w)
    (hrec : ∀ w, Below W0.heap.size W0 w → Calls Tryd.prog 28 #[.agg (ab 32 F), .int .i64 ((i : Nat) : Int), .int .i64 ((cut n : Nat) : Int), .slice (some ⟨b, off, none⟩) (m - 1) cap] w fun e w' => ∃ tv, e = .returned (.tuple #[.agg (ab 32 C), tv]) ∧ TsV W0.heap.size T tv w' ∧ Below w.heap.size w w') :
    Calls Tryd.prog 28 #[.agg (ab 32 F), .int .i64 ((i : Nat) : Int), .int .i64 ((n : Nat) : Int), .slice (some ⟨b, off, none⟩) m cap] W0 fun e w' => ∃ tv, e = .returned (.tuple #[.agg (ab 32 (nd C P)), tv]) ∧ TsV W0.heap.size (T ++ [txt C P]) tv w' ∧ Below W0.heap.size W0 w' := by
  obtain ⟨hk1, hk2, hk3⟩ := hk
  have h1 : ((n : Int) == 1) = false := by rw [beq_eq_false_iff_ne]; omega
  have hlt : (i : Int) < (cut n : Int) := by omega
  have hcu := fun w => cut_rr n hm w
  obtain ⟨A, hA⟩ : ∃ A, Hid (A = ab 32 F) := ⟨_, hide1 rfl⟩
  obtain ⟨Z, hZ⟩ : ∃ Z, Hid (Z = ab 32 fun _ => 0) := ⟨_, hide1 rfl⟩
  have bxA : ∀ w : World, (Instr.box 27 (.agg A)).run Tryd.prog w = .ok (.pointer (some ⟨w.heap.size, 0, none⟩)) (w.alloc (.cells A 27)) := fun w => bx_agg w
  have hzs : ∀ w : World, (zeroValue 27).run Tryd.prog w = .ok (.agg Z) w := fun w => by rw [hZ.out]; kernel_rfl
  have szA : (Tryd.prog.info? 27).map (·.size) = some A.size := by rw [hA.out]; exact sum_sz _
  have hZs : Z.size = 32 := by rw [hZ.out]; exact ab_size _ _
  rw [← hA.out] at hrec
  rw [← hA.out]
  obtain ⟨w1, hw1⟩ : ∃ w1, Hid (w1 = (W0.alloc (.cells A 27)).alloc (.cells Z 27)) := ⟨_, hide1 rfl⟩
  have hb1 : Below W0.heap.size W0 w1 := by rw [hw1.out]; exact ((Below.refl _ _).alloc (Nat.le_refl _) _).alloc (by simp) _
  have hrA : w1.heap[W0.heap.size]? = some (.cells A 27 (0, 0)) := by rw [hw1.out]; exact (Below.heap_alloc _ _ _ (by simp)).trans (World.alloc_heap_new W0 _)
  have hr8 : w1.heap[W0.heap.size + 1]? = some (.cells Z 27 (0, 0)) := by
    rw [hw1.out]; have := World.alloc_heap_new (W0.alloc (.cells A 27)) (.cells Z 27); rwa [World.size_alloc] at this
  have hz1 : Hid (w1.heap.size = W0.heap.size + 2) := hide1 (by rw [hw1.out]; simp)
  go_enter Tryd.func28, Tryd.ntmps28
  go_upto_region 1 with fail
  rw [← hw1.out]
  go_wp2_with fail
  refine (hcu w1).mono ?_
  rintro e w ⟨rfl, rfl⟩
  have hml : ((m : Int) - 1).toNat = m - 1 := by omega
  have hm0 : ¬ (m : Int) - 1 < 0 := by omega
  have hm3 : (m : Int) - 1 < (m : Int) := by omega
  have hm4 : (m : Int) - 1 ≤ (cap : Int) := by omega
  have hldw := hld w hb1
  have hr11 := World.alloc_heap_new w (.cells Z 27)
  obtain ⟨w2, hw2⟩ : ∃ w2, Hid (w2 = (w.alloc (.cells Z 27)).setRow w.heap.size (ab 32 P)) := ⟨_, hide1 rfl⟩
  have hwr2 := wrt_row (c' := ab 32 P) hr11
  have hb2 : Below w.heap.size w w2 := by rw [hw2.out]; exact below_wrt ((Below.refl _ _).alloc (Nat.le_refl _) _) hwr2 (Nat.le_refl _) (by simp)
  have hP2 : w2.heap[w.heap.size]? = some (.cells (ab 32 P) 27 (0, 0)) := by rw [hw2.out]; exact hwr2.row
  have hA2 := (hb2.block _ (Array.getElem?_eq_some_iff.1 hrA).1).trans hrA
  have h82 := (hb2.block _ (Array.getElem?_eq_some_iff.1 hr8).1).trans hr8
  clear hwr2
  go_wp2_with (first
    | (refine wpList_ld rfl 27 (.tmp 26) rfl (.pointer (some ⟨b, off + 32 * (m - 1), none⟩)) (by rw [Nat.mul_comm]; rfl) hldw ?_)
    | (refine wpList_store_row rfl 27 (.tmp 11) (.tmp 27) rfl w.heap.size (ab 32 P) Z 27 rfl rfl (sum_sz P) hr11 (by rw [hZs, ab_size]) (ab_one _ _) rfl ?_; rw [← hw2.out])
    | (refine wpList_load_row rfl 27 (.tmp 4) rfl W0.heap.size A 27 rfl Tryd.underlying27 szA hA2 ?_))
  refine (hrec w2 (blw hb1 hb2)).mono ?_
  rintro e w3 ⟨tv, rfl, hts, hb3⟩
  have hb03 := blw (blw hb1 hb2) hb3
  have hP3 := (hb3.block _ (Array.getElem?_eq_some_iff.1 hP2).1).trans hP2
  have h83 := (hb3.block _ (Array.getElem?_eq_some_iff.1 h82).1).trans h82
  have hr13 := World.alloc_heap_new w3 (.cells Z 27)
  obtain ⟨w4, hw4⟩ : ∃ w4, Hid (w4 = (w3.alloc (.cells Z 27)).setRow w3.heap.size (ab 32 C)) := ⟨_, hide1 rfl⟩
  have hwr4 := wrt_row (c' := ab 32 C) hr13
  have hb4 : Below w3.heap.size w3 w4 := by rw [hw4.out]; exact below_wrt ((Below.refl _ _).alloc (Nat.le_refl _) _) hwr4 (Nat.le_refl _) (by simp)
  have hC4 : w4.heap[w3.heap.size]? = some (.cells (ab 32 C) 27 (0, 0)) := by rw [hw4.out]; exact hwr4.row
  have hP4 := (hb4.block _ (Array.getElem?_eq_some_iff.1 hP3).1).trans hP3
  have h84 := (hb4.block _ (Array.getElem?_eq_some_iff.1 h83).1).trans h83
  have hts4 := hts.later (Gx.of hb4)
  have hb04 := blw hb03 hb4
  have hd1 : Hid (W0.heap.size + 1 < w.heap.size ∧ w.heap.size < w3.heap.size) := hide1 ⟨by have := hz1.out; omega, (Array.getElem?_eq_some_iff.1 hP3).1⟩
  clear hwr4 hrec hld hldw hA2 hP2 h82 hP3 h83 hb3 hts hr11 hrA hr8
  go_upto_region 8 with (first
    | (refine wpList_store_row rfl 27 (.tmp 13) (.tmp 42) rfl w3.heap.size (ab 32 C) Z 27 rfl rfl (sum_sz C) hr13 (by rw [hZs, ab_size]) (ab_one _ _) rfl ?_; rw [← hw4.out])
    | fail)
  have hN : ∀ w, Calls Tryd.prog 39 #[.agg (ab 32 C), .agg (ab 32 P)] w fun e w' => e = .returned (.agg (ab 32 (nd C P))) ∧ Below w.heap.size w w' := fun w => node_r hC hP
  have hT : ∀ w, Calls Tryd.prog 41 #[.agg (ab 32 C), .agg (ab 32 P)] w fun e w' => ∃ r, e = .returned r ∧ TxV w' w.heap.size r (txt C P) ∧ Below w.heap.size w w' := fun w => text_h hC hP
  have h8 : W0.heap.size ≤ W0.heap.size + 1 := by omega
  have hd2 := hd1.out
  generalize hg1 : w3.heap.size = g13 at *
  generalize hg2 : w.heap.size = g11 at *
  generalize hg8 : W0.heap.size + 1 = g8 at *
  have h18 : g13 ≠ g8 := by omega
  have h28 : g11 ≠ g8 := by omega
  refine wp_rel3 _ _ (CA8 W0.heap.size C P T tv) (MC W0 g13 g11 g8 C P (nd C P) Z T tv 8 9) CA8d (by kernel_rfl) (by kernel_rfl) 11 (by kernel_rfl) ?_ ?_ rfl (⟨hb04.drew, hC4, hP4, h84, fun _ => hts4.later (Gx.of (Below.refl _ _).drew)⟩) ?_ ?_
  · intro ix o ho
    match ix, ho with
    | 0, ho => obtain rfl := Option.some.inj ho; exact .inl ⟨rfl, by show 44 < 74; decide⟩
    | 1, ho => obtain rfl := Option.some.inj ho; exact .inl ⟨rfl, by show 45 < 74; decide⟩
    | 2, ho => obtain rfl := Option.some.inj ho; exact .inl ⟨rfl, by show 46 < 74; decide⟩
    | 3, ho => obtain rfl := Option.some.inj ho; exact .inl ⟨rfl, by show 47 < 74; decide⟩
    | 4, ho => obtain rfl := Option.some.inj ho; exact .inl ⟨rfl, by show 48 < 74; decide⟩
    | 5, ho => obtain rfl := Option.some.inj ho; exact .inl ⟨rfl, by show 49 < 74; decide⟩
    | 6, ho => obtain rfl := Option.some.inj ho; exact .inl ⟨rfl, by show 50 < 74; decide⟩
    | 7, ho => obtain rfl := Option.some.inj ho; exact .inl ⟨rfl, by show 51 < 74; decide⟩
    | 8, ho => obtain rfl := Option.some.inj ho; exact .inl ⟨rfl, by show 52 < 74; decide⟩
    | 9, ho => obtain rfl := Option.some.inj ho; exact .inr ⟨⟨rfl, fun _ _ _ _ => trivial⟩, by show 74 ≤ 1009; decide⟩
    | 10, ho => obtain rfl := Option.some.inj ho; exact .inl ⟨rfl, by show 9 < 74; decide⟩
    | _ + 11, ho => exact absurd ho (by simp)
  · intro ix jx hi hj e; unfold CA8d at e; split at e <;> split at e <;> omega
  · intro ix o ho
    match ix, ho with
    | 0, ho =>
      obtain rfl := Option.some.inj ho
      intro D a w hM hsl hdep hDi hcl K hK
      have hp13 : a.tmps.getD 13 undef = .pointer (some ⟨g13, 0, none⟩) := hsl 13 (by intro j hj; unfold CA8d; split <;> omega)
      refine ⟨rfl, ?_⟩
      have hl := ldS (F := C) 27 w _ hM.r1
      refine wp_val (w' := w) (v := .agg (ab 32 C)) (by simp only [execOp, Act.eval]; rw [show a.tmps.getD 13 undef = _ from hp13]; simp only [Sem.run_bind, hl, Result.andThen_ok, Sem.run_pure]) ?_
      exact hK _ _ rfl (hM.step (Below.refl _ _) (by decide) (by decide)) (CA8_mono W0.heap.size C P T tv hDi (fun _ => (Gx.of (Below.refl _ _))))
    | 1, ho =>
      obtain rfl := Option.some.inj ho
      intro D a w hM hsl hdep hDi hcl K hK
      have hp11 : a.tmps.getD 11 undef = .pointer (some ⟨g11, 0, none⟩) := hsl 11 (by intro j hj; unfold CA8d; split <;> omega)
      refine ⟨rfl, ?_⟩
      have hl := ldS (F := P) 27 w _ hM.r2
      refine wp_val (w' := w) (v := .agg (ab 32 P)) (by simp only [execOp, Act.eval]; rw [show a.tmps.getD 11 undef = _ from hp11]; simp only [Sem.run_bind, hl, Result.andThen_ok, Sem.run_pure]) ?_
      exact hK _ _ rfl (hM.step (Below.refl _ _) (by decide) (by decide)) (CA8_mono W0.heap.size C P T tv hDi (fun _ => (Gx.of (Below.refl _ _))))
    | 2, ho =>
      obtain rfl := Option.some.inj ho
      intro D a w hM hsl hdep hDi hcl K hK
      have e0 := (hdep ⟨0, .data⟩ (by simp) rfl).1
      have e1 := (hdep ⟨1, .data⟩ (by simp) rfl).1
      refine ⟨rfl, ?_⟩
      refine oper_callg 39 #[.tmp 44, .tmp 45] _ rfl #[.agg (ab 32 C), .agg (ab 32 P)] (by simp only [List.map_toArray, List.map_cons, List.map_nil, Act.eval]; rw [show a.tmps.getD 44 undef = _ from e0, show a.tmps.getD 45 undef = _ from e1]) (fun w => by kernel_rfl) (hN w) fun w' hb => ?_
      exact hK _ _ rfl (hM.step hb (by decide) (by decide)) (CA8_mono W0.heap.size C P T tv hDi (fun _ => (Gx.of hb)))
    | 3, ho =>
      obtain rfl := Option.some.inj ho
      intro D a w hM hsl hdep hDi hcl K hK
      have hp14 : a.tmps.getD 14 undef = tv := hsl 14 (by intro j hj; unfold CA8d; split <;> omega)
      refine ⟨rfl, ?_⟩
      refine wp_val (w' := w) (v := tv) (by simp only [execOp, Act.eval]; rw [show a.tmps.getD 14 undef = _ from hp14]; rfl) ?_
      exact hK _ _ rfl (hM.step (Below.refl _ _) (by decide) (by decide)) (CA8_mono W0.heap.size C P T tv hDi (fun _ => (Gx.of (Below.refl _ _))))
    | 4, ho =>
      obtain rfl := Option.some.inj ho
      intro D a w hM hsl hdep hDi hcl K hK
      have hp13 : a.tmps.getD 13 undef = .pointer (some ⟨g13, 0, none⟩) := hsl 13 (by intro j hj; unfold CA8d; split <;> omega)
      refine ⟨rfl, ?_⟩
      have hl := ldS (F := C) 27 w _ hM.r1
      refine wp_val (w' := w) (v := .agg (ab 32 C)) (by simp only [execOp, Act.eval]; rw [show a.tmps.getD 13 undef = _ from hp13]; simp only [Sem.run_bind, hl, Result.andThen_ok, Sem.run_pure]) ?_
      exact hK _ _ rfl (hM.step (Below.refl _ _) (by decide) (by decide)) (CA8_mono W0.heap.size C P T tv hDi (fun _ => (Gx.of (Below.refl _ _))))
    | 5, ho =>
      obtain rfl := Option.some.inj ho
      intro D a w hM hsl hdep hDi hcl K hK
      have hp11 : a.tmps.getD 11 undef = .pointer (some ⟨g11, 0, none⟩) := hsl 11 (by intro j hj; unfold CA8d; split <;> omega)
      refine ⟨rfl, ?_⟩
      have hl := ldS (F := P) 27 w _ hM.r2
      refine wp_val (w' := w) (v := .agg (ab 32 P)) (by simp only [execOp, Act.eval]; rw [show a.tmps.getD 11 undef = _ from hp11]; simp only [Sem.run_bind, hl, Result.andThen_ok, Sem.run_pure]) ?_
      exact hK _ _ rfl (hM.step (Below.refl _ _) (by decide) (by decide)) (CA8_mono W0.heap.size C P T tv hDi (fun _ => (Gx.of (Below.refl _ _))))
    | 6, ho =>
      obtain rfl := Option.some.inj ho
      intro D a w hM hsl hdep hDi hcl K hK
      have e4 := (hdep ⟨4, .data⟩ (by simp) rfl).1
      have e5 := (hdep ⟨5, .data⟩ (by simp) rfl).1
      refine ⟨rfl, ?_⟩
      refine oper_any 41 #[.tmp 48, .tmp 49] _ rfl #[.agg (ab 32 C), .agg (ab 32 P)] (by simp only [List.map_toArray, List.map_cons, List.map_nil, Act.eval]; rw [show a.tmps.getD 48 undef = _ from e4, show a.tmps.getD 49 undef = _ from e5]) (fun w => by kernel_rfl) (hT w) fun r w' hj => ?_
      obtain ⟨hr, hb⟩ := hj
      exact hK _ _ (fun _ => hr.mono hM.bel.size) (hM.step hb (by decide) (by decide)) (CA8_mono W0.heap.size C P T tv hDi (fun _ => (Gx.of hb)))
    | 7, ho =>
      obtain rfl := Option.some.inj ho
      intro D a w hM hsl hdep hDi hcl K hK
      have e6 := (hdep ⟨6, .data⟩ (by simp) rfl).1
      refine ⟨rfl, ?_⟩
      have hno : D 8 = false := by cases h8 : D 8 with | false => rfl | true => have := hcl 8 _ rfl h8 ⟨7, .data⟩ (by simp) rfl; rw [this] at hDi; cases hDi
      have h6 := e6 hno
      have h1 : (a.tmps.getD 50 undef).oneCell' = true := by obtain ⟨_, _, _, e, _⟩ := h6; rw [show a.tmps.getD 50 undef = _ from e]; rfl
      have hl := bs_txt (a.tmps.getD 50 undef) h1 w
      refine wp_val (w' := w.alloc (.cells #[a.tmps.getD 50 undef] 71)) (v := .slice (some ⟨w.heap.size, 0, none⟩) 1 1) (by simp only [execOp, Act.eval, List.map_toArray, List.map_cons, List.map_nil, Sem.run_bind, hl, Result.andThen_ok, Sem.run_pure]) ?_
      have hb : Below w.heap.size w (w.alloc (.cells #[a.tmps.getD 50 undef] 71)) := (Below.refl _ _).alloc (Nat.le_refl _) _
      exact hK _ _ (fun _ => ⟨_, _, rfl, World.alloc_heap_new w _, TxW.later h6 (Gx.of hb)⟩) (hM.step hb (by decide) (by decide)) (CA8_mono W0.heap.size C P T tv hDi (fun _ => Gx.of hb))
    | 8, ho =>
      obtain rfl := Option.some.inj ho
      intro D a w hM hsl hdep hDi hcl K hK
      have e3 := (hdep ⟨3, .data⟩ (by simp) rfl).1
      have e7 := (hdep ⟨7, .data⟩ (by simp) rfl).1
      refine ⟨rfl, ?_⟩
      obtain ⟨h0, xs, ho, hx⟩ := hM.ts hDi
      obtain ⟨g, r, eg, hg, hr⟩ := e7 hDi
      have hu : w.ownsRow 0 71 1 (.slice (some ⟨g, 0, none⟩) 1 1) 1 [r] := ⟨rfl, .inr ⟨g, 1, #[r], rfl, Nat.zero_le _, hg, Nat.le_refl _, by decide, rfl, rfl⟩⟩
      obtain ⟨v', w', hrun, ho', hgr⟩ := run_append_sl w W0.heap.size 55 tv T.length xs ho (.slice (some ⟨g, 0, none⟩) 1 1) 1 [r] hu (fun y hy => by rw [List.mem_singleton.1 hy]; obtain ⟨_, _, _, e, _⟩ := hr; rw [e]; rfl) (by omega) h0
      refine wp_val (w' := w') (v := v') (by simp only [execOp, Act.eval, resolve, invoke, builtin, List.map_toArray, List.map_cons, List.map_nil, Sem.run_pure, Result.andThen_ok, Sem.run_bind]; rw [show a.tmps.getD 47 undef = _ from e3, show a.tmps.getD 51 undef = _ from eg]; simp only [hrun, Result.andThen_ok]) ?_
      refine hK _ _ ⟨add1_eq, Nat.le_trans h0 hgr.size, xs ++ [r], by rw [List.length_append]; exact ho', ?_⟩ (hM.app ho hgr (by decide)) (CA8_mono W0.heap.size C P T tv hDi (fun h => absurd rfl h))
      exact (hx.map (fun h => h.grown hgr (own_ty ho))).app (TsAt.one (hr.grown hgr (own_ty ho)))
    | 9, ho =>
      obtain rfl := Option.some.inj ho
      intro D a w hM hsl hdep hDi hcl K hK
      have e2 := (hdep ⟨2, .data⟩ (by simp) rfl).1
      have hp8 : a.tmps.getD 8 undef = .pointer (some ⟨g8, 0, none⟩) := hsl 8 (by intro j hj; unfold CA8d; split <;> omega)
      refine ⟨rfl, ?_⟩
      have hl := stS (F := (nd C P)) (c := if D 9 then ab 32 (nd C P) else Z) 27 (by split <;> first | exact ab_size _ _ | exact hZs) w g8 hM.r8
      refine wp_skp (w' := w.setRow g8 (ab 32 (nd C P))) (by simp only [execOp, Act.eval]; rw [show a.tmps.getD 8 undef = _ from hp8, show a.tmps.getD 46 undef = _ from e2]; simp only [Sem.run_bind, hl, Result.andThen_ok, Sem.run_pure]) ?_
      exact hK undef _ trivial (hM.sto h8 h18 h28 (by decide)) (CA8_mono W0.heap.size C P T tv hDi (fun _ => Gx.row hM.r8))
    | 10, ho =>
      obtain rfl := Option.some.inj ho
      intro D a w hM hsl hdep hDi hcl K hK
      have e8 := (hdep ⟨8, .data⟩ (by simp) rfl).1
      refine ⟨rfl, ?_⟩
      refine wp_val (w' := w) (v := a.tmps.getD 52 undef) (by simp only [execOp, Act.eval]; rfl) ?_
      exact hK _ _ ⟨by rw [add1_ne (by decide)]; exact e8.1, e8.2⟩ (hM.step (Below.refl _ _) (by decide) (by decide)) (CA8_mono W0.heap.size C P T tv hDi (fun _ => (Gx.of (Below.refl _ _))))
    | _ + 11, ho => exact absurd ho (by simp)
  · intro D a u hall hd hs hM hsl hr
    obtain ⟨-, hv⟩ := hr 10 (by decide)
    have h9 := hall 9 (by decide)
    have hr8 := hM.r8
    rw [if_pos h9] at hr8
    have hp8 : a.tmps.getD 8 undef = .pointer (some ⟨g8, 0, none⟩) := hsl 8 (by intro j hj; unfold CA8d; split <;> omega)
    refine (‹∀ (a : Act) (w : World), Code.wp Tryd.prog Code.ret _ a w → _›) a u ?_
    refine wp_ret ?_
    refine then_ret ?_
    exact s_raw2 hd hp8 rfl Tryd.results28 (sum_sz _) hr8 ⟨_, rfl, hv, hM.bel⟩
set_option maxHeartbeats 8000000 in
set_option maxRecDepth 100000 in
theorem refCome_hi {b off n m cap i : Nat} {F C P : Nat → Nat} {T : List (Nat → Nat)} {W0 : World} (hn : 2 ≤ n) (hm : n ≤ 1048576) (hm1 : 1 ≤ m) (hm2 : m ≤ 1000) (hcap : m ≤ cap) (hk : 1 ≤ cut n ∧ cut n < n ∧ n ≤ 2 * cut n) (hci : cut n ≤ i) (hin : i < n) (hTl : T.length ≤ 1000) (hC : ∀ i, C i < 256) (hP : ∀ i, P i < 256)
    (hld : ∀ w, Below W0.heap.size W0 w → (Instr.loadAt 27 (.pointer (some ⟨b, off + 32 * (m - 1), none⟩))).run Tryd.prog w = .ok (.agg (ab 32 P)) w)
    (hrec : ∀ w, Below W0.heap.size W0 w → Calls Tryd.prog 28 #[.agg (ab 32 F), .int .i64 ((i - cut n : Nat) : Int), .int .i64 ((n - cut n : Nat) : Int), .slice (some ⟨b, off, none⟩) (m - 1) cap] w fun e w' => ∃ tv, e = .returned (.tuple #[.agg (ab 32 C), tv]) ∧ TsV W0.heap.size T tv w' ∧ Below w.heap.size w w') :
    Calls Tryd.prog 28 #[.agg (ab 32 F), .int .i64 ((i : Nat) : Int), .int .i64 ((n : Nat) : Int), .slice (some ⟨b, off, none⟩) m cap] W0 fun e w' => ∃ tv, e = .returned (.tuple #[.agg (ab 32 (nd P C)), tv]) ∧ TsV W0.heap.size (T ++ [txt P C]) tv w' ∧ Below W0.heap.size W0 w' := by
  obtain ⟨hk1, hk2, hk3⟩ := hk
  have h1 : ((n : Int) == 1) = false := by rw [beq_eq_false_iff_ne]; omega
  have hlt : ¬ (i : Int) < (cut n : Int) := by omega
  have hcu := fun w => cut_rr n hm w
  obtain ⟨A, hA⟩ : ∃ A, Hid (A = ab 32 F) := ⟨_, hide1 rfl⟩
  obtain ⟨Z, hZ⟩ : ∃ Z, Hid (Z = ab 32 fun _ => 0) := ⟨_, hide1 rfl⟩
  have bxA : ∀ w : World, (Instr.box 27 (.agg A)).run Tryd.prog w = .ok (.pointer (some ⟨w.heap.size, 0, none⟩)) (w.alloc (.cells A 27)) := fun w => bx_agg w
  have hzs : ∀ w : World, (zeroValue 27).run Tryd.prog w = .ok (.agg Z) w := fun w => by rw [hZ.out]; kernel_rfl
  have szA : (Tryd.prog.info? 27).map (·.size) = some A.size := by rw [hA.out]; exact sum_sz _
  have hZs : Z.size = 32 := by rw [hZ.out]; exact ab_size _ _
  rw [← hA.out] at hrec
  rw [show ((i - cut n : Nat) : Int) = (i : Int) - (cut n : Int) by omega, show ((n - cut n : Nat) : Int) = (n : Int) - (cut n : Int) by omega] at hrec
  rw [← hA.out]
  obtain ⟨w1, hw1⟩ : ∃ w1, Hid (w1 = (W0.alloc (.cells A 27)).alloc (.cells Z 27)) := ⟨_, hide1 rfl⟩
  have hb1 : Below W0.heap.size W0 w1 := by rw [hw1.out]; exact ((Below.refl _ _).alloc (Nat.le_refl _) _).alloc (by simp) _
  have hrA : w1.heap[W0.heap.size]? = some (.cells A 27 (0, 0)) := by rw [hw1.out]; exact (Below.heap_alloc _ _ _ (by simp)).trans (World.alloc_heap_new W0 _)
  have hr8 : w1.heap[W0.heap.size + 1]? = some (.cells Z 27 (0, 0)) := by
    rw [hw1.out]; have := World.alloc_heap_new (W0.alloc (.cells A 27)) (.cells Z 27); rwa [World.size_alloc] at this
  have hz1 : Hid (w1.heap.size = W0.heap.size + 2) := hide1 (by rw [hw1.out]; simp)
  go_enter Tryd.func28, Tryd.ntmps28
  go_upto_region 1 with fail
  rw [← hw1.out]
  go_wp2_with fail
  refine (hcu w1).mono ?_
  rintro e w ⟨rfl, rfl⟩
  have hml : ((m : Int) - 1).toNat = m - 1 := by omega
  have hm0 : ¬ (m : Int) - 1 < 0 := by omega
  have hm3 : (m : Int) - 1 < (m : Int) := by omega
  have hm4 : (m : Int) - 1 ≤ (cap : Int) := by omega
  have hldw := hld w hb1
  have hr11 := World.alloc_heap_new w (.cells Z 27)
  obtain ⟨w2, hw2⟩ : ∃ w2, Hid (w2 = (w.alloc (.cells Z 27)).setRow w.heap.size (ab 32 P)) := ⟨_, hide1 rfl⟩
  have hwr2 := wrt_row (c' := ab 32 P) hr11
  have hb2 : Below w.heap.size w w2 := by rw [hw2.out]; exact below_wrt ((Below.refl _ _).alloc (Nat.le_refl _) _) hwr2 (Nat.le_refl _) (by simp)
  have hP2 : w2.heap[w.heap.size]? = some (.cells (ab 32 P) 27 (0, 0)) := by rw [hw2.out]; exact hwr2.row
  have hA2 := (hb2.block _ (Array.getElem?_eq_some_iff.1 hrA).1).trans hrA
  have h82 := (hb2.block _ (Array.getElem?_eq_some_iff.1 hr8).1).trans hr8
  clear hwr2
  go_wp2_with (first
    | (refine wpList_ld rfl 27 (.tmp 26) rfl (.pointer (some ⟨b, off + 32 * (m - 1), none⟩)) (by rw [Nat.mul_comm]; rfl) hldw ?_)
    | (refine wpList_store_row rfl 27 (.tmp 11) (.tmp 27) rfl w.heap.size (ab 32 P) Z 27 rfl rfl (sum_sz P) hr11 (by rw [hZs, ab_size]) (ab_one _ _) rfl ?_; rw [← hw2.out])
    | (refine wpList_load_row rfl 27 (.tmp 4) rfl W0.heap.size A 27 rfl Tryd.underlying27 szA hA2 ?_))
  refine (hrec w2 (blw hb1 hb2)).mono ?_
  rintro e w3 ⟨tv, rfl, hts, hb3⟩
  have hb03 := blw (blw hb1 hb2) hb3
  have hP3 := (hb3.block _ (Array.getElem?_eq_some_iff.1 hP2).1).trans hP2
  have h83 := (hb3.block _ (Array.getElem?_eq_some_iff.1 h82).1).trans h82
  have hr13 := World.alloc_heap_new w3 (.cells Z 27)
  obtain ⟨w4, hw4⟩ : ∃ w4, Hid (w4 = (w3.alloc (.cells Z 27)).setRow w3.heap.size (ab 32 C)) := ⟨_, hide1 rfl⟩
  have hwr4 := wrt_row (c' := ab 32 C) hr13
  have hb4 : Below w3.heap.size w3 w4 := by rw [hw4.out]; exact below_wrt ((Below.refl _ _).alloc (Nat.le_refl _) _) hwr4 (Nat.le_refl _) (by simp)
  have hC4 : w4.heap[w3.heap.size]? = some (.cells (ab 32 C) 27 (0, 0)) := by rw [hw4.out]; exact hwr4.row
  have hP4 := (hb4.block _ (Array.getElem?_eq_some_iff.1 hP3).1).trans hP3
  have h84 := (hb4.block _ (Array.getElem?_eq_some_iff.1 h83).1).trans h83
  have hts4 := hts.later (Gx.of hb4)
  have hb04 := blw hb03 hb4
  have hd1 : Hid (W0.heap.size + 1 < w.heap.size ∧ w.heap.size < w3.heap.size) := hide1 ⟨by have := hz1.out; omega, (Array.getElem?_eq_some_iff.1 hP3).1⟩
  clear hwr4 hrec hld hldw hA2 hP2 h82 hP3 h83 hb3 hts hr11 hrA hr8
  go_upto_region 10 with (first
    | (refine wpList_store_row rfl 27 (.tmp 15) (.tmp 63) rfl w3.heap.size (ab 32 C) Z 27 rfl rfl (sum_sz C) hr13 (by rw [hZs, ab_size]) (ab_one _ _) rfl ?_; rw [← hw4.out])
    | fail)
  have hN : ∀ w, Calls Tryd.prog 39 #[.agg (ab 32 P), .agg (ab 32 C)] w fun e w' => e = .returned (.agg (ab 32 (nd P C))) ∧ Below w.heap.size w w' := fun w => node_r hP hC
  have hT : ∀ w, Calls Tryd.prog 41 #[.agg (ab 32 P), .agg (ab 32 C)] w fun e w' => ∃ r, e = .returned r ∧ TxV w' w.heap.size r (txt P C) ∧ Below w.heap.size w w' := fun w => text_h hP hC
  have h8 : W0.heap.size ≤ W0.heap.size + 1 := by omega
  have hd2 := hd1.out
  generalize hg1 : w3.heap.size = g13 at *
  generalize hg2 : w.heap.size = g11 at *
  generalize hg8 : W0.heap.size + 1 = g8 at *
  have h18 : g11 ≠ g8 := by omega
  have h28 : g13 ≠ g8 := by omega
  refine wp_rel3 _ _ (CA10 W0.heap.size P C T tv) (MC W0 g11 g13 g8 P C (nd P C) Z T tv 8 9) CA10d (by kernel_rfl) (by kernel_rfl) 11 (by kernel_rfl) ?_ ?_ rfl (⟨hb04.drew, hP4, hC4, h84, fun _ => hts4.later (Gx.of (Below.refl _ _).drew)⟩) ?_ ?_
  · intro ix o ho
    match ix, ho with
    | 0, ho => obtain rfl := Option.some.inj ho; exact .inl ⟨rfl, by show 65 < 74; decide⟩
    | 1, ho => obtain rfl := Option.some.inj ho; exact .inl ⟨rfl, by show 66 < 74; decide⟩
    | 2, ho => obtain rfl := Option.some.inj ho; exact .inl ⟨rfl, by show 67 < 74; decide⟩
    | 3, ho => obtain rfl := Option.some.inj ho; exact .inl ⟨rfl, by show 68 < 74; decide⟩
    | 4, ho => obtain rfl := Option.some.inj ho; exact .inl ⟨rfl, by show 69 < 74; decide⟩
    | 5, ho => obtain rfl := Option.some.inj ho; exact .inl ⟨rfl, by show 70 < 74; decide⟩
    | 6, ho => obtain rfl := Option.some.inj ho; exact .inl ⟨rfl, by show 71 < 74; decide⟩
    | 7, ho => obtain rfl := Option.some.inj ho; exact .inl ⟨rfl, by show 72 < 74; decide⟩
    | 8, ho => obtain rfl := Option.some.inj ho; exact .inl ⟨rfl, by show 73 < 74; decide⟩
    | 9, ho => obtain rfl := Option.some.inj ho; exact .inr ⟨⟨rfl, fun _ _ _ _ => trivial⟩, by show 74 ≤ 1009; decide⟩
    | 10, ho => obtain rfl := Option.some.inj ho; exact .inl ⟨rfl, by show 9 < 74; decide⟩
    | _ + 11, ho => exact absurd ho (by simp)
  · intro ix jx hi hj e; unfold CA10d at e; split at e <;> split at e <;> omega
  · intro ix o ho
    match ix, ho with
    | 0, ho =>
      obtain rfl := Option.some.inj ho
      intro D a w hM hsl hdep hDi hcl K hK
      have hp11 : a.tmps.getD 11 undef = .pointer (some ⟨g11, 0, none⟩) := hsl 11 (by intro j hj; unfold CA10d; split <;> omega)
      refine ⟨rfl, ?_⟩
      have hl := ldS (F := P) 27 w _ hM.r1
      refine wp_val (w' := w) (v := .agg (ab 32 P)) (by simp only [execOp, Act.eval]; rw [show a.tmps.getD 11 undef = _ from hp11]; simp only [Sem.run_bind, hl, Result.andThen_ok, Sem.run_pure]) ?_
      exact hK _ _ rfl (hM.step (Below.refl _ _) (by decide) (by decide)) (CA10_mono W0.heap.size P C T tv hDi (fun _ => (Gx.of (Below.refl _ _))))
    | 1, ho =>
      obtain rfl := Option.some.inj ho
      intro D a w hM hsl hdep hDi hcl K hK
      have hp15 : a.tmps.getD 15 undef = .pointer (some ⟨g13, 0, none⟩) := hsl 15 (by intro j hj; unfold CA10d; split <;> omega)
      refine ⟨rfl, ?_⟩
      have hl := ldS (F := C) 27 w _ hM.r2
      refine wp_val (w' := w) (v := .agg (ab 32 C)) (by simp only [execOp, Act.eval]; rw [show a.tmps.getD 15 undef = _ from hp15]; simp only [Sem.run_bind, hl, Result.andThen_ok, Sem.run_pure]) ?_
      exact hK _ _ rfl (hM.step (Below.refl _ _) (by decide) (by decide)) (CA10_mono W0.heap.size P C T tv hDi (fun _ => (Gx.of (Below.refl _ _))))
    | 2, ho =>
      obtain rfl := Option.some.inj ho
      intro D a w hM hsl hdep hDi hcl K hK
      have e0 := (hdep ⟨0, .data⟩ (by simp) rfl).1
      have e1 := (hdep ⟨1, .data⟩ (by simp) rfl).1
      refine ⟨rfl, ?_⟩
      refine oper_callg 39 #[.tmp 65, .tmp 66] _ rfl #[.agg (ab 32 P), .agg (ab 32 C)] (by simp only [List.map_toArray, List.map_cons, List.map_nil, Act.eval]; rw [show a.tmps.getD 65 undef = _ from e0, show a.tmps.getD 66 undef = _ from e1]) (fun w => by kernel_rfl) (hN w) fun w' hb => ?_
      exact hK _ _ rfl (hM.step hb (by decide) (by decide)) (CA10_mono W0.heap.size P C T tv hDi (fun _ => (Gx.of hb)))
    | 3, ho =>
      obtain rfl := Option.some.inj ho
      intro D a w hM hsl hdep hDi hcl K hK
      have hp16 : a.tmps.getD 16 undef = tv := hsl 16 (by intro j hj; unfold CA10d; split <;> omega)
      refine ⟨rfl, ?_⟩
      refine wp_val (w' := w) (v := tv) (by simp only [execOp, Act.eval]; rw [show a.tmps.getD 16 undef = _ from hp16]; rfl) ?_
      exact hK _ _ rfl (hM.step (Below.refl _ _) (by decide) (by decide)) (CA10_mono W0.heap.size P C T tv hDi (fun _ => (Gx.of (Below.refl _ _))))
    | 4, ho =>
      obtain rfl := Option.some.inj ho
      intro D a w hM hsl hdep hDi hcl K hK
      have hp11 : a.tmps.getD 11 undef = .pointer (some ⟨g11, 0, none⟩) := hsl 11 (by intro j hj; unfold CA10d; split <;> omega)
      refine ⟨rfl, ?_⟩
      have hl := ldS (F := P) 27 w _ hM.r1
      refine wp_val (w' := w) (v := .agg (ab 32 P)) (by simp only [execOp, Act.eval]; rw [show a.tmps.getD 11 undef = _ from hp11]; simp only [Sem.run_bind, hl, Result.andThen_ok, Sem.run_pure]) ?_
      exact hK _ _ rfl (hM.step (Below.refl _ _) (by decide) (by decide)) (CA10_mono W0.heap.size P C T tv hDi (fun _ => (Gx.of (Below.refl _ _))))
    | 5, ho =>
      obtain rfl := Option.some.inj ho
      intro D a w hM hsl hdep hDi hcl K hK
      have hp15 : a.tmps.getD 15 undef = .pointer (some ⟨g13, 0, none⟩) := hsl 15 (by intro j hj; unfold CA10d; split <;> omega)
      refine ⟨rfl, ?_⟩
      have hl := ldS (F := C) 27 w _ hM.r2
      refine wp_val (w' := w) (v := .agg (ab 32 C)) (by simp only [execOp, Act.eval]; rw [show a.tmps.getD 15 undef = _ from hp15]; simp only [Sem.run_bind, hl, Result.andThen_ok, Sem.run_pure]) ?_
      exact hK _ _ rfl (hM.step (Below.refl _ _) (by decide) (by decide)) (CA10_mono W0.heap.size P C T tv hDi (fun _ => (Gx.of (Below.refl _ _))))
    | 6, ho =>
      obtain rfl := Option.some.inj ho
      intro D a w hM hsl hdep hDi hcl K hK
      have e4 := (hdep ⟨4, .data⟩ (by simp) rfl).1
      have e5 := (hdep ⟨5, .data⟩ (by simp) rfl).1
      refine ⟨rfl, ?_⟩
      refine oper_any 41 #[.tmp 69, .tmp 70] _ rfl #[.agg (ab 32 P), .agg (ab 32 C)] (by simp only [List.map_toArray, List.map_cons, List.map_nil, Act.eval]; rw [show a.tmps.getD 69 undef = _ from e4, show a.tmps.getD 70 undef = _ from e5]) (fun w => by kernel_rfl) (hT w) fun r w' hj => ?_
      obtain ⟨hr, hb⟩ := hj
      exact hK _ _ (fun _ => hr.mono hM.bel.size) (hM.step hb (by decide) (by decide)) (CA10_mono W0.heap.size P C T tv hDi (fun _ => (Gx.of hb)))
    | 7, ho =>
      obtain rfl := Option.some.inj ho
      intro D a w hM hsl hdep hDi hcl K hK
      have e6 := (hdep ⟨6, .data⟩ (by simp) rfl).1
      refine ⟨rfl, ?_⟩
      have hno : D 8 = false := by cases h8 : D 8 with | false => rfl | true => have := hcl 8 _ rfl h8 ⟨7, .data⟩ (by simp) rfl; rw [this] at hDi; cases hDi
      have h6 := e6 hno
      have h1 : (a.tmps.getD 71 undef).oneCell' = true := by obtain ⟨_, _, _, e, _⟩ := h6; rw [show a.tmps.getD 71 undef = _ from e]; rfl
      have hl := bs_txt (a.tmps.getD 71 undef) h1 w
      refine wp_val (w' := w.alloc (.cells #[a.tmps.getD 71 undef] 71)) (v := .slice (some ⟨w.heap.size, 0, none⟩) 1 1) (by simp only [execOp, Act.eval, List.map_toArray, List.map_cons, List.map_nil, Sem.run_bind, hl, Result.andThen_ok, Sem.run_pure]) ?_
      have hb : Below w.heap.size w (w.alloc (.cells #[a.tmps.getD 71 undef] 71)) := (Below.refl _ _).alloc (Nat.le_refl _) _
      exact hK _ _ (fun _ => ⟨_, _, rfl, World.alloc_heap_new w _, TxW.later h6 (Gx.of hb)⟩) (hM.step hb (by decide) (by decide)) (CA10_mono W0.heap.size P C T tv hDi (fun _ => Gx.of hb))
    | 8, ho =>
      obtain rfl := Option.some.inj ho
      intro D a w hM hsl hdep hDi hcl K hK
      have e3 := (hdep ⟨3, .data⟩ (by simp) rfl).1
      have e7 := (hdep ⟨7, .data⟩ (by simp) rfl).1
      refine ⟨rfl, ?_⟩
      obtain ⟨h0, xs, ho, hx⟩ := hM.ts hDi
      obtain ⟨g, r, eg, hg, hr⟩ := e7 hDi
      have hu : w.ownsRow 0 71 1 (.slice (some ⟨g, 0, none⟩) 1 1) 1 [r] := ⟨rfl, .inr ⟨g, 1, #[r], rfl, Nat.zero_le _, hg, Nat.le_refl _, by decide, rfl, rfl⟩⟩
      obtain ⟨v', w', hrun, ho', hgr⟩ := run_append_sl w W0.heap.size 55 tv T.length xs ho (.slice (some ⟨g, 0, none⟩) 1 1) 1 [r] hu (fun y hy => by rw [List.mem_singleton.1 hy]; obtain ⟨_, _, _, e, _⟩ := hr; rw [e]; rfl) (by omega) h0
      refine wp_val (w' := w') (v := v') (by simp only [execOp, Act.eval, resolve, invoke, builtin, List.map_toArray, List.map_cons, List.map_nil, Sem.run_pure, Result.andThen_ok, Sem.run_bind]; rw [show a.tmps.getD 68 undef = _ from e3, show a.tmps.getD 72 undef = _ from eg]; simp only [hrun, Result.andThen_ok]) ?_
      refine hK _ _ ⟨add1_eq, Nat.le_trans h0 hgr.size, xs ++ [r], by rw [List.length_append]; exact ho', ?_⟩ (hM.app ho hgr (by decide)) (CA10_mono W0.heap.size P C T tv hDi (fun h => absurd rfl h))
      exact (hx.map (fun h => h.grown hgr (own_ty ho))).app (TsAt.one (hr.grown hgr (own_ty ho)))
    | 9, ho =>
      obtain rfl := Option.some.inj ho
      intro D a w hM hsl hdep hDi hcl K hK
      have e2 := (hdep ⟨2, .data⟩ (by simp) rfl).1
      have hp8 : a.tmps.getD 8 undef = .pointer (some ⟨g8, 0, none⟩) := hsl 8 (by intro j hj; unfold CA10d; split <;> omega)
      refine ⟨rfl, ?_⟩
      have hl := stS (F := (nd P C)) (c := if D 9 then ab 32 (nd P C) else Z) 27 (by split <;> first | exact ab_size _ _ | exact hZs) w g8 hM.r8
      refine wp_skp (w' := w.setRow g8 (ab 32 (nd P C))) (by simp only [execOp, Act.eval]; rw [show a.tmps.getD 8 undef = _ from hp8, show a.tmps.getD 67 undef = _ from e2]; simp only [Sem.run_bind, hl, Result.andThen_ok, Sem.run_pure]) ?_
      exact hK undef _ trivial (hM.sto h8 h18 h28 (by decide)) (CA10_mono W0.heap.size P C T tv hDi (fun _ => Gx.row hM.r8))
    | 10, ho =>
      obtain rfl := Option.some.inj ho
      intro D a w hM hsl hdep hDi hcl K hK
      have e8 := (hdep ⟨8, .data⟩ (by simp) rfl).1
      refine ⟨rfl, ?_⟩
      refine wp_val (w' := w) (v := a.tmps.getD 73 undef) (by simp only [execOp, Act.eval]; rfl) ?_
      exact hK _ _ ⟨by rw [add1_ne (by decide)]; exact e8.1, e8.2⟩ (hM.step (Below.refl _ _) (by decide) (by decide)) (CA10_mono W0.heap.size P C T tv hDi (fun _ => (Gx.of (Below.refl _ _))))
    | _ + 11, ho => exact absurd ho (by simp)
  · intro D a u hall hd hs hM hsl hr
    obtain ⟨-, hv⟩ := hr 10 (by decide)
    have h9 := hall 9 (by decide)
    have hr8 := hM.r8
    rw [if_pos h9] at hr8
    have hp8 : a.tmps.getD 8 undef = .pointer (some ⟨g8, 0, none⟩) := hsl 8 (by intro j hj; unfold CA10d; split <;> omega)
    refine (‹∀ (a : Act) (w : World), Code.wp Tryd.prog Code.ret _ a w → _›) a u ?_
    refine wp_ret ?_

    exact s_raw2 hd hp8 rfl Tryd.results28 (sum_sz _) hr8 ⟨_, rfl, hv, hM.bel⟩
theorem TsV.weak {B B' : Nat} {T : List (Nat → Nat)} {v : Value} {w : World} (h : TsV B T v w) (hB : B' ≤ B) : TsV B' T v w := by
  obtain ⟨h0, xs, h1, h2⟩ := h
  exact ⟨Nat.le_trans hB h0, xs, own_mono h1 hB, h2.map (fun h => h.mono hB)⟩
theorem snoc_of {ps : List (Nat → Nat)} {m : Nat} (h : ps.length = m) (hm : 1 ≤ m) : ps = ps.take (m - 1) ++ [ps.getD (m - 1) fun _ => 0] := by
  have := List.take_succ_eq_append_getElem (l := ps) (i := m - 1) (by omega)
  rw [show m - 1 + 1 = m by omega, List.take_of_length_le (by omega)] at this
  conv => lhs; rw [this]
  congr 2
  simp [List.getD_eq_getElem?_getD, show m - 1 < ps.length by omega]
set_option maxHeartbeats 8000000 in
set_option maxRecDepth 100000 in
theorem refCome_1 {m cap i : Nat} {a : Option Addr} {F : Nat → Nat} {W0 : World} : Calls Tryd.prog 28 #[.agg (ab 32 F), .int .i64 ((i : Nat) : Int), .int .i64 ((1 : Nat) : Int), .slice a m cap] W0 fun e w' => ∃ tv, e = .returned (.tuple #[.agg (ab 32 F), tv]) ∧ TsV W0.heap.size [] tv w' ∧ Below W0.heap.size W0 w' := by
  obtain ⟨A, hA⟩ : ∃ A, Hid (A = ab 32 F) := ⟨_, hide1 rfl⟩
  obtain ⟨Z, hZ⟩ : ∃ Z, Hid (Z = ab 32 fun _ => 0) := ⟨_, hide1 rfl⟩
  have bxA : ∀ w : World, (Instr.box 27 (.agg A)).run Tryd.prog w = .ok (.pointer (some ⟨w.heap.size, 0, none⟩)) (w.alloc (.cells A 27)) := fun w => bx_agg w
  have hzs : ∀ w : World, (zeroValue 27).run Tryd.prog w = .ok (.agg Z) w := fun w => by rw [hZ.out]; kernel_rfl
  have szA : (Tryd.prog.info? 27).map (·.size) = some A.size := by rw [hA.out]; exact sum_sz _
  have hZs : Z.size = A.size := by rw [hZ.out, hA.out, ab_size, ab_size]
  have o1 : A.all (·.oneCell') = true := by rw [hA.out]; exact ab_one _ _
  rw [← hA.out]
  obtain ⟨w1, hw1⟩ : ∃ w1, Hid (w1 = (W0.alloc (.cells A 27)).alloc (.cells Z 27)) := ⟨_, hide1 rfl⟩
  have hb1 : Below W0.heap.size W0 w1 := by rw [hw1.out]; exact ((Below.refl _ _).alloc (Nat.le_refl _) _).alloc (by simp) _
  have hrA : w1.heap[W0.heap.size]? = some (.cells A 27 (0, 0)) := by rw [hw1.out]; exact (Below.heap_alloc _ _ _ (by simp)).trans (World.alloc_heap_new W0 _)
  have hr8 : w1.heap[W0.heap.size + 1]? = some (.cells Z 27 (0, 0)) := by
    rw [hw1.out]; have := World.alloc_heap_new (W0.alloc (.cells A 27)) (.cells Z 27); rwa [World.size_alloc] at this
  have hwr := wrt_row (c' := A) hr8
  have hb2 : Below W0.heap.size W0 (w1.setRow (W0.heap.size + 1) A) := below_wrt hb1 hwr (by omega) hb1.size
  have hr2 := hwr.row
  go_enter Tryd.func28, Tryd.ntmps28
  go_upto_region 1 with fail
  rw [← hw1.out]
  go_wp2_with (first
    | (refine wpList_load_row rfl 27 (.tmp 4) rfl W0.heap.size A 27 rfl Tryd.underlying27 szA hrA ?_)
    | (refine wpList_store_row rfl 27 (.tmp 8) (.tmp 19) rfl (W0.heap.size + 1) A Z 27 rfl rfl szA hr8 hZs o1 rfl ?_))
  exact s_raw2 rfl rfl rfl Tryd.results28 szA hr2 ⟨_, rfl, ⟨hb2.size, [], World.ownsRow_nil _ _ _ _, TsAt.none _ _⟩, hb2⟩
theorem refCome_d : ∀ (n i : Nat) (ps : List (Nat → Nat)) (m : Nat) (a : Option Addr) (cap : Nat) (F : Nat → Nat) (W0 : World), i < n → n ≤ 1048576 → ps.length = m → m = (way i n).length → m ≤ 1000 → m ≤ cap → (∀ j, F j < 256) → SsAt W0 a ps → Calls Tryd.prog 28 #[.agg (ab 32 F), .int .i64 ((i : Nat) : Int), .int .i64 ((n : Nat) : Int), .slice a m cap] W0 fun e w' => ∃ tv, e = .returned (.tuple #[.agg (ab 32 (comeL (way i n).reverse ps F)), tv]) ∧ TsV W0.heap.size (ctxL (way i n).reverse ps F) tv w' ∧ Below W0.heap.size W0 w' := by
  intro n
  induction n using Nat.strongRecOn with
  | ind n ih =>
    intro i ps m a cap F W0 hi hn hm hl hm2 hcap hF hs
    rcases Nat.lt_or_ge n 2 with h2 | h2
    · obtain rfl : n = 1 := by omega
      rw [way_1] at hl
      obtain rfl : ps = [] := List.eq_nil_of_length_eq_zero (by rw [hm, hl]; rfl)
      rw [way_1]
      exact refCome_1
    · have hk := cut_in h2
      have hm1 : 1 ≤ m := by
        rcases Nat.lt_or_ge i (cut n) with h | h
        · rw [way_len_lo h2 h] at hl; omega
        · rw [way_len_hi h2 h] at hl; omega
      obtain ⟨b, off, rfl, _⟩ := hs.2 (by omega)
      have hld : ∀ w, Below W0.heap.size W0 w → (Instr.loadAt 27 (.pointer (some ⟨b, off + 32 * (m - 1), none⟩))).run Tryd.prog w = .ok (.agg (ab 32 (ps.getD (m - 1) fun _ => 0))) w := fun w hw => ld_st2 (n := m) (hs.later hw) (fun _ => rfl) (by omega)
      have hPl := getD_lt hs.1 (m - 1)
      have e1 := snoc_of hm hm1
      have lt1 : (ps.take (m - 1)).length = m - 1 := by rw [List.length_take]; omega
      rw [e1]
      rcases Nat.lt_or_ge i (cut n) with h | h
      · rw [way_len_lo h2 h] at hl
        rw [come_lo h2 h (by omega), ctx_lo h2 h (by omega)]
        exact refCome_lo h2 hn hm1 hm2 hcap hk h hi (by rw [ctxL_len _ _ _ (by rw [List.length_reverse]; omega)]; omega) (comeL_lt hF _ _) hPl hld (fun w hw => (ih (cut n) hk.2.1 i (ps.take (m - 1)) (m - 1) _ cap F w h (by omega) lt1 (by omega) (by omega) (by omega) hF (hs.lo.later hw)).mono fun e w' ⟨tv, q1, q2, q3⟩ => ⟨tv, q1, q2.weak hw.size, q3⟩)
      · rw [way_len_hi h2 h] at hl
        rw [come_hi h2 h (by omega), ctx_hi h2 h (by omega)]
        exact refCome_hi h2 hn hm1 hm2 hcap hk h hi (by rw [ctxL_len _ _ _ (by rw [List.length_reverse]; omega)]; omega) (comeL_lt hF _ _) hPl hld (fun w hw => (ih (n - cut n) (by omega) (i - cut n) (ps.take (m - 1)) (m - 1) _ cap F w (by omega) (by omega) lt1 (by omega) (by omega) (by omega) hF (hs.lo.later hw)).mono fun e w' ⟨tv, q1, q2, q3⟩ => ⟨tv, q1, q2.weak hw.size, q3⟩)
end Go.Proofs.YtdofoampjlebbaaDoor

namespace Go.Proofs.YtdofoampjlebbaaDoor
open Go.RowKit Go.Maps Sh

theorem wpList_neG {w : World} {ops : Array Oper} {rest : List Oper} {o : Oper} {a : Act} {Q : Exit → Act → World → Prop} (hgd : Region.wanted o (yielded ops a.tmps) = true) (x u : Operand) {t' : TypeId} (ho : o.op = .binOp .neq 27 x u t') {F G : Nat → Nat} {b : Bool} (hx : a.eval x = .agg (ab 32 F)) (hu : a.eval u = .agg (ab 32 G)) (hb : (!eqD F G) = b) (h : wpList Tryd.prog ops Q rest (a.put o.dst (.bool b)) w) : wpList Tryd.prog ops Q (o :: rest) a w := by
  refine wpList_step fun K hK => ?_
  rw [if_pos hgd]
  have hl := neS (x := x) (u := u) F G w
  rw [hb] at hl
  unfold Oper.wp execOp
  simp only [ho, hx, hu]
  simp only [Sem.run_bind] at hl ⊢
  simp only [hl, Result.andThen_ok, Sem.run_pure]
  exact hK _ _ h
set_option maxHeartbeats 16000000 in
set_option maxRecDepth 100000 in
theorem stays_walk {a a2 : Option Addr} {n cap m cap2 : Nat} {L M : List (Nat → Nat)} {W0 : World} (hL : L.length = n) (hS : SsAt W0 a L) (hM : M.length = m) (hS2 : SsAt W0 a2 M) (hg : Gl W0) (hz : Gz W0) : Calls Tryd.prog 6 #[.slice a n cap, .slice a2 m cap2] W0 fun e w' => e = .returned (.bool true) ∧ Below W0.heap.size W0 w' := by
  have hav := alive_t hg
  by_cases h40 : (40 : Int) < (n : Int)
  · go_enter Tryd.func6, Tryd.ntmps6
    go_wp2_with fail
    refine hav.mono ?_
    rintro e w1 ⟨rfl, hb1⟩
    go_wp2
    go_ret
    exact ⟨rfl, hb1⟩
  by_cases h41 : (40 : Int) < (m : Int)
  · go_enter Tryd.func6, Tryd.ntmps6
    go_wp2_with fail
    refine hav.mono ?_
    rintro e w1 ⟨rfl, hb1⟩
    go_wp2
    go_ret
    exact ⟨rfl, hb1⟩
  have hn40 : n ≤ 40 := by omega
  have hm40 : m ≤ 40 := by omega
  have htk : ∀ k, (L ++ M.take k).take n = L := fun k => by rw [List.take_append_of_le_length (by omega), List.take_of_length_le (by omega)]
  have hFl : ∀ j, root L j < 256 := root_lt _ L rfl hS.1
  obtain ⟨F, hF⟩ : ∃ F, Hid (F = root L) := ⟨_, hide1 rfl⟩
  rw [← hF.out] at hFl
  have heq : (!eqD F F) = false := by rw [eqD_iff.2 fun _ _ => rfl]; rfl
  go_enter Tryd.func6, Tryd.ntmps6
  go_wp2_with fail
  refine hav.mono ?_
  rintro e w1 ⟨rfl, hb1⟩
  have hgr := grown_d (cap := cap) (gl_b hg hb1) hL (by omega) (hS.later hb1)
  have hlo : W0.heap.size ≤ w1.heap.size := hb1.size
  obtain ⟨lo, hlo1⟩ : ∃ lo, Hid (lo = w1.heap.size) := ⟨_, hide1 rfl⟩
  have hgl : GlLo lo := by rw [hlo1.out]; exact gl_has (gl_b hg hb1)
  rw [← hlo1.out] at hgr hlo
  go_wp2_with fail
  refine hgr.mono ?_
  rintro e w2 ⟨rfl, hT2, hb2⟩
  have hb02 : Below W0.heap.size W0 w2 := hb1.trans (hb2.mono hlo)
  have hr3 := root_in hT2 (gl_b hg hb02) (gz_b hz hb02) (by omega) (n := n) (by omega)
  rw [List.take_of_length_le (by omega), ← hF.out] at hr3
  clear hav hgr
  go_wp2_with fail
  refine hr3.mono ?_
  rintro e w3 ⟨rfl, hb3⟩
  obtain ⟨p1, p2, p3⟩ := sum_put (w0 := W0) F (blw hb02 hb3)
  obtain ⟨hal3, hz3⟩ := sum_new w3
  have hq4 : TrQ (some w3.heap.size) ((w3.alloc (.cells (ab 32 fun _ => 0) 27)).setRow w3.heap.size (ab 32 F)) lo (lo + 1) L := TrQ.fresh (hT2.later hb3) p3 (Nat.le_refl _) (Array.getElem?_eq_some_iff.1 p2).1
  go_upto_region 9 with (first
    | (refine wpList_alS rfl rfl ?_)
    | (refine wpList_store_row rfl 27 (.tmp 6) (.tmp 38) rfl w3.heap.size (ab 32 F) (ab 32 fun _ => 0) 27 rfl rfl (sum_sz F) hz3 (by rw [ab_size, ab_size]) (ab_one _ _) rfl ?_))
  clear hal3 hz3
  generalize (w3.alloc (.cells (ab 32 fun _ => 0) 27)).setRow w3.heap.size (ab 32 F) = w4 at p1 p2 p3 hq4 ⊢
  obtain ⟨r6, hr6⟩ : ∃ r6, Hid (r6 = w3.heap.size) := ⟨_, hide1 rfl⟩
  rw [← hr6.out] at p2 hq4 ⊢
  clear p3 hr3 hb3 hT2
  go_wp2_with fail
  go_loopw [44] (fun v wr => ∃ k : Nat, v = .int .i64 ((k : Nat) : Int) ∧ k ≤ m ∧ TrQ (some r6) wr lo (lo + 1) (L ++ M.take k) ∧ Below W0.heap.size W0 wr ∧ wr.heap[r6]? = some (.cells (ab 32 F) 27 (0, 0))) (fun v _ => m - (intOf v).toNat)
  case atStart => exact ⟨0, rfl, by omega, by rw [List.take_zero, List.append_nil]; exact hq4, p1, p2⟩
  case round =>
    obtain ⟨k, rfl, hk, hT, hb, hr⟩ := hrel
    by_cases hlt : k < m
    · have hlt' : (k : Int) < (m : Int) := by omega
      obtain ⟨b, off, rfl, -⟩ := hS2.2 (by omega)
      have hix := ix_ss (b := b) (off := off) (cap := cap2) hlt wr
      have hld := ld_st (hS2.later hb) rfl (i := k) (by omega)
      have hGl : ∀ j, (M.getD k fun _ => 0) j < 256 := by
        rw [List.getD_eq_getElem?_getD, List.getElem?_eq_getElem (by omega)]
        exact hS2.1 _ (List.getElem_mem _)
      have hst : (L ++ M.take k) ++ [M.getD k fun _ => 0] = L ++ M.take (k + 1) := by
        rw [List.append_assoc, List.take_succ_eq_append_getElem (by omega), List.getD_eq_getElem?_getD, List.getElem?_eq_getElem (by omega)]; rfl
      have had := fun w' (h : Below wr.heap.size wr w') => add_q (hT.later h) hGl (gl_b hg (blw hb h)) hgl (by rw [List.length_append, List.length_take]; omega)
      rw [hst] at had
      clear hst
      obtain ⟨R, hR⟩ : ∃ R, Hid (R = M.getD k fun _ => 0) := ⟨_, hide1 rfl⟩
      rw [← hR.out] at hld had
      obtain ⟨q, hq⟩ : ∃ q, Hid (q = off + 32 * k) := ⟨_, hide1 rfl⟩
      rw [← hq.out] at hix hld
      obtain ⟨hal, hr0⟩ := sum_new wr
      obtain ⟨h3, h4⟩ := sum_end (F := R) hal hr0
      go_upto_region 14 with (first
        | (refine wpList_ixs rfl (.tmp 42) (.tmp 44) rfl rfl rfl hix ?_)
        | (refine wpList_ld rfl 27 (.tmp 46) rfl _ rfl hld ?_)
        | (refine wpList_alS rfl rfl ?_)
        | (refine wpList_store_row rfl 27 (.tmp 9) (.tmp 47) rfl wr.heap.size (ab 32 R) (ab 32 fun _ => 0) 27 rfl rfl (sum_sz R) hr0 (by rw [ab_size, ab_size]) (ab_one _ _) rfl ?_))
      generalize (wr.alloc (.cells (ab 32 fun _ => 0) 27)).setRow wr.heap.size (ab 32 R) = wq at h3 h4 ⊢
      have hrq := (h3.block r6 (Array.getElem?_eq_some_iff.1 hr).1).trans hr
      go_wp2_with (refine wpList_load_row rfl 27 (.tmp 9) rfl wr.heap.size (ab 32 R) 27 rfl Tryd.underlying27 (sum_sz R) h4 ?_)
      refine (had wq h3).mono ?_
      rintro e w5 ⟨rfl, hT5, hb5⟩
      have hr5 := (hb5.k r6 rfl (Array.getElem?_eq_some_iff.1 hrq).1).trans hrq
      go_wp2
      go_roundw
      case rel => exact ⟨k + 1, rfl, by omega, hT5, (blw hb h3).trans (hb5.b.mono hlo), hr5⟩
      case measure => simp [intOf]; omega
    · have hlt' : ¬ (k : Int) < (m : Int) := by omega
      obtain rfl : k = m := by omega
      have hTm := hT.weak
      have htm := htk k
      have hlm : (L ++ M.take k).length = n + k := by rw [List.length_append, List.length_take]; omega
      obtain ⟨LM, hLM⟩ : ∃ LM, Hid (LM = L ++ M.take k) := ⟨_, hide1 rfl⟩
      rw [← hLM.out] at hTm htm hlm
      have hr3 := root_in hTm (gl_b hg hb) (gz_b hz hb) (by omega) (n := n) (by omega)
      rw [htm, ← hF.out] at hr3
      clear hT
      go_wp2_with fail
      refine hr3.mono ?_
      rintro e w6 ⟨rfl, hb6⟩
      obtain ⟨p1, p2, p3⟩ := sum_put (w0 := W0) F (blw hb hb6)
      obtain ⟨hal6, hz6⟩ := sum_new w6
      have hT7 := hTm.later (blw hb6 p3)
      have hr7 := ((blw hb6 p3).block r6 (Array.getElem?_eq_some_iff.1 hr).1).trans hr
      go_upto_region 19 with (first
        | (refine wpList_alS rfl rfl ?_)
        | (refine wpList_store_row rfl 27 (.tmp 12) (.tmp 62) rfl w6.heap.size (ab 32 F) (ab 32 fun _ => 0) 27 rfl rfl (sum_sz F) hz6 (by rw [ab_size, ab_size]) (ab_one _ _) rfl ?_))
      clear hal6 hz6
      generalize (w6.alloc (.cells (ab 32 fun _ => 0) 27)).setRow w6.heap.size (ab 32 F) = w7 at p1 p2 p3 hT7 hr7 ⊢
      have hl1 := ldS 27 w7 _ p2
      have hl2 := ldS 27 w7 _ hr7
      clear hTm hr3 hb6 p3
      go_wp2_with (first
        | (refine wpList_ld rfl 27 (.tmp 12) rfl _ rfl hl1 ?_)
        | (refine wpList_ld rfl 27 (.tmp 6) rfl _ rfl hl2 ?_)
        | (refine wpList_neG rfl (.tmp 67) (.tmp 68) rfl (F := F) (G := F) rfl rfl heq ?_))
      clear hl1 hl2 p2 hr
      obtain ⟨w8, hw8⟩ : ∃ w8, w8 = w7 := ⟨_, rfl⟩
      have hav2 : True := trivial
      go_loopw [73] (fun v wr => ∃ i : Nat, v = .int .i64 ((i : Nat) : Int) ∧ i ≤ n ∧ Tr wr lo (lo + 1) LM ∧ Below W0.heap.size W0 wr ∧ wr.heap[r6]? = some (.cells (ab 32 F) 27 (0, 0))) (fun v _ => n - (intOf v).toNat)
      case atStart => exact ⟨0, rfl, by omega, hT7, p1, hr7⟩
      case round =>
        obtain ⟨i, rfl, hi, hTi, hbi, hri⟩ := hrel
        obtain ⟨wi, hwi⟩ : ∃ wi, wi = wr := ⟨_, rfl⟩
        subst hwi
        by_cases hin : i < n
        · have hin' : (i : Int) < (n : Int) := by omega
          obtain ⟨b, off, rfl, -⟩ := hS.2 (by omega)
          have hix := ix_ss (b := b) (off := off) (cap := cap) hin wi
          have hld := ld_st (hS.later hbi) rfl (i := i) (by omega)
          have hGl : ∀ j, (L.getD i fun _ => 0) j < 256 := by
            rw [List.getD_eq_getElem?_getD, List.getElem?_eq_getElem (by omega)]
            exact hS.1 _ (List.getElem_mem _)
          have hcr := come_root n i L hL hin
          have hpa := fun w' (h : Below wi.heap.size wi w') => path_in (hTi.later h) (gl_b hg (blw hbi h)) (gz_b hz (blw hbi h)) (by omega) hin (by omega)
          rw [htm] at hpa
          have hall := asl_lt hS.1 (way i n)
          have hwl := way_le i n
          have hco := fun (w' : World) (ap : Option Addr) (cp : Nat) (hs : SsAt w' ap (asl L (way i n))) (hcp : (way i n).length ≤ cp) => refCome_d n i (asl L (way i n)) (way i n).length ap cp (L.getD i fun _ => 0) w' hin (by omega) (asl_len _ _) rfl (by omega) hcp hGl hs
          rw [hcr] at hco
          have hle := fun w' => refLen_d n i w' hin (by omega)
          have hal0 := asl_len L (way i n)
          obtain ⟨R, hR⟩ : ∃ R, Hid (R = L.getD i fun _ => 0) := ⟨_, hide1 rfl⟩
          rw [← hR.out] at hld hco
          rw [← hF.out] at hco
          generalize asl L (way i n) = A at *
          obtain ⟨N, hN⟩ : ∃ N, Hid (N = (way i n).length) := ⟨_, hide1 rfl⟩
          rw [← hN.out] at hpa hco hle hwl hal0
          obtain ⟨q, hq⟩ : ∃ q, Hid (q = off + 32 * i) := ⟨_, hide1 rfl⟩
          rw [← hq.out] at hix hld
          obtain ⟨hal, hr0⟩ := sum_new wi
          obtain ⟨h3, h4⟩ := sum_end (F := R) hal hr0
          go_upto_region 24 with (first
            | (refine wpList_ixs rfl (.tmp 71) (.tmp 73) rfl rfl rfl hix ?_)
            | (refine wpList_ld rfl 27 (.tmp 76) rfl _ rfl hld ?_)
            | (refine wpList_alS rfl rfl ?_)
            | (refine wpList_store_row rfl 27 (.tmp 14) (.tmp 77) rfl wi.heap.size (ab 32 R) (ab 32 fun _ => 0) 27 rfl rfl (sum_sz R) hr0 (by rw [ab_size, ab_size]) (ab_one _ _) rfl ?_))
          generalize (wi.alloc (.cells (ab 32 fun _ => 0) 27)).setRow wi.heap.size (ab 32 R) = wq at h3 h4 ⊢
          clear hal hr0 hix hld
          go_wp2_with fail
          refine (hpa wq h3).mono ?_
          rintro e w9 ⟨r, rfl, ho9, hb9⟩
          obtain ⟨ap, cp, rfl, hs9, hcp9⟩ := ss_own hall hal0 ho9.1
          have h49 := (hb9.block _ (Array.getElem?_eq_some_iff.1 h4).1).trans h4
          clear hpa ho9 h4
          have hNN : ((N : Int) == (N : Int)) = true := by simp
          go_wp2_with fail
          refine (hle w9).mono ?_
          rintro e w9 ⟨rfl, rfl⟩
          go_wp2_with (refine wpList_load_row rfl 27 (.tmp 14) rfl wi.heap.size (ab 32 R) 27 rfl Tryd.underlying27 (sum_sz R) h49 ?_)
          refine (hco w9 ap cp hs9 hcp9).mono ?_
          rintro e wa ⟨tv, rfl, -, hba⟩
          obtain ⟨s1, s2, s3⟩ := sum_put (w0 := W0) F (blw (blw (blw hbi h3) hb9) hba)
          obtain ⟨hala, hza⟩ := sum_new wa
          have hbx := blw (blw (blw h3 hb9) hba) s3
          have hTx := hTi.later hbx
          have hrx := (hbx.block r6 (Array.getElem?_eq_some_iff.1 hri).1).trans hri
          clear hco hle
          go_upto_region 28 with (first
            | (refine wpList_alS rfl rfl ?_)
            | (refine wpList_store_row rfl 27 (.tmp 17) (.tmp 104) rfl wa.heap.size (ab 32 F) (ab 32 fun _ => 0) 27 rfl rfl (sum_sz F) hza (by rw [ab_size, ab_size]) (ab_one _ _) rfl ?_))
          clear hala hza
          generalize (wa.alloc (.cells (ab 32 fun _ => 0) 27)).setRow wa.heap.size (ab 32 F) = wb at s1 s2 s3 hTx hrx ⊢
          have hl1 := ldS 27 wb _ s2
          have hl2 := ldS 27 wb _ hrx
          go_wp2_with (first
            | (refine wpList_ld rfl 27 (.tmp 17) rfl _ rfl hl1 ?_)
            | (refine wpList_ld rfl 27 (.tmp 6) rfl _ rfl hl2 ?_)
            | (refine wpList_neG rfl (.tmp 106) (.tmp 107) rfl (F := F) (G := F) rfl rfl heq ?_))
          go_roundw
          case rel => exact ⟨i + 1, rfl, by omega, hTx, s1, hrx⟩
          case measure => simp [intOf]; omega
        · have hin' : ¬ (i : Int) < (n : Int) := by omega
          have hle := len_d hTi
          rw [hlm] at hle
          go_wp2_with fail
          refine hle.mono ?_
          rintro e w9 ⟨rfl, rfl⟩
          go_wp2
          go_ret
          exact ⟨by simp, hbi⟩
end Go.Proofs.YtdofoampjlebbaaDoor

namespace Go.Proofs.YtdofoampjlebbaaDoor
open Go.ChangeShapes Go.WideShapes Go.ChangeAt Go.RowKit Sh

def laidQ : List (String × DataW Unit) := [("math/bits.deBruijn32tab", Rows.laid_math_bits_deBruijn32tab), ("math/bits.deBruijn64tab", Rows.laid_math_bits_deBruijn64tab), ("cachet/sum.cubes", Rows.laid_cachet_sum_cubes), ("cachet/sum.squares", Rows.laid_cachet_sum_squares)]
theorem gTab32 : Tryd.prog.globalNamed "math/bits.deBruijn32tab" = some 0 := by kernel_rfl
theorem gTab64 : Tryd.prog.globalNamed "math/bits.deBruijn64tab" = some 1 := by kernel_rfl
theorem tTab64 : (Tryd.prog.globals[1]?).map (·.type) = some 98 := by kernel_rfl
theorem row_cells8 {W : World} {fuel n t : Nat} {cs : List Value} {ns : List Nat} {ps : List MemPlace} {base : Nat} {sp : Nat → Bool} {held : Bool} {enc : TypeId × Value → Unit} (ht : Tryd.prog.underlying t = some (.array n 5)) (h : DataW.trod enc Tryd.prog W base sp held fuel t cs = some (.agg (ns.map fun k => .lit (.int .u8 ((k : Nat) : Int))), ps)) (hn : ns.length = n) :
    ∀ i, i < n → cs[i]? = some (.int .u8 ((ns.getD i 0 : Nat) : Int)) := by
  obtain ⟨xs, m, rfl, hx, hlen, hxs, hel⟩ := DataW.trod_array ht h
  have c1 : Tryd.prog.cellsOf 5 = 1 := by kernel_rfl
  intro i hi
  have h1 := hel i hi
  rw [c1, Nat.mul_one] at h1
  simp only [Prod.mk.injEq, DataW.agg.injEq] at hx
  have hxi : xs[i]? = some xs[i] := List.getElem?_eq_getElem (by omega)
  rw [hxi] at h1
  obtain ⟨k, e1, e2, _⟩ := DataW.trod_int Tryd.underlying5 h1
  have h3 := congrArg (·[i]?) hx.1
  simp only [List.getElem?_map] at h3
  rw [hxi, List.getElem?_eq_getElem (l := ns) (show i < ns.length by omega)] at h3
  simp only [Option.map_some, Option.some.injEq] at h3
  rw [e2] at h3
  have h4 : ((ns[i] : Nat) : Int) = k := by simpa using h3
  have h5 : cs[i]? = (cs.drop i)[0]? := by simp
  have h6 : ((cs.drop i).take 1)[0]? = (cs.drop i)[0]? := by rw [List.getElem?_take]; simp
  rw [h5, ← h6, e1, List.getD_eq_getElem?_getD, List.getElem?_eq_getElem (l := ns) (show i < ns.length by omega), Option.getD_some, h4]
  rfl
theorem tab_L : (Rows.laid_math_bits_deBruijn64tab : DataW Unit) = .agg (Lib.deBruijn64tab.map fun k => .lit (.int .u8 ((k : Nat) : Int))) := by kernel_rfl
theorem of_laidQ {W : World} (h : laidMetH Tryd.prog laidQ W) : Gl W ∧ Gz W := by
  rw [MakeChecks.laidMetH_plain _ _ _ (by kernel_rfl)] at h
  obtain ⟨ps, ⟨g2, t2, cs2, f2, p2, q2, hg2, ht2, hv2, hd2, ⟨g3, t3, cs3, f3, p3, q3, hg3, ht3, hv3, hd3, ⟨g0, t0, cs0, f0, p0, q0, hg0, ht0, hv0, hd0, ⟨g1, t1, cs1, f1, p1, q1, hg1, ht1, hv1, hd1, _, _⟩, _⟩, _⟩, _⟩, _, _⟩ := h
  obtain rfl := Option.some.inj (gCubes.symm.trans hg0)
  obtain rfl := Option.some.inj (gSquares.symm.trans hg1)
  obtain rfl := Option.some.inj (tCubes.symm.trans ht0)
  obtain rfl := Option.some.inj (tSquares.symm.trans ht1)
  obtain rfl := Option.some.inj (gTab64.symm.trans hg3)
  obtain rfl := Option.some.inj (tTab64.symm.trans ht3)
  rw [cubes_L] at hd0
  rw [squares_L] at hd1
  rw [tab_L] at hd3
  refine ⟨⟨fun i hi => ?_, fun i hi => ?_⟩, fun i hi => ?_⟩
  · rw [World.var?_cell hg1 hv1 i, ← Array.getElem?_toList]
    exact row_cells Tryd.underlying100 hd1 (by kernel_rfl) i hi
  · rw [World.var?_cell hg0 hv0 i, ← Array.getElem?_toList]
    exact row_cells Tryd.underlying106 hd0 (by kernel_rfl) i hi
  · rw [World.var?_cell hg3 hv3 i, ← Array.getElem?_toList]
    exact row_cells8 Tryd.underlying98 hd3 (by kernel_rfl) i (by have : Lib.deBruijn64tab.length = 64 := rfl; omega)
theorem door_metQ (os : Os) (args : Array Value) : laidMetH Tryd.prog laidQ ((World.doorLaid Tryd.prog 400 os).forCall (fun _ _ => 0) ⟨#[], args, []⟩).memory :=
  laidMetH_of_parts3 (fuel := 8) (laidMet_of_run' 8 (by kernel_rfl) (by kernel_rfl)) (by kernel_rfl) (by kernel_rfl)
end Go.Proofs.YtdofoampjlebbaaDoor

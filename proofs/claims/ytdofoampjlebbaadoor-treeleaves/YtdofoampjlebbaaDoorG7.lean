/- TRh, PHd, PRA, PRN, TRi, PBp, PB3, TRj, TRk, TRm, TRq, TRu, TRn, TRr, TRs, TRx: laid together. -/
import Derived.Deep.MidRow
import Derived.Test.YtdofoampjlebbaaDoorG6
import Derived.Test.YtdofoampjlebbaaDoorG5
namespace Go.Proofs.YtdofoampjlebbaaDoor
open Go.RowKit Go.Maps Sh
set_option linter.unusedVariables false
theorem MM.grow {w1 : World} {q i : Nat} {J : World → Prop} {D : Nat → Bool} {w w' : World} (h : MM w1 q J D w) (hi : i ≠ q) (hb : Below w.heap.size w w') (hD : D q = false) : MM w1 q J (add1 D i) w' := ⟨fun _ => blw (h.1 hD) hb, fun e => by rw [add1_ne (fun x => hi x.symm), hD] at e; cases e⟩
theorem wpList_shl {w : World} {ops : Array Oper} {rest : List Oper} {o : Oper} {a : Act} {Q : Exit → Act → World → Prop} (hgd : o.guard = none) (u : Operand) {t' : TypeId} (ho : o.op = .binOp .shl 3 (.const (.int .i64 1)) u t') {k : Nat} (hk : k < 62) (hu : a.eval u = .int .i64 ((k : Nat) : Int)) (h : wpList Tryd.prog ops Q rest (a.put o.dst (.int .i64 ((2 ^ k : Nat) : Int))) w) : wpList Tryd.prog ops Q (o :: rest) a w := by
  refine wpList_plain hgd fun K hK => ?_
  have h3 := shl_1 (x := .const (.int .i64 1)) (u := u) hk w
  have hx : a.eval (.const (.int .i64 1)) = .int .i64 1 := rfl
  unfold Oper.wp
  simp only [execOp, ho, hx, hu, Sem.run_bind, h3, Result.andThen_ok, Sem.run_pure, Oper.upon_value]
  exact hK _ _ h
set_option maxHeartbeats 4000000 in
set_option maxRecDepth 100000 in
theorem part_0w {tb f : Nat} {R : Nat → Nat} {W0 : World} (hem : ∀ w, Below W0.heap.size W0 w → Calls Tryd.prog 42 #[] w fun e w' => e = .returned (.agg (ab 32 R)) ∧ Below w.heap.size w w') : Calls Tryd.prog 29 #[.pointer (some ⟨tb, 0, none⟩), .int .i64 ((f : Nat) : Int), .int .i64 ((f : Nat) : Int)] W0 fun e w' => e = .returned (.agg (ab 32 R)) ∧ Below W0.heap.size W0 w' := by
  obtain ⟨hal, hr0⟩ := sum_new W0
  have h0 : ((f : Int) - (f : Int)) = 0 := by omega
  go_enter Tryd.func29, Tryd.ntmps29
  go_upto_region 1 with fail
  refine Eq.mpr (congrArg (fun c => Code.wp _ _ _ _ (W0.alloc (.cells c 27))) (?h : _ = ab 32 (fun _ => 0))) ?_
  case h => kernel_rfl
  generalize W0.alloc (.cells (ab 32 fun _ => 0) 27) = w1 at hal hr0 ⊢
  go_wp2_with fail
  refine (hem w1 hal).mono ?_
  rintro e w2 ⟨rfl, hb2⟩
  have hr2 := (hb2.block _ (Array.getElem?_eq_some_iff.1 hr0).1).trans hr0
  have hb02 := hal.trans (hb2.mono hal.size)
  obtain ⟨h3, h4⟩ := sum_end (F := R) hb02 hr2
  go_wp2_with (refine wpList_store_row rfl 27 (.tmp 6) (.tmp 15) rfl W0.heap.size (ab 32 R) (ab 32 fun _ => 0) 27 rfl rfl (sum_sz R) hr2 (by rw [ab_size, ab_size]) (ab_one _ _) rfl ?_)
  exact sum_ret rfl rfl rfl h4 ⟨rfl, h3⟩
def PT6 (tb b0 f e n k g off N cp : Nat) (R : Nat → Nat) : (Nat → Bool) → Nat → Value → World → Prop
  | _, 0, v, _ => v = .pointer (some ⟨tb, 0, none⟩)
  | _, 1, v, _ => v = .int .i64 ((k : Nat) : Int)
  | _, 2, v, _ => v = .slice (some ⟨g, off, none⟩) N cp
  | _, 3, v, _ => v = .int .i64 ((f : Nat) : Int)
  | _, 4, v, _ => v = .int .i64 ((k : Nat) : Int)
  | _, 5, v, _ => v = .int .i64 ((f / 2 ^ k : Nat) : Int)
  | _, 6, v, _ => v = .pointer (some ⟨g, off + 32 * (f / 2 ^ k), none⟩)
  | _, 7, v, _ => v = .agg (ab 32 R)
  | _, 8, _, _ => True
  | _, _, _, _ => True
def PT6d : Nat → Nat
  | 0 => 23
  | 1 => 24
  | 2 => 25
  | 3 => 26
  | 4 => 27
  | 5 => 28
  | 6 => 29
  | 7 => 30
  | 8 => 1008
  | i => 2000 + i
theorem PT6_mono (tb b0 f e n k g off N cp : Nat) (R : Nat → Nat) {D : Nat → Bool} {ix : Nat} {w w' : World} (hD : D ix = false) (hb : ix ≠ 8 → Below w.heap.size w w') : ∀ (j : Nat) (u : Value), j ≠ ix → PT6 tb b0 f e n k g off N cp R D j u w → PT6 tb b0 f e n k g off N cp R (add1 D ix) j u w'
  | 0, _, _, h => h
  | 1, _, _, h => h
  | 2, _, _, h => h
  | 3, _, _, h => h
  | 4, _, _, h => h
  | 5, _, _, h => h
  | 6, _, _, h => h
  | 7, _, _, h => h
  | 8, _, _, h => h
  | _ + 9, _, _, _ => trivial
set_option maxHeartbeats 4000000 in
set_option maxRecDepth 100000 in
theorem part_1w {tb f e n k g off N cp : Nat} {R : Nat → Nat} {W0 : World} (hn : f + n = e) (h0n : 0 < n) (hnb : n ≤ 1048576) (hfb : f ≤ 1048576) (hk : k < 60) (h2 : n = 2 ^ k) (hix : f / 2 ^ k < N)
    (htz : ∀ w, Below W0.heap.size W0 w → Calls Tryd.prog 43 #[.int .u64 ((n : Nat) : Int)] w fun e w' => e = .returned (.int .i64 ((k : Nat) : Int)) ∧ w' = w)
    (hlev' : ∀ w, Below W0.heap.size W0 w → Calls Tryd.prog 32 #[.pointer (some ⟨tb, 0, none⟩), .int .i64 ((k : Nat) : Int)] w fun e w' => e = .returned (.slice (some ⟨g, off, none⟩) N cp) ∧ Below w.heap.size w w')
    (hld' : ∀ w, Below W0.heap.size W0 w → (Instr.loadAt 27 (.pointer (some ⟨g, off + 32 * (f / 2 ^ k), none⟩))).run Tryd.prog w = .ok (.agg (ab 32 R)) w) : Calls Tryd.prog 29 #[.pointer (some ⟨tb, 0, none⟩), .int .i64 ((f : Nat) : Int), .int .i64 ((e : Nat) : Int)] W0 fun e w' => e = .returned (.agg (ab 32 R)) ∧ Below W0.heap.size W0 w' := by
  obtain ⟨hal, hr0⟩ := sum_new W0
  have hs : ((e : Int) - (f : Int)) = (n : Int) := by omega
  have hz : ((n : Int) == 0) = false := by rw [beq_eq_false_iff_ne]; omega
  have hcv := fun w => cv_iu (n := n) (by omega) w
  obtain ⟨p, hp⟩ : ∃ p, Hid (p = 2 ^ k) := ⟨_, hide1 rfl⟩
  have hnp : n = p := h2.trans hp.out.symm
  have hnq : ((n : Int) == (2 : Int) ^ k) = true := by rw [beq_iff_eq, h2]; simp
  replace h2 := hide1 h2
  replace hnp := hide1 hnp
  go_enter Tryd.func29, Tryd.ntmps29
  go_upto_region 1 with fail
  refine Eq.mpr (congrArg (fun c => Code.wp _ _ _ _ (W0.alloc (.cells c 27))) (?h : _ = ab 32 (fun _ => 0))) ?_
  case h => kernel_rfl
  generalize W0.alloc (.cells (ab 32 fun _ => 0) 27) = w1 at hal hr0 ⊢
  have hb01 := hal
  go_wp2_with fail
  refine (htz w1 hal).mono ?_
  rintro e w1 ⟨rfl, rfl⟩
  go_upto_region 6 with (refine wpList_shl rfl (.tmp 20) rfl (k := k) (by omega) rfl ?_)
  replace hal := hide1 hal
  have hlev := fun w (hb : Below w1.heap.size w1 w) => hlev' w (blw hal.out hb)
  have hld := fun w (hb : Below w1.heap.size w1 w) => hld' w (blw hal.out hb)
  obtain ⟨b0, hb0⟩ : ∃ b0, Hid (b0 = W0.heap.size) := ⟨_, hide1 rfl⟩
  rw [← hb0.out]
  have hrr : ∀ w, Below w1.heap.size w1 w → w.heap[b0]? = some (.cells (ab 32 fun _ => 0) 27 (0, 0)) := fun w hb => by rw [hb0.out]; exact (hb.block _ (Array.getElem?_eq_some_iff.1 hr0).1).trans hr0
  refine wp_rel3 _ _ (PT6 tb b0 f e n k g off N cp R) (MM w1 8 (fun w2 => ∃ w, Below w1.heap.size w1 w ∧ w2 = w.setRow b0 (ab 32 R))) PT6d (by kernel_rfl) (by kernel_rfl) 9 (by kernel_rfl) ?_ ?_ rfl (⟨fun _ => (Below.refl _ _).drew, fun e => by cases e⟩) ?_ ?_
  · intro ix o ho
    match ix, ho with
    | 0, ho => obtain rfl := Option.some.inj ho; exact .inl ⟨rfl, by show 23 < 44; decide⟩
    | 1, ho => obtain rfl := Option.some.inj ho; exact .inl ⟨rfl, by show 24 < 44; decide⟩
    | 2, ho => obtain rfl := Option.some.inj ho; exact .inl ⟨rfl, by show 25 < 44; decide⟩
    | 3, ho => obtain rfl := Option.some.inj ho; exact .inl ⟨rfl, by show 26 < 44; decide⟩
    | 4, ho => obtain rfl := Option.some.inj ho; exact .inl ⟨rfl, by show 27 < 44; decide⟩
    | 5, ho => obtain rfl := Option.some.inj ho; exact .inl ⟨rfl, by show 28 < 44; decide⟩
    | 6, ho => obtain rfl := Option.some.inj ho; exact .inl ⟨rfl, by show 29 < 44; decide⟩
    | 7, ho => obtain rfl := Option.some.inj ho; exact .inl ⟨rfl, by show 30 < 44; decide⟩
    | 8, ho => obtain rfl := Option.some.inj ho; exact .inr ⟨⟨rfl, fun _ _ _ _ => trivial⟩, by show 44 ≤ 1008; decide⟩
    | _ + 9, ho => exact absurd ho (by simp)
  · intro ix jx hi hj e; unfold PT6d at e; split at e <;> split at e <;> omega
  · intro ix o ho
    match ix, ho with
    | 0, ho =>
      obtain rfl := Option.some.inj ho
      intro D a w hM hsl hdep hDi hcl K hK
      have hp0 : a.tmps.getD 0 undef = .pointer (some ⟨tb, 0, none⟩) := hsl 0 (by intro j hj; unfold PT6d; split <;> omega)
      refine ⟨rfl, ?_⟩
      refine wp_val (w' := w) (v := .pointer (some ⟨tb, 0, none⟩)) (by simp only [execOp, Act.eval]; rw [show a.tmps.getD 0 undef = _ from hp0]; rfl) ?_
      exact hK _ _ rfl (hM.same (by decide)) (PT6_mono tb b0 f e n k g off N cp R hDi (fun _ => (Below.refl _ _)))
    | 1, ho =>
      obtain rfl := Option.some.inj ho
      intro D a w hM hsl hdep hDi hcl K hK
      have hp8 : a.tmps.getD 8 undef = .int .i64 ((k : Nat) : Int) := hsl 8 (by intro j hj; unfold PT6d; split <;> omega)
      refine ⟨rfl, ?_⟩
      refine wp_val (w' := w) (v := .int .i64 ((k : Nat) : Int)) (by simp only [execOp, Act.eval]; rw [show a.tmps.getD 8 undef = _ from hp8]; rfl) ?_
      exact hK _ _ rfl (hM.same (by decide)) (PT6_mono tb b0 f e n k g off N cp R hDi (fun _ => (Below.refl _ _)))
    | 2, ho =>
      obtain rfl := Option.some.inj ho
      intro D a w hM hsl hdep hDi hcl K hK
      have hD8 : D 8 = false := by
        rcases Bool.eq_false_or_eq_true (D 8) with h | h
        · have hq7 := hcl 8 _ rfl h ⟨7, .data⟩ (by simp) rfl
          have hq6 := hcl 7 _ rfl hq7 ⟨6, .data⟩ (by simp) rfl
          have hq := hcl 6 _ rfl hq6 ⟨2, .data⟩ (by simp) rfl
          rw [hDi] at hq; cases hq
        · exact h
      have e0 := (hdep ⟨0, .data⟩ (by simp) rfl).1
      have e1 := (hdep ⟨1, .data⟩ (by simp) rfl).1
      refine ⟨rfl, ?_⟩
      refine oper_callg 32 #[.tmp 23, .tmp 24] _ rfl #[.pointer (some ⟨tb, 0, none⟩), .int .i64 ((k : Nat) : Int)] (by simp only [List.map_toArray, List.map_cons, List.map_nil, Act.eval]; rw [show a.tmps.getD 23 undef = _ from e0, show a.tmps.getD 24 undef = _ from e1]) (fun w => by kernel_rfl) (hlev w (hM.1 hD8)) fun w' hb => ?_
      exact hK _ _ rfl (hM.grow (by decide) hb hD8) (PT6_mono tb b0 f e n k g off N cp R hDi (fun _ => hb))
    | 3, ho =>
      obtain rfl := Option.some.inj ho
      intro D a w hM hsl hdep hDi hcl K hK
      have hp1 : a.tmps.getD 1 undef = .int .i64 ((f : Nat) : Int) := hsl 1 (by intro j hj; unfold PT6d; split <;> omega)
      refine ⟨rfl, ?_⟩
      refine wp_val (w' := w) (v := .int .i64 ((f : Nat) : Int)) (by simp only [execOp, Act.eval]; rw [show a.tmps.getD 1 undef = _ from hp1]; rfl) ?_
      exact hK _ _ rfl (hM.same (by decide)) (PT6_mono tb b0 f e n k g off N cp R hDi (fun _ => (Below.refl _ _)))
    | 4, ho =>
      obtain rfl := Option.some.inj ho
      intro D a w hM hsl hdep hDi hcl K hK
      have hp8 : a.tmps.getD 8 undef = .int .i64 ((k : Nat) : Int) := hsl 8 (by intro j hj; unfold PT6d; split <;> omega)
      refine ⟨rfl, ?_⟩
      refine wp_val (w' := w) (v := .int .i64 ((k : Nat) : Int)) (by simp only [execOp, Act.eval]; rw [show a.tmps.getD 8 undef = _ from hp8]; rfl) ?_
      exact hK _ _ rfl (hM.same (by decide)) (PT6_mono tb b0 f e n k g off N cp R hDi (fun _ => (Below.refl _ _)))
    | 5, ho =>
      obtain rfl := Option.some.inj ho
      intro D a w hM hsl hdep hDi hcl K hK
      have e3 := (hdep ⟨3, .data⟩ (by simp) rfl).1
      have e4 := (hdep ⟨4, .data⟩ (by simp) rfl).1
      refine ⟨rfl, ?_⟩
      have hl := shr_n (x := .tmp 26) (u := .tmp 27) (m := f) (k := k) (by omega) w
      refine wp_val (w' := w) (v := .int .i64 ((f / 2 ^ k : Nat) : Int)) (by simp only [execOp, Act.eval]; rw [show a.tmps.getD 26 undef = _ from e3, show a.tmps.getD 27 undef = _ from e4]; simp only [Sem.run_bind, hl, Result.andThen_ok, Sem.run_pure]) ?_
      exact hK _ _ rfl (hM.same (by decide)) (PT6_mono tb b0 f e n k g off N cp R hDi (fun _ => (Below.refl _ _)))
    | 6, ho =>
      obtain rfl := Option.some.inj ho
      intro D a w hM hsl hdep hDi hcl K hK
      have e2 := (hdep ⟨2, .data⟩ (by simp) rfl).1
      have e5 := (hdep ⟨5, .data⟩ (by simp) rfl).1
      refine ⟨rfl, ?_⟩
      have hl := ix_ss (b := g) (off := off) (n := N) (cap := cp) (i := f / 2 ^ k) hix w
      refine wp_val (w' := w) (v := .pointer (some ⟨g, off + 32 * (f / 2 ^ k), none⟩)) (by simp only [execOp, Act.eval]; rw [show a.tmps.getD 25 undef = _ from e2, show a.tmps.getD 28 undef = _ from e5]; simp only [Sem.run_bind, hl, Result.andThen_ok, Sem.run_pure]) ?_
      exact hK _ _ rfl (hM.same (by decide)) (PT6_mono tb b0 f e n k g off N cp R hDi (fun _ => (Below.refl _ _)))
    | 7, ho =>
      obtain rfl := Option.some.inj ho
      intro D a w hM hsl hdep hDi hcl K hK
      have hD8 : D 8 = false := by
        rcases Bool.eq_false_or_eq_true (D 8) with h | h
        · have hq := hcl 8 _ rfl h ⟨7, .data⟩ (by simp) rfl
          rw [hDi] at hq; cases hq
        · exact h
      have e6 := (hdep ⟨6, .data⟩ (by simp) rfl).1
      refine ⟨rfl, ?_⟩
      have hl := hld w (hM.1 hD8)
      refine wp_val (w' := w) (v := .agg (ab 32 R)) (by simp only [execOp, Act.eval]; rw [show a.tmps.getD 29 undef = _ from e6]; simp only [Sem.run_bind, hl, Result.andThen_ok, Sem.run_pure]) ?_
      exact hK _ _ rfl (hM.same (by decide)) (PT6_mono tb b0 f e n k g off N cp R hDi (fun _ => (Below.refl _ _)))
    | 8, ho =>
      obtain rfl := Option.some.inj ho
      intro D a w hM hsl hdep hDi hcl K hK
      have e7 := (hdep ⟨7, .data⟩ (by simp) rfl).1
      have hp6 : a.tmps.getD 6 undef = .pointer (some ⟨b0, 0, none⟩) := hsl 6 (by intro j hj; unfold PT6d; split <;> omega)
      refine ⟨rfl, ?_⟩
      have hbw := hM.1 hDi
      refine wp_skp (w' := w.setRow b0 (ab 32 R)) (by simp only [execOp, Act.eval]; rw [show a.tmps.getD 6 undef = _ from hp6, show a.tmps.getD 30 undef = _ from e7]; simp only [Sem.run_bind, stS 27 (ab_size _ _) w b0 (hrr w hbw), Result.andThen_ok, Sem.run_pure]) ?_
      exact hK _ _ trivial ⟨fun e => (by rw [add1_eq] at e; cases e), fun _ => ⟨w, hbw, rfl⟩⟩ (PT6_mono tb b0 f e n k g off N cp R hDi (fun h => absurd rfl h))
    | _ + 9, ho => exact absurd ho (by simp)
  · intro D a u hall hd hs hM hsl hr
    obtain ⟨w2, hb2, rfl⟩ := hM.2 (hall 8 (by decide))
    have h4 := wrt_row (c' := ab 32 R) (hrr w2 hb2)
    have hf := below_wrt (blw hal.out hb2) h4 (by rw [hb0.out]; exact Nat.le_refl _) (blw hal.out hb2).size
    have t6 : a.tmps.getD 6 undef = .pointer (some ⟨b0, 0, none⟩) := hsl 6 (by intro j hj; unfold PT6d; split <;> omega)
    refine (‹∀ (a : Act) (w : World), Code.wp Tryd.prog _ _ a w → _›) a _ ?_
    refine wp_ret ?_
    exact bodyPost_ret (v := .agg (ab 32 R)) (R := fun e w' => e = .returned (.agg (ab 32 R)) ∧ Below W0.heap.size W0 w') (results_row Tryd.results29 _ (by rw [← Array.getD_eq_getD_getElem?]; exact t6) Tryd.underlying27 (sum_sz R) h4.row) hd ⟨rfl, hf⟩
set_option maxHeartbeats 4000000 in
set_option maxRecDepth 100000 in
theorem part_2w {tb f e n k : Nat} {A B : Nat → Nat} {W0 : World} (hn : f + n = e) (h0n : 2 ≤ n) (hnb : n ≤ 1048576) (hfb : f ≤ 1048576) (hk : k < 60) (h2 : n ≠ 2 ^ k) (hct : 1 ≤ cut n ∧ cut n < n ∧ n ≤ 2 * cut n)
    (htz : ∀ w, Below W0.heap.size W0 w → Calls Tryd.prog 43 #[.int .u64 ((n : Nat) : Int)] w fun e w' => e = .returned (.int .i64 ((k : Nat) : Int)) ∧ w' = w)
    (hlo : ∀ w, Below W0.heap.size W0 w → Calls Tryd.prog 29 #[.pointer (some ⟨tb, 0, none⟩), .int .i64 ((f : Nat) : Int), .int .i64 ((f + cut n : Nat) : Int)] w fun e w' => e = .returned (.agg (ab 32 A)) ∧ Below w.heap.size w w')
    (hhi : ∀ w, Below W0.heap.size W0 w → Calls Tryd.prog 29 #[.pointer (some ⟨tb, 0, none⟩), .int .i64 ((f + cut n : Nat) : Int), .int .i64 ((e : Nat) : Int)] w fun e w' => e = .returned (.agg (ab 32 B)) ∧ Below w.heap.size w w')
    (hnd : ∀ w, Below W0.heap.size W0 w → Calls Tryd.prog 45 #[.agg (ab 32 A), .agg (ab 32 B)] w fun e w' => e = .returned (.agg (ab 32 (nd A B))) ∧ Below w.heap.size w w') : Calls Tryd.prog 29 #[.pointer (some ⟨tb, 0, none⟩), .int .i64 ((f : Nat) : Int), .int .i64 ((e : Nat) : Int)] W0 fun e w' => e = .returned (.agg (ab 32 (nd A B))) ∧ Below W0.heap.size W0 w' := by
  obtain ⟨hal, hr0⟩ := sum_new W0
  obtain ⟨R, hR⟩ : ∃ R, Hid (R = nd A B) := ⟨_, hide1 rfl⟩
  rw [← hR.out] at hnd ⊢
  have hs : ((e : Int) - (f : Int)) = (n : Int) := by omega
  have hz : ((n : Int) == 0) = false := by rw [beq_eq_false_iff_ne]; omega
  have hcv := fun w => cv_iu (n := n) (by omega) w
  have hnq : ((n : Int) == (2 : Int) ^ k) = false := by
    rw [beq_eq_false_iff_ne]; intro h; apply h2
    have : ((n : Nat) : Int) = ((2 ^ k : Nat) : Int) := by rw [h]; simp
    omega
  replace h2 := hide1 h2
  have hcu := fun w => cut_d ((n : Nat) : Int) (by omega) w
  rw [Int.toNat_natCast] at hcu
  obtain ⟨c, hc⟩ : ∃ c, Hid (c = cut n) := ⟨_, hide1 rfl⟩
  rw [← hc.out] at hcu hlo hhi hct
  have hcb : c ≤ 1048576 := by omega
  go_enter Tryd.func29, Tryd.ntmps29
  go_upto_region 1 with fail
  refine Eq.mpr (congrArg (fun c => Code.wp _ _ _ _ (W0.alloc (.cells c 27))) (?h : _ = ab 32 (fun _ => 0))) ?_
  case h => kernel_rfl
  generalize W0.alloc (.cells (ab 32 fun _ => 0) 27) = w1 at hal hr0 ⊢
  go_wp2_with fail
  refine (htz w1 hal).mono ?_
  rintro e w1 ⟨rfl, rfl⟩
  go_wp2_with (refine wpList_shl rfl (.tmp 20) rfl (k := k) (by omega) rfl ?_)
  refine (hcu w1).mono ?_
  rintro e w1 ⟨rfl, rfl⟩
  go_wp2_with fail
  refine (hlo w1 hal).mono ?_
  rintro e w2 ⟨rfl, hb2⟩
  have hb02 := blw hal hb2
  go_wp2_with fail
  refine (hhi w2 hb02).mono ?_
  rintro e w3 ⟨rfl, hb3⟩
  have hb03 := blw hb02 hb3
  go_wp2_with fail
  refine (hnd w3 hb03).mono ?_
  rintro e w4 ⟨rfl, hb4⟩
  have hb04 := blw hb03 hb4
  have hr2 := ((blw (blw hb2 hb3) hb4).block _ (Array.getElem?_eq_some_iff.1 hr0).1).trans hr0
  obtain ⟨h3, h4⟩ := sum_end (F := R) hb04 hr2
  clear hlo hhi hnd htz hcu
  go_wp2_with (refine wpList_store_row rfl 27 (.tmp 6) (.tmp 43) rfl W0.heap.size (ab 32 R) (ab 32 fun _ => 0) 27 rfl rfl (sum_sz R) hr2 (by rw [ab_size, ab_size]) (ab_one _ _) rfl ?_)
  exact sum_ret rfl rfl rfl h4 ⟨rfl, h3⟩
theorem pow_part {n k m : Nat} (h : n = 2 ^ k * (2 * m + 1)) (hn : n ≠ 2 ^ k) : 2 ≤ n := by
  have h0 : 1 ≤ 2 ^ k := Nat.one_le_two_pow
  rcases Nat.eq_zero_or_pos m with e | e
  · subst e; omega
  · have : 2 ^ k * 3 ≤ 2 ^ k * (2 * m + 1) := Nat.mul_le_mul_left _ (by omega)
    omega
/-- The digest of a part to which cuts lead. -/
theorem part_d {lo tb : Nat} {L : List (Nat → Nat)} (hL : L.length ≤ 1048576) : ∀ (n f j : Nat) (w : World), f + n ≤ L.length → n ≤ 2 ^ j → 2 ^ j ∣ f → Tr w lo tb L → Gl w → Gz w → Calls Tryd.prog 29 #[.pointer (some ⟨tb, 0, none⟩), .int .i64 ((f : Nat) : Int), .int .i64 ((f + n : Nat) : Int)] w fun e w' => e = .returned (.agg (ab 32 (root (part L f (f + n))))) ∧ Below w.heap.size w w' := by
  intro n
  induction n using Nat.strongRecOn with
  | ind n ih =>
    intro f j w hfn hj hd hT hg hz
    rcases Nat.eq_zero_or_pos n with rfl | hpos
    · have e : part L f (f + 0) = [] := List.eq_nil_of_length_eq_zero (by rw [part_len (by omega)]; omega)
      rw [e, root_0]
      exact part_0w (fun w' hb => empty_d (gl_b hg hb))
    · obtain ⟨m, hm, hk⟩ := ctz_is (x := n) (by omega) (by omega)
      have htz := fun w' (hb : Below w.heap.size w w') => tz_d (x := n) (by omega) (by omega) (gz_b hz hb)
      generalize Lib.ctz 64 n = k at hm hk htz
      have h0 : 1 ≤ 2 ^ k := Nat.one_le_two_pow
      have hkn : 2 ^ k ≤ n := by rw [hm]; exact Nat.le_mul_of_pos_right _ (by omega)
      have hk60 : k < 60 := by
        rcases Nat.lt_or_ge k 60 with h | h
        · exact h
        · have := Nat.pow_le_pow_right (n := 2) (by decide) h
          omega
      by_cases h2 : n = 2 ^ k
      · have hkj : 2 ^ k ∣ f := by
          refine Nat.dvd_trans (pow_dvd_le (show k ≤ j from ?_)) hd
          rcases Nat.lt_or_ge j k with h | h
          · have := Nat.pow_lt_pow_right (a := 2) (by decide) h
            omega
          · exact h
        obtain ⟨hix, hgt⟩ := lvl_part (L := L) (k := k) hkj (by omega)
        obtain ⟨mb, DM, lv, vs, hT⟩ := hT
        have hkl : k < lvs L.length := lvs_lt.2 (by omega)
        obtain ⟨a, cp, ea, hS, hcp⟩ := hT.leaves hkl
        obtain ⟨g, off, rfl, _⟩ := hS.2 (Nat.lt_of_le_of_lt (Nat.zero_le _) hix)
        refine part_1w (g := g) (off := off) (cp := cp) rfl hpos (by omega) (by omega) hk60 h2 hix htz (fun w' hb => ?_) (fun w' hb => ?_)
        · have := level_in (hT.lev.later hb) hkl
          rw [ea] at this
          exact this.mono fun e w' h => ⟨h.1, by rw [h.2]; exact Below.refl _ _⟩
        · rw [ld_ss (hS.later hb) hix, hgt, ← h2]
      · have h2n := pow_part hm h2
        have hct := cut_in h2n
        obtain ⟨i, hi⟩ : ∃ i, cut n = 2 ^ i := ⟨(n - 1).log2, by unfold cut; rw [if_neg (by omega)]⟩
        have hij : i < j := by
          rcases Nat.lt_or_ge i j with h | h
          · exact h
          · have := Nat.pow_le_pow_right (n := 2) (by decide) h
            omega
        have hdi : 2 ^ i ∣ f := Nat.dvd_trans (pow_dvd_le (by omega)) hd
        rw [root_part (by omega) hfn, show f + n - f = n by omega]
        have bl := fun p q => root_lt _ (part L p q) rfl (fun F hF => by
          obtain ⟨mb, DM, lv, vs, hT⟩ := hT
          exact hT.lt F (List.mem_of_mem_take (List.mem_of_mem_drop hF)))
        refine part_2w rfl h2n (by omega) (by omega) hk60 h2 hct htz (fun w' hb => ?_) (fun w' hb => ?_) (fun w' hb => node_d (gl_b hg hb) (bl _ _) (bl _ _))
        · exact ih (cut n) hct.2.1 f i w' (by omega) (by omega) hdi (hT.later hb) (gl_b hg hb) (gz_b hz hb)
        · have := ih (n - cut n) (by omega) (f + cut n) i w' (by omega) (by omega) (by rw [hi]; exact (Nat.dvd_add_right hdi).2 (Nat.dvd_refl _)) (hT.later hb) (gl_b hg hb) (gz_b hz hb)
          rw [show f + cut n + (n - cut n) = f + n by omega] at this
          exact this
end Go.Proofs.YtdofoampjlebbaaDoor

namespace Go.Proofs.YtdofoampjlebbaaDoor
end Go.Proofs.YtdofoampjlebbaaDoor

namespace Go.Proofs.YtdofoampjlebbaaDoor
open Go.RowKit Sh

theorem as_err (v : Value) (w : World) : (Instr.typeAssert (.iface 35 v) 29 35 true).run Tryd.prog w = .ok (.tuple #[v, .bool true]) w := by kernel_rfl
set_option maxHeartbeats 400000 in
theorem num_e (n : Int) (_h : (n == 0) = false) (w : World) : Calls Tryd.prog 30 #[ev n] w fun e w' => e = .returned (.int .i64 n) ∧ w' = w := by
  have has := as_err (.int .i64 n)
  unfold ev
  go_enter Tryd.func30, Tryd.ntmps30
  go_wp2
  go_ret
  exact ⟨rfl, rfl⟩
set_option maxHeartbeats 400000 in
theorem is_e (n : Int) (h : (n == 0) = false) (w : World) : Calls Tryd.prog 12 #[ev n, .int .i64 n] w fun e w' => e = .returned (.bool true) ∧ w' = w := by
  go_enter Tryd.func12, Tryd.ntmps12
  go_wp2_with fail
  refine (num_e n h _).mono ?_
  rintro e w1 ⟨rfl, rfl⟩
  go_wp2
  go_ret
  exact ⟨rfl, rfl⟩
def z5 : Array Value := Array.replicate 160 (.int .u8 0)
theorem mk5 (w : World) : (Instr.makeSlice 22 (.int .i64 5) (.int .i64 5)).run Tryd.prog w = .ok (.slice (some ⟨w.heap.size, 0, none⟩) 5 5) (w.alloc (.cells z5 27)) := by kernel_rfl
theorem wpList_mk5 {w : World} {ops : Array Oper} {rest : List Oper} {o : Oper} {a : Act} {Q : Exit → Act → World → Prop} (hgd : o.guard = none) (ho : o.op = .makeSlice 22 (.const (.int .i64 5)) (.const (.int .i64 5)))
    (h : wpList Tryd.prog ops Q rest (a.put o.dst (.slice (some ⟨w.heap.size, 0, none⟩) 5 5)) (w.alloc (.cells z5 27))) : wpList Tryd.prog ops Q (o :: rest) a w := by
  refine wpList_plain hgd fun K hK => ?_
  unfold Oper.wp execOp
  simp only [ho, Act.eval, Sem.run_bind, mk5 w, Result.andThen_ok, Sem.run_pure]
  exact hK _ _ h
theorem ss_z5 {w : World} : SsAt (w.alloc (.cells z5 27)) (some ⟨w.heap.size, 0, none⟩) (List.replicate 5 fun _ => 0) :=
  ⟨fun F h j => by rw [(List.mem_replicate.1 h).2]; exact (by decide : 0 < 256), fun _ => ⟨_, 0, rfl, fun i h j hj => by
    rw [cell_of_row _ _ _ _ _ _ (World.alloc_heap_new w _)]
    rw [List.length_replicate] at h
    rw [List.getElem_replicate]
    unfold z5
    rw [Array.getElem?_replicate, if_pos (by omega)]
    rfl⟩⟩
theorem own_shape {w : World} {base n : Nat} {L : List (Nat → Nat)} {v : Value} (hL : ∀ F ∈ L, ∀ j, F j < 256) (hn : L.length = n) (h : w.ownsRow base 27 32 v n (ssv L)) : ∃ a cap, v = .slice a n cap ∧ SsAt w a L ∧ n ≤ cap := ss_own hL hn h
theorem asl_lt {L : List (Nat → Nat)} (h : ∀ F ∈ L, ∀ j, F j < 256) (xs : List Cu) : ∀ F ∈ asl L xs, ∀ j, F j < 256 := by
  intro F hF
  obtain ⟨c, _, rfl⟩ := List.mem_map.1 hF
  refine root_lt _ _ rfl fun G hG => h G ?_
  split at hG
  · exact List.mem_of_mem_take (List.mem_of_mem_drop hG)
  · exact List.mem_of_mem_take (List.mem_of_mem_drop hG)
theorem w45 : (way 4 5).length = 1 := by decide +kernel
theorem w05 : (way 0 5).length = 3 := by decide +kernel
end Go.Proofs.YtdofoampjlebbaaDoor

namespace Go.Proofs.YtdofoampjlebbaaDoor
open Go.RowKit Sh

theorem cut_rr (n : Nat) (hn : n ≤ 1048576) (w : World) : Calls Tryd.prog 38 #[.int .i64 ((n : Nat) : Int)] w fun e w' => e = .returned (.int .i64 ((cut n : Nat) : Int)) ∧ w' = w :=
  (cut_r ((n : Nat) : Int) (by omega) w).mono fun e w' h => ⟨by rw [h.1, Int.toNat_natCast], h.2⟩
set_option maxHeartbeats 4000000 in
theorem refLen_d : ∀ (n i : Nat) (w : World), i < n → n ≤ 1048576 → Calls Tryd.prog 27 #[.int .i64 ((i : Nat) : Int), .int .i64 ((n : Nat) : Int)] w fun e w' => e = .returned (.int .i64 (((way i n).length : Nat) : Int)) ∧ w' = w := by
  intro n
  induction n using Nat.strongRecOn with
  | ind n ih =>
    intro i w hi hn
    rcases Nat.lt_or_ge n 2 with h2 | h2
    · obtain rfl : n = 1 := by omega
      rw [way_1]
      go_enter Tryd.func27, Tryd.ntmps27
      go_wp2
      go_ret
      exact ⟨rfl, rfl⟩
    · have hk := cut_in h2
      have h1 : ((n : Int) == 1) = false := by rw [beq_eq_false_iff_ne]; omega
      rcases Nat.lt_or_ge i (cut n) with h | h
      · have hr := ih (cut n) hk.2.1 i w h (by omega)
        have hwl := way_le i (cut n)
        rw [way_len_lo h2 h]
        have hc := cut_rr n hn w
        generalize (way i (cut n)).length = N at *
        generalize cut n = k at *
        have hlt : (i : Int) < (k : Int) := by omega
        go_enter Tryd.func27, Tryd.ntmps27
        go_wp2_with fail
        refine hc.mono ?_
        rintro e w1 ⟨rfl, rfl⟩
        go_wp2_with fail
        refine hr.mono ?_
        rintro e w1 ⟨rfl, rfl⟩
        go_wp2
        go_ret
        exact ⟨by simp, rfl⟩
      · have hr := ih (n - cut n) (by omega) (i - cut n) w (by omega) (by omega)
        have hwl := way_le (i - cut n) (n - cut n)
        rw [way_len_hi h2 h]
        have hc := cut_rr n hn w
        generalize (way (i - cut n) (n - cut n)).length = N at *
        generalize cut n = k at *
        have hlt : ¬ (i : Int) < (k : Int) := by omega
        rw [show ((i - k : Nat) : Int) = (i : Int) - (k : Int) by omega, show ((n - k : Nat) : Int) = (n : Int) - (k : Int) by omega] at hr
        go_enter Tryd.func27, Tryd.ntmps27
        go_wp2_with fail
        refine hc.mono ?_
        rintro e w1 ⟨rfl, rfl⟩
        go_wp2_with fail
        refine hr.mono ?_
        rintro e w1 ⟨rfl, rfl⟩
        go_wp2
        go_ret
        exact ⟨by simp, rfl⟩
def tx (r : Bool) (F p : Nat → Nat) : Nat → Nat := if r then txt p F else txt F p
/-- The texts digested on the way up. -/
def ctxL : List Cu → List (Nat → Nat) → (Nat → Nat) → List (Nat → Nat)
  | c :: cs, p :: ps, F => tx c.r F p :: ctxL cs ps (jn c.r F p)
  | _, _, _ => []
theorem ctxL_snoc : ∀ (cs : List Cu) (ps : List (Nat → Nat)) (F : Nat → Nat) (c : Cu) (p : Nat → Nat), cs.length = ps.length → ctxL (cs ++ [c]) (ps ++ [p]) F = ctxL cs ps F ++ [tx c.r (comeL cs ps F) p]
  | [], [], F, c, p, _ => rfl
  | c' :: cs, p' :: ps, F, c, p, h => by
    show tx c'.r F p' :: ctxL (cs ++ [c]) (ps ++ [p]) _ = _
    rw [ctxL_snoc cs ps _ c p (by simpa using h)]; rfl
  | [], _ :: _, _, _, _, h => by simp at h
  | _ :: _, [], _, _, _, h => by simp at h
theorem ctxL_map (s : Nat) : ∀ (cs : List Cu) (ps : List (Nat → Nat)) (F : Nat → Nat), ctxL (cs.map (sh s)) ps F = ctxL cs ps F
  | [], [], _ => rfl
  | [], _ :: _, _ => rfl
  | _ :: _, [], _ => rfl
  | c :: cs, p :: ps, F => by show tx c.r F p :: _ = tx c.r F p :: _; congr 1; exact ctxL_map s cs ps (jn c.r F p)
theorem ctxL_len : ∀ (cs : List Cu) (ps : List (Nat → Nat)) (F : Nat → Nat), cs.length = ps.length → (ctxL cs ps F).length = ps.length
  | [], [], _, _ => rfl
  | c :: cs, p :: ps, F, h => by show (ctxL cs ps _).length + 1 = _; rw [ctxL_len cs ps _ (by simpa using h)]; rfl
  | [], _ :: _, _, h => by simp at h
  | _ :: _, [], _, h => by simp at h
theorem ctx_lo {i n : Nat} {ps : List (Nat → Nat)} {p F : Nat → Nat} (hn : 2 ≤ n) (h : i < cut n) (hl : ps.length = (way i (cut n)).length) : ctxL (way i n).reverse (ps ++ [p]) F = ctxL (way i (cut n)).reverse ps F ++ [txt (comeL (way i (cut n)).reverse ps F) p] := by
  rw [way_lo hn h, List.reverse_cons, ctxL_snoc _ _ _ _ _ (by rw [List.length_reverse]; exact hl.symm)]; rfl
theorem ctx_hi {i n : Nat} {ps : List (Nat → Nat)} {p F : Nat → Nat} (hn : 2 ≤ n) (h : cut n ≤ i) (hl : ps.length = (way (i - cut n) (n - cut n)).length) : ctxL (way i n).reverse (ps ++ [p]) F = ctxL (way (i - cut n) (n - cut n)).reverse ps F ++ [txt p (comeL (way (i - cut n) (n - cut n)).reverse ps F)] := by
  rw [way_hi hn h, List.reverse_cons, ctxL_snoc _ _ _ _ _ (by rw [List.length_reverse, List.length_map]; exact hl.symm), ← List.map_reverse, ctxL_map, comeL_map]; rfl
/-- A load whose run is known, in a plain region. -/
theorem wpList_ld {w : World} {ops : Array Oper} {rest : List Oper} {o : Oper} {a : Act} {Q : Exit → Act → World → Prop} (hgd : Region.wanted o (yielded ops a.tmps) = true) (t : TypeId) (p : Operand) (ho : o.op = .load t p) {v : Value} (pv : Value) (hp : a.eval p = pv) (hl : (Instr.loadAt t pv).run Tryd.prog w = .ok v w) (h : wpList Tryd.prog ops Q rest (a.put o.dst v) w) : wpList Tryd.prog ops Q (o :: rest) a w := by
  refine wpList_step fun K hK => ?_
  rw [if_pos hgd]
  unfold Oper.wp execOp
  simp only [ho, hp, Sem.run_bind, hl, Result.andThen_ok, Sem.run_pure]
  exact hK _ _ h
theorem wpList_eqG {w : World} {ops : Array Oper} {rest : List Oper} {o : Oper} {a : Act} {Q : Exit → Act → World → Prop} (hgd : Region.wanted o (yielded ops a.tmps) = true) (x u : Operand) (ho : o.op = .binOp .eql 27 x u 27) {F G : Nat → Nat} {b : Bool} (hx : a.eval x = .agg (ab 32 F)) (hu : a.eval u = .agg (ab 32 G)) (hb : eqD F G = b) (h : wpList Tryd.prog ops Q rest (a.put o.dst (.bool b)) w) : wpList Tryd.prog ops Q (o :: rest) a w := by
  refine wpList_step fun K hK => ?_
  rw [if_pos hgd]
  have hl := eqS_v (x := x) (u := u) hb w
  unfold Oper.wp execOp
  simp only [ho, hx, hu]
  simp only [Sem.run_bind] at hl ⊢
  simp only [hl, Result.andThen_ok, Sem.run_pure]
  exact hK _ _ h
end Go.Proofs.YtdofoampjlebbaaDoor

namespace Go.Proofs.YtdofoampjlebbaaDoor
open Go.RowKit Go.Maps Sh

theorem add_q {q : Option Nat} {w : World} {lo tb : Nat} {L : List (Nat → Nat)} {F : Nat → Nat} (h : TrQ q w lo tb L) (hF : ∀ j, F j < 256) (hg : Gl w) (hgo : GlLo lo) (hn : L.length < 1048576) : Calls Tryd.prog 13 #[.pointer (some ⟨tb, 0, none⟩), .agg (ab 32 F)] w fun e w' => e = .returned (.tuple #[.int .i64 ((L.length : Nat) : Int), .nilIface]) ∧ TrQ q w' lo tb (L ++ [F]) ∧ Bq q lo w w' := by
  cases hf : fstI L F with
  | none => exact add_n h hF hg hgo hn hf
  | some i => exact add_f h hF hg hgo hn hf
theorem add_d {w : World} {lo tb : Nat} {L : List (Nat → Nat)} {F : Nat → Nat} (h : Tr w lo tb L) (hF : ∀ j, F j < 256) (hg : Gl w) (hgo : GlLo lo) (hn : L.length < 1048576) : Calls Tryd.prog 13 #[.pointer (some ⟨tb, 0, none⟩), .agg (ab 32 F)] w fun e w' => e = .returned (.tuple #[.int .i64 ((L.length : Nat) : Int), .nilIface]) ∧ Tr w' lo tb (L ++ [F]) ∧ Below lo w w' :=
  (add_q h hF hg hgo hn).mono fun _ _ h => ⟨h.1, h.2.1, h.2.2.b⟩
section
variable {w : World} {lo tb : Nat} {L : List (Nat → Nat)}
theorem sum_ret2 {fn : Func} {a : Act} {w W0 : World} {F : Nat → Nat} {p q : Tmp} {v : Value} {R : Ending → World → Prop} (hrs : fn.results = #[.cell p 27, .tmp q]) (ht : a.tmps[p]?.getD undef = .pointer (some ⟨W0.heap.size, 0, none⟩)) (hv : a.tmps[q]?.getD undef = v) (hd : a.defers = []) (hr : w.heap[W0.heap.size]? = some (.cells (ab 32 F) 27 (0, 0))) (hR : R (.returned (.tuple #[.agg (ab 32 F), v])) w) : bodyPost Tryd.prog fn R .ret a w := by
  refine bodyPost_ret (v := .tuple #[.agg (ab 32 F), v]) ?_ hd hR
  have h1 := run_loadVar_row (P := Tryd.prog) w W0.heap.size 27 27 (ab 32 F) (0, 0) _ hr Tryd.underlying27 rfl (sum_sz F)
  have ha : (asAddr (.pointer (some ⟨W0.heap.size, 0, none⟩))).run Tryd.prog w = .ok ⟨W0.heap.size, 0, none⟩ w := rfl
  simp [results, hrs, ht, hv, ha, h1]
theorem wpList_ixs {w : World} {ops : Array Oper} {rest : List Oper} {o : Oper} {a : Act} {Q : Exit → Act → World → Prop} (hgd : o.guard = none) (x u : Operand) {t : TypeId} (ho : o.op = .indexAddr t x u) {vx vu v : Value} (hx : a.eval x = vx) (hu : a.eval u = vu) (hr : (Instr.indexAt t vx vu).run Tryd.prog w = .ok v w) (h : wpList Tryd.prog ops Q rest (a.put o.dst v) w) : wpList Tryd.prog ops Q (o :: rest) a w := by
  refine wpList_plain hgd fun K hK => ?_
  unfold Oper.wp
  simp only [execOp, ho, hx, hu, Sem.run_bind, hr, Result.andThen_ok, Sem.run_pure, Oper.upon_value]
  exact hK _ _ h
theorem wpList_bz {w : World} {ops : Array Oper} {rest : List Oper} {o : Oper} {a : Act} {Q : Exit → Act → World → Prop} {Z : Nat → Nat} (hZ : Z = fun _ => 0) (hgd : o.guard = none) (ho : o.op = .build 27 #[]) (h : wpList Tryd.prog ops Q rest (a.put o.dst (.agg (ab 32 Z))) w) : wpList Tryd.prog ops Q (o :: rest) a w := by
  subst hZ
  refine wpList_plain hgd fun K hK => ?_
  have hb : (execOp a.eval o).run Tryd.prog w = .ok (.value (.agg (ab 32 fun _ => 0))) w := by
    simp only [execOp, ho]
    kernel_rfl
  unfold Oper.wp
  rw [hb]
  exact hK _ _ h
set_option maxHeartbeats 4000000 in
set_option maxRecDepth 100000 in
theorem root_in (h : Tr w lo tb L) (hg : Gl w) (hz : Gz w) (hL : L.length ≤ 1048576) {n : Nat} (hn : n ≤ L.length) : Calls Tryd.prog 10 #[.pointer (some ⟨tb, 0, none⟩), .int .i64 ((n : Nat) : Int)] w fun e w' => e = .returned (.tuple #[.agg (ab 32 (root (L.take n))), .nilIface]) ∧ Below w.heap.size w w' := by
  obtain ⟨hal, hr0⟩ := sum_new w
  have hle := fun w' (hb : Below w.heap.size w w') => len_d (h.later hb)
  have hpa := fun w' (hb : Below w.heap.size w w') => part_d hL n 0 n w' (by omega) (Nat.le_of_lt Nat.lt_two_pow_self) (Nat.dvd_zero _) (h.later hb) (gl_b hg hb) (gz_b hz hb)
  rw [Nat.zero_add, part_0] at hpa
  obtain ⟨R, hR⟩ : ∃ R, Hid (R = root (L.take n)) := ⟨_, hide1 rfl⟩
  rw [← hR.out] at hpa ⊢
  have h1 : ¬ (n : Int) < 0 := by omega
  have h2 : ¬ (L.length : Int) < (n : Int) := by omega
  generalize L.length = N at *
  clear h hg hz
  go_enter Tryd.func10, Tryd.ntmps10
  go_upto_region 1 with fail
  refine Eq.mpr (congrArg (fun c => Code.wp _ _ _ _ (w.alloc (.cells c 27))) (?h : _ = ab 32 (fun _ => 0))) ?_
  case h => kernel_rfl
  generalize w.alloc (.cells (ab 32 fun _ => 0) 27) = w1 at hal hr0 ⊢
  go_wp2_with fail
  refine (hle w1 hal).mono ?_
  rintro e w1 ⟨rfl, rfl⟩
  go_wp2_with fail
  refine (hpa w1 hal).mono ?_
  rintro e w2 ⟨rfl, hb2⟩
  have hr2 := (hb2.block _ (Array.getElem?_eq_some_iff.1 hr0).1).trans hr0
  have hb02 := hal.trans (hb2.mono hal.size)
  obtain ⟨h3, h4⟩ := sum_end (F := R) hb02 hr2
  clear hle hpa
  go_wp2_with (refine wpList_store_row rfl 27 (.tmp 4) (.tmp 18) rfl w.heap.size (ab 32 R) (ab 32 fun _ => 0) 27 rfl rfl (sum_sz R) hr2 (by rw [ab_size, ab_size]) (ab_one _ _) rfl ?_)
  exact sum_ret2 rfl rfl rfl rfl h4 ⟨rfl, h3⟩
set_option maxHeartbeats 4000000 in
set_option maxRecDepth 100000 in
theorem root_out (h : Tr w lo tb L) {n : Int} (hn : n < 0 ∨ (L.length : Int) < n) : Calls Tryd.prog 10 #[.pointer (some ⟨tb, 0, none⟩), .int .i64 n] w fun e w' => e = .returned (.tuple #[.agg (ab 32 fun _ => 0), ev 2]) ∧ Below w.heap.size w w' := by
  obtain ⟨hal, hr0⟩ := sum_new w
  have hle := fun w' (hb : Below w.heap.size w w') => len_d (h.later hb)
  obtain ⟨Z, hZ⟩ : ∃ Z : Nat → Nat, Hid (Z = fun _ => 0) := ⟨_, hide1 rfl⟩
  obtain ⟨h3, h4⟩ := sum_end (F := Z) hal hr0
  rw [show (Value.agg (ab 32 fun _ => 0)) = .agg (ab 32 Z) by rw [hZ.out]]
  by_cases h1 : n < 0
  · clear h hle
    go_enter Tryd.func10, Tryd.ntmps10
    go_upto_region 1 with fail
    refine Eq.mpr (congrArg (fun c => Code.wp _ _ _ _ (w.alloc (.cells c 27))) (?h : _ = ab 32 (fun _ => 0))) ?_
    case h => kernel_rfl
    generalize w.alloc (.cells (ab 32 fun _ => 0) 27) = w1 at hal hr0 h3 h4 ⊢
    go_wp2_with (first | (refine wpList_bz hZ.out rfl rfl ?_) | (refine wpList_store_row rfl 27 (.tmp 4) (.tmp 14) rfl w.heap.size (ab 32 Z) (ab 32 fun _ => 0) 27 rfl rfl (sum_sz _) hr0 (by rw [ab_size, ab_size]) (ab_one _ _) rfl ?_))
    exact sum_ret2 rfl rfl rfl rfl h4 ⟨rfl, h3⟩
  · have h2 : (L.length : Int) < n := by omega
    generalize L.length = N at *
    clear h
    go_enter Tryd.func10, Tryd.ntmps10
    go_upto_region 1 with fail
    refine Eq.mpr (congrArg (fun c => Code.wp _ _ _ _ (w.alloc (.cells c 27))) (?h : _ = ab 32 (fun _ => 0))) ?_
    case h => kernel_rfl
    generalize w.alloc (.cells (ab 32 fun _ => 0) 27) = w1 at hal hr0 h3 h4 ⊢
    go_wp2_with fail
    refine (hle w1 hal).mono ?_
    rintro e w1 ⟨rfl, rfl⟩
    go_wp2_with (first | (refine wpList_bz hZ.out rfl rfl ?_) | (refine wpList_store_row rfl 27 (.tmp 4) (.tmp 14) rfl w.heap.size (ab 32 Z) (ab 32 fun _ => 0) 27 rfl rfl (sum_sz _) hr0 (by rw [ab_size, ab_size]) (ab_one _ _) rfl ?_))
    exact sum_ret2 rfl rfl rfl rfl h4 ⟨rfl, h3⟩
set_option maxHeartbeats 4000000 in
set_option maxRecDepth 100000 in
theorem leaf_in (h : Tr w lo tb L) {i : Nat} (hi : i < L.length) : Calls Tryd.prog 24 #[.pointer (some ⟨tb, 0, none⟩), .int .i64 ((i : Nat) : Int)] w fun e w' => e = .returned (.tuple #[.agg (ab 32 (L.getD i fun _ => 0)), .nilIface]) ∧ Below w.heap.size w w' := by
  obtain ⟨hal, hr0⟩ := sum_new w
  have hle := fun w' (hb : Below w.heap.size w w') => len_d (h.later hb)
  obtain ⟨mb, DM, lv, vs, h⟩ := h
  have hl : 0 < lvs L.length := lvs_lt.2 (by rw [Nat.pow_zero]; omega)
  obtain ⟨a, cap, e1, hS, -⟩ := h.leaves hl
  rw [lvl_0] at e1 hS
  obtain ⟨b, off, rfl, -⟩ := hS.2 (by omega)
  have hlv := fun w' (hb : Below w.heap.size w w') => level_in (h.lev.later hb) hl
  rw [e1] at hlv
  have hld := fun w' (hb : Below w.heap.size w w') => ld_st (hS.later hb) rfl hi
  have hix := fun w' => ix_ss (b := b) (off := off) (cap := cap) hi w'
  obtain ⟨R, hR⟩ : ∃ R, Hid (R = L.getD i fun _ => 0) := ⟨_, hide1 rfl⟩
  rw [← hR.out] at hld ⊢
  have h1 : ¬ (i : Int) < 0 := by omega
  have h2 : ¬ (L.length : Int) ≤ (i : Int) := by omega
  generalize L.length = N at *
  obtain ⟨q, hq⟩ : ∃ q, Hid (q = off + 32 * i) := ⟨_, hide1 rfl⟩
  rw [← hq.out] at hld hix
  clear h hS e1 hl
  go_enter Tryd.func24, Tryd.ntmps24
  go_upto_region 1 with fail
  refine Eq.mpr (congrArg (fun c => Code.wp _ _ _ _ (w.alloc (.cells c 27))) (?h : _ = ab 32 (fun _ => 0))) ?_
  case h => kernel_rfl
  generalize w.alloc (.cells (ab 32 fun _ => 0) 27) = w1 at hal hr0 ⊢
  go_wp2_with fail
  refine (hle w1 hal).mono ?_
  rintro e w1 ⟨rfl, rfl⟩
  go_wp2_with fail
  refine (hlv w1 hal).mono ?_
  rintro e w1 ⟨rfl, rfl⟩
  have hr2 := hr0
  obtain ⟨h3, h4⟩ := sum_end (F := R) hal hr2
  have hl1 := hld w1 hal
  have hxx := hix w1
  clear hle hlv hld hix
  go_wp2_with (first
    | (refine wpList_ixs rfl (.tmp 17) (.tmp 18) rfl rfl rfl hxx ?_)
    | (refine wpList_ld rfl 27 (.tmp 19) rfl _ rfl hl1 ?_)
    | (refine wpList_store_row rfl 27 (.tmp 4) (.tmp 20) rfl w.heap.size (ab 32 R) (ab 32 fun _ => 0) 27 rfl rfl (sum_sz R) hr2 (by rw [ab_size, ab_size]) (ab_one _ _) rfl ?_))
  exact sum_ret2 rfl rfl rfl rfl h4 ⟨rfl, h3⟩
set_option maxHeartbeats 4000000 in
set_option maxRecDepth 100000 in
theorem leaf_out (h : Tr w lo tb L) {n : Int} (hn : n < 0 ∨ (L.length : Int) ≤ n) : Calls Tryd.prog 24 #[.pointer (some ⟨tb, 0, none⟩), .int .i64 n] w fun e w' => e = .returned (.tuple #[.agg (ab 32 fun _ => 0), ev 2]) ∧ Below w.heap.size w w' := by
  obtain ⟨hal, hr0⟩ := sum_new w
  have hle := fun w' (hb : Below w.heap.size w w') => len_d (h.later hb)
  obtain ⟨Z, hZ⟩ : ∃ Z : Nat → Nat, Hid (Z = fun _ => 0) := ⟨_, hide1 rfl⟩
  obtain ⟨h3, h4⟩ := sum_end (F := Z) hal hr0
  rw [show (Value.agg (ab 32 fun _ => 0)) = .agg (ab 32 Z) by rw [hZ.out]]
  by_cases h1 : n < 0
  · clear h hle
    go_enter Tryd.func24, Tryd.ntmps24
    go_upto_region 1 with fail
    refine Eq.mpr (congrArg (fun c => Code.wp _ _ _ _ (w.alloc (.cells c 27))) (?h : _ = ab 32 (fun _ => 0))) ?_
    case h => kernel_rfl
    generalize w.alloc (.cells (ab 32 fun _ => 0) 27) = w1 at hal hr0 h3 h4 ⊢
    go_wp2_with (first | (refine wpList_bz hZ.out rfl rfl ?_) | (refine wpList_store_row rfl 27 (.tmp 4) (.tmp 14) rfl w.heap.size (ab 32 Z) (ab 32 fun _ => 0) 27 rfl rfl (sum_sz _) hr0 (by rw [ab_size, ab_size]) (ab_one _ _) rfl ?_))
    exact sum_ret2 rfl rfl rfl rfl h4 ⟨rfl, h3⟩
  · have h2 : (L.length : Int) ≤ n := by omega
    generalize L.length = N at *
    clear h
    go_enter Tryd.func24, Tryd.ntmps24
    go_upto_region 1 with fail
    refine Eq.mpr (congrArg (fun c => Code.wp _ _ _ _ (w.alloc (.cells c 27))) (?h : _ = ab 32 (fun _ => 0))) ?_
    case h => kernel_rfl
    generalize w.alloc (.cells (ab 32 fun _ => 0) 27) = w1 at hal hr0 h3 h4 ⊢
    go_wp2_with fail
    refine (hle w1 hal).mono ?_
    rintro e w1 ⟨rfl, rfl⟩
    go_wp2_with (first | (refine wpList_bz hZ.out rfl rfl ?_) | (refine wpList_store_row rfl 27 (.tmp 4) (.tmp 14) rfl w.heap.size (ab 32 Z) (ab 32 fun _ => 0) 27 rfl rfl (sum_sz _) hr0 (by rw [ab_size, ab_size]) (ab_one _ _) rfl ?_))
    exact sum_ret2 rfl rfl rfl rfl h4 ⟨rfl, h3⟩
end
/-! A nil tree. -/
set_option maxHeartbeats 4000000 in
set_option maxRecDepth 100000 in
theorem add_nil {F : Nat → Nat} {w : World} : Calls Tryd.prog 13 #[.pointer none, .agg (ab 32 F)] w fun e w' => e = .returned (.tuple #[.int .i64 0, ev 3]) ∧ Below w.heap.size w w' := by
  obtain ⟨A, hA⟩ : ∃ A, Hid (A = ab 32 F) := ⟨_, hide1 rfl⟩
  have bxA : ∀ w : World, (Instr.box 27 (.agg A)).run Tryd.prog w = .ok (.pointer (some ⟨w.heap.size, 0, none⟩)) (w.alloc (.cells A 27)) := fun w => bx_agg w
  rw [← hA.out]
  go_enter Tryd.func13, Tryd.ntmps13
  go_wp2
  go_ret2
  exact ⟨rfl, (Below.refl _ _).alloc (Nat.le_refl _) _⟩
set_option maxHeartbeats 4000000 in
set_option maxRecDepth 100000 in
theorem find_nil {F : Nat → Nat} {w : World} : Calls Tryd.prog 22 #[.pointer none, .agg (ab 32 F)] w fun e w' => e = .returned (.tuple #[.int .i64 0, .bool false]) ∧ Below w.heap.size w w' := by
  obtain ⟨A, hA⟩ : ∃ A, Hid (A = ab 32 F) := ⟨_, hide1 rfl⟩
  have bxA : ∀ w : World, (Instr.box 27 (.agg A)).run Tryd.prog w = .ok (.pointer (some ⟨w.heap.size, 0, none⟩)) (w.alloc (.cells A 27)) := fun w => bx_agg w
  rw [← hA.out]
  go_enter Tryd.func22, Tryd.ntmps22
  go_wp2
  go_ret2
  exact ⟨rfl, (Below.refl _ _).alloc (Nat.le_refl _) _⟩
set_option maxHeartbeats 4000000 in
set_option maxRecDepth 100000 in
theorem leaf_nil (n : Int) {w : World} : Calls Tryd.prog 24 #[.pointer none, .int .i64 n] w fun e w' => e = .returned (.tuple #[.agg (ab 32 fun _ => 0), ev 2]) ∧ Below w.heap.size w w' := by
  obtain ⟨hal, hr0⟩ := sum_new w
  obtain ⟨Z, hZ⟩ : ∃ Z : Nat → Nat, Hid (Z = fun _ => 0) := ⟨_, hide1 rfl⟩
  obtain ⟨h3, h4⟩ := sum_end (F := Z) hal hr0
  rw [show (Value.agg (ab 32 fun _ => 0)) = .agg (ab 32 Z) by rw [hZ.out]]
  by_cases h1 : n < 0
  · go_enter Tryd.func24, Tryd.ntmps24
    go_upto_region 1 with fail
    refine Eq.mpr (congrArg (fun c => Code.wp _ _ _ _ (w.alloc (.cells c 27))) (?h : _ = ab 32 (fun _ => 0))) ?_
    case h => kernel_rfl
    generalize w.alloc (.cells (ab 32 fun _ => 0) 27) = w1 at hal hr0 h3 h4 ⊢
    go_wp2_with (first | (refine wpList_bz hZ.out rfl rfl ?_) | (refine wpList_store_row rfl 27 (.tmp 4) (.tmp 14) rfl w.heap.size (ab 32 Z) (ab 32 fun _ => 0) 27 rfl rfl (sum_sz _) hr0 (by rw [ab_size, ab_size]) (ab_one _ _) rfl ?_))
    exact sum_ret2 rfl rfl rfl rfl h4 ⟨rfl, h3⟩
  · have h2 : (0 : Int) ≤ n := by omega
    go_enter Tryd.func24, Tryd.ntmps24
    go_upto_region 1 with fail
    refine Eq.mpr (congrArg (fun c => Code.wp _ _ _ _ (w.alloc (.cells c 27))) (?h : _ = ab 32 (fun _ => 0))) ?_
    case h => kernel_rfl
    generalize w.alloc (.cells (ab 32 fun _ => 0) 27) = w1 at hal hr0 h3 h4 ⊢
    go_wp2_with fail
    refine (len_nil w1).mono ?_
    rintro e w1 ⟨rfl, rfl⟩
    go_wp2_with (first | (refine wpList_bz hZ.out rfl rfl ?_) | (refine wpList_store_row rfl 27 (.tmp 4) (.tmp 14) rfl w.heap.size (ab 32 Z) (ab 32 fun _ => 0) 27 rfl rfl (sum_sz _) hr0 (by rw [ab_size, ab_size]) (ab_one _ _) rfl ?_))
    exact sum_ret2 rfl rfl rfl rfl h4 ⟨rfl, h3⟩
end Go.Proofs.YtdofoampjlebbaaDoor

namespace Go.Proofs.YtdofoampjlebbaaDoor
open Go.RowKit Go.Maps Sh
def PP8 (b off n cap i N1 B : Nat) (al : Bool) (A : List (Nat → Nat)) (R : Nat → Nat) : (Nat → Bool) → Nat → Value → World → Prop
  | _, 0, v, _ => v = .slice (some ⟨b, off, none⟩) n cap
  | _, 1, v, _ => v = .int .i64 ((cut n : Nat) : Int)
  | _, 2, v, _ => v = .slice (some ⟨b, off, none⟩) (cut n) cap
  | _, 3, v, _ => v = .int .i64 ((i : Nat) : Int)
  | _, 4, v, _ => v = .bool al
  | D, 5, v, w => D 11 = false → OwnS B N1 A v w
  | _, 6, v, _ => v = .slice (some ⟨b, off, none⟩) n cap
  | _, 7, v, _ => v = .int .i64 ((cut n : Nat) : Int)
  | _, 8, v, _ => v = .slice (some ⟨b, off + 32 * cut n, none⟩) (n - cut n) (cap - cut n)
  | _, 9, v, _ => v = .agg (ab 32 R)
  | D, 10, v, w => D 11 = false → Row1 R v w
  | D, 11, v, w => D 11 = true ∧ OwnS B (N1 + 1) (A ++ [R]) v w
  | D, 12, v, w => D 11 = true ∧ OwnS B (N1 + 1) (A ++ [R]) v w
  | _, _, _, _ => True
def PP8d : Nat → Nat
  | 0 => 23
  | 1 => 24
  | 2 => 25
  | 3 => 26
  | 4 => 27
  | 5 => 28
  | 6 => 29
  | 7 => 30
  | 8 => 31
  | 9 => 32
  | 10 => 33
  | 11 => 34
  | 12 => 6
  | i => 2000 + i
theorem PP8_mono (b off n cap i N1 B : Nat) (al : Bool) (A : List (Nat → Nat)) (R : Nat → Nat) {D : Nat → Bool} {ix : Nat} {w w' : World} (hD : D ix = false) (hb : ix ≠ 11 → Below w.heap.size w w') : ∀ (j : Nat) (u : Value), j ≠ ix → PP8 b off n cap i N1 B al A R D j u w → PP8 b off n cap i N1 B al A R (add1 D ix) j u w'
  | 0, _, _, h => h
  | 1, _, _, h => h
  | 2, _, _, h => h
  | 3, _, _, h => h
  | 4, _, _, h => h
  | 5, _, _, h => fun hd => by
    by_cases e : ix = 11
    · subst e; rw [add1_eq] at hd; cases hd
    · rw [add1_ne (fun q => e q.symm)] at hd; exact (h hd).later (hb e)
  | 6, _, _, h => h
  | 7, _, _, h => h
  | 8, _, _, h => h
  | 9, _, _, h => h
  | 10, _, _, h => fun hd => by
    by_cases e : ix = 11
    · subst e; rw [add1_eq] at hd; cases hd
    · rw [add1_ne (fun q => e q.symm)] at hd; exact (h hd).later (hb e)
  | 11, _, _, h => by
    have e : ix ≠ 11 := fun e => by rw [e] at hD; rw [h.1] at hD; cases hD
    exact ⟨by rw [add1_ne (fun q => e q.symm)]; exact h.1, h.2.later (hb e)⟩
  | 12, _, _, h => by
    have e : ix ≠ 11 := fun e => by rw [e] at hD; rw [h.1] at hD; cases hD
    exact ⟨by rw [add1_ne (fun q => e q.symm)]; exact h.1, h.2.later (hb e)⟩
  | _ + 13, _, _, _ => trivial
def PP9 (b off n cap i N1 B : Nat) (A : List (Nat → Nat)) (R : Nat → Nat) : (Nat → Bool) → Nat → Value → World → Prop
  | _, 0, v, _ => v = .slice (some ⟨b, off, none⟩) n cap
  | _, 1, v, _ => v = .int .i64 ((cut n : Nat) : Int)
  | _, 2, v, _ => v = .slice (some ⟨b, off + 32 * cut n, none⟩) (n - cut n) (cap - cut n)
  | _, 3, v, _ => v = .int .i64 ((i : Nat) : Int)
  | _, 4, v, _ => v = .int .i64 ((cut n : Nat) : Int)
  | _, 5, v, _ => v = .int .i64 ((i - cut n : Nat) : Int)
  | D, 6, v, w => D 12 = false → OwnS B N1 A v w
  | _, 7, v, _ => v = .slice (some ⟨b, off, none⟩) n cap
  | _, 8, v, _ => v = .int .i64 ((cut n : Nat) : Int)
  | _, 9, v, _ => v = .slice (some ⟨b, off, none⟩) (cut n) cap
  | _, 10, v, _ => v = .agg (ab 32 R)
  | D, 11, v, w => D 12 = false → Row1 R v w
  | D, 12, v, w => D 12 = true ∧ OwnS B (N1 + 1) (A ++ [R]) v w
  | D, 13, v, w => D 12 = true ∧ OwnS B (N1 + 1) (A ++ [R]) v w
  | _, _, _, _ => True
def PP9d : Nat → Nat
  | 0 => 35
  | 1 => 36
  | 2 => 37
  | 3 => 38
  | 4 => 39
  | 5 => 40
  | 6 => 41
  | 7 => 42
  | 8 => 43
  | 9 => 44
  | 10 => 45
  | 11 => 46
  | 12 => 47
  | 13 => 6
  | i => 2000 + i
theorem PP9_mono (b off n cap i N1 B : Nat) (A : List (Nat → Nat)) (R : Nat → Nat) {D : Nat → Bool} {ix : Nat} {w w' : World} (hD : D ix = false) (hb : ix ≠ 12 → Below w.heap.size w w') : ∀ (j : Nat) (u : Value), j ≠ ix → PP9 b off n cap i N1 B A R D j u w → PP9 b off n cap i N1 B A R (add1 D ix) j u w'
  | 0, _, _, h => h
  | 1, _, _, h => h
  | 2, _, _, h => h
  | 3, _, _, h => h
  | 4, _, _, h => h
  | 5, _, _, h => h
  | 6, _, _, h => fun hd => by
    by_cases e : ix = 12
    · subst e; rw [add1_eq] at hd; cases hd
    · rw [add1_ne (fun q => e q.symm)] at hd; exact (h hd).later (hb e)
  | 7, _, _, h => h
  | 8, _, _, h => h
  | 9, _, _, h => h
  | 10, _, _, h => h
  | 11, _, _, h => fun hd => by
    by_cases e : ix = 12
    · subst e; rw [add1_eq] at hd; cases hd
    · rw [add1_ne (fun q => e q.symm)] at hd; exact (h hd).later (hb e)
  | 12, _, _, h => by
    have e : ix ≠ 12 := fun e => by rw [e] at hD; rw [h.1] at hD; cases hD
    exact ⟨by rw [add1_ne (fun q => e q.symm)]; exact h.1, h.2.later (hb e)⟩
  | 13, _, _, h => by
    have e : ix ≠ 12 := fun e => by rw [e] at hD; rw [h.1] at hD; cases hD
    exact ⟨by rw [add1_ne (fun q => e q.symm)]; exact h.1, h.2.later (hb e)⟩
  | _ + 14, _, _, _ => trivial
set_option maxHeartbeats 4000000 in
set_option maxRecDepth 100000 in
theorem refProve_lo {b off n cap i N1 : Nat} {al : Bool} {A : List (Nat → Nat)} {R : Nat → Nat} {W0 : World} (hn : 2 ≤ n) (hm : n ≤ 1000) (hcap : n ≤ cap) (hk : 1 ≤ cut n ∧ cut n < n ∧ n ≤ 2 * cut n) (hN : N1 ≤ 1000) (hRl : ∀ i, R i < 256) (hci : i ≤ cut n) (_hin : i < n) (_hcj : i ≤ cut n)
    (hP : ∀ w, Below W0.heap.size W0 w → Calls Tryd.prog 46 #[.slice (some ⟨b, off, none⟩) (cut n) cap, .int .i64 ((i : Nat) : Int), .bool al] w fun e w' => ∃ r, e = .returned r ∧ OwnS W0.heap.size N1 A r w' ∧ Below w.heap.size w w')
    (hR : ∀ w, Below W0.heap.size W0 w → Calls Tryd.prog 21 #[.slice (some ⟨b, off + 32 * cut n, none⟩) (n - cut n) (cap - cut n)] w fun e w' => e = .returned (.agg (ab 32 R)) ∧ Below w.heap.size w w') : Calls Tryd.prog 46 #[.slice (some ⟨b, off, none⟩) n cap, .int .i64 ((i : Nat) : Int), .bool al] W0 fun e w' => ∃ r, e = .returned r ∧ OwnS W0.heap.size (N1 + 1) (A ++ [R]) r w' ∧ Below W0.heap.size W0 w' := by
  obtain ⟨hk1, hk2, hk3⟩ := hk
  have h1 : ((i : Int) == (n : Int)) = false := by rw [beq_eq_false_iff_ne]; omega
  have hlt : (i : Int) ≤ (cut n : Int) := by omega
  go_enter Tryd.func46, Tryd.ntmps46
  go_wp2_with fail
  refine (cut_kr n (by omega) W0).mono ?_
  rintro e w1 ⟨rfl, hb1⟩
  go_upto_region 8 with fail
  refine wp_rel3 _ _ (PP8 b off n cap i N1 W0.heap.size al A R) (fun _ w => Below W0.heap.size W0 w) PP8d (by kernel_rfl) (by kernel_rfl) 13 (by kernel_rfl) ?_ ?_ rfl (hb1.drew) ?_ ?_
  · intro ix o ho
    match ix, ho with
    | 0, ho => obtain rfl := Option.some.inj ho; exact .inl ⟨rfl, by show 23 < 48; decide⟩
    | 1, ho => obtain rfl := Option.some.inj ho; exact .inl ⟨rfl, by show 24 < 48; decide⟩
    | 2, ho => obtain rfl := Option.some.inj ho; exact .inl ⟨rfl, by show 25 < 48; decide⟩
    | 3, ho => obtain rfl := Option.some.inj ho; exact .inl ⟨rfl, by show 26 < 48; decide⟩
    | 4, ho => obtain rfl := Option.some.inj ho; exact .inl ⟨rfl, by show 27 < 48; decide⟩
    | 5, ho => obtain rfl := Option.some.inj ho; exact .inl ⟨rfl, by show 28 < 48; decide⟩
    | 6, ho => obtain rfl := Option.some.inj ho; exact .inl ⟨rfl, by show 29 < 48; decide⟩
    | 7, ho => obtain rfl := Option.some.inj ho; exact .inl ⟨rfl, by show 30 < 48; decide⟩
    | 8, ho => obtain rfl := Option.some.inj ho; exact .inl ⟨rfl, by show 31 < 48; decide⟩
    | 9, ho => obtain rfl := Option.some.inj ho; exact .inl ⟨rfl, by show 32 < 48; decide⟩
    | 10, ho => obtain rfl := Option.some.inj ho; exact .inl ⟨rfl, by show 33 < 48; decide⟩
    | 11, ho => obtain rfl := Option.some.inj ho; exact .inl ⟨rfl, by show 34 < 48; decide⟩
    | 12, ho => obtain rfl := Option.some.inj ho; exact .inl ⟨rfl, by show 6 < 48; decide⟩
    | _ + 13, ho => exact absurd ho (by simp)
  · intro ix jx hi hj e; unfold PP8d at e; split at e <;> split at e <;> omega
  · intro ix o ho
    match ix, ho with
    | 0, ho =>
      obtain rfl := Option.some.inj ho
      intro D a w hM hsl hdep hDi hcl K hK
      have hp0 : a.tmps.getD 0 undef = .slice (some ⟨b, off, none⟩) n cap := hsl 0 (by intro j hj; unfold PP8d; split <;> omega)
      refine ⟨rfl, ?_⟩
      refine wp_val (w' := w) (v := .slice (some ⟨b, off, none⟩) n cap) (by simp only [execOp, Act.eval]; rw [show a.tmps.getD 0 undef = _ from hp0]; rfl) ?_
      exact hK _ _ rfl hM (PP8_mono b off n cap i N1 W0.heap.size al A R hDi (fun _ => (Below.refl _ _)))
    | 1, ho =>
      obtain rfl := Option.some.inj ho
      intro D a w hM hsl hdep hDi hcl K hK
      have hp8 : a.tmps.getD 8 undef = .int .i64 ((cut n : Nat) : Int) := hsl 8 (by intro j hj; unfold PP8d; split <;> omega)
      refine ⟨rfl, ?_⟩
      refine wp_val (w' := w) (v := .int .i64 ((cut n : Nat) : Int)) (by simp only [execOp, Act.eval]; rw [show a.tmps.getD 8 undef = _ from hp8]; rfl) ?_
      exact hK _ _ rfl hM (PP8_mono b off n cap i N1 W0.heap.size al A R hDi (fun _ => (Below.refl _ _)))
    | 2, ho =>
      obtain rfl := Option.some.inj ho
      intro D a w hM hsl hdep hDi hcl K hK
      have e0 := (hdep ⟨0, .data⟩ (by simp) rfl).1
      have e1 := (hdep ⟨1, .data⟩ (by simp) rfl).1
      refine ⟨rfl, ?_⟩
      have hl := sl_lo (b := b) (off := off) (n := n) (cap := cap) (k := cut n) (by omega) hcap w
      refine wp_val (w' := w) (v := .slice (some ⟨b, off, none⟩) (cut n) cap) (by simp only [execOp, Act.eval, Option.map_some, Option.map_none]; rw [show a.tmps.getD 23 undef = _ from e0, show a.tmps.getD 24 undef = _ from e1]; simp only [Sem.run_bind, hl, Result.andThen_ok, Sem.run_pure]) ?_
      exact hK _ _ rfl hM (PP8_mono b off n cap i N1 W0.heap.size al A R hDi (fun _ => (Below.refl _ _)))
    | 3, ho =>
      obtain rfl := Option.some.inj ho
      intro D a w hM hsl hdep hDi hcl K hK
      have hp1 : a.tmps.getD 1 undef = .int .i64 ((i : Nat) : Int) := hsl 1 (by intro j hj; unfold PP8d; split <;> omega)
      refine ⟨rfl, ?_⟩
      refine wp_val (w' := w) (v := .int .i64 ((i : Nat) : Int)) (by simp only [execOp, Act.eval]; rw [show a.tmps.getD 1 undef = _ from hp1]; rfl) ?_
      exact hK _ _ rfl hM (PP8_mono b off n cap i N1 W0.heap.size al A R hDi (fun _ => (Below.refl _ _)))
    | 4, ho =>
      obtain rfl := Option.some.inj ho
      intro D a w hM hsl hdep hDi hcl K hK
      have hp2 : a.tmps.getD 2 undef = .bool al := hsl 2 (by intro j hj; unfold PP8d; split <;> omega)
      refine ⟨rfl, ?_⟩
      refine wp_val (w' := w) (v := .bool al) (by simp only [execOp, Act.eval]; rw [show a.tmps.getD 2 undef = _ from hp2]; rfl) ?_
      exact hK _ _ rfl hM (PP8_mono b off n cap i N1 W0.heap.size al A R hDi (fun _ => (Below.refl _ _)))
    | 5, ho =>
      obtain rfl := Option.some.inj ho
      intro D a w hM hsl hdep hDi hcl K hK
      have e2 := (hdep ⟨2, .data⟩ (by simp) rfl).1
      have e3 := (hdep ⟨3, .data⟩ (by simp) rfl).1
      have e4 := (hdep ⟨4, .data⟩ (by simp) rfl).1
      refine ⟨rfl, ?_⟩
      refine oper_any 46 #[.tmp 25, .tmp 26, .tmp 27] _ rfl #[.slice (some ⟨b, off, none⟩) (cut n) cap, .int .i64 ((i : Nat) : Int), .bool al] (by simp only [List.map_toArray, List.map_cons, List.map_nil, Act.eval]; rw [show a.tmps.getD 25 undef = _ from e2, show a.tmps.getD 26 undef = _ from e3, show a.tmps.getD 27 undef = _ from e4]) (fun w => by kernel_rfl) (hP w hM) fun r w' hj => ?_
      obtain ⟨hr, hb⟩ := hj
      exact hK _ _ (fun _ => hr) (blw hM hb) (PP8_mono b off n cap i N1 W0.heap.size al A R hDi (fun _ => hb))
    | 6, ho =>
      obtain rfl := Option.some.inj ho
      intro D a w hM hsl hdep hDi hcl K hK
      have hp0 : a.tmps.getD 0 undef = .slice (some ⟨b, off, none⟩) n cap := hsl 0 (by intro j hj; unfold PP8d; split <;> omega)
      refine ⟨rfl, ?_⟩
      refine wp_val (w' := w) (v := .slice (some ⟨b, off, none⟩) n cap) (by simp only [execOp, Act.eval]; rw [show a.tmps.getD 0 undef = _ from hp0]; rfl) ?_
      exact hK _ _ rfl hM (PP8_mono b off n cap i N1 W0.heap.size al A R hDi (fun _ => (Below.refl _ _)))
    | 7, ho =>
      obtain rfl := Option.some.inj ho
      intro D a w hM hsl hdep hDi hcl K hK
      have hp8 : a.tmps.getD 8 undef = .int .i64 ((cut n : Nat) : Int) := hsl 8 (by intro j hj; unfold PP8d; split <;> omega)
      refine ⟨rfl, ?_⟩
      refine wp_val (w' := w) (v := .int .i64 ((cut n : Nat) : Int)) (by simp only [execOp, Act.eval]; rw [show a.tmps.getD 8 undef = _ from hp8]; rfl) ?_
      exact hK _ _ rfl hM (PP8_mono b off n cap i N1 W0.heap.size al A R hDi (fun _ => (Below.refl _ _)))
    | 8, ho =>
      obtain rfl := Option.some.inj ho
      intro D a w hM hsl hdep hDi hcl K hK
      have e6 := (hdep ⟨6, .data⟩ (by simp) rfl).1
      have e7 := (hdep ⟨7, .data⟩ (by simp) rfl).1
      refine ⟨rfl, ?_⟩
      have hl := sl_hi (b := b) (off := off) (n := n) (cap := cap) (k := cut n) (by omega) hcap w
      refine wp_val (w' := w) (v := .slice (some ⟨b, off + 32 * cut n, none⟩) (n - cut n) (cap - cut n)) (by simp only [execOp, Act.eval, Option.map_some, Option.map_none]; rw [show a.tmps.getD 29 undef = _ from e6, show a.tmps.getD 30 undef = _ from e7]; simp only [Sem.run_bind, hl, Result.andThen_ok, Sem.run_pure]) ?_
      exact hK _ _ rfl hM (PP8_mono b off n cap i N1 W0.heap.size al A R hDi (fun _ => (Below.refl _ _)))
    | 9, ho =>
      obtain rfl := Option.some.inj ho
      intro D a w hM hsl hdep hDi hcl K hK
      have e8 := (hdep ⟨8, .data⟩ (by simp) rfl).1
      refine ⟨rfl, ?_⟩
      refine oper_callg 21 #[.tmp 31] _ rfl #[.slice (some ⟨b, off + 32 * cut n, none⟩) (n - cut n) (cap - cut n)] (by simp only [List.map_toArray, List.map_cons, List.map_nil, Act.eval]; rw [show a.tmps.getD 31 undef = _ from e8]) (fun w => by kernel_rfl) (hR w hM) fun w' hb => ?_
      exact hK _ _ rfl (blw hM hb) (PP8_mono b off n cap i N1 W0.heap.size al A R hDi (fun _ => hb))
    | 10, ho =>
      obtain rfl := Option.some.inj ho
      intro D a w hM hsl hdep hDi hcl K hK
      have e9 := (hdep ⟨9, .data⟩ (by simp) rfl).1
      refine ⟨rfl, ?_⟩
      have hl := bs_sum R w
      refine wp_val (w' := w.alloc (.cells (ab 32 R) 27)) (v := .slice (some ⟨w.heap.size, 0, none⟩) 1 1) (by simp only [execOp, Act.eval, List.map_toArray, List.map_cons, List.map_nil]; rw [show a.tmps.getD 32 undef = _ from e9]; simp only [Sem.run_bind, hl, Result.andThen_ok, Sem.run_pure]) ?_
      exact hK _ _ (fun _ => ⟨_, rfl, World.alloc_heap_new w _⟩) (blw hM ((Below.refl _ _).alloc (Nat.le_refl _) _)) (PP8_mono b off n cap i N1 W0.heap.size al A R hDi (fun _ => (Below.refl _ _).alloc (Nat.le_refl _) _))
    | 11, ho =>
      obtain rfl := Option.some.inj ho
      intro D a w hM hsl hdep hDi hcl K hK
      have e5 := (hdep ⟨5, .data⟩ (by simp) rfl).1
      have e10 := (hdep ⟨10, .data⟩ (by simp) rfl).1
      refine ⟨rfl, ?_⟩
      have ho := e5 hDi
      obtain ⟨g, eg, hg⟩ := e10 hDi
      refine oper_app (.tmp 28) (.tmp 33) rfl W0.heap.size _ N1 _ rfl ho.1 (show a.tmps.getD 33 undef = _ from eg) hg hRl (by omega) ho.2 fun v' w' ho' hb' => ?_
      exact hK _ _ ⟨add1_eq, by rw [ssv_app]; exact ho', Nat.le_trans ho.2 hb'.size⟩ (hM.trans hb') (PP8_mono b off n cap i N1 W0.heap.size al A R hDi (fun h => absurd rfl h))
    | 12, ho =>
      obtain rfl := Option.some.inj ho
      intro D a w hM hsl hdep hDi hcl K hK
      have e11 := (hdep ⟨11, .data⟩ (by simp) rfl).1
      refine ⟨rfl, ?_⟩
      refine wp_val (w' := w) (v := a.tmps.getD 34 undef) (by simp only [execOp, Act.eval]; rfl) ?_
      exact hK _ _ ⟨by rw [add1_ne (by decide)]; exact e11.1, e11.2⟩ hM (PP8_mono b off n cap i N1 W0.heap.size al A R hDi (fun _ => (Below.refl _ _)))
    | _ + 13, ho => exact absurd ho (by simp)
  · intro D a u hall hd hs hM hsl hr
    obtain ⟨-, hv⟩ := hr 12 (by decide)
    refine (‹∀ (a : Act) (w : World), Code.wp Tryd.prog Code.ret _ a w → _›) a u ?_
    refine wp_ret ?_
    refine then_ret ?_
    exact s_raw hd (by rw [hs]; show 6 < 48; decide) rfl Tryd.results46 ⟨_, rfl, hv, hM⟩
set_option maxHeartbeats 4000000 in
set_option maxRecDepth 100000 in
theorem refProve_hi {b off n cap i N1 : Nat} {al : Bool} {A : List (Nat → Nat)} {R : Nat → Nat} {W0 : World} (hn : 2 ≤ n) (hm : n ≤ 1000) (hcap : n ≤ cap) (hk : 1 ≤ cut n ∧ cut n < n ∧ n ≤ 2 * cut n) (hN : N1 ≤ 1000) (hRl : ∀ i, R i < 256) (hci : cut n ≤ i) (hin : i < n) (hcj : cut n < i)
    (hP : ∀ w, Below W0.heap.size W0 w → Calls Tryd.prog 46 #[.slice (some ⟨b, off + 32 * cut n, none⟩) (n - cut n) (cap - cut n), .int .i64 ((i - cut n : Nat) : Int), .bool false] w fun e w' => ∃ r, e = .returned r ∧ OwnS W0.heap.size N1 A r w' ∧ Below w.heap.size w w')
    (hR : ∀ w, Below W0.heap.size W0 w → Calls Tryd.prog 21 #[.slice (some ⟨b, off, none⟩) (cut n) cap] w fun e w' => e = .returned (.agg (ab 32 R)) ∧ Below w.heap.size w w') : Calls Tryd.prog 46 #[.slice (some ⟨b, off, none⟩) n cap, .int .i64 ((i : Nat) : Int), .bool al] W0 fun e w' => ∃ r, e = .returned r ∧ OwnS W0.heap.size (N1 + 1) (A ++ [R]) r w' ∧ Below W0.heap.size W0 w' := by
  obtain ⟨hk1, hk2, hk3⟩ := hk
  have h1 : ((i : Int) == (n : Int)) = false := by rw [beq_eq_false_iff_ne]; omega
  have hlt : ¬ (i : Int) ≤ (cut n : Int) := by omega
  go_enter Tryd.func46, Tryd.ntmps46
  go_wp2_with fail
  refine (cut_kr n (by omega) W0).mono ?_
  rintro e w1 ⟨rfl, hb1⟩
  go_upto_region 9 with fail
  refine wp_rel3 _ _ (PP9 b off n cap i N1 W0.heap.size A R) (fun _ w => Below W0.heap.size W0 w) PP9d (by kernel_rfl) (by kernel_rfl) 14 (by kernel_rfl) ?_ ?_ rfl (hb1.drew) ?_ ?_
  · intro ix o ho
    match ix, ho with
    | 0, ho => obtain rfl := Option.some.inj ho; exact .inl ⟨rfl, by show 35 < 48; decide⟩
    | 1, ho => obtain rfl := Option.some.inj ho; exact .inl ⟨rfl, by show 36 < 48; decide⟩
    | 2, ho => obtain rfl := Option.some.inj ho; exact .inl ⟨rfl, by show 37 < 48; decide⟩
    | 3, ho => obtain rfl := Option.some.inj ho; exact .inl ⟨rfl, by show 38 < 48; decide⟩
    | 4, ho => obtain rfl := Option.some.inj ho; exact .inl ⟨rfl, by show 39 < 48; decide⟩
    | 5, ho => obtain rfl := Option.some.inj ho; exact .inl ⟨rfl, by show 40 < 48; decide⟩
    | 6, ho => obtain rfl := Option.some.inj ho; exact .inl ⟨rfl, by show 41 < 48; decide⟩
    | 7, ho => obtain rfl := Option.some.inj ho; exact .inl ⟨rfl, by show 42 < 48; decide⟩
    | 8, ho => obtain rfl := Option.some.inj ho; exact .inl ⟨rfl, by show 43 < 48; decide⟩
    | 9, ho => obtain rfl := Option.some.inj ho; exact .inl ⟨rfl, by show 44 < 48; decide⟩
    | 10, ho => obtain rfl := Option.some.inj ho; exact .inl ⟨rfl, by show 45 < 48; decide⟩
    | 11, ho => obtain rfl := Option.some.inj ho; exact .inl ⟨rfl, by show 46 < 48; decide⟩
    | 12, ho => obtain rfl := Option.some.inj ho; exact .inl ⟨rfl, by show 47 < 48; decide⟩
    | 13, ho => obtain rfl := Option.some.inj ho; exact .inl ⟨rfl, by show 6 < 48; decide⟩
    | _ + 14, ho => exact absurd ho (by simp)
  · intro ix jx hi hj e; unfold PP9d at e; split at e <;> split at e <;> omega
  · intro ix o ho
    match ix, ho with
    | 0, ho =>
      obtain rfl := Option.some.inj ho
      intro D a w hM hsl hdep hDi hcl K hK
      have hp0 : a.tmps.getD 0 undef = .slice (some ⟨b, off, none⟩) n cap := hsl 0 (by intro j hj; unfold PP9d; split <;> omega)
      refine ⟨rfl, ?_⟩
      refine wp_val (w' := w) (v := .slice (some ⟨b, off, none⟩) n cap) (by simp only [execOp, Act.eval]; rw [show a.tmps.getD 0 undef = _ from hp0]; rfl) ?_
      exact hK _ _ rfl hM (PP9_mono b off n cap i N1 W0.heap.size A R hDi (fun _ => (Below.refl _ _)))
    | 1, ho =>
      obtain rfl := Option.some.inj ho
      intro D a w hM hsl hdep hDi hcl K hK
      have hp8 : a.tmps.getD 8 undef = .int .i64 ((cut n : Nat) : Int) := hsl 8 (by intro j hj; unfold PP9d; split <;> omega)
      refine ⟨rfl, ?_⟩
      refine wp_val (w' := w) (v := .int .i64 ((cut n : Nat) : Int)) (by simp only [execOp, Act.eval]; rw [show a.tmps.getD 8 undef = _ from hp8]; rfl) ?_
      exact hK _ _ rfl hM (PP9_mono b off n cap i N1 W0.heap.size A R hDi (fun _ => (Below.refl _ _)))
    | 2, ho =>
      obtain rfl := Option.some.inj ho
      intro D a w hM hsl hdep hDi hcl K hK
      have e0 := (hdep ⟨0, .data⟩ (by simp) rfl).1
      have e1 := (hdep ⟨1, .data⟩ (by simp) rfl).1
      refine ⟨rfl, ?_⟩
      have hl := sl_hi (b := b) (off := off) (n := n) (cap := cap) (k := cut n) (by omega) hcap w
      refine wp_val (w' := w) (v := .slice (some ⟨b, off + 32 * cut n, none⟩) (n - cut n) (cap - cut n)) (by simp only [execOp, Act.eval, Option.map_some, Option.map_none]; rw [show a.tmps.getD 35 undef = _ from e0, show a.tmps.getD 36 undef = _ from e1]; simp only [Sem.run_bind, hl, Result.andThen_ok, Sem.run_pure]) ?_
      exact hK _ _ rfl hM (PP9_mono b off n cap i N1 W0.heap.size A R hDi (fun _ => (Below.refl _ _)))
    | 3, ho =>
      obtain rfl := Option.some.inj ho
      intro D a w hM hsl hdep hDi hcl K hK
      have hp1 : a.tmps.getD 1 undef = .int .i64 ((i : Nat) : Int) := hsl 1 (by intro j hj; unfold PP9d; split <;> omega)
      refine ⟨rfl, ?_⟩
      refine wp_val (w' := w) (v := .int .i64 ((i : Nat) : Int)) (by simp only [execOp, Act.eval]; rw [show a.tmps.getD 1 undef = _ from hp1]; rfl) ?_
      exact hK _ _ rfl hM (PP9_mono b off n cap i N1 W0.heap.size A R hDi (fun _ => (Below.refl _ _)))
    | 4, ho =>
      obtain rfl := Option.some.inj ho
      intro D a w hM hsl hdep hDi hcl K hK
      have hp8 : a.tmps.getD 8 undef = .int .i64 ((cut n : Nat) : Int) := hsl 8 (by intro j hj; unfold PP9d; split <;> omega)
      refine ⟨rfl, ?_⟩
      refine wp_val (w' := w) (v := .int .i64 ((cut n : Nat) : Int)) (by simp only [execOp, Act.eval]; rw [show a.tmps.getD 8 undef = _ from hp8]; rfl) ?_
      exact hK _ _ rfl hM (PP9_mono b off n cap i N1 W0.heap.size A R hDi (fun _ => (Below.refl _ _)))
    | 5, ho =>
      obtain rfl := Option.some.inj ho
      intro D a w hM hsl hdep hDi hcl K hK
      have e3 := (hdep ⟨3, .data⟩ (by simp) rfl).1
      have e4 := (hdep ⟨4, .data⟩ (by simp) rfl).1
      refine ⟨rfl, ?_⟩
      have hl := sub_nn (x := .tmp 38) (u := .tmp 39) hci (by omega) w
      refine wp_val (w' := w) (v := .int .i64 ((i - cut n : Nat) : Int)) (by simp only [execOp, Act.eval]; rw [show a.tmps.getD 38 undef = _ from e3, show a.tmps.getD 39 undef = _ from e4]; simp only [Sem.run_bind, hl, Result.andThen_ok, Sem.run_pure]) ?_
      exact hK _ _ rfl hM (PP9_mono b off n cap i N1 W0.heap.size A R hDi (fun _ => (Below.refl _ _)))
    | 6, ho =>
      obtain rfl := Option.some.inj ho
      intro D a w hM hsl hdep hDi hcl K hK
      have e2 := (hdep ⟨2, .data⟩ (by simp) rfl).1
      have e5 := (hdep ⟨5, .data⟩ (by simp) rfl).1
      refine ⟨rfl, ?_⟩
      refine oper_any 46 #[.tmp 37, .tmp 40, .const (.bool false)] _ rfl #[.slice (some ⟨b, off + 32 * cut n, none⟩) (n - cut n) (cap - cut n), .int .i64 ((i - cut n : Nat) : Int), .bool false] (by simp only [List.map_toArray, List.map_cons, List.map_nil, Act.eval]; rw [show a.tmps.getD 37 undef = _ from e2, show a.tmps.getD 40 undef = _ from e5]) (fun w => by kernel_rfl) (hP w hM) fun r w' hj => ?_
      obtain ⟨hr, hb⟩ := hj
      exact hK _ _ (fun _ => hr) (blw hM hb) (PP9_mono b off n cap i N1 W0.heap.size A R hDi (fun _ => hb))
    | 7, ho =>
      obtain rfl := Option.some.inj ho
      intro D a w hM hsl hdep hDi hcl K hK
      have hp0 : a.tmps.getD 0 undef = .slice (some ⟨b, off, none⟩) n cap := hsl 0 (by intro j hj; unfold PP9d; split <;> omega)
      refine ⟨rfl, ?_⟩
      refine wp_val (w' := w) (v := .slice (some ⟨b, off, none⟩) n cap) (by simp only [execOp, Act.eval]; rw [show a.tmps.getD 0 undef = _ from hp0]; rfl) ?_
      exact hK _ _ rfl hM (PP9_mono b off n cap i N1 W0.heap.size A R hDi (fun _ => (Below.refl _ _)))
    | 8, ho =>
      obtain rfl := Option.some.inj ho
      intro D a w hM hsl hdep hDi hcl K hK
      have hp8 : a.tmps.getD 8 undef = .int .i64 ((cut n : Nat) : Int) := hsl 8 (by intro j hj; unfold PP9d; split <;> omega)
      refine ⟨rfl, ?_⟩
      refine wp_val (w' := w) (v := .int .i64 ((cut n : Nat) : Int)) (by simp only [execOp, Act.eval]; rw [show a.tmps.getD 8 undef = _ from hp8]; rfl) ?_
      exact hK _ _ rfl hM (PP9_mono b off n cap i N1 W0.heap.size A R hDi (fun _ => (Below.refl _ _)))
    | 9, ho =>
      obtain rfl := Option.some.inj ho
      intro D a w hM hsl hdep hDi hcl K hK
      have e7 := (hdep ⟨7, .data⟩ (by simp) rfl).1
      have e8 := (hdep ⟨8, .data⟩ (by simp) rfl).1
      refine ⟨rfl, ?_⟩
      have hl := sl_lo (b := b) (off := off) (n := n) (cap := cap) (k := cut n) (by omega) hcap w
      refine wp_val (w' := w) (v := .slice (some ⟨b, off, none⟩) (cut n) cap) (by simp only [execOp, Act.eval, Option.map_some, Option.map_none]; rw [show a.tmps.getD 42 undef = _ from e7, show a.tmps.getD 43 undef = _ from e8]; simp only [Sem.run_bind, hl, Result.andThen_ok, Sem.run_pure]) ?_
      exact hK _ _ rfl hM (PP9_mono b off n cap i N1 W0.heap.size A R hDi (fun _ => (Below.refl _ _)))
    | 10, ho =>
      obtain rfl := Option.some.inj ho
      intro D a w hM hsl hdep hDi hcl K hK
      have e9 := (hdep ⟨9, .data⟩ (by simp) rfl).1
      refine ⟨rfl, ?_⟩
      refine oper_callg 21 #[.tmp 44] _ rfl #[.slice (some ⟨b, off, none⟩) (cut n) cap] (by simp only [List.map_toArray, List.map_cons, List.map_nil, Act.eval]; rw [show a.tmps.getD 44 undef = _ from e9]) (fun w => by kernel_rfl) (hR w hM) fun w' hb => ?_
      exact hK _ _ rfl (blw hM hb) (PP9_mono b off n cap i N1 W0.heap.size A R hDi (fun _ => hb))
    | 11, ho =>
      obtain rfl := Option.some.inj ho
      intro D a w hM hsl hdep hDi hcl K hK
      have e10 := (hdep ⟨10, .data⟩ (by simp) rfl).1
      refine ⟨rfl, ?_⟩
      have hl := bs_sum R w
      refine wp_val (w' := w.alloc (.cells (ab 32 R) 27)) (v := .slice (some ⟨w.heap.size, 0, none⟩) 1 1) (by simp only [execOp, Act.eval, List.map_toArray, List.map_cons, List.map_nil]; rw [show a.tmps.getD 45 undef = _ from e10]; simp only [Sem.run_bind, hl, Result.andThen_ok, Sem.run_pure]) ?_
      exact hK _ _ (fun _ => ⟨_, rfl, World.alloc_heap_new w _⟩) (blw hM ((Below.refl _ _).alloc (Nat.le_refl _) _)) (PP9_mono b off n cap i N1 W0.heap.size A R hDi (fun _ => (Below.refl _ _).alloc (Nat.le_refl _) _))
    | 12, ho =>
      obtain rfl := Option.some.inj ho
      intro D a w hM hsl hdep hDi hcl K hK
      have e6 := (hdep ⟨6, .data⟩ (by simp) rfl).1
      have e11 := (hdep ⟨11, .data⟩ (by simp) rfl).1
      refine ⟨rfl, ?_⟩
      have ho := e6 hDi
      obtain ⟨g, eg, hg⟩ := e11 hDi
      refine oper_app (.tmp 41) (.tmp 46) rfl W0.heap.size _ N1 _ rfl ho.1 (show a.tmps.getD 46 undef = _ from eg) hg hRl (by omega) ho.2 fun v' w' ho' hb' => ?_
      exact hK _ _ ⟨add1_eq, by rw [ssv_app]; exact ho', Nat.le_trans ho.2 hb'.size⟩ (hM.trans hb') (PP9_mono b off n cap i N1 W0.heap.size A R hDi (fun h => absurd rfl h))
    | 13, ho =>
      obtain rfl := Option.some.inj ho
      intro D a w hM hsl hdep hDi hcl K hK
      have e12 := (hdep ⟨12, .data⟩ (by simp) rfl).1
      refine ⟨rfl, ?_⟩
      refine wp_val (w' := w) (v := a.tmps.getD 47 undef) (by simp only [execOp, Act.eval]; rfl) ?_
      exact hK _ _ ⟨by rw [add1_ne (by decide)]; exact e12.1, e12.2⟩ hM (PP9_mono b off n cap i N1 W0.heap.size A R hDi (fun _ => (Below.refl _ _)))
    | _ + 14, ho => exact absurd ho (by simp)
  · intro D a u hall hd hs hM hsl hr
    obtain ⟨-, hv⟩ := hr 13 (by decide)
    refine (‹∀ (a : Act) (w : World), Code.wp Tryd.prog Code.ret _ a w → _›) a u ?_
    refine wp_ret ?_
    exact s_raw hd (by rw [hs]; show 6 < 48; decide) rfl Tryd.results46 ⟨_, rfl, hv, hM⟩
theorem ssv_ab (R : Nat → Nat) : ssv [R] = (ab 32 R).toList := by kernel_rfl
theorem ab_sz (R : Nat → Nat) : (ab 32 R).size = 1 * 32 := by kernel_rfl
theorem beg_le (L : List (Nat → Nat)) (m n : Nat) (all : Bool) : (beg L m n all).length ≤ n + 1 := by
  have h : (aheadL m n).length ≤ n := Nat.le_trans (List.takeWhile_sublist _).length_le (way_le _ _)
  unfold beg
  rw [List.length_append, asl_len]
  split <;> simp only [List.length_nil, List.length_singleton] <;> omega
set_option maxHeartbeats 4000000 in
theorem refProve_eq {b off n cap : Nat} {R : Nat → Nat} {W0 : World} {all : Bool} (hR : Calls Tryd.prog 21 #[.slice (some ⟨b, off, none⟩) n cap] W0 fun e w' => e = .returned (.agg (ab 32 R)) ∧ Below W0.heap.size W0 w') : Calls Tryd.prog 46 #[.slice (some ⟨b, off, none⟩) n cap, .int .i64 ((n : Nat) : Int), .bool all] W0 fun e w' => ∃ r, e = .returned r ∧ OwnS W0.heap.size (if all then [] else [R]).length (if all then [] else [R]) r w' ∧ Below W0.heap.size W0 w' := by
  cases all
  · go_enter Tryd.func46, Tryd.ntmps46
    go_wp2_with fail
    refine hR.mono ?_
    rintro e w1 ⟨rfl, hb1⟩
    go_wp2_with (refine wpList_bs_sum rfl (.tmp 16) rfl rfl ?_)
    go_ret
    refine ⟨_, rfl, ⟨?_, (hb1.alloc hb1.size _).size⟩, hb1.alloc hb1.size _⟩
    have := World.ownsRow_lit (base := W0.heap.size) (e := 27) (size := 32) w1 (ab 32 R) 1 hb1.size (by decide) (ab_sz R)
    rw [← ssv_ab] at this
    exact this
  · go_enter Tryd.func46, Tryd.ntmps46
    go_wp2
    go_ret
    exact ⟨_, rfl, ⟨World.ownsRow_nil _ _ _ _, Nat.le_refl _⟩, Below.refl _ _⟩
theorem refProve_d : ∀ (n i : Nat) (L : List (Nat → Nat)) (a : Option Addr) (cap : Nat) (all : Bool) (W0 : World), L.length = n → 1 ≤ i → i ≤ n → n ≤ 1000 → SsAt W0 a L → n ≤ cap → Calls Tryd.prog 46 #[.slice a n cap, .int .i64 ((i : Nat) : Int), .bool all] W0 fun e w' => ∃ r, e = .returned r ∧ OwnS W0.heap.size (beg L i n all).length (beg L i n all) r w' ∧ Below W0.heap.size W0 w' := by
  intro n
  induction n using Nat.strongRecOn with
  | ind n ih =>
    intro i L a cap all W0 hL hi0 hi hm hs hcap
    obtain ⟨b, off, rfl, hc⟩ := hs.2 (by omega)
    rcases Nat.lt_or_ge i n with hin | hge
    · have h2 : 2 ≤ n := by omega
      have hk := cut_in h2
      have l1 : (L.take (cut n)).length = cut n := by rw [List.length_take]; omega
      have l2 : (L.drop (cut n)).length = n - cut n := by rw [List.length_drop]; omega
      have b1 := root_lt _ (L.take (cut n)) rfl (fun F hF => hs.1 F (List.mem_of_mem_take hF))
      have b2 := root_lt _ (L.drop (cut n)) rfl (fun F hF => hs.1 F (List.mem_of_mem_drop hF))
      rcases Nat.lt_or_ge (cut n) i with h | h
      · rw [beg_hi hin h2 h, List.length_append, List.length_singleton]
        exact refProve_hi h2 hm hcap hk (by have := beg_le (L.drop (cut n)) (i - cut n) (n - cut n) false; omega) b1 (by omega) hin h (fun w hw => (ih (n - cut n) (by omega) (i - cut n) (L.drop (cut n)) _ (cap - cut n) false w l2 (by omega) (by omega) (by omega) (hs.hi.later hw) (by omega)).mono fun e w' ⟨r, e1, h1, h2⟩ => ⟨r, e1, ⟨own_weak h1.1 hw.size, Nat.le_trans hw.size h2.size⟩, h2⟩)
          (fun w hw => root_r (cut n) (L.take (cut n)) _ cap w l1 (by omega) (hs.lo.later hw) (by omega))
      · rw [beg_lo hL hi0 h2 h, List.length_append, List.length_singleton]
        exact refProve_lo h2 hm hcap hk (by have := beg_le (L.take (cut n)) i (cut n) all; omega) b2 h hin h (fun w hw => (ih (cut n) hk.2.1 i (L.take (cut n)) _ cap all w l1 hi0 h (by omega) (hs.lo.later hw) (by omega)).mono fun e w' ⟨r, e1, h1, h2⟩ => ⟨r, e1, ⟨own_weak h1.1 hw.size, Nat.le_trans hw.size h2.size⟩, h2⟩)
          (fun w hw => root_r (n - cut n) (L.drop (cut n)) _ (cap - cut n) w l2 (by omega) (hs.hi.later hw) (by omega))
    · obtain rfl : i = n := by omega
      rw [beg_eq hL hi0]
      exact refProve_eq (root_r i L _ cap W0 hL (by omega) hs hcap)
end Go.Proofs.YtdofoampjlebbaaDoor

namespace Go.Proofs.YtdofoampjlebbaaDoor
open Go.RowKit Sh

/-- How many digests the proof of a beginning has. -/
def nds (m n : Nat) (all : Bool) : Nat := (if all && decide (stF (aheadL m n) = 0) then 0 else 1) + (aheadL m n).length
theorem nds_beg (L : List (Nat → Nat)) (m n : Nat) (all : Bool) : (beg L m n all).length = nds m n all := by
  unfold beg nds
  rw [List.length_append, asl_len]
  split <;> rfl
theorem nds_le (m n : Nat) (all : Bool) : nds m n all ≤ n + 1 := by rw [← nds_beg []]; exact beg_le _ _ _ _
theorem nds_eq {n : Nat} (hn : 1 ≤ n) (all : Bool) : nds n n all = if all then 0 else 1 := by
  unfold nds; rw [st_eq hn, ahead_eq hn]; cases all <;> rfl
theorem nds_lo {m n : Nat} (hm : 1 ≤ m) (hn : 2 ≤ n) (h : m ≤ cut n) (all : Bool) : nds m n all = 1 + nds m (cut n) all := by
  unfold nds; rw [st_lo hm hn h, ahead_lo hm hn h, List.length_cons]; omega
theorem nds_hi {m n : Nat} (hmn : m < n) (hn : 2 ≤ n) (h : cut n < m) (all : Bool) : nds m n all = 1 + nds (m - cut n) (n - cut n) false := by
  have hc := cut_in hn
  unfold nds
  rw [st_hi hmn hn h, ahead_hi hmn hn h, List.length_cons, List.length_map, decide_eq_false (by omega : ¬ stF (aheadL (m - cut n) (n - cut n)) + cut n = 0)]
  cases all <;> simp <;> omega
theorem refBegins_d (n i : Nat) (L : List (Nat → Nat)) (a : Option Addr) (cap : Nat) (W0 : World) (hL : L.length = n) (h1 : 1 ≤ i) (h2 : i ≤ n) (hn : n ≤ 1000) (hs : SsAt W0 a L) (hc : n ≤ cap) : Calls Tryd.prog 36 #[.slice a n cap, .int .i64 ((i : Nat) : Int)] W0 fun e w' => ∃ r, e = .returned r ∧ OwnS W0.heap.size (beg L i n true).length (beg L i n true) r w' ∧ Below W0.heap.size W0 w' := by
  have hp := refProve_d n i L a cap true W0 hL h1 h2 hn hs hc
  go_enter Tryd.func36, Tryd.ntmps36
  go_wp2_with fail
  refine hp.mono ?_
  rintro e w1 ⟨r, rfl, hb1, hb2⟩
  go_wp2
  go_ret
  exact ⟨r, rfl, hb1, hb2⟩
end Go.Proofs.YtdofoampjlebbaaDoor

namespace Go.Proofs.YtdofoampjlebbaaDoor
open Go.RowKit Go.Maps Sh
set_option linter.unusedVariables false
set_option maxHeartbeats 4000000 in
set_option maxRecDepth 100000 in
theorem pin_lo {tb f e n i N1 : Nat} {A : List (Nat → Nat)} {R : Nat → Nat} {W0 : World} (hn : f + n = e) (h2 : 2 ≤ n) (hb : e ≤ 1048576) (hk : 1 ≤ cut n ∧ cut n < n ∧ n ≤ 2 * cut n) (hN : N1 ≤ 2000) (hR : ∀ i, R i < 256) (hfi : f ≤ i ∧ i < e) (hci : i < f + cut n)
    (hP : ∀ w, Below W0.heap.size W0 w → Calls Tryd.prog 33 #[.pointer (some ⟨tb, 0, none⟩), .int .i64 ((f : Nat) : Int), .int .i64 ((f + cut n : Nat) : Int), .int .i64 ((i : Nat) : Int)] w fun e w' => ∃ r, e = .returned r ∧ OwnS W0.heap.size N1 A r w' ∧ Below w.heap.size w w')
    (hQ : ∀ w, Below W0.heap.size W0 w → Calls Tryd.prog 29 #[.pointer (some ⟨tb, 0, none⟩), .int .i64 ((f + cut n : Nat) : Int), .int .i64 ((e : Nat) : Int)] w fun e w' => e = .returned (.agg (ab 32 R)) ∧ Below w.heap.size w w') : Calls Tryd.prog 33 #[.pointer (some ⟨tb, 0, none⟩), .int .i64 ((f : Nat) : Int), .int .i64 ((e : Nat) : Int), .int .i64 ((i : Nat) : Int)] W0 fun e w' => ∃ r, e = .returned r ∧ OwnS W0.heap.size (N1 + 1) (A ++ [R]) r w' ∧ Below W0.heap.size W0 w' := by
  have hs : ((e : Int) - (f : Int)) = (n : Int) := by omega
  have h1 : (((n : Int) : Int) == 1) = false := by rw [beq_eq_false_iff_ne]; omega
  have hcu := fun w => cut_d ((n : Nat) : Int) (by omega) w
  rw [Int.toNat_natCast] at hcu
  obtain ⟨c, hc⟩ : ∃ c, Hid (c = cut n) := ⟨_, hide1 rfl⟩
  rw [← hc.out] at hcu hP hQ hk hci
  have hcb : c ≤ 1048576 := by omega
  have hlt : (i : Int) < (f : Int) + (c : Int) := by omega
  go_enter Tryd.func33, Tryd.ntmps33
  go_wp2_with fail
  refine (hcu W0).mono ?_
  rintro e W0 ⟨rfl, rfl⟩
  go_wp2_with fail
  refine (hP W0 (Below.refl _ _)).mono ?_
  rintro e w1 ⟨r, rfl, ho1, hb1⟩
  go_wp2_with fail
  refine (hQ w1 hb1).mono ?_
  rintro e w2 ⟨rfl, hb2⟩
  have hal : Below w2.heap.size w2 (w2.alloc (.cells (ab 32 R) 27)) := (Below.refl _ _).alloc (Nat.le_refl _) _
  have ho3 := (ho1.later hb2).later hal
  have hss := ss_new (w := w2) hR
  have hb3 := blw (blw hb1 hb2) hal
  clear hP hQ hcu ho1 hb2
  go_wp2_with (first
    | (refine wpList_bs_sum rfl (.tmp 31) rfl rfl ?_)
    | (at_builtin
       refine wpList_append_ss rfl (.tmp 27) (.tmp 32) rfl W0.heap.size _ N1 _ rfl ho3.1 (some ⟨w2.heap.size, 0, none⟩) 1 1 [R] rfl hss rfl (by omega) ho3.2 ?_
       intro v' w4 hown' hgrow
       have hb4 : Below W0.heap.size W0 w4 := hb3.trans (own_below ho3.1 ho3.2 hgrow)
       clear hgrow hss ho3))
  go_ret
  exact ⟨_, rfl, ⟨by rw [ssv_app]; exact hown', hb4.size⟩, hb4⟩
set_option maxHeartbeats 4000000 in
set_option maxRecDepth 100000 in
theorem pin_hi {tb f e n i N1 : Nat} {A : List (Nat → Nat)} {R : Nat → Nat} {W0 : World} (hn : f + n = e) (h2 : 2 ≤ n) (hb : e ≤ 1048576) (hk : 1 ≤ cut n ∧ cut n < n ∧ n ≤ 2 * cut n) (hN : N1 ≤ 2000) (hR : ∀ i, R i < 256) (hfi : f ≤ i ∧ i < e) (hci : f + cut n ≤ i)
    (hP : ∀ w, Below W0.heap.size W0 w → Calls Tryd.prog 33 #[.pointer (some ⟨tb, 0, none⟩), .int .i64 ((f + cut n : Nat) : Int), .int .i64 ((e : Nat) : Int), .int .i64 ((i : Nat) : Int)] w fun e w' => ∃ r, e = .returned r ∧ OwnS W0.heap.size N1 A r w' ∧ Below w.heap.size w w')
    (hQ : ∀ w, Below W0.heap.size W0 w → Calls Tryd.prog 29 #[.pointer (some ⟨tb, 0, none⟩), .int .i64 ((f : Nat) : Int), .int .i64 ((f + cut n : Nat) : Int)] w fun e w' => e = .returned (.agg (ab 32 R)) ∧ Below w.heap.size w w') : Calls Tryd.prog 33 #[.pointer (some ⟨tb, 0, none⟩), .int .i64 ((f : Nat) : Int), .int .i64 ((e : Nat) : Int), .int .i64 ((i : Nat) : Int)] W0 fun e w' => ∃ r, e = .returned r ∧ OwnS W0.heap.size (N1 + 1) (A ++ [R]) r w' ∧ Below W0.heap.size W0 w' := by
  have hs : ((e : Int) - (f : Int)) = (n : Int) := by omega
  have h1 : (((n : Int) : Int) == 1) = false := by rw [beq_eq_false_iff_ne]; omega
  have hcu := fun w => cut_d ((n : Nat) : Int) (by omega) w
  rw [Int.toNat_natCast] at hcu
  obtain ⟨c, hc⟩ : ∃ c, Hid (c = cut n) := ⟨_, hide1 rfl⟩
  rw [← hc.out] at hcu hP hQ hk hci
  have hcb : c ≤ 1048576 := by omega
  have hlt : ¬ (i : Int) < (f : Int) + (c : Int) := by omega
  go_enter Tryd.func33, Tryd.ntmps33
  go_wp2_with fail
  refine (hcu W0).mono ?_
  rintro e W0 ⟨rfl, rfl⟩
  go_wp2_with fail
  refine (hP W0 (Below.refl _ _)).mono ?_
  rintro e w1 ⟨r, rfl, ho1, hb1⟩
  go_wp2_with fail
  refine (hQ w1 hb1).mono ?_
  rintro e w2 ⟨rfl, hb2⟩
  have hal : Below w2.heap.size w2 (w2.alloc (.cells (ab 32 R) 27)) := (Below.refl _ _).alloc (Nat.le_refl _) _
  have ho3 := (ho1.later hb2).later hal
  have hss := ss_new (w := w2) hR
  have hb3 := blw (blw hb1 hb2) hal
  clear hP hQ hcu ho1 hb2
  go_wp2_with (first
    | (refine wpList_bs_sum rfl (.tmp 42) rfl rfl ?_)
    | (at_builtin
       refine wpList_append_ss rfl (.tmp 38) (.tmp 43) rfl W0.heap.size _ N1 _ rfl ho3.1 (some ⟨w2.heap.size, 0, none⟩) 1 1 [R] rfl hss rfl (by omega) ho3.2 ?_
       intro v' w4 hown' hgrow
       have hb4 : Below W0.heap.size W0 w4 := hb3.trans (own_below ho3.1 ho3.2 hgrow)
       clear hgrow hss ho3))
  go_ret
  exact ⟨_, rfl, ⟨by rw [ssv_app]; exact hown', hb4.size⟩, hb4⟩
set_option maxHeartbeats 4000000 in
set_option maxRecDepth 100000 in
theorem prv_lo {tb f e n i N1 : Nat} {A : List (Nat → Nat)} {R : Nat → Nat} {W0 : World} (hn : f + n = e) (h2 : 2 ≤ n) (hb : e ≤ 1048576) (hk : 1 ≤ cut n ∧ cut n < n ∧ n ≤ 2 * cut n) (hN : N1 ≤ 2000) (hR : ∀ i, R i < 256) (hfi : f < i ∧ i < e) (hci : i ≤ f + cut n)
    (hP : ∀ w, Below W0.heap.size W0 w → Calls Tryd.prog 35 #[.pointer (some ⟨tb, 0, none⟩), .int .i64 ((f : Nat) : Int), .int .i64 ((f + cut n : Nat) : Int), .int .i64 ((i : Nat) : Int)] w fun e w' => ∃ r, e = .returned r ∧ OwnS W0.heap.size N1 A r w' ∧ Below w.heap.size w w')
    (hQ : ∀ w, Below W0.heap.size W0 w → Calls Tryd.prog 29 #[.pointer (some ⟨tb, 0, none⟩), .int .i64 ((f + cut n : Nat) : Int), .int .i64 ((e : Nat) : Int)] w fun e w' => e = .returned (.agg (ab 32 R)) ∧ Below w.heap.size w w') : Calls Tryd.prog 35 #[.pointer (some ⟨tb, 0, none⟩), .int .i64 ((f : Nat) : Int), .int .i64 ((e : Nat) : Int), .int .i64 ((i : Nat) : Int)] W0 fun e w' => ∃ r, e = .returned r ∧ OwnS W0.heap.size (N1 + 1) (A ++ [R]) r w' ∧ Below W0.heap.size W0 w' := by
  have hs : ((e : Int) - (f : Int)) = (n : Int) := by omega
  have h1 : (((i : Int) : Int) == (e : Int)) = false := by rw [beq_eq_false_iff_ne]; omega
  have hcu := fun w => cut_d ((n : Nat) : Int) (by omega) w
  rw [Int.toNat_natCast] at hcu
  obtain ⟨c, hc⟩ : ∃ c, Hid (c = cut n) := ⟨_, hide1 rfl⟩
  rw [← hc.out] at hcu hP hQ hk hci
  have hcb : c ≤ 1048576 := by omega
  have hlt : (i : Int) ≤ (f : Int) + (c : Int) := by omega
  go_enter Tryd.func35, Tryd.ntmps35
  go_wp2_with fail
  refine (hcu W0).mono ?_
  rintro e W0 ⟨rfl, rfl⟩
  go_wp2_with fail
  refine (hP W0 (Below.refl _ _)).mono ?_
  rintro e w1 ⟨r, rfl, ho1, hb1⟩
  go_wp2_with fail
  refine (hQ w1 hb1).mono ?_
  rintro e w2 ⟨rfl, hb2⟩
  have hal : Below w2.heap.size w2 (w2.alloc (.cells (ab 32 R) 27)) := (Below.refl _ _).alloc (Nat.le_refl _) _
  have ho3 := (ho1.later hb2).later hal
  have hss := ss_new (w := w2) hR
  have hb3 := blw (blw hb1 hb2) hal
  clear hP hQ hcu ho1 hb2
  go_wp2_with (first
    | (refine wpList_bs_sum rfl (.tmp 37) rfl rfl ?_)
    | (at_builtin
       refine wpList_append_ss rfl (.tmp 33) (.tmp 38) rfl W0.heap.size _ N1 _ rfl ho3.1 (some ⟨w2.heap.size, 0, none⟩) 1 1 [R] rfl hss rfl (by omega) ho3.2 ?_
       intro v' w4 hown' hgrow
       have hb4 : Below W0.heap.size W0 w4 := hb3.trans (own_below ho3.1 ho3.2 hgrow)
       clear hgrow hss ho3))
  go_ret
  exact ⟨_, rfl, ⟨by rw [ssv_app]; exact hown', hb4.size⟩, hb4⟩
set_option maxHeartbeats 4000000 in
set_option maxRecDepth 100000 in
theorem prv_hi {tb f e n i N1 : Nat} {A : List (Nat → Nat)} {R : Nat → Nat} {W0 : World} (hn : f + n = e) (h2 : 2 ≤ n) (hb : e ≤ 1048576) (hk : 1 ≤ cut n ∧ cut n < n ∧ n ≤ 2 * cut n) (hN : N1 ≤ 2000) (hR : ∀ i, R i < 256) (hfi : f < i ∧ i < e) (hci : f + cut n < i)
    (hP : ∀ w, Below W0.heap.size W0 w → Calls Tryd.prog 35 #[.pointer (some ⟨tb, 0, none⟩), .int .i64 ((f + cut n : Nat) : Int), .int .i64 ((e : Nat) : Int), .int .i64 ((i : Nat) : Int)] w fun e w' => ∃ r, e = .returned r ∧ OwnS W0.heap.size N1 A r w' ∧ Below w.heap.size w w')
    (hQ : ∀ w, Below W0.heap.size W0 w → Calls Tryd.prog 29 #[.pointer (some ⟨tb, 0, none⟩), .int .i64 ((f : Nat) : Int), .int .i64 ((f + cut n : Nat) : Int)] w fun e w' => e = .returned (.agg (ab 32 R)) ∧ Below w.heap.size w w') : Calls Tryd.prog 35 #[.pointer (some ⟨tb, 0, none⟩), .int .i64 ((f : Nat) : Int), .int .i64 ((e : Nat) : Int), .int .i64 ((i : Nat) : Int)] W0 fun e w' => ∃ r, e = .returned r ∧ OwnS W0.heap.size (N1 + 1) (A ++ [R]) r w' ∧ Below W0.heap.size W0 w' := by
  have hs : ((e : Int) - (f : Int)) = (n : Int) := by omega
  have h1 : (((i : Int) : Int) == (e : Int)) = false := by rw [beq_eq_false_iff_ne]; omega
  have hcu := fun w => cut_d ((n : Nat) : Int) (by omega) w
  rw [Int.toNat_natCast] at hcu
  obtain ⟨c, hc⟩ : ∃ c, Hid (c = cut n) := ⟨_, hide1 rfl⟩
  rw [← hc.out] at hcu hP hQ hk hci
  have hcb : c ≤ 1048576 := by omega
  have hlt : ¬ (i : Int) ≤ (f : Int) + (c : Int) := by omega
  go_enter Tryd.func35, Tryd.ntmps35
  go_wp2_with fail
  refine (hcu W0).mono ?_
  rintro e W0 ⟨rfl, rfl⟩
  go_wp2_with fail
  refine (hP W0 (Below.refl _ _)).mono ?_
  rintro e w1 ⟨r, rfl, ho1, hb1⟩
  go_wp2_with fail
  refine (hQ w1 hb1).mono ?_
  rintro e w2 ⟨rfl, hb2⟩
  have hal : Below w2.heap.size w2 (w2.alloc (.cells (ab 32 R) 27)) := (Below.refl _ _).alloc (Nat.le_refl _) _
  have ho3 := (ho1.later hb2).later hal
  have hss := ss_new (w := w2) hR
  have hb3 := blw (blw hb1 hb2) hal
  clear hP hQ hcu ho1 hb2
  go_wp2_with (first
    | (refine wpList_bs_sum rfl (.tmp 48) rfl rfl ?_)
    | (at_builtin
       refine wpList_append_ss rfl (.tmp 44) (.tmp 49) rfl W0.heap.size _ N1 _ rfl ho3.1 (some ⟨w2.heap.size, 0, none⟩) 1 1 [R] rfl hss rfl (by omega) ho3.2 ?_
       intro v' w4 hown' hgrow
       have hb4 : Below W0.heap.size W0 w4 := hb3.trans (own_below ho3.1 ho3.2 hgrow)
       clear hgrow hss ho3))
  go_ret
  exact ⟨_, rfl, ⟨by rw [ssv_app]; exact hown', hb4.size⟩, hb4⟩
set_option maxHeartbeats 4000000 in
theorem pin_1 {tb f e i : Nat} {W0 : World} (h : f + 1 = e) (hb : e ≤ 1048576) : Calls Tryd.prog 33 #[.pointer (some ⟨tb, 0, none⟩), .int .i64 ((f : Nat) : Int), .int .i64 ((e : Nat) : Int), .int .i64 ((i : Nat) : Int)] W0 fun e w' => ∃ r, e = .returned r ∧ OwnS W0.heap.size 0 [] r w' ∧ Below W0.heap.size W0 w' := by
  have hs : ((e : Int) - (f : Int)) = 1 := by omega
  go_enter Tryd.func33, Tryd.ntmps33
  go_wp2
  go_ret
  exact ⟨_, rfl, ⟨World.ownsRow_nil _ _ _ _, Nat.le_refl _⟩, Below.refl _ _⟩
set_option maxHeartbeats 4000000 in
theorem prv_0 {tb e : Nat} {W0 : World} : Calls Tryd.prog 35 #[.pointer (some ⟨tb, 0, none⟩), .int .i64 ((0 : Nat) : Int), .int .i64 ((e : Nat) : Int), .int .i64 ((e : Nat) : Int)] W0 fun e w' => ∃ r, e = .returned r ∧ OwnS W0.heap.size 0 [] r w' ∧ Below W0.heap.size W0 w' := by
  go_enter Tryd.func35, Tryd.ntmps35
  go_wp2
  go_ret
  exact ⟨_, rfl, ⟨World.ownsRow_nil _ _ _ _, Nat.le_refl _⟩, Below.refl _ _⟩
set_option maxHeartbeats 4000000 in
theorem prv_1 {tb f e : Nat} {R : Nat → Nat} {W0 : World} (h : 0 < f) (hR : Calls Tryd.prog 29 #[.pointer (some ⟨tb, 0, none⟩), .int .i64 ((f : Nat) : Int), .int .i64 ((e : Nat) : Int)] W0 fun e w' => e = .returned (.agg (ab 32 R)) ∧ Below W0.heap.size W0 w') : Calls Tryd.prog 35 #[.pointer (some ⟨tb, 0, none⟩), .int .i64 ((f : Nat) : Int), .int .i64 ((e : Nat) : Int), .int .i64 ((e : Nat) : Int)] W0 fun e w' => ∃ r, e = .returned r ∧ OwnS W0.heap.size 1 [R] r w' ∧ Below W0.heap.size W0 w' := by
  have h1 : ((f : Int) == 0) = false := by rw [beq_eq_false_iff_ne]; omega
  go_enter Tryd.func35, Tryd.ntmps35
  go_wp2_with fail
  refine hR.mono ?_
  rintro e w1 ⟨rfl, hb1⟩
  go_wp2_with (refine wpList_bs_sum rfl (.tmp 18) rfl rfl ?_)
  go_ret
  refine ⟨_, rfl, ⟨?_, (hb1.alloc hb1.size _).size⟩, hb1.alloc hb1.size _⟩
  have := World.ownsRow_lit (base := W0.heap.size) (e := 27) (size := 32) w1 (ab 32 R) 1 hb1.size (by decide) (ab_sz R)
  rw [← ssv_ab] at this
  exact this
theorem own_wk {w w0 : World} {n : Nat} {A : List (Nat → Nat)} {v : Value} {w' : World} (h : OwnS w.heap.size n A v w') (hb : Below w0.heap.size w0 w) : OwnS w0.heap.size n A v w' := ⟨own_weak h.1 hb.size, Nat.le_trans hb.size h.2⟩
section
variable {lo tb : Nat} {L : List (Nat → Nat)}
theorem cut_al {n f j : Nat} (h2 : 2 ≤ n) (hj : n ≤ 2 ^ j) (hd : 2 ^ j ∣ f) : ∃ i, cut n = 2 ^ i ∧ 2 ^ i ∣ f ∧ 2 ^ i ∣ f + cut n := by
  obtain ⟨i, hi⟩ : ∃ i, cut n = 2 ^ i := ⟨(n - 1).log2, by unfold cut; rw [if_neg (by omega)]⟩
  have hct := cut_in h2
  have hij : i < j := by
    rcases Nat.lt_or_ge i j with h | h
    · exact h
    · have := Nat.pow_le_pow_right (n := 2) (by decide) h
      omega
  have hdi : 2 ^ i ∣ f := Nat.dvd_trans (pow_dvd_le (by omega)) hd
  exact ⟨i, hi, hdi, by rw [hi]; exact (Nat.dvd_add_right hdi).2 (Nat.dvd_refl _)⟩
theorem tr_lt {w : World} (h : Tr w lo tb L) (p q : Nat) : ∀ i, root (part L p q) i < 256 := root_lt _ (part L p q) rfl (fun F hF => by
  obtain ⟨mb, DM, lv, vs, hT⟩ := h
  exact hT.lt F (List.mem_of_mem_take (List.mem_of_mem_drop hF)))
theorem pin_d (hL : L.length ≤ 1000) : ∀ (n f i j : Nat) (w : World), 1 ≤ n → f + n ≤ L.length → i < n → n ≤ 2 ^ j → 2 ^ j ∣ f → Tr w lo tb L → Gl w → Gz w → Calls Tryd.prog 33 #[.pointer (some ⟨tb, 0, none⟩), .int .i64 ((f : Nat) : Int), .int .i64 ((f + n : Nat) : Int), .int .i64 ((f + i : Nat) : Int)] w fun e w' => ∃ r, e = .returned r ∧ OwnS w.heap.size (way i n).length (asl (part L f (f + n)) (way i n)) r w' ∧ Below w.heap.size w w' := by
  intro n
  induction n using Nat.strongRecOn with
  | ind n ih =>
    intro f i j w h1 hfn hi hj hd hT hg hz
    rcases Nat.lt_or_ge n 2 with h2 | h2
    · obtain rfl : n = 1 := by omega
      rw [way_1]
      exact pin_1 rfl (by omega)
    · have hct := cut_in h2
      obtain ⟨q, hq, hd1, hd2⟩ := cut_al h2 hj hd
      have hpl := part_len (L := L) (f := f) (e := f + n) hfn
      rw [show f + n - f = n by omega] at hpl
      have bl := tr_lt hT
      rcases Nat.lt_or_ge i (cut n) with h | h
      · rw [asl_lo hpl h2 h, way_len_lo h2 h, Nat.add_comm 1, part_take (by omega), part_drop]
        refine pin_lo (n := n) rfl h2 (by omega) hct (by have := way_le i (cut n); omega) (bl _ _) ⟨by omega, by omega⟩ (by omega) (fun w' hb => ?_) (fun w' hb => ?_)
        · exact (ih (cut n) hct.2.1 f i q w' (by omega) (by omega) h (by omega) hd1 (hT.later hb) (gl_b hg hb) (gz_b hz hb)).mono fun e w2 ⟨r, e1, h1, h2⟩ => ⟨r, e1, own_wk h1 hb, h2⟩
        · have := part_d (by omega) (n - cut n) (f + cut n) q w' (by omega) (by omega) hd2 (hT.later hb) (gl_b hg hb) (gz_b hz hb)
          rw [show f + cut n + (n - cut n) = f + n by omega] at this
          exact this
      · rw [asl_hi h2 h, way_len_hi h2 h, Nat.add_comm 1, part_take (by omega), part_drop]
        refine pin_hi (n := n) rfl h2 (by omega) hct (by have := way_le (i - cut n) (n - cut n); omega) (bl _ _) ⟨by omega, by omega⟩ (by omega) (fun w' hb => ?_) (fun w' hb => ?_)
        · have := ih (n - cut n) (by omega) (f + cut n) (i - cut n) q w' (by omega) (by omega) (by omega) (by omega) hd2 (hT.later hb) (gl_b hg hb) (gz_b hz hb)
          rw [show f + cut n + (n - cut n) = f + n by omega, show f + cut n + (i - cut n) = f + i by omega] at this
          exact this.mono fun e w2 ⟨r, e1, h1, h2⟩ => ⟨r, e1, own_wk h1 hb, h2⟩
        · exact part_d (by omega) (cut n) f q w' (by omega) (by omega) hd1 (hT.later hb) (gl_b hg hb) (gz_b hz hb)
theorem prv_d (hL : L.length ≤ 1000) : ∀ (n f m j : Nat) (w : World), 1 ≤ m → m ≤ n → f + n ≤ L.length → n ≤ 2 ^ j → 2 ^ j ∣ f → Tr w lo tb L → Gl w → Gz w → Calls Tryd.prog 35 #[.pointer (some ⟨tb, 0, none⟩), .int .i64 ((f : Nat) : Int), .int .i64 ((f + n : Nat) : Int), .int .i64 ((f + m : Nat) : Int)] w fun e w' => ∃ r, e = .returned r ∧ OwnS w.heap.size (beg (part L f (f + n)) m n (decide (f = 0))).length (beg (part L f (f + n)) m n (decide (f = 0))) r w' ∧ Below w.heap.size w w' := by
  intro n
  induction n using Nat.strongRecOn with
  | ind n ih =>
    intro f m j w h1 hmn hfn hj hd hT hg hz
    have hpl := part_len (L := L) (f := f) (e := f + n) hfn
    rw [show f + n - f = n by omega] at hpl
    have bl := tr_lt hT
    rcases Nat.lt_or_ge m n with hlt | hge
    · have h2 : 2 ≤ n := by omega
      have hct := cut_in h2
      obtain ⟨q, hq, hd1, hd2⟩ := cut_al h2 hj hd
      rcases Nat.lt_or_ge (cut n) m with h | h
      · rw [beg_hi hlt h2 h, List.length_append, List.length_singleton, part_take (by omega), part_drop]
        refine prv_hi (n := n) rfl h2 (by omega) hct (by have := beg_le (part L (f + cut n) (f + n)) (m - cut n) (n - cut n) false; omega) (bl _ _) ⟨by omega, by omega⟩ (by omega) (fun w' hb => ?_) (fun w' hb => ?_)
        · have := ih (n - cut n) (by omega) (f + cut n) (m - cut n) q w' (by omega) (by omega) (by omega) (by omega) hd2 (hT.later hb) (gl_b hg hb) (gz_b hz hb)
          rw [show f + cut n + (n - cut n) = f + n by omega, show f + cut n + (m - cut n) = f + m by omega, decide_eq_false (by omega : ¬ f + cut n = 0)] at this
          exact this.mono fun e w2 ⟨r, e1, h1, h2⟩ => ⟨r, e1, own_wk h1 hb, h2⟩
        · exact part_d (by omega) (cut n) f q w' (by omega) (by omega) hd1 (hT.later hb) (gl_b hg hb) (gz_b hz hb)
      · rw [beg_lo hpl h1 h2 h, List.length_append, List.length_singleton, part_take (by omega), part_drop]
        refine prv_lo (n := n) rfl h2 (by omega) hct (by have := beg_le (part L f (f + cut n)) m (cut n) (decide (f = 0)); omega) (bl _ _) ⟨by omega, by omega⟩ (by omega) (fun w' hb => ?_) (fun w' hb => ?_)
        · exact (ih (cut n) hct.2.1 f m q w' h1 h (by omega) (by omega) hd1 (hT.later hb) (gl_b hg hb) (gz_b hz hb)).mono fun e w2 ⟨r, e1, h1, h2⟩ => ⟨r, e1, own_wk h1 hb, h2⟩
        · have := part_d (by omega) (n - cut n) (f + cut n) q w' (by omega) (by omega) hd2 (hT.later hb) (gl_b hg hb) (gz_b hz hb)
          rw [show f + cut n + (n - cut n) = f + n by omega] at this
          exact this
    · obtain rfl : m = n := by omega
      rw [beg_eq hpl h1]
      by_cases hf : f = 0
      · subst hf
        rw [decide_eq_true rfl]
        simp only [Nat.zero_add, if_true]
        exact prv_0
      · rw [decide_eq_false hf]
        simp only [Bool.false_eq_true, if_false]
        exact prv_1 (by omega) (part_d (by omega) m f j w hfn hj hd hT hg hz)
set_option maxHeartbeats 4000000 in
theorem path_in {w : World} (h : Tr w lo tb L) (hg : Gl w) (hz : Gz w) (hL : L.length ≤ 1000) {i n : Nat} (hi : i < n) (hn : n ≤ L.length) : Calls Tryd.prog 16 #[.pointer (some ⟨tb, 0, none⟩), .int .i64 ((i : Nat) : Int), .int .i64 ((n : Nat) : Int)] w fun e w' => ∃ r, e = .returned (.tuple #[r, .nilIface]) ∧ OwnS w.heap.size (way i n).length (asl (L.take n) (way i n)) r w' ∧ Below w.heap.size w w' := by
  have hle := len_d h
  have hp := pin_d hL n 0 i n w (by omega) (by omega) hi (Nat.le_of_lt Nat.lt_two_pow_self) (Nat.dvd_zero _) h hg hz
  rw [Nat.zero_add, Nat.zero_add, part_0] at hp
  have h1 : ¬ (n : Int) < 0 := by omega
  have h2 : ¬ (L.length : Int) < (n : Int) := by omega
  have h3 : ¬ (i : Int) < 0 := by omega
  have h4 : ¬ (n : Int) ≤ (i : Int) := by omega
  generalize asl (L.take n) (way i n) = A at *
  generalize (way i n).length = M at *
  generalize L.length = N at *
  clear h hg hz
  go_enter Tryd.func16, Tryd.ntmps16
  go_wp2_with fail
  refine hle.mono ?_
  rintro e w1 ⟨rfl, rfl⟩
  go_wp2_with fail
  refine hp.mono ?_
  rintro e w2 ⟨r, rfl, ho, hb⟩
  go_wp2
  go_ret2
  exact ⟨_, rfl, ho, hb⟩
set_option maxHeartbeats 4000000 in
theorem begins_in {w : World} (h : Tr w lo tb L) (hg : Gl w) (hz : Gz w) (hL : L.length ≤ 1000) {i n : Nat} (h0 : 1 ≤ i) (hi : i ≤ n) (hn : n ≤ L.length) : Calls Tryd.prog 18 #[.pointer (some ⟨tb, 0, none⟩), .int .i64 ((i : Nat) : Int), .int .i64 ((n : Nat) : Int)] w fun e w' => ∃ r, e = .returned (.tuple #[r, .nilIface]) ∧ OwnS w.heap.size (beg (L.take n) i n true).length (beg (L.take n) i n true) r w' ∧ Below w.heap.size w w' := by
  have hle := len_d h
  have hp := prv_d hL n 0 i n w (by omega) (by omega) (by omega) (Nat.le_of_lt Nat.lt_two_pow_self) (Nat.dvd_zero _) h hg hz
  rw [Nat.zero_add, Nat.zero_add, part_0, decide_eq_true rfl] at hp
  have h1 : ¬ (n : Int) < 0 := by omega
  have h2 : ¬ (L.length : Int) < (n : Int) := by omega
  have h3 : ¬ (i : Int) < 1 := by omega
  have h4 : ¬ (n : Int) < (i : Int) := by omega
  generalize beg (L.take n) i n true = A at *
  generalize L.length = N at *
  clear h hg hz
  go_enter Tryd.func18, Tryd.ntmps18
  go_wp2_with fail
  refine hle.mono ?_
  rintro e w1 ⟨rfl, rfl⟩
  go_wp2_with fail
  refine hp.mono ?_
  rintro e w2 ⟨r, rfl, ho, hb⟩
  go_wp2
  go_ret2
  exact ⟨_, rfl, ho, hb⟩
set_option maxHeartbeats 4000000 in
theorem path_out {w : World} (h : Tr w lo tb L) {i n : Int} (hbad : n < 0 ∨ (L.length : Int) < n ∨ i < 0 ∨ n ≤ i) : Calls Tryd.prog 16 #[.pointer (some ⟨tb, 0, none⟩), .int .i64 i, .int .i64 n] w fun e w' => e = .returned (.tuple #[nilV, ev 2]) ∧ Below w.heap.size w w' := by
  have hle := len_d h
  generalize L.length = N at *
  clear h
  by_cases h1 : n < 0
  · go_enter Tryd.func16, Tryd.ntmps16
    go_wp2
    go_ret2
    exact ⟨rfl, Below.refl _ _⟩
  · by_cases h2 : (N : Int) < n
    · have h1' : ¬ n < 0 := h1
      go_enter Tryd.func16, Tryd.ntmps16
      go_wp2_with fail
      refine hle.mono ?_
      rintro e w1 ⟨rfl, rfl⟩
      go_wp2
      go_ret2
      exact ⟨rfl, Below.refl _ _⟩
    · by_cases h3 : i < 0
      · go_enter Tryd.func16, Tryd.ntmps16
        go_wp2_with fail
        refine hle.mono ?_
        rintro e w1 ⟨rfl, rfl⟩
        go_wp2
        go_ret2
        exact ⟨rfl, Below.refl _ _⟩
      · have h4 : n ≤ i := by omega
        go_enter Tryd.func16, Tryd.ntmps16
        go_wp2_with fail
        refine hle.mono ?_
        rintro e w1 ⟨rfl, rfl⟩
        go_wp2
        go_ret2
        exact ⟨rfl, Below.refl _ _⟩
set_option maxHeartbeats 4000000 in
theorem begins_out {w : World} (h : Tr w lo tb L) {i n : Int} (hbad : n < 0 ∨ (L.length : Int) < n ∨ i < 1 ∨ n < i) : Calls Tryd.prog 18 #[.pointer (some ⟨tb, 0, none⟩), .int .i64 i, .int .i64 n] w fun e w' => e = .returned (.tuple #[nilV, ev 2]) ∧ Below w.heap.size w w' := by
  have hle := len_d h
  generalize L.length = N at *
  clear h
  by_cases h1 : n < 0
  · go_enter Tryd.func18, Tryd.ntmps18
    go_wp2
    go_ret2
    exact ⟨rfl, Below.refl _ _⟩
  · by_cases h2 : (N : Int) < n
    · have h1' : ¬ n < 0 := h1
      go_enter Tryd.func18, Tryd.ntmps18
      go_wp2_with fail
      refine hle.mono ?_
      rintro e w1 ⟨rfl, rfl⟩
      go_wp2
      go_ret2
      exact ⟨rfl, Below.refl _ _⟩
    · by_cases h3 : i < 1
      · go_enter Tryd.func18, Tryd.ntmps18
        go_wp2_with fail
        refine hle.mono ?_
        rintro e w1 ⟨rfl, rfl⟩
        go_wp2
        go_ret2
        exact ⟨rfl, Below.refl _ _⟩
      · have h4 : n < i := by omega
        go_enter Tryd.func18, Tryd.ntmps18
        go_wp2_with fail
        refine hle.mono ?_
        rintro e w1 ⟨rfl, rfl⟩
        go_wp2
        go_ret2
        exact ⟨rfl, Below.refl _ _⟩
end
set_option maxHeartbeats 4000000 in
theorem path_nil {w : World} {i n : Int} (hbad : n < 0 ∨ 0 < n ∨ i < 0 ∨ n ≤ i) : Calls Tryd.prog 16 #[.pointer none, .int .i64 i, .int .i64 n] w fun e w' => e = .returned (.tuple #[nilV, ev 2]) ∧ Below w.heap.size w w' := by
  have hle := len_nil w
  by_cases h1 : n < 0
  · go_enter Tryd.func16, Tryd.ntmps16
    go_wp2
    go_ret2
    exact ⟨rfl, Below.refl _ _⟩
  · by_cases h2 : 0 < n
    · have h1' : ¬ n < 0 := h1
      go_enter Tryd.func16, Tryd.ntmps16
      go_wp2_with fail
      refine hle.mono ?_
      rintro e w1 ⟨rfl, rfl⟩
      go_wp2
      go_ret2
      exact ⟨rfl, Below.refl _ _⟩
    · by_cases h3 : i < 0
      · go_enter Tryd.func16, Tryd.ntmps16
        go_wp2_with fail
        refine hle.mono ?_
        rintro e w1 ⟨rfl, rfl⟩
        go_wp2
        go_ret2
        exact ⟨rfl, Below.refl _ _⟩
      · have h4 : n ≤ i := by omega
        go_enter Tryd.func16, Tryd.ntmps16
        go_wp2_with fail
        refine hle.mono ?_
        rintro e w1 ⟨rfl, rfl⟩
        go_wp2
        go_ret2
        exact ⟨rfl, Below.refl _ _⟩
set_option maxHeartbeats 4000000 in
theorem begins_nil {w : World} {i n : Int} (hbad : n < 0 ∨ 0 < n ∨ i < 1 ∨ n < i) : Calls Tryd.prog 18 #[.pointer none, .int .i64 i, .int .i64 n] w fun e w' => e = .returned (.tuple #[nilV, ev 2]) ∧ Below w.heap.size w w' := by
  have hle := len_nil w
  by_cases h1 : n < 0
  · go_enter Tryd.func18, Tryd.ntmps18
    go_wp2
    go_ret2
    exact ⟨rfl, Below.refl _ _⟩
  · by_cases h2 : 0 < n
    · have h1' : ¬ n < 0 := h1
      go_enter Tryd.func18, Tryd.ntmps18
      go_wp2_with fail
      refine hle.mono ?_
      rintro e w1 ⟨rfl, rfl⟩
      go_wp2
      go_ret2
      exact ⟨rfl, Below.refl _ _⟩
    · by_cases h3 : i < 1
      · go_enter Tryd.func18, Tryd.ntmps18
        go_wp2_with fail
        refine hle.mono ?_
        rintro e w1 ⟨rfl, rfl⟩
        go_wp2
        go_ret2
        exact ⟨rfl, Below.refl _ _⟩
      · have h4 : n < i := by omega
        go_enter Tryd.func18, Tryd.ntmps18
        go_wp2_with fail
        refine hle.mono ?_
        rintro e w1 ⟨rfl, rfl⟩
        go_wp2
        go_ret2
        exact ⟨rfl, Below.refl _ _⟩
theorem eq_some (x : Addr) (len cap : Nat) (w : World) : (binOp .eql 22 (.slice (some x) len cap) (.slice none 0 0)).run Tryd.prog w = .ok (.bool false) w := by kernel_rfl
set_option maxHeartbeats 4000000 in
set_option maxRecDepth 100000 in
theorem clone_nil {w : World} : Calls Tryd.prog 40 #[nilV] w fun e w' => e = .returned nilV ∧ w' = w := by
  have hq := run_eql_nil_slice (P := Tryd.prog) w 22 27 none 0 0 0 0 Tryd.underlying22
  go_enter Tryd.func40, Tryd.ntmps40
  go_wp2
  go_ret
  exact ⟨rfl, rfl⟩
set_option maxHeartbeats 4000000 in
set_option maxRecDepth 100000 in
theorem clone_d {w : World} {b off n cap : Nat} {X : List (Nat → Nat)} (hX : X.length = n) (hn : n ≤ 900000) (hS : SsAt w (some ⟨b, off, none⟩) X) : Calls Tryd.prog 40 #[.slice (some ⟨b, off, none⟩) n cap] w fun e w' => ∃ r, e = .returned r ∧ OwnS w.heap.size n X r w' ∧ Below w.heap.size w w' := by
  have hst : (w.alloc (.cells #[] 27)).ownsRow w.heap.size 27 32 (.slice (some ⟨w.heap.size, 0, none⟩) 0 0) 0 [] := ⟨rfl, .inr ⟨w.heap.size, 0, #[], rfl, Nat.le_refl _, (MapKept.heap_alloc w _).1, Nat.le_refl _, by decide, rfl, rfl⟩⟩
  have hal : Below w.heap.size w (w.alloc (.cells #[] 27)) := (Below.refl _ _).alloc (Nat.le_refl _) _
  have hS2 := hS.later hal
  have hq := eq_some ⟨b, off, none⟩ n cap
  go_enter Tryd.func40, Tryd.ntmps40
  go_wp2_with (at_builtin; refine wpList_append_ss rfl (.tmp 5) (.tmp 6) rfl w.heap.size _ 0 [] rfl hst (some ⟨b, off, none⟩) n cap X rfl hS2 hX (by omega) hal.size ?_
               intro v2 w2 ho2 hg2
               rw [List.nil_append, Nat.zero_add] at ho2
               have hw2 : Below w.heap.size w w2 := hal.grown hg2 hal.size (fun k e => (hst.lt k e).1)
               clear hg2 hst)
  go_ret
  exact ⟨_, rfl, ⟨ho2, hw2.size⟩, hw2⟩
/-- The digests of a level, at any number. -/
def lvlZ (L : List (Nat → Nat)) (k : Int) : List (Nat → Nat) := if k < 0 then [] else lvl L k.toNat
theorem lvlZ_n (L : List (Nat → Nat)) (k : Nat) : lvlZ L ((k : Nat) : Int) = lvl L k := by unfold lvlZ; rw [if_neg (by omega), Int.toNat_natCast]
set_option maxHeartbeats 4000000 in
theorem lvl_o {w : World} {lo tb : Nat} {L : List (Nat → Nat)} (h : Tr w lo tb L) {k : Int} (hk : k < 0 ∨ (lvs L.length : Int) ≤ k) : Calls Tryd.prog 25 #[.pointer (some ⟨tb, 0, none⟩), .int .i64 k] w fun e w' => ∃ r, e = .returned r ∧ OwnS w.heap.size 0 [] r w' ∧ Below w.heap.size w w' := by
  obtain ⟨mb, DM, lv, vs, h⟩ := h
  have hlv := level_out h.lev hk
  clear h
  go_enter Tryd.func25, Tryd.ntmps25
  go_wp2_with fail
  refine hlv.mono ?_
  rintro e w1 ⟨rfl, rfl⟩
  go_wp2_with fail
  refine clone_nil.mono ?_
  rintro e w1 ⟨rfl, rfl⟩
  go_wp2
  go_ret
  exact ⟨_, rfl, ⟨World.ownsRow_nil _ _ _ _, Nat.le_refl _⟩, Below.refl _ _⟩
set_option maxHeartbeats 4000000 in
theorem lvl_i {w : World} {lo tb : Nat} {L : List (Nat → Nat)} (h : Tr w lo tb L) (hL : L.length ≤ 900000) {k : Nat} (hk : k < lvs L.length) : Calls Tryd.prog 25 #[.pointer (some ⟨tb, 0, none⟩), .int .i64 ((k : Nat) : Int)] w fun e w' => ∃ r, e = .returned r ∧ OwnS w.heap.size (lvl L k).length (lvl L k) r w' ∧ Below w.heap.size w w' := by
  obtain ⟨mb, DM, lv, vs, h⟩ := h
  have hlv := level_in h.lev hk
  obtain ⟨a, cap, e1, hS, -⟩ := h.leaves hk
  have hll := lvl_len L k
  have h2k := lvs_lt.1 hk
  have hpos : 0 < (lvl L k).length := by rw [hll]; exact Nat.div_pos h2k (Nat.pos_of_ne_zero (by have := @Nat.one_le_two_pow k; omega))
  have hle : L.length / 2 ^ k ≤ L.length := Nat.div_le_self _ _
  obtain ⟨b, off, rfl, -⟩ := hS.2 hpos
  rw [e1] at hlv
  have hcl := clone_d (cap := cap) rfl (by omega) hS
  clear h hS e1 hll h2k hle
  generalize lvl L k = X at *
  go_enter Tryd.func25, Tryd.ntmps25
  go_wp2_with fail
  refine hlv.mono ?_
  rintro e w1 ⟨rfl, rfl⟩
  go_wp2_with fail
  refine hcl.mono ?_
  rintro e w2 ⟨r, rfl, ho, hb⟩
  go_wp2
  go_ret
  exact ⟨_, rfl, ho, hb⟩
theorem lvl_d {w : World} {lo tb : Nat} {L : List (Nat → Nat)} (h : Tr w lo tb L) (hL : L.length ≤ 900000) (k : Int) : Calls Tryd.prog 25 #[.pointer (some ⟨tb, 0, none⟩), .int .i64 k] w fun e w' => ∃ r, e = .returned r ∧ OwnS w.heap.size (lvlZ L k).length (lvlZ L k) r w' ∧ Below w.heap.size w w' := by
  by_cases h0 : k < 0
  · rw [show lvlZ L k = [] by unfold lvlZ; rw [if_pos h0]]
    exact lvl_o h (.inl h0)
  · obtain ⟨m, rfl⟩ : ∃ m : Nat, k = (m : Int) := ⟨k.toNat, by omega⟩
    rw [lvlZ_n]
    rcases Nat.lt_or_ge m (lvs L.length) with h1 | h1
    · exact lvl_i h hL h1
    · rw [lvl_none h1]
      exact lvl_o h (.inr (by omega))
set_option maxHeartbeats 4000000 in
theorem lvl_nil (k : Int) {w : World} : Calls Tryd.prog 25 #[.pointer none, .int .i64 k] w fun e w' => e = .returned nilV ∧ w' = w := by
  go_enter Tryd.func25, Tryd.ntmps25
  go_wp2_with fail
  refine (level_nil k w).mono ?_
  rintro e w1 ⟨rfl, rfl⟩
  go_wp2_with fail
  refine clone_nil.mono ?_
  rintro e w1 ⟨rfl, rfl⟩
  go_wp2
  go_ret
  exact ⟨rfl, rfl⟩
end Go.Proofs.YtdofoampjlebbaaDoor

namespace Go.Proofs.YtdofoampjlebbaaDoor
open Go.RowKit Go.Maps Sh

theorem wpList_alS {w : World} {ops : Array Oper} {rest : List Oper} {o : Oper} {a : Act} {Q : Exit → Act → World → Prop} (hgd : o.guard = none) (ho : o.op = .alloc 27) (h : wpList Tryd.prog ops Q rest (a.put o.dst (.pointer (some ⟨w.heap.size, 0, none⟩))) (w.alloc (.cells (ab 32 fun _ => 0) 27))) : wpList Tryd.prog ops Q (o :: rest) a w := by
  refine wpList_plain hgd fun K hK => ?_
  unfold Oper.wp
  simp only [execOp, ho, Sem.run_bind, alS, Result.andThen_ok, Sem.run_pure, Oper.upon_value]
  exact hK _ _ h
/-- One byte and zeros. -/
def d1 (k j : Nat) : Nat := if j = 0 then k else 0
theorem d1_lt {k : Nat} (hk : k < 256) : ∀ j, d1 k j < 256 := fun j => by unfold d1; split <;> omega
theorem wpList_b1 {w : World} {ops : Array Oper} {rest : List Oper} {o : Oper} {a : Act} {Q : Exit → Act → World → Prop} (hgd : o.guard = none) (x : Operand) (ho : o.op = .build 27 #[(0, x)]) {k : Nat} (hx : a.eval x = .int .u8 ((k : Nat) : Int)) (h : wpList Tryd.prog ops Q rest (a.put o.dst (.agg (ab 32 (d1 k)))) w) : wpList Tryd.prog ops Q (o :: rest) a w := by
  refine wpList_plain hgd fun K hK => ?_
  have hb : (execOp a.eval o).run Tryd.prog w = .ok (.value (.agg (ab 32 (d1 k)))) w := by
    simp only [execOp, ho, List.map_toArray, List.map_cons, List.map_nil, hx]
    kernel_rfl
  unfold Oper.wp
  rw [hb]
  exact hK _ _ h
def l3 : List (Nat → Nat) := [d1 0, d1 1, d1 2]
theorem l3_take {k : Nat} (hk : k < 3) : l3.take k ++ [d1 k] = l3.take (k + 1) := by
  have h : k = 0 ∨ k = 1 ∨ k = 2 := by omega
  rcases h with rfl | rfl | rfl <;> rfl
theorem l3_len {k : Nat} (hk : k ≤ 3) : (l3.take k).length = k := by
  have h : k = 0 ∨ k = 1 ∨ k = 2 ∨ k = 3 := by omega
  rcases h with rfl | rfl | rfl | rfl <;> rfl
theorem gl_has {w : World} (h : Gl w) : GlLo w.heap.size := ⟨cell_lt (h.1 0 (by decide)), cell_lt (h.2 0 (by decide))⟩
theorem gz_has {w : World} (h : Gz w) : GzLo w.heap.size := cell_lt (h 0 (by decide))
theorem own_sl {w : World} {base n : Nat} {e : TypeId} {size : Nat} {v : Value} {xs : List Value} (h : w.ownsRow base e size v n xs) : ∃ a cap, v = .slice a n cap := by
  rcases h.2 with ⟨rfl, rfl⟩ | ⟨g, cap, cur, rfl, _⟩
  · exact ⟨none, 0, rfl⟩
  · exact ⟨_, _, rfl⟩
theorem u8_n {k : Nat} (hk : k < 256) : IntKind.u8.wrap ((k : Nat) : Int) = ((k : Nat) : Int) := by rw [IntKind.wrap_u8]; omega
set_option maxHeartbeats 4000000 in
set_option maxRecDepth 100000 in
theorem alive_t {W0 : World} (hg : Gl W0) : Calls Tryd.prog 8 #[] W0 fun e w' => e = .returned (.bool true) ∧ Below W0.heap.size W0 w' := by
  have hgo := gl_has hg
  have hl2 : (lvl l3 0).length = 3 ∧ (lvl l3 1).length = 1 ∧ (lvl l3 2).length = 0 := by rw [lvl_len, lvl_len, lvl_len]; decide
  obtain ⟨e0, e1, e2⟩ := hl2
  have hl := fun k w (h : Tr w W0.heap.size (W0.heap.size + 1) l3) => lvl_d h (by decide) ((k : Nat) : Int)
  have hnw := new_d W0
  go_enter Tryd.func8, Tryd.ntmps8
  go_wp2_with fail
  refine hnw.mono ?_
  rintro e w1 ⟨rfl, hT1, hb1⟩
  go_wp2_with fail
  go_loopw [6] (fun v wr => ∃ k : Nat, v = .int .i64 ((k : Nat) : Int) ∧ k ≤ 3 ∧ Tr wr W0.heap.size (W0.heap.size + 1) (l3.take k) ∧ Below W0.heap.size W0 wr) (fun v _ => 3 - (intOf v).toNat)
  case atStart => exact ⟨0, rfl, by omega, hT1, hb1⟩
  case round =>
    obtain ⟨k, rfl, hk, hT, hb⟩ := hrel
    by_cases hlt : k < 3
    · have hlt' : (k : Int) < 3 := by omega
      have had := add_d hT (d1_lt (k := k) (by omega)) (gl_lo hg hb hgo) hgo (by rw [l3_len hk]; omega)
      rw [l3_take hlt, l3_len hk] at had
      have hw8 := u8_n (k := k) (by omega)
      have hkk : ((k : Int) == (k : Int)) = true := by simp
      go_wp2_with (refine wpList_b1 rfl (.tmp 12) rfl (k := k) rfl ?_)
      refine had.mono ?_
      rintro e w2 ⟨rfl, hT2, hb2⟩
      go_wp2
      go_roundw
      case rel => exact ⟨k + 1, rfl, by omega, hT2, hb.trans hb2⟩
      case measure => simp [intOf]; omega
    · have hlt' : ¬ (k : Int) < 3 := by omega
      obtain rfl : k = 3 := by omega
      replace hT : Tr wr W0.heap.size (W0.heap.size + 1) l3 := hT
      have hle := len_d hT
      rw [show l3.length = 3 from rfl] at hle
      go_wp2_with fail
      refine hle.mono ?_
      rintro e w1 ⟨rfl, rfl⟩
      go_wp2_with fail
      have h0 := hl 0 _ hT
      rw [lvlZ_n, e0] at h0
      refine h0.mono ?_
      rintro e w2 ⟨r, rfl, ho2, hb2⟩
      obtain ⟨a2, c2, rfl⟩ := own_sl ho2.1
      go_wp2_with fail
      have hT2 := hT.later hb2
      have h1 := hl 1 _ hT2
      rw [lvlZ_n, e1] at h1
      refine h1.mono ?_
      rintro e w3 ⟨r, rfl, ho3, hb3⟩
      obtain ⟨a3, c3, rfl⟩ := own_sl ho3.1
      go_wp2_with fail
      have hT3 := hT2.later hb3
      have h2 := hl 2 _ hT3
      rw [lvlZ_n, e2] at h2
      refine h2.mono ?_
      rintro e w4 ⟨r, rfl, ho4, hb4⟩
      obtain ⟨a4, c4, rfl⟩ := own_sl ho4.1
      go_wp2
      go_ret
      exact ⟨rfl, blw (blw (blw hb hb2) hb3) hb4⟩
set_option maxHeartbeats 4000000 in
set_option maxRecDepth 100000 in
theorem grown_d {a : Option Addr} {n cap : Nat} {L : List (Nat → Nat)} {W0 : World} (hg : Gl W0) (hL : L.length = n) (hn : n ≤ 1000) (hS : SsAt W0 a L) : Calls Tryd.prog 15 #[.slice a n cap] W0 fun e w' => e = .returned (.pointer (some ⟨W0.heap.size + 1, 0, none⟩)) ∧ Tr w' W0.heap.size (W0.heap.size + 1) L ∧ Below W0.heap.size W0 w' := by
  have hgo := gl_has hg
  have hnw := new_d W0
  go_enter Tryd.func15, Tryd.ntmps15
  go_wp2_with fail
  refine hnw.mono ?_
  rintro e w1 ⟨rfl, hT1, hb1⟩
  go_wp2_with fail
  go_loopw [11] (fun v wr => ∃ k : Nat, v = .int .i64 ((k : Nat) : Int) ∧ k ≤ n ∧ Tr wr W0.heap.size (W0.heap.size + 1) (L.take k) ∧ Below W0.heap.size W0 wr) (fun v _ => n - (intOf v).toNat)
  case atStart => exact ⟨0, rfl, by omega, hT1, hb1⟩
  case round =>
    obtain ⟨k, rfl, hk, hT, hb⟩ := hrel
    by_cases hlt : k < n
    · have hlt' : (k : Int) < (n : Int) := by omega
      obtain ⟨b, off, rfl, -⟩ := hS.2 (by omega)
      have hSr := hS.later hb
      have hix := ix_ss (b := b) (off := off) (cap := cap) hlt wr
      have hld := ld_st hSr rfl (i := k) (by omega)
      have hFl : ∀ j, (L.getD k fun _ => 0) j < 256 := by
        rw [List.getD_eq_getElem?_getD, List.getElem?_eq_getElem (by omega)]
        exact hS.1 _ (List.getElem_mem _)
      have hst : L.take k ++ [L.getD k fun _ => 0] = L.take (k + 1) := by
        rw [List.take_succ_eq_append_getElem (by omega), List.getD_eq_getElem?_getD, List.getElem?_eq_getElem (by omega)]; rfl
      have hlk : (L.take k).length = k := by rw [List.length_take]; omega
      have had := fun w' (h : Below wr.heap.size wr w') => add_d (hT.later h) hFl (gl_lo hg (blw hb h) hgo) hgo (by rw [hlk]; omega)
      rw [hst, hlk] at had
      clear hst hlk hSr
      obtain ⟨R, hR⟩ : ∃ R, Hid (R = L.getD k fun _ => 0) := ⟨_, hide1 rfl⟩
      rw [← hR.out] at hld had
      obtain ⟨q, hq⟩ : ∃ q, Hid (q = off + 32 * k) := ⟨_, hide1 rfl⟩
      rw [← hq.out] at hix hld
      obtain ⟨hal, hr0⟩ := sum_new wr
      obtain ⟨h3, h4⟩ := sum_end (F := R) hal hr0
      have hkk : ((k : Int) == (k : Int)) = true := by simp
      go_upto_region 5 with (first
        | (refine wpList_ixs rfl (.tmp 9) (.tmp 11) rfl rfl rfl hix ?_)
        | (refine wpList_ld rfl 27 (.tmp 14) rfl _ rfl hld ?_)
        | (refine wpList_alS rfl rfl ?_)
        | (refine wpList_store_row rfl 27 (.tmp 5) (.tmp 15) rfl wr.heap.size (ab 32 R) (ab 32 fun _ => 0) 27 rfl rfl (sum_sz R) hr0 (by rw [ab_size, ab_size]) (ab_one _ _) rfl ?_))
      generalize (wr.alloc (.cells (ab 32 fun _ => 0) 27)).setRow wr.heap.size (ab 32 R) = wq at h3 h4 ⊢
      go_wp2_with (refine wpList_load_row rfl 27 (.tmp 5) rfl wr.heap.size (ab 32 R) 27 rfl Tryd.underlying27 (sum_sz R) h4 ?_)
      refine (had wq h3).mono ?_
      rintro e w2 ⟨rfl, hT2, hb2⟩
      go_wp2
      go_roundw
      case rel => exact ⟨k + 1, rfl, by omega, hT2, (blw hb h3).trans hb2⟩
      case measure => simp [intOf]; omega
    · have hlt' : ¬ (k : Int) < (n : Int) := by omega
      obtain rfl : k = n := by omega
      rw [List.take_of_length_le (by omega)] at hT
      go_wp2
      go_ret
      exact ⟨rfl, hT, hb⟩
end Go.Proofs.YtdofoampjlebbaaDoor

namespace Go.Proofs.YtdofoampjlebbaaDoor
open Go.RowKit Go.Maps Sh

theorem sl_none {cap : Nat} (w : World) : (Instr.sliceAt 22 (.slice none 0 cap) none (some (.int .i64 ((0 : Nat) : Int))) none).run Tryd.prog w = .ok (.slice none 0 cap) w := by
  simp [Instr.sliceAt, go_sem]
/-- The first k of a row. -/
theorem sl_any {a : Option Addr} {n cap k : Nat} {L : List (Nat → Nat)} {w0 : World} (hS : SsAt w0 a L) (hL : L.length = n) (hk : k ≤ n) (hc : n ≤ cap) (w : World) : (Instr.sliceAt 22 (.slice a n cap) none (some (.int .i64 ((k : Nat) : Int))) none).run Tryd.prog w = .ok (.slice a k cap) w := by
  cases a with
  | none =>
    obtain rfl : n = 0 := by
      rcases Nat.eq_zero_or_pos n with h | h
      · exact h
      · obtain ⟨_, _, e, _⟩ := hS.2 (by omega); cases e
    obtain rfl : k = 0 := by omega
    exact sl_none w
  | some x =>
    obtain ⟨b, off, sp⟩ := x
    have h1 : (k : Int) ≤ (cap : Int) := by omega
    simp [Instr.sliceAt, go_sem, h1]
theorem ss_take {w : World} {a : Option Addr} {L : List (Nat → Nat)} (h : SsAt w a L) (k : Nat) : SsAt w a (L.take k) := by
  refine ⟨fun F hF => h.1 F (List.mem_of_mem_take hF), fun hl => ?_⟩
  rw [List.length_take] at hl
  obtain ⟨b, off, rfl, hc⟩ := h.2 (by omega)
  exact (h.lo (k := k)).2 (by rw [List.length_take]; omega)
theorem wpList_sl {w : World} {ops : Array Oper} {rest : List Oper} {o : Oper} {a : Act} {Q : Exit → Act → World → Prop} (hgd : o.guard = none) (x u : Operand) {t : TypeId} (ho : o.op = .slice t x none (some u) none) {vx vu v : Value} (hx : a.eval x = vx) (hu : a.eval u = vu) (hr : (Instr.sliceAt t vx none (some vu) none).run Tryd.prog w = .ok v w) (h : wpList Tryd.prog ops Q rest (a.put o.dst v) w) : wpList Tryd.prog ops Q (o :: rest) a w := by
  refine wpList_plain hgd fun K hK => ?_
  unfold Oper.wp
  simp only [execOp, ho, hx, hu, Option.map_some, Option.map_none, Sem.run_bind, hr, Result.andThen_ok, Sem.run_pure, Oper.upon_value]
  exact hK _ _ h
section
variable {a : Option Addr} {N cap : Nat} {L : List (Nat → Nat)} {w : World}
set_option maxHeartbeats 4000000 in
set_option maxRecDepth 100000 in
theorem rroot_in (hS : SsAt w a L) (hL : L.length = N) (hN : N ≤ 1000) (hc : N ≤ cap) {n : Nat} (hn : n ≤ N) : Calls Tryd.prog 11 #[.slice a N cap, .int .i64 ((n : Nat) : Int)] w fun e w' => e = .returned (.tuple #[.agg (ab 32 (root (L.take n))), .bool true]) ∧ Below w.heap.size w w' := by
  obtain ⟨hal, hr0⟩ := sum_new w
  have hsl := fun w' => sl_any (w0 := w) hS hL hn hc w'
  have hro := fun w' (hb : Below w.heap.size w w') => root_r n (L.take n) a cap w' (by rw [List.length_take]; omega) (by omega) ((ss_take hS n).later hb) (by omega)
  obtain ⟨R, hR⟩ : ∃ R, Hid (R = root (L.take n)) := ⟨_, hide1 rfl⟩
  rw [← hR.out] at hro ⊢
  have h1 : ¬ (n : Int) < 0 := by omega
  have h2 : ¬ (N : Int) < (n : Int) := by omega
  clear hS
  go_enter Tryd.func11, Tryd.ntmps11
  go_upto_region 1 with fail
  refine Eq.mpr (congrArg (fun c => Code.wp _ _ _ _ (w.alloc (.cells c 27))) (?h : _ = ab 32 (fun _ => 0))) ?_
  case h => kernel_rfl
  generalize w.alloc (.cells (ab 32 fun _ => 0) 27) = w1 at hal hr0 ⊢
  go_wp2_with (refine wpList_sl rfl (.tmp 15) (.tmp 16) rfl rfl rfl (hsl w1) ?_)
  refine (hro w1 hal).mono ?_
  rintro e w2 ⟨rfl, hb2⟩
  have hr2 := (hb2.block _ (Array.getElem?_eq_some_iff.1 hr0).1).trans hr0
  have hb02 := hal.trans (hb2.mono hal.size)
  obtain ⟨h3, h4⟩ := sum_end (F := R) hb02 hr2
  clear hro hsl
  go_wp2_with (refine wpList_store_row rfl 27 (.tmp 4) (.tmp 18) rfl w.heap.size (ab 32 R) (ab 32 fun _ => 0) 27 rfl rfl (sum_sz R) hr2 (by rw [ab_size, ab_size]) (ab_one _ _) rfl ?_)
  exact sum_ret2 rfl rfl rfl rfl h4 ⟨rfl, h3⟩
set_option maxHeartbeats 4000000 in
set_option maxRecDepth 100000 in
theorem rroot_out {n : Int} (hn : n < 0 ∨ (N : Int) < n) : Calls Tryd.prog 11 #[.slice a N cap, .int .i64 n] w fun e w' => e = .returned (.tuple #[.agg (ab 32 fun _ => 0), .bool false]) ∧ Below w.heap.size w w' := by
  obtain ⟨hal, hr0⟩ := sum_new w
  obtain ⟨Z, hZ⟩ : ∃ Z : Nat → Nat, Hid (Z = fun _ => 0) := ⟨_, hide1 rfl⟩
  obtain ⟨h3, h4⟩ := sum_end (F := Z) hal hr0
  rw [show (Value.agg (ab 32 fun _ => 0)) = .agg (ab 32 Z) by rw [hZ.out]]
  by_cases h1 : n < 0
  · go_enter Tryd.func11, Tryd.ntmps11
    go_upto_region 1 with fail
    refine Eq.mpr (congrArg (fun c => Code.wp _ _ _ _ (w.alloc (.cells c 27))) (?h : _ = ab 32 (fun _ => 0))) ?_
    case h => kernel_rfl
    generalize w.alloc (.cells (ab 32 fun _ => 0) 27) = w1 at hal hr0 h3 h4 ⊢
    go_wp2_with (first | (refine wpList_bz hZ.out rfl rfl ?_) | (refine wpList_store_row rfl 27 (.tmp 4) (.tmp 14) rfl w.heap.size (ab 32 Z) (ab 32 fun _ => 0) 27 rfl rfl (sum_sz _) hr0 (by rw [ab_size, ab_size]) (ab_one _ _) rfl ?_))
    exact sum_ret2 rfl rfl rfl rfl h4 ⟨rfl, h3⟩
  · have h2 : (N : Int) < n := by omega
    go_enter Tryd.func11, Tryd.ntmps11
    go_upto_region 1 with fail
    refine Eq.mpr (congrArg (fun c => Code.wp _ _ _ _ (w.alloc (.cells c 27))) (?h : _ = ab 32 (fun _ => 0))) ?_
    case h => kernel_rfl
    generalize w.alloc (.cells (ab 32 fun _ => 0) 27) = w1 at hal hr0 h3 h4 ⊢
    go_wp2_with (first | (refine wpList_bz hZ.out rfl rfl ?_) | (refine wpList_store_row rfl 27 (.tmp 4) (.tmp 14) rfl w.heap.size (ab 32 Z) (ab 32 fun _ => 0) 27 rfl rfl (sum_sz _) hr0 (by rw [ab_size, ab_size]) (ab_one _ _) rfl ?_))
    exact sum_ret2 rfl rfl rfl rfl h4 ⟨rfl, h3⟩
end
end Go.Proofs.YtdofoampjlebbaaDoor

namespace Go.Proofs.YtdofoampjlebbaaDoor
open Go.RowKit Go.Maps Sh
set_option linter.unusedVariables false
theorem wpList_slx {w : World} {ops : Array Oper} {rest : List Oper} {o : Oper} {a : Act} {Q : Exit → Act → World → Prop} (hgd : o.guard = none) (x y u : Operand) {t : TypeId} (ho : o.op = .slice t x (some y) (some u) none) {vx vy vu v : Value} (hx : a.eval x = vx) (hy : a.eval y = vy) (hu : a.eval u = vu) (hr : (Instr.sliceAt t vx (some vy) (some vu) none).run Tryd.prog w = .ok v w) (h : wpList Tryd.prog ops Q rest (a.put o.dst v) w) : wpList Tryd.prog ops Q (o :: rest) a w := by
  refine wpList_plain hgd fun K hK => ?_
  unfold Oper.wp
  simp only [execOp, ho, hx, hy, hu, Option.map_some, Option.map_none, Sem.run_bind, hr, Result.andThen_ok, Sem.run_pure, Oper.upon_value]
  exact hK _ _ h
theorem fstI_pre (F : Nat → Nat) : ∀ L M : List (Nat → Nat), fstI (L ++ M) F = match fstI L F with | some i => some i | none => (fstI M F).map (· + L.length)
  | [], M => by
    show fstI M F = (fstI M F).map (· + 0)
    cases fstI M F <;> rfl
  | H :: r, M => by
    show (if eqD H F then some 0 else (fstI (r ++ M) F).map (· + 1)) = match (if eqD H F then some 0 else (fstI r F).map (· + 1)) with | some i => some i | none => (fstI M F).map (· + (r.length + 1))
    cases eqD H F with
    | true => rfl
    | false =>
      rw [fstI_pre F r M]
      simp only [Bool.false_eq_true, if_false]
      cases fstI r F with
      | some i => rfl
      | none => cases fstI M F <;> simp [Nat.add_assoc]
section
variable {a : Option Addr} {N cap : Nat} {L : List (Nat → Nat)} {w : World}
set_option maxHeartbeats 4000000 in
set_option maxRecDepth 100000 in
theorem rpath_in (hS : SsAt w a L) (hL : L.length = N) (hN : N ≤ 1000) (hc : N ≤ cap) {i n : Nat} (hi : i < n) (hn : n ≤ N) : Calls Tryd.prog 17 #[.slice a N cap, .int .i64 ((i : Nat) : Int), .int .i64 ((n : Nat) : Int)] w fun e w' => ∃ r, e = .returned (.tuple #[r, .bool true]) ∧ OwnS w.heap.size (asl (L.take n) (way i n)).length (asl (L.take n) (way i n)) r w' ∧ Below w.heap.size w w' := by
  have hsl := sl_any (w0 := w) hS hL hn hc w
  have hp := refPath_d n i (L.take n) a cap w (by rw [List.length_take]; omega) hi (by omega) (ss_take hS n) (by omega)
  rw [show (way i n).length = (asl (L.take n) (way i n)).length by rw [asl_len]] at hp
  have h1 : ¬ (n : Int) < 0 := by omega
  have h2 : ¬ (N : Int) < (n : Int) := by omega
  have h3 : ¬ (i : Int) < 0 := by omega
  have h4 : ¬ (n : Int) ≤ (i : Int) := by omega
  generalize asl (L.take n) (way i n) = A at *
  clear hS
  go_enter Tryd.func17, Tryd.ntmps17
  go_wp2_with (refine wpList_sl rfl (.tmp 25) (.tmp 26) rfl rfl rfl hsl ?_)
  refine hp.mono ?_
  rintro e w2 ⟨r, rfl, ho, hb⟩
  go_wp2
  go_ret2
  exact ⟨_, rfl, ho, hb⟩
set_option maxHeartbeats 4000000 in
set_option maxRecDepth 100000 in
theorem rbeg_in (hS : SsAt w a L) (hL : L.length = N) (hN : N ≤ 1000) (hc : N ≤ cap) {i n : Nat} (h0 : 1 ≤ i) (hi : i ≤ n) (hn : n ≤ N) : Calls Tryd.prog 19 #[.slice a N cap, .int .i64 ((i : Nat) : Int), .int .i64 ((n : Nat) : Int)] w fun e w' => ∃ r, e = .returned (.tuple #[r, .bool true]) ∧ OwnS w.heap.size (beg (L.take n) i n true).length (beg (L.take n) i n true) r w' ∧ Below w.heap.size w w' := by
  have hsl := sl_any (w0 := w) hS hL hn hc w
  have hp := refBegins_d n i (L.take n) a cap w (by rw [List.length_take]; omega) h0 hi (by omega) (ss_take hS n) (by omega)
  have h1 : ¬ (n : Int) < 0 := by omega
  have h2 : ¬ (N : Int) < (n : Int) := by omega
  have h3 : ¬ (i : Int) < 1 := by omega
  have h4 : ¬ (n : Int) < (i : Int) := by omega
  generalize beg (L.take n) i n true = A at *
  clear hS
  go_enter Tryd.func19, Tryd.ntmps19
  go_wp2_with (refine wpList_sl rfl (.tmp 25) (.tmp 26) rfl rfl rfl hsl ?_)
  refine hp.mono ?_
  rintro e w2 ⟨r, rfl, ho, hb⟩
  go_wp2
  go_ret2
  exact ⟨_, rfl, ho, hb⟩
set_option maxHeartbeats 4000000 in
theorem rpath_out {i n : Int} (hbad : n < 0 ∨ (N : Int) < n ∨ i < 0 ∨ n ≤ i) : Calls Tryd.prog 17 #[.slice a N cap, .int .i64 i, .int .i64 n] w fun e w' => e = .returned (.tuple #[nilV, .bool false]) ∧ Below w.heap.size w w' := by
  by_cases h1 : n < 0
  · have h0 : n < 0 := h1
    go_enter Tryd.func17, Tryd.ntmps17
    go_wp2
    go_ret2
    exact ⟨rfl, Below.refl _ _⟩
  by_cases h2 : (N : Int) < n
  · have h0 : (N : Int) < n := h2
    go_enter Tryd.func17, Tryd.ntmps17
    go_wp2
    go_ret2
    exact ⟨rfl, Below.refl _ _⟩
  by_cases h3 : i < 0
  · have h0 : i < 0 := h3
    go_enter Tryd.func17, Tryd.ntmps17
    go_wp2
    go_ret2
    exact ⟨rfl, Below.refl _ _⟩
  have h4 : n ≤ i := by omega
  go_enter Tryd.func17, Tryd.ntmps17
  go_wp2
  go_ret2
  exact ⟨rfl, Below.refl _ _⟩
set_option maxHeartbeats 4000000 in
theorem rbeg_out {i n : Int} (hbad : n < 0 ∨ (N : Int) < n ∨ i < 1 ∨ n < i) : Calls Tryd.prog 19 #[.slice a N cap, .int .i64 i, .int .i64 n] w fun e w' => e = .returned (.tuple #[nilV, .bool false]) ∧ Below w.heap.size w w' := by
  by_cases h1 : n < 0
  · have h0 : n < 0 := h1
    go_enter Tryd.func19, Tryd.ntmps19
    go_wp2
    go_ret2
    exact ⟨rfl, Below.refl _ _⟩
  by_cases h2 : (N : Int) < n
  · have h0 : (N : Int) < n := h2
    go_enter Tryd.func19, Tryd.ntmps19
    go_wp2
    go_ret2
    exact ⟨rfl, Below.refl _ _⟩
  by_cases h3 : i < 1
  · have h0 : i < 1 := h3
    go_enter Tryd.func19, Tryd.ntmps19
    go_wp2
    go_ret2
    exact ⟨rfl, Below.refl _ _⟩
  have h4 : n < i := by omega
  go_enter Tryd.func19, Tryd.ntmps19
  go_wp2
  go_ret2
  exact ⟨rfl, Below.refl _ _⟩
end
end Go.Proofs.YtdofoampjlebbaaDoor

namespace Go.Proofs.YtdofoampjlebbaaDoor
open Go.RowKit Go.Maps Sh

theorem beg_lt {L : List (Nat → Nat)} (h : ∀ F ∈ L, ∀ j, F j < 256) (m n : Nat) (all : Bool) : ∀ F ∈ beg L m n all, ∀ j, F j < 256 := by
  intro F hF
  unfold beg at hF
  rcases List.mem_append.1 hF with h1 | h1
  · split at h1
    · cases h1
    · rw [List.mem_singleton.1 h1]
      exact root_lt _ _ rfl (fun G hG => h G (List.mem_of_mem_take (List.mem_of_mem_drop hG)))
  · exact asl_lt h _ F h1
/-- What is answered at any numbers. -/
structure Ans (W0 : World) (L : List (Nat → Nat)) (fp fr : Nat) (sl : Value) (x y : Int) (A : List (Nat → Nat)) (B : Bool) (E : Value) : Prop where
  be : (B = true ∧ E = .nilIface) ∨ (B = false ∧ E = ev 2)
  lt : ∀ F ∈ A, ∀ j, F j < 256
  le : A.length ≤ 1000
  pr : ∀ w lo tb, Tr w lo tb L → Gl w → Gz w → Calls Tryd.prog fp #[.pointer (some ⟨tb, 0, none⟩), .int .i64 x, .int .i64 y] w fun e w' => ∃ r, e = .returned (.tuple #[r, E]) ∧ OwnS w.heap.size A.length A r w' ∧ Below w.heap.size w w'
  rf : ∀ w, Below W0.heap.size W0 w → Calls Tryd.prog fr #[sl, .int .i64 x, .int .i64 y] w fun e w' => ∃ r, e = .returned (.tuple #[r, .bool B]) ∧ OwnS w.heap.size A.length A r w' ∧ Below w.heap.size w w'
section
variable {a : Option Addr} {N cap : Nat} {L : List (Nat → Nat)} {W0 : World}
theorem own_0 (w : World) : OwnS w.heap.size 0 [] nilV w := ⟨World.ownsRow_nil _ _ _ _, Nat.le_refl _⟩
theorem path_ans (hS : SsAt W0 a L) (hL : L.length = N) (hN : N ≤ 100) (hc : N ≤ cap) (x y : Int) : ∃ A B E, Ans W0 L 16 17 (.slice a N cap) x y A B E := by
  by_cases h : 0 ≤ x ∧ x < y ∧ y ≤ (N : Int)
  · obtain ⟨i, rfl⟩ : ∃ i : Nat, x = (i : Int) := ⟨x.toNat, by omega⟩
    obtain ⟨n, rfl⟩ : ∃ n : Nat, y = (n : Int) := ⟨y.toNat, by omega⟩
    have hwl := way_le i n
    have hal := asl_len (L.take n) (way i n)
    refine ⟨asl (L.take n) (way i n), true, .nilIface, .inl ⟨rfl, rfl⟩, asl_lt (fun F hF => hS.1 F (List.mem_of_mem_take hF)) _, by omega, fun w lo tb hT hg hz => ?_, fun w hb => ?_⟩
    · have := path_in hT hg hz (by omega) (i := i) (n := n) (by omega) (by omega)
      rw [hal]
      exact this
    · exact rpath_in (hS.later hb) hL (by omega) hc (by omega) (by omega)
  · refine ⟨[], false, ev 2, .inr ⟨rfl, rfl⟩, (fun F hF => by cases hF), by decide, fun w lo tb hT _ _ => ?_, fun w hb => ?_⟩
    · exact (path_out hT (i := x) (n := y) (by omega)).mono fun e w' h => ⟨_, h.1, (own_0 w).later h.2, h.2⟩
    · exact (rpath_out (a := a) (N := N) (cap := cap) (w := w) (i := x) (n := y) (by omega)).mono fun e w' h => ⟨_, h.1, (own_0 w).later h.2, h.2⟩
theorem beg_ans (hS : SsAt W0 a L) (hL : L.length = N) (hN : N ≤ 100) (hc : N ≤ cap) (x y : Int) : ∃ A B E, Ans W0 L 18 19 (.slice a N cap) x y A B E := by
  by_cases h : 1 ≤ x ∧ x ≤ y ∧ y ≤ (N : Int)
  · obtain ⟨i, rfl⟩ : ∃ i : Nat, x = (i : Int) := ⟨x.toNat, by omega⟩
    obtain ⟨n, rfl⟩ : ∃ n : Nat, y = (n : Int) := ⟨y.toNat, by omega⟩
    have hbl := beg_le (L.take n) i n true
    refine ⟨beg (L.take n) i n true, true, .nilIface, .inl ⟨rfl, rfl⟩, beg_lt (fun F hF => hS.1 F (List.mem_of_mem_take hF)) _ _ _, by omega, fun w lo tb hT hg hz => ?_, fun w hb => ?_⟩
    · exact begins_in hT hg hz (by omega) (by omega) (by omega) (by omega)
    · exact rbeg_in (hS.later hb) hL (by omega) hc (by omega) (by omega) (by omega)
  · refine ⟨[], false, ev 2, .inr ⟨rfl, rfl⟩, (fun F hF => by cases hF), by decide, fun w lo tb hT _ _ => ?_, fun w hb => ?_⟩
    · exact (begins_out hT (i := x) (n := y) (by omega)).mono fun e w' h => ⟨_, h.1, (own_0 w).later h.2, h.2⟩
    · exact (rbeg_out (a := a) (N := N) (cap := cap) (w := w) (i := x) (n := y) (by omega)).mono fun e w' h => ⟨_, h.1, (own_0 w).later h.2, h.2⟩
end
theorem heap_setCells (b : Nat) : ∀ (vs : List Value) (o : Nat) (w : World) (j : Nat), j ≠ b → (w.setCells b o vs).heap[j]? = w.heap[j]?
  | [], _, _, _, _ => rfl
  | v :: r, o, w, j, h => by
    show ((w.setCell ⟨b, o, none⟩ v).setCells b (o + 1) r).heap[j]? = _
    rw [heap_setCells b r (o + 1) _ j h, Below.heap_setCell _ _ _ _ h]
theorem size_setCells (b : Nat) : ∀ (vs : List Value) (o : Nat) (w : World), (w.setCells b o vs).heap.size = w.heap.size
  | [], _, _ => rfl
  | v :: r, o, w => by
    show ((w.setCell ⟨b, o, none⟩ v).setCells b (o + 1) r).heap.size = _
    rw [size_setCells b r (o + 1)]; simp [World.setCell]
theorem same_setCells (b : Nat) : ∀ (vs : List Value) (o : Nat) (w : World), (w.setCells b o vs).os = w.os ∧ (w.setCells b o vs).tape = w.tape ∧ (w.setCells b o vs).output = w.output
  | [], _, _ => ⟨rfl, rfl, rfl⟩
  | v :: r, o, w => same_setCells b r (o + 1) (w.setCell ⟨b, o, none⟩ v)
/-- A row of a call's own may be written over. -/
def Th (N : Nat) (v : Value) (w : World) : Prop := ∀ g cap, v = .slice (some ⟨g, 0, none⟩) N cap → w.there g 0 (32 * N)
theorem own_th {w : World} {base N : Nat} {A : List (Nat → Nat)} {v : Value} (h : w.ownsRow base 27 32 v N (ssv A)) : Th N v w := by
  intro g cap e
  rcases h.2 with ⟨e2, _⟩ | ⟨g', cap', cur, e2, _, hg, hn, _, hcs, _⟩
  · rw [e] at e2; cases e2
  · rw [e] at e2; cases e2
    intro j hj
    have hjc : j < cur.size := by rw [hcs]; have := Nat.mul_le_mul_right 32 hn; omega
    rw [Nat.zero_add, cell_of_row _ _ _ _ _ _ hg]
    exact ⟨by simp [hjc], by simp [World.frozen?, hg]⟩
theorem own_ptr {w : World} {base N : Nat} {A : List (Nat → Nat)} {v : Value} (h : w.ownsRow base 27 32 v N (ssv A)) (hp : 0 < N) : ∃ g cap, v = .slice (some ⟨g, 0, none⟩) N cap ∧ N ≤ cap := by
  rcases h.2 with ⟨_, e2⟩ | ⟨g', cap', cur, e2, _, _, hn, _⟩
  · omega
  · exact ⟨_, _, e2, hn⟩
theorem wpList_zr {w : World} {ops : Array Oper} {rest : List Oper} {o : Oper} {a : Act} {Q : Exit → Act → World → Prop} (hgd : o.guard = none) (x y : Operand) (ho : o.op = .store 27 x y) {g N k cap : Nat} {Z : Nat → Nat} {W : World} (hT : Th N (.slice (some ⟨g, 0, none⟩) N cap) w) (hk : k < N) (hx : a.eval x = .pointer (some ⟨g, 0 + 32 * k, none⟩)) (hy : a.eval y = .agg (ab 32 Z)) (hW : W.grownBy w (some g))
    (h : ∀ w', Th N (.slice (some ⟨g, 0, none⟩) N cap) w' → W.grownBy w' (some g) → wpList Tryd.prog ops Q rest (a.put o.dst undef) w') : wpList Tryd.prog ops Q (o :: rest) a w := by
  have ht := hT g cap rfl
  refine Go.wpList_store_mid hgd 27 x y ho g (0 + 32 * k) (ab 32 Z) hx hy (fun j hj => ?_) (sum_sz Z) (ab_one _ _) (h _ (fun g' cap' e => ?_) ?_)
  · rw [ab_size] at hj
    have := ht (32 * k + j) (by omega)
    rwa [show 0 + (32 * k + j) = 0 + 32 * k + j by omega] at this
  · cases e
    exact World.there_setCells ht _ _ _
  · obtain ⟨s1, s2, s3⟩ := same_setCells g (ab 32 Z).toList (0 + 32 * k) w
    exact ⟨s1.trans hW.os, s2.trans hW.tape, s3.trans hW.output, by rw [size_setCells]; exact hW.size, fun j hj hne => (heap_setCells g _ _ w j (fun e => hne (by rw [e]))).trans (hW.block j hj hne)⟩
end Go.Proofs.YtdofoampjlebbaaDoor

namespace Go.Proofs.YtdofoampjlebbaaDoor
open Go.RowKit Go.Maps Sh

theorem sum_put {w0 w : World} (F : Nat → Nat) (hb : Below w0.heap.size w0 w) : Below w0.heap.size w0 ((w.alloc (.cells (ab 32 fun _ => 0) 27)).setRow w.heap.size (ab 32 F)) ∧ ((w.alloc (.cells (ab 32 fun _ => 0) 27)).setRow w.heap.size (ab 32 F)).heap[w.heap.size]? = some (.cells (ab 32 F) 27 (0, 0)) ∧ Below w.heap.size w ((w.alloc (.cells (ab 32 fun _ => 0) 27)).setRow w.heap.size (ab 32 F)) := by
  obtain ⟨hal, hr⟩ := sum_new w
  obtain ⟨h3, h4⟩ := sum_end (F := F) hal hr
  exact ⟨blw hb h3, h4, h3⟩
set_option maxHeartbeats 8000000 in
set_option maxRecDepth 100000 in
theorem roots_walk {a : Option Addr} {n cap : Nat} {L : List (Nat → Nat)} {W0 : World} (hL : L.length = n) (hS : SsAt W0 a L) (hc : n ≤ cap) (hg : Gl W0) (hz : Gz W0) : Calls Tryd.prog 3 #[.slice a n cap] W0 fun e w' => e = .returned (.bool true) ∧ Below W0.heap.size W0 w' := by
  have hav := alive_t hg
  by_cases h40 : (40 : Int) < (n : Int)
  · go_enter Tryd.func3, Tryd.ntmps3
    go_wp2_with fail
    refine hav.mono ?_
    rintro e w1 ⟨rfl, hb1⟩
    go_wp2
    go_ret
    exact ⟨rfl, hb1⟩
  · have hn40 : n ≤ 40 := by omega
    have hgo := gl_has hg
    have hzo := gz_has hz
    have is2 := fun w => is_e 2 (by decide) w
    have hq1 : ∀ x u w, (eqGuard .eql 29 x u (ev 2) .nilIface).run Tryd.prog w = .ok () w := fun x u w => by kernel_rfl
    have hq2 : ∀ w, (binOp .eql 29 (ev 2) .nilIface).run Tryd.prog w = .ok (.bool false) w := fun w => by kernel_rfl
    go_enter Tryd.func3, Tryd.ntmps3
    go_wp2_with fail
    refine hav.mono ?_
    rintro e w1 ⟨rfl, hb1⟩
    have hnw := new_d w1
    have hlo : W0.heap.size ≤ w1.heap.size := hb1.size
    obtain ⟨lo, hlo1⟩ : ∃ lo, Hid (lo = w1.heap.size) := ⟨_, hide1 rfl⟩
    have hgl : GlLo lo := by rw [hlo1.out]; exact gl_has (gl_b hg hb1)
    have hgzl : GzLo lo := by rw [hlo1.out]; exact gz_has (gz_b hz hb1)
    rw [← hlo1.out] at hnw hlo
    go_wp2_with fail
    refine hnw.mono ?_
    rintro e w2 ⟨rfl, hT2, hb2⟩
    have hb02 : Below W0.heap.size W0 w2 := hb1.trans (hb2.mono hlo)
    clear hav hnw
    go_wp2_with fail
    go_loopw [4] (fun v wr => ∃ k : Nat, v = .int .i64 ((k : Nat) : Int) ∧ k ≤ n + 1 ∧ Tr wr lo (lo + 1) (L.take k) ∧ Below W0.heap.size W0 wr) (fun v _ => n + 1 - (intOf v).toNat)
    case atStart => exact ⟨0, rfl, by omega, hT2, hb02⟩
    case round =>
      obtain ⟨k, rfl, hk, hT, hb⟩ := hrel
      obtain ⟨wo, hwo⟩ : ∃ wo, wo = wr := ⟨_, rfl⟩
      subst hwo
      by_cases hlt : k ≤ n
      · have hlt' : (k : Int) ≤ (n : Int) := by omega
        have hTk : (L.take k).length = k := by rw [List.length_take]; omega
        go_wp2_with fail
        go_loopw [5] (fun v wr => ∃ m : Nat, v = .int .i64 ((m : Int) - 1) ∧ m ≤ k + 3 ∧ Tr wr lo (lo + 1) (L.take k) ∧ Below W0.heap.size W0 wr) (fun v _ => k + 4 - (intOf v + 1).toNat)
        case atStart => exact ⟨0, rfl, by omega, hT, hb⟩
        case round =>
          obtain ⟨m, rfl, hm, hTi, hbi⟩ := hrel
          obtain ⟨wi, hwi⟩ : ∃ wi, wi = wr := ⟨_, rfl⟩
          subst hwi
          by_cases hml : m < k + 3
          · have hml' : (m : Int) - 1 ≤ (k : Int) + 1 := by omega
            have hsl := fun w' => sl_any (w0 := W0) (k := k) hS hL hlt hc w'
            by_cases hin : 1 ≤ m ∧ m ≤ k + 1
            · obtain ⟨j, rfl⟩ : ∃ j, m = j + 1 := ⟨m - 1, by omega⟩
              have ej : ((j + 1 : Nat) : Int) - 1 = ((j : Nat) : Int) := by omega
              rw [ej] at hml' ⊢
              have hrt := root_in hTi (gl_b hg hbi) (gz_b hz hbi) (by omega) (n := j) (by omega)
              have hrr := fun w' (hb : Below W0.heap.size W0 w') => rroot_in (cap := cap) ((ss_take hS k).later hb) hTk (by omega) (by omega) (n := j) (by omega)
              obtain ⟨F, hF⟩ : ∃ F, Hid (F = root ((L.take k).take j)) := ⟨_, hide1 rfl⟩
              rw [← hF.out] at hrt hrr
              have heq : eqD F F = true := eqD_iff.2 fun _ _ => rfl
              go_wp2_with fail
              refine hrt.mono ?_
              rintro e w3 ⟨rfl, hb3⟩
              obtain ⟨p1, p2, p3⟩ := sum_put (w0 := W0) F (blw hbi hb3)
              obtain ⟨hal3, hr3⟩ := sum_new w3
              go_upto_region 13 with (first
                | (refine wpList_alS rfl rfl ?_)
                | (refine wpList_store_row rfl 27 (.tmp 6) (.tmp 34) rfl w3.heap.size (ab 32 F) (ab 32 fun _ => 0) 27 rfl rfl (sum_sz F) hr3 (by rw [ab_size, ab_size]) (ab_one _ _) rfl ?_))
              clear hal3 hr3
              generalize (w3.alloc (.cells (ab 32 fun _ => 0) 27)).setRow w3.heap.size (ab 32 F) = w4 at p1 p2 p3 ⊢
              go_wp2_with (refine wpList_sl rfl (.tmp 37) (.tmp 38) rfl rfl rfl (hsl w4) ?_)
              refine (hrr w4 p1).mono ?_
              rintro e w5 ⟨rfl, hb5⟩
              obtain ⟨q1, q2, q3⟩ := sum_put (w0 := W0) F (blw p1 hb5)
              obtain ⟨hal5, hr5⟩ := sum_new w5
              have p5 := (hb5.block _ (Array.getElem?_eq_some_iff.1 p2).1).trans p2
              have p6 := (q3.block _ (Array.getElem?_eq_some_iff.1 p5).1).trans p5
              have hTe := hTi.later (blw (blw (blw hb3 p3) hb5) q3)
              go_upto_region 14 with (first
                | (refine wpList_alS rfl rfl ?_)
                | (refine wpList_store_row rfl 27 (.tmp 8) (.tmp 42) rfl w5.heap.size (ab 32 F) (ab 32 fun _ => 0) 27 rfl rfl (sum_sz F) hr5 (by rw [ab_size, ab_size]) (ab_one _ _) rfl ?_))
              clear hal5 hr5 p5
              generalize (w5.alloc (.cells (ab 32 fun _ => 0) 27)).setRow w5.heap.size (ab 32 F) = w6 at q1 q2 q3 p6 hTe ⊢
              clear hrt hrr hsl q3 p3
              go_wp2_with (first
                | (refine wpList_load_row rfl 27 (.tmp 6) rfl w3.heap.size (ab 32 F) 27 rfl Tryd.underlying27 (sum_sz F) p6 ?_)
                | (refine wpList_load_row rfl 27 (.tmp 8) rfl w5.heap.size (ab 32 F) 27 rfl Tryd.underlying27 (sum_sz F) q2 ?_)
                | (refine wpList_neS rfl (.tmp 44) (.tmp 45) rfl (F := F) (G := F) rfl rfl ?_; rw [heq]))
              go_roundw
              case rel => exact ⟨j + 1 + 1, by simp, by omega, hTe, q1⟩
              case measure => simp [intOf]; omega
            · have hrt := root_out hTi (n := (m : Int) - 1) (by omega)
              have hrr := fun w' (hb : Below W0.heap.size W0 w') => rroot_out (a := a) (N := k) (cap := cap) (w := w') (n := (m : Int) - 1) (by omega)
              obtain ⟨F, hF⟩ : ∃ F : Nat → Nat, Hid (F = fun _ => 0) := ⟨_, hide1 rfl⟩
              rw [← hF.out] at hrt hrr
              have heq : eqD F F = true := eqD_iff.2 fun _ _ => rfl
              go_wp2_with fail
              refine hrt.mono ?_
              rintro e w3 ⟨rfl, hb3⟩
              obtain ⟨p1, p2, p3⟩ := sum_put (w0 := W0) F (blw hbi hb3)
              obtain ⟨hal3, hr3⟩ := sum_new w3
              go_upto_region 13 with (first
                | (refine wpList_alS rfl rfl ?_)
                | (refine wpList_store_row rfl 27 (.tmp 6) (.tmp 34) rfl w3.heap.size (ab 32 F) (ab 32 fun _ => 0) 27 rfl rfl (sum_sz F) hr3 (by rw [ab_size, ab_size]) (ab_one _ _) rfl ?_))
              clear hal3 hr3
              generalize (w3.alloc (.cells (ab 32 fun _ => 0) 27)).setRow w3.heap.size (ab 32 F) = w4 at p1 p2 p3 ⊢
              go_wp2_with (refine wpList_sl rfl (.tmp 37) (.tmp 38) rfl rfl rfl (hsl w4) ?_)
              refine (hrr w4 p1).mono ?_
              rintro e w5 ⟨rfl, hb5⟩
              obtain ⟨q1, q2, q3⟩ := sum_put (w0 := W0) F (blw p1 hb5)
              obtain ⟨hal5, hr5⟩ := sum_new w5
              have p5 := (hb5.block _ (Array.getElem?_eq_some_iff.1 p2).1).trans p2
              have p6 := (q3.block _ (Array.getElem?_eq_some_iff.1 p5).1).trans p5
              have hTe := hTi.later (blw (blw (blw hb3 p3) hb5) q3)
              go_upto_region 14 with (first
                | (refine wpList_alS rfl rfl ?_)
                | (refine wpList_store_row rfl 27 (.tmp 8) (.tmp 42) rfl w5.heap.size (ab 32 F) (ab 32 fun _ => 0) 27 rfl rfl (sum_sz F) hr5 (by rw [ab_size, ab_size]) (ab_one _ _) rfl ?_))
              clear hal5 hr5 p5
              generalize (w5.alloc (.cells (ab 32 fun _ => 0) 27)).setRow w5.heap.size (ab 32 F) = w6 at q1 q2 q3 p6 hTe ⊢
              clear hrt hrr hsl q3 p3
              go_wp2_with (first
                | (refine wpList_load_row rfl 27 (.tmp 6) rfl w3.heap.size (ab 32 F) 27 rfl Tryd.underlying27 (sum_sz F) p6 ?_)
                | (refine wpList_load_row rfl 27 (.tmp 8) rfl w5.heap.size (ab 32 F) 27 rfl Tryd.underlying27 (sum_sz F) q2 ?_)
                | (refine wpList_neS rfl (.tmp 44) (.tmp 45) rfl (F := F) (G := F) rfl rfl ?_; rw [heq]))
              refine (is2 w6).mono ?_
              rintro e w6 ⟨rfl, rfl⟩
              go_wp2
              go_roundw
              case rel => exact ⟨m + 1, by simp, by omega, hTe, q1⟩
              case measure => simp [intOf]; omega
          · have hml' : ¬ (m : Int) - 1 ≤ (k : Int) + 1 := by omega
            have hbL := hbi.trans (Below.refl _ _)
            by_cases hkn : k < n
            · have hkn' : (k : Int) < (n : Int) := by omega
              obtain ⟨b, off, rfl, -⟩ := hS.2 (by omega)
              have hix := ix_ss (b := b) (off := off) (cap := cap) hkn wi
              have hld := ld_st (hS.later hbi) rfl (i := k) (by omega)
              have hFl : ∀ j, (L.getD k fun _ => 0) j < 256 := by
                rw [List.getD_eq_getElem?_getD, List.getElem?_eq_getElem (by omega)]
                exact hS.1 _ (List.getElem_mem _)
              have hst : L.take k ++ [L.getD k fun _ => 0] = L.take (k + 1) := by
                rw [List.take_succ_eq_append_getElem (by omega), List.getD_eq_getElem?_getD, List.getElem?_eq_getElem (by omega)]; rfl
              have had := add_d hTi hFl (gl_b hg hbi) hgl (by omega)
              rw [hst, hTk] at had
              clear hst
              obtain ⟨R, hR⟩ : ∃ R, Hid (R = L.getD k fun _ => 0) := ⟨_, hide1 rfl⟩
              rw [← hR.out] at hld had
              obtain ⟨q, hq⟩ : ∃ q, Hid (q = off + 32 * k) := ⟨_, hide1 rfl⟩
              rw [← hq.out] at hix hld
              have hkk : ((k : Int) == (k : Int)) = true := by simp
              go_wp2_with (first
                | (refine wpList_ixs rfl (.tmp 68) (.tmp 69) rfl rfl rfl hix ?_)
                | (refine wpList_ld rfl 27 (.tmp 70) rfl _ rfl hld ?_))
              refine had.mono ?_
              rintro e w7 ⟨rfl, hT7, hb7⟩
              go_wp2
              go_roundw
              case rel => exact ⟨k + 1, rfl, by omega, hT7, hbi.trans (hb7.mono hlo)⟩
              case measure => simp [intOf]; omega
            · have hkn' : ¬ (k : Int) < (n : Int) := by omega
              have hTn : Tr wi lo (lo + 1) (L.take (k + 1)) := by rw [List.take_of_length_le (by omega)]; rw [List.take_of_length_le (by omega)] at hTi; exact hTi
              go_wp2
              go_roundw
              case rel => exact ⟨k + 1, rfl, by omega, hTn, hbi⟩
              case measure => simp [intOf]; omega
      · have hlt' : ¬ (k : Int) ≤ (n : Int) := by omega
        rw [List.take_of_length_le (by omega)] at hT
        have hle := len_d hT
        rw [hL] at hle
        go_wp2_with fail
        refine hle.mono ?_
        rintro e w3 ⟨rfl, rfl⟩
        go_wp2
        go_ret
        exact ⟨rfl, hb⟩
end Go.Proofs.YtdofoampjlebbaaDoor

namespace Go.Proofs.YtdofoampjlebbaaDoor
open Go.RowKit Go.Maps Sh
set_option linter.unusedVariables false
section
variable {a : Option Addr} {N cap : Nat} {L : List (Nat → Nat)} {w : World}
def RF4 (b off N cap b0 k : Nat) (G F : Nat → Nat) (t : Bool) : (Nat → Bool) → Nat → Value → World → Prop
  | _, 0, v, _ => v = .slice (some ⟨b, off, none⟩) N cap
  | _, 1, v, _ => v = .int .i64 ((k : Nat) : Int)
  | _, 2, v, _ => v = .pointer (some ⟨b, off + 32 * k, none⟩)
  | _, 3, v, _ => v = .agg (ab 32 G)
  | _, 4, v, _ => v = .agg (ab 32 F)
  | _, 5, v, _ => v = .bool t
  | _, _, _, _ => True
def RF4d : Nat → Nat
  | 0 => 12
  | 1 => 13
  | 2 => 14
  | 3 => 15
  | 4 => 16
  | 5 => 17
  | i => 2000 + i
theorem RF4_mono (b off N cap b0 k : Nat) (G F : Nat → Nat) (t : Bool) {D : Nat → Bool} {ix : Nat} {w w' : World} (_hD : D ix = false) (hb : Below w.heap.size w w') : ∀ (j : Nat) (u : Value), j ≠ ix → RF4 b off N cap b0 k G F t D j u w → RF4 b off N cap b0 k G F t (add1 D ix) j u w'
  | 0, _, _, h => h
  | 1, _, _, h => h
  | 2, _, _, h => h
  | 3, _, _, h => h
  | 4, _, _, h => h
  | 5, _, _, h => h
  | _ + 6, _, _, _ => trivial
set_option maxHeartbeats 4000000 in
set_option maxRecDepth 100000 in
theorem rfind_d {F : Nat → Nat} (hS : SsAt w a L) (hL : L.length = N) (hN : N ≤ 1000) : Calls Tryd.prog 23 #[.slice a N cap, .agg (ab 32 F)] w fun e w' => e = .returned (.int .i64 (match fstI L F with | some i => ((i : Nat) : Int) | none => -1)) ∧ Below w.heap.size w w' := by
  obtain ⟨Rs, hRs⟩ : ∃ z : Int, Hid (z = match fstI L F with | some i => ((i : Nat) : Int) | none => -1) := ⟨_, hide1 rfl⟩
  rw [← hRs.out]
  obtain ⟨A, hA⟩ : ∃ A, Hid (A = ab 32 F) := ⟨_, hide1 rfl⟩
  have bxA : ∀ w : World, (Instr.box 27 (.agg A)).run Tryd.prog w = .ok (.pointer (some ⟨w.heap.size, 0, none⟩)) (w.alloc (.cells A 27)) := fun w => bx_agg w
  have hal : Below w.heap.size w (w.alloc (.cells A 27)) := (Below.refl _ _).alloc (Nat.le_refl _) _
  have hb0 : (w.alloc (.cells A 27)).heap[w.heap.size]? = some (.cells A 27 (0, 0)) := (MapKept.heap_alloc w _).1
  obtain ⟨b0, hb00⟩ : ∃ b0, Hid (b0 = w.heap.size) := ⟨_, hide1 rfl⟩
  rw [← hb00.out] at hb0
  rw [← hA.out]
  go_enter Tryd.func23, Tryd.ntmps23
  go_upto_region 1 with fail
  generalize w.alloc (.cells A 27) = w1 at hb0 hal ⊢
  rw [← hb00.out]
  clear bxA
  rw [hA.out] at hb0 ⊢
  have hS1 := hS.later hal
  go_wp2_with fail
  go_loopw [5] (fun v wr => ∃ k : Nat, v = .int .i64 ((k : Nat) : Int) ∧ k ≤ N ∧ fstI (L.take k) F = none ∧ Below w1.heap.size w1 wr) (fun v _ => N - (intOf v).toNat)
  case atStart => exact ⟨0, rfl, by omega, rfl, Below.refl _ _⟩
  case round =>
    obtain ⟨k, rfl, hk, hf, hb⟩ := hrel
    by_cases hlt : k < N
    · have hlt' : (k : Int) < (N : Int) := by omega
      obtain ⟨b, off, rfl, -⟩ := hS1.2 (by omega)
      have hkN := hlt
      have hsn := fstI_snoc (L.getD k fun _ => 0) F (L.take k)
      have hst : L.take k ++ [L.getD k fun _ => 0] = L.take (k + 1) := by
        rw [List.take_succ_eq_append_getElem (by omega), List.getD_eq_getElem?_getD, List.getElem?_eq_getElem (by omega)]; rfl
      have hlk : (L.take k).length = k := by rw [List.length_take]; omega
      rw [hst, hf, hlk] at hsn
      have hfd := fstI_pre F (L.take (k + 1)) (L.drop (k + 1))
      rw [List.take_append_drop] at hfd
      have hl3 := fun w' (h : Below wr.heap.size wr w') => ld_st (hS1.later (blw hb h)) rfl (i := k) (by omega)
      have hl4 : ∀ w', Below wr.heap.size wr w' → (Instr.loadAt 27 (.pointer (some ⟨b0, 0, none⟩))).run Tryd.prog w' = .ok (.agg (ab 32 F)) w' := fun w' h => ldS 27 w' b0 (((blw hb h).block b0 (Array.getElem?_eq_some_iff.1 hb0).1).trans hb0)
      obtain ⟨G, hG⟩ : ∃ G, Hid (G = L.getD k fun _ => 0) := ⟨_, hide1 rfl⟩
      rw [← hG.out] at hl3 hsn
      have hl5 := fun w' => eqS (x := .tmp 15) (u := .tmp 16) G F w'
      obtain ⟨t, ht⟩ : ∃ t, Hid (eqD G F = t) := ⟨_, hide1 rfl⟩
      rw [ht.out] at hl5
      clear hst hlk
      replace hsn := hide1 hsn
      replace hfd := hide1 hfd
      go_upto_region 4 with fail
      refine wp_rel3 _ _ (RF4 b off N cap b0 k G F t) (fun _ w => Below wr.heap.size wr w) RF4d (by kernel_rfl) (by kernel_rfl) 6 (by kernel_rfl) ?_ ?_ rfl ((Below.refl _ _).drew) ?_ ?_
      · intro ix o ho
        match ix, ho with
        | 0, ho => obtain rfl := Option.some.inj ho; exact .inl ⟨rfl, by show 12 < 19; decide⟩
        | 1, ho => obtain rfl := Option.some.inj ho; exact .inl ⟨rfl, by show 13 < 19; decide⟩
        | 2, ho => obtain rfl := Option.some.inj ho; exact .inl ⟨rfl, by show 14 < 19; decide⟩
        | 3, ho => obtain rfl := Option.some.inj ho; exact .inl ⟨rfl, by show 15 < 19; decide⟩
        | 4, ho => obtain rfl := Option.some.inj ho; exact .inl ⟨rfl, by show 16 < 19; decide⟩
        | 5, ho => obtain rfl := Option.some.inj ho; exact .inl ⟨rfl, by show 17 < 19; decide⟩
        | _ + 6, ho => exact absurd ho (by simp)
      · intro ix jx hi hj e; unfold RF4d at e; split at e <;> split at e <;> omega
      · intro ix o ho
        match ix, ho with
        | 0, ho =>
          obtain rfl := Option.some.inj ho
          intro D a w hM hsl hdep hDi hcl K hK
          have hp0 : a.tmps.getD 0 undef = .slice (some ⟨b, off, none⟩) N cap := hsl 0 (by intro j hj; unfold RF4d; split <;> omega)
          refine ⟨rfl, ?_⟩
          refine wp_val (w' := w) (v := .slice (some ⟨b, off, none⟩) N cap) (by simp only [execOp, Act.eval]; rw [show a.tmps.getD 0 undef = _ from hp0]; rfl) ?_
          exact hK _ _ rfl hM (RF4_mono b off N cap b0 k G F t hDi ((Below.refl _ _)))
        | 1, ho =>
          obtain rfl := Option.some.inj ho
          intro D a w hM hsl hdep hDi hcl K hK
          have hp5 : a.tmps.getD 5 undef = .int .i64 ((k : Nat) : Int) := hsl 5 (by intro j hj; unfold RF4d; split <;> omega)
          refine ⟨rfl, ?_⟩
          refine wp_val (w' := w) (v := .int .i64 ((k : Nat) : Int)) (by simp only [execOp, Act.eval]; rw [show a.tmps.getD 5 undef = _ from hp5]; rfl) ?_
          exact hK _ _ rfl hM (RF4_mono b off N cap b0 k G F t hDi ((Below.refl _ _)))
        | 2, ho =>
          obtain rfl := Option.some.inj ho
          intro D a w hM hsl hdep hDi hcl K hK
          have e0 := (hdep ⟨0, .data⟩ (by simp) rfl).1
          have e1 := (hdep ⟨1, .data⟩ (by simp) rfl).1
          refine ⟨rfl, ?_⟩
          have hl := ix_ss (b := b) (off := off) (n := N) (cap := cap) (i := k) hkN w
          refine wp_val (w' := w) (v := .pointer (some ⟨b, off + 32 * k, none⟩)) (by simp only [execOp, Act.eval]; rw [show a.tmps.getD 12 undef = _ from e0, show a.tmps.getD 13 undef = _ from e1]; simp only [Sem.run_bind, hl, Result.andThen_ok, Sem.run_pure]) ?_
          exact hK _ _ rfl hM (RF4_mono b off N cap b0 k G F t hDi ((Below.refl _ _)))
        | 3, ho =>
          obtain rfl := Option.some.inj ho
          intro D a w hM hsl hdep hDi hcl K hK
          have e2 := (hdep ⟨2, .data⟩ (by simp) rfl).1
          refine ⟨rfl, ?_⟩
          have hl := hl3 w hM
          refine wp_val (w' := w) (v := .agg (ab 32 G)) (by simp only [execOp, Act.eval]; rw [show a.tmps.getD 14 undef = _ from e2]; simp only [Sem.run_bind, hl, Result.andThen_ok, Sem.run_pure]) ?_
          exact hK _ _ rfl hM (RF4_mono b off N cap b0 k G F t hDi ((Below.refl _ _)))
        | 4, ho =>
          obtain rfl := Option.some.inj ho
          intro D a w hM hsl hdep hDi hcl K hK
          have hp3 : a.tmps.getD 3 undef = .pointer (some ⟨b0, 0, none⟩) := hsl 3 (by intro j hj; unfold RF4d; split <;> omega)
          refine ⟨rfl, ?_⟩
          have hl := hl4 w hM
          refine wp_val (w' := w) (v := .agg (ab 32 F)) (by simp only [execOp, Act.eval]; rw [show a.tmps.getD 3 undef = _ from hp3]; simp only [Sem.run_bind, hl, Result.andThen_ok, Sem.run_pure]) ?_
          exact hK _ _ rfl hM (RF4_mono b off N cap b0 k G F t hDi ((Below.refl _ _)))
        | 5, ho =>
          obtain rfl := Option.some.inj ho
          intro D a w hM hsl hdep hDi hcl K hK
          have e3 := (hdep ⟨3, .data⟩ (by simp) rfl).1
          have e4 := (hdep ⟨4, .data⟩ (by simp) rfl).1
          refine ⟨rfl, ?_⟩
          have hl := hl5 w
          refine wp_val (w' := w) (v := .bool t) (by simp only [execOp, Act.eval]; rw [show a.tmps.getD 15 undef = _ from e3, show a.tmps.getD 16 undef = _ from e4]; simp only [Sem.run_bind, hl, Result.andThen_ok, Sem.run_pure]) ?_
          exact hK _ _ rfl hM (RF4_mono b off N cap b0 k G F t hDi ((Below.refl _ _)))
        | _ + 6, ho => exact absurd ho (by simp)
      · intro D a u hall hd hs hM hsl hr
        obtain ⟨tm, df⟩ := a
        obtain rfl : df = [] := hd
        replace hs : tm.size = 19 := hs
        have t0 : tm.getD 0 undef = .slice (some ⟨b, off, none⟩) N cap := hsl 0 (by intro j hj; unfold RF4d; split <;> omega)
        have t1 : tm.getD 1 undef = .agg (ab 32 F) := hsl 1 (by intro j hj; unfold RF4d; split <;> omega)
        have t2 : tm.getD 2 undef = undef := hsl 2 (by intro j hj; unfold RF4d; split <;> omega)
        have t3 : tm.getD 3 undef = .pointer (some ⟨b0, 0, none⟩) := hsl 3 (by intro j hj; unfold RF4d; split <;> omega)
        have t5 : tm.getD 5 undef = .int .i64 ((k : Nat) : Int) := hsl 5 (by intro j hj; unfold RF4d; split <;> omega)
        have t17 : tm.getD 17 undef = .bool t := hr 5 (by decide)
        have htm := tm_all tm (n := 19) hs
        obtain ⟨xx, hxx⟩ : ∃ x : Nat → Value, ∀ i, x i = tm.getD i undef := ⟨_, fun _ => rfl⟩
        replace htm : tm = #[.slice (some ⟨b, off, none⟩) N cap, .agg (ab 32 F), undef, .pointer (some ⟨b0, 0, none⟩), xx 4, .int .i64 ((k : Nat) : Int), xx 6, xx 7, xx 8, xx 9, xx 10, xx 11, xx 12, xx 13, xx 14, xx 15, xx 16, .bool t, xx 18] := by
          refine htm.trans ?_
          show #[tm.getD 0 undef, tm.getD 1 undef, tm.getD 2 undef, tm.getD 3 undef, tm.getD 4 undef, tm.getD 5 undef, tm.getD 6 undef, tm.getD 7 undef, tm.getD 8 undef, tm.getD 9 undef, tm.getD 10 undef, tm.getD 11 undef, tm.getD 12 undef, tm.getD 13 undef, tm.getD 14 undef, tm.getD 15 undef, tm.getD 16 undef, tm.getD 17 undef, tm.getD 18 undef] = _
          rw [t0, t1, t2, t3, t5, t17]
          simp only [hxx]
        subst htm
        clear hxx hs hsl hr
        clear t0 t1 t2 t3 t5 t17 hall hl3 hl4 hl5
        have hbu := blw hb hM
        refine (‹∀ (a : Act) (w : World), Code.wp Tryd.prog _ _ a w → _›) _ u ?_
        cases t with
        | true =>
          have hR : Rs = ((k : Nat) : Int) := by
            rw [hRs.out, hfd.out, hsn.out, ht.out]; rfl
          subst hR
          go_wp2
          go_ret
          exact ⟨rfl, blw hal hbu⟩
        | false =>
          have hf2 : fstI (L.take (k + 1)) F = none := by rw [hsn.out, ht.out]; rfl
          go_wp2
          go_roundw
          case rel => exact ⟨k + 1, rfl, by omega, hf2, hbu⟩
          case measure => simp [intOf]; omega
    · have hlt' : ¬ (k : Int) < (N : Int) := by omega
      rw [List.take_of_length_le (by omega)] at hf
      have hR : Rs = -1 := by rw [hRs.out, hf]
      subst hR
      go_wp2
      go_ret
      exact ⟨rfl, blw hal hb⟩
end
end Go.Proofs.YtdofoampjlebbaaDoor

namespace Go.Proofs.YtdofoampjlebbaaDoor
open Go.RowKit Go.Maps Sh
set_option linter.unusedVariables false
section
variable {a : Option Addr} {N cap : Nat} {L : List (Nat → Nat)} {w : World}
theorem lvl_pref {k c : Nat} (hc : 2 ^ k * (c + 1) ≤ L.length) : (lvl L k).take (c + 1) = (lvl L k).take c ++ [root (part L (2 ^ k * c) (2 ^ k * (c + 1)))] := by
  have h0 : 1 ≤ 2 ^ k := Nat.one_le_two_pow
  have hl : c < (lvl L k).length := by
    rw [lvl_len]
    exact (Nat.lt_div_iff_mul_lt (by omega)).2 (by rw [Nat.mul_add, Nat.mul_one, Nat.mul_comm] at hc; omega)
  rw [List.take_succ_eq_append_getElem hl, lvl_get]
set_option maxHeartbeats 4000000 in
set_option maxRecDepth 100000 in
theorem rlevel_out {k : Int} (hk : k < 0 ∨ 20 < k) : Calls Tryd.prog 26 #[.slice a N cap, .int .i64 k] w fun e w' => e = .returned nilV ∧ w' = w := by
  by_cases h1 : k < 0
  · go_enter Tryd.func26, Tryd.ntmps26
    go_wp2
    go_ret
    exact ⟨rfl, rfl⟩
  · have h2 : 20 < k := by omega
    go_enter Tryd.func26, Tryd.ntmps26
    go_wp2
    go_ret
    exact ⟨rfl, rfl⟩
set_option maxHeartbeats 8000000 in
set_option maxRecDepth 100000 in
theorem rlevel_in (hS : SsAt w a L) (hL : L.length = N) (hN : N ≤ 1000) (hc : N ≤ cap) {k : Nat} (hk : k ≤ 20) : Calls Tryd.prog 26 #[.slice a N cap, .int .i64 ((k : Nat) : Int)] w fun e w' => ∃ r, e = .returned r ∧ OwnS w.heap.size (lvl L k).length (lvl L k) r w' ∧ Below w.heap.size w w' := by
  have h1 : ¬ (k : Int) < 0 := by omega
  have h2 : ¬ (20 : Int) < (k : Int) := by omega
  go_enter Tryd.func26, Tryd.ntmps26
  go_wp2_with fail
  go_loopw [5, 6] (fun v x wr => ∃ i : Nat, v = .int .i64 ((2 ^ i : Nat) : Int) ∧ x = .int .i64 ((i : Nat) : Int) ∧ i ≤ k ∧ wr = w) (fun _ x _ => k - (intOf x).toNat)
  case atStart => exact ⟨0, rfl, rfl, by omega, rfl⟩
  case round =>
    obtain ⟨i, rfl, rfl, hi, rfl⟩ := hrel
    by_cases hlt : i < k
    · have hlt' : (i : Int) < (k : Int) := by omega
      have hp : 2 ^ i ≤ 2 ^ 20 := Nat.pow_le_pow_right (by decide) (by omega)
      have hs : 2 ^ (i + 1) = 2 ^ i * 2 := Nat.pow_succ ..
      have hp' : (2 ^ i : Nat) ≤ 1048576 := hp
      obtain ⟨P, hP⟩ : ∃ P, Hid (P = 2 ^ i) := ⟨_, hide1 rfl⟩
      rw [← hP.out] at hp' hs ⊢
      clear hp
      go_wp2
      go_roundw
      case rel => exact ⟨i + 1, by rw [hs]; congr 1; simp; omega, rfl, by omega, trivial⟩
      case measure => simp [intOf]; omega
    · have hlt' : ¬ (i : Int) < (k : Int) := by omega
      obtain rfl : i = k := by omega
      obtain ⟨w0, hw0⟩ : ∃ w0, w0 = wr := ⟨_, rfl⟩
      subst hw0
      have hpp : 2 ^ i ≤ 2 ^ 20 := Nat.pow_le_pow_right (by decide) hk
      have hp0 : 1 ≤ 2 ^ i := Nat.one_le_two_pow
      have hp1 : 2 ^ i ≤ 1048576 := hpp
      clear hpp
      obtain ⟨P, hP⟩ : ∃ P, Hid (P = 2 ^ i) := ⟨_, hide1 rfl⟩
      rw [← hP.out] at hp1 hp0 ⊢
      have hlen : (lvl L i).length = N / P := by rw [lvl_len, hL, hP.out]
      have hpre : ∀ c, P * (c + 1) ≤ N → (lvl L i).take (c + 1) = (lvl L i).take c ++ [root (part L (P * c) (P * (c + 1)))] := fun c h => by rw [hP.out]; exact lvl_pref (by rw [hL, ← hP.out]; exact h)
      obtain ⟨X, hX⟩ : ∃ X, Hid (X = lvl L i) := ⟨_, hide1 rfl⟩
      rw [← hX.out] at hlen hpre
      replace hlen := hide1 hlen
      replace hpre := hide1 hpre
      replace hL := hide1 hL
      replace hN := hide1 hN
      replace hp1 := hide1 hp1
      go_wp2_with fail
      go_loopw [7, 8] (fun v x wr => ∃ c : Nat, x = .int .i64 ((P * c : Nat) : Int) ∧ P * c ≤ N ∧ wr.ownsRow w0.heap.size 27 32 v c (ssv (X.take c)) ∧ Below w0.heap.size w0 wr) (fun _ x _ => N + 1 - (intOf x).toNat)
      case atStart => exact ⟨0, by simp, by simp, by rw [List.take_zero]; exact World.ownsRow_nil _ _ _ _, Below.refl _ _⟩
      case round =>
        obtain ⟨c, rfl, hcN, hrow, hbu⟩ := hrel
        have hs1 : P * (c + 1) = P * c + P := Nat.mul_succ ..
        by_cases hlt2 : P * (c + 1) ≤ N
        · have hLo := hL.out
          have hNo := hN.out
          have hp1o := hp1.out
          have hp3 := hpre.out c hlt2
          have hpl := part_len (L := L) (f := P * c) (e := P * (c + 1)) (by omega)
          rw [hs1] at hpl hp3 hlt2
          obtain ⟨b, off, rfl, -⟩ := hS.2 (by omega)
          have hRl := root_lt _ (part L (P * c) (P * c + P)) rfl (fun F hF => hS.1 F (List.mem_of_mem_take (List.mem_of_mem_drop hF)))
          obtain ⟨Q, hQ⟩ : ∃ Q, Hid (Q = P * c) := ⟨_, hide1 rfl⟩
          rw [← hQ.out] at hp3 hpl hlt2 hRl hcN ⊢
          have hro := fun w' (h : Below w0.heap.size w0 w') => root_r P (part L Q (Q + P)) (some ⟨b, off + 32 * Q, none⟩) (cap - Q) w' (by rw [hpl]; omega) (by omega) (hS.part.later h) (by omega)
          have hsl := fun w' => sl_lh (b := b) (off := off) (n := N) (cap := cap) (f := Q) (e := Q + P) (by omega) hlt2 hc w'
          rw [show Q + P - Q = P by omega] at hsl
          obtain ⟨R, hR⟩ : ∃ R, Hid (R = root (part L Q (Q + P))) := ⟨_, hide1 rfl⟩
          rw [← hR.out] at hro hp3 hRl
          have ht1 : (Q : Int) + (P : Int) ≤ (N : Int) := by omega
          obtain ⟨g2, hg2⟩ : ∃ g2, Hid (g2 = off + 32 * Q) := ⟨_, hide1 rfl⟩
          rw [← hg2.out] at hro hsl
          have hcb : c + 1 ≤ 1000000 := by
            have : c * 1 ≤ P * c := by rw [Nat.mul_comm P c]; exact Nat.mul_le_mul_left _ hp0
            rw [hQ.out] at hlt2
            omega
          have hm2 : N + 1 - (Q + P) < N + 1 - Q := by omega
          have hQb : Q ≤ 1000 := by omega
          have hPb : P ≤ 1000 := by omega
          clear hpl hs1 hLo hNo hp1o hp0
          replace hp3 := hide1 hp3
          replace hlt2 := hide1 hlt2
          replace hcN := hide1 hcN
          replace hRl := hide1 hRl
          replace hcb := hide1 hcb
          replace hm2 := hide1 hm2
          have hsl1 := hsl wr
          have hro1 := hide1 (hro wr hbu)
          have hrow1 := hide1 hrow
          have hbu1 := hide1 hbu
          clear hsl hro hS hrow hbu h1 h2 hlt hlt' hi
          go_wp2_with (refine wpList_slx rfl (.tmp 32) (.tmp 33) (.tmp 36) rfl rfl rfl rfl hsl1 ?_)
          have hrow := hrow1.out
          have hbu := hbu1.out
          refine hro1.out.mono ?_
          rintro e w2 ⟨rfl, hb2⟩
          have hw3 : Below wr.heap.size wr (w2.alloc (.cells (ab 32 R) 27)) := hb2.alloc hb2.size _
          have hrow3 := own_later hrow hw3
          have hz3 : w0.heap.size ≤ (w2.alloc (.cells (ab 32 R) 27)).heap.size := Nat.le_trans hbu.size hw3.size
          have hss := ss_new (w := w2) hRl.out
          have hb3 := blw hbu hw3
          clear hb2 hw3 hrow hbu hro1 hrow1 hbu1 hsl1
          go_wp2_with (first
            | (refine wpList_bs_sum rfl (.tmp 38) rfl rfl ?_)
            | (at_builtin
               refine wpList_append_ss rfl (.tmp 31) (.tmp 39) rfl w0.heap.size _ c _ rfl hrow3 (some ⟨w2.heap.size, 0, none⟩) 1 1 [R] rfl hss rfl hcb.out hz3 ?_
               intro v' w4 hown' hgrow
               have hb4 : Below w0.heap.size w0 w4 := hb3.trans (own_below hrow3 hz3 hgrow)
               clear hgrow hrow3 hss hb3 hz3))
          go_roundw
          case rel => exact ⟨c + 1, by rw [Nat.mul_succ, ← hQ.out]; simp, by rw [Nat.mul_succ, ← hQ.out]; exact hlt2.out, by rw [hp3.out, ssv_app]; exact hown', hb4⟩
          case measure => have hm3 := hm2.out; simp [intOf]; omega
        · obtain ⟨Q, hQ⟩ : ∃ Q, Hid (Q = P * c) := ⟨_, hide1 rfl⟩
          have ht1 : ¬ (Q : Int) + (P : Int) ≤ (N : Int) := by rw [hQ.out]; omega
          have hQb : Q ≤ 1000 := by have := hN.out; rw [hQ.out]; omega
          have hPb := hp1.out
          rw [← hQ.out]
          have hcl : c = X.length := by
            rw [hlen.out]
            symm
            rw [Nat.div_eq_iff (by omega)]
            constructor
            · rw [Nat.mul_comm]; exact hcN
            · rw [Nat.mul_comm c P]; omega
          rw [List.take_of_length_le (by omega)] at hrow
          go_wp2
          go_ret
          exact ⟨_, rfl, ⟨by rw [← hX.out, ← hcl]; exact hrow, hbu.size⟩, hbu⟩
end
end Go.Proofs.YtdofoampjlebbaaDoor

namespace Go.Proofs.YtdofoampjlebbaaDoor
open Go.RowKit Go.Maps Sh

theorem wnf {ops : Array Oper} {a : Act} {o : Oper} {j d : Nat} (hg : o.guard = some (j, false)) (hd : (ops[j]?).bind (·.dst) = some d) (h : a.tmps.getD d undef = .bool false) : Region.wanted o (yielded ops a.tmps) = true := by
  have ht : a.tmps[d]? = some (.bool false) := by
    rw [Array.getD_eq_getD_getElem?] at h
    cases hx : a.tmps[d]? with
    | none => rw [hx] at h; cases h
    | some x => rw [hx] at h; rw [← h]; rfl
  unfold Region.wanted yielded
  rw [hg]
  simp only [hd, Option.bind_some, ht]
  rfl
def d3 (j : Nat) : Nat := if j = 0 then 1 else if j = 1 then 2 else if j = 2 then 3 else 0
theorem wpList_b3 {w : World} {ops : Array Oper} {rest : List Oper} {o : Oper} {a : Act} {Q : Exit → Act → World → Prop} {Z : Nat → Nat} (hZ : Z = d3) (hgd : o.guard = none) (ho : o.op = .build 27 #[(0, .const (.int .u8 1)), (1, .const (.int .u8 2)), (2, .const (.int .u8 3))]) (h : wpList Tryd.prog ops Q rest (a.put o.dst (.agg (ab 32 Z))) w) : wpList Tryd.prog ops Q (o :: rest) a w := by
  subst hZ
  refine wpList_plain hgd fun K hK => ?_
  have hb : (execOp a.eval o).run Tryd.prog w = .ok (.value (.agg (ab 32 d3))) w := by
    simp only [execOp, ho, List.map_toArray, List.map_cons, List.map_nil, Act.eval]
    kernel_rfl
  unfold Oper.wp
  rw [hb]
  exact hK _ _ h
theorem wpList_bzG {w : World} {ops : Array Oper} {rest : List Oper} {o : Oper} {a : Act} {Q : Exit → Act → World → Prop} {Z : Nat → Nat} (hZ : Z = fun _ => 0) (hgd : Region.wanted o (yielded ops a.tmps) = true) (ho : o.op = .build 27 #[]) (h : wpList Tryd.prog ops Q rest (a.put o.dst (.agg (ab 32 Z))) w) : wpList Tryd.prog ops Q (o :: rest) a w := by
  subst hZ
  refine wpList_step fun K hK => ?_
  rw [if_pos hgd]
  have hb : (execOp a.eval o).run Tryd.prog w = .ok (.value (.agg (ab 32 fun _ => 0))) w := by
    simp only [execOp, ho]
    kernel_rfl
  unfold Oper.wp
  rw [hb]
  exact hK _ _ h
theorem wpList_neG' {w : World} {ops : Array Oper} {rest : List Oper} {o : Oper} {a : Act} {Q : Exit → Act → World → Prop} (hgd : Region.wanted o (yielded ops a.tmps) = true) (x u : Operand) {t' : TypeId} (ho : o.op = .binOp .neq 27 x u t') {F G : Nat → Nat} {b : Bool} (hx : a.eval x = .agg (ab 32 F)) (hu : a.eval u = .agg (ab 32 G)) (hb : (!eqD F G) = b) (h : wpList Tryd.prog ops Q rest (a.put o.dst (.bool b)) w) : wpList Tryd.prog ops Q (o :: rest) a w := by
  refine wpList_step fun K hK => ?_
  rw [if_pos hgd]
  have hl := neS (x := x) (u := u) F G w
  rw [hb] at hl
  unfold Oper.wp execOp
  simp only [ho, hx, hu]
  simp only [Sem.run_bind] at hl ⊢
  simp only [hl, Result.andThen_ok, Sem.run_pure]
  exact hK _ _ h
theorem or64_z (x : Int) : bits .or .i64 x 64 < 0 ∨ 64 ≤ bits .or .i64 x 64 := by
  have h1 : bits .or .i64 x 64 = IntKind.i64.wrap (((BitVec.ofInt 64 x ||| BitVec.ofInt 64 64).toNat : Nat) : Int) := rfl
  have h2 : 64 ≤ (BitVec.ofInt 64 x ||| BitVec.ofInt 64 64).toNat := by
    rw [BitVec.toNat_or]
    exact Nat.right_le_or
  have h3 : (BitVec.ofInt 64 x ||| BitVec.ofInt 64 64).toNat < 2 ^ 64 := BitVec.isLt _
  rw [h1]
  generalize (BitVec.ofInt 64 x ||| BitVec.ofInt 64 64).toNat = N at *
  simp only [IntKind.wrap, IntKind.signed, IntKind.bits]
  simp
  omega
section
variable {x u : Operand}
theorem or64 (z : Int) (w : World) : (do eqGuard .or 3 x u (.int .i64 z) (.int .i64 64); binOp .or 3 (.int .i64 z) (.int .i64 64)).run Tryd.prog w = .ok (.int .i64 (bits .or .i64 z 64)) w := by
  simp [eqGuard, binOp, go_sem]
theorem neqn (w : World) : (do eqGuard .neq 29 x (.const .nilIface) .nilIface .nilIface; binOp .neq 29 .nilIface .nilIface).run Tryd.prog w = .ok (.bool false) w := by cases x <;> kernel_rfl
end
/-- A row of none. -/
def Sl0 (v : Value) (_ : World) : Prop := ∃ a c, v = .slice a 0 c
theorem Sl0.later {v : Value} {w w' : World} (h : Sl0 v w) (_ : Below w.heap.size w w') : Sl0 v w' := h
/-- Both sides' level at any of these numbers. -/
theorem rlevel_z {a : Option Addr} {N cap : Nat} {L : List (Nat → Nat)} {w : World} (hS : SsAt w a L) (hL : L.length = N) (hN : N ≤ 1000) (hc : N ≤ cap) {k : Int} (hk : k ≤ 20) : Calls Tryd.prog 26 #[.slice a N cap, .int .i64 k] w fun e w' => ∃ r, e = .returned r ∧ OwnS w.heap.size (lvlZ L k).length (lvlZ L k) r w' ∧ Below w.heap.size w w' := by
  by_cases h : k < 0
  · rw [show lvlZ L k = [] by unfold lvlZ; rw [if_pos h]]
    exact (rlevel_out (a := a) (N := N) (cap := cap) (w := w) (.inl h)).mono fun e w' h => ⟨_, h.1, by rw [h.2]; exact own_0 w, by rw [h.2]; exact Below.refl _ _⟩
  · obtain ⟨m, rfl⟩ : ∃ m : Nat, k = (m : Int) := ⟨k.toNat, by omega⟩
    rw [lvlZ_n]
    exact rlevel_in hS hL hN hc (by omega)
theorem lvlZ_lt {w : World} {lo tb : Nat} {L : List (Nat → Nat)} (h : Tr w lo tb L) (k : Int) : ∀ F ∈ lvlZ L k, ∀ j, F j < 256 := by
  intro F hF
  obtain ⟨mb, DM, lv, vs, h⟩ := h
  unfold lvlZ at hF
  split at hF
  · cases hF
  · obtain ⟨i, _, rfl⟩ := List.mem_map.1 hF
    exact root_lt _ _ rfl (fun G hG => h.lt G (List.mem_of_mem_take (List.mem_of_mem_drop hG)))
theorem lvlZ_le (L : List (Nat → Nat)) (k : Int) : (lvlZ L k).length ≤ L.length := by
  unfold lvlZ
  split
  · exact Nat.zero_le _
  · rw [lvl_len]; exact Nat.div_le_self _ _
/-- What Leaf answers at any number. -/
theorem leaf_ans {L : List (Nat → Nat)} (x : Int) : ∃ G E, ((0 ≤ x ∧ x < (L.length : Int) ∧ E = .nilIface ∧ G = L.getD x.toNat fun _ => 0) ∨ (¬ (0 ≤ x ∧ x < (L.length : Int)) ∧ E = ev 2 ∧ G = fun _ => 0)) ∧ ∀ w lo tb, Tr w lo tb L → Calls Tryd.prog 24 #[.pointer (some ⟨tb, 0, none⟩), .int .i64 x] w fun e w' => e = .returned (.tuple #[.agg (ab 32 G), E]) ∧ Below w.heap.size w w' := by
  by_cases h : 0 ≤ x ∧ x < (L.length : Int)
  · obtain ⟨i, rfl⟩ : ∃ i : Nat, x = (i : Int) := ⟨x.toNat, by omega⟩
    refine ⟨L.getD i fun _ => 0, .nilIface, .inl ⟨by omega, by omega, rfl, by rw [Int.toNat_natCast]⟩, fun w lo tb hT => leaf_in hT (by omega)⟩
  · exact ⟨fun _ => 0, ev 2, .inr ⟨h, rfl, rfl⟩, fun w lo tb hT => leaf_out hT (by omega)⟩
end Go.Proofs.YtdofoampjlebbaaDoor

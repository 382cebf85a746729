/- PBo2, PRL4, PBo3, PX1, PE1: laid together. -/
import Derived.Test.YtgnmnoadfjdjdaaDoorG6
import Derived.Test.YtgnmnoadfjdjdaaDoorG5
namespace Go.Proofs.YtgnmnoadfjdjdaaDoor
open Go.RowKit Go.Maps Sh
def BO10 (B : Nat) (F1 F2 F3 : Nat → Nat) (T : List (Nat → Nat)) (tv : Value) : (Nat → Bool) → Nat → Value → World → Prop
  | _, 0, v, _ => v = .agg (ab 32 F1)
  | _, 1, v, _ => v = .agg (ab 32 F2)
  | _, 2, v, _ => v = .agg (ab 32 F3)
  | _, 3, v, _ => v = .agg (ab 32 (nd F2 F3))
  | _, 4, v, _ => v = tv
  | _, 5, v, _ => v = .agg (ab 32 F2)
  | _, 6, v, _ => v = .agg (ab 32 F3)
  | D, 7, v, w => D 9 = false → TxW B (txt F2 F3) v w
  | D, 8, v, w => D 9 = false → Row1t B (txt F2 F3) v w
  | D, 9, v, w => D 9 = true ∧ TsV B (T ++ [(txt F2 F3)]) v w
  | _, 10, _, _ => True
  | _, 11, _, _ => True
  | D, 12, v, w => D 9 = true ∧ TsV B (T ++ [(txt F2 F3)]) v w
  | _, _, _, _ => True
def BO10d : Nat → Nat
  | 0 => 60
  | 1 => 61
  | 2 => 62
  | 3 => 63
  | 4 => 64
  | 5 => 65
  | 6 => 66
  | 7 => 67
  | 8 => 68
  | 9 => 69
  | 10 => 1010
  | 11 => 1011
  | 12 => 12
  | i => 2000 + i
theorem BO10_mono (B : Nat) (F1 F2 F3 : Nat → Nat) (T : List (Nat → Nat)) (tv : Value) {D : Nat → Bool} {ix : Nat} {w w' : World} (hD : D ix = false) (hb : ix ≠ 9 → Gx w w') : ∀ (j : Nat) (u : Value), j ≠ ix → BO10 B F1 F2 F3 T tv D j u w → BO10 B F1 F2 F3 T tv (add1 D ix) j u w'
  | 0, _, _, h => h
  | 1, _, _, h => h
  | 2, _, _, h => h
  | 3, _, _, h => h
  | 4, _, _, h => h
  | 5, _, _, h => h
  | 6, _, _, h => h
  | 7, _, _, h => fun hd => by
    by_cases e : ix = 9
    · subst e; rw [add1_eq] at hd; cases hd
    · rw [add1_ne (fun q => e q.symm)] at hd; exact (h hd).later (hb e)
  | 8, _, _, h => fun hd => by
    by_cases e : ix = 9
    · subst e; rw [add1_eq] at hd; cases hd
    · rw [add1_ne (fun q => e q.symm)] at hd; exact (h hd).later (hb e)
  | 9, _, _, h => by
    have e : ix ≠ 9 := fun e => by rw [e] at hD; rw [h.1] at hD; cases hD
    exact ⟨by rw [add1_ne (fun q => e q.symm)]; exact h.1, h.2.later (hb e)⟩
  | 10, _, _, h => h
  | 11, _, _, h => h
  | 12, _, _, h => by
    have e : ix ≠ 9 := fun e => by rw [e] at hD; rw [h.1] at hD; cases hD
    exact ⟨by rw [add1_ne (fun q => e q.symm)]; exact h.1, h.2.later (hb e)⟩
  | _ + 13, _, _, _ => trivial
set_option maxHeartbeats 8000000 in
set_option maxRecDepth 100000 in
theorem both_lo_r {b off n q cap m : Nat} {al : Bool} {F C1 C2 P : Nat → Nat} {T : List (Nat → Nat)} {W0 : World} (hm : n ≤ 1048576) (hm1 : 1 ≤ q) (hm2 : q ≤ 1000) (hcap : q ≤ cap) (hk : 1 ≤ cut n ∧ cut n < n ∧ n ≤ 2 * cut n) (hci : m ≤ cut n) (hin : m < n) (hTl : T.length ≤ 100000) (hC2l : ∀ i, C2 i < 256) (hP : ∀ i, P i < 256)
    (hld : ∀ w, Below W0.heap.size W0 w → (Instr.loadAt 34 (.pointer (some ⟨b, off + 32 * (q - 1), none⟩))).run Tryd.prog w = .ok (.agg (ab 32 P)) w)
    (hrec : ∀ w, Below W0.heap.size W0 w → Calls Tryd.prog 46 #[.int .i64 ((m : Nat) : Int), .int .i64 ((cut n : Nat) : Int), .bool al, .agg (ab 32 F), .slice (some ⟨b, off, none⟩) (q - 1) cap] w fun e w' => ∃ tv, e = .returned (.tuple #[.agg (ab 32 C1), .agg (ab 32 C2), tv]) ∧ TsV W0.heap.size T tv w' ∧ Below w.heap.size w w') :
    Calls Tryd.prog 46 #[.int .i64 ((m : Nat) : Int), .int .i64 ((n : Nat) : Int), .bool al, .agg (ab 32 F), .slice (some ⟨b, off, none⟩) q cap] W0 fun e w' => ∃ tv, e = .returned (.tuple #[.agg (ab 32 (C1)), .agg (ab 32 (nd C2 P)), tv]) ∧ TsV W0.heap.size (T ++ [txt C2 P]) tv w' ∧ Below W0.heap.size W0 w' := by
  obtain ⟨hk1, hk2, hk3⟩ := hk
  have h1 : ((m : Int) == (n : Int)) = false := by rw [beq_eq_false_iff_ne]; omega
  have hlt : (m : Int) ≤ (cut n : Int) := by omega
  have hcu := fun w => cut_rr n hm w
  obtain ⟨A, hA⟩ : ∃ A, Hid (A = ab 32 F) := ⟨_, hide1 rfl⟩
  obtain ⟨Z, hZ⟩ : ∃ Z, Hid (Z = ab 32 fun _ => 0) := ⟨_, hide1 rfl⟩
  have bxA : ∀ w : World, (Instr.box 34 (.agg A)).run Tryd.prog w = .ok (.pointer (some ⟨w.heap.size, 0, none⟩)) (w.alloc (.cells A 34)) := fun w => bx_agg w
  have hzs : ∀ w : World, (zeroValue 34).run Tryd.prog w = .ok (.agg Z) w := fun w => by rw [hZ.out]; kernel_rfl
  have szA : (Tryd.prog.info? 34).map (·.size) = some A.size := by rw [hA.out]; exact sum_sz _
  have hZs : Z.size = 32 := by rw [hZ.out]; exact ab_size _ _
  rw [← hA.out] at hrec ⊢
  obtain ⟨w1, hw1⟩ : ∃ w1, Hid (w1 = ((W0.alloc (.cells A 34)).alloc (.cells Z 34)).alloc (.cells Z 34)) := ⟨_, hide1 rfl⟩
  have hb1 : Below W0.heap.size W0 w1 := by rw [hw1.out]; exact (((Below.refl _ _).alloc (Nat.le_refl _) _).alloc (by rw [World.size_alloc]; omega) _).alloc (by rw [World.size_alloc, World.size_alloc]; omega) _
  have hrA : w1.heap[W0.heap.size]? = some (.cells A 34 (0, 0)) := by rw [hw1.out]; exact (Below.heap_alloc _ _ _ (by rw [World.size_alloc, World.size_alloc]; omega)).trans ((Below.heap_alloc _ _ _ (by rw [World.size_alloc]; omega)).trans (World.alloc_heap_new W0 _))
  have hra : w1.heap[W0.heap.size + 1]? = some (.cells Z 34 (0, 0)) := by
    rw [hw1.out]; have := World.alloc_heap_new (W0.alloc (.cells A 34)) (.cells Z 34); rw [World.size_alloc] at this; exact (Below.heap_alloc _ _ _ (by rw [World.size_alloc, World.size_alloc]; omega)).trans this
  have hrb : w1.heap[W0.heap.size + 1 + 1]? = some (.cells Z 34 (0, 0)) := by
    rw [hw1.out]; have := World.alloc_heap_new ((W0.alloc (.cells A 34)).alloc (.cells Z 34)) (.cells Z 34); rwa [World.size_alloc, World.size_alloc] at this
  have hz1 : Hid (w1.heap.size = W0.heap.size + 3) := hide1 (by rw [hw1.out]; simp)
  go_enter Tryd.func46, Tryd.ntmps46
  go_upto_region 1 with fail
  rw [← hw1.out]
  go_wp2_with fail
  refine (hcu w1).mono ?_
  rintro e w ⟨rfl, rfl⟩
  have hml : ((q : Int) - 1).toNat = q - 1 := by omega
  have hm0 : ¬ (q : Int) - 1 < 0 := by omega
  have hm3 : (q : Int) - 1 < (q : Int) := by omega
  have hm4 : (q : Int) - 1 ≤ (cap : Int) := by omega
  have hldw := hld w hb1
  have hr11 := World.alloc_heap_new w (.cells Z 34)
  obtain ⟨w2, hw2⟩ : ∃ w2, Hid (w2 = (w.alloc (.cells Z 34)).setRow w.heap.size (ab 32 P)) := ⟨_, hide1 rfl⟩
  have hwr2 := wrt_row (c' := ab 32 P) hr11
  have hb2 : Below w.heap.size w w2 := by rw [hw2.out]; exact below_wrt ((Below.refl _ _).alloc (Nat.le_refl _) _) hwr2 (Nat.le_refl _) (by simp)
  have hP2 : w2.heap[w.heap.size]? = some (.cells (ab 32 P) 34 (0, 0)) := by rw [hw2.out]; exact hwr2.row
  have hA2 := (hb2.block _ (Array.getElem?_eq_some_iff.1 hrA).1).trans hrA
  have hra2 := (hb2.block _ (Array.getElem?_eq_some_iff.1 hra).1).trans hra
  have hrb2 := (hb2.block _ (Array.getElem?_eq_some_iff.1 hrb).1).trans hrb
  clear hwr2
  go_wp2_with (first
    | (refine wpList_ld rfl 34 (.tmp 40) rfl (.pointer (some ⟨b, off + 32 * (q - 1), none⟩)) (by rw [Nat.mul_comm]; rfl) hldw ?_)
    | (refine wpList_store_row rfl 34 (.tmp 14) (.tmp 41) rfl w.heap.size (ab 32 P) Z 34 rfl rfl (sum_sz P) hr11 (by rw [hZs, ab_size]) (ab_one _ _) rfl ?_; rw [← hw2.out])
    | (refine wpList_load_row rfl 34 (.tmp 8) rfl W0.heap.size A 34 rfl Tryd.underlying34 szA hA2 ?_))
  refine (hrec w2 (blw hb1 hb2)).mono ?_
  rintro e w3 ⟨tv, rfl, hts, hb3⟩
  have hb03 := blw (blw hb1 hb2) hb3
  have hP3 := (hb3.block _ (Array.getElem?_eq_some_iff.1 hP2).1).trans hP2
  have hra3 := (hb3.block _ (Array.getElem?_eq_some_iff.1 hra2).1).trans hra2
  have hrb3 := (hb3.block _ (Array.getElem?_eq_some_iff.1 hrb2).1).trans hrb2
  obtain ⟨w4, hw4⟩ : ∃ w4, Hid (w4 = (((w3.alloc (.cells Z 34)).alloc (.cells Z 34)).setRow w3.heap.size (ab 32 C1)).setRow (w3.heap.size + 1) (ab 32 C2)) := ⟨_, hide1 rfl⟩
  have hn1 : (((w3.alloc (.cells Z 34)).alloc (.cells Z 34))).heap[w3.heap.size]? = some (.cells Z 34 (0, 0)) := (Below.heap_alloc _ _ _ (by simp)).trans (World.alloc_heap_new w3 _)
  have hn2 : (((w3.alloc (.cells Z 34)).alloc (.cells Z 34))).heap[w3.heap.size + 1]? = some (.cells Z 34 (0, 0)) := by
    have := World.alloc_heap_new (w3.alloc (.cells Z 34)) (.cells Z 34); rwa [World.size_alloc] at this
  have hwr1 := wrt_row (c' := ab 32 C1) hn1
  have hn3 := (setRow_other _ w3.heap.size (w3.heap.size + 1) (ab 32 C1) (by omega)).trans hn2
  have hwr2 := wrt_row (c' := ab 32 C2) hn3
  have hbz : Below w3.heap.size w3 (((w3.alloc (.cells Z 34)).alloc (.cells Z 34))) := ((Below.refl _ _).alloc (Nat.le_refl _) _).alloc (by simp) _
  have hbz1 := below_wrt hbz hwr1 (Nat.le_refl _) hbz.size
  have hbw4 : Below w3.heap.size w3 w4 := by rw [hw4.out]; exact below_wrt hbz1 hwr2 (by omega) hbz1.size
  have hC1 : w4.heap[w3.heap.size]? = some (.cells (ab 32 C1) 34 (0, 0)) := by rw [hw4.out]; exact (setRow_other _ (w3.heap.size + 1) w3.heap.size _ (by omega)).trans hwr1.row
  have hC2 : w4.heap[w3.heap.size + 1]? = some (.cells (ab 32 C2) 34 (0, 0)) := by rw [hw4.out]; exact hwr2.row
  have hP4 := (hbw4.block _ (Array.getElem?_eq_some_iff.1 hP3).1).trans hP3
  have hra4 := (hbw4.block _ (Array.getElem?_eq_some_iff.1 hra3).1).trans hra3
  have hrb4 := (hbw4.block _ (Array.getElem?_eq_some_iff.1 hrb3).1).trans hrb3
  have hts4 := hts.later (Gx.of hbw4)
  have hb04 := blw hb03 hbw4
  have hd1 : Hid (W0.heap.size + 1 + 1 < w.heap.size ∧ w.heap.size < w3.heap.size) := hide1 ⟨by have := hz1.out; omega, (Array.getElem?_eq_some_iff.1 hP3).1⟩
  clear hwr1 hwr2 hbz hbz1 hrec hld hldw hA2 hP2 hra2 hrb2 hP3 hra3 hrb3 hb3 hts hr11 hrA hra hrb
  go_upto_region 10 with (first
    | (refine wpList_store_row rfl 34 (.tmp 16) (.tmp 57) rfl w3.heap.size (ab 32 C1) Z 34 rfl rfl (sum_sz C1) hn1 (by rw [hZs, ab_size]) (ab_one _ _) rfl ?_)
    | (refine wpList_store_row rfl 34 (.tmp 17) (.tmp 58) rfl (w3.heap.size + 1) (ab 32 C2) Z 34 rfl rfl (sum_sz C2) hn3 (by rw [hZs, ab_size]) (ab_one _ _) rfl ?_; rw [← hw4.out])
    | fail)
  clear hn1 hn2 hn3
  have hd2 := hd1.out
  generalize hgq : w3.heap.size + 1 = gq at *
  generalize hgp : w3.heap.size = gp at *
  generalize hgl : w.heap.size = gl at *
  generalize hgb : W0.heap.size + 1 + 1 = gb at *
  generalize hga : W0.heap.size + 1 = ga at *
  have hN : ∀ w, Calls Tryd.prog 44 #[.agg (ab 32 C2), .agg (ab 32 P)] w fun e w' => e = .returned (.agg (ab 32 (nd C2 P))) ∧ Below w.heap.size w w' := fun w => node_r hC2l hP
  have hT : ∀ w, Calls Tryd.prog 69 #[.agg (ab 32 C2), .agg (ab 32 P)] w fun e w' => ∃ r, e = .returned r ∧ TxV w' w.heap.size r (txt C2 P) ∧ Below w.heap.size w w' := fun w => text_h hC2l hP
  have h0a : W0.heap.size ≤ ga := by omega
  have h1a : gp ≠ ga := by omega
  have h2a : gq ≠ ga := by omega
  have h3a : gl ≠ ga := by omega
  have h4a : gb ≠ ga := by omega
  have h0b : W0.heap.size ≤ gb := by omega
  have h1b : gp ≠ gb := by omega
  have h2b : gq ≠ gb := by omega
  have h3b : gl ≠ gb := by omega
  have h4b : ga ≠ gb := by omega
  refine wp_rel3 _ _ (BO10 W0.heap.size C1 C2 P T tv) (MB W0 gp gq gl ga gb C1 C2 P C1 (nd C2 P) Z T tv 9 10 11) BO10d (by kernel_rfl) (by kernel_rfl) 13 (by kernel_rfl) ?_ ?_ rfl (⟨hb04.drew, hC1, hC2, hP4, by rw [show stc 10 C1 Z (fun _ => false) = Z from rfl]; exact hra4, by rw [show stc 11 (nd C2 P) Z (fun _ => false) = Z from rfl]; exact hrb4, fun _ => hts4.later (Gx.of (Below.refl _ _).drew)⟩) ?_ ?_
  · intro ix o ho
    match ix, ho with
    | 0, ho => obtain rfl := Option.some.inj ho; exact .inl ⟨rfl, by show 60 < 99; decide⟩
    | 1, ho => obtain rfl := Option.some.inj ho; exact .inl ⟨rfl, by show 61 < 99; decide⟩
    | 2, ho => obtain rfl := Option.some.inj ho; exact .inl ⟨rfl, by show 62 < 99; decide⟩
    | 3, ho => obtain rfl := Option.some.inj ho; exact .inl ⟨rfl, by show 63 < 99; decide⟩
    | 4, ho => obtain rfl := Option.some.inj ho; exact .inl ⟨rfl, by show 64 < 99; decide⟩
    | 5, ho => obtain rfl := Option.some.inj ho; exact .inl ⟨rfl, by show 65 < 99; decide⟩
    | 6, ho => obtain rfl := Option.some.inj ho; exact .inl ⟨rfl, by show 66 < 99; decide⟩
    | 7, ho => obtain rfl := Option.some.inj ho; exact .inl ⟨rfl, by show 67 < 99; decide⟩
    | 8, ho => obtain rfl := Option.some.inj ho; exact .inl ⟨rfl, by show 68 < 99; decide⟩
    | 9, ho => obtain rfl := Option.some.inj ho; exact .inl ⟨rfl, by show 69 < 99; decide⟩
    | 10, ho => obtain rfl := Option.some.inj ho; exact .inr ⟨⟨rfl, fun _ _ _ _ => trivial⟩, by show 99 ≤ 1010; decide⟩
    | 11, ho => obtain rfl := Option.some.inj ho; exact .inr ⟨⟨rfl, fun _ _ _ _ => trivial⟩, by show 99 ≤ 1011; decide⟩
    | 12, ho => obtain rfl := Option.some.inj ho; exact .inl ⟨rfl, by show 12 < 99; decide⟩
    | _ + 13, ho => exact absurd ho (by simp)
  · intro ix jx hi hj e; unfold BO10d at e; split at e <;> split at e <;> omega
  · intro ix o ho
    match ix, ho with
    | 0, ho =>
      obtain rfl := Option.some.inj ho
      intro D a w hM hsl hdep hDi hcl K hK
      have hp16 : a.tmps.getD 16 undef = .pointer (some ⟨gp, 0, none⟩) := hsl 16 (by intro j hj; unfold BO10d; split <;> omega)
      refine ⟨rfl, ?_⟩
      have hl := ldS (F := C1) 34 w _ hM.r1
      refine wp_val (w' := w) (v := .agg (ab 32 C1)) (by simp only [execOp, Act.eval]; rw [show a.tmps.getD 16 undef = _ from hp16]; simp only [Sem.run_bind, hl, Result.andThen_ok, Sem.run_pure]) ?_
      exact hK _ _ rfl (hM.step (Below.refl _ _) (by decide) (by decide) (by decide)) (BO10_mono W0.heap.size C1 C2 P T tv hDi (fun _ => (Gx.of (Below.refl _ _))))
    | 1, ho =>
      obtain rfl := Option.some.inj ho
      intro D a w hM hsl hdep hDi hcl K hK
      have hp17 : a.tmps.getD 17 undef = .pointer (some ⟨gq, 0, none⟩) := hsl 17 (by intro j hj; unfold BO10d; split <;> omega)
      refine ⟨rfl, ?_⟩
      have hl := ldS (F := C2) 34 w _ hM.r2
      refine wp_val (w' := w) (v := .agg (ab 32 C2)) (by simp only [execOp, Act.eval]; rw [show a.tmps.getD 17 undef = _ from hp17]; simp only [Sem.run_bind, hl, Result.andThen_ok, Sem.run_pure]) ?_
      exact hK _ _ rfl (hM.step (Below.refl _ _) (by decide) (by decide) (by decide)) (BO10_mono W0.heap.size C1 C2 P T tv hDi (fun _ => (Gx.of (Below.refl _ _))))
    | 2, ho =>
      obtain rfl := Option.some.inj ho
      intro D a w hM hsl hdep hDi hcl K hK
      have hp14 : a.tmps.getD 14 undef = .pointer (some ⟨gl, 0, none⟩) := hsl 14 (by intro j hj; unfold BO10d; split <;> omega)
      refine ⟨rfl, ?_⟩
      have hl := ldS (F := P) 34 w _ hM.r3
      refine wp_val (w' := w) (v := .agg (ab 32 P)) (by simp only [execOp, Act.eval]; rw [show a.tmps.getD 14 undef = _ from hp14]; simp only [Sem.run_bind, hl, Result.andThen_ok, Sem.run_pure]) ?_
      exact hK _ _ rfl (hM.step (Below.refl _ _) (by decide) (by decide) (by decide)) (BO10_mono W0.heap.size C1 C2 P T tv hDi (fun _ => (Gx.of (Below.refl _ _))))
    | 3, ho =>
      obtain rfl := Option.some.inj ho
      intro D a w hM hsl hdep hDi hcl K hK
      have e1 := (hdep ⟨1, .data⟩ (by simp) rfl).1
      have e2 := (hdep ⟨2, .data⟩ (by simp) rfl).1
      refine ⟨rfl, ?_⟩
      refine oper_callg 44 #[.tmp 61, .tmp 62] _ rfl #[.agg (ab 32 C2), .agg (ab 32 P)] (by simp only [List.map_toArray, List.map_cons, List.map_nil, Act.eval]; rw [show a.tmps.getD 61 undef = _ from e1, show a.tmps.getD 62 undef = _ from e2]) (fun w => by kernel_rfl) (hN w) fun w' hb => ?_
      exact hK _ _ rfl (hM.step hb (by decide) (by decide) (by decide)) (BO10_mono W0.heap.size C1 C2 P T tv hDi (fun _ => (Gx.of hb)))
    | 4, ho =>
      obtain rfl := Option.some.inj ho
      intro D a w hM hsl hdep hDi hcl K hK
      have hp18 : a.tmps.getD 18 undef = tv := hsl 18 (by intro j hj; unfold BO10d; split <;> omega)
      refine ⟨rfl, ?_⟩
      refine wp_val (w' := w) (v := tv) (by simp only [execOp, Act.eval]; rw [show a.tmps.getD 18 undef = _ from hp18]; rfl) ?_
      exact hK _ _ rfl (hM.step (Below.refl _ _) (by decide) (by decide) (by decide)) (BO10_mono W0.heap.size C1 C2 P T tv hDi (fun _ => (Gx.of (Below.refl _ _))))
    | 5, ho =>
      obtain rfl := Option.some.inj ho
      intro D a w hM hsl hdep hDi hcl K hK
      have hp17 : a.tmps.getD 17 undef = .pointer (some ⟨gq, 0, none⟩) := hsl 17 (by intro j hj; unfold BO10d; split <;> omega)
      refine ⟨rfl, ?_⟩
      have hl := ldS (F := C2) 34 w _ hM.r2
      refine wp_val (w' := w) (v := .agg (ab 32 C2)) (by simp only [execOp, Act.eval]; rw [show a.tmps.getD 17 undef = _ from hp17]; simp only [Sem.run_bind, hl, Result.andThen_ok, Sem.run_pure]) ?_
      exact hK _ _ rfl (hM.step (Below.refl _ _) (by decide) (by decide) (by decide)) (BO10_mono W0.heap.size C1 C2 P T tv hDi (fun _ => (Gx.of (Below.refl _ _))))
    | 6, ho =>
      obtain rfl := Option.some.inj ho
      intro D a w hM hsl hdep hDi hcl K hK
      have hp14 : a.tmps.getD 14 undef = .pointer (some ⟨gl, 0, none⟩) := hsl 14 (by intro j hj; unfold BO10d; split <;> omega)
      refine ⟨rfl, ?_⟩
      have hl := ldS (F := P) 34 w _ hM.r3
      refine wp_val (w' := w) (v := .agg (ab 32 P)) (by simp only [execOp, Act.eval]; rw [show a.tmps.getD 14 undef = _ from hp14]; simp only [Sem.run_bind, hl, Result.andThen_ok, Sem.run_pure]) ?_
      exact hK _ _ rfl (hM.step (Below.refl _ _) (by decide) (by decide) (by decide)) (BO10_mono W0.heap.size C1 C2 P T tv hDi (fun _ => (Gx.of (Below.refl _ _))))
    | 7, ho =>
      obtain rfl := Option.some.inj ho
      intro D a w hM hsl hdep hDi hcl K hK
      have e5 := (hdep ⟨5, .data⟩ (by simp) rfl).1
      have e6 := (hdep ⟨6, .data⟩ (by simp) rfl).1
      refine ⟨rfl, ?_⟩
      refine oper_any 69 #[.tmp 65, .tmp 66] _ rfl #[.agg (ab 32 C2), .agg (ab 32 P)] (by simp only [List.map_toArray, List.map_cons, List.map_nil, Act.eval]; rw [show a.tmps.getD 65 undef = _ from e5, show a.tmps.getD 66 undef = _ from e6]) (fun w => by kernel_rfl) (hT w) fun r w' hj => ?_
      obtain ⟨hr, hb⟩ := hj
      exact hK _ _ (fun _ => hr.mono hM.bel.size) (hM.step hb (by decide) (by decide) (by decide)) (BO10_mono W0.heap.size C1 C2 P T tv hDi (fun _ => (Gx.of hb)))
    | 8, ho =>
      obtain rfl := Option.some.inj ho
      intro D a w hM hsl hdep hDi hcl K hK
      have e7 := (hdep ⟨7, .data⟩ (by simp) rfl).1
      refine ⟨rfl, ?_⟩
      have hno : D 9 = false := by cases h8 : D 9 with | false => rfl | true => have := hcl 9 _ rfl h8 ⟨8, .data⟩ (by simp) rfl; rw [this] at hDi; cases hDi
      have h6 := e7 hno
      have h1 : (a.tmps.getD 67 undef).oneCell' = true := by obtain ⟨_, _, _, e, _⟩ := h6; rw [show a.tmps.getD 67 undef = _ from e]; rfl
      have hl := bs_txt (a.tmps.getD 67 undef) h1 w
      refine wp_val (w' := w.alloc (.cells #[a.tmps.getD 67 undef] 97)) (v := .slice (some ⟨w.heap.size, 0, none⟩) 1 1) (by simp only [execOp, Act.eval, List.map_toArray, List.map_cons, List.map_nil, Sem.run_bind, hl, Result.andThen_ok, Sem.run_pure]) ?_
      have hb : Below w.heap.size w (w.alloc (.cells #[a.tmps.getD 67 undef] 97)) := (Below.refl _ _).alloc (Nat.le_refl _) _
      exact hK _ _ (fun _ => ⟨_, _, rfl, World.alloc_heap_new w _, TxW.later h6 (Gx.of hb)⟩) (hM.step hb (by decide) (by decide) (by decide)) (BO10_mono W0.heap.size C1 C2 P T tv hDi (fun _ => Gx.of hb))
    | 9, ho =>
      obtain rfl := Option.some.inj ho
      intro D a w hM hsl hdep hDi hcl K hK
      have e4 := (hdep ⟨4, .data⟩ (by simp) rfl).1
      have e8 := (hdep ⟨8, .data⟩ (by simp) rfl).1
      refine ⟨rfl, ?_⟩
      obtain ⟨h0, xs, ho, hx⟩ := hM.ts (fun _ => hDi)
      obtain ⟨g, r, eg, hg, hr⟩ := e8 hDi
      have hu : w.ownsRow 0 97 1 (.slice (some ⟨g, 0, none⟩) 1 1) 1 [r] := ⟨rfl, .inr ⟨g, 1, #[r], rfl, Nat.zero_le _, hg, Nat.le_refl _, by decide, rfl, rfl⟩⟩
      obtain ⟨v', w', hrun, ho', hgr⟩ := run_append_sl w W0.heap.size 78 tv T.length xs ho (.slice (some ⟨g, 0, none⟩) 1 1) 1 [r] hu (fun y hy => by rw [List.mem_singleton.1 hy]; obtain ⟨_, _, _, e, _⟩ := hr; rw [e]; rfl) (by omega) h0
      refine wp_val (w' := w') (v := v') (by simp only [execOp, Act.eval, resolve, invoke, builtin, List.map_toArray, List.map_cons, List.map_nil, Sem.run_pure, Result.andThen_ok, Sem.run_bind]; rw [show a.tmps.getD 64 undef = _ from e4, show a.tmps.getD 68 undef = _ from eg]; simp only [hrun, Result.andThen_ok]) ?_
      refine hK _ _ ⟨add1_eq, Nat.le_trans h0 hgr.size, xs ++ [r], by rw [List.length_append]; exact ho', ?_⟩ (hM.app ho hgr (by decide) (by decide) (by decide)) (BO10_mono W0.heap.size C1 C2 P T tv hDi (fun h => absurd rfl h))
      exact (hx.map (fun h => h.grown hgr (own_ty ho))).app (TsAt.one (hr.grown hgr (own_ty ho)))
    | 10, ho =>
      obtain rfl := Option.some.inj ho
      intro D a w hM hsl hdep hDi hcl K hK
      have e0 := (hdep ⟨0, .data⟩ (by simp) rfl).1
      have hp10 : a.tmps.getD 10 undef = .pointer (some ⟨ga, 0, none⟩) := hsl 10 (by intro j hj; unfold BO10d; split <;> omega)
      refine ⟨rfl, ?_⟩
      have hl := stS (F := C1) 34 (stc_size hZs) w ga hM.ra
      refine wp_skp (w' := w.setRow ga (ab 32 C1)) (by simp only [execOp, Act.eval]; rw [show a.tmps.getD 10 undef = _ from hp10, show a.tmps.getD 60 undef = _ from e0]; simp only [Sem.run_bind, hl, Result.andThen_ok, Sem.run_pure]) ?_
      exact hK undef _ trivial (hM.stoA h0a h1a h2a h3a h4a (by decide) (by decide) (by decide)) (BO10_mono W0.heap.size C1 C2 P T tv hDi (fun _ => Gx.row hM.ra))
    | 11, ho =>
      obtain rfl := Option.some.inj ho
      intro D a w hM hsl hdep hDi hcl K hK
      have e3 := (hdep ⟨3, .data⟩ (by simp) rfl).1
      have hp11 : a.tmps.getD 11 undef = .pointer (some ⟨gb, 0, none⟩) := hsl 11 (by intro j hj; unfold BO10d; split <;> omega)
      refine ⟨rfl, ?_⟩
      have hl := stS (F := (nd C2 P)) 34 (stc_size hZs) w gb hM.rb
      refine wp_skp (w' := w.setRow gb (ab 32 (nd C2 P))) (by simp only [execOp, Act.eval]; rw [show a.tmps.getD 11 undef = _ from hp11, show a.tmps.getD 63 undef = _ from e3]; simp only [Sem.run_bind, hl, Result.andThen_ok, Sem.run_pure]) ?_
      exact hK undef _ trivial (hM.stoB h0b h1b h2b h3b h4b (by decide) (by decide) (by decide)) (BO10_mono W0.heap.size C1 C2 P T tv hDi (fun _ => Gx.row hM.rb))
    | 12, ho =>
      obtain rfl := Option.some.inj ho
      intro D a w hM hsl hdep hDi hcl K hK
      have e9 := (hdep ⟨9, .data⟩ (by simp) rfl).1
      refine ⟨rfl, ?_⟩
      refine wp_val (w' := w) (v := a.tmps.getD 69 undef) (by simp only [execOp, Act.eval]; rfl) ?_
      exact hK _ _ ⟨by rw [add1_ne (by decide)]; exact e9.1, e9.2⟩ (hM.step (Below.refl _ _) (by decide) (by decide) (by decide)) (BO10_mono W0.heap.size C1 C2 P T tv hDi (fun _ => (Gx.of (Below.refl _ _))))
    | _ + 13, ho => exact absurd ho (by simp)
  · intro D a u hall hd hs hM hsl hr
    obtain ⟨-, hv⟩ := hr 12 (by decide)
    have hs10 : a.tmps.getD 10 undef = .pointer (some ⟨ga, 0, none⟩) := hsl 10 (by intro j hj; unfold BO10d; split <;> omega)
    have hs11 : a.tmps.getD 11 undef = .pointer (some ⟨gb, 0, none⟩) := hsl 11 (by intro j hj; unfold BO10d; split <;> omega)
    have hra := hM.ra
    have hrb := hM.rb
    rw [stc_on (by decide) (hall 10 (by decide))] at hra
    rw [stc_on (by decide) (hall 11 (by decide))] at hrb
    refine (‹∀ (a : Act) (w : World), Code.wp Tryd.prog Code.ret _ a w → _›) a u ?_
    refine wp_ret ?_
    refine then_ret ?_
    exact s_raw3 hd hs10 hs11 rfl Tryd.results46 (sum_sz _) (sum_sz _) hra hrb ⟨_, rfl, hv, hM.bel⟩
end Go.Proofs.YtgnmnoadfjdjdaaDoor

namespace Go.Proofs.YtgnmnoadfjdjdaaDoor
open Go.RowKit
theorem tm_all (t : Array Value) {n : Nat} (h : t.size = n) : t = ((List.range n).map fun i => t.getD i undef).toArray := by
  subst h
  apply Array.ext_getElem?
  intro i
  have e : ((List.range t.size).map fun i => t.getD i undef).toArray[i]? = ((List.range t.size)[i]?).map fun i => t.getD i undef := by simp
  rw [e]
  rcases Nat.lt_or_ge i t.size with h | h
  · rw [List.getElem?_range h, Option.map_some, Array.getElem?_eq_getElem h, Array.getD_eq_getD_getElem?, Array.getElem?_eq_getElem h]; rfl
  · rw [Array.getElem?_eq_none h, List.getElem?_eq_none (by simpa using h)]; rfl
section
variable {P : Program} {Q : Exit → Act → World → Prop}
/-- One operation's step: the others' answers stay told, the memory's predicate goes on. -/
def Hop4 (P : Program) (Q : Exit → Act → World → Prop) (l : List Oper) (n : Nat) (a0 : Act) (dd : Nat → Nat) (Rr : (Nat → Bool) → Nat → Value → World → Prop) (M : (Nat → Bool) → World → Prop) (i : Nat) (o : Oper) : Prop :=
  ∀ (D : Nat → Bool) (a : Act) (w : World), M D w → (∀ t, (∀ j, j < n → dd j ≠ t) → a.tmps.getD t undef = a0.tmps.getD t undef) → (∀ e ∈ o.after, Region.binds .any e = true → Rr D e.on (a.tmps.getD (dd e.on) undef) w ∧ D e.on = true) → D i = false → (∀ j oj, l[j]? = some oj → D j = true → ∀ e ∈ oj.after, Region.binds .any e = true → D e.on = true) → (∀ j, j < n → D j = false → a.tmps.getD (dd j) undef = a0.tmps.getD (dd j) undef) →
    ∀ K : Act → World → Prop, (∀ v w', Rr (add1 D i) i v w' → M (add1 D i) w' → (∀ j u, j ≠ i → Rr D j u w → Rr (add1 D i) j u w') → K (a.put o.dst v) w') → Region.wanted o (yielded l.toArray a.tmps) = true ∧ o.wp P a w K Q
theorem wp_rel4 {l : List Oper} {id : Nat} (a0 : Act) (w0 : World) (Rr : (Nat → Bool) → Nat → Value → World → Prop) (M : (Nat → Bool) → World → Prop) (dd : Nat → Nat) (hm : P.follows .mixedOrders = true) (hac : acycB l.toArray = true) (n : Nat) (hn : l.length = n)
    (hdst : ∀ i o, l[i]? = some o → (o.dst = some (dd i) ∧ dd i < a0.tmps.size) ∨ (o.dst = none ∧ ∀ D v w, Rr D i v w → Rr D i undef w) ∧ a0.tmps.size ≤ dd i)
    (hinj : ∀ i j, i < n → j < n → dd i = dd j → i = j) (hdf : a0.defers = []) (h0 : M (fun _ => false) w0.drew)
    (hop : ∀ i o, l[i]? = some o → Hop4 P Q l n a0 dd Rr M i o)
    (hend : ∀ (D : Nat → Bool) (a : Act) (w : World), (∀ i, i < n → D i = true) → a.defers = [] → a.tmps.size = a0.tmps.size → M D w → (∀ t, (∀ j, j < n → dd j ≠ t) → a.tmps.getD t undef = a0.tmps.getD t undef) → (∀ i, i < n → Rr D i (a.tmps.getD (dd i) undef) w) → Q .normal a w) : (Code.region id l.toArray true).wp P Q a0 w0 := by
  subst hn
  have hacyc := acyc_of (ops := l.toArray) hac
  refine wp_region_any hm (wpAny_sym hacyc (fun D a w => a.defers = [] ∧ a.tmps.size = a0.tmps.size ∧ M D w ∧ (∀ t, (∀ j, j < l.length → dd j ≠ t) → a.tmps.getD t undef = a0.tmps.getD t undef) ∧ (∀ i, i < l.length → D i = true → Rr D i (a.tmps.getD (dd i) undef) w) ∧ (∀ j oj, l[j]? = some oj → D j = true → ∀ e ∈ oj.after, Region.binds .any e = true → D e.on = true) ∧ ∀ j, j < l.length → D j = false → a.tmps.getD (dd j) undef = a0.tmps.getD (dd j) undef) ?_ ?_ l.toArray.size _ a0 _ (by simp) ?_ ?_)
  · rintro D a w ⟨h1, h2, h3, h4, h5, h6, h7⟩ i o ho hD hdep K hK
    have ho' : l[i]? = some o := by simpa using ho
    have hil : i < l.length := (List.getElem?_eq_some_iff.1 ho').1
    left
    refine hop i o ho' D a w h3 h4 (fun e he hb => ⟨h5 e.on (by have := hacyc i o ho e he hb; omega) (hdep e he hb), hdep e he hb⟩) (by simpa using hD) h6 h7 K fun v w' hR hM hmono => hK _ _ ?_
    have hold : ∀ j, j < l.length → j ≠ i → add1 D i j = true → Rr (add1 D i) j (a.tmps.getD (dd j) undef) w' := fun j hj hne hDj => hmono j _ hne (h5 j hj (by unfold add1 at hDj; rwa [if_neg hne] at hDj))
    have hcl : ∀ j oj, l[j]? = some oj → add1 D i j = true → ∀ e ∈ oj.after, Region.binds .any e = true → add1 D i e.on = true := by
      intro j oj hj hDj e he hb
      unfold add1
      split
      · rfl
      · unfold add1 at hDj
        split at hDj
        · rename_i hji
          subst hji
          rw [ho'] at hj; cases hj
          exact hdep e he hb
        · exact h6 j oj hj hDj e he hb
    rcases hdst i o ho' with ⟨hd, hlt⟩ | ⟨⟨hd, hu⟩, hge⟩
    · have hdi : dd i < a.tmps.size := by rw [h2]; exact hlt
      rw [hd]
      refine ⟨h1, by unfold Act.put; simpa using h2, hM, fun t ht => ?_, fun j hj hDj => ?_, hcl, fun j hj hDj => ?_⟩
      · rw [putg_ hdi, if_neg (fun e => ht i hil e.symm)]; exact h4 t ht
      · rw [putg_ hdi]
        by_cases e : dd j = dd i
        · rw [if_pos e, hinj j i hj hil e]; exact hR
        · rw [if_neg e]; exact hold j hj (fun e2 => e (by rw [e2])) hDj
      · unfold add1 at hDj
        split at hDj
        · cases hDj
        · rename_i hne
          rw [putg_ hdi, if_neg (fun e => hne (hinj j i hj hil e))]; exact h7 j hj hDj
    · rw [hd]
      refine ⟨h1, h2, hM, h4, fun j hj hDj => ?_, hcl, fun j hj hDj => h7 j hj (by unfold add1 at hDj; split at hDj; cases hDj; exact hDj)⟩
      by_cases e : j = i
      · subst e
        have hz : a.tmps.getD (dd j) undef = undef := by
          rw [Array.getD_eq_getD_getElem?, Array.getElem?_eq_none (by rw [h2]; exact hge)]; rfl
        rw [show (a.put none v).tmps.getD (dd j) undef = undef from hz]
        exact hu _ _ _ hR
      · exact hold j hj e hDj
  · rintro D a w ⟨h1, h2, h3, h4, h5, _, _⟩ hall
    exact hend D a w (fun i hi => hall i (by simpa using hi)) h1 h2 h3 h4 fun i hi => h5 i hi (hall i (by simpa using hi))
  · exact Nat.le_trans (List.length_filter_le _ _) (by simp)
  · have e : ∀ i, (Array.replicate l.toArray.size false).getD i false = false := by
      intro i
      by_cases h : i < l.toArray.size <;> simp [Array.getD]
    have ef : (fun i => (Array.replicate l.toArray.size false).getD i false) = fun _ => false := funext e
    refine ⟨hdf, rfl, ?_, fun _ _ => rfl, fun i _ hi => ?_, fun i _ _ hi => ?_, fun _ _ _ => rfl⟩
    · exact ef ▸ h0
    · replace hi : (Array.replicate l.toArray.size false).getD i false = true := hi
      rw [e] at hi; cases hi
    · replace hi : (Array.replicate l.toArray.size false).getD i false = true := hi
      rw [e] at hi; cases hi
end
end Go.Proofs.YtgnmnoadfjdjdaaDoor

namespace Go.Proofs.YtgnmnoadfjdjdaaDoor
open Go.RowKit Go.Maps Sh
def BO12 (B : Nat) (F1 F2 F3 : Nat → Nat) (T : List (Nat → Nat)) (tv : Value) : (Nat → Bool) → Nat → Value → World → Prop
  | _, 0, v, _ => v = tv
  | _, 1, v, _ => v = .agg (ab 32 F1)
  | _, 2, v, _ => v = .agg (ab 32 F2)
  | D, 3, v, w => D 8 = false → TxW B (txt F1 F2) v w
  | _, 4, v, _ => v = .agg (ab 32 F1)
  | _, 5, v, _ => v = .agg (ab 32 F3)
  | D, 6, v, w => D 8 = false → TxW B (txt F1 F3) v w
  | D, 7, v, w => D 8 = false → Row2t B (txt F1 F2) (txt F1 F3) v w
  | D, 8, v, w => D 8 = true ∧ TsV B (T ++ [(txt F1 F2), (txt F1 F3)]) v w
  | D, 9, v, w => D 8 = true ∧ TsV B (T ++ [(txt F1 F2), (txt F1 F3)]) v w
  | _, _, _, _ => True
def BO12d : Nat → Nat
  | 0 => 83
  | 1 => 84
  | 2 => 85
  | 3 => 86
  | 4 => 87
  | 5 => 88
  | 6 => 89
  | 7 => 90
  | 8 => 91
  | 9 => 21
  | i => 2000 + i
theorem BO12_mono (B : Nat) (F1 F2 F3 : Nat → Nat) (T : List (Nat → Nat)) (tv : Value) {D : Nat → Bool} {ix : Nat} {w w' : World} (hD : D ix = false) (hb : ix ≠ 8 → Gx w w') : ∀ (j : Nat) (u : Value), j ≠ ix → BO12 B F1 F2 F3 T tv D j u w → BO12 B F1 F2 F3 T tv (add1 D ix) j u w'
  | 0, _, _, h => h
  | 1, _, _, h => h
  | 2, _, _, h => h
  | 3, _, _, h => fun hd => by
    by_cases e : ix = 8
    · subst e; rw [add1_eq] at hd; cases hd
    · rw [add1_ne (fun q => e q.symm)] at hd; exact (h hd).later (hb e)
  | 4, _, _, h => h
  | 5, _, _, h => h
  | 6, _, _, h => fun hd => by
    by_cases e : ix = 8
    · subst e; rw [add1_eq] at hd; cases hd
    · rw [add1_ne (fun q => e q.symm)] at hd; exact (h hd).later (hb e)
  | 7, _, _, h => fun hd => by
    by_cases e : ix = 8
    · subst e; rw [add1_eq] at hd; cases hd
    · rw [add1_ne (fun q => e q.symm)] at hd; exact (h hd).later (hb e)
  | 8, _, _, h => by
    have e : ix ≠ 8 := fun e => by rw [e] at hD; rw [h.1] at hD; cases hD
    exact ⟨by rw [add1_ne (fun q => e q.symm)]; exact h.1, h.2.later (hb e)⟩
  | 9, _, _, h => by
    have e : ix ≠ 8 := fun e => by rw [e] at hD; rw [h.1] at hD; cases hD
    exact ⟨by rw [add1_ne (fun q => e q.symm)]; exact h.1, h.2.later (hb e)⟩
  | _ + 10, _, _, _ => trivial
def BO13 (F1 F2 F3 : Nat → Nat) (tv2 : Value) : (Nat → Bool) → Nat → Value → World → Prop
  | _, 0, v, _ => v = .agg (ab 32 F1)
  | _, 1, v, _ => v = .agg (ab 32 F2)
  | _, 2, v, _ => v = .agg (ab 32 (nd F1 F2))
  | _, 3, v, _ => v = .agg (ab 32 F1)
  | _, 4, v, _ => v = .agg (ab 32 F3)
  | _, 5, v, _ => v = .agg (ab 32 (nd F1 F3))
  | _, 6, v, _ => v = tv2
  | _, 7, _, _ => True
  | _, 8, _, _ => True
  | _, 9, v, _ => v = tv2
  | _, _, _, _ => True
def BO13d : Nat → Nat
  | 0 => 92
  | 1 => 93
  | 2 => 94
  | 3 => 95
  | 4 => 96
  | 5 => 97
  | 6 => 98
  | 7 => 1007
  | 8 => 1008
  | 9 => 12
  | i => 2000 + i
theorem BO13_mono (F1 F2 F3 : Nat → Nat) (tv2 : Value) {D : Nat → Bool} {ix : Nat} {w w' : World} (_hD : D ix = false) (_hb : Gx w w') : ∀ (j : Nat) (u : Value), j ≠ ix → BO13 F1 F2 F3 tv2 D j u w → BO13 F1 F2 F3 tv2 (add1 D ix) j u w'
  | 0, _, _, h => h
  | 1, _, _, h => h
  | 2, _, _, h => h
  | 3, _, _, h => h
  | 4, _, _, h => h
  | 5, _, _, h => h
  | 6, _, _, h => h
  | 7, _, _, h => h
  | 8, _, _, h => h
  | 9, _, _, h => h
  | _ + 10, _, _, _ => trivial
set_option maxHeartbeats 8000000 in
set_option maxRecDepth 100000 in
theorem both_hi_r {b off n q cap m : Nat} {al : Bool} {F C1 C2 P : Nat → Nat} {T : List (Nat → Nat)} {W0 : World} (hm : n ≤ 1048576) (hm1 : 1 ≤ q) (hm2 : q ≤ 1000) (hcap : q ≤ cap) (hk : 1 ≤ cut n ∧ cut n < n ∧ n ≤ 2 * cut n) (hci : cut n < m) (hin : m < n) (hTl : T.length ≤ 100000) (hC1l : ∀ i, C1 i < 256) (hC2l : ∀ i, C2 i < 256) (hP : ∀ i, P i < 256)
    (hld : ∀ w, Below W0.heap.size W0 w → (Instr.loadAt 34 (.pointer (some ⟨b, off + 32 * (q - 1), none⟩))).run Tryd.prog w = .ok (.agg (ab 32 P)) w)
    (hrec : ∀ w, Below W0.heap.size W0 w → Calls Tryd.prog 46 #[.int .i64 ((m - cut n : Nat) : Int), .int .i64 ((n - cut n : Nat) : Int), .bool false, .agg (ab 32 F), .slice (some ⟨b, off, none⟩) (q - 1) cap] w fun e w' => ∃ tv, e = .returned (.tuple #[.agg (ab 32 C1), .agg (ab 32 C2), tv]) ∧ TsV W0.heap.size T tv w' ∧ Below w.heap.size w w') :
    Calls Tryd.prog 46 #[.int .i64 ((m : Nat) : Int), .int .i64 ((n : Nat) : Int), .bool al, .agg (ab 32 F), .slice (some ⟨b, off, none⟩) q cap] W0 fun e w' => ∃ tv, e = .returned (.tuple #[.agg (ab 32 (nd P C1)), .agg (ab 32 (nd P C2)), tv]) ∧ TsV W0.heap.size (T ++ [txt P C1, txt P C2]) tv w' ∧ Below W0.heap.size W0 w' := by
  obtain ⟨hk1, hk2, hk3⟩ := hk
  have h1 : ((m : Int) == (n : Int)) = false := by rw [beq_eq_false_iff_ne]; omega
  have hlt : ¬ (m : Int) ≤ (cut n : Int) := by omega
  have hcu := fun w => cut_rr n hm w
  obtain ⟨A, hA⟩ : ∃ A, Hid (A = ab 32 F) := ⟨_, hide1 rfl⟩
  obtain ⟨Z, hZ⟩ : ∃ Z, Hid (Z = ab 32 fun _ => 0) := ⟨_, hide1 rfl⟩
  have bxA : ∀ w : World, (Instr.box 34 (.agg A)).run Tryd.prog w = .ok (.pointer (some ⟨w.heap.size, 0, none⟩)) (w.alloc (.cells A 34)) := fun w => bx_agg w
  have hzs : ∀ w : World, (zeroValue 34).run Tryd.prog w = .ok (.agg Z) w := fun w => by rw [hZ.out]; kernel_rfl
  have szA : (Tryd.prog.info? 34).map (·.size) = some A.size := by rw [hA.out]; exact sum_sz _
  have hZs : Z.size = 32 := by rw [hZ.out]; exact ab_size _ _
  rw [show ((m - cut n : Nat) : Int) = (m : Int) - (cut n : Int) by omega, show ((n - cut n : Nat) : Int) = (n : Int) - (cut n : Int) by omega] at hrec
  rw [← hA.out] at hrec ⊢
  obtain ⟨w1, hw1⟩ : ∃ w1, Hid (w1 = ((W0.alloc (.cells A 34)).alloc (.cells Z 34)).alloc (.cells Z 34)) := ⟨_, hide1 rfl⟩
  have hb1 : Below W0.heap.size W0 w1 := by rw [hw1.out]; exact (((Below.refl _ _).alloc (Nat.le_refl _) _).alloc (by rw [World.size_alloc]; omega) _).alloc (by rw [World.size_alloc, World.size_alloc]; omega) _
  have hrA : w1.heap[W0.heap.size]? = some (.cells A 34 (0, 0)) := by rw [hw1.out]; exact (Below.heap_alloc _ _ _ (by rw [World.size_alloc, World.size_alloc]; omega)).trans ((Below.heap_alloc _ _ _ (by rw [World.size_alloc]; omega)).trans (World.alloc_heap_new W0 _))
  have hra : w1.heap[W0.heap.size + 1]? = some (.cells Z 34 (0, 0)) := by
    rw [hw1.out]; have := World.alloc_heap_new (W0.alloc (.cells A 34)) (.cells Z 34); rw [World.size_alloc] at this; exact (Below.heap_alloc _ _ _ (by rw [World.size_alloc, World.size_alloc]; omega)).trans this
  have hrb : w1.heap[W0.heap.size + 1 + 1]? = some (.cells Z 34 (0, 0)) := by
    rw [hw1.out]; have := World.alloc_heap_new ((W0.alloc (.cells A 34)).alloc (.cells Z 34)) (.cells Z 34); rwa [World.size_alloc, World.size_alloc] at this
  have hz1 : Hid (w1.heap.size = W0.heap.size + 3) := hide1 (by rw [hw1.out]; simp)
  go_enter Tryd.func46, Tryd.ntmps46
  go_upto_region 1 with fail
  rw [← hw1.out]
  go_wp2_with fail
  refine (hcu w1).mono ?_
  rintro e w ⟨rfl, rfl⟩
  have hml : ((q : Int) - 1).toNat = q - 1 := by omega
  have hm0 : ¬ (q : Int) - 1 < 0 := by omega
  have hm3 : (q : Int) - 1 < (q : Int) := by omega
  have hm4 : (q : Int) - 1 ≤ (cap : Int) := by omega
  have hldw := hld w hb1
  have hr11 := World.alloc_heap_new w (.cells Z 34)
  obtain ⟨w2, hw2⟩ : ∃ w2, Hid (w2 = (w.alloc (.cells Z 34)).setRow w.heap.size (ab 32 P)) := ⟨_, hide1 rfl⟩
  have hwr2 := wrt_row (c' := ab 32 P) hr11
  have hb2 : Below w.heap.size w w2 := by rw [hw2.out]; exact below_wrt ((Below.refl _ _).alloc (Nat.le_refl _) _) hwr2 (Nat.le_refl _) (by simp)
  have hP2 : w2.heap[w.heap.size]? = some (.cells (ab 32 P) 34 (0, 0)) := by rw [hw2.out]; exact hwr2.row
  have hA2 := (hb2.block _ (Array.getElem?_eq_some_iff.1 hrA).1).trans hrA
  have hra2 := (hb2.block _ (Array.getElem?_eq_some_iff.1 hra).1).trans hra
  have hrb2 := (hb2.block _ (Array.getElem?_eq_some_iff.1 hrb).1).trans hrb
  clear hwr2
  go_wp2_with (first
    | (refine wpList_ld rfl 34 (.tmp 40) rfl (.pointer (some ⟨b, off + 32 * (q - 1), none⟩)) (by rw [Nat.mul_comm]; rfl) hldw ?_)
    | (refine wpList_store_row rfl 34 (.tmp 14) (.tmp 41) rfl w.heap.size (ab 32 P) Z 34 rfl rfl (sum_sz P) hr11 (by rw [hZs, ab_size]) (ab_one _ _) rfl ?_; rw [← hw2.out])
    | (refine wpList_load_row rfl 34 (.tmp 8) rfl W0.heap.size A 34 rfl Tryd.underlying34 szA hA2 ?_))
  refine (hrec w2 (blw hb1 hb2)).mono ?_
  rintro e w3 ⟨tv, rfl, hts, hb3⟩
  have hb03 := blw (blw hb1 hb2) hb3
  have hP3 := (hb3.block _ (Array.getElem?_eq_some_iff.1 hP2).1).trans hP2
  have hra3 := (hb3.block _ (Array.getElem?_eq_some_iff.1 hra2).1).trans hra2
  have hrb3 := (hb3.block _ (Array.getElem?_eq_some_iff.1 hrb2).1).trans hrb2
  obtain ⟨w4, hw4⟩ : ∃ w4, Hid (w4 = (((w3.alloc (.cells Z 34)).alloc (.cells Z 34)).setRow w3.heap.size (ab 32 C1)).setRow (w3.heap.size + 1) (ab 32 C2)) := ⟨_, hide1 rfl⟩
  have hn1 : (((w3.alloc (.cells Z 34)).alloc (.cells Z 34))).heap[w3.heap.size]? = some (.cells Z 34 (0, 0)) := (Below.heap_alloc _ _ _ (by simp)).trans (World.alloc_heap_new w3 _)
  have hn2 : (((w3.alloc (.cells Z 34)).alloc (.cells Z 34))).heap[w3.heap.size + 1]? = some (.cells Z 34 (0, 0)) := by
    have := World.alloc_heap_new (w3.alloc (.cells Z 34)) (.cells Z 34); rwa [World.size_alloc] at this
  have hwr1 := wrt_row (c' := ab 32 C1) hn1
  have hn3 := (setRow_other _ w3.heap.size (w3.heap.size + 1) (ab 32 C1) (by omega)).trans hn2
  have hwr2 := wrt_row (c' := ab 32 C2) hn3
  have hbz : Below w3.heap.size w3 (((w3.alloc (.cells Z 34)).alloc (.cells Z 34))) := ((Below.refl _ _).alloc (Nat.le_refl _) _).alloc (by simp) _
  have hbz1 := below_wrt hbz hwr1 (Nat.le_refl _) hbz.size
  have hbw4 : Below w3.heap.size w3 w4 := by rw [hw4.out]; exact below_wrt hbz1 hwr2 (by omega) hbz1.size
  have hC1 : w4.heap[w3.heap.size]? = some (.cells (ab 32 C1) 34 (0, 0)) := by rw [hw4.out]; exact (setRow_other _ (w3.heap.size + 1) w3.heap.size _ (by omega)).trans hwr1.row
  have hC2 : w4.heap[w3.heap.size + 1]? = some (.cells (ab 32 C2) 34 (0, 0)) := by rw [hw4.out]; exact hwr2.row
  have hP4 := (hbw4.block _ (Array.getElem?_eq_some_iff.1 hP3).1).trans hP3
  have hra4 := (hbw4.block _ (Array.getElem?_eq_some_iff.1 hra3).1).trans hra3
  have hrb4 := (hbw4.block _ (Array.getElem?_eq_some_iff.1 hrb3).1).trans hrb3
  have hts4 := hts.later (Gx.of hbw4)
  have hb04 := blw hb03 hbw4
  have hd1 : Hid (W0.heap.size + 1 + 1 < w.heap.size ∧ w.heap.size < w3.heap.size) := hide1 ⟨by have := hz1.out; omega, (Array.getElem?_eq_some_iff.1 hP3).1⟩
  clear hwr1 hwr2 hbz hbz1 hrec hld hldw hA2 hP2 hra2 hrb2 hP3 hra3 hrb3 hb3 hts hr11 hrA hra hrb
  go_upto_region 12 with (first
    | (refine wpList_store_row rfl 34 (.tmp 19) (.tmp 80) rfl w3.heap.size (ab 32 C1) Z 34 rfl rfl (sum_sz C1) hn1 (by rw [hZs, ab_size]) (ab_one _ _) rfl ?_)
    | (refine wpList_store_row rfl 34 (.tmp 20) (.tmp 81) rfl (w3.heap.size + 1) (ab 32 C2) Z 34 rfl rfl (sum_sz C2) hn3 (by rw [hZs, ab_size]) (ab_one _ _) rfl ?_; rw [← hw4.out])
    | fail)
  clear hn1 hn2 hn3
  have hd2 := hd1.out
  generalize hgq : w3.heap.size + 1 = gq at *
  generalize hgp : w3.heap.size = gp at *
  generalize hgl : w.heap.size = gl at *
  generalize hgb : W0.heap.size + 1 + 1 = gb at *
  generalize hga : W0.heap.size + 1 = ga at *
  have hN1 : ∀ w, Calls Tryd.prog 44 #[.agg (ab 32 P), .agg (ab 32 C1)] w fun e w' => e = .returned (.agg (ab 32 (nd P C1))) ∧ Below w.heap.size w w' := fun w => node_r hP hC1l
  have hN2 : ∀ w, Calls Tryd.prog 44 #[.agg (ab 32 P), .agg (ab 32 C2)] w fun e w' => e = .returned (.agg (ab 32 (nd P C2))) ∧ Below w.heap.size w w' := fun w => node_r hP hC2l
  have hT1 : ∀ w, Calls Tryd.prog 69 #[.agg (ab 32 P), .agg (ab 32 C1)] w fun e w' => ∃ r, e = .returned r ∧ TxV w' w.heap.size r (txt P C1) ∧ Below w.heap.size w w' := fun w => text_h hP hC1l
  have hT2 : ∀ w, Calls Tryd.prog 69 #[.agg (ab 32 P), .agg (ab 32 C2)] w fun e w' => ∃ r, e = .returned r ∧ TxV w' w.heap.size r (txt P C2) ∧ Below w.heap.size w w' := fun w => text_h hP hC2l
  have h0a : W0.heap.size ≤ ga := by omega
  have h1a : gl ≠ ga := by omega
  have h2a : gp ≠ ga := by omega
  have h3a : gq ≠ ga := by omega
  have h4a : gb ≠ ga := by omega
  have h0b : W0.heap.size ≤ gb := by omega
  have h1b : gl ≠ gb := by omega
  have h2b : gp ≠ gb := by omega
  have h3b : gq ≠ gb := by omega
  have h4b : ga ≠ gb := by omega
  refine wp_rel4 _ _ (BO12 W0.heap.size P C1 C2 T tv) (MB W0 gl gp gq ga gb P C1 C2 P P Z T tv 8 1000 1000) BO12d (by kernel_rfl) (by kernel_rfl) 10 (by kernel_rfl) ?_ ?_ rfl (⟨hb04.drew, hP4, hC1, hC2, by rw [stc_no]; exact hra4, by rw [stc_no]; exact hrb4, fun _ => hts4.later (Gx.of (Below.refl _ _).drew)⟩) ?_ ?_
  · intro ix o ho
    match ix, ho with
    | 0, ho => obtain rfl := Option.some.inj ho; exact .inl ⟨rfl, by show 83 < 99; decide⟩
    | 1, ho => obtain rfl := Option.some.inj ho; exact .inl ⟨rfl, by show 84 < 99; decide⟩
    | 2, ho => obtain rfl := Option.some.inj ho; exact .inl ⟨rfl, by show 85 < 99; decide⟩
    | 3, ho => obtain rfl := Option.some.inj ho; exact .inl ⟨rfl, by show 86 < 99; decide⟩
    | 4, ho => obtain rfl := Option.some.inj ho; exact .inl ⟨rfl, by show 87 < 99; decide⟩
    | 5, ho => obtain rfl := Option.some.inj ho; exact .inl ⟨rfl, by show 88 < 99; decide⟩
    | 6, ho => obtain rfl := Option.some.inj ho; exact .inl ⟨rfl, by show 89 < 99; decide⟩
    | 7, ho => obtain rfl := Option.some.inj ho; exact .inl ⟨rfl, by show 90 < 99; decide⟩
    | 8, ho => obtain rfl := Option.some.inj ho; exact .inl ⟨rfl, by show 91 < 99; decide⟩
    | 9, ho => obtain rfl := Option.some.inj ho; exact .inl ⟨rfl, by show 21 < 99; decide⟩
    | _ + 10, ho => exact absurd ho (by simp)
  · intro ix jx hi hj e; unfold BO12d at e; split at e <;> split at e <;> omega
  · intro ix o ho
    match ix, ho with
    | 0, ho =>
      obtain rfl := Option.some.inj ho
      intro D a w hM hsl hdep hDi hcl hpd K hK
      have hnw21 : D 9 = false := by cases h9 : D 9 with | false => rfl | true => have := hcl 9 _ rfl h9 ⟨0, .phase⟩ (by simp) rfl; rw [this] at hDi; cases hDi
      have hp21 : a.tmps.getD 21 undef = tv := hpd 9 (by decide) hnw21
      refine ⟨rfl, ?_⟩
      refine wp_val (w' := w) (v := tv) (by simp only [execOp, Act.eval]; rw [show a.tmps.getD 21 undef = _ from hp21]; rfl) ?_
      exact hK _ _ rfl (hM.step (Below.refl _ _) (by decide) (by decide) (by decide)) (BO12_mono W0.heap.size P C1 C2 T tv hDi (fun _ => (Gx.of (Below.refl _ _))))
    | 1, ho =>
      obtain rfl := Option.some.inj ho
      intro D a w hM hsl hdep hDi hcl hpd K hK
      have hp14 : a.tmps.getD 14 undef = .pointer (some ⟨gl, 0, none⟩) := hsl 14 (by intro j hj; unfold BO12d; split <;> omega)
      refine ⟨rfl, ?_⟩
      have hl := ldS (F := P) 34 w _ hM.r1
      refine wp_val (w' := w) (v := .agg (ab 32 P)) (by simp only [execOp, Act.eval]; rw [show a.tmps.getD 14 undef = _ from hp14]; simp only [Sem.run_bind, hl, Result.andThen_ok, Sem.run_pure]) ?_
      exact hK _ _ rfl (hM.step (Below.refl _ _) (by decide) (by decide) (by decide)) (BO12_mono W0.heap.size P C1 C2 T tv hDi (fun _ => (Gx.of (Below.refl _ _))))
    | 2, ho =>
      obtain rfl := Option.some.inj ho
      intro D a w hM hsl hdep hDi hcl hpd K hK
      have hp19 : a.tmps.getD 19 undef = .pointer (some ⟨gp, 0, none⟩) := hsl 19 (by intro j hj; unfold BO12d; split <;> omega)
      refine ⟨rfl, ?_⟩
      have hl := ldS (F := C1) 34 w _ hM.r2
      refine wp_val (w' := w) (v := .agg (ab 32 C1)) (by simp only [execOp, Act.eval]; rw [show a.tmps.getD 19 undef = _ from hp19]; simp only [Sem.run_bind, hl, Result.andThen_ok, Sem.run_pure]) ?_
      exact hK _ _ rfl (hM.step (Below.refl _ _) (by decide) (by decide) (by decide)) (BO12_mono W0.heap.size P C1 C2 T tv hDi (fun _ => (Gx.of (Below.refl _ _))))
    | 3, ho =>
      obtain rfl := Option.some.inj ho
      intro D a w hM hsl hdep hDi hcl hpd K hK
      have e1 := (hdep ⟨1, .data⟩ (by simp) rfl).1
      have e2 := (hdep ⟨2, .data⟩ (by simp) rfl).1
      refine ⟨rfl, ?_⟩
      refine oper_any 69 #[.tmp 84, .tmp 85] _ rfl #[.agg (ab 32 P), .agg (ab 32 C1)] (by simp only [List.map_toArray, List.map_cons, List.map_nil, Act.eval]; rw [show a.tmps.getD 84 undef = _ from e1, show a.tmps.getD 85 undef = _ from e2]) (fun w => by kernel_rfl) (hT1 w) fun r w' hj => ?_
      obtain ⟨hr, hb⟩ := hj
      exact hK _ _ (fun _ => hr.mono hM.bel.size) (hM.step hb (by decide) (by decide) (by decide)) (BO12_mono W0.heap.size P C1 C2 T tv hDi (fun _ => (Gx.of hb)))
    | 4, ho =>
      obtain rfl := Option.some.inj ho
      intro D a w hM hsl hdep hDi hcl hpd K hK
      have hp14 : a.tmps.getD 14 undef = .pointer (some ⟨gl, 0, none⟩) := hsl 14 (by intro j hj; unfold BO12d; split <;> omega)
      refine ⟨rfl, ?_⟩
      have hl := ldS (F := P) 34 w _ hM.r1
      refine wp_val (w' := w) (v := .agg (ab 32 P)) (by simp only [execOp, Act.eval]; rw [show a.tmps.getD 14 undef = _ from hp14]; simp only [Sem.run_bind, hl, Result.andThen_ok, Sem.run_pure]) ?_
      exact hK _ _ rfl (hM.step (Below.refl _ _) (by decide) (by decide) (by decide)) (BO12_mono W0.heap.size P C1 C2 T tv hDi (fun _ => (Gx.of (Below.refl _ _))))
    | 5, ho =>
      obtain rfl := Option.some.inj ho
      intro D a w hM hsl hdep hDi hcl hpd K hK
      have hp20 : a.tmps.getD 20 undef = .pointer (some ⟨gq, 0, none⟩) := hsl 20 (by intro j hj; unfold BO12d; split <;> omega)
      refine ⟨rfl, ?_⟩
      have hl := ldS (F := C2) 34 w _ hM.r3
      refine wp_val (w' := w) (v := .agg (ab 32 C2)) (by simp only [execOp, Act.eval]; rw [show a.tmps.getD 20 undef = _ from hp20]; simp only [Sem.run_bind, hl, Result.andThen_ok, Sem.run_pure]) ?_
      exact hK _ _ rfl (hM.step (Below.refl _ _) (by decide) (by decide) (by decide)) (BO12_mono W0.heap.size P C1 C2 T tv hDi (fun _ => (Gx.of (Below.refl _ _))))
    | 6, ho =>
      obtain rfl := Option.some.inj ho
      intro D a w hM hsl hdep hDi hcl hpd K hK
      have e4 := (hdep ⟨4, .data⟩ (by simp) rfl).1
      have e5 := (hdep ⟨5, .data⟩ (by simp) rfl).1
      refine ⟨rfl, ?_⟩
      refine oper_any 69 #[.tmp 87, .tmp 88] _ rfl #[.agg (ab 32 P), .agg (ab 32 C2)] (by simp only [List.map_toArray, List.map_cons, List.map_nil, Act.eval]; rw [show a.tmps.getD 87 undef = _ from e4, show a.tmps.getD 88 undef = _ from e5]) (fun w => by kernel_rfl) (hT2 w) fun r w' hj => ?_
      obtain ⟨hr, hb⟩ := hj
      exact hK _ _ (fun _ => hr.mono hM.bel.size) (hM.step hb (by decide) (by decide) (by decide)) (BO12_mono W0.heap.size P C1 C2 T tv hDi (fun _ => (Gx.of hb)))
    | 7, ho =>
      obtain rfl := Option.some.inj ho
      intro D a w hM hsl hdep hDi hcl hpd K hK
      have e3 := (hdep ⟨3, .data⟩ (by simp) rfl).1
      have e6 := (hdep ⟨6, .data⟩ (by simp) rfl).1
      refine ⟨rfl, ?_⟩
      have hno : D 8 = false := by cases h8 : D 8 with | false => rfl | true => have := hcl 8 _ rfl h8 ⟨7, .data⟩ (by simp) rfl; rw [this] at hDi; cases hDi
      have h6 := e3 hno
      have h7 := e6 hno
      have h1 : (a.tmps.getD 86 undef).oneCell' = true := by obtain ⟨_, _, _, e, _⟩ := h6; rw [show a.tmps.getD 86 undef = _ from e]; rfl
      have h2 : (a.tmps.getD 89 undef).oneCell' = true := by obtain ⟨_, _, _, e, _⟩ := h7; rw [show a.tmps.getD 89 undef = _ from e]; rfl
      have hl := bs_txt2 (a.tmps.getD 86 undef) (a.tmps.getD 89 undef) h1 h2 w
      refine wp_val (w' := w.alloc (.cells #[a.tmps.getD 86 undef, a.tmps.getD 89 undef] 97)) (v := .slice (some ⟨w.heap.size, 0, none⟩) 2 2) (by simp only [execOp, Act.eval, List.map_toArray, List.map_cons, List.map_nil, Sem.run_bind, hl, Result.andThen_ok, Sem.run_pure]) ?_
      have hb : Below w.heap.size w (w.alloc (.cells #[a.tmps.getD 86 undef, a.tmps.getD 89 undef] 97)) := (Below.refl _ _).alloc (Nat.le_refl _) _
      exact hK _ _ (fun _ => ⟨_, _, _, rfl, World.alloc_heap_new w _, TxW.later h6 (Gx.of hb), TxW.later h7 (Gx.of hb)⟩) (hM.step hb (by decide) (by decide) (by decide)) (BO12_mono W0.heap.size P C1 C2 T tv hDi (fun _ => Gx.of hb))
    | 8, ho =>
      obtain rfl := Option.some.inj ho
      intro D a w hM hsl hdep hDi hcl hpd K hK
      have e0 := (hdep ⟨0, .data⟩ (by simp) rfl).1
      have e7 := (hdep ⟨7, .data⟩ (by simp) rfl).1
      refine ⟨rfl, ?_⟩
      obtain ⟨h0, xs, ho, hx⟩ := hM.ts (fun _ => hDi)
      obtain ⟨g, r1, r2, eg, hg, hr1, hr2⟩ := e7 hDi
      have hu : w.ownsRow 0 97 1 (.slice (some ⟨g, 0, none⟩) 2 2) 2 [r1, r2] := ⟨rfl, .inr ⟨g, 2, #[r1, r2], rfl, Nat.zero_le _, hg, Nat.le_refl _, by decide, rfl, rfl⟩⟩
      obtain ⟨v', w', hrun, ho', hgr⟩ := run_append_sl w W0.heap.size 78 tv T.length xs ho (.slice (some ⟨g, 0, none⟩) 2 2) 2 [r1, r2] hu (fun y hy => by rcases List.mem_cons.1 hy with h | h; rw [h]; obtain ⟨_, _, _, e, _⟩ := hr1; rw [e]; rfl; rw [List.mem_singleton.1 h]; obtain ⟨_, _, _, e, _⟩ := hr2; rw [e]; rfl) (by omega) h0
      refine wp_val (w' := w') (v := v') (by simp only [execOp, Act.eval, resolve, invoke, builtin, List.map_toArray, List.map_cons, List.map_nil, Sem.run_pure, Result.andThen_ok, Sem.run_bind]; rw [show a.tmps.getD 83 undef = _ from e0, show a.tmps.getD 90 undef = _ from eg]; simp only [hrun, Result.andThen_ok]) ?_
      refine hK _ _ ⟨add1_eq, Nat.le_trans h0 hgr.size, xs ++ [r1, r2], by rw [List.length_append]; exact ho', ?_⟩ (hM.app ho hgr (by decide) (by decide) (by decide)) (BO12_mono W0.heap.size P C1 C2 T tv hDi (fun h => absurd rfl h))
      exact (hx.map (fun h => h.grown hgr (own_ty ho))).app (TsAt.two (hr1.grown hgr (own_ty ho)) (hr2.grown hgr (own_ty ho)))
    | 9, ho =>
      obtain rfl := Option.some.inj ho
      intro D a w hM hsl hdep hDi hcl hpd K hK
      have e8 := (hdep ⟨8, .data⟩ (by simp) rfl).1
      refine ⟨rfl, ?_⟩
      refine wp_val (w' := w) (v := a.tmps.getD 91 undef) (by simp only [execOp, Act.eval]; rfl) ?_
      exact hK _ _ ⟨by rw [add1_ne (by decide)]; exact e8.1, e8.2⟩ (hM.step (Below.refl _ _) (by decide) (by decide) (by decide)) (BO12_mono W0.heap.size P C1 C2 T tv hDi (fun _ => (Gx.of (Below.refl _ _))))
    | _ + 10, ho => exact absurd ho (by simp)
  · intro D a u hall hd hs hM hsl hr
    obtain ⟨tm, df⟩ := a
    obtain rfl : df = [] := hd
    obtain ⟨-, hv⟩ := hr 9 (by decide)
    replace hv : TsV W0.heap.size (T ++ [txt P C1, txt P C2]) (tm.getD 21 undef) u := hv
    obtain ⟨tw, t21⟩ : ∃ v', tm.getD 21 undef = v' := ⟨_, rfl⟩
    rw [t21] at hv
    have t0 : tm.getD 0 undef = .int .i64 ((m : Nat) : Int) := hsl 0 (by intro j hj; unfold BO12d; split <;> omega)
    have t1 : tm.getD 1 undef = .int .i64 ((n : Nat) : Int) := hsl 1 (by intro j hj; unfold BO12d; split <;> omega)
    have t10 : tm.getD 10 undef = .pointer (some ⟨ga, 0, none⟩) := hsl 10 (by intro j hj; unfold BO12d; split <;> omega)
    have t11 : tm.getD 11 undef = .pointer (some ⟨gb, 0, none⟩) := hsl 11 (by intro j hj; unfold BO12d; split <;> omega)
    have t14 : tm.getD 14 undef = .pointer (some ⟨gl, 0, none⟩) := hsl 14 (by intro j hj; unfold BO12d; split <;> omega)
    have t19 : tm.getD 19 undef = .pointer (some ⟨gp, 0, none⟩) := hsl 19 (by intro j hj; unfold BO12d; split <;> omega)
    have t20 : tm.getD 20 undef = .pointer (some ⟨gq, 0, none⟩) := hsl 20 (by intro j hj; unfold BO12d; split <;> omega)
    have hra5 := hM.ra
    have hrb5 := hM.rb
    rw [stc_no] at hra5 hrb5
    have hP5 := hM.r1
    have hC15 := hM.r2
    have hC25 := hM.r3
    have hb05 := hM.bel
    replace hs : tm.size = 99 := hs
    have htm := tm_all tm (n := 99) hs
    obtain ⟨xx, hxx⟩ : ∃ x : Nat → Value, ∀ i, x i = tm.getD i undef := ⟨_, fun _ => rfl⟩
    replace htm : tm = ((.int .i64 ((m : Nat) : Int)) :: (.int .i64 ((n : Nat) : Int)) :: (xx 2) :: (xx 3) :: (xx 4) :: (xx 5) :: (xx 6) :: (xx 7) :: (xx 8) :: (xx 9) :: (.pointer (some ⟨ga, 0, none⟩)) :: (.pointer (some ⟨gb, 0, none⟩)) :: (xx 12) :: (xx 13) :: (.pointer (some ⟨gl, 0, none⟩)) :: (xx 15) :: (xx 16) :: (xx 17) :: (xx 18) :: (.pointer (some ⟨gp, 0, none⟩)) :: (.pointer (some ⟨gq, 0, none⟩)) :: tw :: (xx 22) :: (xx 23) :: (xx 24) :: (xx 25) :: (xx 26) :: (xx 27) :: (xx 28) :: (xx 29) :: (xx 30) :: (xx 31) :: (xx 32) :: (xx 33) :: (xx 34) :: (xx 35) :: (xx 36) :: (xx 37) :: (xx 38) :: (xx 39) :: (xx 40) :: (xx 41) :: (xx 42) :: (xx 43) :: (xx 44) :: (xx 45) :: (xx 46) :: (xx 47) :: (xx 48) :: (xx 49) :: (xx 50) :: (xx 51) :: (xx 52) :: (xx 53) :: (xx 54) :: (xx 55) :: (xx 56) :: (xx 57) :: (xx 58) :: (xx 59) :: (xx 60) :: (xx 61) :: (xx 62) :: (xx 63) :: (xx 64) :: (xx 65) :: (xx 66) :: (xx 67) :: (xx 68) :: (xx 69) :: (xx 70) :: (xx 71) :: (xx 72) :: (xx 73) :: (xx 74) :: (xx 75) :: (xx 76) :: (xx 77) :: (xx 78) :: (xx 79) :: (xx 80) :: (xx 81) :: (xx 82) :: (xx 83) :: (xx 84) :: (xx 85) :: (xx 86) :: (xx 87) :: (xx 88) :: (xx 89) :: (xx 90) :: (xx 91) :: (xx 92) :: (xx 93) :: (xx 94) :: (xx 95) :: (xx 96) :: (xx 97) :: (xx 98) :: []).toArray := by
      refine htm.trans ?_
      show ((tm.getD 0 undef) :: (tm.getD 1 undef) :: (tm.getD 2 undef) :: (tm.getD 3 undef) :: (tm.getD 4 undef) :: (tm.getD 5 undef) :: (tm.getD 6 undef) :: (tm.getD 7 undef) :: (tm.getD 8 undef) :: (tm.getD 9 undef) :: (tm.getD 10 undef) :: (tm.getD 11 undef) :: (tm.getD 12 undef) :: (tm.getD 13 undef) :: (tm.getD 14 undef) :: (tm.getD 15 undef) :: (tm.getD 16 undef) :: (tm.getD 17 undef) :: (tm.getD 18 undef) :: (tm.getD 19 undef) :: (tm.getD 20 undef) :: (tm.getD 21 undef) :: (tm.getD 22 undef) :: (tm.getD 23 undef) :: (tm.getD 24 undef) :: (tm.getD 25 undef) :: (tm.getD 26 undef) :: (tm.getD 27 undef) :: (tm.getD 28 undef) :: (tm.getD 29 undef) :: (tm.getD 30 undef) :: (tm.getD 31 undef) :: (tm.getD 32 undef) :: (tm.getD 33 undef) :: (tm.getD 34 undef) :: (tm.getD 35 undef) :: (tm.getD 36 undef) :: (tm.getD 37 undef) :: (tm.getD 38 undef) :: (tm.getD 39 undef) :: (tm.getD 40 undef) :: (tm.getD 41 undef) :: (tm.getD 42 undef) :: (tm.getD 43 undef) :: (tm.getD 44 undef) :: (tm.getD 45 undef) :: (tm.getD 46 undef) :: (tm.getD 47 undef) :: (tm.getD 48 undef) :: (tm.getD 49 undef) :: (tm.getD 50 undef) :: (tm.getD 51 undef) :: (tm.getD 52 undef) :: (tm.getD 53 undef) :: (tm.getD 54 undef) :: (tm.getD 55 undef) :: (tm.getD 56 undef) :: (tm.getD 57 undef) :: (tm.getD 58 undef) :: (tm.getD 59 undef) :: (tm.getD 60 undef) :: (tm.getD 61 undef) :: (tm.getD 62 undef) :: (tm.getD 63 undef) :: (tm.getD 64 undef) :: (tm.getD 65 undef) :: (tm.getD 66 undef) :: (tm.getD 67 undef) :: (tm.getD 68 undef) :: (tm.getD 69 undef) :: (tm.getD 70 undef) :: (tm.getD 71 undef) :: (tm.getD 72 undef) :: (tm.getD 73 undef) :: (tm.getD 74 undef) :: (tm.getD 75 undef) :: (tm.getD 76 undef) :: (tm.getD 77 undef) :: (tm.getD 78 undef) :: (tm.getD 79 undef) :: (tm.getD 80 undef) :: (tm.getD 81 undef) :: (tm.getD 82 undef) :: (tm.getD 83 undef) :: (tm.getD 84 undef) :: (tm.getD 85 undef) :: (tm.getD 86 undef) :: (tm.getD 87 undef) :: (tm.getD 88 undef) :: (tm.getD 89 undef) :: (tm.getD 90 undef) :: (tm.getD 91 undef) :: (tm.getD 92 undef) :: (tm.getD 93 undef) :: (tm.getD 94 undef) :: (tm.getD 95 undef) :: (tm.getD 96 undef) :: (tm.getD 97 undef) :: (tm.getD 98 undef) :: []).toArray = _
      rw [t0, t1, t10, t11, t14, t19, t20, t21]
      simp only [hxx]
    subst htm
    clear hxx hs hsl hr
    refine (‹∀ (a : Act) (w : World), Code.wp Tryd.prog _ _ a w → _›) _ u ?_
    clear hT1 hT2 hM hall hb04 hP4 hC1 hC2 hra4 hrb4 hts4 t0 t1 t10 t11 t14 t19 t20 t21
    go_upto_region 13 with fail
    refine wp_rel3 _ _ (BO13 P C1 C2 tw) (MB W0 gl gp gq ga gb P C1 C2 (nd P C1) (nd P C2) Z (T ++ [txt P C1, txt P C2]) tw 1000 7 8) BO13d (by kernel_rfl) (by kernel_rfl) 10 (by kernel_rfl) ?_ ?_ rfl (⟨hb05.drew, hP5, hC15, hC25, by rw [show stc 7 (nd P C1) Z (fun _ => false) = Z from rfl]; exact hra5, by rw [show stc 8 (nd P C2) Z (fun _ => false) = Z from rfl]; exact hrb5, fun _ => hv.later (Gx.of (Below.refl _ _).drew)⟩) ?_ ?_
    · intro ix o ho
      match ix, ho with
      | 0, ho => obtain rfl := Option.some.inj ho; exact .inl ⟨rfl, by show 92 < 99; decide⟩
      | 1, ho => obtain rfl := Option.some.inj ho; exact .inl ⟨rfl, by show 93 < 99; decide⟩
      | 2, ho => obtain rfl := Option.some.inj ho; exact .inl ⟨rfl, by show 94 < 99; decide⟩
      | 3, ho => obtain rfl := Option.some.inj ho; exact .inl ⟨rfl, by show 95 < 99; decide⟩
      | 4, ho => obtain rfl := Option.some.inj ho; exact .inl ⟨rfl, by show 96 < 99; decide⟩
      | 5, ho => obtain rfl := Option.some.inj ho; exact .inl ⟨rfl, by show 97 < 99; decide⟩
      | 6, ho => obtain rfl := Option.some.inj ho; exact .inl ⟨rfl, by show 98 < 99; decide⟩
      | 7, ho => obtain rfl := Option.some.inj ho; exact .inr ⟨⟨rfl, fun _ _ _ _ => trivial⟩, by show 99 ≤ 1007; decide⟩
      | 8, ho => obtain rfl := Option.some.inj ho; exact .inr ⟨⟨rfl, fun _ _ _ _ => trivial⟩, by show 99 ≤ 1008; decide⟩
      | 9, ho => obtain rfl := Option.some.inj ho; exact .inl ⟨rfl, by show 12 < 99; decide⟩
      | _ + 10, ho => exact absurd ho (by simp)
    · intro ix jx hi hj e; unfold BO13d at e; split at e <;> split at e <;> omega
    · intro ix o ho
      match ix, ho with
      | 0, ho =>
        obtain rfl := Option.some.inj ho
        intro D a w hM hsl hdep hDi hcl K hK
        have hp14 : a.tmps.getD 14 undef = .pointer (some ⟨gl, 0, none⟩) := hsl 14 (by intro j hj; unfold BO13d; split <;> omega)
        refine ⟨rfl, ?_⟩
        have hl := ldS (F := P) 34 w _ hM.r1
        refine wp_val (w' := w) (v := .agg (ab 32 P)) (by simp only [execOp, Act.eval]; rw [show a.tmps.getD 14 undef = _ from hp14]; simp only [Sem.run_bind, hl, Result.andThen_ok, Sem.run_pure]) ?_
        exact hK _ _ rfl (hM.step (Below.refl _ _) (by decide) (by decide) (by decide)) (BO13_mono P C1 C2 tw hDi ((Gx.of (Below.refl _ _))))
      | 1, ho =>
        obtain rfl := Option.some.inj ho
        intro D a w hM hsl hdep hDi hcl K hK
        have hp19 : a.tmps.getD 19 undef = .pointer (some ⟨gp, 0, none⟩) := hsl 19 (by intro j hj; unfold BO13d; split <;> omega)
        refine ⟨rfl, ?_⟩
        have hl := ldS (F := C1) 34 w _ hM.r2
        refine wp_val (w' := w) (v := .agg (ab 32 C1)) (by simp only [execOp, Act.eval]; rw [show a.tmps.getD 19 undef = _ from hp19]; simp only [Sem.run_bind, hl, Result.andThen_ok, Sem.run_pure]) ?_
        exact hK _ _ rfl (hM.step (Below.refl _ _) (by decide) (by decide) (by decide)) (BO13_mono P C1 C2 tw hDi ((Gx.of (Below.refl _ _))))
      | 2, ho =>
        obtain rfl := Option.some.inj ho
        intro D a w hM hsl hdep hDi hcl K hK
        have e0 := (hdep ⟨0, .data⟩ (by simp) rfl).1
        have e1 := (hdep ⟨1, .data⟩ (by simp) rfl).1
        refine ⟨rfl, ?_⟩
        refine oper_callg 44 #[.tmp 92, .tmp 93] _ rfl #[.agg (ab 32 P), .agg (ab 32 C1)] (by simp only [List.map_toArray, List.map_cons, List.map_nil, Act.eval]; rw [show a.tmps.getD 92 undef = _ from e0, show a.tmps.getD 93 undef = _ from e1]) (fun w => by kernel_rfl) (hN1 w) fun w' hb => ?_
        exact hK _ _ rfl (hM.step hb (by decide) (by decide) (by decide)) (BO13_mono P C1 C2 tw hDi ((Gx.of hb)))
      | 3, ho =>
        obtain rfl := Option.some.inj ho
        intro D a w hM hsl hdep hDi hcl K hK
        have hp14 : a.tmps.getD 14 undef = .pointer (some ⟨gl, 0, none⟩) := hsl 14 (by intro j hj; unfold BO13d; split <;> omega)
        refine ⟨rfl, ?_⟩
        have hl := ldS (F := P) 34 w _ hM.r1
        refine wp_val (w' := w) (v := .agg (ab 32 P)) (by simp only [execOp, Act.eval]; rw [show a.tmps.getD 14 undef = _ from hp14]; simp only [Sem.run_bind, hl, Result.andThen_ok, Sem.run_pure]) ?_
        exact hK _ _ rfl (hM.step (Below.refl _ _) (by decide) (by decide) (by decide)) (BO13_mono P C1 C2 tw hDi ((Gx.of (Below.refl _ _))))
      | 4, ho =>
        obtain rfl := Option.some.inj ho
        intro D a w hM hsl hdep hDi hcl K hK
        have hp20 : a.tmps.getD 20 undef = .pointer (some ⟨gq, 0, none⟩) := hsl 20 (by intro j hj; unfold BO13d; split <;> omega)
        refine ⟨rfl, ?_⟩
        have hl := ldS (F := C2) 34 w _ hM.r3
        refine wp_val (w' := w) (v := .agg (ab 32 C2)) (by simp only [execOp, Act.eval]; rw [show a.tmps.getD 20 undef = _ from hp20]; simp only [Sem.run_bind, hl, Result.andThen_ok, Sem.run_pure]) ?_
        exact hK _ _ rfl (hM.step (Below.refl _ _) (by decide) (by decide) (by decide)) (BO13_mono P C1 C2 tw hDi ((Gx.of (Below.refl _ _))))
      | 5, ho =>
        obtain rfl := Option.some.inj ho
        intro D a w hM hsl hdep hDi hcl K hK
        have e3 := (hdep ⟨3, .data⟩ (by simp) rfl).1
        have e4 := (hdep ⟨4, .data⟩ (by simp) rfl).1
        refine ⟨rfl, ?_⟩
        refine oper_callg 44 #[.tmp 95, .tmp 96] _ rfl #[.agg (ab 32 P), .agg (ab 32 C2)] (by simp only [List.map_toArray, List.map_cons, List.map_nil, Act.eval]; rw [show a.tmps.getD 95 undef = _ from e3, show a.tmps.getD 96 undef = _ from e4]) (fun w => by kernel_rfl) (hN2 w) fun w' hb => ?_
        exact hK _ _ rfl (hM.step hb (by decide) (by decide) (by decide)) (BO13_mono P C1 C2 tw hDi ((Gx.of hb)))
      | 6, ho =>
        obtain rfl := Option.some.inj ho
        intro D a w hM hsl hdep hDi hcl K hK
        have hp21 : a.tmps.getD 21 undef = tw := hsl 21 (by intro j hj; unfold BO13d; split <;> omega)
        refine ⟨rfl, ?_⟩
        refine wp_val (w' := w) (v := tw) (by simp only [execOp, Act.eval]; rw [show a.tmps.getD 21 undef = _ from hp21]; rfl) ?_
        exact hK _ _ rfl (hM.step (Below.refl _ _) (by decide) (by decide) (by decide)) (BO13_mono P C1 C2 tw hDi ((Gx.of (Below.refl _ _))))
      | 7, ho =>
        obtain rfl := Option.some.inj ho
        intro D a w hM hsl hdep hDi hcl K hK
        have e2 := (hdep ⟨2, .data⟩ (by simp) rfl).1
        have hp10 : a.tmps.getD 10 undef = .pointer (some ⟨ga, 0, none⟩) := hsl 10 (by intro j hj; unfold BO13d; split <;> omega)
        refine ⟨rfl, ?_⟩
        have hl := stS (F := (nd P C1)) 34 (stc_size hZs) w ga hM.ra
        refine wp_skp (w' := w.setRow ga (ab 32 (nd P C1))) (by simp only [execOp, Act.eval]; rw [show a.tmps.getD 10 undef = _ from hp10, show a.tmps.getD 94 undef = _ from e2]; simp only [Sem.run_bind, hl, Result.andThen_ok, Sem.run_pure]) ?_
        exact hK undef _ trivial (hM.stoA h0a h1a h2a h3a h4a (by decide) (by decide) (by decide)) (BO13_mono P C1 C2 tw hDi (Gx.row hM.ra))
      | 8, ho =>
        obtain rfl := Option.some.inj ho
        intro D a w hM hsl hdep hDi hcl K hK
        have e5 := (hdep ⟨5, .data⟩ (by simp) rfl).1
        have hp11 : a.tmps.getD 11 undef = .pointer (some ⟨gb, 0, none⟩) := hsl 11 (by intro j hj; unfold BO13d; split <;> omega)
        refine ⟨rfl, ?_⟩
        have hl := stS (F := (nd P C2)) 34 (stc_size hZs) w gb hM.rb
        refine wp_skp (w' := w.setRow gb (ab 32 (nd P C2))) (by simp only [execOp, Act.eval]; rw [show a.tmps.getD 11 undef = _ from hp11, show a.tmps.getD 97 undef = _ from e5]; simp only [Sem.run_bind, hl, Result.andThen_ok, Sem.run_pure]) ?_
        exact hK undef _ trivial (hM.stoB h0b h1b h2b h3b h4b (by decide) (by decide) (by decide)) (BO13_mono P C1 C2 tw hDi (Gx.row hM.rb))
      | 9, ho =>
        obtain rfl := Option.some.inj ho
        intro D a w hM hsl hdep hDi hcl K hK
        have e6 := (hdep ⟨6, .data⟩ (by simp) rfl).1
        refine ⟨rfl, ?_⟩
        refine wp_val (w' := w) (v := tw) (by simp only [execOp, Act.eval]; rw [show a.tmps.getD 98 undef = _ from e6]; rfl) ?_
        exact hK _ _ rfl (hM.step (Below.refl _ _) (by decide) (by decide) (by decide)) (BO13_mono P C1 C2 tw hDi ((Gx.of (Below.refl _ _))))
      | _ + 10, ho => exact absurd ho (by simp)
    · intro D a u hall hd hs hM hsl hr
      have hw : a.tmps.getD 12 undef = tw := hr 9 (by decide)
      have hvw := hM.ts (fun h => absurd h (by decide))
      have hs10 : a.tmps.getD 10 undef = .pointer (some ⟨ga, 0, none⟩) := hsl 10 (by intro j hj; unfold BO13d; split <;> omega)
      have hs11 : a.tmps.getD 11 undef = .pointer (some ⟨gb, 0, none⟩) := hsl 11 (by intro j hj; unfold BO13d; split <;> omega)
      have hra := hM.ra
      have hrb := hM.rb
      rw [stc_on (by decide) (hall 7 (by decide))] at hra
      rw [stc_on (by decide) (hall 8 (by decide))] at hrb
      refine (‹∀ (a : Act) (w : World), Code.wp Tryd.prog Code.ret _ a w → _›) a u ?_
      refine wp_ret ?_
      exact s_raw3 hd hs10 hs11 hw Tryd.results46 (sum_sz _) (sum_sz _) hra hrb ⟨_, rfl, hvw, hM.bel⟩
end Go.Proofs.YtgnmnoadfjdjdaaDoor

namespace Go.Proofs.YtgnmnoadfjdjdaaDoor
open Go.RowKit Go.Maps Sh

theorem ldR {c : Cu} {b : Bool} (hb : c.r = b) (t0 : TypeId) (w : World) (q : Nat) (h : w.heap[q]? = some (.cells (cvA c) t0 (0, 0))) : (Instr.loadAt 4 (.pointer (some ⟨q, 3, none⟩))).run Tryd.prog w = .ok (.bool b) w := by
  have hc : w.cell? ⟨q, 3, none⟩ = some (.bool b) := by rw [cell_of_row _ _ _ _ _ _ h, ← hb]; rfl
  simp [Instr.loadAt, go_sem, hc]
theorem gt_i {x u : Operand} {m n : Int} {b : Bool} (h : decide (n < m) = b) (w : World) : (do eqGuard .gtr 3 x u (.int .i64 m) (.int .i64 n); binOp .gtr 3 (.int .i64 m) (.int .i64 n)).run Tryd.prog w = .ok (.bool b) w := by
  subst h; simp [eqGuard, binOp, go_sem]
theorem fst_stepG {cs : List Cu} {ps : List (Nat → Nat)} {F : Nat → Nat} {N k : Nat} (lc : cs.length = N) (lp : ps.length = N) (hk : k < N) : firstL (cs.take (k + 1)) (ps.take (k + 1)) F = if (cs.getD k default).r then jn (cs.getD k default).r (firstL (cs.take k) (ps.take k) F) (ps.getD k fun _ => 0) else firstL (cs.take k) (ps.take k) F := by
  rw [List.take_succ_eq_append_getElem (by omega), List.take_succ_eq_append_getElem (l := ps) (by omega), firstL_snoc _ _ _ _ _ (by rw [List.length_take, List.length_take]; omega)]
  simp [List.getD_eq_getElem?_getD, show k < cs.length by omega, show k < ps.length by omega]
theorem fst_t {cs : List Cu} {ps : List (Nat → Nat)} {F : Nat → Nat} {N k : Nat} (lc : cs.length = N) (lp : ps.length = N) (hk : k < N) (hcr : (cs.getD k default).r = true) : jn (cs.getD k default).r (firstL (cs.take k) (ps.take k) F) (ps.getD k fun _ => 0) = firstL (cs.take (k + 1)) (ps.take (k + 1)) F := by
  rw [fst_stepG lc lp hk, if_pos hcr]
theorem fst_f {cs : List Cu} {ps : List (Nat → Nat)} {F : Nat → Nat} {N k : Nat} (lc : cs.length = N) (lp : ps.length = N) (hk : k < N) (hcr : (cs.getD k default).r = false) : firstL (cs.take k) (ps.take k) F = firstL (cs.take (k + 1)) (ps.take (k + 1)) F := by
  rw [fst_stepG lc lp hk, if_neg (by rw [hcr]; decide)]
theorem sl_one {b off n cap : Nat} (hn : 1 ≤ n) (hc : n ≤ cap) : ∃ ad, (∀ w, (Instr.sliceAt 22 (.slice (some ⟨b, off, none⟩) n cap) (some (.int .i64 ((1 : Nat) : Int))) none none).run Tryd.prog w = .ok (.slice ad (n - 1) (cap - 1)) w) ∧ ∀ (w : World) (ps : List (Nat → Nat)), ps.length = n → SsAt w (some ⟨b, off, none⟩) ps → SsAt w ad (ps.drop 1) := by
  have h1 : (1 : Int) ≤ (n : Int) := by omega
  by_cases h : cap = 1
  · refine ⟨some ⟨b, off, none⟩, fun w => by subst h; simp [Instr.sliceAt, go_sem, h1], fun w ps hl hs => ⟨fun F hF => hs.1 F (List.mem_of_mem_drop hF), fun h2 => ?_⟩⟩
    rw [List.length_drop] at h2; omega
  · exact ⟨some ⟨b, off + 32 * 1, none⟩, fun w => by simp [Instr.sliceAt, go_sem, h1, h], fun w ps _ hs => hs.hi⟩
end Go.Proofs.YtgnmnoadfjdjdaaDoor

namespace Go.Proofs.YtgnmnoadfjdjdaaDoor
open Go.RowKit Go.Maps Sh
set_option maxHeartbeats 8000000 in
set_option maxRecDepth 100000 in
theorem ext0_len {m n N M c1 s qb qo : Nat} {ad : Option Addr} {cs : List Cu} {ps : List (Nat → Nat)} {O R : Nat → Nat} {W0 : World} (hg : Gl W0) (hm1 : 1 ≤ m) (hmn : m ≤ n) (hn : n ≤ 1048576) (_hF : ∀ i, O i < 256) (_hpl : ∀ P ∈ ps, ∀ j, P j < 256) (lc : cs.length = N) (_lp : ps.length = M) (hN : N ≤ 1048576) (hs : s = 0)  (_ea : 0 < M → ad = some ⟨qb, qo, none⟩) (hps0 : ∀ w, KW (wd W0) w → SsAt w ad ps) (hst : ∀ g w, Bx w g 3 (.int .i64 ((m : Nat) : Int)) → Bx w (g + 1) 3 (.int .i64 ((n : Nat) : Int)) → Calls Tryd.prog 35 #[.func (.func 57) #[] #[.pointer (some ⟨g, 0, none⟩), .pointer (some ⟨g + 1, 0, none⟩)]] w fun e w' => e = .returned (.int .i64 ((s : Nat) : Int)) ∧ Below w.heap.size w w') (hup0 : ∀ g w, Bx w g 3 (.int .i64 ((m : Nat) : Int)) → Bx w (g + 1) 3 (.int .i64 ((n : Nat) : Int)) → Calls Tryd.prog 40 #[.func (.func 57) #[] #[.pointer (some ⟨g, 0, none⟩), .pointer (some ⟨g + 1, 0, none⟩)]] w fun e W' => ∃ a cap, e = .returned (.slice a N cap) ∧ N ≤ cap ∧ CsAt W' a cs ∧ (∀ p, 0 < N → a = some p → w.heap.size ≤ p.block) ∧ Below w.heap.size w W') (hNM : M ≠ N) :
    Calls Tryd.prog 14 #[.int .i64 ((m : Nat) : Int), .int .i64 ((n : Nat) : Int), .agg (ab 32 O), .agg (ab 32 R), .slice ad M c1] W0 fun e w' => e = .returned (.bool false) ∧ Below W0.heap.size W0 w' := by
  refine s_in Tryd.func14 Tryd.ntmps14 rfl [.inl (.int .i64 ((m : Nat) : Int)), .inl (.int .i64 ((n : Nat) : Int)), .inl (.agg (ab 32 O)), .inl (.agg (ab 32 R)), .inl (.slice ad M c1)] ?_
  intro β a h
  refine sym_seq ?_
  refine St.rg h [(7, .inr (0, pt 0)), (8, .inr (1, pt 0)), (10, .inl (.bool false))] [(ab 32 O, 34), (ab 32 R, 34)] [] [eN 0, eN 1] ?_ ?_
  · exact oc (k_bx 0 (.agg (ab 32 O)) (bx_agg (P := Tryd.prog)) rfl rfl) <|
    oc (k_bx 1 (.agg (ab 32 R)) (bx_agg (P := Tryd.prog)) rfl rfl) <|
    oz (k_mv (.inr rfl) rfl) <|
    ok_nil
  clear h; intro β a w h
  refine sym_then ?_
  refine sym_seq ?_
  refine sym_seq ?_
  refine St.r0 h [(18, .inl (.int .i64 ((n : Nat) : Int))), (19, .inl (.bool false)), (20, .inl (.bool false)), (21, .inl (.int .i64 ((n : Nat) : Int))), (22, .inl (.bool false)), (23, .inl (.bool false)), (24, .inl (.bool false)), (25, .inl (.int .i64 ((m : Nat) : Int))), (26, .inl (.bool false)), (27, .inl (.bool false)), (28, .inl (.bool false)), (29, .inl (.int .i64 ((m : Nat) : Int))), (30, .inl (.int .i64 ((n : Nat) : Int))), (31, .inl (.bool false)), (32, .inl (.bool false))] [] ?_ ?_
  · exact oz (k_mv (.inl rfl) rfl) <|
    oz (k_bi (.int .i64 ((n : Nat) : Int)) (.int .i64 ((1 : Nat) : Int)) (.bool false) (lt_i (m := ((n : Nat) : Int)) (n := ((1 : Nat) : Int)) (decide_eq_false (by omega))) rfl rfl) <|
    oz (k_mv (.inl rfl) rfl) <|
    oz (k_mv (.inl rfl) rfl) <|
    oz (k_bi (.int .i64 ((n : Nat) : Int)) (.int .i64 ((1048576 : Nat) : Int)) (.bool false) (gt_i (m := ((n : Nat) : Int)) (n := ((1048576 : Nat) : Int)) (decide_eq_false (by omega))) rfl rfl) <|
    oz (k_pf rfl rfl) <|
    oz (k_mv (.inl rfl) rfl) <|
    oz (k_mv (.inl rfl) rfl) <|
    oz (k_bi (.int .i64 ((m : Nat) : Int)) (.int .i64 ((1 : Nat) : Int)) (.bool false) (lt_i (m := ((m : Nat) : Int)) (n := ((1 : Nat) : Int)) (decide_eq_false (by omega))) rfl rfl) <|
    oz (k_pf rfl rfl) <|
    oz (k_mv (.inl rfl) rfl) <|
    oz (k_mv (.inl rfl) rfl) <|
    oz (k_mv (.inl rfl) rfl) <|
    oz (k_bi (.int .i64 ((m : Nat) : Int)) (.int .i64 ((n : Nat) : Int)) (.bool false) (gt_i (m := ((m : Nat) : Int)) (n := ((n : Nat) : Int)) (decide_eq_false (by omega))) rfl rfl) <|
    oz (k_pf rfl rfl) <|
    ok_nil
  clear h; intro β a w h
  refine sym_then ?_
  refine s_cf h ?_
  refine wp_skip ?_
  refine sym_then ?_
  refine sym_seq ?_
  replace h := St.cs h (s' := [.inl (.int .i64 ((m : Nat) : Int)), .inl (.int .i64 ((n : Nat) : Int)), .inl (.agg (ab 32 O)), .inl (.agg (ab 32 R)), .inl (.slice ad M c1), uu, uu, .inr (0, pt 0), .inr (1, pt 0), uu, .inl (.bool false), uu, uu, uu, uu, uu, uu, uu, .inl (.int .i64 ((n : Nat) : Int)), .inl (.bool false), .inl (.bool false), .inl (.int .i64 ((n : Nat) : Int)), .inl (.bool false), .inl (.bool false), .inl (.bool false), .inl (.int .i64 ((m : Nat) : Int)), .inl (.bool false), .inl (.bool false), .inl (.bool false), .inl (.int .i64 ((m : Nat) : Int)), .inl (.int .i64 ((n : Nat) : Int)), .inl (.bool false), .inl (.bool false), uu, uu, uu, uu, uu, uu, uu, uu, uu, uu, uu, uu, uu, uu, uu, uu, uu, uu, uu, uu, uu, uu, uu, uu, uu, uu, uu, uu, uu, uu, uu, uu, uu, uu, uu, uu, uu, uu, uu, uu, uu, uu, uu, uu, uu, uu, uu, uu, uu, uu, uu, uu, uu, uu, uu, uu]) (m' := [(ab 32 O, 34), (ab 32 R, 34)]) (by kernel_rfl) (by kernel_rfl)
  obtain rfl : a = { tmps := (.int .i64 ((m : Nat) : Int) :: .int .i64 ((n : Nat) : Int) :: .agg (ab 32 O) :: .agg (ab 32 R) :: .slice ad M c1 :: undef :: undef :: fv (pt 0) (β 0) :: fv (pt 0) (β 1) :: undef :: .bool false :: undef :: undef :: undef :: undef :: undef :: undef :: undef :: .int .i64 ((n : Nat) : Int) :: .bool false :: .bool false :: .int .i64 ((n : Nat) : Int) :: .bool false :: .bool false :: .bool false :: .int .i64 ((m : Nat) : Int) :: .bool false :: .bool false :: .bool false :: .int .i64 ((m : Nat) : Int) :: .int .i64 ((n : Nat) : Int) :: .bool false :: .bool false :: undef :: undef :: undef :: undef :: undef :: undef :: undef :: undef :: undef :: undef :: undef :: undef :: undef :: undef :: undef :: undef :: undef :: undef :: undef :: undef :: undef :: undef :: undef :: undef :: undef :: undef :: undef :: undef :: undef :: undef :: undef :: undef :: undef :: undef :: undef :: undef :: undef :: undef :: undef :: undef :: undef :: undef :: undef :: undef :: undef :: undef :: undef :: undef :: undef :: undef :: undef :: undef :: undef :: undef :: undef :: undef :: []).toArray, defers := [] } := h.tm.trans (by kernel_rfl)
  obtain ⟨q1, q2, q3, q4⟩ := cuts_two (w := w) m n
  have hH := hide1 h
  have hz := q3.size
  clear h
  refine reg_gen fun QQ hQQ => ?_
  go_wp2_with fail
  refine (ahead_d _ _ _).mono ?_
  rintro e w' ⟨rfl, rfl⟩
  go_wp2_with fail
  refine hQQ.out _ _ ?_
  clear hQQ QQ
  refine go_base hH.out ((.inl (.int .i64 ((m : Nat) : Int))) :: (.inl (.int .i64 ((n : Nat) : Int))) :: (.inl (.agg (ab 32 O))) :: (.inl (.agg (ab 32 R))) :: (.inl (.slice ad M c1)) :: uu :: uu :: (.inr (0, pt 0)) :: (.inr (1, pt 0)) :: uu :: (.inl (.bool false)) :: (.inl (.func (.func 57) #[] #[.pointer (some ⟨w.heap.size, 0, none⟩), .pointer (some ⟨w.heap.size + 1, 0, none⟩)])) :: uu :: uu :: uu :: uu :: uu :: uu :: (.inl (.int .i64 ((n : Nat) : Int))) :: (.inl (.bool false)) :: (.inl (.bool false)) :: (.inl (.int .i64 ((n : Nat) : Int))) :: (.inl (.bool false)) :: (.inl (.bool false)) :: (.inl (.bool false)) :: (.inl (.int .i64 ((m : Nat) : Int))) :: (.inl (.bool false)) :: (.inl (.bool false)) :: (.inl (.bool false)) :: (.inl (.int .i64 ((m : Nat) : Int))) :: (.inl (.int .i64 ((n : Nat) : Int))) :: (.inl (.bool false)) :: (.inl (.bool false)) :: (.inl (.int .i64 ((m : Nat) : Int))) :: (.inl (.int .i64 ((n : Nat) : Int))) :: (.inl (.func (.func 57) #[] #[.pointer (some ⟨w.heap.size, 0, none⟩), .pointer (some ⟨w.heap.size + 1, 0, none⟩)])) :: uu :: uu :: uu :: uu :: uu :: uu :: uu :: uu :: uu :: uu :: uu :: uu :: uu :: uu :: uu :: uu :: uu :: uu :: uu :: uu :: uu :: uu :: uu :: uu :: uu :: uu :: uu :: uu :: uu :: uu :: uu :: uu :: uu :: uu :: uu :: uu :: uu :: uu :: uu :: uu :: uu :: uu :: uu :: uu :: uu :: uu :: uu :: uu :: uu :: uu :: uu :: uu :: uu :: []) q3 ?_ (by kernel_rfl)
  rintro W1b a n5 hn5 hk1b hfar h
  have hsq : ∀ v, KW W1b v → Bx v w.heap.size 3 (.int .i64 ((m : Nat) : Int)) ∧ Bx v (w.heap.size + 1) 3 (.int .i64 ((n : Nat) : Int)) := fun v hv => ⟨(hfar v hv w.heap.size (by omega) (by omega)).trans q1, (hfar v hv (w.heap.size + 1) (by omega) (by omega)).trans q2⟩
  clear hH q1 q2 q3 q4 hz hfar hn5
  generalize w.heap.size = n6 at *
  replace h := h.o0
  refine sym_then ?_
  refine sym_seq ?_
  refine St.rg h [(36, .inl (.agg (ab 32 O))), (12, .inr (2, pt 0))] [(ab 32 (fun _ => 0), 34)] [(2, ab 32 O)] [eR 0, eN 2, eS 2] ?_ ?_
  · exact oc (k_ld 0 0 (.agg (ab 32 O)) (c := ab 32 O) (ldS (F := O) 34) rfl rfl) <|
    oc (k_al 2 alS rfl rfl) <|
    oc (k_st 2 0 (.agg (ab 32 O)) (c := ab 32 (fun _ => 0)) (n := ab 32 O) (stS (F := O) (c := ab 32 (fun _ => 0)) 34 (ab_size _ _)) rfl rfl) <|
    ok_nil
  clear h; intro β a w h
  refine sym_then ?_
  refine sym_seq ?_
  refine sym_seq ?_
  refine St.r0 h [(37, .inl (.func (.func 57) #[] #[.pointer (some ⟨n6, 0, none⟩), .pointer (some ⟨n6 + 1, 0, none⟩)])), (38, .inl (.int .i64 ((s : Nat) : Int))), (39, .inl (.bool false))] [] ?_ ?_
  · exact oz (k_mv (.inl rfl) rfl) <|
    oz (k_cw 35 #[.func (.func 57) #[] #[.pointer (some ⟨n6, 0, none⟩), .pointer (some ⟨n6 + 1, 0, none⟩)]] (.int .i64 ((s : Nat) : Int)) (fun w hw => hst n6 w (hsq w hw).1 (hsq w hw).2) rfl rfl) <|
    oz (k_bi (.int .i64 ((s : Nat) : Int)) (.int .i64 ((0 : Nat) : Int)) (.bool false) (gt_i (m := ((s : Nat) : Int)) (n := ((0 : Nat) : Int)) (decide_eq_false (by omega))) rfl rfl) <|
    ok_nil
  clear h; intro β a w h
  refine sym_then ?_
  refine s_cf h ?_
  refine wp_skip ?_
  refine sym_then ?_
  refine sym_seq ?_
  replace h := St.cs h (s' := [.inl (.int .i64 ((m : Nat) : Int)), .inl (.int .i64 ((n : Nat) : Int)), .inl (.agg (ab 32 O)), .inl (.agg (ab 32 R)), .inl (.slice ad M c1), uu, uu, .inr (0, pt 0), .inr (1, pt 0), uu, .inl (.bool false), .inl (.func (.func 57) #[] #[.pointer (some ⟨n6, 0, none⟩), .pointer (some ⟨n6 + 1, 0, none⟩)]), .inr (2, pt 0), uu, uu, uu, uu, uu, .inl (.int .i64 ((n : Nat) : Int)), .inl (.bool false), .inl (.bool false), .inl (.int .i64 ((n : Nat) : Int)), .inl (.bool false), .inl (.bool false), .inl (.bool false), .inl (.int .i64 ((m : Nat) : Int)), .inl (.bool false), .inl (.bool false), .inl (.bool false), .inl (.int .i64 ((m : Nat) : Int)), .inl (.int .i64 ((n : Nat) : Int)), .inl (.bool false), .inl (.bool false), .inl (.int .i64 ((m : Nat) : Int)), .inl (.int .i64 ((n : Nat) : Int)), .inl (.func (.func 57) #[] #[.pointer (some ⟨n6, 0, none⟩), .pointer (some ⟨n6 + 1, 0, none⟩)]), .inl (.agg (ab 32 O)), .inl (.func (.func 57) #[] #[.pointer (some ⟨n6, 0, none⟩), .pointer (some ⟨n6 + 1, 0, none⟩)]), .inl (.int .i64 ((s : Nat) : Int)), .inl (.bool false), uu, uu, uu, uu, uu, uu, uu, uu, uu, uu, uu, uu, uu, uu, uu, uu, uu, uu, uu, uu, uu, uu, uu, uu, uu, uu, uu, uu, uu, uu, uu, uu, uu, uu, uu, uu, uu, uu, uu, uu, uu, uu, uu, uu, uu, uu, uu, uu, uu]) (m' := [(ab 32 O, 34), (ab 32 R, 34), (ab 32 O, 34)]) (by kernel_rfl) (by kernel_rfl)
  obtain rfl : a = { tmps := (.int .i64 ((m : Nat) : Int) :: .int .i64 ((n : Nat) : Int) :: .agg (ab 32 O) :: .agg (ab 32 R) :: .slice ad M c1 :: undef :: undef :: fv (pt 0) (β 0) :: fv (pt 0) (β 1) :: undef :: .bool false :: .func (.func 57) #[] #[.pointer (some ⟨n6, 0, none⟩), .pointer (some ⟨n6 + 1, 0, none⟩)] :: fv (pt 0) (β 2) :: undef :: undef :: undef :: undef :: undef :: .int .i64 ((n : Nat) : Int) :: .bool false :: .bool false :: .int .i64 ((n : Nat) : Int) :: .bool false :: .bool false :: .bool false :: .int .i64 ((m : Nat) : Int) :: .bool false :: .bool false :: .bool false :: .int .i64 ((m : Nat) : Int) :: .int .i64 ((n : Nat) : Int) :: .bool false :: .bool false :: .int .i64 ((m : Nat) : Int) :: .int .i64 ((n : Nat) : Int) :: .func (.func 57) #[] #[.pointer (some ⟨n6, 0, none⟩), .pointer (some ⟨n6 + 1, 0, none⟩)] :: .agg (ab 32 O) :: .func (.func 57) #[] #[.pointer (some ⟨n6, 0, none⟩), .pointer (some ⟨n6 + 1, 0, none⟩)] :: .int .i64 ((s : Nat) : Int) :: .bool false :: undef :: undef :: undef :: undef :: undef :: undef :: undef :: undef :: undef :: undef :: undef :: undef :: undef :: undef :: undef :: undef :: undef :: undef :: undef :: undef :: undef :: undef :: undef :: undef :: undef :: undef :: undef :: undef :: undef :: undef :: undef :: undef :: undef :: undef :: undef :: undef :: undef :: undef :: undef :: undef :: undef :: undef :: undef :: undef :: undef :: undef :: undef :: undef :: undef :: []).toArray, defers := [] } := h.tm.trans (by kernel_rfl)
  have hup := hup0 n6 w (hsq w h.bel).1 (hsq w h.bel).2
  have hH := hide1 h
  have hsH := hide1 hs
  clear h hs
  refine reg_gen fun QQ hQQ => ?_
  go_wp2_with fail
  refine hup.mono ?_
  rintro e w5 ⟨ca, cp, rfl, hcp, hcs0, hbl, hb5⟩
  clear hup
  go_wp2_with fail
  refine hQQ.out _ _ ?_
  clear hQQ QQ
  refine go_base hH.out ((.inl (.int .i64 ((m : Nat) : Int))) :: (.inl (.int .i64 ((n : Nat) : Int))) :: (.inl (.agg (ab 32 O))) :: (.inl (.agg (ab 32 R))) :: (.inl (.slice ad M c1)) :: uu :: uu :: (.inr (0, pt 0)) :: (.inr (1, pt 0)) :: uu :: (.inl (.bool false)) :: (.inl (.func (.func 57) #[] #[.pointer (some ⟨n6, 0, none⟩), .pointer (some ⟨n6 + 1, 0, none⟩)])) :: (.inr (2, pt 0)) :: (.inl (.slice ca N cp)) :: uu :: uu :: uu :: uu :: (.inl (.int .i64 ((n : Nat) : Int))) :: (.inl (.bool false)) :: (.inl (.bool false)) :: (.inl (.int .i64 ((n : Nat) : Int))) :: (.inl (.bool false)) :: (.inl (.bool false)) :: (.inl (.bool false)) :: (.inl (.int .i64 ((m : Nat) : Int))) :: (.inl (.bool false)) :: (.inl (.bool false)) :: (.inl (.bool false)) :: (.inl (.int .i64 ((m : Nat) : Int))) :: (.inl (.int .i64 ((n : Nat) : Int))) :: (.inl (.bool false)) :: (.inl (.bool false)) :: (.inl (.int .i64 ((m : Nat) : Int))) :: (.inl (.int .i64 ((n : Nat) : Int))) :: (.inl (.func (.func 57) #[] #[.pointer (some ⟨n6, 0, none⟩), .pointer (some ⟨n6 + 1, 0, none⟩)])) :: (.inl (.agg (ab 32 O))) :: (.inl (.func (.func 57) #[] #[.pointer (some ⟨n6, 0, none⟩), .pointer (some ⟨n6 + 1, 0, none⟩)])) :: (.inl (.int .i64 ((s : Nat) : Int))) :: (.inl (.bool false)) :: uu :: uu :: uu :: uu :: uu :: uu :: uu :: uu :: (.inl (.func (.func 57) #[] #[.pointer (some ⟨n6, 0, none⟩), .pointer (some ⟨n6 + 1, 0, none⟩)])) :: (.inl (.slice ca N cp)) :: uu :: uu :: uu :: uu :: uu :: uu :: uu :: uu :: uu :: uu :: uu :: uu :: uu :: uu :: uu :: uu :: uu :: uu :: uu :: uu :: uu :: uu :: uu :: uu :: uu :: uu :: uu :: uu :: uu :: uu :: uu :: uu :: uu :: uu :: uu :: uu :: uu :: uu :: uu :: []) hb5 ?_ (by kernel_rfl)
  rintro W2b a n8 hn8 hk2b hfar h
  have hcs : ∀ v, KW W2b v → CsAt v ca cs := fun v hv => hcs0.far (n := n8) (fun p h1 h2 => by have := hbl p (by omega) h2; omega) (hfar v hv)
  have hps : ∀ v, KW W2b v → SsAt v ad ps := fun v hv => hps0 v (hk1b.kw v (hk2b.kw v hv))
  have hgl : ∀ v, KW W2b v → Gl v := fun v hv => gl_b hg (KW.below (hk1b.kw v (hk2b.kw v hv)))
  obtain ⟨cb, ec⟩ : ∃ cb, 0 < N → ca = some ⟨cb, 0, none⟩ := cs_ad (hcs _ h.bel) lc
  have hs := hsH.out
  clear hfar hcs0 hbl hcp hH hb5 hn8 hsH
  generalize ca = cav at *
  replace h := h.o0
  refine sym_then ?_
  refine sym_seq ?_
  refine sym_seq ?_
  refine St.r0 h [(50, .inl (.slice cav N cp)), (51, .inl (.int .i64 ((N : Nat) : Int))), (52, .inl (.slice ad M c1)), (53, .inl (.int .i64 ((M : Nat) : Int))), (54, .inl (.bool true))] [] ?_ ?_
  · exact oz (k_mv (.inl rfl) rfl) <|
    oz (k_ln (ad := cav) N cp rfl rfl (fun w => len_cs _ w)) <|
    oz (k_mv (.inl rfl) rfl) <|
    oz (k_ln (ad := ad) M c1 rfl rfl (fun w => len_ss _ w)) <|
    oz (k_bi (.int .i64 ((N : Nat) : Int)) (.int .i64 ((M : Nat) : Int)) (.bool true) (ne_i (m := ((N : Nat) : Int)) (n := ((M : Nat) : Int)) (decide_eq_true (by omega))) rfl rfl) <|
    ok_nil
  clear h; intro β a w h
  refine sym_then ?_
  refine s_ct h ?_
  refine sym_seq ?_
  refine St.r0 h [] [] ?_ ?_
  · exact oz (k_mv (.inr rfl) rfl) <|
    ok_nil
  clear h; intro β a w h
  refine sym_then ?_
  refine wp_ret ?_
  refine then_ret ?_
  replace h := h.unb hk2b
  replace h := h.unb hk1b
  exact s_rt h Tryd.results14 (fun hb => ⟨rfl, hb⟩)
set_option maxHeartbeats 8000000 in
set_option maxRecDepth 100000 in
theorem ext0_f {m n N c1 s qb qo : Nat} {ad : Option Addr} {cs : List Cu} {ps : List (Nat → Nat)} {O R : Nat → Nat} {W0 : World} (hg : Gl W0) (hm1 : 1 ≤ m) (hmn : m ≤ n) (hn : n ≤ 1048576) (hF : ∀ i, O i < 256) (hpl : ∀ P ∈ ps, ∀ j, P j < 256) (lc : cs.length = N) (lp : ps.length = N) (hN : N ≤ 1048576) (hs : s = 0)  (ea : 0 < N → ad = some ⟨qb, qo, none⟩) (hps0 : ∀ w, KW (wd W0) w → SsAt w ad ps) (hst : ∀ g w, Bx w g 3 (.int .i64 ((m : Nat) : Int)) → Bx w (g + 1) 3 (.int .i64 ((n : Nat) : Int)) → Calls Tryd.prog 35 #[.func (.func 57) #[] #[.pointer (some ⟨g, 0, none⟩), .pointer (some ⟨g + 1, 0, none⟩)]] w fun e w' => e = .returned (.int .i64 ((s : Nat) : Int)) ∧ Below w.heap.size w w') (hup0 : ∀ g w, Bx w g 3 (.int .i64 ((m : Nat) : Int)) → Bx w (g + 1) 3 (.int .i64 ((n : Nat) : Int)) → Calls Tryd.prog 40 #[.func (.func 57) #[] #[.pointer (some ⟨g, 0, none⟩), .pointer (some ⟨g + 1, 0, none⟩)]] w fun e W' => ∃ a cap, e = .returned (.slice a N cap) ∧ N ≤ cap ∧ CsAt W' a cs ∧ (∀ p, 0 < N → a = some p → w.heap.size ≤ p.block) ∧ Below w.heap.size w W') (hb1 : eqD (firstL (cs.take N) (ps.take N) O) O = false) :
    Calls Tryd.prog 14 #[.int .i64 ((m : Nat) : Int), .int .i64 ((n : Nat) : Int), .agg (ab 32 O), .agg (ab 32 R), .slice ad N c1] W0 fun e w' => e = .returned (.bool false) ∧ Below W0.heap.size W0 w' := by
  refine s_in Tryd.func14 Tryd.ntmps14 rfl [.inl (.int .i64 ((m : Nat) : Int)), .inl (.int .i64 ((n : Nat) : Int)), .inl (.agg (ab 32 O)), .inl (.agg (ab 32 R)), .inl (.slice ad N c1)] ?_
  intro β a h
  refine sym_seq ?_
  refine St.rg h [(7, .inr (0, pt 0)), (8, .inr (1, pt 0)), (10, .inl (.bool false))] [(ab 32 O, 34), (ab 32 R, 34)] [] [eN 0, eN 1] ?_ ?_
  · exact oc (k_bx 0 (.agg (ab 32 O)) (bx_agg (P := Tryd.prog)) rfl rfl) <|
    oc (k_bx 1 (.agg (ab 32 R)) (bx_agg (P := Tryd.prog)) rfl rfl) <|
    oz (k_mv (.inr rfl) rfl) <|
    ok_nil
  clear h; intro β a w h
  refine sym_then ?_
  refine sym_seq ?_
  refine sym_seq ?_
  refine St.r0 h [(18, .inl (.int .i64 ((n : Nat) : Int))), (19, .inl (.bool false)), (20, .inl (.bool false)), (21, .inl (.int .i64 ((n : Nat) : Int))), (22, .inl (.bool false)), (23, .inl (.bool false)), (24, .inl (.bool false)), (25, .inl (.int .i64 ((m : Nat) : Int))), (26, .inl (.bool false)), (27, .inl (.bool false)), (28, .inl (.bool false)), (29, .inl (.int .i64 ((m : Nat) : Int))), (30, .inl (.int .i64 ((n : Nat) : Int))), (31, .inl (.bool false)), (32, .inl (.bool false))] [] ?_ ?_
  · exact oz (k_mv (.inl rfl) rfl) <|
    oz (k_bi (.int .i64 ((n : Nat) : Int)) (.int .i64 ((1 : Nat) : Int)) (.bool false) (lt_i (m := ((n : Nat) : Int)) (n := ((1 : Nat) : Int)) (decide_eq_false (by omega))) rfl rfl) <|
    oz (k_mv (.inl rfl) rfl) <|
    oz (k_mv (.inl rfl) rfl) <|
    oz (k_bi (.int .i64 ((n : Nat) : Int)) (.int .i64 ((1048576 : Nat) : Int)) (.bool false) (gt_i (m := ((n : Nat) : Int)) (n := ((1048576 : Nat) : Int)) (decide_eq_false (by omega))) rfl rfl) <|
    oz (k_pf rfl rfl) <|
    oz (k_mv (.inl rfl) rfl) <|
    oz (k_mv (.inl rfl) rfl) <|
    oz (k_bi (.int .i64 ((m : Nat) : Int)) (.int .i64 ((1 : Nat) : Int)) (.bool false) (lt_i (m := ((m : Nat) : Int)) (n := ((1 : Nat) : Int)) (decide_eq_false (by omega))) rfl rfl) <|
    oz (k_pf rfl rfl) <|
    oz (k_mv (.inl rfl) rfl) <|
    oz (k_mv (.inl rfl) rfl) <|
    oz (k_mv (.inl rfl) rfl) <|
    oz (k_bi (.int .i64 ((m : Nat) : Int)) (.int .i64 ((n : Nat) : Int)) (.bool false) (gt_i (m := ((m : Nat) : Int)) (n := ((n : Nat) : Int)) (decide_eq_false (by omega))) rfl rfl) <|
    oz (k_pf rfl rfl) <|
    ok_nil
  clear h; intro β a w h
  refine sym_then ?_
  refine s_cf h ?_
  refine wp_skip ?_
  refine sym_then ?_
  refine sym_seq ?_
  replace h := St.cs h (s' := [.inl (.int .i64 ((m : Nat) : Int)), .inl (.int .i64 ((n : Nat) : Int)), .inl (.agg (ab 32 O)), .inl (.agg (ab 32 R)), .inl (.slice ad N c1), uu, uu, .inr (0, pt 0), .inr (1, pt 0), uu, .inl (.bool false), uu, uu, uu, uu, uu, uu, uu, .inl (.int .i64 ((n : Nat) : Int)), .inl (.bool false), .inl (.bool false), .inl (.int .i64 ((n : Nat) : Int)), .inl (.bool false), .inl (.bool false), .inl (.bool false), .inl (.int .i64 ((m : Nat) : Int)), .inl (.bool false), .inl (.bool false), .inl (.bool false), .inl (.int .i64 ((m : Nat) : Int)), .inl (.int .i64 ((n : Nat) : Int)), .inl (.bool false), .inl (.bool false), uu, uu, uu, uu, uu, uu, uu, uu, uu, uu, uu, uu, uu, uu, uu, uu, uu, uu, uu, uu, uu, uu, uu, uu, uu, uu, uu, uu, uu, uu, uu, uu, uu, uu, uu, uu, uu, uu, uu, uu, uu, uu, uu, uu, uu, uu, uu, uu, uu, uu, uu, uu, uu, uu, uu, uu]) (m' := [(ab 32 O, 34), (ab 32 R, 34)]) (by kernel_rfl) (by kernel_rfl)
  obtain rfl : a = { tmps := (.int .i64 ((m : Nat) : Int) :: .int .i64 ((n : Nat) : Int) :: .agg (ab 32 O) :: .agg (ab 32 R) :: .slice ad N c1 :: undef :: undef :: fv (pt 0) (β 0) :: fv (pt 0) (β 1) :: undef :: .bool false :: undef :: undef :: undef :: undef :: undef :: undef :: undef :: .int .i64 ((n : Nat) : Int) :: .bool false :: .bool false :: .int .i64 ((n : Nat) : Int) :: .bool false :: .bool false :: .bool false :: .int .i64 ((m : Nat) : Int) :: .bool false :: .bool false :: .bool false :: .int .i64 ((m : Nat) : Int) :: .int .i64 ((n : Nat) : Int) :: .bool false :: .bool false :: undef :: undef :: undef :: undef :: undef :: undef :: undef :: undef :: undef :: undef :: undef :: undef :: undef :: undef :: undef :: undef :: undef :: undef :: undef :: undef :: undef :: undef :: undef :: undef :: undef :: undef :: undef :: undef :: undef :: undef :: undef :: undef :: undef :: undef :: undef :: undef :: undef :: undef :: undef :: undef :: undef :: undef :: undef :: undef :: undef :: undef :: undef :: undef :: undef :: undef :: undef :: undef :: undef :: undef :: undef :: undef :: []).toArray, defers := [] } := h.tm.trans (by kernel_rfl)
  obtain ⟨q1, q2, q3, q4⟩ := cuts_two (w := w) m n
  have hH := hide1 h
  have hz := q3.size
  clear h
  refine reg_gen fun QQ hQQ => ?_
  go_wp2_with fail
  refine (ahead_d _ _ _).mono ?_
  rintro e w' ⟨rfl, rfl⟩
  go_wp2_with fail
  refine hQQ.out _ _ ?_
  clear hQQ QQ
  refine go_base hH.out ((.inl (.int .i64 ((m : Nat) : Int))) :: (.inl (.int .i64 ((n : Nat) : Int))) :: (.inl (.agg (ab 32 O))) :: (.inl (.agg (ab 32 R))) :: (.inl (.slice ad N c1)) :: uu :: uu :: (.inr (0, pt 0)) :: (.inr (1, pt 0)) :: uu :: (.inl (.bool false)) :: (.inl (.func (.func 57) #[] #[.pointer (some ⟨w.heap.size, 0, none⟩), .pointer (some ⟨w.heap.size + 1, 0, none⟩)])) :: uu :: uu :: uu :: uu :: uu :: uu :: (.inl (.int .i64 ((n : Nat) : Int))) :: (.inl (.bool false)) :: (.inl (.bool false)) :: (.inl (.int .i64 ((n : Nat) : Int))) :: (.inl (.bool false)) :: (.inl (.bool false)) :: (.inl (.bool false)) :: (.inl (.int .i64 ((m : Nat) : Int))) :: (.inl (.bool false)) :: (.inl (.bool false)) :: (.inl (.bool false)) :: (.inl (.int .i64 ((m : Nat) : Int))) :: (.inl (.int .i64 ((n : Nat) : Int))) :: (.inl (.bool false)) :: (.inl (.bool false)) :: (.inl (.int .i64 ((m : Nat) : Int))) :: (.inl (.int .i64 ((n : Nat) : Int))) :: (.inl (.func (.func 57) #[] #[.pointer (some ⟨w.heap.size, 0, none⟩), .pointer (some ⟨w.heap.size + 1, 0, none⟩)])) :: uu :: uu :: uu :: uu :: uu :: uu :: uu :: uu :: uu :: uu :: uu :: uu :: uu :: uu :: uu :: uu :: uu :: uu :: uu :: uu :: uu :: uu :: uu :: uu :: uu :: uu :: uu :: uu :: uu :: uu :: uu :: uu :: uu :: uu :: uu :: uu :: uu :: uu :: uu :: uu :: uu :: uu :: uu :: uu :: uu :: uu :: uu :: uu :: uu :: uu :: uu :: uu :: uu :: []) q3 ?_ (by kernel_rfl)
  rintro W1b a n5 hn5 hk1b hfar h
  have hsq : ∀ v, KW W1b v → Bx v w.heap.size 3 (.int .i64 ((m : Nat) : Int)) ∧ Bx v (w.heap.size + 1) 3 (.int .i64 ((n : Nat) : Int)) := fun v hv => ⟨(hfar v hv w.heap.size (by omega) (by omega)).trans q1, (hfar v hv (w.heap.size + 1) (by omega) (by omega)).trans q2⟩
  clear hH q1 q2 q3 q4 hz hfar hn5
  generalize w.heap.size = n6 at *
  replace h := h.o0
  refine sym_then ?_
  refine sym_seq ?_
  refine St.rg h [(36, .inl (.agg (ab 32 O))), (12, .inr (2, pt 0))] [(ab 32 (fun _ => 0), 34)] [(2, ab 32 O)] [eR 0, eN 2, eS 2] ?_ ?_
  · exact oc (k_ld 0 0 (.agg (ab 32 O)) (c := ab 32 O) (ldS (F := O) 34) rfl rfl) <|
    oc (k_al 2 alS rfl rfl) <|
    oc (k_st 2 0 (.agg (ab 32 O)) (c := ab 32 (fun _ => 0)) (n := ab 32 O) (stS (F := O) (c := ab 32 (fun _ => 0)) 34 (ab_size _ _)) rfl rfl) <|
    ok_nil
  clear h; intro β a w h
  refine sym_then ?_
  refine sym_seq ?_
  refine sym_seq ?_
  refine St.r0 h [(37, .inl (.func (.func 57) #[] #[.pointer (some ⟨n6, 0, none⟩), .pointer (some ⟨n6 + 1, 0, none⟩)])), (38, .inl (.int .i64 ((s : Nat) : Int))), (39, .inl (.bool false))] [] ?_ ?_
  · exact oz (k_mv (.inl rfl) rfl) <|
    oz (k_cw 35 #[.func (.func 57) #[] #[.pointer (some ⟨n6, 0, none⟩), .pointer (some ⟨n6 + 1, 0, none⟩)]] (.int .i64 ((s : Nat) : Int)) (fun w hw => hst n6 w (hsq w hw).1 (hsq w hw).2) rfl rfl) <|
    oz (k_bi (.int .i64 ((s : Nat) : Int)) (.int .i64 ((0 : Nat) : Int)) (.bool false) (gt_i (m := ((s : Nat) : Int)) (n := ((0 : Nat) : Int)) (decide_eq_false (by omega))) rfl rfl) <|
    ok_nil
  clear h; intro β a w h
  refine sym_then ?_
  refine s_cf h ?_
  refine wp_skip ?_
  refine sym_then ?_
  refine sym_seq ?_
  replace h := St.cs h (s' := [.inl (.int .i64 ((m : Nat) : Int)), .inl (.int .i64 ((n : Nat) : Int)), .inl (.agg (ab 32 O)), .inl (.agg (ab 32 R)), .inl (.slice ad N c1), uu, uu, .inr (0, pt 0), .inr (1, pt 0), uu, .inl (.bool false), .inl (.func (.func 57) #[] #[.pointer (some ⟨n6, 0, none⟩), .pointer (some ⟨n6 + 1, 0, none⟩)]), .inr (2, pt 0), uu, uu, uu, uu, uu, .inl (.int .i64 ((n : Nat) : Int)), .inl (.bool false), .inl (.bool false), .inl (.int .i64 ((n : Nat) : Int)), .inl (.bool false), .inl (.bool false), .inl (.bool false), .inl (.int .i64 ((m : Nat) : Int)), .inl (.bool false), .inl (.bool false), .inl (.bool false), .inl (.int .i64 ((m : Nat) : Int)), .inl (.int .i64 ((n : Nat) : Int)), .inl (.bool false), .inl (.bool false), .inl (.int .i64 ((m : Nat) : Int)), .inl (.int .i64 ((n : Nat) : Int)), .inl (.func (.func 57) #[] #[.pointer (some ⟨n6, 0, none⟩), .pointer (some ⟨n6 + 1, 0, none⟩)]), .inl (.agg (ab 32 O)), .inl (.func (.func 57) #[] #[.pointer (some ⟨n6, 0, none⟩), .pointer (some ⟨n6 + 1, 0, none⟩)]), .inl (.int .i64 ((s : Nat) : Int)), .inl (.bool false), uu, uu, uu, uu, uu, uu, uu, uu, uu, uu, uu, uu, uu, uu, uu, uu, uu, uu, uu, uu, uu, uu, uu, uu, uu, uu, uu, uu, uu, uu, uu, uu, uu, uu, uu, uu, uu, uu, uu, uu, uu, uu, uu, uu, uu, uu, uu, uu, uu]) (m' := [(ab 32 O, 34), (ab 32 R, 34), (ab 32 O, 34)]) (by kernel_rfl) (by kernel_rfl)
  obtain rfl : a = { tmps := (.int .i64 ((m : Nat) : Int) :: .int .i64 ((n : Nat) : Int) :: .agg (ab 32 O) :: .agg (ab 32 R) :: .slice ad N c1 :: undef :: undef :: fv (pt 0) (β 0) :: fv (pt 0) (β 1) :: undef :: .bool false :: .func (.func 57) #[] #[.pointer (some ⟨n6, 0, none⟩), .pointer (some ⟨n6 + 1, 0, none⟩)] :: fv (pt 0) (β 2) :: undef :: undef :: undef :: undef :: undef :: .int .i64 ((n : Nat) : Int) :: .bool false :: .bool false :: .int .i64 ((n : Nat) : Int) :: .bool false :: .bool false :: .bool false :: .int .i64 ((m : Nat) : Int) :: .bool false :: .bool false :: .bool false :: .int .i64 ((m : Nat) : Int) :: .int .i64 ((n : Nat) : Int) :: .bool false :: .bool false :: .int .i64 ((m : Nat) : Int) :: .int .i64 ((n : Nat) : Int) :: .func (.func 57) #[] #[.pointer (some ⟨n6, 0, none⟩), .pointer (some ⟨n6 + 1, 0, none⟩)] :: .agg (ab 32 O) :: .func (.func 57) #[] #[.pointer (some ⟨n6, 0, none⟩), .pointer (some ⟨n6 + 1, 0, none⟩)] :: .int .i64 ((s : Nat) : Int) :: .bool false :: undef :: undef :: undef :: undef :: undef :: undef :: undef :: undef :: undef :: undef :: undef :: undef :: undef :: undef :: undef :: undef :: undef :: undef :: undef :: undef :: undef :: undef :: undef :: undef :: undef :: undef :: undef :: undef :: undef :: undef :: undef :: undef :: undef :: undef :: undef :: undef :: undef :: undef :: undef :: undef :: undef :: undef :: undef :: undef :: undef :: undef :: undef :: undef :: undef :: []).toArray, defers := [] } := h.tm.trans (by kernel_rfl)
  have hup := hup0 n6 w (hsq w h.bel).1 (hsq w h.bel).2
  have hH := hide1 h
  have hsH := hide1 hs
  clear h hs
  refine reg_gen fun QQ hQQ => ?_
  go_wp2_with fail
  refine hup.mono ?_
  rintro e w5 ⟨ca, cp, rfl, hcp, hcs0, hbl, hb5⟩
  clear hup
  go_wp2_with fail
  refine hQQ.out _ _ ?_
  clear hQQ QQ
  refine go_base hH.out ((.inl (.int .i64 ((m : Nat) : Int))) :: (.inl (.int .i64 ((n : Nat) : Int))) :: (.inl (.agg (ab 32 O))) :: (.inl (.agg (ab 32 R))) :: (.inl (.slice ad N c1)) :: uu :: uu :: (.inr (0, pt 0)) :: (.inr (1, pt 0)) :: uu :: (.inl (.bool false)) :: (.inl (.func (.func 57) #[] #[.pointer (some ⟨n6, 0, none⟩), .pointer (some ⟨n6 + 1, 0, none⟩)])) :: (.inr (2, pt 0)) :: (.inl (.slice ca N cp)) :: uu :: uu :: uu :: uu :: (.inl (.int .i64 ((n : Nat) : Int))) :: (.inl (.bool false)) :: (.inl (.bool false)) :: (.inl (.int .i64 ((n : Nat) : Int))) :: (.inl (.bool false)) :: (.inl (.bool false)) :: (.inl (.bool false)) :: (.inl (.int .i64 ((m : Nat) : Int))) :: (.inl (.bool false)) :: (.inl (.bool false)) :: (.inl (.bool false)) :: (.inl (.int .i64 ((m : Nat) : Int))) :: (.inl (.int .i64 ((n : Nat) : Int))) :: (.inl (.bool false)) :: (.inl (.bool false)) :: (.inl (.int .i64 ((m : Nat) : Int))) :: (.inl (.int .i64 ((n : Nat) : Int))) :: (.inl (.func (.func 57) #[] #[.pointer (some ⟨n6, 0, none⟩), .pointer (some ⟨n6 + 1, 0, none⟩)])) :: (.inl (.agg (ab 32 O))) :: (.inl (.func (.func 57) #[] #[.pointer (some ⟨n6, 0, none⟩), .pointer (some ⟨n6 + 1, 0, none⟩)])) :: (.inl (.int .i64 ((s : Nat) : Int))) :: (.inl (.bool false)) :: uu :: uu :: uu :: uu :: uu :: uu :: uu :: uu :: (.inl (.func (.func 57) #[] #[.pointer (some ⟨n6, 0, none⟩), .pointer (some ⟨n6 + 1, 0, none⟩)])) :: (.inl (.slice ca N cp)) :: uu :: uu :: uu :: uu :: uu :: uu :: uu :: uu :: uu :: uu :: uu :: uu :: uu :: uu :: uu :: uu :: uu :: uu :: uu :: uu :: uu :: uu :: uu :: uu :: uu :: uu :: uu :: uu :: uu :: uu :: uu :: uu :: uu :: uu :: uu :: uu :: uu :: uu :: uu :: []) hb5 ?_ (by kernel_rfl)
  rintro W2b a n8 hn8 hk2b hfar h
  have hcs : ∀ v, KW W2b v → CsAt v ca cs := fun v hv => hcs0.far (n := n8) (fun p h1 h2 => by have := hbl p (by omega) h2; omega) (hfar v hv)
  have hps : ∀ v, KW W2b v → SsAt v ad ps := fun v hv => hps0 v (hk1b.kw v (hk2b.kw v hv))
  have hgl : ∀ v, KW W2b v → Gl v := fun v hv => gl_b hg (KW.below (hk1b.kw v (hk2b.kw v hv)))
  obtain ⟨cb, ec⟩ : ∃ cb, 0 < N → ca = some ⟨cb, 0, none⟩ := cs_ad (hcs _ h.bel) lc
  have hs := hsH.out
  clear hfar hcs0 hbl hcp hH hb5 hn8 hsH
  generalize ca = cav at *
  replace h := h.o0
  refine sym_then ?_
  refine sym_seq ?_
  refine sym_seq ?_
  refine St.r0 h [(50, .inl (.slice cav N cp)), (51, .inl (.int .i64 ((N : Nat) : Int))), (52, .inl (.slice ad N c1)), (53, .inl (.int .i64 ((N : Nat) : Int))), (54, .inl (.bool false))] [] ?_ ?_
  · exact oz (k_mv (.inl rfl) rfl) <|
    oz (k_ln (ad := cav) N cp rfl rfl (fun w => len_cs _ w)) <|
    oz (k_mv (.inl rfl) rfl) <|
    oz (k_ln (ad := ad) N c1 rfl rfl (fun w => len_ss _ w)) <|
    oz (k_bi (.int .i64 ((N : Nat) : Int)) (.int .i64 ((N : Nat) : Int)) (.bool false) (ne_i (m := ((N : Nat) : Int)) (n := ((N : Nat) : Int)) (decide_eq_false (by omega))) rfl rfl) <|
    ok_nil
  clear h; intro β a w h
  refine sym_then ?_
  refine s_cf h ?_
  refine wp_skip ?_
  refine sym_then ?_
  refine sym_seq ?_
  refine St.rg h [(55, .inl (.agg (ab 32 O))), (56, .inl (.agg (ab 32 O))), (14, .inr (3, pt 0)), (15, .inr (4, pt 0))] [(ab 32 (fun _ => 0), 34), (ab 32 (fun _ => 0), 34)] [(3, ab 32 O), (4, ab 32 O)] [eR 2, eR 2, eN 3, eN 4, eS 3, eS 4] ?_ ?_
  · exact oc (k_ld 2 0 (.agg (ab 32 O)) (c := ab 32 O) (ldS (F := O) 34) rfl rfl) <|
    oc (k_ld 2 0 (.agg (ab 32 O)) (c := ab 32 O) (ldS (F := O) 34) rfl rfl) <|
    oc (k_al 3 alS rfl rfl) <|
    oc (k_al 4 alS rfl rfl) <|
    oc (k_st 3 0 (.agg (ab 32 O)) (c := ab 32 (fun _ => 0)) (n := ab 32 O) (stS (F := O) (c := ab 32 (fun _ => 0)) 34 (ab_size _ _)) rfl rfl) <|
    oc (k_st 4 0 (.agg (ab 32 O)) (c := ab 32 (fun _ => 0)) (n := ab 32 O) (stS (F := O) (c := ab 32 (fun _ => 0)) 34 (ab_size _ _)) rfl rfl) <|
    ok_nil
  clear h; intro β a w h
  refine sym_then ?_
  refine sym_seq ?_
  refine sym_seq ?_
  refine St.r0 h [(57, .inl (.slice cav N cp)), (58, .inl (.int .i64 ((N : Nat) : Int))), (59, .inl (.int .i64 ((0 : Nat) : Int)))] [] ?_ ?_
  · exact oz (k_mv (.inl rfl) rfl) <|
    oz (k_ln (ad := cav) N cp rfl rfl (fun w => len_cs _ w)) <|
    oz (k_mv (.inl rfl) rfl) <|
    ok_nil
  clear h; intro β a w h
  refine sym_then ?_
  refine blk_in ?_
  replace h := St.sm h 3 (ab 32 (firstL (cs.take 0) (ps.take 0) O)) (c := ab 32 O) (t := 34) (by rw [List.take_zero, List.take_zero]; rfl)
  replace h := St.sm h 4 (ab 32 (comeL (cs.take 0) (ps.take 0) O)) (c := ab 32 O) (t := 34) (by rw [List.take_zero, List.take_zero]; rfl)
  obtain ⟨x, h⟩ := St.jn (n := 89) h [0, 1, 2, 3, 4, 7, 8, 10, 11, 12, 13, 14, 15, 57, 58, 59] [.inl (.int .i64 ((m : Nat) : Int)), .inl (.int .i64 ((n : Nat) : Int)), .inl (.agg (ab 32 O)), .inl (.agg (ab 32 R)), .inl (.slice ad N c1), .inr (0, pt 0), .inr (1, pt 0), .inl (.bool false), .inl (.func (.func 57) #[] #[.pointer (some ⟨n6, 0, none⟩), .pointer (some ⟨n6 + 1, 0, none⟩)]), .inr (2, pt 0), .inl (.slice cav N cp), .inr (3, pt 0), .inr (4, pt 0), .inl (.slice cav N cp), .inl (.int .i64 ((N : Nat) : Int)), .inl (.int .i64 ((0 : Nat) : Int))] [(ab 32 O, 34), (ab 32 R, 34), (ab 32 O, 34), (ab 32 (firstL (cs.take 0) (ps.take 0) O), 34), (ab 32 (comeL (cs.take 0) (ps.take 0) O), 34)] (by kernel_rfl) (by kernel_rfl) (by kernel_rfl)
  refine loop_up N (fun k a w => ∃ (x : Nat → SV) (β : Nat → Nat), St (W2b) (ov (jk 89 x) ([0, 1, 2, 3, 4, 7, 8, 10, 11, 12, 13, 14, 15, 57, 58, 59].zip [.inl (.int .i64 ((m : Nat) : Int)), .inl (.int .i64 ((n : Nat) : Int)), .inl (.agg (ab 32 O)), .inl (.agg (ab 32 R)), .inl (.slice ad N c1), .inr (0, pt 0), .inr (1, pt 0), .inl (.bool false), .inl (.func (.func 57) #[] #[.pointer (some ⟨n6, 0, none⟩), .pointer (some ⟨n6 + 1, 0, none⟩)]), .inr (2, pt 0), .inl (.slice cav N cp), .inr (3, pt 0), .inr (4, pt 0), .inl (.slice cav N cp), .inl (.int .i64 ((N : Nat) : Int)), .inl (.int .i64 ((k : Nat) : Int))])) [(ab 32 O, 34), (ab 32 R, 34), (ab 32 O, 34), (ab 32 (firstL (cs.take k) (ps.take k) O), 34), (ab 32 (comeL (cs.take k) (ps.take k) O), 34)] β a w) ⟨x, _, h⟩ ?_
  clear h; rintro k a w hkk ⟨x, β, h⟩
  rcases Nat.lt_or_ge k N with hltk | hgek
  · rcases Bool.eq_false_or_eq_true (cs.getD k default).r with hcr | hcr
    · refine sym_seq ?_
      refine St.r0 h [(60, .inl (.bool true))] [] ?_ ?_
      · exact oz (k_bi (.int .i64 ((k : Nat) : Int)) (.int .i64 ((N : Nat) : Int)) (.bool true) (lt_i (m := ((k : Nat) : Int)) (n := ((N : Nat) : Int)) (decide_eq_true (by omega))) rfl rfl) <|
        ok_nil
      clear h; intro β a w h
      refine sym_then ?_
      refine sym_seq ?_
      refine s_ct h ?_
      refine wp_skip ?_
      refine sym_then ?_
      refine sym_seq ?_
      refine blk_in ?_
      refine sym_seq ?_
      refine St.rg h [(61, .inl (.int .i64 ((k : Nat) : Int))), (62, .inl (.pointer (some ⟨cb, k * 4, none⟩))), (63, .inl (.agg (cvA (cs.getD k default)))), (17, .inr (5, pt 0)), (16, .inl (.int .i64 ((k : Nat) : Int)))] [(cvA ⟨0, 0, 0, false⟩, 73)] [(5, cvA (cs.getD k default))] [nn, nn, nn, eN 5, nn, eS 5] ?_ ?_
      · exact oc (k_mv (.inl rfl) rfl) <|
        oc (k_is (.slice cav N cp) (.int .i64 ((k : Nat) : Int)) (.pointer (some ⟨cb, k * 4, none⟩)) (fun w => ix_ct ec (i := k) (by omega) w) rfl rfl) <|
        oc (k_lf (.pointer (some ⟨cb, k * 4, none⟩)) (.agg (cvA (cs.getD k default))) (fun w hw => ld_ct (hcs w hw) ec (by omega)) rfl rfl) <|
        oc (k_al 5 alC rfl rfl) <|
        oc (k_mv (.inr rfl) rfl) <|
        oc (k_st 5 0 (.agg (cvA (cs.getD k default))) (c := cvA ⟨0, 0, 0, false⟩) (n := cvA (cs.getD k default)) (stC (c := (cs.getD k default)) (d := cvA ⟨0, 0, 0, false⟩) 73 rfl) rfl rfl) <|
        ok_nil
      clear h; intro β a w h
      refine sym_then ?_
      refine sym_seq ?_
      refine St.rg h [(64, .inl (.agg (cvA (cs.getD k default)))), (65, .inl (.agg (ab 32 (comeL (cs.take k) (ps.take k) O)))), (66, .inl (.slice ad N c1)), (67, .inl (.int .i64 ((k : Nat) : Int))), (68, .inl (.pointer (some ⟨qb, qo + 32 * k, none⟩))), (69, .inl (.agg (ab 32 (ps.getD k fun _ => 0)))), (70, .inl (.agg (ab 32 (jn (cs.getD k default).r (comeL (cs.take k) (ps.take k) O) (ps.getD k fun _ => 0)))))] [] [(4, ab 32 (jn (cs.getD k default).r (comeL (cs.take k) (ps.take k) O) (ps.getD k fun _ => 0)))] [eR 5, eR 4, nn, nn, nn, nn, nn, eS 4] ?_ ?_
      · exact oc (k_ld 5 0 (.agg (cvA (cs.getD k default))) (c := cvA (cs.getD k default)) (ldC (c := (cs.getD k default)) 73) rfl rfl) <|
        oc (k_ld 4 0 (.agg (ab 32 (comeL (cs.take k) (ps.take k) O))) (c := ab 32 (comeL (cs.take k) (ps.take k) O)) (ldS (F := (comeL (cs.take k) (ps.take k) O)) 34) rfl rfl) <|
        oc (k_mv (.inl rfl) rfl) <|
        oc (k_mv (.inl rfl) rfl) <|
        oc (k_is (.slice ad N c1) (.int .i64 ((k : Nat) : Int)) (.pointer (some ⟨qb, qo + 32 * k, none⟩)) (fun w => ix_st2 ea (i := k) (by omega) w) rfl rfl) <|
        oc (k_lf (.pointer (some ⟨qb, qo + 32 * k, none⟩)) (.agg (ab 32 (ps.getD k fun _ => 0))) (fun w hw => ld_st2 (hps w hw) ea (by omega)) rfl rfl) <|
        oc (k_cw 41 #[.agg (cvA (cs.getD k default)), .agg (ab 32 (comeL (cs.take k) (ps.take k) O)), .agg (ab 32 (ps.getD k fun _ => 0))] (.agg (ab 32 (jn (cs.getD k default).r (comeL (cs.take k) (ps.take k) O) (ps.getD k fun _ => 0)))) (fun w hw => join_d (hgl w hw) (comeL_lt hF _ _) (getD_lt hpl _)) rfl rfl) <|
        oc (k_st 4 0 (.agg (ab 32 (jn (cs.getD k default).r (comeL (cs.take k) (ps.take k) O) (ps.getD k fun _ => 0)))) (c := ab 32 (comeL (cs.take k) (ps.take k) O)) (n := ab 32 (jn (cs.getD k default).r (comeL (cs.take k) (ps.take k) O) (ps.getD k fun _ => 0))) (stS (F := (jn (cs.getD k default).r (comeL (cs.take k) (ps.take k) O) (ps.getD k fun _ => 0))) (c := ab 32 (comeL (cs.take k) (ps.take k) O)) 34 (ab_size _ _)) rfl rfl) <|
        ok_nil
      clear h; intro β a w h
      refine sym_then ?_
      refine sym_seq ?_
      refine St.r0 h [(71, .inr (5, pt 3)), (72, .inl (.bool true))] [nn, eR 5] ?_ ?_
      · exact oc (k_fa 5 0 3 rfl rfl) <|
        oc (k_ld 5 3 (.bool true) (c := cvA (cs.getD k default)) (ldR (c := (cs.getD k default)) hcr 73) rfl rfl) <|
        ok_nil
      clear h; intro β a w h
      refine sym_then ?_
      refine s_ct h ?_
      refine St.rg h [(73, .inl (.agg (cvA (cs.getD k default)))), (74, .inl (.agg (ab 32 (firstL (cs.take k) (ps.take k) O)))), (75, .inl (.slice ad N c1)), (76, .inl (.int .i64 ((k : Nat) : Int))), (77, .inl (.pointer (some ⟨qb, qo + 32 * k, none⟩))), (78, .inl (.agg (ab 32 (ps.getD k fun _ => 0)))), (79, .inl (.agg (ab 32 (jn (cs.getD k default).r (firstL (cs.take k) (ps.take k) O) (ps.getD k fun _ => 0)))))] [] [(3, ab 32 (jn (cs.getD k default).r (firstL (cs.take k) (ps.take k) O) (ps.getD k fun _ => 0)))] [eR 5, eR 3, nn, nn, nn, nn, nn, eS 3] ?_ ?_
      · exact oc (k_ld 5 0 (.agg (cvA (cs.getD k default))) (c := cvA (cs.getD k default)) (ldC (c := (cs.getD k default)) 73) rfl rfl) <|
        oc (k_ld 3 0 (.agg (ab 32 (firstL (cs.take k) (ps.take k) O))) (c := ab 32 (firstL (cs.take k) (ps.take k) O)) (ldS (F := (firstL (cs.take k) (ps.take k) O)) 34) rfl rfl) <|
        oc (k_mv (.inl rfl) rfl) <|
        oc (k_mv (.inl rfl) rfl) <|
        oc (k_is (.slice ad N c1) (.int .i64 ((k : Nat) : Int)) (.pointer (some ⟨qb, qo + 32 * k, none⟩)) (fun w => ix_st2 ea (i := k) (by omega) w) rfl rfl) <|
        oc (k_lf (.pointer (some ⟨qb, qo + 32 * k, none⟩)) (.agg (ab 32 (ps.getD k fun _ => 0))) (fun w hw => ld_st2 (hps w hw) ea (by omega)) rfl rfl) <|
        oc (k_cw 41 #[.agg (cvA (cs.getD k default)), .agg (ab 32 (firstL (cs.take k) (ps.take k) O)), .agg (ab 32 (ps.getD k fun _ => 0))] (.agg (ab 32 (jn (cs.getD k default).r (firstL (cs.take k) (ps.take k) O) (ps.getD k fun _ => 0)))) (fun w hw => join_d (hgl w hw) (firstL_lt hF _ _) (getD_lt hpl _)) rfl rfl) <|
        oc (k_st 3 0 (.agg (ab 32 (jn (cs.getD k default).r (firstL (cs.take k) (ps.take k) O) (ps.getD k fun _ => 0)))) (c := ab 32 (firstL (cs.take k) (ps.take k) O)) (n := ab 32 (jn (cs.getD k default).r (firstL (cs.take k) (ps.take k) O) (ps.getD k fun _ => 0))) (stS (F := (jn (cs.getD k default).r (firstL (cs.take k) (ps.take k) O) (ps.getD k fun _ => 0))) (c := ab 32 (firstL (cs.take k) (ps.take k) O)) 34 (ab_size _ _)) rfl rfl) <|
        ok_nil
      clear h; intro β a w h
      refine blk_norm ?_
      refine sym_then ?_
      refine St.r0 h [(80, .inl (.int .i64 (((k + 1) : Nat) : Int))), (59, .inl (.int .i64 (((k + 1) : Nat) : Int)))] [eO] ?_ ?_
      · exact oc (k_b0 (.int .i64 ((k : Nat) : Int)) (.int .i64 ((1 : Nat) : Int)) (.int .i64 (((k + 1) : Nat) : Int)) (ad_i (m := k) (n := 1) (by omega)) rfl rfl) <|
        oz (k_mv (.inl rfl) rfl) <|
        ok_nil
      clear h; intro β a w h
      replace h := St.sm h 3 (ab 32 (firstL (cs.take (k + 1)) (ps.take (k + 1)) O)) (c := ab 32 (jn (cs.getD k default).r (firstL (cs.take k) (ps.take k) O) (ps.getD k fun _ => 0))) (t := 34) (by rw [fst_t lc lp hltk hcr])
      replace h := St.sm h 4 (ab 32 (comeL (cs.take (k + 1)) (ps.take (k + 1)) O)) (c := ab 32 (jn (cs.getD k default).r (comeL (cs.take k) (ps.take k) O) (ps.getD k fun _ => 0))) (t := 34) (by rw [come_step lc lp hltk])
      obtain ⟨x, h⟩ := St.jd (n := 89) h [0, 1, 2, 3, 4, 7, 8, 10, 11, 12, 13, 14, 15, 57, 58, 59] [.inl (.int .i64 ((m : Nat) : Int)), .inl (.int .i64 ((n : Nat) : Int)), .inl (.agg (ab 32 O)), .inl (.agg (ab 32 R)), .inl (.slice ad N c1), .inr (0, pt 0), .inr (1, pt 0), .inl (.bool false), .inl (.func (.func 57) #[] #[.pointer (some ⟨n6, 0, none⟩), .pointer (some ⟨n6 + 1, 0, none⟩)]), .inr (2, pt 0), .inl (.slice cav N cp), .inr (3, pt 0), .inr (4, pt 0), .inl (.slice cav N cp), .inl (.int .i64 ((N : Nat) : Int)), .inl (.int .i64 (((k + 1) : Nat) : Int))] [(ab 32 O, 34), (ab 32 R, 34), (ab 32 O, 34), (ab 32 (firstL (cs.take (k + 1)) (ps.take (k + 1)) O), 34), (ab 32 (comeL (cs.take (k + 1)) (ps.take (k + 1)) O), 34)] (by kernel_rfl) (by kernel_rfl) (by kernel_rfl) (by kernel_rfl) (fun _ _ h => by rw [hk2b.pn, hk1b.pn] at h; cases h)
      exact ⟨hltk, x, _, h⟩
    · refine sym_seq ?_
      refine St.r0 h [(60, .inl (.bool true))] [] ?_ ?_
      · exact oz (k_bi (.int .i64 ((k : Nat) : Int)) (.int .i64 ((N : Nat) : Int)) (.bool true) (lt_i (m := ((k : Nat) : Int)) (n := ((N : Nat) : Int)) (decide_eq_true (by omega))) rfl rfl) <|
        ok_nil
      clear h; intro β a w h
      refine sym_then ?_
      refine sym_seq ?_
      refine s_ct h ?_
      refine wp_skip ?_
      refine sym_then ?_
      refine sym_seq ?_
      refine blk_in ?_
      refine sym_seq ?_
      refine St.rg h [(61, .inl (.int .i64 ((k : Nat) : Int))), (62, .inl (.pointer (some ⟨cb, k * 4, none⟩))), (63, .inl (.agg (cvA (cs.getD k default)))), (17, .inr (5, pt 0)), (16, .inl (.int .i64 ((k : Nat) : Int)))] [(cvA ⟨0, 0, 0, false⟩, 73)] [(5, cvA (cs.getD k default))] [nn, nn, nn, eN 5, nn, eS 5] ?_ ?_
      · exact oc (k_mv (.inl rfl) rfl) <|
        oc (k_is (.slice cav N cp) (.int .i64 ((k : Nat) : Int)) (.pointer (some ⟨cb, k * 4, none⟩)) (fun w => ix_ct ec (i := k) (by omega) w) rfl rfl) <|
        oc (k_lf (.pointer (some ⟨cb, k * 4, none⟩)) (.agg (cvA (cs.getD k default))) (fun w hw => ld_ct (hcs w hw) ec (by omega)) rfl rfl) <|
        oc (k_al 5 alC rfl rfl) <|
        oc (k_mv (.inr rfl) rfl) <|
        oc (k_st 5 0 (.agg (cvA (cs.getD k default))) (c := cvA ⟨0, 0, 0, false⟩) (n := cvA (cs.getD k default)) (stC (c := (cs.getD k default)) (d := cvA ⟨0, 0, 0, false⟩) 73 rfl) rfl rfl) <|
        ok_nil
      clear h; intro β a w h
      refine sym_then ?_
      refine sym_seq ?_
      refine St.rg h [(64, .inl (.agg (cvA (cs.getD k default)))), (65, .inl (.agg (ab 32 (comeL (cs.take k) (ps.take k) O)))), (66, .inl (.slice ad N c1)), (67, .inl (.int .i64 ((k : Nat) : Int))), (68, .inl (.pointer (some ⟨qb, qo + 32 * k, none⟩))), (69, .inl (.agg (ab 32 (ps.getD k fun _ => 0)))), (70, .inl (.agg (ab 32 (jn (cs.getD k default).r (comeL (cs.take k) (ps.take k) O) (ps.getD k fun _ => 0)))))] [] [(4, ab 32 (jn (cs.getD k default).r (comeL (cs.take k) (ps.take k) O) (ps.getD k fun _ => 0)))] [eR 5, eR 4, nn, nn, nn, nn, nn, eS 4] ?_ ?_
      · exact oc (k_ld 5 0 (.agg (cvA (cs.getD k default))) (c := cvA (cs.getD k default)) (ldC (c := (cs.getD k default)) 73) rfl rfl) <|
        oc (k_ld 4 0 (.agg (ab 32 (comeL (cs.take k) (ps.take k) O))) (c := ab 32 (comeL (cs.take k) (ps.take k) O)) (ldS (F := (comeL (cs.take k) (ps.take k) O)) 34) rfl rfl) <|
        oc (k_mv (.inl rfl) rfl) <|
        oc (k_mv (.inl rfl) rfl) <|
        oc (k_is (.slice ad N c1) (.int .i64 ((k : Nat) : Int)) (.pointer (some ⟨qb, qo + 32 * k, none⟩)) (fun w => ix_st2 ea (i := k) (by omega) w) rfl rfl) <|
        oc (k_lf (.pointer (some ⟨qb, qo + 32 * k, none⟩)) (.agg (ab 32 (ps.getD k fun _ => 0))) (fun w hw => ld_st2 (hps w hw) ea (by omega)) rfl rfl) <|
        oc (k_cw 41 #[.agg (cvA (cs.getD k default)), .agg (ab 32 (comeL (cs.take k) (ps.take k) O)), .agg (ab 32 (ps.getD k fun _ => 0))] (.agg (ab 32 (jn (cs.getD k default).r (comeL (cs.take k) (ps.take k) O) (ps.getD k fun _ => 0)))) (fun w hw => join_d (hgl w hw) (comeL_lt hF _ _) (getD_lt hpl _)) rfl rfl) <|
        oc (k_st 4 0 (.agg (ab 32 (jn (cs.getD k default).r (comeL (cs.take k) (ps.take k) O) (ps.getD k fun _ => 0)))) (c := ab 32 (comeL (cs.take k) (ps.take k) O)) (n := ab 32 (jn (cs.getD k default).r (comeL (cs.take k) (ps.take k) O) (ps.getD k fun _ => 0))) (stS (F := (jn (cs.getD k default).r (comeL (cs.take k) (ps.take k) O) (ps.getD k fun _ => 0))) (c := ab 32 (comeL (cs.take k) (ps.take k) O)) 34 (ab_size _ _)) rfl rfl) <|
        ok_nil
      clear h; intro β a w h
      refine sym_then ?_
      refine sym_seq ?_
      refine St.r0 h [(71, .inr (5, pt 3)), (72, .inl (.bool false))] [nn, eR 5] ?_ ?_
      · exact oc (k_fa 5 0 3 rfl rfl) <|
        oc (k_ld 5 3 (.bool false) (c := cvA (cs.getD k default)) (ldR (c := (cs.getD k default)) hcr 73) rfl rfl) <|
        ok_nil
      clear h; intro β a w h
      refine sym_then ?_
      refine s_cf h ?_
      refine wp_skip ?_
      refine blk_norm ?_
      refine sym_then ?_
      refine St.r0 h [(80, .inl (.int .i64 (((k + 1) : Nat) : Int))), (59, .inl (.int .i64 (((k + 1) : Nat) : Int)))] [eO] ?_ ?_
      · exact oc (k_b0 (.int .i64 ((k : Nat) : Int)) (.int .i64 ((1 : Nat) : Int)) (.int .i64 (((k + 1) : Nat) : Int)) (ad_i (m := k) (n := 1) (by omega)) rfl rfl) <|
        oz (k_mv (.inl rfl) rfl) <|
        ok_nil
      clear h; intro β a w h
      replace h := St.sm h 3 (ab 32 (firstL (cs.take (k + 1)) (ps.take (k + 1)) O)) (c := ab 32 (firstL (cs.take k) (ps.take k) O)) (t := 34) (by rw [← fst_f lc lp hltk hcr])
      replace h := St.sm h 4 (ab 32 (comeL (cs.take (k + 1)) (ps.take (k + 1)) O)) (c := ab 32 (jn (cs.getD k default).r (comeL (cs.take k) (ps.take k) O) (ps.getD k fun _ => 0))) (t := 34) (by rw [come_step lc lp hltk])
      obtain ⟨x, h⟩ := St.jd (n := 89) h [0, 1, 2, 3, 4, 7, 8, 10, 11, 12, 13, 14, 15, 57, 58, 59] [.inl (.int .i64 ((m : Nat) : Int)), .inl (.int .i64 ((n : Nat) : Int)), .inl (.agg (ab 32 O)), .inl (.agg (ab 32 R)), .inl (.slice ad N c1), .inr (0, pt 0), .inr (1, pt 0), .inl (.bool false), .inl (.func (.func 57) #[] #[.pointer (some ⟨n6, 0, none⟩), .pointer (some ⟨n6 + 1, 0, none⟩)]), .inr (2, pt 0), .inl (.slice cav N cp), .inr (3, pt 0), .inr (4, pt 0), .inl (.slice cav N cp), .inl (.int .i64 ((N : Nat) : Int)), .inl (.int .i64 (((k + 1) : Nat) : Int))] [(ab 32 O, 34), (ab 32 R, 34), (ab 32 O, 34), (ab 32 (firstL (cs.take (k + 1)) (ps.take (k + 1)) O), 34), (ab 32 (comeL (cs.take (k + 1)) (ps.take (k + 1)) O), 34)] (by kernel_rfl) (by kernel_rfl) (by kernel_rfl) (by kernel_rfl) (fun _ _ h => by rw [hk2b.pn, hk1b.pn] at h; cases h)
      exact ⟨hltk, x, _, h⟩
  · obtain rfl : N = k := by omega
    refine sym_seq ?_
    refine St.r0 h [(60, .inl (.bool false))] [] ?_ ?_
    · exact oz (k_bi (.int .i64 ((N : Nat) : Int)) (.int .i64 ((N : Nat) : Int)) (.bool false) (lt_i (m := ((N : Nat) : Int)) (n := ((N : Nat) : Int)) (decide_eq_false (by omega))) rfl rfl) <|
      ok_nil
    clear h; intro β a w h
    refine sym_then ?_
    refine sym_seq ?_
    refine s_cf h ?_
    refine wp_exit ?_
    refine then_exit ?_
    refine then_exit ?_
    refine blk_exit ?_
    refine sym_then ?_
    refine sym_seq ?_
    refine St.r0 h [(81, .inl (.agg (ab 32 (firstL (cs.take N) (ps.take N) O)))), (82, .inl (.agg (ab 32 O))), (83, .inl (.bool false)), (84, .inl (.bool false)), (85, uu), (86, uu), (87, uu), (88, .inl (.bool false))] [eR 3, eR 0] ?_ ?_
    · exact oc (k_ld 3 0 (.agg (ab 32 (firstL (cs.take N) (ps.take N) O))) (c := ab 32 (firstL (cs.take N) (ps.take N) O)) (ldS (F := (firstL (cs.take N) (ps.take N) O)) 34) rfl rfl) <|
      oc (k_ld 0 0 (.agg (ab 32 O)) (c := ab 32 O) (ldS (F := O) 34) rfl rfl) <|
      oz (k_bi (.agg (ab 32 (firstL (cs.take N) (ps.take N) O))) (.agg (ab 32 O)) (.bool false) (eqS_v hb1) rfl rfl) <|
      oz (k_mv (.inl rfl) rfl) <|
      oz (k_sk rfl) <|
      oz (k_sk rfl) <|
      oz (k_sk rfl) <|
      oz (k_pf rfl rfl) <|
      oz (k_mv (.inr rfl) rfl) <|
      ok_nil
    clear h; intro β a w h
    refine sym_then ?_
    refine wp_ret ?_
    replace h := h.unb hk2b
    replace h := h.unb hk1b
    exact s_rt h Tryd.results14 (fun hb => ⟨rfl, hb⟩)
end Go.Proofs.YtgnmnoadfjdjdaaDoor

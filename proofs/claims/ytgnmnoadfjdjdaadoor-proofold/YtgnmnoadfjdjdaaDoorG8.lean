/- PE2, PE3: laid together. -/
import Derived.Test.YtgnmnoadfjdjdaaDoorG7
namespace Go.Proofs.YtgnmnoadfjdjdaaDoor
open Go.RowKit Go.Maps Sh
set_option maxHeartbeats 8000000 in
set_option maxRecDepth 100000 in
theorem ext0_tt {m n N c1 s qb qo : Nat} {ad : Option Addr} {cs : List Cu} {ps : List (Nat → Nat)} {O R : Nat → Nat} {W0 : World} (hg : Gl W0) (hm1 : 1 ≤ m) (hmn : m ≤ n) (hn : n ≤ 1048576) (hF : ∀ i, O i < 256) (hpl : ∀ P ∈ ps, ∀ j, P j < 256) (lc : cs.length = N) (lp : ps.length = N) (hN : N ≤ 1048576) (hs : s = 0)  (ea : 0 < N → ad = some ⟨qb, qo, none⟩) (hps0 : ∀ w, KW (wd W0) w → SsAt w ad ps) (hst : ∀ g w, Bx w g 3 (.int .i64 ((m : Nat) : Int)) → Bx w (g + 1) 3 (.int .i64 ((n : Nat) : Int)) → Calls Tryd.prog 35 #[.func (.func 57) #[] #[.pointer (some ⟨g, 0, none⟩), .pointer (some ⟨g + 1, 0, none⟩)]] w fun e w' => e = .returned (.int .i64 ((s : Nat) : Int)) ∧ Below w.heap.size w w') (hup0 : ∀ g w, Bx w g 3 (.int .i64 ((m : Nat) : Int)) → Bx w (g + 1) 3 (.int .i64 ((n : Nat) : Int)) → Calls Tryd.prog 40 #[.func (.func 57) #[] #[.pointer (some ⟨g, 0, none⟩), .pointer (some ⟨g + 1, 0, none⟩)]] w fun e W' => ∃ a cap, e = .returned (.slice a N cap) ∧ N ≤ cap ∧ CsAt W' a cs ∧ (∀ p, 0 < N → a = some p → w.heap.size ≤ p.block) ∧ Below w.heap.size w W') (hb1 : eqD (firstL (cs.take N) (ps.take N) O) O = true) (hb2 : eqD (comeL (cs.take N) (ps.take N) O) R = true) :
    Calls Tryd.prog 14 #[.int .i64 ((m : Nat) : Int), .int .i64 ((n : Nat) : Int), .agg (ab 32 O), .agg (ab 32 R), .slice ad N c1] W0 fun e w' => e = .returned (.bool true) ∧ Below W0.heap.size W0 w' := by
  refine s_in Tryd.func14 Tryd.ntmps14 rfl [.inl (.int .i64 ((m : Nat) : Int)), .inl (.int .i64 ((n : Nat) : Int)), .inl (.agg (ab 32 O)), .inl (.agg (ab 32 R)), .inl (.slice ad N c1)] ?_
  intro β a h
  refine sym_seq ?_
  refine St.rg h [(7, .inr (0, pt 0)), (8, .inr (1, pt 0)), (10, .inl (.bool false))] [(ab 32 O, 34), (ab 32 R, 34)] [] [eN 0, eN 1] ?_ ?_
  · exact oc (k_bx 0 (.agg (ab 32 O)) (bx_agg (P := Tryd.prog)) rfl rfl) <|
    oc (k_bx 1 (.agg (ab 32 R)) (bx_agg (P := Tryd.prog)) rfl rfl) <|
    oz (k_mv (.inr rfl) rfl) <|
    ok_nil
  clear h; intro β a w h
  refine sym_then ?_
  refine sym_seq ?_
  refine sym_seq ?_
  refine St.r0 h [(18, .inl (.int .i64 ((n : Nat) : Int))), (19, .inl (.bool false)), (20, .inl (.bool false)), (21, .inl (.int .i64 ((n : Nat) : Int))), (22, .inl (.bool false)), (23, .inl (.bool false)), (24, .inl (.bool false)), (25, .inl (.int .i64 ((m : Nat) : Int))), (26, .inl (.bool false)), (27, .inl (.bool false)), (28, .inl (.bool false)), (29, .inl (.int .i64 ((m : Nat) : Int))), (30, .inl (.int .i64 ((n : Nat) : Int))), (31, .inl (.bool false)), (32, .inl (.bool false))] [] ?_ ?_
  · exact oz (k_mv (.inl rfl) rfl) <|
    oz (k_bi (.int .i64 ((n : Nat) : Int)) (.int .i64 ((1 : Nat) : Int)) (.bool false) (lt_i (m := ((n : Nat) : Int)) (n := ((1 : Nat) : Int)) (decide_eq_false (by omega))) rfl rfl) <|
    oz (k_mv (.inl rfl) rfl) <|
    oz (k_mv (.inl rfl) rfl) <|
    oz (k_bi (.int .i64 ((n : Nat) : Int)) (.int .i64 ((1048576 : Nat) : Int)) (.bool false) (gt_i (m := ((n : Nat) : Int)) (n := ((1048576 : Nat) : Int)) (decide_eq_false (by omega))) rfl rfl) <|
    oz (k_pf rfl rfl) <|
    oz (k_mv (.inl rfl) rfl) <|
    oz (k_mv (.inl rfl) rfl) <|
    oz (k_bi (.int .i64 ((m : Nat) : Int)) (.int .i64 ((1 : Nat) : Int)) (.bool false) (lt_i (m := ((m : Nat) : Int)) (n := ((1 : Nat) : Int)) (decide_eq_false (by omega))) rfl rfl) <|
    oz (k_pf rfl rfl) <|
    oz (k_mv (.inl rfl) rfl) <|
    oz (k_mv (.inl rfl) rfl) <|
    oz (k_mv (.inl rfl) rfl) <|
    oz (k_bi (.int .i64 ((m : Nat) : Int)) (.int .i64 ((n : Nat) : Int)) (.bool false) (gt_i (m := ((m : Nat) : Int)) (n := ((n : Nat) : Int)) (decide_eq_false (by omega))) rfl rfl) <|
    oz (k_pf rfl rfl) <|
    ok_nil
  clear h; intro β a w h
  refine sym_then ?_
  refine s_cf h ?_
  refine wp_skip ?_
  refine sym_then ?_
  refine sym_seq ?_
  replace h := St.cs h (s' := [.inl (.int .i64 ((m : Nat) : Int)), .inl (.int .i64 ((n : Nat) : Int)), .inl (.agg (ab 32 O)), .inl (.agg (ab 32 R)), .inl (.slice ad N c1), uu, uu, .inr (0, pt 0), .inr (1, pt 0), uu, .inl (.bool false), uu, uu, uu, uu, uu, uu, uu, .inl (.int .i64 ((n : Nat) : Int)), .inl (.bool false), .inl (.bool false), .inl (.int .i64 ((n : Nat) : Int)), .inl (.bool false), .inl (.bool false), .inl (.bool false), .inl (.int .i64 ((m : Nat) : Int)), .inl (.bool false), .inl (.bool false), .inl (.bool false), .inl (.int .i64 ((m : Nat) : Int)), .inl (.int .i64 ((n : Nat) : Int)), .inl (.bool false), .inl (.bool false), uu, uu, uu, uu, uu, uu, uu, uu, uu, uu, uu, uu, uu, uu, uu, uu, uu, uu, uu, uu, uu, uu, uu, uu, uu, uu, uu, uu, uu, uu, uu, uu, uu, uu, uu, uu, uu, uu, uu, uu, uu, uu, uu, uu, uu, uu, uu, uu, uu, uu, uu, uu, uu, uu, uu, uu]) (m' := [(ab 32 O, 34), (ab 32 R, 34)]) (by kernel_rfl) (by kernel_rfl)
  obtain rfl : a = { tmps := (.int .i64 ((m : Nat) : Int) :: .int .i64 ((n : Nat) : Int) :: .agg (ab 32 O) :: .agg (ab 32 R) :: .slice ad N c1 :: undef :: undef :: fv (pt 0) (β 0) :: fv (pt 0) (β 1) :: undef :: .bool false :: undef :: undef :: undef :: undef :: undef :: undef :: undef :: .int .i64 ((n : Nat) : Int) :: .bool false :: .bool false :: .int .i64 ((n : Nat) : Int) :: .bool false :: .bool false :: .bool false :: .int .i64 ((m : Nat) : Int) :: .bool false :: .bool false :: .bool false :: .int .i64 ((m : Nat) : Int) :: .int .i64 ((n : Nat) : Int) :: .bool false :: .bool false :: undef :: undef :: undef :: undef :: undef :: undef :: undef :: undef :: undef :: undef :: undef :: undef :: undef :: undef :: undef :: undef :: undef :: undef :: undef :: undef :: undef :: undef :: undef :: undef :: undef :: undef :: undef :: undef :: undef :: undef :: undef :: undef :: undef :: undef :: undef :: undef :: undef :: undef :: undef :: undef :: undef :: undef :: undef :: undef :: undef :: undef :: undef :: undef :: undef :: undef :: undef :: undef :: undef :: undef :: undef :: undef :: []).toArray, defers := [] } := h.tm.trans (by kernel_rfl)
  obtain ⟨q1, q2, q3, q4⟩ := cuts_two (w := w) m n
  have hH := hide1 h
  have hz := q3.size
  clear h
  refine reg_gen fun QQ hQQ => ?_
  go_wp2_with fail
  refine (ahead_d _ _ _).mono ?_
  rintro e w' ⟨rfl, rfl⟩
  go_wp2_with fail
  refine hQQ.out _ _ ?_
  clear hQQ QQ
  refine go_base hH.out ((.inl (.int .i64 ((m : Nat) : Int))) :: (.inl (.int .i64 ((n : Nat) : Int))) :: (.inl (.agg (ab 32 O))) :: (.inl (.agg (ab 32 R))) :: (.inl (.slice ad N c1)) :: uu :: uu :: (.inr (0, pt 0)) :: (.inr (1, pt 0)) :: uu :: (.inl (.bool false)) :: (.inl (.func (.func 57) #[] #[.pointer (some ⟨w.heap.size, 0, none⟩), .pointer (some ⟨w.heap.size + 1, 0, none⟩)])) :: uu :: uu :: uu :: uu :: uu :: uu :: (.inl (.int .i64 ((n : Nat) : Int))) :: (.inl (.bool false)) :: (.inl (.bool false)) :: (.inl (.int .i64 ((n : Nat) : Int))) :: (.inl (.bool false)) :: (.inl (.bool false)) :: (.inl (.bool false)) :: (.inl (.int .i64 ((m : Nat) : Int))) :: (.inl (.bool false)) :: (.inl (.bool false)) :: (.inl (.bool false)) :: (.inl (.int .i64 ((m : Nat) : Int))) :: (.inl (.int .i64 ((n : Nat) : Int))) :: (.inl (.bool false)) :: (.inl (.bool false)) :: (.inl (.int .i64 ((m : Nat) : Int))) :: (.inl (.int .i64 ((n : Nat) : Int))) :: (.inl (.func (.func 57) #[] #[.pointer (some ⟨w.heap.size, 0, none⟩), .pointer (some ⟨w.heap.size + 1, 0, none⟩)])) :: uu :: uu :: uu :: uu :: uu :: uu :: uu :: uu :: uu :: uu :: uu :: uu :: uu :: uu :: uu :: uu :: uu :: uu :: uu :: uu :: uu :: uu :: uu :: uu :: uu :: uu :: uu :: uu :: uu :: uu :: uu :: uu :: uu :: uu :: uu :: uu :: uu :: uu :: uu :: uu :: uu :: uu :: uu :: uu :: uu :: uu :: uu :: uu :: uu :: uu :: uu :: uu :: uu :: []) q3 ?_ (by kernel_rfl)
  rintro W1b a n5 hn5 hk1b hfar h
  have hsq : ∀ v, KW W1b v → Bx v w.heap.size 3 (.int .i64 ((m : Nat) : Int)) ∧ Bx v (w.heap.size + 1) 3 (.int .i64 ((n : Nat) : Int)) := fun v hv => ⟨(hfar v hv w.heap.size (by omega) (by omega)).trans q1, (hfar v hv (w.heap.size + 1) (by omega) (by omega)).trans q2⟩
  clear hH q1 q2 q3 q4 hz hfar hn5
  generalize w.heap.size = n6 at *
  replace h := h.o0
  refine sym_then ?_
  refine sym_seq ?_
  refine St.rg h [(36, .inl (.agg (ab 32 O))), (12, .inr (2, pt 0))] [(ab 32 (fun _ => 0), 34)] [(2, ab 32 O)] [eR 0, eN 2, eS 2] ?_ ?_
  · exact oc (k_ld 0 0 (.agg (ab 32 O)) (c := ab 32 O) (ldS (F := O) 34) rfl rfl) <|
    oc (k_al 2 alS rfl rfl) <|
    oc (k_st 2 0 (.agg (ab 32 O)) (c := ab 32 (fun _ => 0)) (n := ab 32 O) (stS (F := O) (c := ab 32 (fun _ => 0)) 34 (ab_size _ _)) rfl rfl) <|
    ok_nil
  clear h; intro β a w h
  refine sym_then ?_
  refine sym_seq ?_
  refine sym_seq ?_
  refine St.r0 h [(37, .inl (.func (.func 57) #[] #[.pointer (some ⟨n6, 0, none⟩), .pointer (some ⟨n6 + 1, 0, none⟩)])), (38, .inl (.int .i64 ((s : Nat) : Int))), (39, .inl (.bool false))] [] ?_ ?_
  · exact oz (k_mv (.inl rfl) rfl) <|
    oz (k_cw 35 #[.func (.func 57) #[] #[.pointer (some ⟨n6, 0, none⟩), .pointer (some ⟨n6 + 1, 0, none⟩)]] (.int .i64 ((s : Nat) : Int)) (fun w hw => hst n6 w (hsq w hw).1 (hsq w hw).2) rfl rfl) <|
    oz (k_bi (.int .i64 ((s : Nat) : Int)) (.int .i64 ((0 : Nat) : Int)) (.bool false) (gt_i (m := ((s : Nat) : Int)) (n := ((0 : Nat) : Int)) (decide_eq_false (by omega))) rfl rfl) <|
    ok_nil
  clear h; intro β a w h
  refine sym_then ?_
  refine s_cf h ?_
  refine wp_skip ?_
  refine sym_then ?_
  refine sym_seq ?_
  replace h := St.cs h (s' := [.inl (.int .i64 ((m : Nat) : Int)), .inl (.int .i64 ((n : Nat) : Int)), .inl (.agg (ab 32 O)), .inl (.agg (ab 32 R)), .inl (.slice ad N c1), uu, uu, .inr (0, pt 0), .inr (1, pt 0), uu, .inl (.bool false), .inl (.func (.func 57) #[] #[.pointer (some ⟨n6, 0, none⟩), .pointer (some ⟨n6 + 1, 0, none⟩)]), .inr (2, pt 0), uu, uu, uu, uu, uu, .inl (.int .i64 ((n : Nat) : Int)), .inl (.bool false), .inl (.bool false), .inl (.int .i64 ((n : Nat) : Int)), .inl (.bool false), .inl (.bool false), .inl (.bool false), .inl (.int .i64 ((m : Nat) : Int)), .inl (.bool false), .inl (.bool false), .inl (.bool false), .inl (.int .i64 ((m : Nat) : Int)), .inl (.int .i64 ((n : Nat) : Int)), .inl (.bool false), .inl (.bool false), .inl (.int .i64 ((m : Nat) : Int)), .inl (.int .i64 ((n : Nat) : Int)), .inl (.func (.func 57) #[] #[.pointer (some ⟨n6, 0, none⟩), .pointer (some ⟨n6 + 1, 0, none⟩)]), .inl (.agg (ab 32 O)), .inl (.func (.func 57) #[] #[.pointer (some ⟨n6, 0, none⟩), .pointer (some ⟨n6 + 1, 0, none⟩)]), .inl (.int .i64 ((s : Nat) : Int)), .inl (.bool false), uu, uu, uu, uu, uu, uu, uu, uu, uu, uu, uu, uu, uu, uu, uu, uu, uu, uu, uu, uu, uu, uu, uu, uu, uu, uu, uu, uu, uu, uu, uu, uu, uu, uu, uu, uu, uu, uu, uu, uu, uu, uu, uu, uu, uu, uu, uu, uu, uu]) (m' := [(ab 32 O, 34), (ab 32 R, 34), (ab 32 O, 34)]) (by kernel_rfl) (by kernel_rfl)
  obtain rfl : a = { tmps := (.int .i64 ((m : Nat) : Int) :: .int .i64 ((n : Nat) : Int) :: .agg (ab 32 O) :: .agg (ab 32 R) :: .slice ad N c1 :: undef :: undef :: fv (pt 0) (β 0) :: fv (pt 0) (β 1) :: undef :: .bool false :: .func (.func 57) #[] #[.pointer (some ⟨n6, 0, none⟩), .pointer (some ⟨n6 + 1, 0, none⟩)] :: fv (pt 0) (β 2) :: undef :: undef :: undef :: undef :: undef :: .int .i64 ((n : Nat) : Int) :: .bool false :: .bool false :: .int .i64 ((n : Nat) : Int) :: .bool false :: .bool false :: .bool false :: .int .i64 ((m : Nat) : Int) :: .bool false :: .bool false :: .bool false :: .int .i64 ((m : Nat) : Int) :: .int .i64 ((n : Nat) : Int) :: .bool false :: .bool false :: .int .i64 ((m : Nat) : Int) :: .int .i64 ((n : Nat) : Int) :: .func (.func 57) #[] #[.pointer (some ⟨n6, 0, none⟩), .pointer (some ⟨n6 + 1, 0, none⟩)] :: .agg (ab 32 O) :: .func (.func 57) #[] #[.pointer (some ⟨n6, 0, none⟩), .pointer (some ⟨n6 + 1, 0, none⟩)] :: .int .i64 ((s : Nat) : Int) :: .bool false :: undef :: undef :: undef :: undef :: undef :: undef :: undef :: undef :: undef :: undef :: undef :: undef :: undef :: undef :: undef :: undef :: undef :: undef :: undef :: undef :: undef :: undef :: undef :: undef :: undef :: undef :: undef :: undef :: undef :: undef :: undef :: undef :: undef :: undef :: undef :: undef :: undef :: undef :: undef :: undef :: undef :: undef :: undef :: undef :: undef :: undef :: undef :: undef :: undef :: []).toArray, defers := [] } := h.tm.trans (by kernel_rfl)
  have hup := hup0 n6 w (hsq w h.bel).1 (hsq w h.bel).2
  have hH := hide1 h
  have hsH := hide1 hs
  clear h hs
  refine reg_gen fun QQ hQQ => ?_
  go_wp2_with fail
  refine hup.mono ?_
  rintro e w5 ⟨ca, cp, rfl, hcp, hcs0, hbl, hb5⟩
  clear hup
  go_wp2_with fail
  refine hQQ.out _ _ ?_
  clear hQQ QQ
  refine go_base hH.out ((.inl (.int .i64 ((m : Nat) : Int))) :: (.inl (.int .i64 ((n : Nat) : Int))) :: (.inl (.agg (ab 32 O))) :: (.inl (.agg (ab 32 R))) :: (.inl (.slice ad N c1)) :: uu :: uu :: (.inr (0, pt 0)) :: (.inr (1, pt 0)) :: uu :: (.inl (.bool false)) :: (.inl (.func (.func 57) #[] #[.pointer (some ⟨n6, 0, none⟩), .pointer (some ⟨n6 + 1, 0, none⟩)])) :: (.inr (2, pt 0)) :: (.inl (.slice ca N cp)) :: uu :: uu :: uu :: uu :: (.inl (.int .i64 ((n : Nat) : Int))) :: (.inl (.bool false)) :: (.inl (.bool false)) :: (.inl (.int .i64 ((n : Nat) : Int))) :: (.inl (.bool false)) :: (.inl (.bool false)) :: (.inl (.bool false)) :: (.inl (.int .i64 ((m : Nat) : Int))) :: (.inl (.bool false)) :: (.inl (.bool false)) :: (.inl (.bool false)) :: (.inl (.int .i64 ((m : Nat) : Int))) :: (.inl (.int .i64 ((n : Nat) : Int))) :: (.inl (.bool false)) :: (.inl (.bool false)) :: (.inl (.int .i64 ((m : Nat) : Int))) :: (.inl (.int .i64 ((n : Nat) : Int))) :: (.inl (.func (.func 57) #[] #[.pointer (some ⟨n6, 0, none⟩), .pointer (some ⟨n6 + 1, 0, none⟩)])) :: (.inl (.agg (ab 32 O))) :: (.inl (.func (.func 57) #[] #[.pointer (some ⟨n6, 0, none⟩), .pointer (some ⟨n6 + 1, 0, none⟩)])) :: (.inl (.int .i64 ((s : Nat) : Int))) :: (.inl (.bool false)) :: uu :: uu :: uu :: uu :: uu :: uu :: uu :: uu :: (.inl (.func (.func 57) #[] #[.pointer (some ⟨n6, 0, none⟩), .pointer (some ⟨n6 + 1, 0, none⟩)])) :: (.inl (.slice ca N cp)) :: uu :: uu :: uu :: uu :: uu :: uu :: uu :: uu :: uu :: uu :: uu :: uu :: uu :: uu :: uu :: uu :: uu :: uu :: uu :: uu :: uu :: uu :: uu :: uu :: uu :: uu :: uu :: uu :: uu :: uu :: uu :: uu :: uu :: uu :: uu :: uu :: uu :: uu :: uu :: []) hb5 ?_ (by kernel_rfl)
  rintro W2b a n8 hn8 hk2b hfar h
  have hcs : ∀ v, KW W2b v → CsAt v ca cs := fun v hv => hcs0.far (n := n8) (fun p h1 h2 => by have := hbl p (by omega) h2; omega) (hfar v hv)
  have hps : ∀ v, KW W2b v → SsAt v ad ps := fun v hv => hps0 v (hk1b.kw v (hk2b.kw v hv))
  have hgl : ∀ v, KW W2b v → Gl v := fun v hv => gl_b hg (KW.below (hk1b.kw v (hk2b.kw v hv)))
  obtain ⟨cb, ec⟩ : ∃ cb, 0 < N → ca = some ⟨cb, 0, none⟩ := cs_ad (hcs _ h.bel) lc
  have hs := hsH.out
  clear hfar hcs0 hbl hcp hH hb5 hn8 hsH
  generalize ca = cav at *
  replace h := h.o0
  refine sym_then ?_
  refine sym_seq ?_
  refine sym_seq ?_
  refine St.r0 h [(50, .inl (.slice cav N cp)), (51, .inl (.int .i64 ((N : Nat) : Int))), (52, .inl (.slice ad N c1)), (53, .inl (.int .i64 ((N : Nat) : Int))), (54, .inl (.bool false))] [] ?_ ?_
  · exact oz (k_mv (.inl rfl) rfl) <|
    oz (k_ln (ad := cav) N cp rfl rfl (fun w => len_cs _ w)) <|
    oz (k_mv (.inl rfl) rfl) <|
    oz (k_ln (ad := ad) N c1 rfl rfl (fun w => len_ss _ w)) <|
    oz (k_bi (.int .i64 ((N : Nat) : Int)) (.int .i64 ((N : Nat) : Int)) (.bool false) (ne_i (m := ((N : Nat) : Int)) (n := ((N : Nat) : Int)) (decide_eq_false (by omega))) rfl rfl) <|
    ok_nil
  clear h; intro β a w h
  refine sym_then ?_
  refine s_cf h ?_
  refine wp_skip ?_
  refine sym_then ?_
  refine sym_seq ?_
  refine St.rg h [(55, .inl (.agg (ab 32 O))), (56, .inl (.agg (ab 32 O))), (14, .inr (3, pt 0)), (15, .inr (4, pt 0))] [(ab 32 (fun _ => 0), 34), (ab 32 (fun _ => 0), 34)] [(3, ab 32 O), (4, ab 32 O)] [eR 2, eR 2, eN 3, eN 4, eS 3, eS 4] ?_ ?_
  · exact oc (k_ld 2 0 (.agg (ab 32 O)) (c := ab 32 O) (ldS (F := O) 34) rfl rfl) <|
    oc (k_ld 2 0 (.agg (ab 32 O)) (c := ab 32 O) (ldS (F := O) 34) rfl rfl) <|
    oc (k_al 3 alS rfl rfl) <|
    oc (k_al 4 alS rfl rfl) <|
    oc (k_st 3 0 (.agg (ab 32 O)) (c := ab 32 (fun _ => 0)) (n := ab 32 O) (stS (F := O) (c := ab 32 (fun _ => 0)) 34 (ab_size _ _)) rfl rfl) <|
    oc (k_st 4 0 (.agg (ab 32 O)) (c := ab 32 (fun _ => 0)) (n := ab 32 O) (stS (F := O) (c := ab 32 (fun _ => 0)) 34 (ab_size _ _)) rfl rfl) <|
    ok_nil
  clear h; intro β a w h
  refine sym_then ?_
  refine sym_seq ?_
  refine sym_seq ?_
  refine St.r0 h [(57, .inl (.slice cav N cp)), (58, .inl (.int .i64 ((N : Nat) : Int))), (59, .inl (.int .i64 ((0 : Nat) : Int)))] [] ?_ ?_
  · exact oz (k_mv (.inl rfl) rfl) <|
    oz (k_ln (ad := cav) N cp rfl rfl (fun w => len_cs _ w)) <|
    oz (k_mv (.inl rfl) rfl) <|
    ok_nil
  clear h; intro β a w h
  refine sym_then ?_
  refine blk_in ?_
  replace h := St.sm h 3 (ab 32 (firstL (cs.take 0) (ps.take 0) O)) (c := ab 32 O) (t := 34) (by rw [List.take_zero, List.take_zero]; rfl)
  replace h := St.sm h 4 (ab 32 (comeL (cs.take 0) (ps.take 0) O)) (c := ab 32 O) (t := 34) (by rw [List.take_zero, List.take_zero]; rfl)
  obtain ⟨x, h⟩ := St.jn (n := 89) h [0, 1, 2, 3, 4, 7, 8, 10, 11, 12, 13, 14, 15, 57, 58, 59] [.inl (.int .i64 ((m : Nat) : Int)), .inl (.int .i64 ((n : Nat) : Int)), .inl (.agg (ab 32 O)), .inl (.agg (ab 32 R)), .inl (.slice ad N c1), .inr (0, pt 0), .inr (1, pt 0), .inl (.bool false), .inl (.func (.func 57) #[] #[.pointer (some ⟨n6, 0, none⟩), .pointer (some ⟨n6 + 1, 0, none⟩)]), .inr (2, pt 0), .inl (.slice cav N cp), .inr (3, pt 0), .inr (4, pt 0), .inl (.slice cav N cp), .inl (.int .i64 ((N : Nat) : Int)), .inl (.int .i64 ((0 : Nat) : Int))] [(ab 32 O, 34), (ab 32 R, 34), (ab 32 O, 34), (ab 32 (firstL (cs.take 0) (ps.take 0) O), 34), (ab 32 (comeL (cs.take 0) (ps.take 0) O), 34)] (by kernel_rfl) (by kernel_rfl) (by kernel_rfl)
  refine loop_up N (fun k a w => ∃ (x : Nat → SV) (β : Nat → Nat), St (W2b) (ov (jk 89 x) ([0, 1, 2, 3, 4, 7, 8, 10, 11, 12, 13, 14, 15, 57, 58, 59].zip [.inl (.int .i64 ((m : Nat) : Int)), .inl (.int .i64 ((n : Nat) : Int)), .inl (.agg (ab 32 O)), .inl (.agg (ab 32 R)), .inl (.slice ad N c1), .inr (0, pt 0), .inr (1, pt 0), .inl (.bool false), .inl (.func (.func 57) #[] #[.pointer (some ⟨n6, 0, none⟩), .pointer (some ⟨n6 + 1, 0, none⟩)]), .inr (2, pt 0), .inl (.slice cav N cp), .inr (3, pt 0), .inr (4, pt 0), .inl (.slice cav N cp), .inl (.int .i64 ((N : Nat) : Int)), .inl (.int .i64 ((k : Nat) : Int))])) [(ab 32 O, 34), (ab 32 R, 34), (ab 32 O, 34), (ab 32 (firstL (cs.take k) (ps.take k) O), 34), (ab 32 (comeL (cs.take k) (ps.take k) O), 34)] β a w) ⟨x, _, h⟩ ?_
  clear h; rintro k a w hkk ⟨x, β, h⟩
  rcases Nat.lt_or_ge k N with hltk | hgek
  · rcases Bool.eq_false_or_eq_true (cs.getD k default).r with hcr | hcr
    · refine sym_seq ?_
      refine St.r0 h [(60, .inl (.bool true))] [] ?_ ?_
      · exact oz (k_bi (.int .i64 ((k : Nat) : Int)) (.int .i64 ((N : Nat) : Int)) (.bool true) (lt_i (m := ((k : Nat) : Int)) (n := ((N : Nat) : Int)) (decide_eq_true (by omega))) rfl rfl) <|
        ok_nil
      clear h; intro β a w h
      refine sym_then ?_
      refine sym_seq ?_
      refine s_ct h ?_
      refine wp_skip ?_
      refine sym_then ?_
      refine sym_seq ?_
      refine blk_in ?_
      refine sym_seq ?_
      refine St.rg h [(61, .inl (.int .i64 ((k : Nat) : Int))), (62, .inl (.pointer (some ⟨cb, k * 4, none⟩))), (63, .inl (.agg (cvA (cs.getD k default)))), (17, .inr (5, pt 0)), (16, .inl (.int .i64 ((k : Nat) : Int)))] [(cvA ⟨0, 0, 0, false⟩, 73)] [(5, cvA (cs.getD k default))] [nn, nn, nn, eN 5, nn, eS 5] ?_ ?_
      · exact oc (k_mv (.inl rfl) rfl) <|
        oc (k_is (.slice cav N cp) (.int .i64 ((k : Nat) : Int)) (.pointer (some ⟨cb, k * 4, none⟩)) (fun w => ix_ct ec (i := k) (by omega) w) rfl rfl) <|
        oc (k_lf (.pointer (some ⟨cb, k * 4, none⟩)) (.agg (cvA (cs.getD k default))) (fun w hw => ld_ct (hcs w hw) ec (by omega)) rfl rfl) <|
        oc (k_al 5 alC rfl rfl) <|
        oc (k_mv (.inr rfl) rfl) <|
        oc (k_st 5 0 (.agg (cvA (cs.getD k default))) (c := cvA ⟨0, 0, 0, false⟩) (n := cvA (cs.getD k default)) (stC (c := (cs.getD k default)) (d := cvA ⟨0, 0, 0, false⟩) 73 rfl) rfl rfl) <|
        ok_nil
      clear h; intro β a w h
      refine sym_then ?_
      refine sym_seq ?_
      refine St.rg h [(64, .inl (.agg (cvA (cs.getD k default)))), (65, .inl (.agg (ab 32 (comeL (cs.take k) (ps.take k) O)))), (66, .inl (.slice ad N c1)), (67, .inl (.int .i64 ((k : Nat) : Int))), (68, .inl (.pointer (some ⟨qb, qo + 32 * k, none⟩))), (69, .inl (.agg (ab 32 (ps.getD k fun _ => 0)))), (70, .inl (.agg (ab 32 (jn (cs.getD k default).r (comeL (cs.take k) (ps.take k) O) (ps.getD k fun _ => 0)))))] [] [(4, ab 32 (jn (cs.getD k default).r (comeL (cs.take k) (ps.take k) O) (ps.getD k fun _ => 0)))] [eR 5, eR 4, nn, nn, nn, nn, nn, eS 4] ?_ ?_
      · exact oc (k_ld 5 0 (.agg (cvA (cs.getD k default))) (c := cvA (cs.getD k default)) (ldC (c := (cs.getD k default)) 73) rfl rfl) <|
        oc (k_ld 4 0 (.agg (ab 32 (comeL (cs.take k) (ps.take k) O))) (c := ab 32 (comeL (cs.take k) (ps.take k) O)) (ldS (F := (comeL (cs.take k) (ps.take k) O)) 34) rfl rfl) <|
        oc (k_mv (.inl rfl) rfl) <|
        oc (k_mv (.inl rfl) rfl) <|
        oc (k_is (.slice ad N c1) (.int .i64 ((k : Nat) : Int)) (.pointer (some ⟨qb, qo + 32 * k, none⟩)) (fun w => ix_st2 ea (i := k) (by omega) w) rfl rfl) <|
        oc (k_lf (.pointer (some ⟨qb, qo + 32 * k, none⟩)) (.agg (ab 32 (ps.getD k fun _ => 0))) (fun w hw => ld_st2 (hps w hw) ea (by omega)) rfl rfl) <|
        oc (k_cw 41 #[.agg (cvA (cs.getD k default)), .agg (ab 32 (comeL (cs.take k) (ps.take k) O)), .agg (ab 32 (ps.getD k fun _ => 0))] (.agg (ab 32 (jn (cs.getD k default).r (comeL (cs.take k) (ps.take k) O) (ps.getD k fun _ => 0)))) (fun w hw => join_d (hgl w hw) (comeL_lt hF _ _) (getD_lt hpl _)) rfl rfl) <|
        oc (k_st 4 0 (.agg (ab 32 (jn (cs.getD k default).r (comeL (cs.take k) (ps.take k) O) (ps.getD k fun _ => 0)))) (c := ab 32 (comeL (cs.take k) (ps.take k) O)) (n := ab 32 (jn (cs.getD k default).r (comeL (cs.take k) (ps.take k) O) (ps.getD k fun _ => 0))) (stS (F := (jn (cs.getD k default).r (comeL (cs.take k) (ps.take k) O) (ps.getD k fun _ => 0))) (c := ab 32 (comeL (cs.take k) (ps.take k) O)) 34 (ab_size _ _)) rfl rfl) <|
        ok_nil
      clear h; intro β a w h
      refine sym_then ?_
      refine sym_seq ?_
      refine St.r0 h [(71, .inr (5, pt 3)), (72, .inl (.bool true))] [nn, eR 5] ?_ ?_
      · exact oc (k_fa 5 0 3 rfl rfl) <|
        oc (k_ld 5 3 (.bool true) (c := cvA (cs.getD k default)) (ldR (c := (cs.getD k default)) hcr 73) rfl rfl) <|
        ok_nil
      clear h; intro β a w h
      refine sym_then ?_
      refine s_ct h ?_
      refine St.rg h [(73, .inl (.agg (cvA (cs.getD k default)))), (74, .inl (.agg (ab 32 (firstL (cs.take k) (ps.take k) O)))), (75, .inl (.slice ad N c1)), (76, .inl (.int .i64 ((k : Nat) : Int))), (77, .inl (.pointer (some ⟨qb, qo + 32 * k, none⟩))), (78, .inl (.agg (ab 32 (ps.getD k fun _ => 0)))), (79, .inl (.agg (ab 32 (jn (cs.getD k default).r (firstL (cs.take k) (ps.take k) O) (ps.getD k fun _ => 0)))))] [] [(3, ab 32 (jn (cs.getD k default).r (firstL (cs.take k) (ps.take k) O) (ps.getD k fun _ => 0)))] [eR 5, eR 3, nn, nn, nn, nn, nn, eS 3] ?_ ?_
      · exact oc (k_ld 5 0 (.agg (cvA (cs.getD k default))) (c := cvA (cs.getD k default)) (ldC (c := (cs.getD k default)) 73) rfl rfl) <|
        oc (k_ld 3 0 (.agg (ab 32 (firstL (cs.take k) (ps.take k) O))) (c := ab 32 (firstL (cs.take k) (ps.take k) O)) (ldS (F := (firstL (cs.take k) (ps.take k) O)) 34) rfl rfl) <|
        oc (k_mv (.inl rfl) rfl) <|
        oc (k_mv (.inl rfl) rfl) <|
        oc (k_is (.slice ad N c1) (.int .i64 ((k : Nat) : Int)) (.pointer (some ⟨qb, qo + 32 * k, none⟩)) (fun w => ix_st2 ea (i := k) (by omega) w) rfl rfl) <|
        oc (k_lf (.pointer (some ⟨qb, qo + 32 * k, none⟩)) (.agg (ab 32 (ps.getD k fun _ => 0))) (fun w hw => ld_st2 (hps w hw) ea (by omega)) rfl rfl) <|
        oc (k_cw 41 #[.agg (cvA (cs.getD k default)), .agg (ab 32 (firstL (cs.take k) (ps.take k) O)), .agg (ab 32 (ps.getD k fun _ => 0))] (.agg (ab 32 (jn (cs.getD k default).r (firstL (cs.take k) (ps.take k) O) (ps.getD k fun _ => 0)))) (fun w hw => join_d (hgl w hw) (firstL_lt hF _ _) (getD_lt hpl _)) rfl rfl) <|
        oc (k_st 3 0 (.agg (ab 32 (jn (cs.getD k default).r (firstL (cs.take k) (ps.take k) O) (ps.getD k fun _ => 0)))) (c := ab 32 (firstL (cs.take k) (ps.take k) O)) (n := ab 32 (jn (cs.getD k default).r (firstL (cs.take k) (ps.take k) O) (ps.getD k fun _ => 0))) (stS (F := (jn (cs.getD k default).r (firstL (cs.take k) (ps.take k) O) (ps.getD k fun _ => 0))) (c := ab 32 (firstL (cs.take k) (ps.take k) O)) 34 (ab_size _ _)) rfl rfl) <|
        ok_nil
      clear h; intro β a w h
      refine blk_norm ?_
      refine sym_then ?_
      refine St.r0 h [(80, .inl (.int .i64 (((k + 1) : Nat) : Int))), (59, .inl (.int .i64 (((k + 1) : Nat) : Int)))] [eO] ?_ ?_
      · exact oc (k_b0 (.int .i64 ((k : Nat) : Int)) (.int .i64 ((1 : Nat) : Int)) (.int .i64 (((k + 1) : Nat) : Int)) (ad_i (m := k) (n := 1) (by omega)) rfl rfl) <|
        oz (k_mv (.inl rfl) rfl) <|
        ok_nil
      clear h; intro β a w h
      replace h := St.sm h 3 (ab 32 (firstL (cs.take (k + 1)) (ps.take (k + 1)) O)) (c := ab 32 (jn (cs.getD k default).r (firstL (cs.take k) (ps.take k) O) (ps.getD k fun _ => 0))) (t := 34) (by rw [fst_t lc lp hltk hcr])
      replace h := St.sm h 4 (ab 32 (comeL (cs.take (k + 1)) (ps.take (k + 1)) O)) (c := ab 32 (jn (cs.getD k default).r (comeL (cs.take k) (ps.take k) O) (ps.getD k fun _ => 0))) (t := 34) (by rw [come_step lc lp hltk])
      obtain ⟨x, h⟩ := St.jd (n := 89) h [0, 1, 2, 3, 4, 7, 8, 10, 11, 12, 13, 14, 15, 57, 58, 59] [.inl (.int .i64 ((m : Nat) : Int)), .inl (.int .i64 ((n : Nat) : Int)), .inl (.agg (ab 32 O)), .inl (.agg (ab 32 R)), .inl (.slice ad N c1), .inr (0, pt 0), .inr (1, pt 0), .inl (.bool false), .inl (.func (.func 57) #[] #[.pointer (some ⟨n6, 0, none⟩), .pointer (some ⟨n6 + 1, 0, none⟩)]), .inr (2, pt 0), .inl (.slice cav N cp), .inr (3, pt 0), .inr (4, pt 0), .inl (.slice cav N cp), .inl (.int .i64 ((N : Nat) : Int)), .inl (.int .i64 (((k + 1) : Nat) : Int))] [(ab 32 O, 34), (ab 32 R, 34), (ab 32 O, 34), (ab 32 (firstL (cs.take (k + 1)) (ps.take (k + 1)) O), 34), (ab 32 (comeL (cs.take (k + 1)) (ps.take (k + 1)) O), 34)] (by kernel_rfl) (by kernel_rfl) (by kernel_rfl) (by kernel_rfl) (fun _ _ h => by rw [hk2b.pn, hk1b.pn] at h; cases h)
      exact ⟨hltk, x, _, h⟩
    · refine sym_seq ?_
      refine St.r0 h [(60, .inl (.bool true))] [] ?_ ?_
      · exact oz (k_bi (.int .i64 ((k : Nat) : Int)) (.int .i64 ((N : Nat) : Int)) (.bool true) (lt_i (m := ((k : Nat) : Int)) (n := ((N : Nat) : Int)) (decide_eq_true (by omega))) rfl rfl) <|
        ok_nil
      clear h; intro β a w h
      refine sym_then ?_
      refine sym_seq ?_
      refine s_ct h ?_
      refine wp_skip ?_
      refine sym_then ?_
      refine sym_seq ?_
      refine blk_in ?_
      refine sym_seq ?_
      refine St.rg h [(61, .inl (.int .i64 ((k : Nat) : Int))), (62, .inl (.pointer (some ⟨cb, k * 4, none⟩))), (63, .inl (.agg (cvA (cs.getD k default)))), (17, .inr (5, pt 0)), (16, .inl (.int .i64 ((k : Nat) : Int)))] [(cvA ⟨0, 0, 0, false⟩, 73)] [(5, cvA (cs.getD k default))] [nn, nn, nn, eN 5, nn, eS 5] ?_ ?_
      · exact oc (k_mv (.inl rfl) rfl) <|
        oc (k_is (.slice cav N cp) (.int .i64 ((k : Nat) : Int)) (.pointer (some ⟨cb, k * 4, none⟩)) (fun w => ix_ct ec (i := k) (by omega) w) rfl rfl) <|
        oc (k_lf (.pointer (some ⟨cb, k * 4, none⟩)) (.agg (cvA (cs.getD k default))) (fun w hw => ld_ct (hcs w hw) ec (by omega)) rfl rfl) <|
        oc (k_al 5 alC rfl rfl) <|
        oc (k_mv (.inr rfl) rfl) <|
        oc (k_st 5 0 (.agg (cvA (cs.getD k default))) (c := cvA ⟨0, 0, 0, false⟩) (n := cvA (cs.getD k default)) (stC (c := (cs.getD k default)) (d := cvA ⟨0, 0, 0, false⟩) 73 rfl) rfl rfl) <|
        ok_nil
      clear h; intro β a w h
      refine sym_then ?_
      refine sym_seq ?_
      refine St.rg h [(64, .inl (.agg (cvA (cs.getD k default)))), (65, .inl (.agg (ab 32 (comeL (cs.take k) (ps.take k) O)))), (66, .inl (.slice ad N c1)), (67, .inl (.int .i64 ((k : Nat) : Int))), (68, .inl (.pointer (some ⟨qb, qo + 32 * k, none⟩))), (69, .inl (.agg (ab 32 (ps.getD k fun _ => 0)))), (70, .inl (.agg (ab 32 (jn (cs.getD k default).r (comeL (cs.take k) (ps.take k) O) (ps.getD k fun _ => 0)))))] [] [(4, ab 32 (jn (cs.getD k default).r (comeL (cs.take k) (ps.take k) O) (ps.getD k fun _ => 0)))] [eR 5, eR 4, nn, nn, nn, nn, nn, eS 4] ?_ ?_
      · exact oc (k_ld 5 0 (.agg (cvA (cs.getD k default))) (c := cvA (cs.getD k default)) (ldC (c := (cs.getD k default)) 73) rfl rfl) <|
        oc (k_ld 4 0 (.agg (ab 32 (comeL (cs.take k) (ps.take k) O))) (c := ab 32 (comeL (cs.take k) (ps.take k) O)) (ldS (F := (comeL (cs.take k) (ps.take k) O)) 34) rfl rfl) <|
        oc (k_mv (.inl rfl) rfl) <|
        oc (k_mv (.inl rfl) rfl) <|
        oc (k_is (.slice ad N c1) (.int .i64 ((k : Nat) : Int)) (.pointer (some ⟨qb, qo + 32 * k, none⟩)) (fun w => ix_st2 ea (i := k) (by omega) w) rfl rfl) <|
        oc (k_lf (.pointer (some ⟨qb, qo + 32 * k, none⟩)) (.agg (ab 32 (ps.getD k fun _ => 0))) (fun w hw => ld_st2 (hps w hw) ea (by omega)) rfl rfl) <|
        oc (k_cw 41 #[.agg (cvA (cs.getD k default)), .agg (ab 32 (comeL (cs.take k) (ps.take k) O)), .agg (ab 32 (ps.getD k fun _ => 0))] (.agg (ab 32 (jn (cs.getD k default).r (comeL (cs.take k) (ps.take k) O) (ps.getD k fun _ => 0)))) (fun w hw => join_d (hgl w hw) (comeL_lt hF _ _) (getD_lt hpl _)) rfl rfl) <|
        oc (k_st 4 0 (.agg (ab 32 (jn (cs.getD k default).r (comeL (cs.take k) (ps.take k) O) (ps.getD k fun _ => 0)))) (c := ab 32 (comeL (cs.take k) (ps.take k) O)) (n := ab 32 (jn (cs.getD k default).r (comeL (cs.take k) (ps.take k) O) (ps.getD k fun _ => 0))) (stS (F := (jn (cs.getD k default).r (comeL (cs.take k) (ps.take k) O) (ps.getD k fun _ => 0))) (c := ab 32 (comeL (cs.take k) (ps.take k) O)) 34 (ab_size _ _)) rfl rfl) <|
        ok_nil
      clear h; intro β a w h
      refine sym_then ?_
      refine sym_seq ?_
      refine St.r0 h [(71, .inr (5, pt 3)), (72, .inl (.bool false))] [nn, eR 5] ?_ ?_
      · exact oc (k_fa 5 0 3 rfl rfl) <|
        oc (k_ld 5 3 (.bool false) (c := cvA (cs.getD k default)) (ldR (c := (cs.getD k default)) hcr 73) rfl rfl) <|
        ok_nil
      clear h; intro β a w h
      refine sym_then ?_
      refine s_cf h ?_
      refine wp_skip ?_
      refine blk_norm ?_
      refine sym_then ?_
      refine St.r0 h [(80, .inl (.int .i64 (((k + 1) : Nat) : Int))), (59, .inl (.int .i64 (((k + 1) : Nat) : Int)))] [eO] ?_ ?_
      · exact oc (k_b0 (.int .i64 ((k : Nat) : Int)) (.int .i64 ((1 : Nat) : Int)) (.int .i64 (((k + 1) : Nat) : Int)) (ad_i (m := k) (n := 1) (by omega)) rfl rfl) <|
        oz (k_mv (.inl rfl) rfl) <|
        ok_nil
      clear h; intro β a w h
      replace h := St.sm h 3 (ab 32 (firstL (cs.take (k + 1)) (ps.take (k + 1)) O)) (c := ab 32 (firstL (cs.take k) (ps.take k) O)) (t := 34) (by rw [← fst_f lc lp hltk hcr])
      replace h := St.sm h 4 (ab 32 (comeL (cs.take (k + 1)) (ps.take (k + 1)) O)) (c := ab 32 (jn (cs.getD k default).r (comeL (cs.take k) (ps.take k) O) (ps.getD k fun _ => 0))) (t := 34) (by rw [come_step lc lp hltk])
      obtain ⟨x, h⟩ := St.jd (n := 89) h [0, 1, 2, 3, 4, 7, 8, 10, 11, 12, 13, 14, 15, 57, 58, 59] [.inl (.int .i64 ((m : Nat) : Int)), .inl (.int .i64 ((n : Nat) : Int)), .inl (.agg (ab 32 O)), .inl (.agg (ab 32 R)), .inl (.slice ad N c1), .inr (0, pt 0), .inr (1, pt 0), .inl (.bool false), .inl (.func (.func 57) #[] #[.pointer (some ⟨n6, 0, none⟩), .pointer (some ⟨n6 + 1, 0, none⟩)]), .inr (2, pt 0), .inl (.slice cav N cp), .inr (3, pt 0), .inr (4, pt 0), .inl (.slice cav N cp), .inl (.int .i64 ((N : Nat) : Int)), .inl (.int .i64 (((k + 1) : Nat) : Int))] [(ab 32 O, 34), (ab 32 R, 34), (ab 32 O, 34), (ab 32 (firstL (cs.take (k + 1)) (ps.take (k + 1)) O), 34), (ab 32 (comeL (cs.take (k + 1)) (ps.take (k + 1)) O), 34)] (by kernel_rfl) (by kernel_rfl) (by kernel_rfl) (by kernel_rfl) (fun _ _ h => by rw [hk2b.pn, hk1b.pn] at h; cases h)
      exact ⟨hltk, x, _, h⟩
  · obtain rfl : N = k := by omega
    refine sym_seq ?_
    refine St.r0 h [(60, .inl (.bool false))] [] ?_ ?_
    · exact oz (k_bi (.int .i64 ((N : Nat) : Int)) (.int .i64 ((N : Nat) : Int)) (.bool false) (lt_i (m := ((N : Nat) : Int)) (n := ((N : Nat) : Int)) (decide_eq_false (by omega))) rfl rfl) <|
      ok_nil
    clear h; intro β a w h
    refine sym_then ?_
    refine sym_seq ?_
    refine s_cf h ?_
    refine wp_exit ?_
    refine then_exit ?_
    refine then_exit ?_
    refine blk_exit ?_
    refine sym_then ?_
    refine sym_seq ?_
    refine St.r0 h [(81, .inl (.agg (ab 32 (firstL (cs.take N) (ps.take N) O)))), (82, .inl (.agg (ab 32 O))), (83, .inl (.bool true)), (84, .inl (.bool true)), (85, .inl (.agg (ab 32 (comeL (cs.take N) (ps.take N) O)))), (86, .inl (.agg (ab 32 R))), (87, .inl (.bool true)), (88, .inl (.bool true)), (10, .inl (.bool true))] [eR 3, eR 0, nn, nn, eR 4, eR 1] ?_ ?_
    · exact oc (k_ld 3 0 (.agg (ab 32 (firstL (cs.take N) (ps.take N) O))) (c := ab 32 (firstL (cs.take N) (ps.take N) O)) (ldS (F := (firstL (cs.take N) (ps.take N) O)) 34) rfl rfl) <|
      oc (k_ld 0 0 (.agg (ab 32 O)) (c := ab 32 O) (ldS (F := O) 34) rfl rfl) <|
      oc (k_bi (.agg (ab 32 (firstL (cs.take N) (ps.take N) O))) (.agg (ab 32 O)) (.bool true) (eqS_v hb1) rfl rfl) <|
      oc (k_mv (.inl rfl) rfl) <|
      oc (k_ld 4 0 (.agg (ab 32 (comeL (cs.take N) (ps.take N) O))) (c := ab 32 (comeL (cs.take N) (ps.take N) O)) (ldS (F := (comeL (cs.take N) (ps.take N) O)) 34) rfl rfl) <|
      oc (k_ld 1 0 (.agg (ab 32 R)) (c := ab 32 R) (ldS (F := R) 34) rfl rfl) <|
      oz (k_bi (.agg (ab 32 (comeL (cs.take N) (ps.take N) O))) (.agg (ab 32 R)) (.bool true) (eqS_v hb2) rfl rfl) <|
      oz (k_pt rfl rfl) <|
      oz (k_mv (.inr rfl) rfl) <|
      ok_nil
    clear h; intro β a w h
    refine sym_then ?_
    refine wp_ret ?_
    replace h := h.unb hk2b
    replace h := h.unb hk1b
    exact s_rt h Tryd.results14 (fun hb => ⟨rfl, hb⟩)
set_option maxHeartbeats 8000000 in
set_option maxRecDepth 100000 in
theorem ext0_tf {m n N c1 s qb qo : Nat} {ad : Option Addr} {cs : List Cu} {ps : List (Nat → Nat)} {O R : Nat → Nat} {W0 : World} (hg : Gl W0) (hm1 : 1 ≤ m) (hmn : m ≤ n) (hn : n ≤ 1048576) (hF : ∀ i, O i < 256) (hpl : ∀ P ∈ ps, ∀ j, P j < 256) (lc : cs.length = N) (lp : ps.length = N) (hN : N ≤ 1048576) (hs : s = 0)  (ea : 0 < N → ad = some ⟨qb, qo, none⟩) (hps0 : ∀ w, KW (wd W0) w → SsAt w ad ps) (hst : ∀ g w, Bx w g 3 (.int .i64 ((m : Nat) : Int)) → Bx w (g + 1) 3 (.int .i64 ((n : Nat) : Int)) → Calls Tryd.prog 35 #[.func (.func 57) #[] #[.pointer (some ⟨g, 0, none⟩), .pointer (some ⟨g + 1, 0, none⟩)]] w fun e w' => e = .returned (.int .i64 ((s : Nat) : Int)) ∧ Below w.heap.size w w') (hup0 : ∀ g w, Bx w g 3 (.int .i64 ((m : Nat) : Int)) → Bx w (g + 1) 3 (.int .i64 ((n : Nat) : Int)) → Calls Tryd.prog 40 #[.func (.func 57) #[] #[.pointer (some ⟨g, 0, none⟩), .pointer (some ⟨g + 1, 0, none⟩)]] w fun e W' => ∃ a cap, e = .returned (.slice a N cap) ∧ N ≤ cap ∧ CsAt W' a cs ∧ (∀ p, 0 < N → a = some p → w.heap.size ≤ p.block) ∧ Below w.heap.size w W') (hb1 : eqD (firstL (cs.take N) (ps.take N) O) O = true) (hb2 : eqD (comeL (cs.take N) (ps.take N) O) R = false) :
    Calls Tryd.prog 14 #[.int .i64 ((m : Nat) : Int), .int .i64 ((n : Nat) : Int), .agg (ab 32 O), .agg (ab 32 R), .slice ad N c1] W0 fun e w' => e = .returned (.bool false) ∧ Below W0.heap.size W0 w' := by
  refine s_in Tryd.func14 Tryd.ntmps14 rfl [.inl (.int .i64 ((m : Nat) : Int)), .inl (.int .i64 ((n : Nat) : Int)), .inl (.agg (ab 32 O)), .inl (.agg (ab 32 R)), .inl (.slice ad N c1)] ?_
  intro β a h
  refine sym_seq ?_
  refine St.rg h [(7, .inr (0, pt 0)), (8, .inr (1, pt 0)), (10, .inl (.bool false))] [(ab 32 O, 34), (ab 32 R, 34)] [] [eN 0, eN 1] ?_ ?_
  · exact oc (k_bx 0 (.agg (ab 32 O)) (bx_agg (P := Tryd.prog)) rfl rfl) <|
    oc (k_bx 1 (.agg (ab 32 R)) (bx_agg (P := Tryd.prog)) rfl rfl) <|
    oz (k_mv (.inr rfl) rfl) <|
    ok_nil
  clear h; intro β a w h
  refine sym_then ?_
  refine sym_seq ?_
  refine sym_seq ?_
  refine St.r0 h [(18, .inl (.int .i64 ((n : Nat) : Int))), (19, .inl (.bool false)), (20, .inl (.bool false)), (21, .inl (.int .i64 ((n : Nat) : Int))), (22, .inl (.bool false)), (23, .inl (.bool false)), (24, .inl (.bool false)), (25, .inl (.int .i64 ((m : Nat) : Int))), (26, .inl (.bool false)), (27, .inl (.bool false)), (28, .inl (.bool false)), (29, .inl (.int .i64 ((m : Nat) : Int))), (30, .inl (.int .i64 ((n : Nat) : Int))), (31, .inl (.bool false)), (32, .inl (.bool false))] [] ?_ ?_
  · exact oz (k_mv (.inl rfl) rfl) <|
    oz (k_bi (.int .i64 ((n : Nat) : Int)) (.int .i64 ((1 : Nat) : Int)) (.bool false) (lt_i (m := ((n : Nat) : Int)) (n := ((1 : Nat) : Int)) (decide_eq_false (by omega))) rfl rfl) <|
    oz (k_mv (.inl rfl) rfl) <|
    oz (k_mv (.inl rfl) rfl) <|
    oz (k_bi (.int .i64 ((n : Nat) : Int)) (.int .i64 ((1048576 : Nat) : Int)) (.bool false) (gt_i (m := ((n : Nat) : Int)) (n := ((1048576 : Nat) : Int)) (decide_eq_false (by omega))) rfl rfl) <|
    oz (k_pf rfl rfl) <|
    oz (k_mv (.inl rfl) rfl) <|
    oz (k_mv (.inl rfl) rfl) <|
    oz (k_bi (.int .i64 ((m : Nat) : Int)) (.int .i64 ((1 : Nat) : Int)) (.bool false) (lt_i (m := ((m : Nat) : Int)) (n := ((1 : Nat) : Int)) (decide_eq_false (by omega))) rfl rfl) <|
    oz (k_pf rfl rfl) <|
    oz (k_mv (.inl rfl) rfl) <|
    oz (k_mv (.inl rfl) rfl) <|
    oz (k_mv (.inl rfl) rfl) <|
    oz (k_bi (.int .i64 ((m : Nat) : Int)) (.int .i64 ((n : Nat) : Int)) (.bool false) (gt_i (m := ((m : Nat) : Int)) (n := ((n : Nat) : Int)) (decide_eq_false (by omega))) rfl rfl) <|
    oz (k_pf rfl rfl) <|
    ok_nil
  clear h; intro β a w h
  refine sym_then ?_
  refine s_cf h ?_
  refine wp_skip ?_
  refine sym_then ?_
  refine sym_seq ?_
  replace h := St.cs h (s' := [.inl (.int .i64 ((m : Nat) : Int)), .inl (.int .i64 ((n : Nat) : Int)), .inl (.agg (ab 32 O)), .inl (.agg (ab 32 R)), .inl (.slice ad N c1), uu, uu, .inr (0, pt 0), .inr (1, pt 0), uu, .inl (.bool false), uu, uu, uu, uu, uu, uu, uu, .inl (.int .i64 ((n : Nat) : Int)), .inl (.bool false), .inl (.bool false), .inl (.int .i64 ((n : Nat) : Int)), .inl (.bool false), .inl (.bool false), .inl (.bool false), .inl (.int .i64 ((m : Nat) : Int)), .inl (.bool false), .inl (.bool false), .inl (.bool false), .inl (.int .i64 ((m : Nat) : Int)), .inl (.int .i64 ((n : Nat) : Int)), .inl (.bool false), .inl (.bool false), uu, uu, uu, uu, uu, uu, uu, uu, uu, uu, uu, uu, uu, uu, uu, uu, uu, uu, uu, uu, uu, uu, uu, uu, uu, uu, uu, uu, uu, uu, uu, uu, uu, uu, uu, uu, uu, uu, uu, uu, uu, uu, uu, uu, uu, uu, uu, uu, uu, uu, uu, uu, uu, uu, uu, uu]) (m' := [(ab 32 O, 34), (ab 32 R, 34)]) (by kernel_rfl) (by kernel_rfl)
  obtain rfl : a = { tmps := (.int .i64 ((m : Nat) : Int) :: .int .i64 ((n : Nat) : Int) :: .agg (ab 32 O) :: .agg (ab 32 R) :: .slice ad N c1 :: undef :: undef :: fv (pt 0) (β 0) :: fv (pt 0) (β 1) :: undef :: .bool false :: undef :: undef :: undef :: undef :: undef :: undef :: undef :: .int .i64 ((n : Nat) : Int) :: .bool false :: .bool false :: .int .i64 ((n : Nat) : Int) :: .bool false :: .bool false :: .bool false :: .int .i64 ((m : Nat) : Int) :: .bool false :: .bool false :: .bool false :: .int .i64 ((m : Nat) : Int) :: .int .i64 ((n : Nat) : Int) :: .bool false :: .bool false :: undef :: undef :: undef :: undef :: undef :: undef :: undef :: undef :: undef :: undef :: undef :: undef :: undef :: undef :: undef :: undef :: undef :: undef :: undef :: undef :: undef :: undef :: undef :: undef :: undef :: undef :: undef :: undef :: undef :: undef :: undef :: undef :: undef :: undef :: undef :: undef :: undef :: undef :: undef :: undef :: undef :: undef :: undef :: undef :: undef :: undef :: undef :: undef :: undef :: undef :: undef :: undef :: undef :: undef :: undef :: undef :: []).toArray, defers := [] } := h.tm.trans (by kernel_rfl)
  obtain ⟨q1, q2, q3, q4⟩ := cuts_two (w := w) m n
  have hH := hide1 h
  have hz := q3.size
  clear h
  refine reg_gen fun QQ hQQ => ?_
  go_wp2_with fail
  refine (ahead_d _ _ _).mono ?_
  rintro e w' ⟨rfl, rfl⟩
  go_wp2_with fail
  refine hQQ.out _ _ ?_
  clear hQQ QQ
  refine go_base hH.out ((.inl (.int .i64 ((m : Nat) : Int))) :: (.inl (.int .i64 ((n : Nat) : Int))) :: (.inl (.agg (ab 32 O))) :: (.inl (.agg (ab 32 R))) :: (.inl (.slice ad N c1)) :: uu :: uu :: (.inr (0, pt 0)) :: (.inr (1, pt 0)) :: uu :: (.inl (.bool false)) :: (.inl (.func (.func 57) #[] #[.pointer (some ⟨w.heap.size, 0, none⟩), .pointer (some ⟨w.heap.size + 1, 0, none⟩)])) :: uu :: uu :: uu :: uu :: uu :: uu :: (.inl (.int .i64 ((n : Nat) : Int))) :: (.inl (.bool false)) :: (.inl (.bool false)) :: (.inl (.int .i64 ((n : Nat) : Int))) :: (.inl (.bool false)) :: (.inl (.bool false)) :: (.inl (.bool false)) :: (.inl (.int .i64 ((m : Nat) : Int))) :: (.inl (.bool false)) :: (.inl (.bool false)) :: (.inl (.bool false)) :: (.inl (.int .i64 ((m : Nat) : Int))) :: (.inl (.int .i64 ((n : Nat) : Int))) :: (.inl (.bool false)) :: (.inl (.bool false)) :: (.inl (.int .i64 ((m : Nat) : Int))) :: (.inl (.int .i64 ((n : Nat) : Int))) :: (.inl (.func (.func 57) #[] #[.pointer (some ⟨w.heap.size, 0, none⟩), .pointer (some ⟨w.heap.size + 1, 0, none⟩)])) :: uu :: uu :: uu :: uu :: uu :: uu :: uu :: uu :: uu :: uu :: uu :: uu :: uu :: uu :: uu :: uu :: uu :: uu :: uu :: uu :: uu :: uu :: uu :: uu :: uu :: uu :: uu :: uu :: uu :: uu :: uu :: uu :: uu :: uu :: uu :: uu :: uu :: uu :: uu :: uu :: uu :: uu :: uu :: uu :: uu :: uu :: uu :: uu :: uu :: uu :: uu :: uu :: uu :: []) q3 ?_ (by kernel_rfl)
  rintro W1b a n5 hn5 hk1b hfar h
  have hsq : ∀ v, KW W1b v → Bx v w.heap.size 3 (.int .i64 ((m : Nat) : Int)) ∧ Bx v (w.heap.size + 1) 3 (.int .i64 ((n : Nat) : Int)) := fun v hv => ⟨(hfar v hv w.heap.size (by omega) (by omega)).trans q1, (hfar v hv (w.heap.size + 1) (by omega) (by omega)).trans q2⟩
  clear hH q1 q2 q3 q4 hz hfar hn5
  generalize w.heap.size = n6 at *
  replace h := h.o0
  refine sym_then ?_
  refine sym_seq ?_
  refine St.rg h [(36, .inl (.agg (ab 32 O))), (12, .inr (2, pt 0))] [(ab 32 (fun _ => 0), 34)] [(2, ab 32 O)] [eR 0, eN 2, eS 2] ?_ ?_
  · exact oc (k_ld 0 0 (.agg (ab 32 O)) (c := ab 32 O) (ldS (F := O) 34) rfl rfl) <|
    oc (k_al 2 alS rfl rfl) <|
    oc (k_st 2 0 (.agg (ab 32 O)) (c := ab 32 (fun _ => 0)) (n := ab 32 O) (stS (F := O) (c := ab 32 (fun _ => 0)) 34 (ab_size _ _)) rfl rfl) <|
    ok_nil
  clear h; intro β a w h
  refine sym_then ?_
  refine sym_seq ?_
  refine sym_seq ?_
  refine St.r0 h [(37, .inl (.func (.func 57) #[] #[.pointer (some ⟨n6, 0, none⟩), .pointer (some ⟨n6 + 1, 0, none⟩)])), (38, .inl (.int .i64 ((s : Nat) : Int))), (39, .inl (.bool false))] [] ?_ ?_
  · exact oz (k_mv (.inl rfl) rfl) <|
    oz (k_cw 35 #[.func (.func 57) #[] #[.pointer (some ⟨n6, 0, none⟩), .pointer (some ⟨n6 + 1, 0, none⟩)]] (.int .i64 ((s : Nat) : Int)) (fun w hw => hst n6 w (hsq w hw).1 (hsq w hw).2) rfl rfl) <|
    oz (k_bi (.int .i64 ((s : Nat) : Int)) (.int .i64 ((0 : Nat) : Int)) (.bool false) (gt_i (m := ((s : Nat) : Int)) (n := ((0 : Nat) : Int)) (decide_eq_false (by omega))) rfl rfl) <|
    ok_nil
  clear h; intro β a w h
  refine sym_then ?_
  refine s_cf h ?_
  refine wp_skip ?_
  refine sym_then ?_
  refine sym_seq ?_
  replace h := St.cs h (s' := [.inl (.int .i64 ((m : Nat) : Int)), .inl (.int .i64 ((n : Nat) : Int)), .inl (.agg (ab 32 O)), .inl (.agg (ab 32 R)), .inl (.slice ad N c1), uu, uu, .inr (0, pt 0), .inr (1, pt 0), uu, .inl (.bool false), .inl (.func (.func 57) #[] #[.pointer (some ⟨n6, 0, none⟩), .pointer (some ⟨n6 + 1, 0, none⟩)]), .inr (2, pt 0), uu, uu, uu, uu, uu, .inl (.int .i64 ((n : Nat) : Int)), .inl (.bool false), .inl (.bool false), .inl (.int .i64 ((n : Nat) : Int)), .inl (.bool false), .inl (.bool false), .inl (.bool false), .inl (.int .i64 ((m : Nat) : Int)), .inl (.bool false), .inl (.bool false), .inl (.bool false), .inl (.int .i64 ((m : Nat) : Int)), .inl (.int .i64 ((n : Nat) : Int)), .inl (.bool false), .inl (.bool false), .inl (.int .i64 ((m : Nat) : Int)), .inl (.int .i64 ((n : Nat) : Int)), .inl (.func (.func 57) #[] #[.pointer (some ⟨n6, 0, none⟩), .pointer (some ⟨n6 + 1, 0, none⟩)]), .inl (.agg (ab 32 O)), .inl (.func (.func 57) #[] #[.pointer (some ⟨n6, 0, none⟩), .pointer (some ⟨n6 + 1, 0, none⟩)]), .inl (.int .i64 ((s : Nat) : Int)), .inl (.bool false), uu, uu, uu, uu, uu, uu, uu, uu, uu, uu, uu, uu, uu, uu, uu, uu, uu, uu, uu, uu, uu, uu, uu, uu, uu, uu, uu, uu, uu, uu, uu, uu, uu, uu, uu, uu, uu, uu, uu, uu, uu, uu, uu, uu, uu, uu, uu, uu, uu]) (m' := [(ab 32 O, 34), (ab 32 R, 34), (ab 32 O, 34)]) (by kernel_rfl) (by kernel_rfl)
  obtain rfl : a = { tmps := (.int .i64 ((m : Nat) : Int) :: .int .i64 ((n : Nat) : Int) :: .agg (ab 32 O) :: .agg (ab 32 R) :: .slice ad N c1 :: undef :: undef :: fv (pt 0) (β 0) :: fv (pt 0) (β 1) :: undef :: .bool false :: .func (.func 57) #[] #[.pointer (some ⟨n6, 0, none⟩), .pointer (some ⟨n6 + 1, 0, none⟩)] :: fv (pt 0) (β 2) :: undef :: undef :: undef :: undef :: undef :: .int .i64 ((n : Nat) : Int) :: .bool false :: .bool false :: .int .i64 ((n : Nat) : Int) :: .bool false :: .bool false :: .bool false :: .int .i64 ((m : Nat) : Int) :: .bool false :: .bool false :: .bool false :: .int .i64 ((m : Nat) : Int) :: .int .i64 ((n : Nat) : Int) :: .bool false :: .bool false :: .int .i64 ((m : Nat) : Int) :: .int .i64 ((n : Nat) : Int) :: .func (.func 57) #[] #[.pointer (some ⟨n6, 0, none⟩), .pointer (some ⟨n6 + 1, 0, none⟩)] :: .agg (ab 32 O) :: .func (.func 57) #[] #[.pointer (some ⟨n6, 0, none⟩), .pointer (some ⟨n6 + 1, 0, none⟩)] :: .int .i64 ((s : Nat) : Int) :: .bool false :: undef :: undef :: undef :: undef :: undef :: undef :: undef :: undef :: undef :: undef :: undef :: undef :: undef :: undef :: undef :: undef :: undef :: undef :: undef :: undef :: undef :: undef :: undef :: undef :: undef :: undef :: undef :: undef :: undef :: undef :: undef :: undef :: undef :: undef :: undef :: undef :: undef :: undef :: undef :: undef :: undef :: undef :: undef :: undef :: undef :: undef :: undef :: undef :: undef :: []).toArray, defers := [] } := h.tm.trans (by kernel_rfl)
  have hup := hup0 n6 w (hsq w h.bel).1 (hsq w h.bel).2
  have hH := hide1 h
  have hsH := hide1 hs
  clear h hs
  refine reg_gen fun QQ hQQ => ?_
  go_wp2_with fail
  refine hup.mono ?_
  rintro e w5 ⟨ca, cp, rfl, hcp, hcs0, hbl, hb5⟩
  clear hup
  go_wp2_with fail
  refine hQQ.out _ _ ?_
  clear hQQ QQ
  refine go_base hH.out ((.inl (.int .i64 ((m : Nat) : Int))) :: (.inl (.int .i64 ((n : Nat) : Int))) :: (.inl (.agg (ab 32 O))) :: (.inl (.agg (ab 32 R))) :: (.inl (.slice ad N c1)) :: uu :: uu :: (.inr (0, pt 0)) :: (.inr (1, pt 0)) :: uu :: (.inl (.bool false)) :: (.inl (.func (.func 57) #[] #[.pointer (some ⟨n6, 0, none⟩), .pointer (some ⟨n6 + 1, 0, none⟩)])) :: (.inr (2, pt 0)) :: (.inl (.slice ca N cp)) :: uu :: uu :: uu :: uu :: (.inl (.int .i64 ((n : Nat) : Int))) :: (.inl (.bool false)) :: (.inl (.bool false)) :: (.inl (.int .i64 ((n : Nat) : Int))) :: (.inl (.bool false)) :: (.inl (.bool false)) :: (.inl (.bool false)) :: (.inl (.int .i64 ((m : Nat) : Int))) :: (.inl (.bool false)) :: (.inl (.bool false)) :: (.inl (.bool false)) :: (.inl (.int .i64 ((m : Nat) : Int))) :: (.inl (.int .i64 ((n : Nat) : Int))) :: (.inl (.bool false)) :: (.inl (.bool false)) :: (.inl (.int .i64 ((m : Nat) : Int))) :: (.inl (.int .i64 ((n : Nat) : Int))) :: (.inl (.func (.func 57) #[] #[.pointer (some ⟨n6, 0, none⟩), .pointer (some ⟨n6 + 1, 0, none⟩)])) :: (.inl (.agg (ab 32 O))) :: (.inl (.func (.func 57) #[] #[.pointer (some ⟨n6, 0, none⟩), .pointer (some ⟨n6 + 1, 0, none⟩)])) :: (.inl (.int .i64 ((s : Nat) : Int))) :: (.inl (.bool false)) :: uu :: uu :: uu :: uu :: uu :: uu :: uu :: uu :: (.inl (.func (.func 57) #[] #[.pointer (some ⟨n6, 0, none⟩), .pointer (some ⟨n6 + 1, 0, none⟩)])) :: (.inl (.slice ca N cp)) :: uu :: uu :: uu :: uu :: uu :: uu :: uu :: uu :: uu :: uu :: uu :: uu :: uu :: uu :: uu :: uu :: uu :: uu :: uu :: uu :: uu :: uu :: uu :: uu :: uu :: uu :: uu :: uu :: uu :: uu :: uu :: uu :: uu :: uu :: uu :: uu :: uu :: uu :: uu :: []) hb5 ?_ (by kernel_rfl)
  rintro W2b a n8 hn8 hk2b hfar h
  have hcs : ∀ v, KW W2b v → CsAt v ca cs := fun v hv => hcs0.far (n := n8) (fun p h1 h2 => by have := hbl p (by omega) h2; omega) (hfar v hv)
  have hps : ∀ v, KW W2b v → SsAt v ad ps := fun v hv => hps0 v (hk1b.kw v (hk2b.kw v hv))
  have hgl : ∀ v, KW W2b v → Gl v := fun v hv => gl_b hg (KW.below (hk1b.kw v (hk2b.kw v hv)))
  obtain ⟨cb, ec⟩ : ∃ cb, 0 < N → ca = some ⟨cb, 0, none⟩ := cs_ad (hcs _ h.bel) lc
  have hs := hsH.out
  clear hfar hcs0 hbl hcp hH hb5 hn8 hsH
  generalize ca = cav at *
  replace h := h.o0
  refine sym_then ?_
  refine sym_seq ?_
  refine sym_seq ?_
  refine St.r0 h [(50, .inl (.slice cav N cp)), (51, .inl (.int .i64 ((N : Nat) : Int))), (52, .inl (.slice ad N c1)), (53, .inl (.int .i64 ((N : Nat) : Int))), (54, .inl (.bool false))] [] ?_ ?_
  · exact oz (k_mv (.inl rfl) rfl) <|
    oz (k_ln (ad := cav) N cp rfl rfl (fun w => len_cs _ w)) <|
    oz (k_mv (.inl rfl) rfl) <|
    oz (k_ln (ad := ad) N c1 rfl rfl (fun w => len_ss _ w)) <|
    oz (k_bi (.int .i64 ((N : Nat) : Int)) (.int .i64 ((N : Nat) : Int)) (.bool false) (ne_i (m := ((N : Nat) : Int)) (n := ((N : Nat) : Int)) (decide_eq_false (by omega))) rfl rfl) <|
    ok_nil
  clear h; intro β a w h
  refine sym_then ?_
  refine s_cf h ?_
  refine wp_skip ?_
  refine sym_then ?_
  refine sym_seq ?_
  refine St.rg h [(55, .inl (.agg (ab 32 O))), (56, .inl (.agg (ab 32 O))), (14, .inr (3, pt 0)), (15, .inr (4, pt 0))] [(ab 32 (fun _ => 0), 34), (ab 32 (fun _ => 0), 34)] [(3, ab 32 O), (4, ab 32 O)] [eR 2, eR 2, eN 3, eN 4, eS 3, eS 4] ?_ ?_
  · exact oc (k_ld 2 0 (.agg (ab 32 O)) (c := ab 32 O) (ldS (F := O) 34) rfl rfl) <|
    oc (k_ld 2 0 (.agg (ab 32 O)) (c := ab 32 O) (ldS (F := O) 34) rfl rfl) <|
    oc (k_al 3 alS rfl rfl) <|
    oc (k_al 4 alS rfl rfl) <|
    oc (k_st 3 0 (.agg (ab 32 O)) (c := ab 32 (fun _ => 0)) (n := ab 32 O) (stS (F := O) (c := ab 32 (fun _ => 0)) 34 (ab_size _ _)) rfl rfl) <|
    oc (k_st 4 0 (.agg (ab 32 O)) (c := ab 32 (fun _ => 0)) (n := ab 32 O) (stS (F := O) (c := ab 32 (fun _ => 0)) 34 (ab_size _ _)) rfl rfl) <|
    ok_nil
  clear h; intro β a w h
  refine sym_then ?_
  refine sym_seq ?_
  refine sym_seq ?_
  refine St.r0 h [(57, .inl (.slice cav N cp)), (58, .inl (.int .i64 ((N : Nat) : Int))), (59, .inl (.int .i64 ((0 : Nat) : Int)))] [] ?_ ?_
  · exact oz (k_mv (.inl rfl) rfl) <|
    oz (k_ln (ad := cav) N cp rfl rfl (fun w => len_cs _ w)) <|
    oz (k_mv (.inl rfl) rfl) <|
    ok_nil
  clear h; intro β a w h
  refine sym_then ?_
  refine blk_in ?_
  replace h := St.sm h 3 (ab 32 (firstL (cs.take 0) (ps.take 0) O)) (c := ab 32 O) (t := 34) (by rw [List.take_zero, List.take_zero]; rfl)
  replace h := St.sm h 4 (ab 32 (comeL (cs.take 0) (ps.take 0) O)) (c := ab 32 O) (t := 34) (by rw [List.take_zero, List.take_zero]; rfl)
  obtain ⟨x, h⟩ := St.jn (n := 89) h [0, 1, 2, 3, 4, 7, 8, 10, 11, 12, 13, 14, 15, 57, 58, 59] [.inl (.int .i64 ((m : Nat) : Int)), .inl (.int .i64 ((n : Nat) : Int)), .inl (.agg (ab 32 O)), .inl (.agg (ab 32 R)), .inl (.slice ad N c1), .inr (0, pt 0), .inr (1, pt 0), .inl (.bool false), .inl (.func (.func 57) #[] #[.pointer (some ⟨n6, 0, none⟩), .pointer (some ⟨n6 + 1, 0, none⟩)]), .inr (2, pt 0), .inl (.slice cav N cp), .inr (3, pt 0), .inr (4, pt 0), .inl (.slice cav N cp), .inl (.int .i64 ((N : Nat) : Int)), .inl (.int .i64 ((0 : Nat) : Int))] [(ab 32 O, 34), (ab 32 R, 34), (ab 32 O, 34), (ab 32 (firstL (cs.take 0) (ps.take 0) O), 34), (ab 32 (comeL (cs.take 0) (ps.take 0) O), 34)] (by kernel_rfl) (by kernel_rfl) (by kernel_rfl)
  refine loop_up N (fun k a w => ∃ (x : Nat → SV) (β : Nat → Nat), St (W2b) (ov (jk 89 x) ([0, 1, 2, 3, 4, 7, 8, 10, 11, 12, 13, 14, 15, 57, 58, 59].zip [.inl (.int .i64 ((m : Nat) : Int)), .inl (.int .i64 ((n : Nat) : Int)), .inl (.agg (ab 32 O)), .inl (.agg (ab 32 R)), .inl (.slice ad N c1), .inr (0, pt 0), .inr (1, pt 0), .inl (.bool false), .inl (.func (.func 57) #[] #[.pointer (some ⟨n6, 0, none⟩), .pointer (some ⟨n6 + 1, 0, none⟩)]), .inr (2, pt 0), .inl (.slice cav N cp), .inr (3, pt 0), .inr (4, pt 0), .inl (.slice cav N cp), .inl (.int .i64 ((N : Nat) : Int)), .inl (.int .i64 ((k : Nat) : Int))])) [(ab 32 O, 34), (ab 32 R, 34), (ab 32 O, 34), (ab 32 (firstL (cs.take k) (ps.take k) O), 34), (ab 32 (comeL (cs.take k) (ps.take k) O), 34)] β a w) ⟨x, _, h⟩ ?_
  clear h; rintro k a w hkk ⟨x, β, h⟩
  rcases Nat.lt_or_ge k N with hltk | hgek
  · rcases Bool.eq_false_or_eq_true (cs.getD k default).r with hcr | hcr
    · refine sym_seq ?_
      refine St.r0 h [(60, .inl (.bool true))] [] ?_ ?_
      · exact oz (k_bi (.int .i64 ((k : Nat) : Int)) (.int .i64 ((N : Nat) : Int)) (.bool true) (lt_i (m := ((k : Nat) : Int)) (n := ((N : Nat) : Int)) (decide_eq_true (by omega))) rfl rfl) <|
        ok_nil
      clear h; intro β a w h
      refine sym_then ?_
      refine sym_seq ?_
      refine s_ct h ?_
      refine wp_skip ?_
      refine sym_then ?_
      refine sym_seq ?_
      refine blk_in ?_
      refine sym_seq ?_
      refine St.rg h [(61, .inl (.int .i64 ((k : Nat) : Int))), (62, .inl (.pointer (some ⟨cb, k * 4, none⟩))), (63, .inl (.agg (cvA (cs.getD k default)))), (17, .inr (5, pt 0)), (16, .inl (.int .i64 ((k : Nat) : Int)))] [(cvA ⟨0, 0, 0, false⟩, 73)] [(5, cvA (cs.getD k default))] [nn, nn, nn, eN 5, nn, eS 5] ?_ ?_
      · exact oc (k_mv (.inl rfl) rfl) <|
        oc (k_is (.slice cav N cp) (.int .i64 ((k : Nat) : Int)) (.pointer (some ⟨cb, k * 4, none⟩)) (fun w => ix_ct ec (i := k) (by omega) w) rfl rfl) <|
        oc (k_lf (.pointer (some ⟨cb, k * 4, none⟩)) (.agg (cvA (cs.getD k default))) (fun w hw => ld_ct (hcs w hw) ec (by omega)) rfl rfl) <|
        oc (k_al 5 alC rfl rfl) <|
        oc (k_mv (.inr rfl) rfl) <|
        oc (k_st 5 0 (.agg (cvA (cs.getD k default))) (c := cvA ⟨0, 0, 0, false⟩) (n := cvA (cs.getD k default)) (stC (c := (cs.getD k default)) (d := cvA ⟨0, 0, 0, false⟩) 73 rfl) rfl rfl) <|
        ok_nil
      clear h; intro β a w h
      refine sym_then ?_
      refine sym_seq ?_
      refine St.rg h [(64, .inl (.agg (cvA (cs.getD k default)))), (65, .inl (.agg (ab 32 (comeL (cs.take k) (ps.take k) O)))), (66, .inl (.slice ad N c1)), (67, .inl (.int .i64 ((k : Nat) : Int))), (68, .inl (.pointer (some ⟨qb, qo + 32 * k, none⟩))), (69, .inl (.agg (ab 32 (ps.getD k fun _ => 0)))), (70, .inl (.agg (ab 32 (jn (cs.getD k default).r (comeL (cs.take k) (ps.take k) O) (ps.getD k fun _ => 0)))))] [] [(4, ab 32 (jn (cs.getD k default).r (comeL (cs.take k) (ps.take k) O) (ps.getD k fun _ => 0)))] [eR 5, eR 4, nn, nn, nn, nn, nn, eS 4] ?_ ?_
      · exact oc (k_ld 5 0 (.agg (cvA (cs.getD k default))) (c := cvA (cs.getD k default)) (ldC (c := (cs.getD k default)) 73) rfl rfl) <|
        oc (k_ld 4 0 (.agg (ab 32 (comeL (cs.take k) (ps.take k) O))) (c := ab 32 (comeL (cs.take k) (ps.take k) O)) (ldS (F := (comeL (cs.take k) (ps.take k) O)) 34) rfl rfl) <|
        oc (k_mv (.inl rfl) rfl) <|
        oc (k_mv (.inl rfl) rfl) <|
        oc (k_is (.slice ad N c1) (.int .i64 ((k : Nat) : Int)) (.pointer (some ⟨qb, qo + 32 * k, none⟩)) (fun w => ix_st2 ea (i := k) (by omega) w) rfl rfl) <|
        oc (k_lf (.pointer (some ⟨qb, qo + 32 * k, none⟩)) (.agg (ab 32 (ps.getD k fun _ => 0))) (fun w hw => ld_st2 (hps w hw) ea (by omega)) rfl rfl) <|
        oc (k_cw 41 #[.agg (cvA (cs.getD k default)), .agg (ab 32 (comeL (cs.take k) (ps.take k) O)), .agg (ab 32 (ps.getD k fun _ => 0))] (.agg (ab 32 (jn (cs.getD k default).r (comeL (cs.take k) (ps.take k) O) (ps.getD k fun _ => 0)))) (fun w hw => join_d (hgl w hw) (comeL_lt hF _ _) (getD_lt hpl _)) rfl rfl) <|
        oc (k_st 4 0 (.agg (ab 32 (jn (cs.getD k default).r (comeL (cs.take k) (ps.take k) O) (ps.getD k fun _ => 0)))) (c := ab 32 (comeL (cs.take k) (ps.take k) O)) (n := ab 32 (jn (cs.getD k default).r (comeL (cs.take k) (ps.take k) O) (ps.getD k fun _ => 0))) (stS (F := (jn (cs.getD k default).r (comeL (cs.take k) (ps.take k) O) (ps.getD k fun _ => 0))) (c := ab 32 (comeL (cs.take k) (ps.take k) O)) 34 (ab_size _ _)) rfl rfl) <|
        ok_nil
      clear h; intro β a w h
      refine sym_then ?_
      refine sym_seq ?_
      refine St.r0 h [(71, .inr (5, pt 3)), (72, .inl (.bool true))] [nn, eR 5] ?_ ?_
      · exact oc (k_fa 5 0 3 rfl rfl) <|
        oc (k_ld 5 3 (.bool true) (c := cvA (cs.getD k default)) (ldR (c := (cs.getD k default)) hcr 73) rfl rfl) <|
        ok_nil
      clear h; intro β a w h
      refine sym_then ?_
      refine s_ct h ?_
      refine St.rg h [(73, .inl (.agg (cvA (cs.getD k default)))), (74, .inl (.agg (ab 32 (firstL (cs.take k) (ps.take k) O)))), (75, .inl (.slice ad N c1)), (76, .inl (.int .i64 ((k : Nat) : Int))), (77, .inl (.pointer (some ⟨qb, qo + 32 * k, none⟩))), (78, .inl (.agg (ab 32 (ps.getD k fun _ => 0)))), (79, .inl (.agg (ab 32 (jn (cs.getD k default).r (firstL (cs.take k) (ps.take k) O) (ps.getD k fun _ => 0)))))] [] [(3, ab 32 (jn (cs.getD k default).r (firstL (cs.take k) (ps.take k) O) (ps.getD k fun _ => 0)))] [eR 5, eR 3, nn, nn, nn, nn, nn, eS 3] ?_ ?_
      · exact oc (k_ld 5 0 (.agg (cvA (cs.getD k default))) (c := cvA (cs.getD k default)) (ldC (c := (cs.getD k default)) 73) rfl rfl) <|
        oc (k_ld 3 0 (.agg (ab 32 (firstL (cs.take k) (ps.take k) O))) (c := ab 32 (firstL (cs.take k) (ps.take k) O)) (ldS (F := (firstL (cs.take k) (ps.take k) O)) 34) rfl rfl) <|
        oc (k_mv (.inl rfl) rfl) <|
        oc (k_mv (.inl rfl) rfl) <|
        oc (k_is (.slice ad N c1) (.int .i64 ((k : Nat) : Int)) (.pointer (some ⟨qb, qo + 32 * k, none⟩)) (fun w => ix_st2 ea (i := k) (by omega) w) rfl rfl) <|
        oc (k_lf (.pointer (some ⟨qb, qo + 32 * k, none⟩)) (.agg (ab 32 (ps.getD k fun _ => 0))) (fun w hw => ld_st2 (hps w hw) ea (by omega)) rfl rfl) <|
        oc (k_cw 41 #[.agg (cvA (cs.getD k default)), .agg (ab 32 (firstL (cs.take k) (ps.take k) O)), .agg (ab 32 (ps.getD k fun _ => 0))] (.agg (ab 32 (jn (cs.getD k default).r (firstL (cs.take k) (ps.take k) O) (ps.getD k fun _ => 0)))) (fun w hw => join_d (hgl w hw) (firstL_lt hF _ _) (getD_lt hpl _)) rfl rfl) <|
        oc (k_st 3 0 (.agg (ab 32 (jn (cs.getD k default).r (firstL (cs.take k) (ps.take k) O) (ps.getD k fun _ => 0)))) (c := ab 32 (firstL (cs.take k) (ps.take k) O)) (n := ab 32 (jn (cs.getD k default).r (firstL (cs.take k) (ps.take k) O) (ps.getD k fun _ => 0))) (stS (F := (jn (cs.getD k default).r (firstL (cs.take k) (ps.take k) O) (ps.getD k fun _ => 0))) (c := ab 32 (firstL (cs.take k) (ps.take k) O)) 34 (ab_size _ _)) rfl rfl) <|
        ok_nil
      clear h; intro β a w h
      refine blk_norm ?_
      refine sym_then ?_
      refine St.r0 h [(80, .inl (.int .i64 (((k + 1) : Nat) : Int))), (59, .inl (.int .i64 (((k + 1) : Nat) : Int)))] [eO] ?_ ?_
      · exact oc (k_b0 (.int .i64 ((k : Nat) : Int)) (.int .i64 ((1 : Nat) : Int)) (.int .i64 (((k + 1) : Nat) : Int)) (ad_i (m := k) (n := 1) (by omega)) rfl rfl) <|
        oz (k_mv (.inl rfl) rfl) <|
        ok_nil
      clear h; intro β a w h
      replace h := St.sm h 3 (ab 32 (firstL (cs.take (k + 1)) (ps.take (k + 1)) O)) (c := ab 32 (jn (cs.getD k default).r (firstL (cs.take k) (ps.take k) O) (ps.getD k fun _ => 0))) (t := 34) (by rw [fst_t lc lp hltk hcr])
      replace h := St.sm h 4 (ab 32 (comeL (cs.take (k + 1)) (ps.take (k + 1)) O)) (c := ab 32 (jn (cs.getD k default).r (comeL (cs.take k) (ps.take k) O) (ps.getD k fun _ => 0))) (t := 34) (by rw [come_step lc lp hltk])
      obtain ⟨x, h⟩ := St.jd (n := 89) h [0, 1, 2, 3, 4, 7, 8, 10, 11, 12, 13, 14, 15, 57, 58, 59] [.inl (.int .i64 ((m : Nat) : Int)), .inl (.int .i64 ((n : Nat) : Int)), .inl (.agg (ab 32 O)), .inl (.agg (ab 32 R)), .inl (.slice ad N c1), .inr (0, pt 0), .inr (1, pt 0), .inl (.bool false), .inl (.func (.func 57) #[] #[.pointer (some ⟨n6, 0, none⟩), .pointer (some ⟨n6 + 1, 0, none⟩)]), .inr (2, pt 0), .inl (.slice cav N cp), .inr (3, pt 0), .inr (4, pt 0), .inl (.slice cav N cp), .inl (.int .i64 ((N : Nat) : Int)), .inl (.int .i64 (((k + 1) : Nat) : Int))] [(ab 32 O, 34), (ab 32 R, 34), (ab 32 O, 34), (ab 32 (firstL (cs.take (k + 1)) (ps.take (k + 1)) O), 34), (ab 32 (comeL (cs.take (k + 1)) (ps.take (k + 1)) O), 34)] (by kernel_rfl) (by kernel_rfl) (by kernel_rfl) (by kernel_rfl) (fun _ _ h => by rw [hk2b.pn, hk1b.pn] at h; cases h)
      exact ⟨hltk, x, _, h⟩
    · refine sym_seq ?_
      refine St.r0 h [(60, .inl (.bool true))] [] ?_ ?_
      · exact oz (k_bi (.int .i64 ((k : Nat) : Int)) (.int .i64 ((N : Nat) : Int)) (.bool true) (lt_i (m := ((k : Nat) : Int)) (n := ((N : Nat) : Int)) (decide_eq_true (by omega))) rfl rfl) <|
        ok_nil
      clear h; intro β a w h
      refine sym_then ?_
      refine sym_seq ?_
      refine s_ct h ?_
      refine wp_skip ?_
      refine sym_then ?_
      refine sym_seq ?_
      refine blk_in ?_
      refine sym_seq ?_
      refine St.rg h [(61, .inl (.int .i64 ((k : Nat) : Int))), (62, .inl (.pointer (some ⟨cb, k * 4, none⟩))), (63, .inl (.agg (cvA (cs.getD k default)))), (17, .inr (5, pt 0)), (16, .inl (.int .i64 ((k : Nat) : Int)))] [(cvA ⟨0, 0, 0, false⟩, 73)] [(5, cvA (cs.getD k default))] [nn, nn, nn, eN 5, nn, eS 5] ?_ ?_
      · exact oc (k_mv (.inl rfl) rfl) <|
        oc (k_is (.slice cav N cp) (.int .i64 ((k : Nat) : Int)) (.pointer (some ⟨cb, k * 4, none⟩)) (fun w => ix_ct ec (i := k) (by omega) w) rfl rfl) <|
        oc (k_lf (.pointer (some ⟨cb, k * 4, none⟩)) (.agg (cvA (cs.getD k default))) (fun w hw => ld_ct (hcs w hw) ec (by omega)) rfl rfl) <|
        oc (k_al 5 alC rfl rfl) <|
        oc (k_mv (.inr rfl) rfl) <|
        oc (k_st 5 0 (.agg (cvA (cs.getD k default))) (c := cvA ⟨0, 0, 0, false⟩) (n := cvA (cs.getD k default)) (stC (c := (cs.getD k default)) (d := cvA ⟨0, 0, 0, false⟩) 73 rfl) rfl rfl) <|
        ok_nil
      clear h; intro β a w h
      refine sym_then ?_
      refine sym_seq ?_
      refine St.rg h [(64, .inl (.agg (cvA (cs.getD k default)))), (65, .inl (.agg (ab 32 (comeL (cs.take k) (ps.take k) O)))), (66, .inl (.slice ad N c1)), (67, .inl (.int .i64 ((k : Nat) : Int))), (68, .inl (.pointer (some ⟨qb, qo + 32 * k, none⟩))), (69, .inl (.agg (ab 32 (ps.getD k fun _ => 0)))), (70, .inl (.agg (ab 32 (jn (cs.getD k default).r (comeL (cs.take k) (ps.take k) O) (ps.getD k fun _ => 0)))))] [] [(4, ab 32 (jn (cs.getD k default).r (comeL (cs.take k) (ps.take k) O) (ps.getD k fun _ => 0)))] [eR 5, eR 4, nn, nn, nn, nn, nn, eS 4] ?_ ?_
      · exact oc (k_ld 5 0 (.agg (cvA (cs.getD k default))) (c := cvA (cs.getD k default)) (ldC (c := (cs.getD k default)) 73) rfl rfl) <|
        oc (k_ld 4 0 (.agg (ab 32 (comeL (cs.take k) (ps.take k) O))) (c := ab 32 (comeL (cs.take k) (ps.take k) O)) (ldS (F := (comeL (cs.take k) (ps.take k) O)) 34) rfl rfl) <|
        oc (k_mv (.inl rfl) rfl) <|
        oc (k_mv (.inl rfl) rfl) <|
        oc (k_is (.slice ad N c1) (.int .i64 ((k : Nat) : Int)) (.pointer (some ⟨qb, qo + 32 * k, none⟩)) (fun w => ix_st2 ea (i := k) (by omega) w) rfl rfl) <|
        oc (k_lf (.pointer (some ⟨qb, qo + 32 * k, none⟩)) (.agg (ab 32 (ps.getD k fun _ => 0))) (fun w hw => ld_st2 (hps w hw) ea (by omega)) rfl rfl) <|
        oc (k_cw 41 #[.agg (cvA (cs.getD k default)), .agg (ab 32 (comeL (cs.take k) (ps.take k) O)), .agg (ab 32 (ps.getD k fun _ => 0))] (.agg (ab 32 (jn (cs.getD k default).r (comeL (cs.take k) (ps.take k) O) (ps.getD k fun _ => 0)))) (fun w hw => join_d (hgl w hw) (comeL_lt hF _ _) (getD_lt hpl _)) rfl rfl) <|
        oc (k_st 4 0 (.agg (ab 32 (jn (cs.getD k default).r (comeL (cs.take k) (ps.take k) O) (ps.getD k fun _ => 0)))) (c := ab 32 (comeL (cs.take k) (ps.take k) O)) (n := ab 32 (jn (cs.getD k default).r (comeL (cs.take k) (ps.take k) O) (ps.getD k fun _ => 0))) (stS (F := (jn (cs.getD k default).r (comeL (cs.take k) (ps.take k) O) (ps.getD k fun _ => 0))) (c := ab 32 (comeL (cs.take k) (ps.take k) O)) 34 (ab_size _ _)) rfl rfl) <|
        ok_nil
      clear h; intro β a w h
      refine sym_then ?_
      refine sym_seq ?_
      refine St.r0 h [(71, .inr (5, pt 3)), (72, .inl (.bool false))] [nn, eR 5] ?_ ?_
      · exact oc (k_fa 5 0 3 rfl rfl) <|
        oc (k_ld 5 3 (.bool false) (c := cvA (cs.getD k default)) (ldR (c := (cs.getD k default)) hcr 73) rfl rfl) <|
        ok_nil
      clear h; intro β a w h
      refine sym_then ?_
      refine s_cf h ?_
      refine wp_skip ?_
      refine blk_norm ?_
      refine sym_then ?_
      refine St.r0 h [(80, .inl (.int .i64 (((k + 1) : Nat) : Int))), (59, .inl (.int .i64 (((k + 1) : Nat) : Int)))] [eO] ?_ ?_
      · exact oc (k_b0 (.int .i64 ((k : Nat) : Int)) (.int .i64 ((1 : Nat) : Int)) (.int .i64 (((k + 1) : Nat) : Int)) (ad_i (m := k) (n := 1) (by omega)) rfl rfl) <|
        oz (k_mv (.inl rfl) rfl) <|
        ok_nil
      clear h; intro β a w h
      replace h := St.sm h 3 (ab 32 (firstL (cs.take (k + 1)) (ps.take (k + 1)) O)) (c := ab 32 (firstL (cs.take k) (ps.take k) O)) (t := 34) (by rw [← fst_f lc lp hltk hcr])
      replace h := St.sm h 4 (ab 32 (comeL (cs.take (k + 1)) (ps.take (k + 1)) O)) (c := ab 32 (jn (cs.getD k default).r (comeL (cs.take k) (ps.take k) O) (ps.getD k fun _ => 0))) (t := 34) (by rw [come_step lc lp hltk])
      obtain ⟨x, h⟩ := St.jd (n := 89) h [0, 1, 2, 3, 4, 7, 8, 10, 11, 12, 13, 14, 15, 57, 58, 59] [.inl (.int .i64 ((m : Nat) : Int)), .inl (.int .i64 ((n : Nat) : Int)), .inl (.agg (ab 32 O)), .inl (.agg (ab 32 R)), .inl (.slice ad N c1), .inr (0, pt 0), .inr (1, pt 0), .inl (.bool false), .inl (.func (.func 57) #[] #[.pointer (some ⟨n6, 0, none⟩), .pointer (some ⟨n6 + 1, 0, none⟩)]), .inr (2, pt 0), .inl (.slice cav N cp), .inr (3, pt 0), .inr (4, pt 0), .inl (.slice cav N cp), .inl (.int .i64 ((N : Nat) : Int)), .inl (.int .i64 (((k + 1) : Nat) : Int))] [(ab 32 O, 34), (ab 32 R, 34), (ab 32 O, 34), (ab 32 (firstL (cs.take (k + 1)) (ps.take (k + 1)) O), 34), (ab 32 (comeL (cs.take (k + 1)) (ps.take (k + 1)) O), 34)] (by kernel_rfl) (by kernel_rfl) (by kernel_rfl) (by kernel_rfl) (fun _ _ h => by rw [hk2b.pn, hk1b.pn] at h; cases h)
      exact ⟨hltk, x, _, h⟩
  · obtain rfl : N = k := by omega
    refine sym_seq ?_
    refine St.r0 h [(60, .inl (.bool false))] [] ?_ ?_
    · exact oz (k_bi (.int .i64 ((N : Nat) : Int)) (.int .i64 ((N : Nat) : Int)) (.bool false) (lt_i (m := ((N : Nat) : Int)) (n := ((N : Nat) : Int)) (decide_eq_false (by omega))) rfl rfl) <|
      ok_nil
    clear h; intro β a w h
    refine sym_then ?_
    refine sym_seq ?_
    refine s_cf h ?_
    refine wp_exit ?_
    refine then_exit ?_
    refine then_exit ?_
    refine blk_exit ?_
    refine sym_then ?_
    refine sym_seq ?_
    refine St.r0 h [(81, .inl (.agg (ab 32 (firstL (cs.take N) (ps.take N) O)))), (82, .inl (.agg (ab 32 O))), (83, .inl (.bool true)), (84, .inl (.bool true)), (85, .inl (.agg (ab 32 (comeL (cs.take N) (ps.take N) O)))), (86, .inl (.agg (ab 32 R))), (87, .inl (.bool false)), (88, .inl (.bool false))] [eR 3, eR 0, nn, nn, eR 4, eR 1] ?_ ?_
    · exact oc (k_ld 3 0 (.agg (ab 32 (firstL (cs.take N) (ps.take N) O))) (c := ab 32 (firstL (cs.take N) (ps.take N) O)) (ldS (F := (firstL (cs.take N) (ps.take N) O)) 34) rfl rfl) <|
      oc (k_ld 0 0 (.agg (ab 32 O)) (c := ab 32 O) (ldS (F := O) 34) rfl rfl) <|
      oc (k_bi (.agg (ab 32 (firstL (cs.take N) (ps.take N) O))) (.agg (ab 32 O)) (.bool true) (eqS_v hb1) rfl rfl) <|
      oc (k_mv (.inl rfl) rfl) <|
      oc (k_ld 4 0 (.agg (ab 32 (comeL (cs.take N) (ps.take N) O))) (c := ab 32 (comeL (cs.take N) (ps.take N) O)) (ldS (F := (comeL (cs.take N) (ps.take N) O)) 34) rfl rfl) <|
      oc (k_ld 1 0 (.agg (ab 32 R)) (c := ab 32 R) (ldS (F := R) 34) rfl rfl) <|
      oz (k_bi (.agg (ab 32 (comeL (cs.take N) (ps.take N) O))) (.agg (ab 32 R)) (.bool false) (eqS_v hb2) rfl rfl) <|
      oz (k_pt rfl rfl) <|
      oz (k_mv (.inr rfl) rfl) <|
      ok_nil
    clear h; intro β a w h
    refine sym_then ?_
    refine wp_ret ?_
    replace h := h.unb hk2b
    replace h := h.unb hk1b
    exact s_rt h Tryd.results14 (fun hb => ⟨rfl, hb⟩)
end Go.Proofs.YtgnmnoadfjdjdaaDoor

namespace Go.Proofs.YtgnmnoadfjdjdaaDoor
open Go.RowKit Go.Maps Sh
set_option maxHeartbeats 8000000 in
set_option maxRecDepth 100000 in
theorem ext1_len {m n N M c1 s q pcap pb po qb qo : Nat} {pa ad : Option Addr} {cs : List Cu} {ps : List (Nat → Nat)} {O R P0 : Nat → Nat} {W0 : World} (hg : Gl W0) (hm1 : 1 ≤ m) (hmn : m ≤ n) (hn : n ≤ 1048576) (_hF : ∀ i, P0 i < 256) (_hpl : ∀ P ∈ ps, ∀ j, P j < 256) (lc : cs.length = N) (_lp : ps.length = M) (hN : N ≤ 1048576) (hs : s ≠ 0) (ea0 : 0 < q → pa = some ⟨pb, po, none⟩) (hq : 1 ≤ q) (hld0 : ∀ w, KW (wd W0) w → (Instr.loadAt 34 (.pointer (some ⟨pb, po + 32 * 0, none⟩))).run Tryd.prog w = .ok (.agg (ab 32 P0)) w) (hsl : ∀ w, (Instr.sliceAt 22 (.slice pa q pcap) (some (.int .i64 ((1 : Nat) : Int))) none none).run Tryd.prog w = .ok (.slice ad M c1) w) (_ea : 0 < M → ad = some ⟨qb, qo, none⟩) (hps0 : ∀ w, KW (wd W0) w → SsAt w ad ps) (hst : ∀ g w, Bx w g 3 (.int .i64 ((m : Nat) : Int)) → Bx w (g + 1) 3 (.int .i64 ((n : Nat) : Int)) → Calls Tryd.prog 35 #[.func (.func 57) #[] #[.pointer (some ⟨g, 0, none⟩), .pointer (some ⟨g + 1, 0, none⟩)]] w fun e w' => e = .returned (.int .i64 ((s : Nat) : Int)) ∧ Below w.heap.size w w') (hup0 : ∀ g w, Bx w g 3 (.int .i64 ((m : Nat) : Int)) → Bx w (g + 1) 3 (.int .i64 ((n : Nat) : Int)) → Calls Tryd.prog 40 #[.func (.func 57) #[] #[.pointer (some ⟨g, 0, none⟩), .pointer (some ⟨g + 1, 0, none⟩)]] w fun e W' => ∃ a cap, e = .returned (.slice a N cap) ∧ N ≤ cap ∧ CsAt W' a cs ∧ (∀ p, 0 < N → a = some p → w.heap.size ≤ p.block) ∧ Below w.heap.size w W') (hNM : M ≠ N) :
    Calls Tryd.prog 14 #[.int .i64 ((m : Nat) : Int), .int .i64 ((n : Nat) : Int), .agg (ab 32 O), .agg (ab 32 R), .slice pa q pcap] W0 fun e w' => e = .returned (.bool false) ∧ Below W0.heap.size W0 w' := by
  refine s_in Tryd.func14 Tryd.ntmps14 rfl [.inl (.int .i64 ((m : Nat) : Int)), .inl (.int .i64 ((n : Nat) : Int)), .inl (.agg (ab 32 O)), .inl (.agg (ab 32 R)), .inl (.slice pa q pcap)] ?_
  intro β a h
  refine sym_seq ?_
  refine St.rg h [(7, .inr (0, pt 0)), (8, .inr (1, pt 0)), (10, .inl (.bool false))] [(ab 32 O, 34), (ab 32 R, 34)] [] [eN 0, eN 1] ?_ ?_
  · exact oc (k_bx 0 (.agg (ab 32 O)) (bx_agg (P := Tryd.prog)) rfl rfl) <|
    oc (k_bx 1 (.agg (ab 32 R)) (bx_agg (P := Tryd.prog)) rfl rfl) <|
    oz (k_mv (.inr rfl) rfl) <|
    ok_nil
  clear h; intro β a w h
  refine sym_then ?_
  refine sym_seq ?_
  refine sym_seq ?_
  refine St.r0 h [(18, .inl (.int .i64 ((n : Nat) : Int))), (19, .inl (.bool false)), (20, .inl (.bool false)), (21, .inl (.int .i64 ((n : Nat) : Int))), (22, .inl (.bool false)), (23, .inl (.bool false)), (24, .inl (.bool false)), (25, .inl (.int .i64 ((m : Nat) : Int))), (26, .inl (.bool false)), (27, .inl (.bool false)), (28, .inl (.bool false)), (29, .inl (.int .i64 ((m : Nat) : Int))), (30, .inl (.int .i64 ((n : Nat) : Int))), (31, .inl (.bool false)), (32, .inl (.bool false))] [] ?_ ?_
  · exact oz (k_mv (.inl rfl) rfl) <|
    oz (k_bi (.int .i64 ((n : Nat) : Int)) (.int .i64 ((1 : Nat) : Int)) (.bool false) (lt_i (m := ((n : Nat) : Int)) (n := ((1 : Nat) : Int)) (decide_eq_false (by omega))) rfl rfl) <|
    oz (k_mv (.inl rfl) rfl) <|
    oz (k_mv (.inl rfl) rfl) <|
    oz (k_bi (.int .i64 ((n : Nat) : Int)) (.int .i64 ((1048576 : Nat) : Int)) (.bool false) (gt_i (m := ((n : Nat) : Int)) (n := ((1048576 : Nat) : Int)) (decide_eq_false (by omega))) rfl rfl) <|
    oz (k_pf rfl rfl) <|
    oz (k_mv (.inl rfl) rfl) <|
    oz (k_mv (.inl rfl) rfl) <|
    oz (k_bi (.int .i64 ((m : Nat) : Int)) (.int .i64 ((1 : Nat) : Int)) (.bool false) (lt_i (m := ((m : Nat) : Int)) (n := ((1 : Nat) : Int)) (decide_eq_false (by omega))) rfl rfl) <|
    oz (k_pf rfl rfl) <|
    oz (k_mv (.inl rfl) rfl) <|
    oz (k_mv (.inl rfl) rfl) <|
    oz (k_mv (.inl rfl) rfl) <|
    oz (k_bi (.int .i64 ((m : Nat) : Int)) (.int .i64 ((n : Nat) : Int)) (.bool false) (gt_i (m := ((m : Nat) : Int)) (n := ((n : Nat) : Int)) (decide_eq_false (by omega))) rfl rfl) <|
    oz (k_pf rfl rfl) <|
    ok_nil
  clear h; intro β a w h
  refine sym_then ?_
  refine s_cf h ?_
  refine wp_skip ?_
  refine sym_then ?_
  refine sym_seq ?_
  replace h := St.cs h (s' := [.inl (.int .i64 ((m : Nat) : Int)), .inl (.int .i64 ((n : Nat) : Int)), .inl (.agg (ab 32 O)), .inl (.agg (ab 32 R)), .inl (.slice pa q pcap), uu, uu, .inr (0, pt 0), .inr (1, pt 0), uu, .inl (.bool false), uu, uu, uu, uu, uu, uu, uu, .inl (.int .i64 ((n : Nat) : Int)), .inl (.bool false), .inl (.bool false), .inl (.int .i64 ((n : Nat) : Int)), .inl (.bool false), .inl (.bool false), .inl (.bool false), .inl (.int .i64 ((m : Nat) : Int)), .inl (.bool false), .inl (.bool false), .inl (.bool false), .inl (.int .i64 ((m : Nat) : Int)), .inl (.int .i64 ((n : Nat) : Int)), .inl (.bool false), .inl (.bool false), uu, uu, uu, uu, uu, uu, uu, uu, uu, uu, uu, uu, uu, uu, uu, uu, uu, uu, uu, uu, uu, uu, uu, uu, uu, uu, uu, uu, uu, uu, uu, uu, uu, uu, uu, uu, uu, uu, uu, uu, uu, uu, uu, uu, uu, uu, uu, uu, uu, uu, uu, uu, uu, uu, uu, uu]) (m' := [(ab 32 O, 34), (ab 32 R, 34)]) (by kernel_rfl) (by kernel_rfl)
  obtain rfl : a = { tmps := (.int .i64 ((m : Nat) : Int) :: .int .i64 ((n : Nat) : Int) :: .agg (ab 32 O) :: .agg (ab 32 R) :: .slice pa q pcap :: undef :: undef :: fv (pt 0) (β 0) :: fv (pt 0) (β 1) :: undef :: .bool false :: undef :: undef :: undef :: undef :: undef :: undef :: undef :: .int .i64 ((n : Nat) : Int) :: .bool false :: .bool false :: .int .i64 ((n : Nat) : Int) :: .bool false :: .bool false :: .bool false :: .int .i64 ((m : Nat) : Int) :: .bool false :: .bool false :: .bool false :: .int .i64 ((m : Nat) : Int) :: .int .i64 ((n : Nat) : Int) :: .bool false :: .bool false :: undef :: undef :: undef :: undef :: undef :: undef :: undef :: undef :: undef :: undef :: undef :: undef :: undef :: undef :: undef :: undef :: undef :: undef :: undef :: undef :: undef :: undef :: undef :: undef :: undef :: undef :: undef :: undef :: undef :: undef :: undef :: undef :: undef :: undef :: undef :: undef :: undef :: undef :: undef :: undef :: undef :: undef :: undef :: undef :: undef :: undef :: undef :: undef :: undef :: undef :: undef :: undef :: undef :: undef :: undef :: undef :: []).toArray, defers := [] } := h.tm.trans (by kernel_rfl)
  obtain ⟨q1, q2, q3, q4⟩ := cuts_two (w := w) m n
  have hH := hide1 h
  have hz := q3.size
  clear h
  refine reg_gen fun QQ hQQ => ?_
  go_wp2_with fail
  refine (ahead_d _ _ _).mono ?_
  rintro e w' ⟨rfl, rfl⟩
  go_wp2_with fail
  refine hQQ.out _ _ ?_
  clear hQQ QQ
  refine go_base hH.out ((.inl (.int .i64 ((m : Nat) : Int))) :: (.inl (.int .i64 ((n : Nat) : Int))) :: (.inl (.agg (ab 32 O))) :: (.inl (.agg (ab 32 R))) :: (.inl (.slice pa q pcap)) :: uu :: uu :: (.inr (0, pt 0)) :: (.inr (1, pt 0)) :: uu :: (.inl (.bool false)) :: (.inl (.func (.func 57) #[] #[.pointer (some ⟨w.heap.size, 0, none⟩), .pointer (some ⟨w.heap.size + 1, 0, none⟩)])) :: uu :: uu :: uu :: uu :: uu :: uu :: (.inl (.int .i64 ((n : Nat) : Int))) :: (.inl (.bool false)) :: (.inl (.bool false)) :: (.inl (.int .i64 ((n : Nat) : Int))) :: (.inl (.bool false)) :: (.inl (.bool false)) :: (.inl (.bool false)) :: (.inl (.int .i64 ((m : Nat) : Int))) :: (.inl (.bool false)) :: (.inl (.bool false)) :: (.inl (.bool false)) :: (.inl (.int .i64 ((m : Nat) : Int))) :: (.inl (.int .i64 ((n : Nat) : Int))) :: (.inl (.bool false)) :: (.inl (.bool false)) :: (.inl (.int .i64 ((m : Nat) : Int))) :: (.inl (.int .i64 ((n : Nat) : Int))) :: (.inl (.func (.func 57) #[] #[.pointer (some ⟨w.heap.size, 0, none⟩), .pointer (some ⟨w.heap.size + 1, 0, none⟩)])) :: uu :: uu :: uu :: uu :: uu :: uu :: uu :: uu :: uu :: uu :: uu :: uu :: uu :: uu :: uu :: uu :: uu :: uu :: uu :: uu :: uu :: uu :: uu :: uu :: uu :: uu :: uu :: uu :: uu :: uu :: uu :: uu :: uu :: uu :: uu :: uu :: uu :: uu :: uu :: uu :: uu :: uu :: uu :: uu :: uu :: uu :: uu :: uu :: uu :: uu :: uu :: uu :: uu :: []) q3 ?_ (by kernel_rfl)
  rintro W1b a n5 hn5 hk1b hfar h
  have hsq : ∀ v, KW W1b v → Bx v w.heap.size 3 (.int .i64 ((m : Nat) : Int)) ∧ Bx v (w.heap.size + 1) 3 (.int .i64 ((n : Nat) : Int)) := fun v hv => ⟨(hfar v hv w.heap.size (by omega) (by omega)).trans q1, (hfar v hv (w.heap.size + 1) (by omega) (by omega)).trans q2⟩
  clear hH q1 q2 q3 q4 hz hfar hn5
  generalize w.heap.size = n6 at *
  replace h := h.o0
  refine sym_then ?_
  refine sym_seq ?_
  refine St.rg h [(36, .inl (.agg (ab 32 O))), (12, .inr (2, pt 0))] [(ab 32 (fun _ => 0), 34)] [(2, ab 32 O)] [eR 0, eN 2, eS 2] ?_ ?_
  · exact oc (k_ld 0 0 (.agg (ab 32 O)) (c := ab 32 O) (ldS (F := O) 34) rfl rfl) <|
    oc (k_al 2 alS rfl rfl) <|
    oc (k_st 2 0 (.agg (ab 32 O)) (c := ab 32 (fun _ => 0)) (n := ab 32 O) (stS (F := O) (c := ab 32 (fun _ => 0)) 34 (ab_size _ _)) rfl rfl) <|
    ok_nil
  clear h; intro β a w h
  refine sym_then ?_
  refine sym_seq ?_
  refine sym_seq ?_
  refine St.r0 h [(37, .inl (.func (.func 57) #[] #[.pointer (some ⟨n6, 0, none⟩), .pointer (some ⟨n6 + 1, 0, none⟩)])), (38, .inl (.int .i64 ((s : Nat) : Int))), (39, .inl (.bool true))] [] ?_ ?_
  · exact oz (k_mv (.inl rfl) rfl) <|
    oz (k_cw 35 #[.func (.func 57) #[] #[.pointer (some ⟨n6, 0, none⟩), .pointer (some ⟨n6 + 1, 0, none⟩)]] (.int .i64 ((s : Nat) : Int)) (fun w hw => hst n6 w (hsq w hw).1 (hsq w hw).2) rfl rfl) <|
    oz (k_bi (.int .i64 ((s : Nat) : Int)) (.int .i64 ((0 : Nat) : Int)) (.bool true) (gt_i (m := ((s : Nat) : Int)) (n := ((0 : Nat) : Int)) (decide_eq_true (by omega))) rfl rfl) <|
    ok_nil
  clear h; intro β a w h
  refine sym_then ?_
  refine s_ct h ?_
  refine sym_seq ?_
  refine sym_seq ?_
  refine St.r0 h [(40, .inl (.slice pa q pcap)), (41, .inl (.int .i64 ((q : Nat) : Int))), (42, .inl (.bool false))] [] ?_ ?_
  · exact oz (k_mv (.inl rfl) rfl) <|
    oz (k_ln (ad := pa) q pcap rfl rfl (fun w => len_ss _ w)) <|
    oz (k_bi (.int .i64 ((q : Nat) : Int)) (.int .i64 ((0 : Nat) : Int)) (.bool false) (eq_i (m := ((q : Nat) : Int)) (n := ((0 : Nat) : Int)) (decide_eq_false (by omega))) rfl rfl) <|
    ok_nil
  clear h; intro β a w h
  refine sym_then ?_
  refine s_cf h ?_
  refine wp_skip ?_
  refine sym_then ?_
  refine St.rg h [(43, .inl (.slice pa q pcap)), (44, .inl (.pointer (some ⟨pb, po + 32 * 0, none⟩))), (45, .inl (.agg (ab 32 P0))), (46, .inl (.slice pa q pcap)), (47, .inl (.slice ad M c1)), (4, .inl (.slice ad M c1))] [] [(2, ab 32 P0)] [eO, nn, nn, eO, nn, eS 2] ?_ ?_
  · exact oc (k_m0 rfl rfl) <|
    oc (k_is (.slice pa q pcap) (.int .i64 ((0 : Nat) : Int)) (.pointer (some ⟨pb, po + 32 * 0, none⟩)) (fun w => ix_st2 ea0 (i := 0) (by omega) w) rfl rfl) <|
    oc (k_lf (.pointer (some ⟨pb, po + 32 * 0, none⟩)) (.agg (ab 32 P0)) (fun w hw => hld0 w (hk1b.kw w hw)) rfl rfl) <|
    oc (k_m0 rfl rfl) <|
    oc (k_sw (.slice pa q pcap) (.slice ad M c1) (some (.int .i64 ((1 : Nat) : Int))) none hsl rfl rfl) <|
    oc (k_st 2 0 (.agg (ab 32 P0)) (c := ab 32 O) (n := ab 32 P0) (stS (F := P0) (c := ab 32 O) 34 (ab_size _ _)) rfl rfl) <|
    oz (k_mv (.inr rfl) rfl) <|
    ok_nil
  clear h; intro β a w h
  refine sym_then ?_
  refine sym_seq ?_
  replace h := St.cs h (s' := [.inl (.int .i64 ((m : Nat) : Int)), .inl (.int .i64 ((n : Nat) : Int)), .inl (.agg (ab 32 O)), .inl (.agg (ab 32 R)), .inl (.slice ad M c1), uu, uu, .inr (0, pt 0), .inr (1, pt 0), uu, .inl (.bool false), .inl (.func (.func 57) #[] #[.pointer (some ⟨n6, 0, none⟩), .pointer (some ⟨n6 + 1, 0, none⟩)]), .inr (2, pt 0), uu, uu, uu, uu, uu, .inl (.int .i64 ((n : Nat) : Int)), .inl (.bool false), .inl (.bool false), .inl (.int .i64 ((n : Nat) : Int)), .inl (.bool false), .inl (.bool false), .inl (.bool false), .inl (.int .i64 ((m : Nat) : Int)), .inl (.bool false), .inl (.bool false), .inl (.bool false), .inl (.int .i64 ((m : Nat) : Int)), .inl (.int .i64 ((n : Nat) : Int)), .inl (.bool false), .inl (.bool false), .inl (.int .i64 ((m : Nat) : Int)), .inl (.int .i64 ((n : Nat) : Int)), .inl (.func (.func 57) #[] #[.pointer (some ⟨n6, 0, none⟩), .pointer (some ⟨n6 + 1, 0, none⟩)]), .inl (.agg (ab 32 O)), .inl (.func (.func 57) #[] #[.pointer (some ⟨n6, 0, none⟩), .pointer (some ⟨n6 + 1, 0, none⟩)]), .inl (.int .i64 ((s : Nat) : Int)), .inl (.bool true), .inl (.slice pa q pcap), .inl (.int .i64 ((q : Nat) : Int)), .inl (.bool false), .inl (.slice pa q pcap), .inl (.pointer (some ⟨pb, po + 32 * 0, none⟩)), .inl (.agg (ab 32 P0)), .inl (.slice pa q pcap), .inl (.slice ad M c1), uu, uu, uu, uu, uu, uu, uu, uu, uu, uu, uu, uu, uu, uu, uu, uu, uu, uu, uu, uu, uu, uu, uu, uu, uu, uu, uu, uu, uu, uu, uu, uu, uu, uu, uu, uu, uu, uu, uu, uu, uu]) (m' := [(ab 32 O, 34), (ab 32 R, 34), (ab 32 P0, 34)]) (by kernel_rfl) (by kernel_rfl)
  obtain rfl : a = { tmps := (.int .i64 ((m : Nat) : Int) :: .int .i64 ((n : Nat) : Int) :: .agg (ab 32 O) :: .agg (ab 32 R) :: .slice ad M c1 :: undef :: undef :: fv (pt 0) (β 0) :: fv (pt 0) (β 1) :: undef :: .bool false :: .func (.func 57) #[] #[.pointer (some ⟨n6, 0, none⟩), .pointer (some ⟨n6 + 1, 0, none⟩)] :: fv (pt 0) (β 2) :: undef :: undef :: undef :: undef :: undef :: .int .i64 ((n : Nat) : Int) :: .bool false :: .bool false :: .int .i64 ((n : Nat) : Int) :: .bool false :: .bool false :: .bool false :: .int .i64 ((m : Nat) : Int) :: .bool false :: .bool false :: .bool false :: .int .i64 ((m : Nat) : Int) :: .int .i64 ((n : Nat) : Int) :: .bool false :: .bool false :: .int .i64 ((m : Nat) : Int) :: .int .i64 ((n : Nat) : Int) :: .func (.func 57) #[] #[.pointer (some ⟨n6, 0, none⟩), .pointer (some ⟨n6 + 1, 0, none⟩)] :: .agg (ab 32 O) :: .func (.func 57) #[] #[.pointer (some ⟨n6, 0, none⟩), .pointer (some ⟨n6 + 1, 0, none⟩)] :: .int .i64 ((s : Nat) : Int) :: .bool true :: .slice pa q pcap :: .int .i64 ((q : Nat) : Int) :: .bool false :: .slice pa q pcap :: .pointer (some ⟨pb, po + 32 * 0, none⟩) :: .agg (ab 32 P0) :: .slice pa q pcap :: .slice ad M c1 :: undef :: undef :: undef :: undef :: undef :: undef :: undef :: undef :: undef :: undef :: undef :: undef :: undef :: undef :: undef :: undef :: undef :: undef :: undef :: undef :: undef :: undef :: undef :: undef :: undef :: undef :: undef :: undef :: undef :: undef :: undef :: undef :: undef :: undef :: undef :: undef :: undef :: undef :: undef :: undef :: undef :: []).toArray, defers := [] } := h.tm.trans (by kernel_rfl)
  have hup := hup0 n6 w (hsq w h.bel).1 (hsq w h.bel).2
  have hH := hide1 h
  have hsH := hide1 hs
  clear h hs
  refine reg_gen fun QQ hQQ => ?_
  go_wp2_with fail
  refine hup.mono ?_
  rintro e w5 ⟨ca, cp, rfl, hcp, hcs0, hbl, hb5⟩
  clear hup
  go_wp2_with fail
  refine hQQ.out _ _ ?_
  clear hQQ QQ
  refine go_base hH.out ((.inl (.int .i64 ((m : Nat) : Int))) :: (.inl (.int .i64 ((n : Nat) : Int))) :: (.inl (.agg (ab 32 O))) :: (.inl (.agg (ab 32 R))) :: (.inl (.slice ad M c1)) :: uu :: uu :: (.inr (0, pt 0)) :: (.inr (1, pt 0)) :: uu :: (.inl (.bool false)) :: (.inl (.func (.func 57) #[] #[.pointer (some ⟨n6, 0, none⟩), .pointer (some ⟨n6 + 1, 0, none⟩)])) :: (.inr (2, pt 0)) :: (.inl (.slice ca N cp)) :: uu :: uu :: uu :: uu :: (.inl (.int .i64 ((n : Nat) : Int))) :: (.inl (.bool false)) :: (.inl (.bool false)) :: (.inl (.int .i64 ((n : Nat) : Int))) :: (.inl (.bool false)) :: (.inl (.bool false)) :: (.inl (.bool false)) :: (.inl (.int .i64 ((m : Nat) : Int))) :: (.inl (.bool false)) :: (.inl (.bool false)) :: (.inl (.bool false)) :: (.inl (.int .i64 ((m : Nat) : Int))) :: (.inl (.int .i64 ((n : Nat) : Int))) :: (.inl (.bool false)) :: (.inl (.bool false)) :: (.inl (.int .i64 ((m : Nat) : Int))) :: (.inl (.int .i64 ((n : Nat) : Int))) :: (.inl (.func (.func 57) #[] #[.pointer (some ⟨n6, 0, none⟩), .pointer (some ⟨n6 + 1, 0, none⟩)])) :: (.inl (.agg (ab 32 O))) :: (.inl (.func (.func 57) #[] #[.pointer (some ⟨n6, 0, none⟩), .pointer (some ⟨n6 + 1, 0, none⟩)])) :: (.inl (.int .i64 ((s : Nat) : Int))) :: (.inl (.bool true)) :: (.inl (.slice pa q pcap)) :: (.inl (.int .i64 ((q : Nat) : Int))) :: (.inl (.bool false)) :: (.inl (.slice pa q pcap)) :: (.inl (.pointer (some ⟨pb, po + 32 * 0, none⟩))) :: (.inl (.agg (ab 32 P0))) :: (.inl (.slice pa q pcap)) :: (.inl (.slice ad M c1)) :: (.inl (.func (.func 57) #[] #[.pointer (some ⟨n6, 0, none⟩), .pointer (some ⟨n6 + 1, 0, none⟩)])) :: (.inl (.slice ca N cp)) :: uu :: uu :: uu :: uu :: uu :: uu :: uu :: uu :: uu :: uu :: uu :: uu :: uu :: uu :: uu :: uu :: uu :: uu :: uu :: uu :: uu :: uu :: uu :: uu :: uu :: uu :: uu :: uu :: uu :: uu :: uu :: uu :: uu :: uu :: uu :: uu :: uu :: uu :: uu :: []) hb5 ?_ (by kernel_rfl)
  rintro W2b a n8 hn8 hk2b hfar h
  have hcs : ∀ v, KW W2b v → CsAt v ca cs := fun v hv => hcs0.far (n := n8) (fun p h1 h2 => by have := hbl p (by omega) h2; omega) (hfar v hv)
  have hps : ∀ v, KW W2b v → SsAt v ad ps := fun v hv => hps0 v (hk1b.kw v (hk2b.kw v hv))
  have hgl : ∀ v, KW W2b v → Gl v := fun v hv => gl_b hg (KW.below (hk1b.kw v (hk2b.kw v hv)))
  obtain ⟨cb, ec⟩ : ∃ cb, 0 < N → ca = some ⟨cb, 0, none⟩ := cs_ad (hcs _ h.bel) lc
  have hs := hsH.out
  clear hfar hcs0 hbl hcp hH hb5 hn8 hsH
  generalize ca = cav at *
  replace h := h.o0
  refine sym_then ?_
  refine sym_seq ?_
  refine sym_seq ?_
  refine St.r0 h [(50, .inl (.slice cav N cp)), (51, .inl (.int .i64 ((N : Nat) : Int))), (52, .inl (.slice ad M c1)), (53, .inl (.int .i64 ((M : Nat) : Int))), (54, .inl (.bool true))] [] ?_ ?_
  · exact oz (k_mv (.inl rfl) rfl) <|
    oz (k_ln (ad := cav) N cp rfl rfl (fun w => len_cs _ w)) <|
    oz (k_mv (.inl rfl) rfl) <|
    oz (k_ln (ad := ad) M c1 rfl rfl (fun w => len_ss _ w)) <|
    oz (k_bi (.int .i64 ((N : Nat) : Int)) (.int .i64 ((M : Nat) : Int)) (.bool true) (ne_i (m := ((N : Nat) : Int)) (n := ((M : Nat) : Int)) (decide_eq_true (by omega))) rfl rfl) <|
    ok_nil
  clear h; intro β a w h
  refine sym_then ?_
  refine s_ct h ?_
  refine sym_seq ?_
  refine St.r0 h [] [] ?_ ?_
  · exact oz (k_mv (.inr rfl) rfl) <|
    ok_nil
  clear h; intro β a w h
  refine sym_then ?_
  refine wp_ret ?_
  refine then_ret ?_
  replace h := h.unb hk2b
  replace h := h.unb hk1b
  exact s_rt h Tryd.results14 (fun hb => ⟨rfl, hb⟩)
set_option maxHeartbeats 8000000 in
set_option maxRecDepth 100000 in
theorem ext1_f {m n N c1 s q pcap pb po qb qo : Nat} {pa ad : Option Addr} {cs : List Cu} {ps : List (Nat → Nat)} {O R P0 : Nat → Nat} {W0 : World} (hg : Gl W0) (hm1 : 1 ≤ m) (hmn : m ≤ n) (hn : n ≤ 1048576) (hF : ∀ i, P0 i < 256) (hpl : ∀ P ∈ ps, ∀ j, P j < 256) (lc : cs.length = N) (lp : ps.length = N) (hN : N ≤ 1048576) (hs : s ≠ 0) (ea0 : 0 < q → pa = some ⟨pb, po, none⟩) (hq : 1 ≤ q) (hld0 : ∀ w, KW (wd W0) w → (Instr.loadAt 34 (.pointer (some ⟨pb, po + 32 * 0, none⟩))).run Tryd.prog w = .ok (.agg (ab 32 P0)) w) (hsl : ∀ w, (Instr.sliceAt 22 (.slice pa q pcap) (some (.int .i64 ((1 : Nat) : Int))) none none).run Tryd.prog w = .ok (.slice ad N c1) w) (ea : 0 < N → ad = some ⟨qb, qo, none⟩) (hps0 : ∀ w, KW (wd W0) w → SsAt w ad ps) (hst : ∀ g w, Bx w g 3 (.int .i64 ((m : Nat) : Int)) → Bx w (g + 1) 3 (.int .i64 ((n : Nat) : Int)) → Calls Tryd.prog 35 #[.func (.func 57) #[] #[.pointer (some ⟨g, 0, none⟩), .pointer (some ⟨g + 1, 0, none⟩)]] w fun e w' => e = .returned (.int .i64 ((s : Nat) : Int)) ∧ Below w.heap.size w w') (hup0 : ∀ g w, Bx w g 3 (.int .i64 ((m : Nat) : Int)) → Bx w (g + 1) 3 (.int .i64 ((n : Nat) : Int)) → Calls Tryd.prog 40 #[.func (.func 57) #[] #[.pointer (some ⟨g, 0, none⟩), .pointer (some ⟨g + 1, 0, none⟩)]] w fun e W' => ∃ a cap, e = .returned (.slice a N cap) ∧ N ≤ cap ∧ CsAt W' a cs ∧ (∀ p, 0 < N → a = some p → w.heap.size ≤ p.block) ∧ Below w.heap.size w W') (hb1 : eqD (firstL (cs.take N) (ps.take N) P0) O = false) :
    Calls Tryd.prog 14 #[.int .i64 ((m : Nat) : Int), .int .i64 ((n : Nat) : Int), .agg (ab 32 O), .agg (ab 32 R), .slice pa q pcap] W0 fun e w' => e = .returned (.bool false) ∧ Below W0.heap.size W0 w' := by
  refine s_in Tryd.func14 Tryd.ntmps14 rfl [.inl (.int .i64 ((m : Nat) : Int)), .inl (.int .i64 ((n : Nat) : Int)), .inl (.agg (ab 32 O)), .inl (.agg (ab 32 R)), .inl (.slice pa q pcap)] ?_
  intro β a h
  refine sym_seq ?_
  refine St.rg h [(7, .inr (0, pt 0)), (8, .inr (1, pt 0)), (10, .inl (.bool false))] [(ab 32 O, 34), (ab 32 R, 34)] [] [eN 0, eN 1] ?_ ?_
  · exact oc (k_bx 0 (.agg (ab 32 O)) (bx_agg (P := Tryd.prog)) rfl rfl) <|
    oc (k_bx 1 (.agg (ab 32 R)) (bx_agg (P := Tryd.prog)) rfl rfl) <|
    oz (k_mv (.inr rfl) rfl) <|
    ok_nil
  clear h; intro β a w h
  refine sym_then ?_
  refine sym_seq ?_
  refine sym_seq ?_
  refine St.r0 h [(18, .inl (.int .i64 ((n : Nat) : Int))), (19, .inl (.bool false)), (20, .inl (.bool false)), (21, .inl (.int .i64 ((n : Nat) : Int))), (22, .inl (.bool false)), (23, .inl (.bool false)), (24, .inl (.bool false)), (25, .inl (.int .i64 ((m : Nat) : Int))), (26, .inl (.bool false)), (27, .inl (.bool false)), (28, .inl (.bool false)), (29, .inl (.int .i64 ((m : Nat) : Int))), (30, .inl (.int .i64 ((n : Nat) : Int))), (31, .inl (.bool false)), (32, .inl (.bool false))] [] ?_ ?_
  · exact oz (k_mv (.inl rfl) rfl) <|
    oz (k_bi (.int .i64 ((n : Nat) : Int)) (.int .i64 ((1 : Nat) : Int)) (.bool false) (lt_i (m := ((n : Nat) : Int)) (n := ((1 : Nat) : Int)) (decide_eq_false (by omega))) rfl rfl) <|
    oz (k_mv (.inl rfl) rfl) <|
    oz (k_mv (.inl rfl) rfl) <|
    oz (k_bi (.int .i64 ((n : Nat) : Int)) (.int .i64 ((1048576 : Nat) : Int)) (.bool false) (gt_i (m := ((n : Nat) : Int)) (n := ((1048576 : Nat) : Int)) (decide_eq_false (by omega))) rfl rfl) <|
    oz (k_pf rfl rfl) <|
    oz (k_mv (.inl rfl) rfl) <|
    oz (k_mv (.inl rfl) rfl) <|
    oz (k_bi (.int .i64 ((m : Nat) : Int)) (.int .i64 ((1 : Nat) : Int)) (.bool false) (lt_i (m := ((m : Nat) : Int)) (n := ((1 : Nat) : Int)) (decide_eq_false (by omega))) rfl rfl) <|
    oz (k_pf rfl rfl) <|
    oz (k_mv (.inl rfl) rfl) <|
    oz (k_mv (.inl rfl) rfl) <|
    oz (k_mv (.inl rfl) rfl) <|
    oz (k_bi (.int .i64 ((m : Nat) : Int)) (.int .i64 ((n : Nat) : Int)) (.bool false) (gt_i (m := ((m : Nat) : Int)) (n := ((n : Nat) : Int)) (decide_eq_false (by omega))) rfl rfl) <|
    oz (k_pf rfl rfl) <|
    ok_nil
  clear h; intro β a w h
  refine sym_then ?_
  refine s_cf h ?_
  refine wp_skip ?_
  refine sym_then ?_
  refine sym_seq ?_
  replace h := St.cs h (s' := [.inl (.int .i64 ((m : Nat) : Int)), .inl (.int .i64 ((n : Nat) : Int)), .inl (.agg (ab 32 O)), .inl (.agg (ab 32 R)), .inl (.slice pa q pcap), uu, uu, .inr (0, pt 0), .inr (1, pt 0), uu, .inl (.bool false), uu, uu, uu, uu, uu, uu, uu, .inl (.int .i64 ((n : Nat) : Int)), .inl (.bool false), .inl (.bool false), .inl (.int .i64 ((n : Nat) : Int)), .inl (.bool false), .inl (.bool false), .inl (.bool false), .inl (.int .i64 ((m : Nat) : Int)), .inl (.bool false), .inl (.bool false), .inl (.bool false), .inl (.int .i64 ((m : Nat) : Int)), .inl (.int .i64 ((n : Nat) : Int)), .inl (.bool false), .inl (.bool false), uu, uu, uu, uu, uu, uu, uu, uu, uu, uu, uu, uu, uu, uu, uu, uu, uu, uu, uu, uu, uu, uu, uu, uu, uu, uu, uu, uu, uu, uu, uu, uu, uu, uu, uu, uu, uu, uu, uu, uu, uu, uu, uu, uu, uu, uu, uu, uu, uu, uu, uu, uu, uu, uu, uu, uu]) (m' := [(ab 32 O, 34), (ab 32 R, 34)]) (by kernel_rfl) (by kernel_rfl)
  obtain rfl : a = { tmps := (.int .i64 ((m : Nat) : Int) :: .int .i64 ((n : Nat) : Int) :: .agg (ab 32 O) :: .agg (ab 32 R) :: .slice pa q pcap :: undef :: undef :: fv (pt 0) (β 0) :: fv (pt 0) (β 1) :: undef :: .bool false :: undef :: undef :: undef :: undef :: undef :: undef :: undef :: .int .i64 ((n : Nat) : Int) :: .bool false :: .bool false :: .int .i64 ((n : Nat) : Int) :: .bool false :: .bool false :: .bool false :: .int .i64 ((m : Nat) : Int) :: .bool false :: .bool false :: .bool false :: .int .i64 ((m : Nat) : Int) :: .int .i64 ((n : Nat) : Int) :: .bool false :: .bool false :: undef :: undef :: undef :: undef :: undef :: undef :: undef :: undef :: undef :: undef :: undef :: undef :: undef :: undef :: undef :: undef :: undef :: undef :: undef :: undef :: undef :: undef :: undef :: undef :: undef :: undef :: undef :: undef :: undef :: undef :: undef :: undef :: undef :: undef :: undef :: undef :: undef :: undef :: undef :: undef :: undef :: undef :: undef :: undef :: undef :: undef :: undef :: undef :: undef :: undef :: undef :: undef :: undef :: undef :: undef :: undef :: []).toArray, defers := [] } := h.tm.trans (by kernel_rfl)
  obtain ⟨q1, q2, q3, q4⟩ := cuts_two (w := w) m n
  have hH := hide1 h
  have hz := q3.size
  clear h
  refine reg_gen fun QQ hQQ => ?_
  go_wp2_with fail
  refine (ahead_d _ _ _).mono ?_
  rintro e w' ⟨rfl, rfl⟩
  go_wp2_with fail
  refine hQQ.out _ _ ?_
  clear hQQ QQ
  refine go_base hH.out ((.inl (.int .i64 ((m : Nat) : Int))) :: (.inl (.int .i64 ((n : Nat) : Int))) :: (.inl (.agg (ab 32 O))) :: (.inl (.agg (ab 32 R))) :: (.inl (.slice pa q pcap)) :: uu :: uu :: (.inr (0, pt 0)) :: (.inr (1, pt 0)) :: uu :: (.inl (.bool false)) :: (.inl (.func (.func 57) #[] #[.pointer (some ⟨w.heap.size, 0, none⟩), .pointer (some ⟨w.heap.size + 1, 0, none⟩)])) :: uu :: uu :: uu :: uu :: uu :: uu :: (.inl (.int .i64 ((n : Nat) : Int))) :: (.inl (.bool false)) :: (.inl (.bool false)) :: (.inl (.int .i64 ((n : Nat) : Int))) :: (.inl (.bool false)) :: (.inl (.bool false)) :: (.inl (.bool false)) :: (.inl (.int .i64 ((m : Nat) : Int))) :: (.inl (.bool false)) :: (.inl (.bool false)) :: (.inl (.bool false)) :: (.inl (.int .i64 ((m : Nat) : Int))) :: (.inl (.int .i64 ((n : Nat) : Int))) :: (.inl (.bool false)) :: (.inl (.bool false)) :: (.inl (.int .i64 ((m : Nat) : Int))) :: (.inl (.int .i64 ((n : Nat) : Int))) :: (.inl (.func (.func 57) #[] #[.pointer (some ⟨w.heap.size, 0, none⟩), .pointer (some ⟨w.heap.size + 1, 0, none⟩)])) :: uu :: uu :: uu :: uu :: uu :: uu :: uu :: uu :: uu :: uu :: uu :: uu :: uu :: uu :: uu :: uu :: uu :: uu :: uu :: uu :: uu :: uu :: uu :: uu :: uu :: uu :: uu :: uu :: uu :: uu :: uu :: uu :: uu :: uu :: uu :: uu :: uu :: uu :: uu :: uu :: uu :: uu :: uu :: uu :: uu :: uu :: uu :: uu :: uu :: uu :: uu :: uu :: uu :: []) q3 ?_ (by kernel_rfl)
  rintro W1b a n5 hn5 hk1b hfar h
  have hsq : ∀ v, KW W1b v → Bx v w.heap.size 3 (.int .i64 ((m : Nat) : Int)) ∧ Bx v (w.heap.size + 1) 3 (.int .i64 ((n : Nat) : Int)) := fun v hv => ⟨(hfar v hv w.heap.size (by omega) (by omega)).trans q1, (hfar v hv (w.heap.size + 1) (by omega) (by omega)).trans q2⟩
  clear hH q1 q2 q3 q4 hz hfar hn5
  generalize w.heap.size = n6 at *
  replace h := h.o0
  refine sym_then ?_
  refine sym_seq ?_
  refine St.rg h [(36, .inl (.agg (ab 32 O))), (12, .inr (2, pt 0))] [(ab 32 (fun _ => 0), 34)] [(2, ab 32 O)] [eR 0, eN 2, eS 2] ?_ ?_
  · exact oc (k_ld 0 0 (.agg (ab 32 O)) (c := ab 32 O) (ldS (F := O) 34) rfl rfl) <|
    oc (k_al 2 alS rfl rfl) <|
    oc (k_st 2 0 (.agg (ab 32 O)) (c := ab 32 (fun _ => 0)) (n := ab 32 O) (stS (F := O) (c := ab 32 (fun _ => 0)) 34 (ab_size _ _)) rfl rfl) <|
    ok_nil
  clear h; intro β a w h
  refine sym_then ?_
  refine sym_seq ?_
  refine sym_seq ?_
  refine St.r0 h [(37, .inl (.func (.func 57) #[] #[.pointer (some ⟨n6, 0, none⟩), .pointer (some ⟨n6 + 1, 0, none⟩)])), (38, .inl (.int .i64 ((s : Nat) : Int))), (39, .inl (.bool true))] [] ?_ ?_
  · exact oz (k_mv (.inl rfl) rfl) <|
    oz (k_cw 35 #[.func (.func 57) #[] #[.pointer (some ⟨n6, 0, none⟩), .pointer (some ⟨n6 + 1, 0, none⟩)]] (.int .i64 ((s : Nat) : Int)) (fun w hw => hst n6 w (hsq w hw).1 (hsq w hw).2) rfl rfl) <|
    oz (k_bi (.int .i64 ((s : Nat) : Int)) (.int .i64 ((0 : Nat) : Int)) (.bool true) (gt_i (m := ((s : Nat) : Int)) (n := ((0 : Nat) : Int)) (decide_eq_true (by omega))) rfl rfl) <|
    ok_nil
  clear h; intro β a w h
  refine sym_then ?_
  refine s_ct h ?_
  refine sym_seq ?_
  refine sym_seq ?_
  refine St.r0 h [(40, .inl (.slice pa q pcap)), (41, .inl (.int .i64 ((q : Nat) : Int))), (42, .inl (.bool false))] [] ?_ ?_
  · exact oz (k_mv (.inl rfl) rfl) <|
    oz (k_ln (ad := pa) q pcap rfl rfl (fun w => len_ss _ w)) <|
    oz (k_bi (.int .i64 ((q : Nat) : Int)) (.int .i64 ((0 : Nat) : Int)) (.bool false) (eq_i (m := ((q : Nat) : Int)) (n := ((0 : Nat) : Int)) (decide_eq_false (by omega))) rfl rfl) <|
    ok_nil
  clear h; intro β a w h
  refine sym_then ?_
  refine s_cf h ?_
  refine wp_skip ?_
  refine sym_then ?_
  refine St.rg h [(43, .inl (.slice pa q pcap)), (44, .inl (.pointer (some ⟨pb, po + 32 * 0, none⟩))), (45, .inl (.agg (ab 32 P0))), (46, .inl (.slice pa q pcap)), (47, .inl (.slice ad N c1)), (4, .inl (.slice ad N c1))] [] [(2, ab 32 P0)] [eO, nn, nn, eO, nn, eS 2] ?_ ?_
  · exact oc (k_m0 rfl rfl) <|
    oc (k_is (.slice pa q pcap) (.int .i64 ((0 : Nat) : Int)) (.pointer (some ⟨pb, po + 32 * 0, none⟩)) (fun w => ix_st2 ea0 (i := 0) (by omega) w) rfl rfl) <|
    oc (k_lf (.pointer (some ⟨pb, po + 32 * 0, none⟩)) (.agg (ab 32 P0)) (fun w hw => hld0 w (hk1b.kw w hw)) rfl rfl) <|
    oc (k_m0 rfl rfl) <|
    oc (k_sw (.slice pa q pcap) (.slice ad N c1) (some (.int .i64 ((1 : Nat) : Int))) none hsl rfl rfl) <|
    oc (k_st 2 0 (.agg (ab 32 P0)) (c := ab 32 O) (n := ab 32 P0) (stS (F := P0) (c := ab 32 O) 34 (ab_size _ _)) rfl rfl) <|
    oz (k_mv (.inr rfl) rfl) <|
    ok_nil
  clear h; intro β a w h
  refine sym_then ?_
  refine sym_seq ?_
  replace h := St.cs h (s' := [.inl (.int .i64 ((m : Nat) : Int)), .inl (.int .i64 ((n : Nat) : Int)), .inl (.agg (ab 32 O)), .inl (.agg (ab 32 R)), .inl (.slice ad N c1), uu, uu, .inr (0, pt 0), .inr (1, pt 0), uu, .inl (.bool false), .inl (.func (.func 57) #[] #[.pointer (some ⟨n6, 0, none⟩), .pointer (some ⟨n6 + 1, 0, none⟩)]), .inr (2, pt 0), uu, uu, uu, uu, uu, .inl (.int .i64 ((n : Nat) : Int)), .inl (.bool false), .inl (.bool false), .inl (.int .i64 ((n : Nat) : Int)), .inl (.bool false), .inl (.bool false), .inl (.bool false), .inl (.int .i64 ((m : Nat) : Int)), .inl (.bool false), .inl (.bool false), .inl (.bool false), .inl (.int .i64 ((m : Nat) : Int)), .inl (.int .i64 ((n : Nat) : Int)), .inl (.bool false), .inl (.bool false), .inl (.int .i64 ((m : Nat) : Int)), .inl (.int .i64 ((n : Nat) : Int)), .inl (.func (.func 57) #[] #[.pointer (some ⟨n6, 0, none⟩), .pointer (some ⟨n6 + 1, 0, none⟩)]), .inl (.agg (ab 32 O)), .inl (.func (.func 57) #[] #[.pointer (some ⟨n6, 0, none⟩), .pointer (some ⟨n6 + 1, 0, none⟩)]), .inl (.int .i64 ((s : Nat) : Int)), .inl (.bool true), .inl (.slice pa q pcap), .inl (.int .i64 ((q : Nat) : Int)), .inl (.bool false), .inl (.slice pa q pcap), .inl (.pointer (some ⟨pb, po + 32 * 0, none⟩)), .inl (.agg (ab 32 P0)), .inl (.slice pa q pcap), .inl (.slice ad N c1), uu, uu, uu, uu, uu, uu, uu, uu, uu, uu, uu, uu, uu, uu, uu, uu, uu, uu, uu, uu, uu, uu, uu, uu, uu, uu, uu, uu, uu, uu, uu, uu, uu, uu, uu, uu, uu, uu, uu, uu, uu]) (m' := [(ab 32 O, 34), (ab 32 R, 34), (ab 32 P0, 34)]) (by kernel_rfl) (by kernel_rfl)
  obtain rfl : a = { tmps := (.int .i64 ((m : Nat) : Int) :: .int .i64 ((n : Nat) : Int) :: .agg (ab 32 O) :: .agg (ab 32 R) :: .slice ad N c1 :: undef :: undef :: fv (pt 0) (β 0) :: fv (pt 0) (β 1) :: undef :: .bool false :: .func (.func 57) #[] #[.pointer (some ⟨n6, 0, none⟩), .pointer (some ⟨n6 + 1, 0, none⟩)] :: fv (pt 0) (β 2) :: undef :: undef :: undef :: undef :: undef :: .int .i64 ((n : Nat) : Int) :: .bool false :: .bool false :: .int .i64 ((n : Nat) : Int) :: .bool false :: .bool false :: .bool false :: .int .i64 ((m : Nat) : Int) :: .bool false :: .bool false :: .bool false :: .int .i64 ((m : Nat) : Int) :: .int .i64 ((n : Nat) : Int) :: .bool false :: .bool false :: .int .i64 ((m : Nat) : Int) :: .int .i64 ((n : Nat) : Int) :: .func (.func 57) #[] #[.pointer (some ⟨n6, 0, none⟩), .pointer (some ⟨n6 + 1, 0, none⟩)] :: .agg (ab 32 O) :: .func (.func 57) #[] #[.pointer (some ⟨n6, 0, none⟩), .pointer (some ⟨n6 + 1, 0, none⟩)] :: .int .i64 ((s : Nat) : Int) :: .bool true :: .slice pa q pcap :: .int .i64 ((q : Nat) : Int) :: .bool false :: .slice pa q pcap :: .pointer (some ⟨pb, po + 32 * 0, none⟩) :: .agg (ab 32 P0) :: .slice pa q pcap :: .slice ad N c1 :: undef :: undef :: undef :: undef :: undef :: undef :: undef :: undef :: undef :: undef :: undef :: undef :: undef :: undef :: undef :: undef :: undef :: undef :: undef :: undef :: undef :: undef :: undef :: undef :: undef :: undef :: undef :: undef :: undef :: undef :: undef :: undef :: undef :: undef :: undef :: undef :: undef :: undef :: undef :: undef :: undef :: []).toArray, defers := [] } := h.tm.trans (by kernel_rfl)
  have hup := hup0 n6 w (hsq w h.bel).1 (hsq w h.bel).2
  have hH := hide1 h
  have hsH := hide1 hs
  clear h hs
  refine reg_gen fun QQ hQQ => ?_
  go_wp2_with fail
  refine hup.mono ?_
  rintro e w5 ⟨ca, cp, rfl, hcp, hcs0, hbl, hb5⟩
  clear hup
  go_wp2_with fail
  refine hQQ.out _ _ ?_
  clear hQQ QQ
  refine go_base hH.out ((.inl (.int .i64 ((m : Nat) : Int))) :: (.inl (.int .i64 ((n : Nat) : Int))) :: (.inl (.agg (ab 32 O))) :: (.inl (.agg (ab 32 R))) :: (.inl (.slice ad N c1)) :: uu :: uu :: (.inr (0, pt 0)) :: (.inr (1, pt 0)) :: uu :: (.inl (.bool false)) :: (.inl (.func (.func 57) #[] #[.pointer (some ⟨n6, 0, none⟩), .pointer (some ⟨n6 + 1, 0, none⟩)])) :: (.inr (2, pt 0)) :: (.inl (.slice ca N cp)) :: uu :: uu :: uu :: uu :: (.inl (.int .i64 ((n : Nat) : Int))) :: (.inl (.bool false)) :: (.inl (.bool false)) :: (.inl (.int .i64 ((n : Nat) : Int))) :: (.inl (.bool false)) :: (.inl (.bool false)) :: (.inl (.bool false)) :: (.inl (.int .i64 ((m : Nat) : Int))) :: (.inl (.bool false)) :: (.inl (.bool false)) :: (.inl (.bool false)) :: (.inl (.int .i64 ((m : Nat) : Int))) :: (.inl (.int .i64 ((n : Nat) : Int))) :: (.inl (.bool false)) :: (.inl (.bool false)) :: (.inl (.int .i64 ((m : Nat) : Int))) :: (.inl (.int .i64 ((n : Nat) : Int))) :: (.inl (.func (.func 57) #[] #[.pointer (some ⟨n6, 0, none⟩), .pointer (some ⟨n6 + 1, 0, none⟩)])) :: (.inl (.agg (ab 32 O))) :: (.inl (.func (.func 57) #[] #[.pointer (some ⟨n6, 0, none⟩), .pointer (some ⟨n6 + 1, 0, none⟩)])) :: (.inl (.int .i64 ((s : Nat) : Int))) :: (.inl (.bool true)) :: (.inl (.slice pa q pcap)) :: (.inl (.int .i64 ((q : Nat) : Int))) :: (.inl (.bool false)) :: (.inl (.slice pa q pcap)) :: (.inl (.pointer (some ⟨pb, po + 32 * 0, none⟩))) :: (.inl (.agg (ab 32 P0))) :: (.inl (.slice pa q pcap)) :: (.inl (.slice ad N c1)) :: (.inl (.func (.func 57) #[] #[.pointer (some ⟨n6, 0, none⟩), .pointer (some ⟨n6 + 1, 0, none⟩)])) :: (.inl (.slice ca N cp)) :: uu :: uu :: uu :: uu :: uu :: uu :: uu :: uu :: uu :: uu :: uu :: uu :: uu :: uu :: uu :: uu :: uu :: uu :: uu :: uu :: uu :: uu :: uu :: uu :: uu :: uu :: uu :: uu :: uu :: uu :: uu :: uu :: uu :: uu :: uu :: uu :: uu :: uu :: uu :: []) hb5 ?_ (by kernel_rfl)
  rintro W2b a n8 hn8 hk2b hfar h
  have hcs : ∀ v, KW W2b v → CsAt v ca cs := fun v hv => hcs0.far (n := n8) (fun p h1 h2 => by have := hbl p (by omega) h2; omega) (hfar v hv)
  have hps : ∀ v, KW W2b v → SsAt v ad ps := fun v hv => hps0 v (hk1b.kw v (hk2b.kw v hv))
  have hgl : ∀ v, KW W2b v → Gl v := fun v hv => gl_b hg (KW.below (hk1b.kw v (hk2b.kw v hv)))
  obtain ⟨cb, ec⟩ : ∃ cb, 0 < N → ca = some ⟨cb, 0, none⟩ := cs_ad (hcs _ h.bel) lc
  have hs := hsH.out
  clear hfar hcs0 hbl hcp hH hb5 hn8 hsH
  generalize ca = cav at *
  replace h := h.o0
  refine sym_then ?_
  refine sym_seq ?_
  refine sym_seq ?_
  refine St.r0 h [(50, .inl (.slice cav N cp)), (51, .inl (.int .i64 ((N : Nat) : Int))), (52, .inl (.slice ad N c1)), (53, .inl (.int .i64 ((N : Nat) : Int))), (54, .inl (.bool false))] [] ?_ ?_
  · exact oz (k_mv (.inl rfl) rfl) <|
    oz (k_ln (ad := cav) N cp rfl rfl (fun w => len_cs _ w)) <|
    oz (k_mv (.inl rfl) rfl) <|
    oz (k_ln (ad := ad) N c1 rfl rfl (fun w => len_ss _ w)) <|
    oz (k_bi (.int .i64 ((N : Nat) : Int)) (.int .i64 ((N : Nat) : Int)) (.bool false) (ne_i (m := ((N : Nat) : Int)) (n := ((N : Nat) : Int)) (decide_eq_false (by omega))) rfl rfl) <|
    ok_nil
  clear h; intro β a w h
  refine sym_then ?_
  refine s_cf h ?_
  refine wp_skip ?_
  refine sym_then ?_
  refine sym_seq ?_
  refine St.rg h [(55, .inl (.agg (ab 32 P0))), (56, .inl (.agg (ab 32 P0))), (14, .inr (3, pt 0)), (15, .inr (4, pt 0))] [(ab 32 (fun _ => 0), 34), (ab 32 (fun _ => 0), 34)] [(3, ab 32 P0), (4, ab 32 P0)] [eR 2, eR 2, eN 3, eN 4, eS 3, eS 4] ?_ ?_
  · exact oc (k_ld 2 0 (.agg (ab 32 P0)) (c := ab 32 P0) (ldS (F := P0) 34) rfl rfl) <|
    oc (k_ld 2 0 (.agg (ab 32 P0)) (c := ab 32 P0) (ldS (F := P0) 34) rfl rfl) <|
    oc (k_al 3 alS rfl rfl) <|
    oc (k_al 4 alS rfl rfl) <|
    oc (k_st 3 0 (.agg (ab 32 P0)) (c := ab 32 (fun _ => 0)) (n := ab 32 P0) (stS (F := P0) (c := ab 32 (fun _ => 0)) 34 (ab_size _ _)) rfl rfl) <|
    oc (k_st 4 0 (.agg (ab 32 P0)) (c := ab 32 (fun _ => 0)) (n := ab 32 P0) (stS (F := P0) (c := ab 32 (fun _ => 0)) 34 (ab_size _ _)) rfl rfl) <|
    ok_nil
  clear h; intro β a w h
  refine sym_then ?_
  refine sym_seq ?_
  refine sym_seq ?_
  refine St.r0 h [(57, .inl (.slice cav N cp)), (58, .inl (.int .i64 ((N : Nat) : Int))), (59, .inl (.int .i64 ((0 : Nat) : Int)))] [] ?_ ?_
  · exact oz (k_mv (.inl rfl) rfl) <|
    oz (k_ln (ad := cav) N cp rfl rfl (fun w => len_cs _ w)) <|
    oz (k_mv (.inl rfl) rfl) <|
    ok_nil
  clear h; intro β a w h
  refine sym_then ?_
  refine blk_in ?_
  replace h := St.sm h 3 (ab 32 (firstL (cs.take 0) (ps.take 0) P0)) (c := ab 32 P0) (t := 34) (by rw [List.take_zero, List.take_zero]; rfl)
  replace h := St.sm h 4 (ab 32 (comeL (cs.take 0) (ps.take 0) P0)) (c := ab 32 P0) (t := 34) (by rw [List.take_zero, List.take_zero]; rfl)
  obtain ⟨x, h⟩ := St.jn (n := 89) h [0, 1, 2, 3, 4, 7, 8, 10, 11, 12, 13, 14, 15, 57, 58, 59] [.inl (.int .i64 ((m : Nat) : Int)), .inl (.int .i64 ((n : Nat) : Int)), .inl (.agg (ab 32 O)), .inl (.agg (ab 32 R)), .inl (.slice ad N c1), .inr (0, pt 0), .inr (1, pt 0), .inl (.bool false), .inl (.func (.func 57) #[] #[.pointer (some ⟨n6, 0, none⟩), .pointer (some ⟨n6 + 1, 0, none⟩)]), .inr (2, pt 0), .inl (.slice cav N cp), .inr (3, pt 0), .inr (4, pt 0), .inl (.slice cav N cp), .inl (.int .i64 ((N : Nat) : Int)), .inl (.int .i64 ((0 : Nat) : Int))] [(ab 32 O, 34), (ab 32 R, 34), (ab 32 P0, 34), (ab 32 (firstL (cs.take 0) (ps.take 0) P0), 34), (ab 32 (comeL (cs.take 0) (ps.take 0) P0), 34)] (by kernel_rfl) (by kernel_rfl) (by kernel_rfl)
  refine loop_up N (fun k a w => ∃ (x : Nat → SV) (β : Nat → Nat), St (W2b) (ov (jk 89 x) ([0, 1, 2, 3, 4, 7, 8, 10, 11, 12, 13, 14, 15, 57, 58, 59].zip [.inl (.int .i64 ((m : Nat) : Int)), .inl (.int .i64 ((n : Nat) : Int)), .inl (.agg (ab 32 O)), .inl (.agg (ab 32 R)), .inl (.slice ad N c1), .inr (0, pt 0), .inr (1, pt 0), .inl (.bool false), .inl (.func (.func 57) #[] #[.pointer (some ⟨n6, 0, none⟩), .pointer (some ⟨n6 + 1, 0, none⟩)]), .inr (2, pt 0), .inl (.slice cav N cp), .inr (3, pt 0), .inr (4, pt 0), .inl (.slice cav N cp), .inl (.int .i64 ((N : Nat) : Int)), .inl (.int .i64 ((k : Nat) : Int))])) [(ab 32 O, 34), (ab 32 R, 34), (ab 32 P0, 34), (ab 32 (firstL (cs.take k) (ps.take k) P0), 34), (ab 32 (comeL (cs.take k) (ps.take k) P0), 34)] β a w) ⟨x, _, h⟩ ?_
  clear h; rintro k a w hkk ⟨x, β, h⟩
  rcases Nat.lt_or_ge k N with hltk | hgek
  · rcases Bool.eq_false_or_eq_true (cs.getD k default).r with hcr | hcr
    · refine sym_seq ?_
      refine St.r0 h [(60, .inl (.bool true))] [] ?_ ?_
      · exact oz (k_bi (.int .i64 ((k : Nat) : Int)) (.int .i64 ((N : Nat) : Int)) (.bool true) (lt_i (m := ((k : Nat) : Int)) (n := ((N : Nat) : Int)) (decide_eq_true (by omega))) rfl rfl) <|
        ok_nil
      clear h; intro β a w h
      refine sym_then ?_
      refine sym_seq ?_
      refine s_ct h ?_
      refine wp_skip ?_
      refine sym_then ?_
      refine sym_seq ?_
      refine blk_in ?_
      refine sym_seq ?_
      refine St.rg h [(61, .inl (.int .i64 ((k : Nat) : Int))), (62, .inl (.pointer (some ⟨cb, k * 4, none⟩))), (63, .inl (.agg (cvA (cs.getD k default)))), (17, .inr (5, pt 0)), (16, .inl (.int .i64 ((k : Nat) : Int)))] [(cvA ⟨0, 0, 0, false⟩, 73)] [(5, cvA (cs.getD k default))] [nn, nn, nn, eN 5, nn, eS 5] ?_ ?_
      · exact oc (k_mv (.inl rfl) rfl) <|
        oc (k_is (.slice cav N cp) (.int .i64 ((k : Nat) : Int)) (.pointer (some ⟨cb, k * 4, none⟩)) (fun w => ix_ct ec (i := k) (by omega) w) rfl rfl) <|
        oc (k_lf (.pointer (some ⟨cb, k * 4, none⟩)) (.agg (cvA (cs.getD k default))) (fun w hw => ld_ct (hcs w hw) ec (by omega)) rfl rfl) <|
        oc (k_al 5 alC rfl rfl) <|
        oc (k_mv (.inr rfl) rfl) <|
        oc (k_st 5 0 (.agg (cvA (cs.getD k default))) (c := cvA ⟨0, 0, 0, false⟩) (n := cvA (cs.getD k default)) (stC (c := (cs.getD k default)) (d := cvA ⟨0, 0, 0, false⟩) 73 rfl) rfl rfl) <|
        ok_nil
      clear h; intro β a w h
      refine sym_then ?_
      refine sym_seq ?_
      refine St.rg h [(64, .inl (.agg (cvA (cs.getD k default)))), (65, .inl (.agg (ab 32 (comeL (cs.take k) (ps.take k) P0)))), (66, .inl (.slice ad N c1)), (67, .inl (.int .i64 ((k : Nat) : Int))), (68, .inl (.pointer (some ⟨qb, qo + 32 * k, none⟩))), (69, .inl (.agg (ab 32 (ps.getD k fun _ => 0)))), (70, .inl (.agg (ab 32 (jn (cs.getD k default).r (comeL (cs.take k) (ps.take k) P0) (ps.getD k fun _ => 0)))))] [] [(4, ab 32 (jn (cs.getD k default).r (comeL (cs.take k) (ps.take k) P0) (ps.getD k fun _ => 0)))] [eR 5, eR 4, nn, nn, nn, nn, nn, eS 4] ?_ ?_
      · exact oc (k_ld 5 0 (.agg (cvA (cs.getD k default))) (c := cvA (cs.getD k default)) (ldC (c := (cs.getD k default)) 73) rfl rfl) <|
        oc (k_ld 4 0 (.agg (ab 32 (comeL (cs.take k) (ps.take k) P0))) (c := ab 32 (comeL (cs.take k) (ps.take k) P0)) (ldS (F := (comeL (cs.take k) (ps.take k) P0)) 34) rfl rfl) <|
        oc (k_mv (.inl rfl) rfl) <|
        oc (k_mv (.inl rfl) rfl) <|
        oc (k_is (.slice ad N c1) (.int .i64 ((k : Nat) : Int)) (.pointer (some ⟨qb, qo + 32 * k, none⟩)) (fun w => ix_st2 ea (i := k) (by omega) w) rfl rfl) <|
        oc (k_lf (.pointer (some ⟨qb, qo + 32 * k, none⟩)) (.agg (ab 32 (ps.getD k fun _ => 0))) (fun w hw => ld_st2 (hps w hw) ea (by omega)) rfl rfl) <|
        oc (k_cw 41 #[.agg (cvA (cs.getD k default)), .agg (ab 32 (comeL (cs.take k) (ps.take k) P0)), .agg (ab 32 (ps.getD k fun _ => 0))] (.agg (ab 32 (jn (cs.getD k default).r (comeL (cs.take k) (ps.take k) P0) (ps.getD k fun _ => 0)))) (fun w hw => join_d (hgl w hw) (comeL_lt hF _ _) (getD_lt hpl _)) rfl rfl) <|
        oc (k_st 4 0 (.agg (ab 32 (jn (cs.getD k default).r (comeL (cs.take k) (ps.take k) P0) (ps.getD k fun _ => 0)))) (c := ab 32 (comeL (cs.take k) (ps.take k) P0)) (n := ab 32 (jn (cs.getD k default).r (comeL (cs.take k) (ps.take k) P0) (ps.getD k fun _ => 0))) (stS (F := (jn (cs.getD k default).r (comeL (cs.take k) (ps.take k) P0) (ps.getD k fun _ => 0))) (c := ab 32 (comeL (cs.take k) (ps.take k) P0)) 34 (ab_size _ _)) rfl rfl) <|
        ok_nil
      clear h; intro β a w h
      refine sym_then ?_
      refine sym_seq ?_
      refine St.r0 h [(71, .inr (5, pt 3)), (72, .inl (.bool true))] [nn, eR 5] ?_ ?_
      · exact oc (k_fa 5 0 3 rfl rfl) <|
        oc (k_ld 5 3 (.bool true) (c := cvA (cs.getD k default)) (ldR (c := (cs.getD k default)) hcr 73) rfl rfl) <|
        ok_nil
      clear h; intro β a w h
      refine sym_then ?_
      refine s_ct h ?_
      refine St.rg h [(73, .inl (.agg (cvA (cs.getD k default)))), (74, .inl (.agg (ab 32 (firstL (cs.take k) (ps.take k) P0)))), (75, .inl (.slice ad N c1)), (76, .inl (.int .i64 ((k : Nat) : Int))), (77, .inl (.pointer (some ⟨qb, qo + 32 * k, none⟩))), (78, .inl (.agg (ab 32 (ps.getD k fun _ => 0)))), (79, .inl (.agg (ab 32 (jn (cs.getD k default).r (firstL (cs.take k) (ps.take k) P0) (ps.getD k fun _ => 0)))))] [] [(3, ab 32 (jn (cs.getD k default).r (firstL (cs.take k) (ps.take k) P0) (ps.getD k fun _ => 0)))] [eR 5, eR 3, nn, nn, nn, nn, nn, eS 3] ?_ ?_
      · exact oc (k_ld 5 0 (.agg (cvA (cs.getD k default))) (c := cvA (cs.getD k default)) (ldC (c := (cs.getD k default)) 73) rfl rfl) <|
        oc (k_ld 3 0 (.agg (ab 32 (firstL (cs.take k) (ps.take k) P0))) (c := ab 32 (firstL (cs.take k) (ps.take k) P0)) (ldS (F := (firstL (cs.take k) (ps.take k) P0)) 34) rfl rfl) <|
        oc (k_mv (.inl rfl) rfl) <|
        oc (k_mv (.inl rfl) rfl) <|
        oc (k_is (.slice ad N c1) (.int .i64 ((k : Nat) : Int)) (.pointer (some ⟨qb, qo + 32 * k, none⟩)) (fun w => ix_st2 ea (i := k) (by omega) w) rfl rfl) <|
        oc (k_lf (.pointer (some ⟨qb, qo + 32 * k, none⟩)) (.agg (ab 32 (ps.getD k fun _ => 0))) (fun w hw => ld_st2 (hps w hw) ea (by omega)) rfl rfl) <|
        oc (k_cw 41 #[.agg (cvA (cs.getD k default)), .agg (ab 32 (firstL (cs.take k) (ps.take k) P0)), .agg (ab 32 (ps.getD k fun _ => 0))] (.agg (ab 32 (jn (cs.getD k default).r (firstL (cs.take k) (ps.take k) P0) (ps.getD k fun _ => 0)))) (fun w hw => join_d (hgl w hw) (firstL_lt hF _ _) (getD_lt hpl _)) rfl rfl) <|
        oc (k_st 3 0 (.agg (ab 32 (jn (cs.getD k default).r (firstL (cs.take k) (ps.take k) P0) (ps.getD k fun _ => 0)))) (c := ab 32 (firstL (cs.take k) (ps.take k) P0)) (n := ab 32 (jn (cs.getD k default).r (firstL (cs.take k) (ps.take k) P0) (ps.getD k fun _ => 0))) (stS (F := (jn (cs.getD k default).r (firstL (cs.take k) (ps.take k) P0) (ps.getD k fun _ => 0))) (c := ab 32 (firstL (cs.take k) (ps.take k) P0)) 34 (ab_size _ _)) rfl rfl) <|
        ok_nil
      clear h; intro β a w h
      refine blk_norm ?_
      refine sym_then ?_
      refine St.r0 h [(80, .inl (.int .i64 (((k + 1) : Nat) : Int))), (59, .inl (.int .i64 (((k + 1) : Nat) : Int)))] [eO] ?_ ?_
      · exact oc (k_b0 (.int .i64 ((k : Nat) : Int)) (.int .i64 ((1 : Nat) : Int)) (.int .i64 (((k + 1) : Nat) : Int)) (ad_i (m := k) (n := 1) (by omega)) rfl rfl) <|
        oz (k_mv (.inl rfl) rfl) <|
        ok_nil
      clear h; intro β a w h
      replace h := St.sm h 3 (ab 32 (firstL (cs.take (k + 1)) (ps.take (k + 1)) P0)) (c := ab 32 (jn (cs.getD k default).r (firstL (cs.take k) (ps.take k) P0) (ps.getD k fun _ => 0))) (t := 34) (by rw [fst_t lc lp hltk hcr])
      replace h := St.sm h 4 (ab 32 (comeL (cs.take (k + 1)) (ps.take (k + 1)) P0)) (c := ab 32 (jn (cs.getD k default).r (comeL (cs.take k) (ps.take k) P0) (ps.getD k fun _ => 0))) (t := 34) (by rw [come_step lc lp hltk])
      obtain ⟨x, h⟩ := St.jd (n := 89) h [0, 1, 2, 3, 4, 7, 8, 10, 11, 12, 13, 14, 15, 57, 58, 59] [.inl (.int .i64 ((m : Nat) : Int)), .inl (.int .i64 ((n : Nat) : Int)), .inl (.agg (ab 32 O)), .inl (.agg (ab 32 R)), .inl (.slice ad N c1), .inr (0, pt 0), .inr (1, pt 0), .inl (.bool false), .inl (.func (.func 57) #[] #[.pointer (some ⟨n6, 0, none⟩), .pointer (some ⟨n6 + 1, 0, none⟩)]), .inr (2, pt 0), .inl (.slice cav N cp), .inr (3, pt 0), .inr (4, pt 0), .inl (.slice cav N cp), .inl (.int .i64 ((N : Nat) : Int)), .inl (.int .i64 (((k + 1) : Nat) : Int))] [(ab 32 O, 34), (ab 32 R, 34), (ab 32 P0, 34), (ab 32 (firstL (cs.take (k + 1)) (ps.take (k + 1)) P0), 34), (ab 32 (comeL (cs.take (k + 1)) (ps.take (k + 1)) P0), 34)] (by kernel_rfl) (by kernel_rfl) (by kernel_rfl) (by kernel_rfl) (fun _ _ h => by rw [hk2b.pn, hk1b.pn] at h; cases h)
      exact ⟨hltk, x, _, h⟩
    · refine sym_seq ?_
      refine St.r0 h [(60, .inl (.bool true))] [] ?_ ?_
      · exact oz (k_bi (.int .i64 ((k : Nat) : Int)) (.int .i64 ((N : Nat) : Int)) (.bool true) (lt_i (m := ((k : Nat) : Int)) (n := ((N : Nat) : Int)) (decide_eq_true (by omega))) rfl rfl) <|
        ok_nil
      clear h; intro β a w h
      refine sym_then ?_
      refine sym_seq ?_
      refine s_ct h ?_
      refine wp_skip ?_
      refine sym_then ?_
      refine sym_seq ?_
      refine blk_in ?_
      refine sym_seq ?_
      refine St.rg h [(61, .inl (.int .i64 ((k : Nat) : Int))), (62, .inl (.pointer (some ⟨cb, k * 4, none⟩))), (63, .inl (.agg (cvA (cs.getD k default)))), (17, .inr (5, pt 0)), (16, .inl (.int .i64 ((k : Nat) : Int)))] [(cvA ⟨0, 0, 0, false⟩, 73)] [(5, cvA (cs.getD k default))] [nn, nn, nn, eN 5, nn, eS 5] ?_ ?_
      · exact oc (k_mv (.inl rfl) rfl) <|
        oc (k_is (.slice cav N cp) (.int .i64 ((k : Nat) : Int)) (.pointer (some ⟨cb, k * 4, none⟩)) (fun w => ix_ct ec (i := k) (by omega) w) rfl rfl) <|
        oc (k_lf (.pointer (some ⟨cb, k * 4, none⟩)) (.agg (cvA (cs.getD k default))) (fun w hw => ld_ct (hcs w hw) ec (by omega)) rfl rfl) <|
        oc (k_al 5 alC rfl rfl) <|
        oc (k_mv (.inr rfl) rfl) <|
        oc (k_st 5 0 (.agg (cvA (cs.getD k default))) (c := cvA ⟨0, 0, 0, false⟩) (n := cvA (cs.getD k default)) (stC (c := (cs.getD k default)) (d := cvA ⟨0, 0, 0, false⟩) 73 rfl) rfl rfl) <|
        ok_nil
      clear h; intro β a w h
      refine sym_then ?_
      refine sym_seq ?_
      refine St.rg h [(64, .inl (.agg (cvA (cs.getD k default)))), (65, .inl (.agg (ab 32 (comeL (cs.take k) (ps.take k) P0)))), (66, .inl (.slice ad N c1)), (67, .inl (.int .i64 ((k : Nat) : Int))), (68, .inl (.pointer (some ⟨qb, qo + 32 * k, none⟩))), (69, .inl (.agg (ab 32 (ps.getD k fun _ => 0)))), (70, .inl (.agg (ab 32 (jn (cs.getD k default).r (comeL (cs.take k) (ps.take k) P0) (ps.getD k fun _ => 0)))))] [] [(4, ab 32 (jn (cs.getD k default).r (comeL (cs.take k) (ps.take k) P0) (ps.getD k fun _ => 0)))] [eR 5, eR 4, nn, nn, nn, nn, nn, eS 4] ?_ ?_
      · exact oc (k_ld 5 0 (.agg (cvA (cs.getD k default))) (c := cvA (cs.getD k default)) (ldC (c := (cs.getD k default)) 73) rfl rfl) <|
        oc (k_ld 4 0 (.agg (ab 32 (comeL (cs.take k) (ps.take k) P0))) (c := ab 32 (comeL (cs.take k) (ps.take k) P0)) (ldS (F := (comeL (cs.take k) (ps.take k) P0)) 34) rfl rfl) <|
        oc (k_mv (.inl rfl) rfl) <|
        oc (k_mv (.inl rfl) rfl) <|
        oc (k_is (.slice ad N c1) (.int .i64 ((k : Nat) : Int)) (.pointer (some ⟨qb, qo + 32 * k, none⟩)) (fun w => ix_st2 ea (i := k) (by omega) w) rfl rfl) <|
        oc (k_lf (.pointer (some ⟨qb, qo + 32 * k, none⟩)) (.agg (ab 32 (ps.getD k fun _ => 0))) (fun w hw => ld_st2 (hps w hw) ea (by omega)) rfl rfl) <|
        oc (k_cw 41 #[.agg (cvA (cs.getD k default)), .agg (ab 32 (comeL (cs.take k) (ps.take k) P0)), .agg (ab 32 (ps.getD k fun _ => 0))] (.agg (ab 32 (jn (cs.getD k default).r (comeL (cs.take k) (ps.take k) P0) (ps.getD k fun _ => 0)))) (fun w hw => join_d (hgl w hw) (comeL_lt hF _ _) (getD_lt hpl _)) rfl rfl) <|
        oc (k_st 4 0 (.agg (ab 32 (jn (cs.getD k default).r (comeL (cs.take k) (ps.take k) P0) (ps.getD k fun _ => 0)))) (c := ab 32 (comeL (cs.take k) (ps.take k) P0)) (n := ab 32 (jn (cs.getD k default).r (comeL (cs.take k) (ps.take k) P0) (ps.getD k fun _ => 0))) (stS (F := (jn (cs.getD k default).r (comeL (cs.take k) (ps.take k) P0) (ps.getD k fun _ => 0))) (c := ab 32 (comeL (cs.take k) (ps.take k) P0)) 34 (ab_size _ _)) rfl rfl) <|
        ok_nil
      clear h; intro β a w h
      refine sym_then ?_
      refine sym_seq ?_
      refine St.r0 h [(71, .inr (5, pt 3)), (72, .inl (.bool false))] [nn, eR 5] ?_ ?_
      · exact oc (k_fa 5 0 3 rfl rfl) <|
        oc (k_ld 5 3 (.bool false) (c := cvA (cs.getD k default)) (ldR (c := (cs.getD k default)) hcr 73) rfl rfl) <|
        ok_nil
      clear h; intro β a w h
      refine sym_then ?_
      refine s_cf h ?_
      refine wp_skip ?_
      refine blk_norm ?_
      refine sym_then ?_
      refine St.r0 h [(80, .inl (.int .i64 (((k + 1) : Nat) : Int))), (59, .inl (.int .i64 (((k + 1) : Nat) : Int)))] [eO] ?_ ?_
      · exact oc (k_b0 (.int .i64 ((k : Nat) : Int)) (.int .i64 ((1 : Nat) : Int)) (.int .i64 (((k + 1) : Nat) : Int)) (ad_i (m := k) (n := 1) (by omega)) rfl rfl) <|
        oz (k_mv (.inl rfl) rfl) <|
        ok_nil
      clear h; intro β a w h
      replace h := St.sm h 3 (ab 32 (firstL (cs.take (k + 1)) (ps.take (k + 1)) P0)) (c := ab 32 (firstL (cs.take k) (ps.take k) P0)) (t := 34) (by rw [← fst_f lc lp hltk hcr])
      replace h := St.sm h 4 (ab 32 (comeL (cs.take (k + 1)) (ps.take (k + 1)) P0)) (c := ab 32 (jn (cs.getD k default).r (comeL (cs.take k) (ps.take k) P0) (ps.getD k fun _ => 0))) (t := 34) (by rw [come_step lc lp hltk])
      obtain ⟨x, h⟩ := St.jd (n := 89) h [0, 1, 2, 3, 4, 7, 8, 10, 11, 12, 13, 14, 15, 57, 58, 59] [.inl (.int .i64 ((m : Nat) : Int)), .inl (.int .i64 ((n : Nat) : Int)), .inl (.agg (ab 32 O)), .inl (.agg (ab 32 R)), .inl (.slice ad N c1), .inr (0, pt 0), .inr (1, pt 0), .inl (.bool false), .inl (.func (.func 57) #[] #[.pointer (some ⟨n6, 0, none⟩), .pointer (some ⟨n6 + 1, 0, none⟩)]), .inr (2, pt 0), .inl (.slice cav N cp), .inr (3, pt 0), .inr (4, pt 0), .inl (.slice cav N cp), .inl (.int .i64 ((N : Nat) : Int)), .inl (.int .i64 (((k + 1) : Nat) : Int))] [(ab 32 O, 34), (ab 32 R, 34), (ab 32 P0, 34), (ab 32 (firstL (cs.take (k + 1)) (ps.take (k + 1)) P0), 34), (ab 32 (comeL (cs.take (k + 1)) (ps.take (k + 1)) P0), 34)] (by kernel_rfl) (by kernel_rfl) (by kernel_rfl) (by kernel_rfl) (fun _ _ h => by rw [hk2b.pn, hk1b.pn] at h; cases h)
      exact ⟨hltk, x, _, h⟩
  · obtain rfl : N = k := by omega
    refine sym_seq ?_
    refine St.r0 h [(60, .inl (.bool false))] [] ?_ ?_
    · exact oz (k_bi (.int .i64 ((N : Nat) : Int)) (.int .i64 ((N : Nat) : Int)) (.bool false) (lt_i (m := ((N : Nat) : Int)) (n := ((N : Nat) : Int)) (decide_eq_false (by omega))) rfl rfl) <|
      ok_nil
    clear h; intro β a w h
    refine sym_then ?_
    refine sym_seq ?_
    refine s_cf h ?_
    refine wp_exit ?_
    refine then_exit ?_
    refine then_exit ?_
    refine blk_exit ?_
    refine sym_then ?_
    refine sym_seq ?_
    refine St.r0 h [(81, .inl (.agg (ab 32 (firstL (cs.take N) (ps.take N) P0)))), (82, .inl (.agg (ab 32 O))), (83, .inl (.bool false)), (84, .inl (.bool false)), (85, uu), (86, uu), (87, uu), (88, .inl (.bool false))] [eR 3, eR 0] ?_ ?_
    · exact oc (k_ld 3 0 (.agg (ab 32 (firstL (cs.take N) (ps.take N) P0))) (c := ab 32 (firstL (cs.take N) (ps.take N) P0)) (ldS (F := (firstL (cs.take N) (ps.take N) P0)) 34) rfl rfl) <|
      oc (k_ld 0 0 (.agg (ab 32 O)) (c := ab 32 O) (ldS (F := O) 34) rfl rfl) <|
      oz (k_bi (.agg (ab 32 (firstL (cs.take N) (ps.take N) P0))) (.agg (ab 32 O)) (.bool false) (eqS_v hb1) rfl rfl) <|
      oz (k_mv (.inl rfl) rfl) <|
      oz (k_sk rfl) <|
      oz (k_sk rfl) <|
      oz (k_sk rfl) <|
      oz (k_pf rfl rfl) <|
      oz (k_mv (.inr rfl) rfl) <|
      ok_nil
    clear h; intro β a w h
    refine sym_then ?_
    refine wp_ret ?_
    replace h := h.unb hk2b
    replace h := h.unb hk1b
    exact s_rt h Tryd.results14 (fun hb => ⟨rfl, hb⟩)
end Go.Proofs.YtgnmnoadfjdjdaaDoor

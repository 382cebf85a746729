/- PE4, PE5, PX2, PBb, PBw, PS1: laid together. -/
import Derived.Test.YtgnmnoadfjdjdaaDoorG6
import Derived.Test.YtgnmnoadfjdjdaaDoorG7
namespace Go.Proofs.YtgnmnoadfjdjdaaDoor
open Go.RowKit Go.Maps Sh
set_option maxHeartbeats 8000000 in
set_option maxRecDepth 100000 in
theorem ext1_tt {m n N c1 s q pcap pb po qb qo : Nat} {pa ad : Option Addr} {cs : List Cu} {ps : List (Nat → Nat)} {O R P0 : Nat → Nat} {W0 : World} (hg : Gl W0) (hm1 : 1 ≤ m) (hmn : m ≤ n) (hn : n ≤ 1048576) (hF : ∀ i, P0 i < 256) (hpl : ∀ P ∈ ps, ∀ j, P j < 256) (lc : cs.length = N) (lp : ps.length = N) (hN : N ≤ 1048576) (hs : s ≠ 0) (ea0 : 0 < q → pa = some ⟨pb, po, none⟩) (hq : 1 ≤ q) (hld0 : ∀ w, KW (wd W0) w → (Instr.loadAt 34 (.pointer (some ⟨pb, po + 32 * 0, none⟩))).run Tryd.prog w = .ok (.agg (ab 32 P0)) w) (hsl : ∀ w, (Instr.sliceAt 22 (.slice pa q pcap) (some (.int .i64 ((1 : Nat) : Int))) none none).run Tryd.prog w = .ok (.slice ad N c1) w) (ea : 0 < N → ad = some ⟨qb, qo, none⟩) (hps0 : ∀ w, KW (wd W0) w → SsAt w ad ps) (hst : ∀ g w, Bx w g 3 (.int .i64 ((m : Nat) : Int)) → Bx w (g + 1) 3 (.int .i64 ((n : Nat) : Int)) → Calls Tryd.prog 35 #[.func (.func 57) #[] #[.pointer (some ⟨g, 0, none⟩), .pointer (some ⟨g + 1, 0, none⟩)]] w fun e w' => e = .returned (.int .i64 ((s : Nat) : Int)) ∧ Below w.heap.size w w') (hup0 : ∀ g w, Bx w g 3 (.int .i64 ((m : Nat) : Int)) → Bx w (g + 1) 3 (.int .i64 ((n : Nat) : Int)) → Calls Tryd.prog 40 #[.func (.func 57) #[] #[.pointer (some ⟨g, 0, none⟩), .pointer (some ⟨g + 1, 0, none⟩)]] w fun e W' => ∃ a cap, e = .returned (.slice a N cap) ∧ N ≤ cap ∧ CsAt W' a cs ∧ (∀ p, 0 < N → a = some p → w.heap.size ≤ p.block) ∧ Below w.heap.size w W') (hb1 : eqD (firstL (cs.take N) (ps.take N) P0) O = true) (hb2 : eqD (comeL (cs.take N) (ps.take N) P0) R = true) :
    Calls Tryd.prog 14 #[.int .i64 ((m : Nat) : Int), .int .i64 ((n : Nat) : Int), .agg (ab 32 O), .agg (ab 32 R), .slice pa q pcap] W0 fun e w' => e = .returned (.bool true) ∧ Below W0.heap.size W0 w' := by
  refine s_in Tryd.func14 Tryd.ntmps14 rfl [.inl (.int .i64 ((m : Nat) : Int)), .inl (.int .i64 ((n : Nat) : Int)), .inl (.agg (ab 32 O)), .inl (.agg (ab 32 R)), .inl (.slice pa q pcap)] ?_
  intro β a h
  refine sym_seq ?_
  refine St.rg h [(7, .inr (0, pt 0)), (8, .inr (1, pt 0)), (10, .inl (.bool false))] [(ab 32 O, 34), (ab 32 R, 34)] [] [eN 0, eN 1] ?_ ?_
  · exact oc (k_bx 0 (.agg (ab 32 O)) (bx_agg (P := Tryd.prog)) rfl rfl) <|
    oc (k_bx 1 (.agg (ab 32 R)) (bx_agg (P := Tryd.prog)) rfl rfl) <|
    oz (k_mv (.inr rfl) rfl) <|
    ok_nil
  clear h; intro β a w h
  refine sym_then ?_
  refine sym_seq ?_
  refine sym_seq ?_
  refine St.r0 h [(18, .inl (.int .i64 ((n : Nat) : Int))), (19, .inl (.bool false)), (20, .inl (.bool false)), (21, .inl (.int .i64 ((n : Nat) : Int))), (22, .inl (.bool false)), (23, .inl (.bool false)), (24, .inl (.bool false)), (25, .inl (.int .i64 ((m : Nat) : Int))), (26, .inl (.bool false)), (27, .inl (.bool false)), (28, .inl (.bool false)), (29, .inl (.int .i64 ((m : Nat) : Int))), (30, .inl (.int .i64 ((n : Nat) : Int))), (31, .inl (.bool false)), (32, .inl (.bool false))] [] ?_ ?_
  · exact oz (k_mv (.inl rfl) rfl) <|
    oz (k_bi (.int .i64 ((n : Nat) : Int)) (.int .i64 ((1 : Nat) : Int)) (.bool false) (lt_i (m := ((n : Nat) : Int)) (n := ((1 : Nat) : Int)) (decide_eq_false (by omega))) rfl rfl) <|
    oz (k_mv (.inl rfl) rfl) <|
    oz (k_mv (.inl rfl) rfl) <|
    oz (k_bi (.int .i64 ((n : Nat) : Int)) (.int .i64 ((1048576 : Nat) : Int)) (.bool false) (gt_i (m := ((n : Nat) : Int)) (n := ((1048576 : Nat) : Int)) (decide_eq_false (by omega))) rfl rfl) <|
    oz (k_pf rfl rfl) <|
    oz (k_mv (.inl rfl) rfl) <|
    oz (k_mv (.inl rfl) rfl) <|
    oz (k_bi (.int .i64 ((m : Nat) : Int)) (.int .i64 ((1 : Nat) : Int)) (.bool false) (lt_i (m := ((m : Nat) : Int)) (n := ((1 : Nat) : Int)) (decide_eq_false (by omega))) rfl rfl) <|
    oz (k_pf rfl rfl) <|
    oz (k_mv (.inl rfl) rfl) <|
    oz (k_mv (.inl rfl) rfl) <|
    oz (k_mv (.inl rfl) rfl) <|
    oz (k_bi (.int .i64 ((m : Nat) : Int)) (.int .i64 ((n : Nat) : Int)) (.bool false) (gt_i (m := ((m : Nat) : Int)) (n := ((n : Nat) : Int)) (decide_eq_false (by omega))) rfl rfl) <|
    oz (k_pf rfl rfl) <|
    ok_nil
  clear h; intro β a w h
  refine sym_then ?_
  refine s_cf h ?_
  refine wp_skip ?_
  refine sym_then ?_
  refine sym_seq ?_
  replace h := St.cs h (s' := [.inl (.int .i64 ((m : Nat) : Int)), .inl (.int .i64 ((n : Nat) : Int)), .inl (.agg (ab 32 O)), .inl (.agg (ab 32 R)), .inl (.slice pa q pcap), uu, uu, .inr (0, pt 0), .inr (1, pt 0), uu, .inl (.bool false), uu, uu, uu, uu, uu, uu, uu, .inl (.int .i64 ((n : Nat) : Int)), .inl (.bool false), .inl (.bool false), .inl (.int .i64 ((n : Nat) : Int)), .inl (.bool false), .inl (.bool false), .inl (.bool false), .inl (.int .i64 ((m : Nat) : Int)), .inl (.bool false), .inl (.bool false), .inl (.bool false), .inl (.int .i64 ((m : Nat) : Int)), .inl (.int .i64 ((n : Nat) : Int)), .inl (.bool false), .inl (.bool false), uu, uu, uu, uu, uu, uu, uu, uu, uu, uu, uu, uu, uu, uu, uu, uu, uu, uu, uu, uu, uu, uu, uu, uu, uu, uu, uu, uu, uu, uu, uu, uu, uu, uu, uu, uu, uu, uu, uu, uu, uu, uu, uu, uu, uu, uu, uu, uu, uu, uu, uu, uu, uu, uu, uu, uu]) (m' := [(ab 32 O, 34), (ab 32 R, 34)]) (by kernel_rfl) (by kernel_rfl)
  obtain rfl : a = { tmps := (.int .i64 ((m : Nat) : Int) :: .int .i64 ((n : Nat) : Int) :: .agg (ab 32 O) :: .agg (ab 32 R) :: .slice pa q pcap :: undef :: undef :: fv (pt 0) (β 0) :: fv (pt 0) (β 1) :: undef :: .bool false :: undef :: undef :: undef :: undef :: undef :: undef :: undef :: .int .i64 ((n : Nat) : Int) :: .bool false :: .bool false :: .int .i64 ((n : Nat) : Int) :: .bool false :: .bool false :: .bool false :: .int .i64 ((m : Nat) : Int) :: .bool false :: .bool false :: .bool false :: .int .i64 ((m : Nat) : Int) :: .int .i64 ((n : Nat) : Int) :: .bool false :: .bool false :: undef :: undef :: undef :: undef :: undef :: undef :: undef :: undef :: undef :: undef :: undef :: undef :: undef :: undef :: undef :: undef :: undef :: undef :: undef :: undef :: undef :: undef :: undef :: undef :: undef :: undef :: undef :: undef :: undef :: undef :: undef :: undef :: undef :: undef :: undef :: undef :: undef :: undef :: undef :: undef :: undef :: undef :: undef :: undef :: undef :: undef :: undef :: undef :: undef :: undef :: undef :: undef :: undef :: undef :: undef :: undef :: []).toArray, defers := [] } := h.tm.trans (by kernel_rfl)
  obtain ⟨q1, q2, q3, q4⟩ := cuts_two (w := w) m n
  have hH := hide1 h
  have hz := q3.size
  clear h
  refine reg_gen fun QQ hQQ => ?_
  go_wp2_with fail
  refine (ahead_d _ _ _).mono ?_
  rintro e w' ⟨rfl, rfl⟩
  go_wp2_with fail
  refine hQQ.out _ _ ?_
  clear hQQ QQ
  refine go_base hH.out ((.inl (.int .i64 ((m : Nat) : Int))) :: (.inl (.int .i64 ((n : Nat) : Int))) :: (.inl (.agg (ab 32 O))) :: (.inl (.agg (ab 32 R))) :: (.inl (.slice pa q pcap)) :: uu :: uu :: (.inr (0, pt 0)) :: (.inr (1, pt 0)) :: uu :: (.inl (.bool false)) :: (.inl (.func (.func 57) #[] #[.pointer (some ⟨w.heap.size, 0, none⟩), .pointer (some ⟨w.heap.size + 1, 0, none⟩)])) :: uu :: uu :: uu :: uu :: uu :: uu :: (.inl (.int .i64 ((n : Nat) : Int))) :: (.inl (.bool false)) :: (.inl (.bool false)) :: (.inl (.int .i64 ((n : Nat) : Int))) :: (.inl (.bool false)) :: (.inl (.bool false)) :: (.inl (.bool false)) :: (.inl (.int .i64 ((m : Nat) : Int))) :: (.inl (.bool false)) :: (.inl (.bool false)) :: (.inl (.bool false)) :: (.inl (.int .i64 ((m : Nat) : Int))) :: (.inl (.int .i64 ((n : Nat) : Int))) :: (.inl (.bool false)) :: (.inl (.bool false)) :: (.inl (.int .i64 ((m : Nat) : Int))) :: (.inl (.int .i64 ((n : Nat) : Int))) :: (.inl (.func (.func 57) #[] #[.pointer (some ⟨w.heap.size, 0, none⟩), .pointer (some ⟨w.heap.size + 1, 0, none⟩)])) :: uu :: uu :: uu :: uu :: uu :: uu :: uu :: uu :: uu :: uu :: uu :: uu :: uu :: uu :: uu :: uu :: uu :: uu :: uu :: uu :: uu :: uu :: uu :: uu :: uu :: uu :: uu :: uu :: uu :: uu :: uu :: uu :: uu :: uu :: uu :: uu :: uu :: uu :: uu :: uu :: uu :: uu :: uu :: uu :: uu :: uu :: uu :: uu :: uu :: uu :: uu :: uu :: uu :: []) q3 ?_ (by kernel_rfl)
  rintro W1b a n5 hn5 hk1b hfar h
  have hsq : ∀ v, KW W1b v → Bx v w.heap.size 3 (.int .i64 ((m : Nat) : Int)) ∧ Bx v (w.heap.size + 1) 3 (.int .i64 ((n : Nat) : Int)) := fun v hv => ⟨(hfar v hv w.heap.size (by omega) (by omega)).trans q1, (hfar v hv (w.heap.size + 1) (by omega) (by omega)).trans q2⟩
  clear hH q1 q2 q3 q4 hz hfar hn5
  generalize w.heap.size = n6 at *
  replace h := h.o0
  refine sym_then ?_
  refine sym_seq ?_
  refine St.rg h [(36, .inl (.agg (ab 32 O))), (12, .inr (2, pt 0))] [(ab 32 (fun _ => 0), 34)] [(2, ab 32 O)] [eR 0, eN 2, eS 2] ?_ ?_
  · exact oc (k_ld 0 0 (.agg (ab 32 O)) (c := ab 32 O) (ldS (F := O) 34) rfl rfl) <|
    oc (k_al 2 alS rfl rfl) <|
    oc (k_st 2 0 (.agg (ab 32 O)) (c := ab 32 (fun _ => 0)) (n := ab 32 O) (stS (F := O) (c := ab 32 (fun _ => 0)) 34 (ab_size _ _)) rfl rfl) <|
    ok_nil
  clear h; intro β a w h
  refine sym_then ?_
  refine sym_seq ?_
  refine sym_seq ?_
  refine St.r0 h [(37, .inl (.func (.func 57) #[] #[.pointer (some ⟨n6, 0, none⟩), .pointer (some ⟨n6 + 1, 0, none⟩)])), (38, .inl (.int .i64 ((s : Nat) : Int))), (39, .inl (.bool true))] [] ?_ ?_
  · exact oz (k_mv (.inl rfl) rfl) <|
    oz (k_cw 35 #[.func (.func 57) #[] #[.pointer (some ⟨n6, 0, none⟩), .pointer (some ⟨n6 + 1, 0, none⟩)]] (.int .i64 ((s : Nat) : Int)) (fun w hw => hst n6 w (hsq w hw).1 (hsq w hw).2) rfl rfl) <|
    oz (k_bi (.int .i64 ((s : Nat) : Int)) (.int .i64 ((0 : Nat) : Int)) (.bool true) (gt_i (m := ((s : Nat) : Int)) (n := ((0 : Nat) : Int)) (decide_eq_true (by omega))) rfl rfl) <|
    ok_nil
  clear h; intro β a w h
  refine sym_then ?_
  refine s_ct h ?_
  refine sym_seq ?_
  refine sym_seq ?_
  refine St.r0 h [(40, .inl (.slice pa q pcap)), (41, .inl (.int .i64 ((q : Nat) : Int))), (42, .inl (.bool false))] [] ?_ ?_
  · exact oz (k_mv (.inl rfl) rfl) <|
    oz (k_ln (ad := pa) q pcap rfl rfl (fun w => len_ss _ w)) <|
    oz (k_bi (.int .i64 ((q : Nat) : Int)) (.int .i64 ((0 : Nat) : Int)) (.bool false) (eq_i (m := ((q : Nat) : Int)) (n := ((0 : Nat) : Int)) (decide_eq_false (by omega))) rfl rfl) <|
    ok_nil
  clear h; intro β a w h
  refine sym_then ?_
  refine s_cf h ?_
  refine wp_skip ?_
  refine sym_then ?_
  refine St.rg h [(43, .inl (.slice pa q pcap)), (44, .inl (.pointer (some ⟨pb, po + 32 * 0, none⟩))), (45, .inl (.agg (ab 32 P0))), (46, .inl (.slice pa q pcap)), (47, .inl (.slice ad N c1)), (4, .inl (.slice ad N c1))] [] [(2, ab 32 P0)] [eO, nn, nn, eO, nn, eS 2] ?_ ?_
  · exact oc (k_m0 rfl rfl) <|
    oc (k_is (.slice pa q pcap) (.int .i64 ((0 : Nat) : Int)) (.pointer (some ⟨pb, po + 32 * 0, none⟩)) (fun w => ix_st2 ea0 (i := 0) (by omega) w) rfl rfl) <|
    oc (k_lf (.pointer (some ⟨pb, po + 32 * 0, none⟩)) (.agg (ab 32 P0)) (fun w hw => hld0 w (hk1b.kw w hw)) rfl rfl) <|
    oc (k_m0 rfl rfl) <|
    oc (k_sw (.slice pa q pcap) (.slice ad N c1) (some (.int .i64 ((1 : Nat) : Int))) none hsl rfl rfl) <|
    oc (k_st 2 0 (.agg (ab 32 P0)) (c := ab 32 O) (n := ab 32 P0) (stS (F := P0) (c := ab 32 O) 34 (ab_size _ _)) rfl rfl) <|
    oz (k_mv (.inr rfl) rfl) <|
    ok_nil
  clear h; intro β a w h
  refine sym_then ?_
  refine sym_seq ?_
  replace h := St.cs h (s' := [.inl (.int .i64 ((m : Nat) : Int)), .inl (.int .i64 ((n : Nat) : Int)), .inl (.agg (ab 32 O)), .inl (.agg (ab 32 R)), .inl (.slice ad N c1), uu, uu, .inr (0, pt 0), .inr (1, pt 0), uu, .inl (.bool false), .inl (.func (.func 57) #[] #[.pointer (some ⟨n6, 0, none⟩), .pointer (some ⟨n6 + 1, 0, none⟩)]), .inr (2, pt 0), uu, uu, uu, uu, uu, .inl (.int .i64 ((n : Nat) : Int)), .inl (.bool false), .inl (.bool false), .inl (.int .i64 ((n : Nat) : Int)), .inl (.bool false), .inl (.bool false), .inl (.bool false), .inl (.int .i64 ((m : Nat) : Int)), .inl (.bool false), .inl (.bool false), .inl (.bool false), .inl (.int .i64 ((m : Nat) : Int)), .inl (.int .i64 ((n : Nat) : Int)), .inl (.bool false), .inl (.bool false), .inl (.int .i64 ((m : Nat) : Int)), .inl (.int .i64 ((n : Nat) : Int)), .inl (.func (.func 57) #[] #[.pointer (some ⟨n6, 0, none⟩), .pointer (some ⟨n6 + 1, 0, none⟩)]), .inl (.agg (ab 32 O)), .inl (.func (.func 57) #[] #[.pointer (some ⟨n6, 0, none⟩), .pointer (some ⟨n6 + 1, 0, none⟩)]), .inl (.int .i64 ((s : Nat) : Int)), .inl (.bool true), .inl (.slice pa q pcap), .inl (.int .i64 ((q : Nat) : Int)), .inl (.bool false), .inl (.slice pa q pcap), .inl (.pointer (some ⟨pb, po + 32 * 0, none⟩)), .inl (.agg (ab 32 P0)), .inl (.slice pa q pcap), .inl (.slice ad N c1), uu, uu, uu, uu, uu, uu, uu, uu, uu, uu, uu, uu, uu, uu, uu, uu, uu, uu, uu, uu, uu, uu, uu, uu, uu, uu, uu, uu, uu, uu, uu, uu, uu, uu, uu, uu, uu, uu, uu, uu, uu]) (m' := [(ab 32 O, 34), (ab 32 R, 34), (ab 32 P0, 34)]) (by kernel_rfl) (by kernel_rfl)
  obtain rfl : a = { tmps := (.int .i64 ((m : Nat) : Int) :: .int .i64 ((n : Nat) : Int) :: .agg (ab 32 O) :: .agg (ab 32 R) :: .slice ad N c1 :: undef :: undef :: fv (pt 0) (β 0) :: fv (pt 0) (β 1) :: undef :: .bool false :: .func (.func 57) #[] #[.pointer (some ⟨n6, 0, none⟩), .pointer (some ⟨n6 + 1, 0, none⟩)] :: fv (pt 0) (β 2) :: undef :: undef :: undef :: undef :: undef :: .int .i64 ((n : Nat) : Int) :: .bool false :: .bool false :: .int .i64 ((n : Nat) : Int) :: .bool false :: .bool false :: .bool false :: .int .i64 ((m : Nat) : Int) :: .bool false :: .bool false :: .bool false :: .int .i64 ((m : Nat) : Int) :: .int .i64 ((n : Nat) : Int) :: .bool false :: .bool false :: .int .i64 ((m : Nat) : Int) :: .int .i64 ((n : Nat) : Int) :: .func (.func 57) #[] #[.pointer (some ⟨n6, 0, none⟩), .pointer (some ⟨n6 + 1, 0, none⟩)] :: .agg (ab 32 O) :: .func (.func 57) #[] #[.pointer (some ⟨n6, 0, none⟩), .pointer (some ⟨n6 + 1, 0, none⟩)] :: .int .i64 ((s : Nat) : Int) :: .bool true :: .slice pa q pcap :: .int .i64 ((q : Nat) : Int) :: .bool false :: .slice pa q pcap :: .pointer (some ⟨pb, po + 32 * 0, none⟩) :: .agg (ab 32 P0) :: .slice pa q pcap :: .slice ad N c1 :: undef :: undef :: undef :: undef :: undef :: undef :: undef :: undef :: undef :: undef :: undef :: undef :: undef :: undef :: undef :: undef :: undef :: undef :: undef :: undef :: undef :: undef :: undef :: undef :: undef :: undef :: undef :: undef :: undef :: undef :: undef :: undef :: undef :: undef :: undef :: undef :: undef :: undef :: undef :: undef :: undef :: []).toArray, defers := [] } := h.tm.trans (by kernel_rfl)
  have hup := hup0 n6 w (hsq w h.bel).1 (hsq w h.bel).2
  have hH := hide1 h
  have hsH := hide1 hs
  clear h hs
  refine reg_gen fun QQ hQQ => ?_
  go_wp2_with fail
  refine hup.mono ?_
  rintro e w5 ⟨ca, cp, rfl, hcp, hcs0, hbl, hb5⟩
  clear hup
  go_wp2_with fail
  refine hQQ.out _ _ ?_
  clear hQQ QQ
  refine go_base hH.out ((.inl (.int .i64 ((m : Nat) : Int))) :: (.inl (.int .i64 ((n : Nat) : Int))) :: (.inl (.agg (ab 32 O))) :: (.inl (.agg (ab 32 R))) :: (.inl (.slice ad N c1)) :: uu :: uu :: (.inr (0, pt 0)) :: (.inr (1, pt 0)) :: uu :: (.inl (.bool false)) :: (.inl (.func (.func 57) #[] #[.pointer (some ⟨n6, 0, none⟩), .pointer (some ⟨n6 + 1, 0, none⟩)])) :: (.inr (2, pt 0)) :: (.inl (.slice ca N cp)) :: uu :: uu :: uu :: uu :: (.inl (.int .i64 ((n : Nat) : Int))) :: (.inl (.bool false)) :: (.inl (.bool false)) :: (.inl (.int .i64 ((n : Nat) : Int))) :: (.inl (.bool false)) :: (.inl (.bool false)) :: (.inl (.bool false)) :: (.inl (.int .i64 ((m : Nat) : Int))) :: (.inl (.bool false)) :: (.inl (.bool false)) :: (.inl (.bool false)) :: (.inl (.int .i64 ((m : Nat) : Int))) :: (.inl (.int .i64 ((n : Nat) : Int))) :: (.inl (.bool false)) :: (.inl (.bool false)) :: (.inl (.int .i64 ((m : Nat) : Int))) :: (.inl (.int .i64 ((n : Nat) : Int))) :: (.inl (.func (.func 57) #[] #[.pointer (some ⟨n6, 0, none⟩), .pointer (some ⟨n6 + 1, 0, none⟩)])) :: (.inl (.agg (ab 32 O))) :: (.inl (.func (.func 57) #[] #[.pointer (some ⟨n6, 0, none⟩), .pointer (some ⟨n6 + 1, 0, none⟩)])) :: (.inl (.int .i64 ((s : Nat) : Int))) :: (.inl (.bool true)) :: (.inl (.slice pa q pcap)) :: (.inl (.int .i64 ((q : Nat) : Int))) :: (.inl (.bool false)) :: (.inl (.slice pa q pcap)) :: (.inl (.pointer (some ⟨pb, po + 32 * 0, none⟩))) :: (.inl (.agg (ab 32 P0))) :: (.inl (.slice pa q pcap)) :: (.inl (.slice ad N c1)) :: (.inl (.func (.func 57) #[] #[.pointer (some ⟨n6, 0, none⟩), .pointer (some ⟨n6 + 1, 0, none⟩)])) :: (.inl (.slice ca N cp)) :: uu :: uu :: uu :: uu :: uu :: uu :: uu :: uu :: uu :: uu :: uu :: uu :: uu :: uu :: uu :: uu :: uu :: uu :: uu :: uu :: uu :: uu :: uu :: uu :: uu :: uu :: uu :: uu :: uu :: uu :: uu :: uu :: uu :: uu :: uu :: uu :: uu :: uu :: uu :: []) hb5 ?_ (by kernel_rfl)
  rintro W2b a n8 hn8 hk2b hfar h
  have hcs : ∀ v, KW W2b v → CsAt v ca cs := fun v hv => hcs0.far (n := n8) (fun p h1 h2 => by have := hbl p (by omega) h2; omega) (hfar v hv)
  have hps : ∀ v, KW W2b v → SsAt v ad ps := fun v hv => hps0 v (hk1b.kw v (hk2b.kw v hv))
  have hgl : ∀ v, KW W2b v → Gl v := fun v hv => gl_b hg (KW.below (hk1b.kw v (hk2b.kw v hv)))
  obtain ⟨cb, ec⟩ : ∃ cb, 0 < N → ca = some ⟨cb, 0, none⟩ := cs_ad (hcs _ h.bel) lc
  have hs := hsH.out
  clear hfar hcs0 hbl hcp hH hb5 hn8 hsH
  generalize ca = cav at *
  replace h := h.o0
  refine sym_then ?_
  refine sym_seq ?_
  refine sym_seq ?_
  refine St.r0 h [(50, .inl (.slice cav N cp)), (51, .inl (.int .i64 ((N : Nat) : Int))), (52, .inl (.slice ad N c1)), (53, .inl (.int .i64 ((N : Nat) : Int))), (54, .inl (.bool false))] [] ?_ ?_
  · exact oz (k_mv (.inl rfl) rfl) <|
    oz (k_ln (ad := cav) N cp rfl rfl (fun w => len_cs _ w)) <|
    oz (k_mv (.inl rfl) rfl) <|
    oz (k_ln (ad := ad) N c1 rfl rfl (fun w => len_ss _ w)) <|
    oz (k_bi (.int .i64 ((N : Nat) : Int)) (.int .i64 ((N : Nat) : Int)) (.bool false) (ne_i (m := ((N : Nat) : Int)) (n := ((N : Nat) : Int)) (decide_eq_false (by omega))) rfl rfl) <|
    ok_nil
  clear h; intro β a w h
  refine sym_then ?_
  refine s_cf h ?_
  refine wp_skip ?_
  refine sym_then ?_
  refine sym_seq ?_
  refine St.rg h [(55, .inl (.agg (ab 32 P0))), (56, .inl (.agg (ab 32 P0))), (14, .inr (3, pt 0)), (15, .inr (4, pt 0))] [(ab 32 (fun _ => 0), 34), (ab 32 (fun _ => 0), 34)] [(3, ab 32 P0), (4, ab 32 P0)] [eR 2, eR 2, eN 3, eN 4, eS 3, eS 4] ?_ ?_
  · exact oc (k_ld 2 0 (.agg (ab 32 P0)) (c := ab 32 P0) (ldS (F := P0) 34) rfl rfl) <|
    oc (k_ld 2 0 (.agg (ab 32 P0)) (c := ab 32 P0) (ldS (F := P0) 34) rfl rfl) <|
    oc (k_al 3 alS rfl rfl) <|
    oc (k_al 4 alS rfl rfl) <|
    oc (k_st 3 0 (.agg (ab 32 P0)) (c := ab 32 (fun _ => 0)) (n := ab 32 P0) (stS (F := P0) (c := ab 32 (fun _ => 0)) 34 (ab_size _ _)) rfl rfl) <|
    oc (k_st 4 0 (.agg (ab 32 P0)) (c := ab 32 (fun _ => 0)) (n := ab 32 P0) (stS (F := P0) (c := ab 32 (fun _ => 0)) 34 (ab_size _ _)) rfl rfl) <|
    ok_nil
  clear h; intro β a w h
  refine sym_then ?_
  refine sym_seq ?_
  refine sym_seq ?_
  refine St.r0 h [(57, .inl (.slice cav N cp)), (58, .inl (.int .i64 ((N : Nat) : Int))), (59, .inl (.int .i64 ((0 : Nat) : Int)))] [] ?_ ?_
  · exact oz (k_mv (.inl rfl) rfl) <|
    oz (k_ln (ad := cav) N cp rfl rfl (fun w => len_cs _ w)) <|
    oz (k_mv (.inl rfl) rfl) <|
    ok_nil
  clear h; intro β a w h
  refine sym_then ?_
  refine blk_in ?_
  replace h := St.sm h 3 (ab 32 (firstL (cs.take 0) (ps.take 0) P0)) (c := ab 32 P0) (t := 34) (by rw [List.take_zero, List.take_zero]; rfl)
  replace h := St.sm h 4 (ab 32 (comeL (cs.take 0) (ps.take 0) P0)) (c := ab 32 P0) (t := 34) (by rw [List.take_zero, List.take_zero]; rfl)
  obtain ⟨x, h⟩ := St.jn (n := 89) h [0, 1, 2, 3, 4, 7, 8, 10, 11, 12, 13, 14, 15, 57, 58, 59] [.inl (.int .i64 ((m : Nat) : Int)), .inl (.int .i64 ((n : Nat) : Int)), .inl (.agg (ab 32 O)), .inl (.agg (ab 32 R)), .inl (.slice ad N c1), .inr (0, pt 0), .inr (1, pt 0), .inl (.bool false), .inl (.func (.func 57) #[] #[.pointer (some ⟨n6, 0, none⟩), .pointer (some ⟨n6 + 1, 0, none⟩)]), .inr (2, pt 0), .inl (.slice cav N cp), .inr (3, pt 0), .inr (4, pt 0), .inl (.slice cav N cp), .inl (.int .i64 ((N : Nat) : Int)), .inl (.int .i64 ((0 : Nat) : Int))] [(ab 32 O, 34), (ab 32 R, 34), (ab 32 P0, 34), (ab 32 (firstL (cs.take 0) (ps.take 0) P0), 34), (ab 32 (comeL (cs.take 0) (ps.take 0) P0), 34)] (by kernel_rfl) (by kernel_rfl) (by kernel_rfl)
  refine loop_up N (fun k a w => ∃ (x : Nat → SV) (β : Nat → Nat), St (W2b) (ov (jk 89 x) ([0, 1, 2, 3, 4, 7, 8, 10, 11, 12, 13, 14, 15, 57, 58, 59].zip [.inl (.int .i64 ((m : Nat) : Int)), .inl (.int .i64 ((n : Nat) : Int)), .inl (.agg (ab 32 O)), .inl (.agg (ab 32 R)), .inl (.slice ad N c1), .inr (0, pt 0), .inr (1, pt 0), .inl (.bool false), .inl (.func (.func 57) #[] #[.pointer (some ⟨n6, 0, none⟩), .pointer (some ⟨n6 + 1, 0, none⟩)]), .inr (2, pt 0), .inl (.slice cav N cp), .inr (3, pt 0), .inr (4, pt 0), .inl (.slice cav N cp), .inl (.int .i64 ((N : Nat) : Int)), .inl (.int .i64 ((k : Nat) : Int))])) [(ab 32 O, 34), (ab 32 R, 34), (ab 32 P0, 34), (ab 32 (firstL (cs.take k) (ps.take k) P0), 34), (ab 32 (comeL (cs.take k) (ps.take k) P0), 34)] β a w) ⟨x, _, h⟩ ?_
  clear h; rintro k a w hkk ⟨x, β, h⟩
  rcases Nat.lt_or_ge k N with hltk | hgek
  · rcases Bool.eq_false_or_eq_true (cs.getD k default).r with hcr | hcr
    · refine sym_seq ?_
      refine St.r0 h [(60, .inl (.bool true))] [] ?_ ?_
      · exact oz (k_bi (.int .i64 ((k : Nat) : Int)) (.int .i64 ((N : Nat) : Int)) (.bool true) (lt_i (m := ((k : Nat) : Int)) (n := ((N : Nat) : Int)) (decide_eq_true (by omega))) rfl rfl) <|
        ok_nil
      clear h; intro β a w h
      refine sym_then ?_
      refine sym_seq ?_
      refine s_ct h ?_
      refine wp_skip ?_
      refine sym_then ?_
      refine sym_seq ?_
      refine blk_in ?_
      refine sym_seq ?_
      refine St.rg h [(61, .inl (.int .i64 ((k : Nat) : Int))), (62, .inl (.pointer (some ⟨cb, k * 4, none⟩))), (63, .inl (.agg (cvA (cs.getD k default)))), (17, .inr (5, pt 0)), (16, .inl (.int .i64 ((k : Nat) : Int)))] [(cvA ⟨0, 0, 0, false⟩, 73)] [(5, cvA (cs.getD k default))] [nn, nn, nn, eN 5, nn, eS 5] ?_ ?_
      · exact oc (k_mv (.inl rfl) rfl) <|
        oc (k_is (.slice cav N cp) (.int .i64 ((k : Nat) : Int)) (.pointer (some ⟨cb, k * 4, none⟩)) (fun w => ix_ct ec (i := k) (by omega) w) rfl rfl) <|
        oc (k_lf (.pointer (some ⟨cb, k * 4, none⟩)) (.agg (cvA (cs.getD k default))) (fun w hw => ld_ct (hcs w hw) ec (by omega)) rfl rfl) <|
        oc (k_al 5 alC rfl rfl) <|
        oc (k_mv (.inr rfl) rfl) <|
        oc (k_st 5 0 (.agg (cvA (cs.getD k default))) (c := cvA ⟨0, 0, 0, false⟩) (n := cvA (cs.getD k default)) (stC (c := (cs.getD k default)) (d := cvA ⟨0, 0, 0, false⟩) 73 rfl) rfl rfl) <|
        ok_nil
      clear h; intro β a w h
      refine sym_then ?_
      refine sym_seq ?_
      refine St.rg h [(64, .inl (.agg (cvA (cs.getD k default)))), (65, .inl (.agg (ab 32 (comeL (cs.take k) (ps.take k) P0)))), (66, .inl (.slice ad N c1)), (67, .inl (.int .i64 ((k : Nat) : Int))), (68, .inl (.pointer (some ⟨qb, qo + 32 * k, none⟩))), (69, .inl (.agg (ab 32 (ps.getD k fun _ => 0)))), (70, .inl (.agg (ab 32 (jn (cs.getD k default).r (comeL (cs.take k) (ps.take k) P0) (ps.getD k fun _ => 0)))))] [] [(4, ab 32 (jn (cs.getD k default).r (comeL (cs.take k) (ps.take k) P0) (ps.getD k fun _ => 0)))] [eR 5, eR 4, nn, nn, nn, nn, nn, eS 4] ?_ ?_
      · exact oc (k_ld 5 0 (.agg (cvA (cs.getD k default))) (c := cvA (cs.getD k default)) (ldC (c := (cs.getD k default)) 73) rfl rfl) <|
        oc (k_ld 4 0 (.agg (ab 32 (comeL (cs.take k) (ps.take k) P0))) (c := ab 32 (comeL (cs.take k) (ps.take k) P0)) (ldS (F := (comeL (cs.take k) (ps.take k) P0)) 34) rfl rfl) <|
        oc (k_mv (.inl rfl) rfl) <|
        oc (k_mv (.inl rfl) rfl) <|
        oc (k_is (.slice ad N c1) (.int .i64 ((k : Nat) : Int)) (.pointer (some ⟨qb, qo + 32 * k, none⟩)) (fun w => ix_st2 ea (i := k) (by omega) w) rfl rfl) <|
        oc (k_lf (.pointer (some ⟨qb, qo + 32 * k, none⟩)) (.agg (ab 32 (ps.getD k fun _ => 0))) (fun w hw => ld_st2 (hps w hw) ea (by omega)) rfl rfl) <|
        oc (k_cw 41 #[.agg (cvA (cs.getD k default)), .agg (ab 32 (comeL (cs.take k) (ps.take k) P0)), .agg (ab 32 (ps.getD k fun _ => 0))] (.agg (ab 32 (jn (cs.getD k default).r (comeL (cs.take k) (ps.take k) P0) (ps.getD k fun _ => 0)))) (fun w hw => join_d (hgl w hw) (comeL_lt hF _ _) (getD_lt hpl _)) rfl rfl) <|
        oc (k_st 4 0 (.agg (ab 32 (jn (cs.getD k default).r (comeL (cs.take k) (ps.take k) P0) (ps.getD k fun _ => 0)))) (c := ab 32 (comeL (cs.take k) (ps.take k) P0)) (n := ab 32 (jn (cs.getD k default).r (comeL (cs.take k) (ps.take k) P0) (ps.getD k fun _ => 0))) (stS (F := (jn (cs.getD k default).r (comeL (cs.take k) (ps.take k) P0) (ps.getD k fun _ => 0))) (c := ab 32 (comeL (cs.take k) (ps.take k) P0)) 34 (ab_size _ _)) rfl rfl) <|
        ok_nil
      clear h; intro β a w h
      refine sym_then ?_
      refine sym_seq ?_
      refine St.r0 h [(71, .inr (5, pt 3)), (72, .inl (.bool true))] [nn, eR 5] ?_ ?_
      · exact oc (k_fa 5 0 3 rfl rfl) <|
        oc (k_ld 5 3 (.bool true) (c := cvA (cs.getD k default)) (ldR (c := (cs.getD k default)) hcr 73) rfl rfl) <|
        ok_nil
      clear h; intro β a w h
      refine sym_then ?_
      refine s_ct h ?_
      refine St.rg h [(73, .inl (.agg (cvA (cs.getD k default)))), (74, .inl (.agg (ab 32 (firstL (cs.take k) (ps.take k) P0)))), (75, .inl (.slice ad N c1)), (76, .inl (.int .i64 ((k : Nat) : Int))), (77, .inl (.pointer (some ⟨qb, qo + 32 * k, none⟩))), (78, .inl (.agg (ab 32 (ps.getD k fun _ => 0)))), (79, .inl (.agg (ab 32 (jn (cs.getD k default).r (firstL (cs.take k) (ps.take k) P0) (ps.getD k fun _ => 0)))))] [] [(3, ab 32 (jn (cs.getD k default).r (firstL (cs.take k) (ps.take k) P0) (ps.getD k fun _ => 0)))] [eR 5, eR 3, nn, nn, nn, nn, nn, eS 3] ?_ ?_
      · exact oc (k_ld 5 0 (.agg (cvA (cs.getD k default))) (c := cvA (cs.getD k default)) (ldC (c := (cs.getD k default)) 73) rfl rfl) <|
        oc (k_ld 3 0 (.agg (ab 32 (firstL (cs.take k) (ps.take k) P0))) (c := ab 32 (firstL (cs.take k) (ps.take k) P0)) (ldS (F := (firstL (cs.take k) (ps.take k) P0)) 34) rfl rfl) <|
        oc (k_mv (.inl rfl) rfl) <|
        oc (k_mv (.inl rfl) rfl) <|
        oc (k_is (.slice ad N c1) (.int .i64 ((k : Nat) : Int)) (.pointer (some ⟨qb, qo + 32 * k, none⟩)) (fun w => ix_st2 ea (i := k) (by omega) w) rfl rfl) <|
        oc (k_lf (.pointer (some ⟨qb, qo + 32 * k, none⟩)) (.agg (ab 32 (ps.getD k fun _ => 0))) (fun w hw => ld_st2 (hps w hw) ea (by omega)) rfl rfl) <|
        oc (k_cw 41 #[.agg (cvA (cs.getD k default)), .agg (ab 32 (firstL (cs.take k) (ps.take k) P0)), .agg (ab 32 (ps.getD k fun _ => 0))] (.agg (ab 32 (jn (cs.getD k default).r (firstL (cs.take k) (ps.take k) P0) (ps.getD k fun _ => 0)))) (fun w hw => join_d (hgl w hw) (firstL_lt hF _ _) (getD_lt hpl _)) rfl rfl) <|
        oc (k_st 3 0 (.agg (ab 32 (jn (cs.getD k default).r (firstL (cs.take k) (ps.take k) P0) (ps.getD k fun _ => 0)))) (c := ab 32 (firstL (cs.take k) (ps.take k) P0)) (n := ab 32 (jn (cs.getD k default).r (firstL (cs.take k) (ps.take k) P0) (ps.getD k fun _ => 0))) (stS (F := (jn (cs.getD k default).r (firstL (cs.take k) (ps.take k) P0) (ps.getD k fun _ => 0))) (c := ab 32 (firstL (cs.take k) (ps.take k) P0)) 34 (ab_size _ _)) rfl rfl) <|
        ok_nil
      clear h; intro β a w h
      refine blk_norm ?_
      refine sym_then ?_
      refine St.r0 h [(80, .inl (.int .i64 (((k + 1) : Nat) : Int))), (59, .inl (.int .i64 (((k + 1) : Nat) : Int)))] [eO] ?_ ?_
      · exact oc (k_b0 (.int .i64 ((k : Nat) : Int)) (.int .i64 ((1 : Nat) : Int)) (.int .i64 (((k + 1) : Nat) : Int)) (ad_i (m := k) (n := 1) (by omega)) rfl rfl) <|
        oz (k_mv (.inl rfl) rfl) <|
        ok_nil
      clear h; intro β a w h
      replace h := St.sm h 3 (ab 32 (firstL (cs.take (k + 1)) (ps.take (k + 1)) P0)) (c := ab 32 (jn (cs.getD k default).r (firstL (cs.take k) (ps.take k) P0) (ps.getD k fun _ => 0))) (t := 34) (by rw [fst_t lc lp hltk hcr])
      replace h := St.sm h 4 (ab 32 (comeL (cs.take (k + 1)) (ps.take (k + 1)) P0)) (c := ab 32 (jn (cs.getD k default).r (comeL (cs.take k) (ps.take k) P0) (ps.getD k fun _ => 0))) (t := 34) (by rw [come_step lc lp hltk])
      obtain ⟨x, h⟩ := St.jd (n := 89) h [0, 1, 2, 3, 4, 7, 8, 10, 11, 12, 13, 14, 15, 57, 58, 59] [.inl (.int .i64 ((m : Nat) : Int)), .inl (.int .i64 ((n : Nat) : Int)), .inl (.agg (ab 32 O)), .inl (.agg (ab 32 R)), .inl (.slice ad N c1), .inr (0, pt 0), .inr (1, pt 0), .inl (.bool false), .inl (.func (.func 57) #[] #[.pointer (some ⟨n6, 0, none⟩), .pointer (some ⟨n6 + 1, 0, none⟩)]), .inr (2, pt 0), .inl (.slice cav N cp), .inr (3, pt 0), .inr (4, pt 0), .inl (.slice cav N cp), .inl (.int .i64 ((N : Nat) : Int)), .inl (.int .i64 (((k + 1) : Nat) : Int))] [(ab 32 O, 34), (ab 32 R, 34), (ab 32 P0, 34), (ab 32 (firstL (cs.take (k + 1)) (ps.take (k + 1)) P0), 34), (ab 32 (comeL (cs.take (k + 1)) (ps.take (k + 1)) P0), 34)] (by kernel_rfl) (by kernel_rfl) (by kernel_rfl) (by kernel_rfl) (fun _ _ h => by rw [hk2b.pn, hk1b.pn] at h; cases h)
      exact ⟨hltk, x, _, h⟩
    · refine sym_seq ?_
      refine St.r0 h [(60, .inl (.bool true))] [] ?_ ?_
      · exact oz (k_bi (.int .i64 ((k : Nat) : Int)) (.int .i64 ((N : Nat) : Int)) (.bool true) (lt_i (m := ((k : Nat) : Int)) (n := ((N : Nat) : Int)) (decide_eq_true (by omega))) rfl rfl) <|
        ok_nil
      clear h; intro β a w h
      refine sym_then ?_
      refine sym_seq ?_
      refine s_ct h ?_
      refine wp_skip ?_
      refine sym_then ?_
      refine sym_seq ?_
      refine blk_in ?_
      refine sym_seq ?_
      refine St.rg h [(61, .inl (.int .i64 ((k : Nat) : Int))), (62, .inl (.pointer (some ⟨cb, k * 4, none⟩))), (63, .inl (.agg (cvA (cs.getD k default)))), (17, .inr (5, pt 0)), (16, .inl (.int .i64 ((k : Nat) : Int)))] [(cvA ⟨0, 0, 0, false⟩, 73)] [(5, cvA (cs.getD k default))] [nn, nn, nn, eN 5, nn, eS 5] ?_ ?_
      · exact oc (k_mv (.inl rfl) rfl) <|
        oc (k_is (.slice cav N cp) (.int .i64 ((k : Nat) : Int)) (.pointer (some ⟨cb, k * 4, none⟩)) (fun w => ix_ct ec (i := k) (by omega) w) rfl rfl) <|
        oc (k_lf (.pointer (some ⟨cb, k * 4, none⟩)) (.agg (cvA (cs.getD k default))) (fun w hw => ld_ct (hcs w hw) ec (by omega)) rfl rfl) <|
        oc (k_al 5 alC rfl rfl) <|
        oc (k_mv (.inr rfl) rfl) <|
        oc (k_st 5 0 (.agg (cvA (cs.getD k default))) (c := cvA ⟨0, 0, 0, false⟩) (n := cvA (cs.getD k default)) (stC (c := (cs.getD k default)) (d := cvA ⟨0, 0, 0, false⟩) 73 rfl) rfl rfl) <|
        ok_nil
      clear h; intro β a w h
      refine sym_then ?_
      refine sym_seq ?_
      refine St.rg h [(64, .inl (.agg (cvA (cs.getD k default)))), (65, .inl (.agg (ab 32 (comeL (cs.take k) (ps.take k) P0)))), (66, .inl (.slice ad N c1)), (67, .inl (.int .i64 ((k : Nat) : Int))), (68, .inl (.pointer (some ⟨qb, qo + 32 * k, none⟩))), (69, .inl (.agg (ab 32 (ps.getD k fun _ => 0)))), (70, .inl (.agg (ab 32 (jn (cs.getD k default).r (comeL (cs.take k) (ps.take k) P0) (ps.getD k fun _ => 0)))))] [] [(4, ab 32 (jn (cs.getD k default).r (comeL (cs.take k) (ps.take k) P0) (ps.getD k fun _ => 0)))] [eR 5, eR 4, nn, nn, nn, nn, nn, eS 4] ?_ ?_
      · exact oc (k_ld 5 0 (.agg (cvA (cs.getD k default))) (c := cvA (cs.getD k default)) (ldC (c := (cs.getD k default)) 73) rfl rfl) <|
        oc (k_ld 4 0 (.agg (ab 32 (comeL (cs.take k) (ps.take k) P0))) (c := ab 32 (comeL (cs.take k) (ps.take k) P0)) (ldS (F := (comeL (cs.take k) (ps.take k) P0)) 34) rfl rfl) <|
        oc (k_mv (.inl rfl) rfl) <|
        oc (k_mv (.inl rfl) rfl) <|
        oc (k_is (.slice ad N c1) (.int .i64 ((k : Nat) : Int)) (.pointer (some ⟨qb, qo + 32 * k, none⟩)) (fun w => ix_st2 ea (i := k) (by omega) w) rfl rfl) <|
        oc (k_lf (.pointer (some ⟨qb, qo + 32 * k, none⟩)) (.agg (ab 32 (ps.getD k fun _ => 0))) (fun w hw => ld_st2 (hps w hw) ea (by omega)) rfl rfl) <|
        oc (k_cw 41 #[.agg (cvA (cs.getD k default)), .agg (ab 32 (comeL (cs.take k) (ps.take k) P0)), .agg (ab 32 (ps.getD k fun _ => 0))] (.agg (ab 32 (jn (cs.getD k default).r (comeL (cs.take k) (ps.take k) P0) (ps.getD k fun _ => 0)))) (fun w hw => join_d (hgl w hw) (comeL_lt hF _ _) (getD_lt hpl _)) rfl rfl) <|
        oc (k_st 4 0 (.agg (ab 32 (jn (cs.getD k default).r (comeL (cs.take k) (ps.take k) P0) (ps.getD k fun _ => 0)))) (c := ab 32 (comeL (cs.take k) (ps.take k) P0)) (n := ab 32 (jn (cs.getD k default).r (comeL (cs.take k) (ps.take k) P0) (ps.getD k fun _ => 0))) (stS (F := (jn (cs.getD k default).r (comeL (cs.take k) (ps.take k) P0) (ps.getD k fun _ => 0))) (c := ab 32 (comeL (cs.take k) (ps.take k) P0)) 34 (ab_size _ _)) rfl rfl) <|
        ok_nil
      clear h; intro β a w h
      refine sym_then ?_
      refine sym_seq ?_
      refine St.r0 h [(71, .inr (5, pt 3)), (72, .inl (.bool false))] [nn, eR 5] ?_ ?_
      · exact oc (k_fa 5 0 3 rfl rfl) <|
        oc (k_ld 5 3 (.bool false) (c := cvA (cs.getD k default)) (ldR (c := (cs.getD k default)) hcr 73) rfl rfl) <|
        ok_nil
      clear h; intro β a w h
      refine sym_then ?_
      refine s_cf h ?_
      refine wp_skip ?_
      refine blk_norm ?_
      refine sym_then ?_
      refine St.r0 h [(80, .inl (.int .i64 (((k + 1) : Nat) : Int))), (59, .inl (.int .i64 (((k + 1) : Nat) : Int)))] [eO] ?_ ?_
      · exact oc (k_b0 (.int .i64 ((k : Nat) : Int)) (.int .i64 ((1 : Nat) : Int)) (.int .i64 (((k + 1) : Nat) : Int)) (ad_i (m := k) (n := 1) (by omega)) rfl rfl) <|
        oz (k_mv (.inl rfl) rfl) <|
        ok_nil
      clear h; intro β a w h
      replace h := St.sm h 3 (ab 32 (firstL (cs.take (k + 1)) (ps.take (k + 1)) P0)) (c := ab 32 (firstL (cs.take k) (ps.take k) P0)) (t := 34) (by rw [← fst_f lc lp hltk hcr])
      replace h := St.sm h 4 (ab 32 (comeL (cs.take (k + 1)) (ps.take (k + 1)) P0)) (c := ab 32 (jn (cs.getD k default).r (comeL (cs.take k) (ps.take k) P0) (ps.getD k fun _ => 0))) (t := 34) (by rw [come_step lc lp hltk])
      obtain ⟨x, h⟩ := St.jd (n := 89) h [0, 1, 2, 3, 4, 7, 8, 10, 11, 12, 13, 14, 15, 57, 58, 59] [.inl (.int .i64 ((m : Nat) : Int)), .inl (.int .i64 ((n : Nat) : Int)), .inl (.agg (ab 32 O)), .inl (.agg (ab 32 R)), .inl (.slice ad N c1), .inr (0, pt 0), .inr (1, pt 0), .inl (.bool false), .inl (.func (.func 57) #[] #[.pointer (some ⟨n6, 0, none⟩), .pointer (some ⟨n6 + 1, 0, none⟩)]), .inr (2, pt 0), .inl (.slice cav N cp), .inr (3, pt 0), .inr (4, pt 0), .inl (.slice cav N cp), .inl (.int .i64 ((N : Nat) : Int)), .inl (.int .i64 (((k + 1) : Nat) : Int))] [(ab 32 O, 34), (ab 32 R, 34), (ab 32 P0, 34), (ab 32 (firstL (cs.take (k + 1)) (ps.take (k + 1)) P0), 34), (ab 32 (comeL (cs.take (k + 1)) (ps.take (k + 1)) P0), 34)] (by kernel_rfl) (by kernel_rfl) (by kernel_rfl) (by kernel_rfl) (fun _ _ h => by rw [hk2b.pn, hk1b.pn] at h; cases h)
      exact ⟨hltk, x, _, h⟩
  · obtain rfl : N = k := by omega
    refine sym_seq ?_
    refine St.r0 h [(60, .inl (.bool false))] [] ?_ ?_
    · exact oz (k_bi (.int .i64 ((N : Nat) : Int)) (.int .i64 ((N : Nat) : Int)) (.bool false) (lt_i (m := ((N : Nat) : Int)) (n := ((N : Nat) : Int)) (decide_eq_false (by omega))) rfl rfl) <|
      ok_nil
    clear h; intro β a w h
    refine sym_then ?_
    refine sym_seq ?_
    refine s_cf h ?_
    refine wp_exit ?_
    refine then_exit ?_
    refine then_exit ?_
    refine blk_exit ?_
    refine sym_then ?_
    refine sym_seq ?_
    refine St.r0 h [(81, .inl (.agg (ab 32 (firstL (cs.take N) (ps.take N) P0)))), (82, .inl (.agg (ab 32 O))), (83, .inl (.bool true)), (84, .inl (.bool true)), (85, .inl (.agg (ab 32 (comeL (cs.take N) (ps.take N) P0)))), (86, .inl (.agg (ab 32 R))), (87, .inl (.bool true)), (88, .inl (.bool true)), (10, .inl (.bool true))] [eR 3, eR 0, nn, nn, eR 4, eR 1] ?_ ?_
    · exact oc (k_ld 3 0 (.agg (ab 32 (firstL (cs.take N) (ps.take N) P0))) (c := ab 32 (firstL (cs.take N) (ps.take N) P0)) (ldS (F := (firstL (cs.take N) (ps.take N) P0)) 34) rfl rfl) <|
      oc (k_ld 0 0 (.agg (ab 32 O)) (c := ab 32 O) (ldS (F := O) 34) rfl rfl) <|
      oc (k_bi (.agg (ab 32 (firstL (cs.take N) (ps.take N) P0))) (.agg (ab 32 O)) (.bool true) (eqS_v hb1) rfl rfl) <|
      oc (k_mv (.inl rfl) rfl) <|
      oc (k_ld 4 0 (.agg (ab 32 (comeL (cs.take N) (ps.take N) P0))) (c := ab 32 (comeL (cs.take N) (ps.take N) P0)) (ldS (F := (comeL (cs.take N) (ps.take N) P0)) 34) rfl rfl) <|
      oc (k_ld 1 0 (.agg (ab 32 R)) (c := ab 32 R) (ldS (F := R) 34) rfl rfl) <|
      oz (k_bi (.agg (ab 32 (comeL (cs.take N) (ps.take N) P0))) (.agg (ab 32 R)) (.bool true) (eqS_v hb2) rfl rfl) <|
      oz (k_pt rfl rfl) <|
      oz (k_mv (.inr rfl) rfl) <|
      ok_nil
    clear h; intro β a w h
    refine sym_then ?_
    refine wp_ret ?_
    replace h := h.unb hk2b
    replace h := h.unb hk1b
    exact s_rt h Tryd.results14 (fun hb => ⟨rfl, hb⟩)
set_option maxHeartbeats 8000000 in
set_option maxRecDepth 100000 in
theorem ext1_tf {m n N c1 s q pcap pb po qb qo : Nat} {pa ad : Option Addr} {cs : List Cu} {ps : List (Nat → Nat)} {O R P0 : Nat → Nat} {W0 : World} (hg : Gl W0) (hm1 : 1 ≤ m) (hmn : m ≤ n) (hn : n ≤ 1048576) (hF : ∀ i, P0 i < 256) (hpl : ∀ P ∈ ps, ∀ j, P j < 256) (lc : cs.length = N) (lp : ps.length = N) (hN : N ≤ 1048576) (hs : s ≠ 0) (ea0 : 0 < q → pa = some ⟨pb, po, none⟩) (hq : 1 ≤ q) (hld0 : ∀ w, KW (wd W0) w → (Instr.loadAt 34 (.pointer (some ⟨pb, po + 32 * 0, none⟩))).run Tryd.prog w = .ok (.agg (ab 32 P0)) w) (hsl : ∀ w, (Instr.sliceAt 22 (.slice pa q pcap) (some (.int .i64 ((1 : Nat) : Int))) none none).run Tryd.prog w = .ok (.slice ad N c1) w) (ea : 0 < N → ad = some ⟨qb, qo, none⟩) (hps0 : ∀ w, KW (wd W0) w → SsAt w ad ps) (hst : ∀ g w, Bx w g 3 (.int .i64 ((m : Nat) : Int)) → Bx w (g + 1) 3 (.int .i64 ((n : Nat) : Int)) → Calls Tryd.prog 35 #[.func (.func 57) #[] #[.pointer (some ⟨g, 0, none⟩), .pointer (some ⟨g + 1, 0, none⟩)]] w fun e w' => e = .returned (.int .i64 ((s : Nat) : Int)) ∧ Below w.heap.size w w') (hup0 : ∀ g w, Bx w g 3 (.int .i64 ((m : Nat) : Int)) → Bx w (g + 1) 3 (.int .i64 ((n : Nat) : Int)) → Calls Tryd.prog 40 #[.func (.func 57) #[] #[.pointer (some ⟨g, 0, none⟩), .pointer (some ⟨g + 1, 0, none⟩)]] w fun e W' => ∃ a cap, e = .returned (.slice a N cap) ∧ N ≤ cap ∧ CsAt W' a cs ∧ (∀ p, 0 < N → a = some p → w.heap.size ≤ p.block) ∧ Below w.heap.size w W') (hb1 : eqD (firstL (cs.take N) (ps.take N) P0) O = true) (hb2 : eqD (comeL (cs.take N) (ps.take N) P0) R = false) :
    Calls Tryd.prog 14 #[.int .i64 ((m : Nat) : Int), .int .i64 ((n : Nat) : Int), .agg (ab 32 O), .agg (ab 32 R), .slice pa q pcap] W0 fun e w' => e = .returned (.bool false) ∧ Below W0.heap.size W0 w' := by
  refine s_in Tryd.func14 Tryd.ntmps14 rfl [.inl (.int .i64 ((m : Nat) : Int)), .inl (.int .i64 ((n : Nat) : Int)), .inl (.agg (ab 32 O)), .inl (.agg (ab 32 R)), .inl (.slice pa q pcap)] ?_
  intro β a h
  refine sym_seq ?_
  refine St.rg h [(7, .inr (0, pt 0)), (8, .inr (1, pt 0)), (10, .inl (.bool false))] [(ab 32 O, 34), (ab 32 R, 34)] [] [eN 0, eN 1] ?_ ?_
  · exact oc (k_bx 0 (.agg (ab 32 O)) (bx_agg (P := Tryd.prog)) rfl rfl) <|
    oc (k_bx 1 (.agg (ab 32 R)) (bx_agg (P := Tryd.prog)) rfl rfl) <|
    oz (k_mv (.inr rfl) rfl) <|
    ok_nil
  clear h; intro β a w h
  refine sym_then ?_
  refine sym_seq ?_
  refine sym_seq ?_
  refine St.r0 h [(18, .inl (.int .i64 ((n : Nat) : Int))), (19, .inl (.bool false)), (20, .inl (.bool false)), (21, .inl (.int .i64 ((n : Nat) : Int))), (22, .inl (.bool false)), (23, .inl (.bool false)), (24, .inl (.bool false)), (25, .inl (.int .i64 ((m : Nat) : Int))), (26, .inl (.bool false)), (27, .inl (.bool false)), (28, .inl (.bool false)), (29, .inl (.int .i64 ((m : Nat) : Int))), (30, .inl (.int .i64 ((n : Nat) : Int))), (31, .inl (.bool false)), (32, .inl (.bool false))] [] ?_ ?_
  · exact oz (k_mv (.inl rfl) rfl) <|
    oz (k_bi (.int .i64 ((n : Nat) : Int)) (.int .i64 ((1 : Nat) : Int)) (.bool false) (lt_i (m := ((n : Nat) : Int)) (n := ((1 : Nat) : Int)) (decide_eq_false (by omega))) rfl rfl) <|
    oz (k_mv (.inl rfl) rfl) <|
    oz (k_mv (.inl rfl) rfl) <|
    oz (k_bi (.int .i64 ((n : Nat) : Int)) (.int .i64 ((1048576 : Nat) : Int)) (.bool false) (gt_i (m := ((n : Nat) : Int)) (n := ((1048576 : Nat) : Int)) (decide_eq_false (by omega))) rfl rfl) <|
    oz (k_pf rfl rfl) <|
    oz (k_mv (.inl rfl) rfl) <|
    oz (k_mv (.inl rfl) rfl) <|
    oz (k_bi (.int .i64 ((m : Nat) : Int)) (.int .i64 ((1 : Nat) : Int)) (.bool false) (lt_i (m := ((m : Nat) : Int)) (n := ((1 : Nat) : Int)) (decide_eq_false (by omega))) rfl rfl) <|
    oz (k_pf rfl rfl) <|
    oz (k_mv (.inl rfl) rfl) <|
    oz (k_mv (.inl rfl) rfl) <|
    oz (k_mv (.inl rfl) rfl) <|
    oz (k_bi (.int .i64 ((m : Nat) : Int)) (.int .i64 ((n : Nat) : Int)) (.bool false) (gt_i (m := ((m : Nat) : Int)) (n := ((n : Nat) : Int)) (decide_eq_false (by omega))) rfl rfl) <|
    oz (k_pf rfl rfl) <|
    ok_nil
  clear h; intro β a w h
  refine sym_then ?_
  refine s_cf h ?_
  refine wp_skip ?_
  refine sym_then ?_
  refine sym_seq ?_
  replace h := St.cs h (s' := [.inl (.int .i64 ((m : Nat) : Int)), .inl (.int .i64 ((n : Nat) : Int)), .inl (.agg (ab 32 O)), .inl (.agg (ab 32 R)), .inl (.slice pa q pcap), uu, uu, .inr (0, pt 0), .inr (1, pt 0), uu, .inl (.bool false), uu, uu, uu, uu, uu, uu, uu, .inl (.int .i64 ((n : Nat) : Int)), .inl (.bool false), .inl (.bool false), .inl (.int .i64 ((n : Nat) : Int)), .inl (.bool false), .inl (.bool false), .inl (.bool false), .inl (.int .i64 ((m : Nat) : Int)), .inl (.bool false), .inl (.bool false), .inl (.bool false), .inl (.int .i64 ((m : Nat) : Int)), .inl (.int .i64 ((n : Nat) : Int)), .inl (.bool false), .inl (.bool false), uu, uu, uu, uu, uu, uu, uu, uu, uu, uu, uu, uu, uu, uu, uu, uu, uu, uu, uu, uu, uu, uu, uu, uu, uu, uu, uu, uu, uu, uu, uu, uu, uu, uu, uu, uu, uu, uu, uu, uu, uu, uu, uu, uu, uu, uu, uu, uu, uu, uu, uu, uu, uu, uu, uu, uu]) (m' := [(ab 32 O, 34), (ab 32 R, 34)]) (by kernel_rfl) (by kernel_rfl)
  obtain rfl : a = { tmps := (.int .i64 ((m : Nat) : Int) :: .int .i64 ((n : Nat) : Int) :: .agg (ab 32 O) :: .agg (ab 32 R) :: .slice pa q pcap :: undef :: undef :: fv (pt 0) (β 0) :: fv (pt 0) (β 1) :: undef :: .bool false :: undef :: undef :: undef :: undef :: undef :: undef :: undef :: .int .i64 ((n : Nat) : Int) :: .bool false :: .bool false :: .int .i64 ((n : Nat) : Int) :: .bool false :: .bool false :: .bool false :: .int .i64 ((m : Nat) : Int) :: .bool false :: .bool false :: .bool false :: .int .i64 ((m : Nat) : Int) :: .int .i64 ((n : Nat) : Int) :: .bool false :: .bool false :: undef :: undef :: undef :: undef :: undef :: undef :: undef :: undef :: undef :: undef :: undef :: undef :: undef :: undef :: undef :: undef :: undef :: undef :: undef :: undef :: undef :: undef :: undef :: undef :: undef :: undef :: undef :: undef :: undef :: undef :: undef :: undef :: undef :: undef :: undef :: undef :: undef :: undef :: undef :: undef :: undef :: undef :: undef :: undef :: undef :: undef :: undef :: undef :: undef :: undef :: undef :: undef :: undef :: undef :: undef :: undef :: []).toArray, defers := [] } := h.tm.trans (by kernel_rfl)
  obtain ⟨q1, q2, q3, q4⟩ := cuts_two (w := w) m n
  have hH := hide1 h
  have hz := q3.size
  clear h
  refine reg_gen fun QQ hQQ => ?_
  go_wp2_with fail
  refine (ahead_d _ _ _).mono ?_
  rintro e w' ⟨rfl, rfl⟩
  go_wp2_with fail
  refine hQQ.out _ _ ?_
  clear hQQ QQ
  refine go_base hH.out ((.inl (.int .i64 ((m : Nat) : Int))) :: (.inl (.int .i64 ((n : Nat) : Int))) :: (.inl (.agg (ab 32 O))) :: (.inl (.agg (ab 32 R))) :: (.inl (.slice pa q pcap)) :: uu :: uu :: (.inr (0, pt 0)) :: (.inr (1, pt 0)) :: uu :: (.inl (.bool false)) :: (.inl (.func (.func 57) #[] #[.pointer (some ⟨w.heap.size, 0, none⟩), .pointer (some ⟨w.heap.size + 1, 0, none⟩)])) :: uu :: uu :: uu :: uu :: uu :: uu :: (.inl (.int .i64 ((n : Nat) : Int))) :: (.inl (.bool false)) :: (.inl (.bool false)) :: (.inl (.int .i64 ((n : Nat) : Int))) :: (.inl (.bool false)) :: (.inl (.bool false)) :: (.inl (.bool false)) :: (.inl (.int .i64 ((m : Nat) : Int))) :: (.inl (.bool false)) :: (.inl (.bool false)) :: (.inl (.bool false)) :: (.inl (.int .i64 ((m : Nat) : Int))) :: (.inl (.int .i64 ((n : Nat) : Int))) :: (.inl (.bool false)) :: (.inl (.bool false)) :: (.inl (.int .i64 ((m : Nat) : Int))) :: (.inl (.int .i64 ((n : Nat) : Int))) :: (.inl (.func (.func 57) #[] #[.pointer (some ⟨w.heap.size, 0, none⟩), .pointer (some ⟨w.heap.size + 1, 0, none⟩)])) :: uu :: uu :: uu :: uu :: uu :: uu :: uu :: uu :: uu :: uu :: uu :: uu :: uu :: uu :: uu :: uu :: uu :: uu :: uu :: uu :: uu :: uu :: uu :: uu :: uu :: uu :: uu :: uu :: uu :: uu :: uu :: uu :: uu :: uu :: uu :: uu :: uu :: uu :: uu :: uu :: uu :: uu :: uu :: uu :: uu :: uu :: uu :: uu :: uu :: uu :: uu :: uu :: uu :: []) q3 ?_ (by kernel_rfl)
  rintro W1b a n5 hn5 hk1b hfar h
  have hsq : ∀ v, KW W1b v → Bx v w.heap.size 3 (.int .i64 ((m : Nat) : Int)) ∧ Bx v (w.heap.size + 1) 3 (.int .i64 ((n : Nat) : Int)) := fun v hv => ⟨(hfar v hv w.heap.size (by omega) (by omega)).trans q1, (hfar v hv (w.heap.size + 1) (by omega) (by omega)).trans q2⟩
  clear hH q1 q2 q3 q4 hz hfar hn5
  generalize w.heap.size = n6 at *
  replace h := h.o0
  refine sym_then ?_
  refine sym_seq ?_
  refine St.rg h [(36, .inl (.agg (ab 32 O))), (12, .inr (2, pt 0))] [(ab 32 (fun _ => 0), 34)] [(2, ab 32 O)] [eR 0, eN 2, eS 2] ?_ ?_
  · exact oc (k_ld 0 0 (.agg (ab 32 O)) (c := ab 32 O) (ldS (F := O) 34) rfl rfl) <|
    oc (k_al 2 alS rfl rfl) <|
    oc (k_st 2 0 (.agg (ab 32 O)) (c := ab 32 (fun _ => 0)) (n := ab 32 O) (stS (F := O) (c := ab 32 (fun _ => 0)) 34 (ab_size _ _)) rfl rfl) <|
    ok_nil
  clear h; intro β a w h
  refine sym_then ?_
  refine sym_seq ?_
  refine sym_seq ?_
  refine St.r0 h [(37, .inl (.func (.func 57) #[] #[.pointer (some ⟨n6, 0, none⟩), .pointer (some ⟨n6 + 1, 0, none⟩)])), (38, .inl (.int .i64 ((s : Nat) : Int))), (39, .inl (.bool true))] [] ?_ ?_
  · exact oz (k_mv (.inl rfl) rfl) <|
    oz (k_cw 35 #[.func (.func 57) #[] #[.pointer (some ⟨n6, 0, none⟩), .pointer (some ⟨n6 + 1, 0, none⟩)]] (.int .i64 ((s : Nat) : Int)) (fun w hw => hst n6 w (hsq w hw).1 (hsq w hw).2) rfl rfl) <|
    oz (k_bi (.int .i64 ((s : Nat) : Int)) (.int .i64 ((0 : Nat) : Int)) (.bool true) (gt_i (m := ((s : Nat) : Int)) (n := ((0 : Nat) : Int)) (decide_eq_true (by omega))) rfl rfl) <|
    ok_nil
  clear h; intro β a w h
  refine sym_then ?_
  refine s_ct h ?_
  refine sym_seq ?_
  refine sym_seq ?_
  refine St.r0 h [(40, .inl (.slice pa q pcap)), (41, .inl (.int .i64 ((q : Nat) : Int))), (42, .inl (.bool false))] [] ?_ ?_
  · exact oz (k_mv (.inl rfl) rfl) <|
    oz (k_ln (ad := pa) q pcap rfl rfl (fun w => len_ss _ w)) <|
    oz (k_bi (.int .i64 ((q : Nat) : Int)) (.int .i64 ((0 : Nat) : Int)) (.bool false) (eq_i (m := ((q : Nat) : Int)) (n := ((0 : Nat) : Int)) (decide_eq_false (by omega))) rfl rfl) <|
    ok_nil
  clear h; intro β a w h
  refine sym_then ?_
  refine s_cf h ?_
  refine wp_skip ?_
  refine sym_then ?_
  refine St.rg h [(43, .inl (.slice pa q pcap)), (44, .inl (.pointer (some ⟨pb, po + 32 * 0, none⟩))), (45, .inl (.agg (ab 32 P0))), (46, .inl (.slice pa q pcap)), (47, .inl (.slice ad N c1)), (4, .inl (.slice ad N c1))] [] [(2, ab 32 P0)] [eO, nn, nn, eO, nn, eS 2] ?_ ?_
  · exact oc (k_m0 rfl rfl) <|
    oc (k_is (.slice pa q pcap) (.int .i64 ((0 : Nat) : Int)) (.pointer (some ⟨pb, po + 32 * 0, none⟩)) (fun w => ix_st2 ea0 (i := 0) (by omega) w) rfl rfl) <|
    oc (k_lf (.pointer (some ⟨pb, po + 32 * 0, none⟩)) (.agg (ab 32 P0)) (fun w hw => hld0 w (hk1b.kw w hw)) rfl rfl) <|
    oc (k_m0 rfl rfl) <|
    oc (k_sw (.slice pa q pcap) (.slice ad N c1) (some (.int .i64 ((1 : Nat) : Int))) none hsl rfl rfl) <|
    oc (k_st 2 0 (.agg (ab 32 P0)) (c := ab 32 O) (n := ab 32 P0) (stS (F := P0) (c := ab 32 O) 34 (ab_size _ _)) rfl rfl) <|
    oz (k_mv (.inr rfl) rfl) <|
    ok_nil
  clear h; intro β a w h
  refine sym_then ?_
  refine sym_seq ?_
  replace h := St.cs h (s' := [.inl (.int .i64 ((m : Nat) : Int)), .inl (.int .i64 ((n : Nat) : Int)), .inl (.agg (ab 32 O)), .inl (.agg (ab 32 R)), .inl (.slice ad N c1), uu, uu, .inr (0, pt 0), .inr (1, pt 0), uu, .inl (.bool false), .inl (.func (.func 57) #[] #[.pointer (some ⟨n6, 0, none⟩), .pointer (some ⟨n6 + 1, 0, none⟩)]), .inr (2, pt 0), uu, uu, uu, uu, uu, .inl (.int .i64 ((n : Nat) : Int)), .inl (.bool false), .inl (.bool false), .inl (.int .i64 ((n : Nat) : Int)), .inl (.bool false), .inl (.bool false), .inl (.bool false), .inl (.int .i64 ((m : Nat) : Int)), .inl (.bool false), .inl (.bool false), .inl (.bool false), .inl (.int .i64 ((m : Nat) : Int)), .inl (.int .i64 ((n : Nat) : Int)), .inl (.bool false), .inl (.bool false), .inl (.int .i64 ((m : Nat) : Int)), .inl (.int .i64 ((n : Nat) : Int)), .inl (.func (.func 57) #[] #[.pointer (some ⟨n6, 0, none⟩), .pointer (some ⟨n6 + 1, 0, none⟩)]), .inl (.agg (ab 32 O)), .inl (.func (.func 57) #[] #[.pointer (some ⟨n6, 0, none⟩), .pointer (some ⟨n6 + 1, 0, none⟩)]), .inl (.int .i64 ((s : Nat) : Int)), .inl (.bool true), .inl (.slice pa q pcap), .inl (.int .i64 ((q : Nat) : Int)), .inl (.bool false), .inl (.slice pa q pcap), .inl (.pointer (some ⟨pb, po + 32 * 0, none⟩)), .inl (.agg (ab 32 P0)), .inl (.slice pa q pcap), .inl (.slice ad N c1), uu, uu, uu, uu, uu, uu, uu, uu, uu, uu, uu, uu, uu, uu, uu, uu, uu, uu, uu, uu, uu, uu, uu, uu, uu, uu, uu, uu, uu, uu, uu, uu, uu, uu, uu, uu, uu, uu, uu, uu, uu]) (m' := [(ab 32 O, 34), (ab 32 R, 34), (ab 32 P0, 34)]) (by kernel_rfl) (by kernel_rfl)
  obtain rfl : a = { tmps := (.int .i64 ((m : Nat) : Int) :: .int .i64 ((n : Nat) : Int) :: .agg (ab 32 O) :: .agg (ab 32 R) :: .slice ad N c1 :: undef :: undef :: fv (pt 0) (β 0) :: fv (pt 0) (β 1) :: undef :: .bool false :: .func (.func 57) #[] #[.pointer (some ⟨n6, 0, none⟩), .pointer (some ⟨n6 + 1, 0, none⟩)] :: fv (pt 0) (β 2) :: undef :: undef :: undef :: undef :: undef :: .int .i64 ((n : Nat) : Int) :: .bool false :: .bool false :: .int .i64 ((n : Nat) : Int) :: .bool false :: .bool false :: .bool false :: .int .i64 ((m : Nat) : Int) :: .bool false :: .bool false :: .bool false :: .int .i64 ((m : Nat) : Int) :: .int .i64 ((n : Nat) : Int) :: .bool false :: .bool false :: .int .i64 ((m : Nat) : Int) :: .int .i64 ((n : Nat) : Int) :: .func (.func 57) #[] #[.pointer (some ⟨n6, 0, none⟩), .pointer (some ⟨n6 + 1, 0, none⟩)] :: .agg (ab 32 O) :: .func (.func 57) #[] #[.pointer (some ⟨n6, 0, none⟩), .pointer (some ⟨n6 + 1, 0, none⟩)] :: .int .i64 ((s : Nat) : Int) :: .bool true :: .slice pa q pcap :: .int .i64 ((q : Nat) : Int) :: .bool false :: .slice pa q pcap :: .pointer (some ⟨pb, po + 32 * 0, none⟩) :: .agg (ab 32 P0) :: .slice pa q pcap :: .slice ad N c1 :: undef :: undef :: undef :: undef :: undef :: undef :: undef :: undef :: undef :: undef :: undef :: undef :: undef :: undef :: undef :: undef :: undef :: undef :: undef :: undef :: undef :: undef :: undef :: undef :: undef :: undef :: undef :: undef :: undef :: undef :: undef :: undef :: undef :: undef :: undef :: undef :: undef :: undef :: undef :: undef :: undef :: []).toArray, defers := [] } := h.tm.trans (by kernel_rfl)
  have hup := hup0 n6 w (hsq w h.bel).1 (hsq w h.bel).2
  have hH := hide1 h
  have hsH := hide1 hs
  clear h hs
  refine reg_gen fun QQ hQQ => ?_
  go_wp2_with fail
  refine hup.mono ?_
  rintro e w5 ⟨ca, cp, rfl, hcp, hcs0, hbl, hb5⟩
  clear hup
  go_wp2_with fail
  refine hQQ.out _ _ ?_
  clear hQQ QQ
  refine go_base hH.out ((.inl (.int .i64 ((m : Nat) : Int))) :: (.inl (.int .i64 ((n : Nat) : Int))) :: (.inl (.agg (ab 32 O))) :: (.inl (.agg (ab 32 R))) :: (.inl (.slice ad N c1)) :: uu :: uu :: (.inr (0, pt 0)) :: (.inr (1, pt 0)) :: uu :: (.inl (.bool false)) :: (.inl (.func (.func 57) #[] #[.pointer (some ⟨n6, 0, none⟩), .pointer (some ⟨n6 + 1, 0, none⟩)])) :: (.inr (2, pt 0)) :: (.inl (.slice ca N cp)) :: uu :: uu :: uu :: uu :: (.inl (.int .i64 ((n : Nat) : Int))) :: (.inl (.bool false)) :: (.inl (.bool false)) :: (.inl (.int .i64 ((n : Nat) : Int))) :: (.inl (.bool false)) :: (.inl (.bool false)) :: (.inl (.bool false)) :: (.inl (.int .i64 ((m : Nat) : Int))) :: (.inl (.bool false)) :: (.inl (.bool false)) :: (.inl (.bool false)) :: (.inl (.int .i64 ((m : Nat) : Int))) :: (.inl (.int .i64 ((n : Nat) : Int))) :: (.inl (.bool false)) :: (.inl (.bool false)) :: (.inl (.int .i64 ((m : Nat) : Int))) :: (.inl (.int .i64 ((n : Nat) : Int))) :: (.inl (.func (.func 57) #[] #[.pointer (some ⟨n6, 0, none⟩), .pointer (some ⟨n6 + 1, 0, none⟩)])) :: (.inl (.agg (ab 32 O))) :: (.inl (.func (.func 57) #[] #[.pointer (some ⟨n6, 0, none⟩), .pointer (some ⟨n6 + 1, 0, none⟩)])) :: (.inl (.int .i64 ((s : Nat) : Int))) :: (.inl (.bool true)) :: (.inl (.slice pa q pcap)) :: (.inl (.int .i64 ((q : Nat) : Int))) :: (.inl (.bool false)) :: (.inl (.slice pa q pcap)) :: (.inl (.pointer (some ⟨pb, po + 32 * 0, none⟩))) :: (.inl (.agg (ab 32 P0))) :: (.inl (.slice pa q pcap)) :: (.inl (.slice ad N c1)) :: (.inl (.func (.func 57) #[] #[.pointer (some ⟨n6, 0, none⟩), .pointer (some ⟨n6 + 1, 0, none⟩)])) :: (.inl (.slice ca N cp)) :: uu :: uu :: uu :: uu :: uu :: uu :: uu :: uu :: uu :: uu :: uu :: uu :: uu :: uu :: uu :: uu :: uu :: uu :: uu :: uu :: uu :: uu :: uu :: uu :: uu :: uu :: uu :: uu :: uu :: uu :: uu :: uu :: uu :: uu :: uu :: uu :: uu :: uu :: uu :: []) hb5 ?_ (by kernel_rfl)
  rintro W2b a n8 hn8 hk2b hfar h
  have hcs : ∀ v, KW W2b v → CsAt v ca cs := fun v hv => hcs0.far (n := n8) (fun p h1 h2 => by have := hbl p (by omega) h2; omega) (hfar v hv)
  have hps : ∀ v, KW W2b v → SsAt v ad ps := fun v hv => hps0 v (hk1b.kw v (hk2b.kw v hv))
  have hgl : ∀ v, KW W2b v → Gl v := fun v hv => gl_b hg (KW.below (hk1b.kw v (hk2b.kw v hv)))
  obtain ⟨cb, ec⟩ : ∃ cb, 0 < N → ca = some ⟨cb, 0, none⟩ := cs_ad (hcs _ h.bel) lc
  have hs := hsH.out
  clear hfar hcs0 hbl hcp hH hb5 hn8 hsH
  generalize ca = cav at *
  replace h := h.o0
  refine sym_then ?_
  refine sym_seq ?_
  refine sym_seq ?_
  refine St.r0 h [(50, .inl (.slice cav N cp)), (51, .inl (.int .i64 ((N : Nat) : Int))), (52, .inl (.slice ad N c1)), (53, .inl (.int .i64 ((N : Nat) : Int))), (54, .inl (.bool false))] [] ?_ ?_
  · exact oz (k_mv (.inl rfl) rfl) <|
    oz (k_ln (ad := cav) N cp rfl rfl (fun w => len_cs _ w)) <|
    oz (k_mv (.inl rfl) rfl) <|
    oz (k_ln (ad := ad) N c1 rfl rfl (fun w => len_ss _ w)) <|
    oz (k_bi (.int .i64 ((N : Nat) : Int)) (.int .i64 ((N : Nat) : Int)) (.bool false) (ne_i (m := ((N : Nat) : Int)) (n := ((N : Nat) : Int)) (decide_eq_false (by omega))) rfl rfl) <|
    ok_nil
  clear h; intro β a w h
  refine sym_then ?_
  refine s_cf h ?_
  refine wp_skip ?_
  refine sym_then ?_
  refine sym_seq ?_
  refine St.rg h [(55, .inl (.agg (ab 32 P0))), (56, .inl (.agg (ab 32 P0))), (14, .inr (3, pt 0)), (15, .inr (4, pt 0))] [(ab 32 (fun _ => 0), 34), (ab 32 (fun _ => 0), 34)] [(3, ab 32 P0), (4, ab 32 P0)] [eR 2, eR 2, eN 3, eN 4, eS 3, eS 4] ?_ ?_
  · exact oc (k_ld 2 0 (.agg (ab 32 P0)) (c := ab 32 P0) (ldS (F := P0) 34) rfl rfl) <|
    oc (k_ld 2 0 (.agg (ab 32 P0)) (c := ab 32 P0) (ldS (F := P0) 34) rfl rfl) <|
    oc (k_al 3 alS rfl rfl) <|
    oc (k_al 4 alS rfl rfl) <|
    oc (k_st 3 0 (.agg (ab 32 P0)) (c := ab 32 (fun _ => 0)) (n := ab 32 P0) (stS (F := P0) (c := ab 32 (fun _ => 0)) 34 (ab_size _ _)) rfl rfl) <|
    oc (k_st 4 0 (.agg (ab 32 P0)) (c := ab 32 (fun _ => 0)) (n := ab 32 P0) (stS (F := P0) (c := ab 32 (fun _ => 0)) 34 (ab_size _ _)) rfl rfl) <|
    ok_nil
  clear h; intro β a w h
  refine sym_then ?_
  refine sym_seq ?_
  refine sym_seq ?_
  refine St.r0 h [(57, .inl (.slice cav N cp)), (58, .inl (.int .i64 ((N : Nat) : Int))), (59, .inl (.int .i64 ((0 : Nat) : Int)))] [] ?_ ?_
  · exact oz (k_mv (.inl rfl) rfl) <|
    oz (k_ln (ad := cav) N cp rfl rfl (fun w => len_cs _ w)) <|
    oz (k_mv (.inl rfl) rfl) <|
    ok_nil
  clear h; intro β a w h
  refine sym_then ?_
  refine blk_in ?_
  replace h := St.sm h 3 (ab 32 (firstL (cs.take 0) (ps.take 0) P0)) (c := ab 32 P0) (t := 34) (by rw [List.take_zero, List.take_zero]; rfl)
  replace h := St.sm h 4 (ab 32 (comeL (cs.take 0) (ps.take 0) P0)) (c := ab 32 P0) (t := 34) (by rw [List.take_zero, List.take_zero]; rfl)
  obtain ⟨x, h⟩ := St.jn (n := 89) h [0, 1, 2, 3, 4, 7, 8, 10, 11, 12, 13, 14, 15, 57, 58, 59] [.inl (.int .i64 ((m : Nat) : Int)), .inl (.int .i64 ((n : Nat) : Int)), .inl (.agg (ab 32 O)), .inl (.agg (ab 32 R)), .inl (.slice ad N c1), .inr (0, pt 0), .inr (1, pt 0), .inl (.bool false), .inl (.func (.func 57) #[] #[.pointer (some ⟨n6, 0, none⟩), .pointer (some ⟨n6 + 1, 0, none⟩)]), .inr (2, pt 0), .inl (.slice cav N cp), .inr (3, pt 0), .inr (4, pt 0), .inl (.slice cav N cp), .inl (.int .i64 ((N : Nat) : Int)), .inl (.int .i64 ((0 : Nat) : Int))] [(ab 32 O, 34), (ab 32 R, 34), (ab 32 P0, 34), (ab 32 (firstL (cs.take 0) (ps.take 0) P0), 34), (ab 32 (comeL (cs.take 0) (ps.take 0) P0), 34)] (by kernel_rfl) (by kernel_rfl) (by kernel_rfl)
  refine loop_up N (fun k a w => ∃ (x : Nat → SV) (β : Nat → Nat), St (W2b) (ov (jk 89 x) ([0, 1, 2, 3, 4, 7, 8, 10, 11, 12, 13, 14, 15, 57, 58, 59].zip [.inl (.int .i64 ((m : Nat) : Int)), .inl (.int .i64 ((n : Nat) : Int)), .inl (.agg (ab 32 O)), .inl (.agg (ab 32 R)), .inl (.slice ad N c1), .inr (0, pt 0), .inr (1, pt 0), .inl (.bool false), .inl (.func (.func 57) #[] #[.pointer (some ⟨n6, 0, none⟩), .pointer (some ⟨n6 + 1, 0, none⟩)]), .inr (2, pt 0), .inl (.slice cav N cp), .inr (3, pt 0), .inr (4, pt 0), .inl (.slice cav N cp), .inl (.int .i64 ((N : Nat) : Int)), .inl (.int .i64 ((k : Nat) : Int))])) [(ab 32 O, 34), (ab 32 R, 34), (ab 32 P0, 34), (ab 32 (firstL (cs.take k) (ps.take k) P0), 34), (ab 32 (comeL (cs.take k) (ps.take k) P0), 34)] β a w) ⟨x, _, h⟩ ?_
  clear h; rintro k a w hkk ⟨x, β, h⟩
  rcases Nat.lt_or_ge k N with hltk | hgek
  · rcases Bool.eq_false_or_eq_true (cs.getD k default).r with hcr | hcr
    · refine sym_seq ?_
      refine St.r0 h [(60, .inl (.bool true))] [] ?_ ?_
      · exact oz (k_bi (.int .i64 ((k : Nat) : Int)) (.int .i64 ((N : Nat) : Int)) (.bool true) (lt_i (m := ((k : Nat) : Int)) (n := ((N : Nat) : Int)) (decide_eq_true (by omega))) rfl rfl) <|
        ok_nil
      clear h; intro β a w h
      refine sym_then ?_
      refine sym_seq ?_
      refine s_ct h ?_
      refine wp_skip ?_
      refine sym_then ?_
      refine sym_seq ?_
      refine blk_in ?_
      refine sym_seq ?_
      refine St.rg h [(61, .inl (.int .i64 ((k : Nat) : Int))), (62, .inl (.pointer (some ⟨cb, k * 4, none⟩))), (63, .inl (.agg (cvA (cs.getD k default)))), (17, .inr (5, pt 0)), (16, .inl (.int .i64 ((k : Nat) : Int)))] [(cvA ⟨0, 0, 0, false⟩, 73)] [(5, cvA (cs.getD k default))] [nn, nn, nn, eN 5, nn, eS 5] ?_ ?_
      · exact oc (k_mv (.inl rfl) rfl) <|
        oc (k_is (.slice cav N cp) (.int .i64 ((k : Nat) : Int)) (.pointer (some ⟨cb, k * 4, none⟩)) (fun w => ix_ct ec (i := k) (by omega) w) rfl rfl) <|
        oc (k_lf (.pointer (some ⟨cb, k * 4, none⟩)) (.agg (cvA (cs.getD k default))) (fun w hw => ld_ct (hcs w hw) ec (by omega)) rfl rfl) <|
        oc (k_al 5 alC rfl rfl) <|
        oc (k_mv (.inr rfl) rfl) <|
        oc (k_st 5 0 (.agg (cvA (cs.getD k default))) (c := cvA ⟨0, 0, 0, false⟩) (n := cvA (cs.getD k default)) (stC (c := (cs.getD k default)) (d := cvA ⟨0, 0, 0, false⟩) 73 rfl) rfl rfl) <|
        ok_nil
      clear h; intro β a w h
      refine sym_then ?_
      refine sym_seq ?_
      refine St.rg h [(64, .inl (.agg (cvA (cs.getD k default)))), (65, .inl (.agg (ab 32 (comeL (cs.take k) (ps.take k) P0)))), (66, .inl (.slice ad N c1)), (67, .inl (.int .i64 ((k : Nat) : Int))), (68, .inl (.pointer (some ⟨qb, qo + 32 * k, none⟩))), (69, .inl (.agg (ab 32 (ps.getD k fun _ => 0)))), (70, .inl (.agg (ab 32 (jn (cs.getD k default).r (comeL (cs.take k) (ps.take k) P0) (ps.getD k fun _ => 0)))))] [] [(4, ab 32 (jn (cs.getD k default).r (comeL (cs.take k) (ps.take k) P0) (ps.getD k fun _ => 0)))] [eR 5, eR 4, nn, nn, nn, nn, nn, eS 4] ?_ ?_
      · exact oc (k_ld 5 0 (.agg (cvA (cs.getD k default))) (c := cvA (cs.getD k default)) (ldC (c := (cs.getD k default)) 73) rfl rfl) <|
        oc (k_ld 4 0 (.agg (ab 32 (comeL (cs.take k) (ps.take k) P0))) (c := ab 32 (comeL (cs.take k) (ps.take k) P0)) (ldS (F := (comeL (cs.take k) (ps.take k) P0)) 34) rfl rfl) <|
        oc (k_mv (.inl rfl) rfl) <|
        oc (k_mv (.inl rfl) rfl) <|
        oc (k_is (.slice ad N c1) (.int .i64 ((k : Nat) : Int)) (.pointer (some ⟨qb, qo + 32 * k, none⟩)) (fun w => ix_st2 ea (i := k) (by omega) w) rfl rfl) <|
        oc (k_lf (.pointer (some ⟨qb, qo + 32 * k, none⟩)) (.agg (ab 32 (ps.getD k fun _ => 0))) (fun w hw => ld_st2 (hps w hw) ea (by omega)) rfl rfl) <|
        oc (k_cw 41 #[.agg (cvA (cs.getD k default)), .agg (ab 32 (comeL (cs.take k) (ps.take k) P0)), .agg (ab 32 (ps.getD k fun _ => 0))] (.agg (ab 32 (jn (cs.getD k default).r (comeL (cs.take k) (ps.take k) P0) (ps.getD k fun _ => 0)))) (fun w hw => join_d (hgl w hw) (comeL_lt hF _ _) (getD_lt hpl _)) rfl rfl) <|
        oc (k_st 4 0 (.agg (ab 32 (jn (cs.getD k default).r (comeL (cs.take k) (ps.take k) P0) (ps.getD k fun _ => 0)))) (c := ab 32 (comeL (cs.take k) (ps.take k) P0)) (n := ab 32 (jn (cs.getD k default).r (comeL (cs.take k) (ps.take k) P0) (ps.getD k fun _ => 0))) (stS (F := (jn (cs.getD k default).r (comeL (cs.take k) (ps.take k) P0) (ps.getD k fun _ => 0))) (c := ab 32 (comeL (cs.take k) (ps.take k) P0)) 34 (ab_size _ _)) rfl rfl) <|
        ok_nil
      clear h; intro β a w h
      refine sym_then ?_
      refine sym_seq ?_
      refine St.r0 h [(71, .inr (5, pt 3)), (72, .inl (.bool true))] [nn, eR 5] ?_ ?_
      · exact oc (k_fa 5 0 3 rfl rfl) <|
        oc (k_ld 5 3 (.bool true) (c := cvA (cs.getD k default)) (ldR (c := (cs.getD k default)) hcr 73) rfl rfl) <|
        ok_nil
      clear h; intro β a w h
      refine sym_then ?_
      refine s_ct h ?_
      refine St.rg h [(73, .inl (.agg (cvA (cs.getD k default)))), (74, .inl (.agg (ab 32 (firstL (cs.take k) (ps.take k) P0)))), (75, .inl (.slice ad N c1)), (76, .inl (.int .i64 ((k : Nat) : Int))), (77, .inl (.pointer (some ⟨qb, qo + 32 * k, none⟩))), (78, .inl (.agg (ab 32 (ps.getD k fun _ => 0)))), (79, .inl (.agg (ab 32 (jn (cs.getD k default).r (firstL (cs.take k) (ps.take k) P0) (ps.getD k fun _ => 0)))))] [] [(3, ab 32 (jn (cs.getD k default).r (firstL (cs.take k) (ps.take k) P0) (ps.getD k fun _ => 0)))] [eR 5, eR 3, nn, nn, nn, nn, nn, eS 3] ?_ ?_
      · exact oc (k_ld 5 0 (.agg (cvA (cs.getD k default))) (c := cvA (cs.getD k default)) (ldC (c := (cs.getD k default)) 73) rfl rfl) <|
        oc (k_ld 3 0 (.agg (ab 32 (firstL (cs.take k) (ps.take k) P0))) (c := ab 32 (firstL (cs.take k) (ps.take k) P0)) (ldS (F := (firstL (cs.take k) (ps.take k) P0)) 34) rfl rfl) <|
        oc (k_mv (.inl rfl) rfl) <|
        oc (k_mv (.inl rfl) rfl) <|
        oc (k_is (.slice ad N c1) (.int .i64 ((k : Nat) : Int)) (.pointer (some ⟨qb, qo + 32 * k, none⟩)) (fun w => ix_st2 ea (i := k) (by omega) w) rfl rfl) <|
        oc (k_lf (.pointer (some ⟨qb, qo + 32 * k, none⟩)) (.agg (ab 32 (ps.getD k fun _ => 0))) (fun w hw => ld_st2 (hps w hw) ea (by omega)) rfl rfl) <|
        oc (k_cw 41 #[.agg (cvA (cs.getD k default)), .agg (ab 32 (firstL (cs.take k) (ps.take k) P0)), .agg (ab 32 (ps.getD k fun _ => 0))] (.agg (ab 32 (jn (cs.getD k default).r (firstL (cs.take k) (ps.take k) P0) (ps.getD k fun _ => 0)))) (fun w hw => join_d (hgl w hw) (firstL_lt hF _ _) (getD_lt hpl _)) rfl rfl) <|
        oc (k_st 3 0 (.agg (ab 32 (jn (cs.getD k default).r (firstL (cs.take k) (ps.take k) P0) (ps.getD k fun _ => 0)))) (c := ab 32 (firstL (cs.take k) (ps.take k) P0)) (n := ab 32 (jn (cs.getD k default).r (firstL (cs.take k) (ps.take k) P0) (ps.getD k fun _ => 0))) (stS (F := (jn (cs.getD k default).r (firstL (cs.take k) (ps.take k) P0) (ps.getD k fun _ => 0))) (c := ab 32 (firstL (cs.take k) (ps.take k) P0)) 34 (ab_size _ _)) rfl rfl) <|
        ok_nil
      clear h; intro β a w h
      refine blk_norm ?_
      refine sym_then ?_
      refine St.r0 h [(80, .inl (.int .i64 (((k + 1) : Nat) : Int))), (59, .inl (.int .i64 (((k + 1) : Nat) : Int)))] [eO] ?_ ?_
      · exact oc (k_b0 (.int .i64 ((k : Nat) : Int)) (.int .i64 ((1 : Nat) : Int)) (.int .i64 (((k + 1) : Nat) : Int)) (ad_i (m := k) (n := 1) (by omega)) rfl rfl) <|
        oz (k_mv (.inl rfl) rfl) <|
        ok_nil
      clear h; intro β a w h
      replace h := St.sm h 3 (ab 32 (firstL (cs.take (k + 1)) (ps.take (k + 1)) P0)) (c := ab 32 (jn (cs.getD k default).r (firstL (cs.take k) (ps.take k) P0) (ps.getD k fun _ => 0))) (t := 34) (by rw [fst_t lc lp hltk hcr])
      replace h := St.sm h 4 (ab 32 (comeL (cs.take (k + 1)) (ps.take (k + 1)) P0)) (c := ab 32 (jn (cs.getD k default).r (comeL (cs.take k) (ps.take k) P0) (ps.getD k fun _ => 0))) (t := 34) (by rw [come_step lc lp hltk])
      obtain ⟨x, h⟩ := St.jd (n := 89) h [0, 1, 2, 3, 4, 7, 8, 10, 11, 12, 13, 14, 15, 57, 58, 59] [.inl (.int .i64 ((m : Nat) : Int)), .inl (.int .i64 ((n : Nat) : Int)), .inl (.agg (ab 32 O)), .inl (.agg (ab 32 R)), .inl (.slice ad N c1), .inr (0, pt 0), .inr (1, pt 0), .inl (.bool false), .inl (.func (.func 57) #[] #[.pointer (some ⟨n6, 0, none⟩), .pointer (some ⟨n6 + 1, 0, none⟩)]), .inr (2, pt 0), .inl (.slice cav N cp), .inr (3, pt 0), .inr (4, pt 0), .inl (.slice cav N cp), .inl (.int .i64 ((N : Nat) : Int)), .inl (.int .i64 (((k + 1) : Nat) : Int))] [(ab 32 O, 34), (ab 32 R, 34), (ab 32 P0, 34), (ab 32 (firstL (cs.take (k + 1)) (ps.take (k + 1)) P0), 34), (ab 32 (comeL (cs.take (k + 1)) (ps.take (k + 1)) P0), 34)] (by kernel_rfl) (by kernel_rfl) (by kernel_rfl) (by kernel_rfl) (fun _ _ h => by rw [hk2b.pn, hk1b.pn] at h; cases h)
      exact ⟨hltk, x, _, h⟩
    · refine sym_seq ?_
      refine St.r0 h [(60, .inl (.bool true))] [] ?_ ?_
      · exact oz (k_bi (.int .i64 ((k : Nat) : Int)) (.int .i64 ((N : Nat) : Int)) (.bool true) (lt_i (m := ((k : Nat) : Int)) (n := ((N : Nat) : Int)) (decide_eq_true (by omega))) rfl rfl) <|
        ok_nil
      clear h; intro β a w h
      refine sym_then ?_
      refine sym_seq ?_
      refine s_ct h ?_
      refine wp_skip ?_
      refine sym_then ?_
      refine sym_seq ?_
      refine blk_in ?_
      refine sym_seq ?_
      refine St.rg h [(61, .inl (.int .i64 ((k : Nat) : Int))), (62, .inl (.pointer (some ⟨cb, k * 4, none⟩))), (63, .inl (.agg (cvA (cs.getD k default)))), (17, .inr (5, pt 0)), (16, .inl (.int .i64 ((k : Nat) : Int)))] [(cvA ⟨0, 0, 0, false⟩, 73)] [(5, cvA (cs.getD k default))] [nn, nn, nn, eN 5, nn, eS 5] ?_ ?_
      · exact oc (k_mv (.inl rfl) rfl) <|
        oc (k_is (.slice cav N cp) (.int .i64 ((k : Nat) : Int)) (.pointer (some ⟨cb, k * 4, none⟩)) (fun w => ix_ct ec (i := k) (by omega) w) rfl rfl) <|
        oc (k_lf (.pointer (some ⟨cb, k * 4, none⟩)) (.agg (cvA (cs.getD k default))) (fun w hw => ld_ct (hcs w hw) ec (by omega)) rfl rfl) <|
        oc (k_al 5 alC rfl rfl) <|
        oc (k_mv (.inr rfl) rfl) <|
        oc (k_st 5 0 (.agg (cvA (cs.getD k default))) (c := cvA ⟨0, 0, 0, false⟩) (n := cvA (cs.getD k default)) (stC (c := (cs.getD k default)) (d := cvA ⟨0, 0, 0, false⟩) 73 rfl) rfl rfl) <|
        ok_nil
      clear h; intro β a w h
      refine sym_then ?_
      refine sym_seq ?_
      refine St.rg h [(64, .inl (.agg (cvA (cs.getD k default)))), (65, .inl (.agg (ab 32 (comeL (cs.take k) (ps.take k) P0)))), (66, .inl (.slice ad N c1)), (67, .inl (.int .i64 ((k : Nat) : Int))), (68, .inl (.pointer (some ⟨qb, qo + 32 * k, none⟩))), (69, .inl (.agg (ab 32 (ps.getD k fun _ => 0)))), (70, .inl (.agg (ab 32 (jn (cs.getD k default).r (comeL (cs.take k) (ps.take k) P0) (ps.getD k fun _ => 0)))))] [] [(4, ab 32 (jn (cs.getD k default).r (comeL (cs.take k) (ps.take k) P0) (ps.getD k fun _ => 0)))] [eR 5, eR 4, nn, nn, nn, nn, nn, eS 4] ?_ ?_
      · exact oc (k_ld 5 0 (.agg (cvA (cs.getD k default))) (c := cvA (cs.getD k default)) (ldC (c := (cs.getD k default)) 73) rfl rfl) <|
        oc (k_ld 4 0 (.agg (ab 32 (comeL (cs.take k) (ps.take k) P0))) (c := ab 32 (comeL (cs.take k) (ps.take k) P0)) (ldS (F := (comeL (cs.take k) (ps.take k) P0)) 34) rfl rfl) <|
        oc (k_mv (.inl rfl) rfl) <|
        oc (k_mv (.inl rfl) rfl) <|
        oc (k_is (.slice ad N c1) (.int .i64 ((k : Nat) : Int)) (.pointer (some ⟨qb, qo + 32 * k, none⟩)) (fun w => ix_st2 ea (i := k) (by omega) w) rfl rfl) <|
        oc (k_lf (.pointer (some ⟨qb, qo + 32 * k, none⟩)) (.agg (ab 32 (ps.getD k fun _ => 0))) (fun w hw => ld_st2 (hps w hw) ea (by omega)) rfl rfl) <|
        oc (k_cw 41 #[.agg (cvA (cs.getD k default)), .agg (ab 32 (comeL (cs.take k) (ps.take k) P0)), .agg (ab 32 (ps.getD k fun _ => 0))] (.agg (ab 32 (jn (cs.getD k default).r (comeL (cs.take k) (ps.take k) P0) (ps.getD k fun _ => 0)))) (fun w hw => join_d (hgl w hw) (comeL_lt hF _ _) (getD_lt hpl _)) rfl rfl) <|
        oc (k_st 4 0 (.agg (ab 32 (jn (cs.getD k default).r (comeL (cs.take k) (ps.take k) P0) (ps.getD k fun _ => 0)))) (c := ab 32 (comeL (cs.take k) (ps.take k) P0)) (n := ab 32 (jn (cs.getD k default).r (comeL (cs.take k) (ps.take k) P0) (ps.getD k fun _ => 0))) (stS (F := (jn (cs.getD k default).r (comeL (cs.take k) (ps.take k) P0) (ps.getD k fun _ => 0))) (c := ab 32 (comeL (cs.take k) (ps.take k) P0)) 34 (ab_size _ _)) rfl rfl) <|
        ok_nil
      clear h; intro β a w h
      refine sym_then ?_
      refine sym_seq ?_
      refine St.r0 h [(71, .inr (5, pt 3)), (72, .inl (.bool false))] [nn, eR 5] ?_ ?_
      · exact oc (k_fa 5 0 3 rfl rfl) <|
        oc (k_ld 5 3 (.bool false) (c := cvA (cs.getD k default)) (ldR (c := (cs.getD k default)) hcr 73) rfl rfl) <|
        ok_nil
      clear h; intro β a w h
      refine sym_then ?_
      refine s_cf h ?_
      refine wp_skip ?_
      refine blk_norm ?_
      refine sym_then ?_
      refine St.r0 h [(80, .inl (.int .i64 (((k + 1) : Nat) : Int))), (59, .inl (.int .i64 (((k + 1) : Nat) : Int)))] [eO] ?_ ?_
      · exact oc (k_b0 (.int .i64 ((k : Nat) : Int)) (.int .i64 ((1 : Nat) : Int)) (.int .i64 (((k + 1) : Nat) : Int)) (ad_i (m := k) (n := 1) (by omega)) rfl rfl) <|
        oz (k_mv (.inl rfl) rfl) <|
        ok_nil
      clear h; intro β a w h
      replace h := St.sm h 3 (ab 32 (firstL (cs.take (k + 1)) (ps.take (k + 1)) P0)) (c := ab 32 (firstL (cs.take k) (ps.take k) P0)) (t := 34) (by rw [← fst_f lc lp hltk hcr])
      replace h := St.sm h 4 (ab 32 (comeL (cs.take (k + 1)) (ps.take (k + 1)) P0)) (c := ab 32 (jn (cs.getD k default).r (comeL (cs.take k) (ps.take k) P0) (ps.getD k fun _ => 0))) (t := 34) (by rw [come_step lc lp hltk])
      obtain ⟨x, h⟩ := St.jd (n := 89) h [0, 1, 2, 3, 4, 7, 8, 10, 11, 12, 13, 14, 15, 57, 58, 59] [.inl (.int .i64 ((m : Nat) : Int)), .inl (.int .i64 ((n : Nat) : Int)), .inl (.agg (ab 32 O)), .inl (.agg (ab 32 R)), .inl (.slice ad N c1), .inr (0, pt 0), .inr (1, pt 0), .inl (.bool false), .inl (.func (.func 57) #[] #[.pointer (some ⟨n6, 0, none⟩), .pointer (some ⟨n6 + 1, 0, none⟩)]), .inr (2, pt 0), .inl (.slice cav N cp), .inr (3, pt 0), .inr (4, pt 0), .inl (.slice cav N cp), .inl (.int .i64 ((N : Nat) : Int)), .inl (.int .i64 (((k + 1) : Nat) : Int))] [(ab 32 O, 34), (ab 32 R, 34), (ab 32 P0, 34), (ab 32 (firstL (cs.take (k + 1)) (ps.take (k + 1)) P0), 34), (ab 32 (comeL (cs.take (k + 1)) (ps.take (k + 1)) P0), 34)] (by kernel_rfl) (by kernel_rfl) (by kernel_rfl) (by kernel_rfl) (fun _ _ h => by rw [hk2b.pn, hk1b.pn] at h; cases h)
      exact ⟨hltk, x, _, h⟩
  · obtain rfl : N = k := by omega
    refine sym_seq ?_
    refine St.r0 h [(60, .inl (.bool false))] [] ?_ ?_
    · exact oz (k_bi (.int .i64 ((N : Nat) : Int)) (.int .i64 ((N : Nat) : Int)) (.bool false) (lt_i (m := ((N : Nat) : Int)) (n := ((N : Nat) : Int)) (decide_eq_false (by omega))) rfl rfl) <|
      ok_nil
    clear h; intro β a w h
    refine sym_then ?_
    refine sym_seq ?_
    refine s_cf h ?_
    refine wp_exit ?_
    refine then_exit ?_
    refine then_exit ?_
    refine blk_exit ?_
    refine sym_then ?_
    refine sym_seq ?_
    refine St.r0 h [(81, .inl (.agg (ab 32 (firstL (cs.take N) (ps.take N) P0)))), (82, .inl (.agg (ab 32 O))), (83, .inl (.bool true)), (84, .inl (.bool true)), (85, .inl (.agg (ab 32 (comeL (cs.take N) (ps.take N) P0)))), (86, .inl (.agg (ab 32 R))), (87, .inl (.bool false)), (88, .inl (.bool false))] [eR 3, eR 0, nn, nn, eR 4, eR 1] ?_ ?_
    · exact oc (k_ld 3 0 (.agg (ab 32 (firstL (cs.take N) (ps.take N) P0))) (c := ab 32 (firstL (cs.take N) (ps.take N) P0)) (ldS (F := (firstL (cs.take N) (ps.take N) P0)) 34) rfl rfl) <|
      oc (k_ld 0 0 (.agg (ab 32 O)) (c := ab 32 O) (ldS (F := O) 34) rfl rfl) <|
      oc (k_bi (.agg (ab 32 (firstL (cs.take N) (ps.take N) P0))) (.agg (ab 32 O)) (.bool true) (eqS_v hb1) rfl rfl) <|
      oc (k_mv (.inl rfl) rfl) <|
      oc (k_ld 4 0 (.agg (ab 32 (comeL (cs.take N) (ps.take N) P0))) (c := ab 32 (comeL (cs.take N) (ps.take N) P0)) (ldS (F := (comeL (cs.take N) (ps.take N) P0)) 34) rfl rfl) <|
      oc (k_ld 1 0 (.agg (ab 32 R)) (c := ab 32 R) (ldS (F := R) 34) rfl rfl) <|
      oz (k_bi (.agg (ab 32 (comeL (cs.take N) (ps.take N) P0))) (.agg (ab 32 R)) (.bool false) (eqS_v hb2) rfl rfl) <|
      oz (k_pt rfl rfl) <|
      oz (k_mv (.inr rfl) rfl) <|
      ok_nil
    clear h; intro β a w h
    refine sym_then ?_
    refine wp_ret ?_
    replace h := h.unb hk2b
    replace h := h.unb hk1b
    exact s_rt h Tryd.results14 (fun hb => ⟨rfl, hb⟩)
end Go.Proofs.YtgnmnoadfjdjdaaDoor

namespace Go.Proofs.YtgnmnoadfjdjdaaDoor
open Go.RowKit Go.Maps Sh
set_option maxHeartbeats 8000000 in
theorem ext_n1 {m n : Int} {q pcap : Nat} {pa : Option Addr} {O R : Nat → Nat} {W0 : World} (hn1 : n < 1) : Calls Tryd.prog 14 #[.int .i64 m, .int .i64 n, .agg (ab 32 O), .agg (ab 32 R), .slice pa q pcap] W0 fun e w' => e = .returned (.bool false) ∧ Below W0.heap.size W0 w' := by
  refine s_in Tryd.func14 Tryd.ntmps14 rfl [.inl (.int .i64 m), .inl (.int .i64 n), .inl (.agg (ab 32 O)), .inl (.agg (ab 32 R)), .inl (.slice pa q pcap)] ?_
  intro β a h
  refine sym_seq ?_
  refine St.rg h [(7, .inr (0, pt 0)), (8, .inr (1, pt 0)), (10, .inl (.bool false))] [(ab 32 O, 34), (ab 32 R, 34)] [] [eN 0, eN 1] ?_ ?_
  · exact oc (k_bx 0 (.agg (ab 32 O)) (bx_agg (P := Tryd.prog)) rfl rfl) <|
    oc (k_bx 1 (.agg (ab 32 R)) (bx_agg (P := Tryd.prog)) rfl rfl) <|
    oz (k_mv (.inr rfl) rfl) <|
    ok_nil
  clear h; intro β a w h
  refine sym_then ?_
  refine sym_seq ?_
  refine sym_seq ?_
  refine St.r0 h [(18, .inl (.int .i64 n)), (19, .inl (.bool true)), (20, .inl (.bool true)), (23, .inl (.bool true)), (24, .inl (.bool true)), (27, .inl (.bool true)), (28, .inl (.bool true)), (32, .inl (.bool true))] [] ?_ ?_
  · exact oz (k_mv (.inl rfl) rfl) <|
    oz (k_bi (.int .i64 n) (.int .i64 ((1 : Nat) : Int)) (.bool true) (lt_i (m := n) (n := ((1 : Nat) : Int)) (decide_eq_true (by omega))) rfl rfl) <|
    oz (k_mv (.inl rfl) rfl) <|
    oz (k_sk rfl) <|
    oz (k_sk rfl) <|
    oz (k_pt rfl rfl) <|
    oz (k_mv (.inl rfl) rfl) <|
    oz (k_sk rfl) <|
    oz (k_sk rfl) <|
    oz (k_pt rfl rfl) <|
    oz (k_mv (.inl rfl) rfl) <|
    oz (k_sk rfl) <|
    oz (k_sk rfl) <|
    oz (k_sk rfl) <|
    oz (k_pt rfl rfl) <|
    ok_nil
  clear h; intro β a w h
  refine sym_then ?_
  refine s_ct h ?_
  refine sym_seq ?_
  refine St.r0 h [] [] ?_ ?_
  · exact oz (k_mv (.inr rfl) rfl) <|
    ok_nil
  clear h; intro β a w h
  refine sym_then ?_
  refine wp_ret ?_
  refine then_ret ?_
  exact s_rt h Tryd.results14 (fun hb => ⟨rfl, hb⟩)
set_option maxHeartbeats 8000000 in
theorem ext_n2 {m n : Int} {q pcap : Nat} {pa : Option Addr} {O R : Nat → Nat} {W0 : World} (hn2 : 1048576 < n) : Calls Tryd.prog 14 #[.int .i64 m, .int .i64 n, .agg (ab 32 O), .agg (ab 32 R), .slice pa q pcap] W0 fun e w' => e = .returned (.bool false) ∧ Below W0.heap.size W0 w' := by
  refine s_in Tryd.func14 Tryd.ntmps14 rfl [.inl (.int .i64 m), .inl (.int .i64 n), .inl (.agg (ab 32 O)), .inl (.agg (ab 32 R)), .inl (.slice pa q pcap)] ?_
  intro β a h
  refine sym_seq ?_
  refine St.rg h [(7, .inr (0, pt 0)), (8, .inr (1, pt 0)), (10, .inl (.bool false))] [(ab 32 O, 34), (ab 32 R, 34)] [] [eN 0, eN 1] ?_ ?_
  · exact oc (k_bx 0 (.agg (ab 32 O)) (bx_agg (P := Tryd.prog)) rfl rfl) <|
    oc (k_bx 1 (.agg (ab 32 R)) (bx_agg (P := Tryd.prog)) rfl rfl) <|
    oz (k_mv (.inr rfl) rfl) <|
    ok_nil
  clear h; intro β a w h
  refine sym_then ?_
  refine sym_seq ?_
  refine sym_seq ?_
  refine St.r0 h [(18, .inl (.int .i64 n)), (19, .inl (.bool false)), (20, .inl (.bool false)), (21, .inl (.int .i64 n)), (22, .inl (.bool true)), (23, .inl (.bool true)), (24, .inl (.bool true)), (27, .inl (.bool true)), (28, .inl (.bool true)), (32, .inl (.bool true))] [] ?_ ?_
  · exact oz (k_mv (.inl rfl) rfl) <|
    oz (k_bi (.int .i64 n) (.int .i64 ((1 : Nat) : Int)) (.bool false) (lt_i (m := n) (n := ((1 : Nat) : Int)) (decide_eq_false (by omega))) rfl rfl) <|
    oz (k_mv (.inl rfl) rfl) <|
    oz (k_mv (.inl rfl) rfl) <|
    oz (k_bi (.int .i64 n) (.int .i64 ((1048576 : Nat) : Int)) (.bool true) (gt_i (m := n) (n := ((1048576 : Nat) : Int)) (decide_eq_true (by omega))) rfl rfl) <|
    oz (k_pf rfl rfl) <|
    oz (k_mv (.inl rfl) rfl) <|
    oz (k_sk rfl) <|
    oz (k_sk rfl) <|
    oz (k_pt rfl rfl) <|
    oz (k_mv (.inl rfl) rfl) <|
    oz (k_sk rfl) <|
    oz (k_sk rfl) <|
    oz (k_sk rfl) <|
    oz (k_pt rfl rfl) <|
    ok_nil
  clear h; intro β a w h
  refine sym_then ?_
  refine s_ct h ?_
  refine sym_seq ?_
  refine St.r0 h [] [] ?_ ?_
  · exact oz (k_mv (.inr rfl) rfl) <|
    ok_nil
  clear h; intro β a w h
  refine sym_then ?_
  refine wp_ret ?_
  refine then_ret ?_
  exact s_rt h Tryd.results14 (fun hb => ⟨rfl, hb⟩)
set_option maxHeartbeats 8000000 in
theorem ext_m1 {m n : Int} {q pcap : Nat} {pa : Option Addr} {O R : Nat → Nat} {W0 : World} (hn1 : 1 ≤ n) (hn2 : n ≤ 1048576) (hm1 : m < 1) : Calls Tryd.prog 14 #[.int .i64 m, .int .i64 n, .agg (ab 32 O), .agg (ab 32 R), .slice pa q pcap] W0 fun e w' => e = .returned (.bool false) ∧ Below W0.heap.size W0 w' := by
  refine s_in Tryd.func14 Tryd.ntmps14 rfl [.inl (.int .i64 m), .inl (.int .i64 n), .inl (.agg (ab 32 O)), .inl (.agg (ab 32 R)), .inl (.slice pa q pcap)] ?_
  intro β a h
  refine sym_seq ?_
  refine St.rg h [(7, .inr (0, pt 0)), (8, .inr (1, pt 0)), (10, .inl (.bool false))] [(ab 32 O, 34), (ab 32 R, 34)] [] [eN 0, eN 1] ?_ ?_
  · exact oc (k_bx 0 (.agg (ab 32 O)) (bx_agg (P := Tryd.prog)) rfl rfl) <|
    oc (k_bx 1 (.agg (ab 32 R)) (bx_agg (P := Tryd.prog)) rfl rfl) <|
    oz (k_mv (.inr rfl) rfl) <|
    ok_nil
  clear h; intro β a w h
  refine sym_then ?_
  refine sym_seq ?_
  refine sym_seq ?_
  refine St.r0 h [(18, .inl (.int .i64 n)), (19, .inl (.bool false)), (20, .inl (.bool false)), (21, .inl (.int .i64 n)), (22, .inl (.bool false)), (23, .inl (.bool false)), (24, .inl (.bool false)), (25, .inl (.int .i64 m)), (26, .inl (.bool true)), (27, .inl (.bool true)), (28, .inl (.bool true)), (32, .inl (.bool true))] [] ?_ ?_
  · exact oz (k_mv (.inl rfl) rfl) <|
    oz (k_bi (.int .i64 n) (.int .i64 ((1 : Nat) : Int)) (.bool false) (lt_i (m := n) (n := ((1 : Nat) : Int)) (decide_eq_false (by omega))) rfl rfl) <|
    oz (k_mv (.inl rfl) rfl) <|
    oz (k_mv (.inl rfl) rfl) <|
    oz (k_bi (.int .i64 n) (.int .i64 ((1048576 : Nat) : Int)) (.bool false) (gt_i (m := n) (n := ((1048576 : Nat) : Int)) (decide_eq_false (by omega))) rfl rfl) <|
    oz (k_pf rfl rfl) <|
    oz (k_mv (.inl rfl) rfl) <|
    oz (k_mv (.inl rfl) rfl) <|
    oz (k_bi (.int .i64 m) (.int .i64 ((1 : Nat) : Int)) (.bool true) (lt_i (m := m) (n := ((1 : Nat) : Int)) (decide_eq_true (by omega))) rfl rfl) <|
    oz (k_pf rfl rfl) <|
    oz (k_mv (.inl rfl) rfl) <|
    oz (k_sk rfl) <|
    oz (k_sk rfl) <|
    oz (k_sk rfl) <|
    oz (k_pt rfl rfl) <|
    ok_nil
  clear h; intro β a w h
  refine sym_then ?_
  refine s_ct h ?_
  refine sym_seq ?_
  refine St.r0 h [] [] ?_ ?_
  · exact oz (k_mv (.inr rfl) rfl) <|
    ok_nil
  clear h; intro β a w h
  refine sym_then ?_
  refine wp_ret ?_
  refine then_ret ?_
  exact s_rt h Tryd.results14 (fun hb => ⟨rfl, hb⟩)
set_option maxHeartbeats 8000000 in
theorem ext_m2 {m n : Int} {q pcap : Nat} {pa : Option Addr} {O R : Nat → Nat} {W0 : World} (hn1 : 1 ≤ n) (hn2 : n ≤ 1048576) (hm1 : 1 ≤ m) (hm2 : n < m) : Calls Tryd.prog 14 #[.int .i64 m, .int .i64 n, .agg (ab 32 O), .agg (ab 32 R), .slice pa q pcap] W0 fun e w' => e = .returned (.bool false) ∧ Below W0.heap.size W0 w' := by
  refine s_in Tryd.func14 Tryd.ntmps14 rfl [.inl (.int .i64 m), .inl (.int .i64 n), .inl (.agg (ab 32 O)), .inl (.agg (ab 32 R)), .inl (.slice pa q pcap)] ?_
  intro β a h
  refine sym_seq ?_
  refine St.rg h [(7, .inr (0, pt 0)), (8, .inr (1, pt 0)), (10, .inl (.bool false))] [(ab 32 O, 34), (ab 32 R, 34)] [] [eN 0, eN 1] ?_ ?_
  · exact oc (k_bx 0 (.agg (ab 32 O)) (bx_agg (P := Tryd.prog)) rfl rfl) <|
    oc (k_bx 1 (.agg (ab 32 R)) (bx_agg (P := Tryd.prog)) rfl rfl) <|
    oz (k_mv (.inr rfl) rfl) <|
    ok_nil
  clear h; intro β a w h
  refine sym_then ?_
  refine sym_seq ?_
  refine sym_seq ?_
  refine St.r0 h [(18, .inl (.int .i64 n)), (19, .inl (.bool false)), (20, .inl (.bool false)), (21, .inl (.int .i64 n)), (22, .inl (.bool false)), (23, .inl (.bool false)), (24, .inl (.bool false)), (25, .inl (.int .i64 m)), (26, .inl (.bool false)), (27, .inl (.bool false)), (28, .inl (.bool false)), (29, .inl (.int .i64 m)), (30, .inl (.int .i64 n)), (31, .inl (.bool true)), (32, .inl (.bool true))] [] ?_ ?_
  · exact oz (k_mv (.inl rfl) rfl) <|
    oz (k_bi (.int .i64 n) (.int .i64 ((1 : Nat) : Int)) (.bool false) (lt_i (m := n) (n := ((1 : Nat) : Int)) (decide_eq_false (by omega))) rfl rfl) <|
    oz (k_mv (.inl rfl) rfl) <|
    oz (k_mv (.inl rfl) rfl) <|
    oz (k_bi (.int .i64 n) (.int .i64 ((1048576 : Nat) : Int)) (.bool false) (gt_i (m := n) (n := ((1048576 : Nat) : Int)) (decide_eq_false (by omega))) rfl rfl) <|
    oz (k_pf rfl rfl) <|
    oz (k_mv (.inl rfl) rfl) <|
    oz (k_mv (.inl rfl) rfl) <|
    oz (k_bi (.int .i64 m) (.int .i64 ((1 : Nat) : Int)) (.bool false) (lt_i (m := m) (n := ((1 : Nat) : Int)) (decide_eq_false (by omega))) rfl rfl) <|
    oz (k_pf rfl rfl) <|
    oz (k_mv (.inl rfl) rfl) <|
    oz (k_mv (.inl rfl) rfl) <|
    oz (k_mv (.inl rfl) rfl) <|
    oz (k_bi (.int .i64 m) (.int .i64 n) (.bool true) (gt_i (m := m) (n := n) (decide_eq_true (by omega))) rfl rfl) <|
    oz (k_pf rfl rfl) <|
    ok_nil
  clear h; intro β a w h
  refine sym_then ?_
  refine s_ct h ?_
  refine sym_seq ?_
  refine St.r0 h [] [] ?_ ?_
  · exact oz (k_mv (.inr rfl) rfl) <|
    ok_nil
  clear h; intro β a w h
  refine sym_then ?_
  refine wp_ret ?_
  refine then_ret ?_
  exact s_rt h Tryd.results14 (fun hb => ⟨rfl, hb⟩)
set_option maxHeartbeats 8000000 in
set_option maxRecDepth 100000 in
theorem ext_nil {m n pcap s : Nat} {pa : Option Addr} {O R : Nat → Nat} {W0 : World} (hm1 : 1 ≤ m) (hmn : m ≤ n) (hn : n ≤ 1048576) (hs : s ≠ 0) (hst : ∀ g w, Bx w g 3 (.int .i64 ((m : Nat) : Int)) → Bx w (g + 1) 3 (.int .i64 ((n : Nat) : Int)) → Calls Tryd.prog 35 #[.func (.func 57) #[] #[.pointer (some ⟨g, 0, none⟩), .pointer (some ⟨g + 1, 0, none⟩)]] w fun e w' => e = .returned (.int .i64 ((s : Nat) : Int)) ∧ Below w.heap.size w w') : Calls Tryd.prog 14 #[.int .i64 ((m : Nat) : Int), .int .i64 ((n : Nat) : Int), .agg (ab 32 O), .agg (ab 32 R), .slice pa 0 pcap] W0 fun e w' => e = .returned (.bool false) ∧ Below W0.heap.size W0 w' := by
  refine s_in Tryd.func14 Tryd.ntmps14 rfl [.inl (.int .i64 ((m : Nat) : Int)), .inl (.int .i64 ((n : Nat) : Int)), .inl (.agg (ab 32 O)), .inl (.agg (ab 32 R)), .inl (.slice pa 0 pcap)] ?_
  intro β a h
  refine sym_seq ?_
  refine St.rg h [(7, .inr (0, pt 0)), (8, .inr (1, pt 0)), (10, .inl (.bool false))] [(ab 32 O, 34), (ab 32 R, 34)] [] [eN 0, eN 1] ?_ ?_
  · exact oc (k_bx 0 (.agg (ab 32 O)) (bx_agg (P := Tryd.prog)) rfl rfl) <|
    oc (k_bx 1 (.agg (ab 32 R)) (bx_agg (P := Tryd.prog)) rfl rfl) <|
    oz (k_mv (.inr rfl) rfl) <|
    ok_nil
  clear h; intro β a w h
  refine sym_then ?_
  refine sym_seq ?_
  refine sym_seq ?_
  refine St.r0 h [(18, .inl (.int .i64 ((n : Nat) : Int))), (19, .inl (.bool false)), (20, .inl (.bool false)), (21, .inl (.int .i64 ((n : Nat) : Int))), (22, .inl (.bool false)), (23, .inl (.bool false)), (24, .inl (.bool false)), (25, .inl (.int .i64 ((m : Nat) : Int))), (26, .inl (.bool false)), (27, .inl (.bool false)), (28, .inl (.bool false)), (29, .inl (.int .i64 ((m : Nat) : Int))), (30, .inl (.int .i64 ((n : Nat) : Int))), (31, .inl (.bool false)), (32, .inl (.bool false))] [] ?_ ?_
  · exact oz (k_mv (.inl rfl) rfl) <|
    oz (k_bi (.int .i64 ((n : Nat) : Int)) (.int .i64 ((1 : Nat) : Int)) (.bool false) (lt_i (m := ((n : Nat) : Int)) (n := ((1 : Nat) : Int)) (decide_eq_false (by omega))) rfl rfl) <|
    oz (k_mv (.inl rfl) rfl) <|
    oz (k_mv (.inl rfl) rfl) <|
    oz (k_bi (.int .i64 ((n : Nat) : Int)) (.int .i64 ((1048576 : Nat) : Int)) (.bool false) (gt_i (m := ((n : Nat) : Int)) (n := ((1048576 : Nat) : Int)) (decide_eq_false (by omega))) rfl rfl) <|
    oz (k_pf rfl rfl) <|
    oz (k_mv (.inl rfl) rfl) <|
    oz (k_mv (.inl rfl) rfl) <|
    oz (k_bi (.int .i64 ((m : Nat) : Int)) (.int .i64 ((1 : Nat) : Int)) (.bool false) (lt_i (m := ((m : Nat) : Int)) (n := ((1 : Nat) : Int)) (decide_eq_false (by omega))) rfl rfl) <|
    oz (k_pf rfl rfl) <|
    oz (k_mv (.inl rfl) rfl) <|
    oz (k_mv (.inl rfl) rfl) <|
    oz (k_mv (.inl rfl) rfl) <|
    oz (k_bi (.int .i64 ((m : Nat) : Int)) (.int .i64 ((n : Nat) : Int)) (.bool false) (gt_i (m := ((m : Nat) : Int)) (n := ((n : Nat) : Int)) (decide_eq_false (by omega))) rfl rfl) <|
    oz (k_pf rfl rfl) <|
    ok_nil
  clear h; intro β a w h
  refine sym_then ?_
  refine s_cf h ?_
  refine wp_skip ?_
  refine sym_then ?_
  refine sym_seq ?_
  replace h := St.cs h (s' := [.inl (.int .i64 ((m : Nat) : Int)), .inl (.int .i64 ((n : Nat) : Int)), .inl (.agg (ab 32 O)), .inl (.agg (ab 32 R)), .inl (.slice pa 0 pcap), uu, uu, .inr (0, pt 0), .inr (1, pt 0), uu, .inl (.bool false), uu, uu, uu, uu, uu, uu, uu, .inl (.int .i64 ((n : Nat) : Int)), .inl (.bool false), .inl (.bool false), .inl (.int .i64 ((n : Nat) : Int)), .inl (.bool false), .inl (.bool false), .inl (.bool false), .inl (.int .i64 ((m : Nat) : Int)), .inl (.bool false), .inl (.bool false), .inl (.bool false), .inl (.int .i64 ((m : Nat) : Int)), .inl (.int .i64 ((n : Nat) : Int)), .inl (.bool false), .inl (.bool false), uu, uu, uu, uu, uu, uu, uu, uu, uu, uu, uu, uu, uu, uu, uu, uu, uu, uu, uu, uu, uu, uu, uu, uu, uu, uu, uu, uu, uu, uu, uu, uu, uu, uu, uu, uu, uu, uu, uu, uu, uu, uu, uu, uu, uu, uu, uu, uu, uu, uu, uu, uu, uu, uu, uu, uu]) (m' := [(ab 32 O, 34), (ab 32 R, 34)]) (by kernel_rfl) (by kernel_rfl)
  obtain rfl : a = { tmps := (.int .i64 ((m : Nat) : Int) :: .int .i64 ((n : Nat) : Int) :: .agg (ab 32 O) :: .agg (ab 32 R) :: .slice pa 0 pcap :: undef :: undef :: fv (pt 0) (β 0) :: fv (pt 0) (β 1) :: undef :: .bool false :: undef :: undef :: undef :: undef :: undef :: undef :: undef :: .int .i64 ((n : Nat) : Int) :: .bool false :: .bool false :: .int .i64 ((n : Nat) : Int) :: .bool false :: .bool false :: .bool false :: .int .i64 ((m : Nat) : Int) :: .bool false :: .bool false :: .bool false :: .int .i64 ((m : Nat) : Int) :: .int .i64 ((n : Nat) : Int) :: .bool false :: .bool false :: undef :: undef :: undef :: undef :: undef :: undef :: undef :: undef :: undef :: undef :: undef :: undef :: undef :: undef :: undef :: undef :: undef :: undef :: undef :: undef :: undef :: undef :: undef :: undef :: undef :: undef :: undef :: undef :: undef :: undef :: undef :: undef :: undef :: undef :: undef :: undef :: undef :: undef :: undef :: undef :: undef :: undef :: undef :: undef :: undef :: undef :: undef :: undef :: undef :: undef :: undef :: undef :: undef :: undef :: undef :: undef :: []).toArray, defers := [] } := h.tm.trans (by kernel_rfl)
  obtain ⟨q1, q2, q3, q4⟩ := cuts_two (w := w) m n
  have hH := hide1 h
  have hz := q3.size
  clear h
  refine reg_gen fun QQ hQQ => ?_
  go_wp2_with fail
  refine (ahead_d _ _ _).mono ?_
  rintro e w' ⟨rfl, rfl⟩
  go_wp2_with fail
  refine hQQ.out _ _ ?_
  clear hQQ QQ
  refine go_base hH.out ((.inl (.int .i64 ((m : Nat) : Int))) :: (.inl (.int .i64 ((n : Nat) : Int))) :: (.inl (.agg (ab 32 O))) :: (.inl (.agg (ab 32 R))) :: (.inl (.slice pa 0 pcap)) :: uu :: uu :: (.inr (0, pt 0)) :: (.inr (1, pt 0)) :: uu :: (.inl (.bool false)) :: (.inl (.func (.func 57) #[] #[.pointer (some ⟨w.heap.size, 0, none⟩), .pointer (some ⟨w.heap.size + 1, 0, none⟩)])) :: uu :: uu :: uu :: uu :: uu :: uu :: (.inl (.int .i64 ((n : Nat) : Int))) :: (.inl (.bool false)) :: (.inl (.bool false)) :: (.inl (.int .i64 ((n : Nat) : Int))) :: (.inl (.bool false)) :: (.inl (.bool false)) :: (.inl (.bool false)) :: (.inl (.int .i64 ((m : Nat) : Int))) :: (.inl (.bool false)) :: (.inl (.bool false)) :: (.inl (.bool false)) :: (.inl (.int .i64 ((m : Nat) : Int))) :: (.inl (.int .i64 ((n : Nat) : Int))) :: (.inl (.bool false)) :: (.inl (.bool false)) :: (.inl (.int .i64 ((m : Nat) : Int))) :: (.inl (.int .i64 ((n : Nat) : Int))) :: (.inl (.func (.func 57) #[] #[.pointer (some ⟨w.heap.size, 0, none⟩), .pointer (some ⟨w.heap.size + 1, 0, none⟩)])) :: uu :: uu :: uu :: uu :: uu :: uu :: uu :: uu :: uu :: uu :: uu :: uu :: uu :: uu :: uu :: uu :: uu :: uu :: uu :: uu :: uu :: uu :: uu :: uu :: uu :: uu :: uu :: uu :: uu :: uu :: uu :: uu :: uu :: uu :: uu :: uu :: uu :: uu :: uu :: uu :: uu :: uu :: uu :: uu :: uu :: uu :: uu :: uu :: uu :: uu :: uu :: uu :: uu :: []) q3 ?_ (by kernel_rfl)
  rintro W1b a n5 hn5 hk1b hfar h
  have hsq : ∀ v, KW W1b v → Bx v w.heap.size 3 (.int .i64 ((m : Nat) : Int)) ∧ Bx v (w.heap.size + 1) 3 (.int .i64 ((n : Nat) : Int)) := fun v hv => ⟨(hfar v hv w.heap.size (by omega) (by omega)).trans q1, (hfar v hv (w.heap.size + 1) (by omega) (by omega)).trans q2⟩
  clear hH q1 q2 q3 q4 hz hfar hn5
  generalize w.heap.size = n6 at *
  replace h := h.o0
  refine sym_then ?_
  refine sym_seq ?_
  refine St.rg h [(36, .inl (.agg (ab 32 O))), (12, .inr (2, pt 0))] [(ab 32 (fun _ => 0), 34)] [(2, ab 32 O)] [eR 0, eN 2, eS 2] ?_ ?_
  · exact oc (k_ld 0 0 (.agg (ab 32 O)) (c := ab 32 O) (ldS (F := O) 34) rfl rfl) <|
    oc (k_al 2 alS rfl rfl) <|
    oc (k_st 2 0 (.agg (ab 32 O)) (c := ab 32 (fun _ => 0)) (n := ab 32 O) (stS (F := O) (c := ab 32 (fun _ => 0)) 34 (ab_size _ _)) rfl rfl) <|
    ok_nil
  clear h; intro β a w h
  refine sym_then ?_
  refine sym_seq ?_
  refine sym_seq ?_
  refine St.r0 h [(37, .inl (.func (.func 57) #[] #[.pointer (some ⟨n6, 0, none⟩), .pointer (some ⟨n6 + 1, 0, none⟩)])), (38, .inl (.int .i64 ((s : Nat) : Int))), (39, .inl (.bool true))] [] ?_ ?_
  · exact oz (k_mv (.inl rfl) rfl) <|
    oz (k_cw 35 #[.func (.func 57) #[] #[.pointer (some ⟨n6, 0, none⟩), .pointer (some ⟨n6 + 1, 0, none⟩)]] (.int .i64 ((s : Nat) : Int)) (fun w hw => hst n6 w (hsq w hw).1 (hsq w hw).2) rfl rfl) <|
    oz (k_bi (.int .i64 ((s : Nat) : Int)) (.int .i64 ((0 : Nat) : Int)) (.bool true) (gt_i (m := ((s : Nat) : Int)) (n := ((0 : Nat) : Int)) (decide_eq_true (by omega))) rfl rfl) <|
    ok_nil
  clear h; intro β a w h
  refine sym_then ?_
  refine s_ct h ?_
  refine sym_seq ?_
  refine sym_seq ?_
  refine St.r0 h [(40, .inl (.slice pa 0 pcap)), (41, .inl (.int .i64 ((0 : Nat) : Int))), (42, .inl (.bool true))] [] ?_ ?_
  · exact oz (k_mv (.inl rfl) rfl) <|
    oz (k_ln (ad := pa) 0 pcap rfl rfl (fun w => len_ss _ w)) <|
    oz (k_bi (.int .i64 ((0 : Nat) : Int)) (.int .i64 ((0 : Nat) : Int)) (.bool true) (eq_i (m := ((0 : Nat) : Int)) (n := ((0 : Nat) : Int)) (decide_eq_true (by omega))) rfl rfl) <|
    ok_nil
  clear h; intro β a w h
  refine sym_then ?_
  refine s_ct h ?_
  refine sym_seq ?_
  refine St.r0 h [] [] ?_ ?_
  · exact oz (k_mv (.inr rfl) rfl) <|
    ok_nil
  clear h; intro β a w h
  refine sym_then ?_
  refine wp_ret ?_
  refine then_ret ?_
  refine then_ret ?_
  replace h := h.unb hk1b
  exact s_rt h Tryd.results14 (fun hb => ⟨rfl, hb⟩)
end Go.Proofs.YtgnmnoadfjdjdaaDoor

namespace Go.Proofs.YtgnmnoadfjdjdaaDoor
open Go.RowKit Go.Maps Go.Shelf Sh

/-- What Extends answers where the range is right. -/
def extN (m n : Nat) (O R : Nat → Nat) (ps : List (Nat → Nat)) : Bool := decide (ps.length = nds m n true) && (eqD (wasB true m n O ps) O && eqD (nowB true m n O ps) R)
def rngB (m n : Int) : Prop := 1 ≤ n ∧ n ≤ 1048576 ∧ 1 ≤ m ∧ m ≤ n
theorem ext_bad {m n : Int} {q pcap : Nat} {pa : Option Addr} {O R : Nat → Nat} {W0 : World} (h : ¬ rngB m n) : Calls Tryd.prog 14 #[.int .i64 m, .int .i64 n, .agg (ab 32 O), .agg (ab 32 R), .slice pa q pcap] W0 fun e w' => e = .returned (.bool false) ∧ Below W0.heap.size W0 w' := by
  by_cases h1 : n < 1
  · exact ext_n1 h1
  · by_cases h2 : 1048576 < n
    · exact ext_n2 h2
    · by_cases h3 : m < 1
      · exact ext_m1 (by omega) (by omega) h3
      · exact ext_m2 (by omega) (by omega) (by omega) (by unfold rngB at h; omega)
theorem ahead_le2 (m n : Nat) : (aheadL m n).length ≤ n := Nat.le_trans (List.takeWhile_prefix _).length_le (way_le _ _)
theorem ext_d {m n q pcap : Nat} {pa : Option Addr} {ps : List (Nat → Nat)} {O R : Nat → Nat} {W0 : World} (hg : Gl W0) (hO : ∀ i, O i < 256) (hm1 : 1 ≤ m) (hmn : m ≤ n) (hn : n ≤ 1048576) (hq : ps.length = q) (hqc : q ≤ pcap) (hS : SsAt W0 pa ps) :
    Calls Tryd.prog 14 #[.int .i64 ((m : Nat) : Int), .int .i64 ((n : Nat) : Int), .agg (ab 32 O), .agg (ab 32 R), .slice pa q pcap] W0 fun e w' => e = .returned (.bool (extN m n O R ps)) ∧ Below W0.heap.size W0 w' := by
  have eg := enters_of Tryd.func57 (by kernel_rfl) rfl
  have hx := ahead_le2 m n
  have hst : ∀ g w, Bx w g 3 (.int .i64 ((m : Nat) : Int)) → Bx w (g + 1) 3 (.int .i64 ((n : Nat) : Int)) → Calls Tryd.prog 35 #[.func (.func 57) #[] #[.pointer (some ⟨g, 0, none⟩), .pointer (some ⟨g + 1, 0, none⟩)]] w fun e w' => e = .returned (.int .i64 ((stF (aheadL m n) : Nat) : Int)) ∧ Below w.heap.size w w' := fun g w h1 h2 =>
    start_d eg (ahead_seq hm1 hmn hn h1 h2) (fun j hj => by rcases hj with rfl | rfl; exact h1.lt; exact h2.lt)
  have hup : ∀ g w, Bx w g 3 (.int .i64 ((m : Nat) : Int)) → Bx w (g + 1) 3 (.int .i64 ((n : Nat) : Int)) → Calls Tryd.prog 40 #[.func (.func 57) #[] #[.pointer (some ⟨g, 0, none⟩), .pointer (some ⟨g + 1, 0, none⟩)]] w fun e W' => ∃ a cap, e = .returned (.slice a (aheadL m n).length cap) ∧ (aheadL m n).length ≤ cap ∧ CsAt W' a (aheadL m n).reverse ∧ (∀ p, 0 < (aheadL m n).length → a = some p → w.heap.size ≤ p.block) ∧ Below w.heap.size w W' := fun g w h1 h2 =>
    upward_d eg (ahead_seq hm1 hmn hn h1 h2) (fun j hj => by rcases hj with rfl | rfl; exact h1.lt; exact h2.lt) (by omega)
  have lc : (aheadL m n).reverse.length = (aheadL m n).length := List.length_reverse
  by_cases h0 : stF (aheadL m n) = 0
  · have hnd : nds m n true = (aheadL m n).length := by unfold nds; simp [h0]
    have hw : wasB true m n O ps = firstL (aheadL m n).reverse ps O := by unfold wasB Q0 F0; simp [h0]
    have hv : nowB true m n O ps = comeL (aheadL m n).reverse ps O := by unfold nowB Q0 F0; simp [h0]
    obtain ⟨qb, qo, ea⟩ := ss_ad hS hq
    unfold extN
    rw [hw, hv, hnd]
    by_cases hl : q = (aheadL m n).length
    · have t1 : (aheadL m n).reverse.take (aheadL m n).length = (aheadL m n).reverse := List.take_of_length_le (by omega)
      have t2 : ps.take (aheadL m n).length = ps := List.take_of_length_le (by omega)
      rw [decide_eq_true (by omega), Bool.true_and]
      subst hl
      cases hb1 : eqD (firstL (aheadL m n).reverse ps O) O with
      | false => exact ext0_f hg hm1 hmn hn hO hS.1 lc hq (by omega) h0 ea (fun w hw => hS.later hw.below) hst hup (by rw [t1, t2]; exact hb1)
      | true =>
        cases hb2 : eqD (comeL (aheadL m n).reverse ps O) R with
        | false => exact ext0_tf hg hm1 hmn hn hO hS.1 lc hq (by omega) h0 ea (fun w hw => hS.later hw.below) hst hup (by rw [t1, t2]; exact hb1) (by rw [t1, t2]; exact hb2)
        | true => exact ext0_tt hg hm1 hmn hn hO hS.1 lc hq (by omega) h0 ea (fun w hw => hS.later hw.below) hst hup (by rw [t1, t2]; exact hb1) (by rw [t1, t2]; exact hb2)
    · rw [decide_eq_false (by omega), Bool.false_and]
      exact ext0_len hg hm1 hmn hn hO hS.1 lc hq (by omega) h0 ea (fun w hw => hS.later hw.below) hst hup hl
  · have hnd : nds m n true = 1 + (aheadL m n).length := by unfold nds; simp [h0]
    have hw : wasB true m n O ps = firstL (aheadL m n).reverse (ps.drop 1) (ps.getD 0 fun _ => 0) := by unfold wasB Q0 F0; simp [h0]
    have hv : nowB true m n O ps = comeL (aheadL m n).reverse (ps.drop 1) (ps.getD 0 fun _ => 0) := by unfold nowB Q0 F0; simp [h0]
    unfold extN
    rw [hw, hv, hnd]
    rcases Nat.eq_zero_or_pos q with hq0 | hq0
    · subst hq0
      rw [decide_eq_false (by omega), Bool.false_and]
      exact ext_nil hm1 hmn hn h0 hst
    · obtain ⟨pb, po, rfl, _⟩ := hS.2 (by omega)
      obtain ⟨ad, hsl, hss⟩ := sl_one (b := pb) (off := po) (n := q) (cap := pcap) hq0 hqc
      have hss' : ∀ w, KW (wd W0) w → SsAt w ad (ps.drop 1) := fun w hw => hss w ps hq (hS.later hw.below)
      have hld : ∀ w, KW (wd W0) w → (Instr.loadAt 34 (.pointer (some ⟨pb, po + 32 * 0, none⟩))).run Tryd.prog w = .ok (.agg (ab 32 (ps.getD 0 fun _ => 0))) w := fun w hw => ld_st2 (n := q) (hS.later hw.below) (fun _ => rfl) (by omega)
      have hld1 : (ps.drop 1).length = q - 1 := by rw [List.length_drop, hq]
      obtain ⟨qb, qo, ea⟩ := ss_ad (hss W0 ps hq hS) hld1
      have hP0 := getD_lt hS.1 0
      have hpl : ∀ P ∈ ps.drop 1, ∀ j, P j < 256 := fun P hP => hS.1 P (List.mem_of_mem_drop hP)
      by_cases hl : q - 1 = (aheadL m n).length
      · have t1 : (aheadL m n).reverse.take (aheadL m n).length = (aheadL m n).reverse := List.take_of_length_le (by omega)
        have t2 : (ps.drop 1).take (aheadL m n).length = ps.drop 1 := List.take_of_length_le (by omega)
        rw [decide_eq_true (by omega), Bool.true_and]
        rw [hl] at hsl hld1 ea
        cases hb1 : eqD (firstL (aheadL m n).reverse (ps.drop 1) (ps.getD 0 fun _ => 0)) O with
        | false => exact ext1_f hg hm1 hmn hn hP0 hpl lc hld1 (by omega) h0 (fun _ => rfl) hq0 hld hsl ea hss' hst hup (by rw [t1, t2]; exact hb1)
        | true =>
          cases hb2 : eqD (comeL (aheadL m n).reverse (ps.drop 1) (ps.getD 0 fun _ => 0)) R with
          | false => exact ext1_tf hg hm1 hmn hn hP0 hpl lc hld1 (by omega) h0 (fun _ => rfl) hq0 hld hsl ea hss' hst hup (by rw [t1, t2]; exact hb1) (by rw [t1, t2]; exact hb2)
          | true => exact ext1_tt hg hm1 hmn hn hP0 hpl lc hld1 (by omega) h0 (fun _ => rfl) hq0 hld hsl ea hss' hst hup (by rw [t1, t2]; exact hb1) (by rw [t1, t2]; exact hb2)
      · rw [decide_eq_false (by omega), Bool.false_and]
        exact ext1_len hg hm1 hmn hn hP0 hpl lc hld1 (by omega) h0 (fun _ => rfl) hq0 hld hsl ea hss' hst hup hl
/-- A beginning's own proof extends. -/
theorem ext_beg {L : List (Nat → Nat)} {m n : Nat} (hL : L.length = n) (hm1 : 1 ≤ m) (hmn : m ≤ n) : extN m n (root (L.take m)) (root L) (beg L m n true) = true := by
  obtain ⟨e1, e2⟩ := both_root n m L hL hm1 hmn
  have hF : F0 true m n (root (L.take m)) (beg L m n true) = pt0 L m n ∧ Q0 true m n (beg L m n true) = asl L (aheadL m n) := by
    unfold F0 Q0 beg pt0
    by_cases h0 : stF (aheadL m n) = 0
    · simp [h0]
      have : part L 0 m = L.take m := rfl
      rw [this]
    · simp [h0]
  unfold extN wasB nowB
  rw [hF.1, hF.2, e1, e2, nds_beg, eqD_iff.2 (fun _ _ => rfl), eqD_iff.2 (fun _ _ => rfl), decide_eq_true rfl]
  rfl
end Go.Proofs.YtgnmnoadfjdjdaaDoor

namespace Go.Proofs.YtgnmnoadfjdjdaaDoor
open Go.RowKit Sh

theorem empty_own (w1 : World) : (w1.alloc (.cells #[] 34)).ownsRow w1.heap.size 34 32 (.slice (some ⟨w1.heap.size, 0, none⟩) 0 0) 0 [] := ⟨rfl, .inr ⟨w1.heap.size, 0, #[], rfl, Nat.le_refl _, (MapKept.heap_alloc w1 _).1, Nat.le_refl _, by decide, rfl, rfl⟩⟩
set_option maxHeartbeats 4000000 in
set_option maxRecDepth 100000 in
theorem begs_big {a : Option Addr} {n cap : Nat} {i : Int} {W0 : World} (hg : Gl W0) (h : 100 < n) : Calls Tryd.prog 3 #[.slice a n cap, .int .i64 i] W0 fun e w' => e = .returned (.bool true) ∧ Below W0.heap.size W0 w' := by
  have hq : (100 : Int) < (n : Int) := by omega
  go_enter Tryd.func3, Tryd.ntmps3
  go_wp2_with fail
  refine (alive_t hg).mono ?_
  rintro e w1 ⟨rfl, hb1⟩
  go_wp2
  go_ret
  exact ⟨rfl, hb1⟩
set_option maxHeartbeats 4000000 in
set_option maxRecDepth 100000 in
theorem begs_bad {a : Option Addr} {n cap : Nat} {i : Int} {L : List (Nat → Nat)} {W0 : World} (hg : Gl W0) (h : n ≤ 100) (hL : L.length = n) (hs : SsAt W0 a L) (hi : i < 1 ∨ (n : Int) < i) : Calls Tryd.prog 3 #[.slice a n cap, .int .i64 i] W0 fun e w' => e = .returned (.bool true) ∧ Below W0.heap.size W0 w' := by
  have hq : ¬ (100 : Int) < (n : Int) := by omega
  have hbad : ∀ (ac : Option Addr) (cc : Nat) (w : World), Calls Tryd.prog 10 #[.slice ac n cc, .int .i64 i] w fun e W' => e = .returned (.tuple #[.slice none 0 0, ev 2]) ∧ W' = w := fun ac cc w => begins_bad hi
  by_cases h0 : i < 1
  · go_enter Tryd.func3, Tryd.ntmps3
    go_wp2_with fail
    refine (alive_t hg).mono ?_
    rintro e w1 ⟨rfl, hb1⟩
    have hst := empty_own w1
    have hal : Below w1.heap.size w1 (w1.alloc (.cells #[] 34)) := (Below.refl _ _).alloc (Nat.le_refl _) _
    have hs2 := (hs.later hb1).later hal
    go_wp2_with (at_builtin; refine wpList_append_ss rfl (.tmp 15) (.tmp 16) rfl w1.heap.size _ 0 [] rfl hst a n cap L rfl hs2 hL (by omega) hal.size ?_
                 intro v2 w2 ho2 hg2
                 rw [List.nil_append, Nat.zero_add] at ho2
                 have hw2 : Below w1.heap.size w1 w2 := hal.grown hg2 hal.size (fun k e => (hst.lt k e).1)
                 obtain ⟨ac, cc, rfl, hsc, hnc⟩ := ss_own hs.1 hL ho2
                 clear hg2 ho2 hst)
    refine (hbad ac cc w2).mono ?_
    rintro e w3 ⟨rfl, rfl⟩
    have hb03 := blw hb1 hw2
    go_wp2_with fail
    refine (is_e 2 rfl _).mono ?_
    rintro e w4 ⟨rfl, rfl⟩
    go_wp2
    go_ret
    exact ⟨rfl, hb03⟩
  · have h1 : (n : Int) < i := by omega
    go_enter Tryd.func3, Tryd.ntmps3
    go_wp2_with fail
    refine (alive_t hg).mono ?_
    rintro e w1 ⟨rfl, hb1⟩
    have hst := empty_own w1
    have hal : Below w1.heap.size w1 (w1.alloc (.cells #[] 34)) := (Below.refl _ _).alloc (Nat.le_refl _) _
    have hs2 := (hs.later hb1).later hal
    go_wp2_with (at_builtin; refine wpList_append_ss rfl (.tmp 15) (.tmp 16) rfl w1.heap.size _ 0 [] rfl hst a n cap L rfl hs2 hL (by omega) hal.size ?_
                 intro v2 w2 ho2 hg2
                 rw [List.nil_append, Nat.zero_add] at ho2
                 have hw2 : Below w1.heap.size w1 w2 := hal.grown hg2 hal.size (fun k e => (hst.lt k e).1)
                 obtain ⟨ac, cc, rfl, hsc, hnc⟩ := ss_own hs.1 hL ho2
                 clear hg2 ho2 hst)
    refine (hbad ac cc w2).mono ?_
    rintro e w3 ⟨rfl, rfl⟩
    have hb03 := blw hb1 hw2
    go_wp2_with fail
    refine (is_e 2 rfl _).mono ?_
    rintro e w4 ⟨rfl, rfl⟩
    go_wp2
    go_ret
    exact ⟨rfl, hb03⟩
end Go.Proofs.YtgnmnoadfjdjdaaDoor

namespace Go.Proofs.YtgnmnoadfjdjdaaDoor
open Go.RowKit Go.Maps Sh
def SsV (n : Nat) (L : List (Nat → Nat)) (v : Value) (w : World) : Prop := ∃ a cap, v = .slice a n cap ∧ SsAt w a L
theorem SsV.later {n : Nat} {L : List (Nat → Nat)} {v : Value} {w w' : World} (h : SsV n L v w) (hb : Below w.heap.size w w') : SsV n L v w' := by
  obtain ⟨a, c, e, h1⟩ := h
  exact ⟨a, c, e, h1.later hb⟩
theorem beg_lt {L : List (Nat → Nat)} (hL : ∀ F ∈ L, ∀ j, F j < 256) (m n : Nat) (all : Bool) : ∀ F ∈ beg L m n all, ∀ j, F j < 256 := by
  intro F hF
  unfold beg at hF
  rcases List.mem_append.1 hF with h | h
  · split at h
    · cases h
    · rw [List.mem_singleton.1 h]
      exact root_lt _ _ rfl (fun G hG => hL G (List.mem_of_mem_take (List.mem_of_mem_drop hG)))
  · exact asl_lt hL _ F h
set_option maxHeartbeats 4000000 in
set_option maxRecDepth 100000 in
theorem begs_in {b off n cap m : Nat} {L : List (Nat → Nat)} {W0 : World} (hg : Gl W0) (h : n ≤ 100) (hL : L.length = n) (hs : SsAt W0 (some ⟨b, off, none⟩) L) (hcap : n ≤ cap) (hm1 : 1 ≤ m) (hmn : m ≤ n) : Calls Tryd.prog 3 #[.slice (some ⟨b, off, none⟩) n cap, .int .i64 ((m : Nat) : Int)] W0 fun e w' => e = .returned (.bool true) ∧ Below W0.heap.size W0 w' := by
  have hq : ¬ (100 : Int) < (n : Int) := by omega
  have h0 : ¬ (m : Int) < 1 := by omega
  have h1 : ¬ (n : Int) < (m : Int) := by omega
  have hal' := beg_lt hs.1 m n true
  have hwl := beg_le L m n true
  have hcr := ext_beg hL hm1 hmn
  have hOl : ∀ i, root (L.take m) i < 256 := root_lt _ _ rfl (fun F hF => hs.1 F (List.mem_of_mem_take hF))
  obtain ⟨A, hA⟩ : ∃ A, Hid (A = beg L m n true) := ⟨_, hide1 rfl⟩
  obtain ⟨N, hN⟩ : ∃ N, Hid (N = (beg L m n true).length) := ⟨_, hide1 rfl⟩
  have hlA : A.length = N := by rw [hA.out, hN.out]
  rw [← hA.out] at hal' hcr
  have hN2 : N ≤ n + 1 := by rw [hN.out]; exact hwl
  clear hwl
  go_enter Tryd.func3, Tryd.ntmps3
  go_wp2_with fail
  refine (alive_t hg).mono ?_
  rintro e w1 ⟨rfl, hb1⟩
  have hst := empty_own w1
  have hal : Below w1.heap.size w1 (w1.alloc (.cells #[] 34)) := (Below.refl _ _).alloc (Nat.le_refl _) _
  have hs2 := (hs.later hb1).later hal
  go_wp2_with (at_builtin; refine wpList_append_ss rfl (.tmp 15) (.tmp 16) rfl w1.heap.size _ 0 [] rfl hst (some ⟨b, off, none⟩) n cap L rfl hs2 hL (by omega) hal.size ?_
               intro v2 w2 ho2 hg2
               rw [List.nil_append, Nat.zero_add] at ho2
               have hw2 : Below w1.heap.size w1 w2 := hal.grown hg2 hal.size (fun k e => (hst.lt k e).1)
               obtain ⟨ac, cc, rfl, hsc, hnc⟩ := ss_own hs.1 hL ho2
               clear hg2 ho2 hst)
  have hb02 := blw hb1 hw2
  have hp := begins_d (gl_b hg hb02) hm1 hmn hL (by omega) hnc hsc
  rw [← hA.out, hlA] at hp
  refine hp.mono ?_
  rintro e w3 ⟨v, rfl, ho, hb3⟩
  obtain ⟨ap, cp, rfl, hsp, hncp⟩ := own_shape hal' hlA ho
  have hb03 := blw hb02 hb3
  have hsc3 := hsc.later hb3
  clear hp ho hs2 hal
  have hRP : ∀ w, Below w3.heap.size w3 w → Calls Tryd.prog 13 #[.slice (some ⟨b, off, none⟩) n cap, .int .i64 ((m : Nat) : Int)] w fun e w' => ∃ r, e = .returned r ∧ SsV N A r w' ∧ Below w.heap.size w w' := fun w hw => by
    have := refBegins_d n m L _ cap w hL hm1 hmn (by omega) (hs.later (blw hb03 hw)) hcap
    rw [← hA.out, hlA] at this
    refine this.mono ?_
    rintro e w' ⟨r, rfl, ⟨ho, _⟩, hb⟩
    obtain ⟨a2, c2, rfl, h2, _⟩ := own_shape hal' hlA ho
    exact ⟨_, rfl, ⟨a2, c2, rfl, h2⟩, hb⟩
  have hS1 : ∀ w, Below w3.heap.size w3 w → ∀ a2 c2, SsAt w a2 A → Calls Tryd.prog 12 #[.slice ap N cp, .slice a2 N c2] w fun e w' => e = .returned (.bool true) ∧ Below w.heap.size w w' := fun w hw a2 c2 h2 => by
    have := same_d (cap := cp) (cap2 := c2) (hsp.later hw) h2 hlA hlA (by omega)
    rwa [eqLs_refl] at this
  have hS2 : ∀ w, Below w3.heap.size w3 w → Calls Tryd.prog 12 #[.slice ac n cc, .slice (some ⟨b, off, none⟩) n cap] w fun e w' => e = .returned (.bool true) ∧ Below w.heap.size w w' := fun w hw => by
    have := same_d (cap := cc) (cap2 := cap) (hsc3.later hw) (hs.later (blw hb03 hw)) hL hL (by omega)
    rwa [eqLs_refl] at this
  have hRo : ∀ w, Below w3.heap.size w3 w → Calls Tryd.prog 15 #[.slice (some ⟨b, off, none⟩) n cap] w fun e w' => e = .returned (.agg (ab 32 (root L))) ∧ Below w.heap.size w w' := fun w hw => root_r n L _ cap w hL (by omega) (hs.later (blw hb03 hw)) hcap
  have hRm : ∀ w, Below w3.heap.size w3 w → Calls Tryd.prog 15 #[.slice (some ⟨b, off, none⟩) m cap] w fun e w' => e = .returned (.agg (ab 32 (root (L.take m)))) ∧ Below w.heap.size w w' := fun w hw => root_r m (L.take m) _ cap w (by rw [List.length_take]; omega) (by omega) ((hs.lo).later (blw hb03 hw)) (by omega)
  have hEx : ∀ w, Below w3.heap.size w3 w → Calls Tryd.prog 14 #[.int .i64 ((m : Nat) : Int), .int .i64 ((n : Nat) : Int), .agg (ab 32 (root (L.take m))), .agg (ab 32 (root L)), .slice ap N cp] w fun e w' => e = .returned (.bool true) ∧ Below w.heap.size w w' := fun w hw => by
    have := ext_d (pcap := cp) (R := root L) (gl_b hg (blw hb03 hw)) hOl hm1 hmn (by omega) hlA hncp (hsp.later hw)
    rwa [hcr] at this
  clear hsp hsc hsc3 hcr hw2 hb1 hb02 hb3 hOl
  go_wp2_with fail
  refine (hRP w3 (Below.refl _ _)).mono ?_
  rintro e w4 ⟨r, rfl, ⟨a2, c2, rfl, hs2⟩, hb4⟩
  go_wp2_with fail
  refine (hS1 w4 hb4 a2 c2 hs2).mono ?_
  rintro e w5 ⟨rfl, hb5⟩
  replace hb5 := blw hb4 hb5
  clear hs2 hRP hS1
  go_wp2_with fail
  refine (hS2 w5 hb5).mono ?_
  rintro e w6 ⟨rfl, hb6⟩
  replace hb6 := blw hb5 hb6
  have hm0 : (0 : Int) ≤ (m : Int) := by omega
  have hmc : (m : Int) ≤ (cap : Int) := by omega
  clear hS2
  go_wp2_with fail
  refine (hRm w6 hb6).mono ?_
  rintro e w7 ⟨rfl, hb7⟩
  replace hb7 := blw hb6 hb7
  go_wp2_with fail
  refine (hRo w7 hb7).mono ?_
  rintro e w8 ⟨rfl, hb8⟩
  replace hb8 := blw hb7 hb8
  go_wp2_with fail
  refine (hEx w8 hb8).mono ?_
  rintro e w9 ⟨rfl, hb9⟩
  replace hb9 := blw hb03 (blw hb8 hb9)
  clear hRm hRo hEx hb4 hb5 hb6 hb7 hb8
  go_wp2
  go_ret
  exact ⟨rfl, hb9⟩
theorem begs_walk {a : Option Addr} {n cap : Nat} {i : Int} {L : List (Nat → Nat)} {W0 : World} (hL : L.length = n) (hs : SsAt W0 a L) (hcap : n ≤ cap) (hg : Gl W0) : Calls Tryd.prog 3 #[.slice a n cap, .int .i64 i] W0 fun e w' => e = .returned (.bool true) ∧ Below W0.heap.size W0 w' := by
  rcases Nat.lt_or_ge 100 n with h | h
  · exact begs_big hg h
  · by_cases hi : i < 1 ∨ (n : Int) < i
    · exact begs_bad hg h hL hs hi
    · obtain ⟨k, rfl⟩ : ∃ k : Nat, i = (k : Int) := ⟨i.toNat, by omega⟩
      obtain ⟨b, off, rfl, _⟩ := hs.2 (by omega)
      exact begs_in hg h hL hs hcap (by omega) (by omega)
end Go.Proofs.YtgnmnoadfjdjdaaDoor

namespace Go.Proofs.YtgnmnoadfjdjdaaDoor
open Go.RowKit Go.Maps Sh

theorem cut_pow {n k : Nat} (h2 : 2 ≤ n) (h : n ≤ 2 ^ (k + 1)) : cut n ≤ 2 ^ k := by
  have e : cut n = 2 ^ (n - 1).log2 := if_neg (by omega)
  rw [e]
  refine Nat.pow_le_pow_right (by decide) ?_
  have := (Nat.log2_lt (n := n - 1) (k := k + 1) (by omega)).2 (by omega)
  omega
theorem way_log : ∀ (k i n : Nat), n ≤ 2 ^ k → i < n → (way i n).length ≤ k := by
  intro k
  induction k with
  | zero =>
    intro i n h hi
    obtain rfl : n = 1 := by have : 2 ^ 0 = 1 := rfl; omega
    rw [way_1]; exact Nat.le_refl _
  | succ k ih =>
    intro i n h hi
    rcases Nat.lt_or_ge n 2 with h2 | h2
    · obtain rfl : n = 1 := by omega
      rw [way_1]; exact Nat.zero_le _
    · have hc := cut_in h2
      have hp := cut_pow h2 h
      rcases Nat.lt_or_ge i (cut n) with h3 | h3
      · rw [way_len_lo h2 h3]
        have := ih i (cut n) hp h3
        omega
      · rw [way_len_hi h2 h3]
        have := ih (i - cut n) (n - cut n) (by omega) (by omega)
        omega
set_option maxHeartbeats 4000000 in
set_option maxRecDepth 100000 in
theorem rootc_d {b off n cap g k : Nat} {L : List (Nat → Nat)} {w : World} (hL : L.length = n) (hn : n ≤ 100) (hcap : n ≤ cap) (hs : SsAt w (some ⟨b, off, none⟩) L) (hb : w.heap[g]? = some (.cells #[.slice (some ⟨b, off, none⟩) n cap] 22 (0, 0))) (hk : k ≤ n) :
    Calls Tryd.prog 18 #[.int .i64 ((k : Nat) : Int), .pointer (some ⟨g, 0, none⟩)] w fun e w' => e = .returned (.agg (ab 32 (root (L.take k)))) ∧ Below w.heap.size w w' := by
  have hk0 : (0 : Int) ≤ (k : Int) := by omega
  have hk1 : (k : Int) ≤ (cap : Int) := by omega
  obtain ⟨Z, hZ⟩ : ∃ Z, Hid (Z = ab 32 fun _ => 0) := ⟨_, hide1 rfl⟩
  have hzs : ∀ w : World, (zeroValue 34).run Tryd.prog w = .ok (.agg Z) w := fun w => by rw [hZ.out]; kernel_rfl
  have hZs : Z.size = 32 := by rw [hZ.out]; exact ab_size _ _
  have hgl := (Array.getElem?_eq_some_iff.1 hb).1
  have hal : Below w.heap.size w (w.alloc (.cells Z 34)) := (Below.refl _ _).alloc (Nat.le_refl _) _
  have hcell : (w.alloc (.cells Z 34)).cell? ⟨g, 0, none⟩ = some (.slice (some ⟨b, off, none⟩) n cap) := by
    rw [cell_of_row _ _ _ _ _ _ ((hal.block g hgl).trans hb)]; rfl
  have hr := root_r k (L.take k) (some ⟨b, off, none⟩) cap (w.alloc (.cells Z 34)) (by rw [List.length_take]; omega) (by omega) ((hs.lo).later hal) (by omega)
  generalize root (L.take k) = R at *
  go_enter Tryd.func18, Tryd.ntmps18
  go_wp2_with fail
  refine hr.mono ?_
  rintro e w2 ⟨rfl, hb2⟩
  have hb02 := blw hal hb2
  have hr2 : w2.heap[w.heap.size]? = some (.cells Z 34 (0, 0)) := (hb2.block _ (by simp)).trans (World.alloc_heap_new w _)
  have hwr := wrt_row (c' := ab 32 R) hr2
  have hb3 : Below w.heap.size w (w2.setRow w.heap.size (ab 32 R)) := below_wrt hb02 hwr (Nat.le_refl _) hb02.size
  have hr3 := hwr.row
  clear hr hcell hzs
  go_wp2_with (refine wpList_store_row rfl 34 (.tmp 3) (.tmp 7) rfl w.heap.size (ab 32 R) Z 34 rfl rfl (sum_sz R) hr2 (by rw [hZs, ab_size]) (ab_one _ _) rfl ?_)
  exact bodyPost_ret (v := .agg (ab 32 R)) (results_row rfl _ rfl Tryd.underlying34 (sum_sz R) hr3) rfl ⟨rfl, hb3⟩
/-- A number brought into the range. -/
def inr1 (i : Int) (n : Nat) : Nat := 1 + (i % 18446744073709551616).toNat % n
theorem inr1_in {i : Int} {n : Nat} (hn : 1 ≤ n) : 1 ≤ inr1 i n ∧ inr1 i n ≤ n := by
  have := Nat.mod_lt (i % 18446744073709551616).toNat (show 0 < n by omega)
  unfold inr1
  omega
theorem inr1_e {i : Int} {n : Nat} (hn1 : 1 ≤ n) (hn2 : n ≤ 60) : wrap64 (1 + wrap64 ((IntKind.u64.wrap i).tmod (n : Int))) = ((inr1 i n : Nat) : Int) := by
  have h0 : IntKind.u64.wrap i = i % 18446744073709551616 := by simp [IntKind.wrap, IntKind.bits, IntKind.signed]
  have h1 : 0 ≤ i % 18446744073709551616 := Int.emod_nonneg _ (by decide)
  have h2 : (i % 18446744073709551616) % (n : Int) = (((i % 18446744073709551616).toNat % n : Nat) : Int) := by
    rw [Int.natCast_emod, Int.toNat_of_nonneg h1]
  have h3 := Nat.mod_lt (i % 18446744073709551616).toNat (show 0 < n by omega)
  rw [h0, Int.tmod_eq_emod_of_nonneg h1, h2]
  unfold inr1
  generalize (i % 18446744073709551616).toNat % n = q at *
  unfold wrap64
  omega
set_option maxHeartbeats 8000000 in
set_option maxRecDepth 100000 in
theorem steps_in {b off n cap : Nat} {i j : Int} {L : List (Nat → Nat)} {W0 : World} (hg : Gl W0) (hn1 : 1 ≤ n) (hn2 : n ≤ 60) (hL : L.length = n) (hs : SsAt W0 (some ⟨b, off, none⟩) L) (hcap : n ≤ cap) : Calls Tryd.prog 6 #[.slice (some ⟨b, off, none⟩) n cap, .int .i64 i, .int .i64 j] W0 fun e w' => e = .returned (.bool true) ∧ Below W0.heap.size W0 w' := by
  have hq1 : ¬ (n : Int) < 1 := by omega
  have hq2 : ¬ (60 : Int) < (n : Int) := by omega
  obtain ⟨wb, hwb⟩ : ∃ wb, Hid (wb = W0.alloc (.cells #[.slice (some ⟨b, off, none⟩) n cap] 22)) := ⟨_, hide1 rfl⟩
  have hbb : Below W0.heap.size W0 wb := by rw [hwb.out]; exact (Below.refl _ _).alloc (Nat.le_refl _) _
  have hrb : wb.heap[W0.heap.size]? = some (.cells #[.slice (some ⟨b, off, none⟩) n cap] 22 (0, 0)) := by rw [hwb.out]; exact World.alloc_heap_new W0 _
  have hrow : ∀ w, Below wb.heap.size wb w → w.heap[W0.heap.size]? = some (.cells #[.slice (some ⟨b, off, none⟩) n cap] 22 (0, 0)) := fun w hw => (hw.block _ (Array.getElem?_eq_some_iff.1 hrb).1).trans hrb
  have hcell : ∀ w, Below wb.heap.size wb w → w.cell? ⟨W0.heap.size, 0, none⟩ = some (.slice (some ⟨b, off, none⟩) n cap) := fun w hw => by
    rw [cell_of_row _ _ _ _ _ _ (hrow w hw)]; rfl
  have hsw : ∀ w, Below wb.heap.size wb w → SsAt w (some ⟨b, off, none⟩) L := fun w hw => hs.later (blw hbb hw)
  have hgw : ∀ w, Below wb.heap.size wb w → Gl w := fun w hw => gl_b hg (blw hbb hw)
  go_enter Tryd.func6, Tryd.ntmps6
  go_upto_region 1 with fail
  rw [← hwb.out]
  go_wp2_with fail
  refine (alive_t (gl_b hg hbb)).mono ?_
  rintro e w1 ⟨rfl, hb1⟩
  have hc1 := hcell w1 hb1
  go_wp2_with fail
  have hnz : ¬ n = 0 := by omega
  go_quiet (fail)
  rw [inr1_e hn1 hn2, inr1_e hn1 hn2]
  have hb2 : Below wb.heap.size wb (w1.drewN nq) := ⟨hb1.os, hb1.tape, hb1.output, hb1.size, hb1.block⟩
  generalize w1.drewN nq = w2 at hb2 ⊢
  obtain ⟨ha1, ha2⟩ := inr1_in (i := i) hn1
  obtain ⟨hc1', hc2'⟩ := inr1_in (i := j) hn1
  generalize inr1 i n = α at *
  generalize inr1 j n = γ at *
  obtain ⟨x, hx⟩ : ∃ x, Hid (x = min α γ) := ⟨_, hide1 rfl⟩
  obtain ⟨y, hy⟩ : ∃ y, Hid (y = max α γ) := ⟨_, hide1 rfl⟩
  have hmin : min ((α : Nat) : Int) ((γ : Nat) : Int) = ((x : Nat) : Int) := by rw [hx.out]; omega
  have hmax : max ((α : Nat) : Int) ((γ : Nat) : Int) = ((y : Nat) : Int) := by rw [hy.out]; omega
  have hx1 : 1 ≤ x := by rw [hx.out]; omega
  have hxy : x ≤ y := by rw [hx.out, hy.out]; omega
  have hyn : y ≤ n := by rw [hy.out]; omega
  have hy0 : (0 : Int) ≤ (y : Int) := by omega
  have hyc : (y : Int) ≤ (cap : Int) := by omega
  have hx0 : (x : Int) - 1 = ((x - 1 : Nat) : Int) := by omega
  have hrl : ∀ k i, root (L.take k) i < 256 := fun k => root_lt _ _ rfl (fun F hF => hs.1 F (List.mem_of_mem_take hF))
  have hLn : Hid (L.take n = L) := hide1 (List.take_of_length_le (by omega))
  have hly : (L.take y).length = y := by rw [List.length_take]; omega
  have hlt : ∀ F ∈ L.take y, ∀ j, F j < 256 := fun F hF => hs.1 F (List.mem_of_mem_take hF)
  have ht : (L.take y).take x = L.take x := by rw [List.take_take, Nat.min_eq_left hxy]
  have E1 := ext_beg hly hx1 hxy
  have E2 := ext_beg hL (show 1 ≤ y by omega) hyn
  have E3 := ext_beg hL hx1 (show x ≤ n by omega)
  rw [ht] at E1
  have hwl := way_log 6 (x - 1) y (by omega) (by omega)
  have B1 := fun w (hw : Below wb.heap.size wb w) => begins_d (m := x) (cap := cap) (hgw w hw) hx1 hxy hly (by omega) (by omega) ((hsw w hw).lo)
  have B2 := fun w (hw : Below wb.heap.size wb w) => begins_d (m := y) (cap := cap) (hgw w hw) (by omega) hyn hL (by omega) hcap (hsw w hw)
  have B3 := fun w (hw : Below wb.heap.size wb w) => begins_d (m := x) (cap := cap) (hgw w hw) hx1 (by omega) hL (by omega) hcap (hsw w hw)
  have PA := fun w (hw : Below wb.heap.size wb w) => path_d (i := x - 1) (cap := cap) (hgw w hw) (by omega) hly (by omega) (by omega) ((hsw w hw).lo)
  have LN := fun w => length_d (i := x - 1) (n := y) (by omega) (by omega) w
  have RT : ∀ w, Below wb.heap.size wb w → ∀ k, k ≤ n → Calls Tryd.prog 18 #[.int .i64 ((k : Nat) : Int), .pointer (some ⟨W0.heap.size, 0, none⟩)] w fun e w' => e = .returned (.agg (ab 32 (root (L.take k)))) ∧ Below w.heap.size w w' := fun w hw k hk => rootc_d hL (by omega) hcap (hsw w hw) (hrow w hw) hk
  have hA1 := beg_lt hlt x y true
  have hA2 := beg_lt hs.1 y n true
  have hA3 := beg_lt hs.1 x n true
  have hA4 := asl_lt hlt (way (x - 1) y)
  have hA4l := asl_len (L.take y) (way (x - 1) y)
  generalize hN1 : beg (L.take y) x y true = A1 at *
  generalize hN2 : beg L y n true = A2 at *
  generalize hN3 : beg L x n true = A3 at *
  generalize hN4 : asl (L.take y) (way (x - 1) y) = A4 at *
  generalize hN5 : (way (x - 1) y).length = N at *
  replace hN1 := hide1 hN1; replace hN2 := hide1 hN2; replace hN3 := hide1 hN3; replace hN4 := hide1 hN4; replace hN5 := hide1 hN5
  have Ex : ∀ (m k : Nat) (A : List (Nat → Nat)) (w : World) (pa : Option Addr) (pc : Nat), 1 ≤ m → m ≤ k → k ≤ n → extN m k (root (L.take m)) (root (L.take k)) A = true → Below wb.heap.size wb w → A.length ≤ pc → SsAt w pa A → Calls Tryd.prog 14 #[.int .i64 ((m : Nat) : Int), .int .i64 ((k : Nat) : Int), .agg (ab 32 (root (L.take m))), .agg (ab 32 (root (L.take k))), .slice pa A.length pc] w fun e w' => e = .returned (.bool true) ∧ Below w.heap.size w w' := fun m k A w pa pc h1 h2 h3 he hw hc h => by
    have := ext_d (pcap := pc) (R := root (L.take k)) (hgw w hw) (hrl m) h1 h2 (by omega) rfl hc h
    rwa [he] at this
  have hc2 := hcell w2 hb2
  replace hx0 := hide1 hx0
  rw [← hx0.out] at PA LN
  have hst0 := hide1 hL
  have hst1 := hide1 hly
  clear hL hly hsw hgw hs hlt hA4l
  go_wp2_with fail
  refine (B1 w2 hb2).mono ?_
  rintro e w3 ⟨v1, rfl, ho1, hb3⟩
  obtain ⟨p1, c1, rfl, s1, hl1⟩ := own_shape hA1 rfl ho1
  replace hb3 := blw hb2 hb3
  have hc3 := hcell w3 hb3
  clear ho1 B1
  go_wp2_with fail
  refine (B2 w3 hb3).mono ?_
  rintro e w4 ⟨v2, rfl, ho2, hb4⟩
  obtain ⟨p2, c2, rfl, s2, hl2⟩ := own_shape hA2 rfl ho2
  replace s1 := s1.later hb4
  replace hb4 := blw hb3 hb4
  have hc4 := hcell w4 hb4
  clear ho2 B2 hc2 hc3
  go_wp2_with fail
  refine (B3 w4 hb4).mono ?_
  rintro e w5 ⟨v3, rfl, ho3, hb5⟩
  obtain ⟨p3, c3, rfl, s3, hl3⟩ := own_shape hA3 rfl ho3
  replace s1 := s1.later hb5
  replace s2 := s2.later hb5
  replace hb5 := blw hb4 hb5
  have hc5 := hcell w5 hb5
  clear ho3 B3 hc4
  go_wp2_with fail
  refine (PA w5 hb5).mono ?_
  rintro e w6 ⟨v4, rfl, ho4, hb6⟩
  obtain ⟨p4, c4, rfl, s4, hl4⟩ := own_shape hA4 (by rw [← hN4.out, asl_len]; exact hN5.out) ho4
  replace s1 := s1.later hb6
  replace s2 := s2.later hb6
  replace s3 := s3.later hb6
  replace hb6 := blw hb5 hb6
  have hN6 : (N : Int) ≤ 20 := by omega
  clear ho4 PA hc5 s4 hA1 hA2 hA3 hA4
  go_wp2_with fail
  refine (LN w6).mono ?_
  rintro e w7 ⟨rfl, hb7⟩
  replace s1 := s1.later hb7
  replace s2 := s2.later hb7
  replace s3 := s3.later hb7
  replace hb7 := blw hb6 hb7
  clear LN
  go_wp2_with fail
  refine (RT w7 hb7 x (by omega)).mono ?_
  rintro e w8 ⟨rfl, hb8⟩
  replace s1 := s1.later hb8
  replace s2 := s2.later hb8
  replace s3 := s3.later hb8
  replace hb8 := blw hb7 hb8
  go_wp2_with fail
  refine (RT w8 hb8 y (by omega)).mono ?_
  rintro e w9 ⟨rfl, hb9⟩
  replace s1 := s1.later hb9
  replace s2 := s2.later hb9
  replace s3 := s3.later hb9
  replace hb9 := blw hb8 hb9
  go_wp2_with fail
  refine (Ex x y A1 w9 p1 c1 hx1 hxy hyn E1 hb9 hl1 s1).mono ?_
  rintro e w10 ⟨rfl, hb10⟩
  replace s2 := s2.later hb10
  replace s3 := s3.later hb10
  replace hb10 := blw hb9 hb10
  clear s1 hb3 hb4 hb5 hb6 hb7 hb8
  go_wp2_with fail
  refine (RT w10 hb10 y (by omega)).mono ?_
  rintro e w11 ⟨rfl, hb11⟩
  replace s2 := s2.later hb11
  replace s3 := s3.later hb11
  replace hb11 := blw hb10 hb11
  go_wp2_with fail
  refine (RT w11 hb11 n (by omega)).mono ?_
  rintro e w12 ⟨rfl, hb12⟩
  replace s2 := s2.later hb12
  replace s3 := s3.later hb12
  replace hb12 := blw hb11 hb12
  go_wp2_with fail
  refine (Ex y n A2 w12 p2 c2 (by omega) hyn (Nat.le_refl _) (by rw [hLn.out]; exact E2) hb12 hl2 s2).mono ?_
  rintro e w13 ⟨rfl, hb13⟩
  replace s3 := s3.later hb13
  replace hb13 := blw hb12 hb13
  clear s2 hb9 hb10 hb11
  go_wp2_with fail
  refine (RT w13 hb13 x (by omega)).mono ?_
  rintro e w14 ⟨rfl, hb14⟩
  replace s3 := s3.later hb14
  replace hb14 := blw hb13 hb14
  go_wp2_with fail
  refine (RT w14 hb14 n (by omega)).mono ?_
  rintro e w15 ⟨rfl, hb15⟩
  replace s3 := s3.later hb15
  replace hb15 := blw hb14 hb15
  go_wp2_with fail
  refine (Ex x n A3 w15 p3 c3 hx1 (by omega) (Nat.le_refl _) (by rw [hLn.out]; exact E3) hb15 hl3 s3).mono ?_
  rintro e w16 ⟨rfl, hb16⟩
  have hfin := hide1 (blw hbb (blw hb15 hb16))
  clear s3 hb12 hb13 hb14 hb15 hb16 Ex RT
  go_wp2
  go_ret
  exact ⟨rfl, hfin.out⟩
set_option maxHeartbeats 8000000 in
set_option maxRecDepth 100000 in
theorem steps_walk {a : Option Addr} {n cap : Nat} {i j : Int} {L : List (Nat → Nat)} {W0 : World} (hL : L.length = n) (hs : SsAt W0 a L) (hcap : n ≤ cap) (hg : Gl W0) : Calls Tryd.prog 6 #[.slice a n cap, .int .i64 i, .int .i64 j] W0 fun e w' => e = .returned (.bool true) ∧ Below W0.heap.size W0 w' := by
  by_cases h : n < 1 ∨ 60 < n
  · obtain ⟨wb, hwb⟩ : ∃ wb, Hid (wb = W0.alloc (.cells #[.slice a n cap] 22)) := ⟨_, hide1 rfl⟩
    have hbb : Below W0.heap.size W0 wb := by rw [hwb.out]; exact (Below.refl _ _).alloc (Nat.le_refl _) _
    have hrb : wb.heap[W0.heap.size]? = some (.cells #[.slice a n cap] 22 (0, 0)) := by rw [hwb.out]; exact World.alloc_heap_new W0 _
    have hcell : ∀ w, Below wb.heap.size wb w → w.cell? ⟨W0.heap.size, 0, none⟩ = some (.slice a n cap) := fun w hw => by
      rw [cell_of_row _ _ _ _ _ _ ((hw.block _ (Array.getElem?_eq_some_iff.1 hrb).1).trans hrb)]; rfl
    by_cases h1 : (n : Int) < 1
    · go_enter Tryd.func6, Tryd.ntmps6
      go_upto_region 1 with fail
      rw [← hwb.out]
      go_wp2_with fail
      refine (alive_t (gl_b hg hbb)).mono ?_
      rintro e w1 ⟨rfl, hb1⟩
      have hc1 := hcell w1 hb1
      go_wp2
      go_ret
      exact ⟨rfl, blw hbb hb1⟩
    · have h2 : (60 : Int) < (n : Int) := by omega
      go_enter Tryd.func6, Tryd.ntmps6
      go_upto_region 1 with fail
      rw [← hwb.out]
      go_wp2_with fail
      refine (alive_t (gl_b hg hbb)).mono ?_
      rintro e w1 ⟨rfl, hb1⟩
      have hc1 := hcell w1 hb1
      go_wp2
      go_ret
      exact ⟨rfl, blw hbb hb1⟩
  · obtain ⟨b, off, rfl, _⟩ := hs.2 (by omega)
    exact steps_in hg (by omega) (by omega) hL hs hcap
end Go.Proofs.YtgnmnoadfjdjdaaDoor

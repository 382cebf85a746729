/- PE4, PE5, PX2, PBq, LAe, LAf, PRY, PBr, PEA, POa, POb: laid together. -/
import Derived.Maps.Own
import Derived.Maps.Views
import Derived.DeepKeys4
import Derived.Test.YtgnmnoadfjdjdaaDoorG7
import Derived.Test.YtgnmnoadfjdjdaaDoorG8
import Derived.Test.YtgnmnoadfjdjdaaDoorG6
import Derived.Test.YtgnmnoadfjdjdaaDoorG5
namespace Go.Proofs.YtgnmnoadfjdjdaaDoor
open Go.RowKit Go.Maps Sh
set_option maxHeartbeats 8000000 in
set_option maxRecDepth 100000 in
theorem ext1_tt {m n N c1 s q pcap pb po qb qo : Nat} {pa ad : Option Addr} {cs : List Cu} {ps : List (Nat → Nat)} {O R P0 : Nat → Nat} {W0 : World} (hg : Gl W0) (hm1 : 1 ≤ m) (hmn : m ≤ n) (hn : n ≤ 1048576) (hF : ∀ i, P0 i < 256) (hpl : ∀ P ∈ ps, ∀ j, P j < 256) (lc : cs.length = N) (lp : ps.length = N) (hN : N ≤ 1048576) (hs : s ≠ 0) (ea0 : 0 < q → pa = some ⟨pb, po, none⟩) (hq : 1 ≤ q) (hld0 : ∀ w, KW (wd W0) w → (Instr.loadAt 34 (.pointer (some ⟨pb, po + 32 * 0, none⟩))).run Tryd.prog w = .ok (.agg (ab 32 P0)) w) (hsl : ∀ w, (Instr.sliceAt 22 (.slice pa q pcap) (some (.int .i64 ((1 : Nat) : Int))) none none).run Tryd.prog w = .ok (.slice ad N c1) w) (ea : 0 < N → ad = some ⟨qb, qo, none⟩) (hps0 : ∀ w, KW (wd W0) w → SsAt w ad ps) (hst : ∀ g w, Bx w g 3 (.int .i64 ((m : Nat) : Int)) → Bx w (g + 1) 3 (.int .i64 ((n : Nat) : Int)) → Calls Tryd.prog 35 #[.func (.func 57) #[] #[.pointer (some ⟨g, 0, none⟩), .pointer (some ⟨g + 1, 0, none⟩)]] w fun e w' => e = .returned (.int .i64 ((s : Nat) : Int)) ∧ Below w.heap.size w w') (hup0 : ∀ g w, Bx w g 3 (.int .i64 ((m : Nat) : Int)) → Bx w (g + 1) 3 (.int .i64 ((n : Nat) : Int)) → Calls Tryd.prog 40 #[.func (.func 57) #[] #[.pointer (some ⟨g, 0, none⟩), .pointer (some ⟨g + 1, 0, none⟩)]] w fun e W' => ∃ a cap, e = .returned (.slice a N cap) ∧ N ≤ cap ∧ CsAt W' a cs ∧ (∀ p, 0 < N → a = some p → w.heap.size ≤ p.block) ∧ Below w.heap.size w W') (hb1 : eqD (firstL (cs.take N) (ps.take N) P0) O = true) (hb2 : eqD (comeL (cs.take N) (ps.take N) P0) R = true) :
    Calls Tryd.prog 14 #[.int .i64 ((m : Nat) : Int), .int .i64 ((n : Nat) : Int), .agg (ab 32 O), .agg (ab 32 R), .slice pa q pcap] W0 fun e w' => e = .returned (.bool true) ∧ Below W0.heap.size W0 w' := by
  refine s_in Tryd.func14 Tryd.ntmps14 rfl [.inl (.int .i64 ((m : Nat) : Int)), .inl (.int .i64 ((n : Nat) : Int)), .inl (.agg (ab 32 O)), .inl (.agg (ab 32 R)), .inl (.slice pa q pcap)] ?_
  intro β a h
  refine sym_seq ?_
  refine St.rg h [(7, .inr (0, pt 0)), (8, .inr (1, pt 0)), (10, .inl (.bool false))] [(ab 32 O, 34), (ab 32 R, 34)] [] [eN 0, eN 1] ?_ ?_
  · exact oc (k_bx 0 (.agg (ab 32 O)) (bx_agg (P := Tryd.prog)) rfl rfl) <|
    oc (k_bx 1 (.agg (ab 32 R)) (bx_agg (P := Tryd.prog)) rfl rfl) <|
    oz (k_mv (.inr rfl) rfl) <|
    ok_nil
  clear h; intro β a w h
  refine sym_then ?_
  refine sym_seq ?_
  refine sym_seq ?_
  refine St.r0 h [(18, .inl (.int .i64 ((n : Nat) : Int))), (19, .inl (.bool false)), (20, .inl (.bool false)), (21, .inl (.int .i64 ((n : Nat) : Int))), (22, .inl (.bool false)), (23, .inl (.bool false)), (24, .inl (.bool false)), (25, .inl (.int .i64 ((m : Nat) : Int))), (26, .inl (.bool false)), (27, .inl (.bool false)), (28, .inl (.bool false)), (29, .inl (.int .i64 ((m : Nat) : Int))), (30, .inl (.int .i64 ((n : Nat) : Int))), (31, .inl (.bool false)), (32, .inl (.bool false))] [] ?_ ?_
  · exact oz (k_mv (.inl rfl) rfl) <|
    oz (k_bi (.int .i64 ((n : Nat) : Int)) (.int .i64 ((1 : Nat) : Int)) (.bool false) (lt_i (m := ((n : Nat) : Int)) (n := ((1 : Nat) : Int)) (decide_eq_false (by omega))) rfl rfl) <|
    oz (k_mv (.inl rfl) rfl) <|
    oz (k_mv (.inl rfl) rfl) <|
    oz (k_bi (.int .i64 ((n : Nat) : Int)) (.int .i64 ((1048576 : Nat) : Int)) (.bool false) (gt_i (m := ((n : Nat) : Int)) (n := ((1048576 : Nat) : Int)) (decide_eq_false (by omega))) rfl rfl) <|
    oz (k_pf rfl rfl) <|
    oz (k_mv (.inl rfl) rfl) <|
    oz (k_mv (.inl rfl) rfl) <|
    oz (k_bi (.int .i64 ((m : Nat) : Int)) (.int .i64 ((1 : Nat) : Int)) (.bool false) (lt_i (m := ((m : Nat) : Int)) (n := ((1 : Nat) : Int)) (decide_eq_false (by omega))) rfl rfl) <|
    oz (k_pf rfl rfl) <|
    oz (k_mv (.inl rfl) rfl) <|
    oz (k_mv (.inl rfl) rfl) <|
    oz (k_mv (.inl rfl) rfl) <|
    oz (k_bi (.int .i64 ((m : Nat) : Int)) (.int .i64 ((n : Nat) : Int)) (.bool false) (gt_i (m := ((m : Nat) : Int)) (n := ((n : Nat) : Int)) (decide_eq_false (by omega))) rfl rfl) <|
    oz (k_pf rfl rfl) <|
    ok_nil
  clear h; intro β a w h
  refine sym_then ?_
  refine s_cf h ?_
  refine wp_skip ?_
  refine sym_then ?_
  refine sym_seq ?_
  replace h := St.cs h (s' := [.inl (.int .i64 ((m : Nat) : Int)), .inl (.int .i64 ((n : Nat) : Int)), .inl (.agg (ab 32 O)), .inl (.agg (ab 32 R)), .inl (.slice pa q pcap), uu, uu, .inr (0, pt 0), .inr (1, pt 0), uu, .inl (.bool false), uu, uu, uu, uu, uu, uu, uu, .inl (.int .i64 ((n : Nat) : Int)), .inl (.bool false), .inl (.bool false), .inl (.int .i64 ((n : Nat) : Int)), .inl (.bool false), .inl (.bool false), .inl (.bool false), .inl (.int .i64 ((m : Nat) : Int)), .inl (.bool false), .inl (.bool false), .inl (.bool false), .inl (.int .i64 ((m : Nat) : Int)), .inl (.int .i64 ((n : Nat) : Int)), .inl (.bool false), .inl (.bool false), uu, uu, uu, uu, uu, uu, uu, uu, uu, uu, uu, uu, uu, uu, uu, uu, uu, uu, uu, uu, uu, uu, uu, uu, uu, uu, uu, uu, uu, uu, uu, uu, uu, uu, uu, uu, uu, uu, uu, uu, uu, uu, uu, uu, uu, uu, uu, uu, uu, uu, uu, uu, uu, uu, uu, uu]) (m' := [(ab 32 O, 34), (ab 32 R, 34)]) (by kernel_rfl) (by kernel_rfl)
  obtain rfl : a = { tmps := (.int .i64 ((m : Nat) : Int) :: .int .i64 ((n : Nat) : Int) :: .agg (ab 32 O) :: .agg (ab 32 R) :: .slice pa q pcap :: undef :: undef :: fv (pt 0) (β 0) :: fv (pt 0) (β 1) :: undef :: .bool false :: undef :: undef :: undef :: undef :: undef :: undef :: undef :: .int .i64 ((n : Nat) : Int) :: .bool false :: .bool false :: .int .i64 ((n : Nat) : Int) :: .bool false :: .bool false :: .bool false :: .int .i64 ((m : Nat) : Int) :: .bool false :: .bool false :: .bool false :: .int .i64 ((m : Nat) : Int) :: .int .i64 ((n : Nat) : Int) :: .bool false :: .bool false :: undef :: undef :: undef :: undef :: undef :: undef :: undef :: undef :: undef :: undef :: undef :: undef :: undef :: undef :: undef :: undef :: undef :: undef :: undef :: undef :: undef :: undef :: undef :: undef :: undef :: undef :: undef :: undef :: undef :: undef :: undef :: undef :: undef :: undef :: undef :: undef :: undef :: undef :: undef :: undef :: undef :: undef :: undef :: undef :: undef :: undef :: undef :: undef :: undef :: undef :: undef :: undef :: undef :: undef :: undef :: undef :: []).toArray, defers := [] } := h.tm.trans (by kernel_rfl)
  obtain ⟨q1, q2, q3, q4⟩ := cuts_two (w := w) m n
  have hH := hide1 h
  have hz := q3.size
  clear h
  refine reg_gen fun QQ hQQ => ?_
  go_wp2_with fail
  refine (ahead_d _ _ _).mono ?_
  rintro e w' ⟨rfl, rfl⟩
  go_wp2_with fail
  refine hQQ.out _ _ ?_
  clear hQQ QQ
  refine go_base hH.out ((.inl (.int .i64 ((m : Nat) : Int))) :: (.inl (.int .i64 ((n : Nat) : Int))) :: (.inl (.agg (ab 32 O))) :: (.inl (.agg (ab 32 R))) :: (.inl (.slice pa q pcap)) :: uu :: uu :: (.inr (0, pt 0)) :: (.inr (1, pt 0)) :: uu :: (.inl (.bool false)) :: (.inl (.func (.func 57) #[] #[.pointer (some ⟨w.heap.size, 0, none⟩), .pointer (some ⟨w.heap.size + 1, 0, none⟩)])) :: uu :: uu :: uu :: uu :: uu :: uu :: (.inl (.int .i64 ((n : Nat) : Int))) :: (.inl (.bool false)) :: (.inl (.bool false)) :: (.inl (.int .i64 ((n : Nat) : Int))) :: (.inl (.bool false)) :: (.inl (.bool false)) :: (.inl (.bool false)) :: (.inl (.int .i64 ((m : Nat) : Int))) :: (.inl (.bool false)) :: (.inl (.bool false)) :: (.inl (.bool false)) :: (.inl (.int .i64 ((m : Nat) : Int))) :: (.inl (.int .i64 ((n : Nat) : Int))) :: (.inl (.bool false)) :: (.inl (.bool false)) :: (.inl (.int .i64 ((m : Nat) : Int))) :: (.inl (.int .i64 ((n : Nat) : Int))) :: (.inl (.func (.func 57) #[] #[.pointer (some ⟨w.heap.size, 0, none⟩), .pointer (some ⟨w.heap.size + 1, 0, none⟩)])) :: uu :: uu :: uu :: uu :: uu :: uu :: uu :: uu :: uu :: uu :: uu :: uu :: uu :: uu :: uu :: uu :: uu :: uu :: uu :: uu :: uu :: uu :: uu :: uu :: uu :: uu :: uu :: uu :: uu :: uu :: uu :: uu :: uu :: uu :: uu :: uu :: uu :: uu :: uu :: uu :: uu :: uu :: uu :: uu :: uu :: uu :: uu :: uu :: uu :: uu :: uu :: uu :: uu :: []) q3 ?_ (by kernel_rfl)
  rintro W1b a n5 hn5 hk1b hfar h
  have hsq : ∀ v, KW W1b v → Bx v w.heap.size 3 (.int .i64 ((m : Nat) : Int)) ∧ Bx v (w.heap.size + 1) 3 (.int .i64 ((n : Nat) : Int)) := fun v hv => ⟨(hfar v hv w.heap.size (by omega) (by omega)).trans q1, (hfar v hv (w.heap.size + 1) (by omega) (by omega)).trans q2⟩
  clear hH q1 q2 q3 q4 hz hfar hn5
  generalize w.heap.size = n6 at *
  replace h := h.o0
  refine sym_then ?_
  refine sym_seq ?_
  refine St.rg h [(36, .inl (.agg (ab 32 O))), (12, .inr (2, pt 0))] [(ab 32 (fun _ => 0), 34)] [(2, ab 32 O)] [eR 0, eN 2, eS 2] ?_ ?_
  · exact oc (k_ld 0 0 (.agg (ab 32 O)) (c := ab 32 O) (ldS (F := O) 34) rfl rfl) <|
    oc (k_al 2 alS rfl rfl) <|
    oc (k_st 2 0 (.agg (ab 32 O)) (c := ab 32 (fun _ => 0)) (n := ab 32 O) (stS (F := O) (c := ab 32 (fun _ => 0)) 34 (ab_size _ _)) rfl rfl) <|
    ok_nil
  clear h; intro β a w h
  refine sym_then ?_
  refine sym_seq ?_
  refine sym_seq ?_
  refine St.r0 h [(37, .inl (.func (.func 57) #[] #[.pointer (some ⟨n6, 0, none⟩), .pointer (some ⟨n6 + 1, 0, none⟩)])), (38, .inl (.int .i64 ((s : Nat) : Int))), (39, .inl (.bool true))] [] ?_ ?_
  · exact oz (k_mv (.inl rfl) rfl) <|
    oz (k_cw 35 #[.func (.func 57) #[] #[.pointer (some ⟨n6, 0, none⟩), .pointer (some ⟨n6 + 1, 0, none⟩)]] (.int .i64 ((s : Nat) : Int)) (fun w hw => hst n6 w (hsq w hw).1 (hsq w hw).2) rfl rfl) <|
    oz (k_bi (.int .i64 ((s : Nat) : Int)) (.int .i64 ((0 : Nat) : Int)) (.bool true) (gt_i (m := ((s : Nat) : Int)) (n := ((0 : Nat) : Int)) (decide_eq_true (by omega))) rfl rfl) <|
    ok_nil
  clear h; intro β a w h
  refine sym_then ?_
  refine s_ct h ?_
  refine sym_seq ?_
  refine sym_seq ?_
  refine St.r0 h [(40, .inl (.slice pa q pcap)), (41, .inl (.int .i64 ((q : Nat) : Int))), (42, .inl (.bool false))] [] ?_ ?_
  · exact oz (k_mv (.inl rfl) rfl) <|
    oz (k_ln (ad := pa) q pcap rfl rfl (fun w => len_ss _ w)) <|
    oz (k_bi (.int .i64 ((q : Nat) : Int)) (.int .i64 ((0 : Nat) : Int)) (.bool false) (eq_i (m := ((q : Nat) : Int)) (n := ((0 : Nat) : Int)) (decide_eq_false (by omega))) rfl rfl) <|
    ok_nil
  clear h; intro β a w h
  refine sym_then ?_
  refine s_cf h ?_
  refine wp_skip ?_
  refine sym_then ?_
  refine St.rg h [(43, .inl (.slice pa q pcap)), (44, .inl (.pointer (some ⟨pb, po + 32 * 0, none⟩))), (45, .inl (.agg (ab 32 P0))), (46, .inl (.slice pa q pcap)), (47, .inl (.slice ad N c1)), (4, .inl (.slice ad N c1))] [] [(2, ab 32 P0)] [eO, nn, nn, eO, nn, eS 2] ?_ ?_
  · exact oc (k_m0 rfl rfl) <|
    oc (k_is (.slice pa q pcap) (.int .i64 ((0 : Nat) : Int)) (.pointer (some ⟨pb, po + 32 * 0, none⟩)) (fun w => ix_st2 ea0 (i := 0) (by omega) w) rfl rfl) <|
    oc (k_lf (.pointer (some ⟨pb, po + 32 * 0, none⟩)) (.agg (ab 32 P0)) (fun w hw => hld0 w (hk1b.kw w hw)) rfl rfl) <|
    oc (k_m0 rfl rfl) <|
    oc (k_sw (.slice pa q pcap) (.slice ad N c1) (some (.int .i64 ((1 : Nat) : Int))) none hsl rfl rfl) <|
    oc (k_st 2 0 (.agg (ab 32 P0)) (c := ab 32 O) (n := ab 32 P0) (stS (F := P0) (c := ab 32 O) 34 (ab_size _ _)) rfl rfl) <|
    oz (k_mv (.inr rfl) rfl) <|
    ok_nil
  clear h; intro β a w h
  refine sym_then ?_
  refine sym_seq ?_
  replace h := St.cs h (s' := [.inl (.int .i64 ((m : Nat) : Int)), .inl (.int .i64 ((n : Nat) : Int)), .inl (.agg (ab 32 O)), .inl (.agg (ab 32 R)), .inl (.slice ad N c1), uu, uu, .inr (0, pt 0), .inr (1, pt 0), uu, .inl (.bool false), .inl (.func (.func 57) #[] #[.pointer (some ⟨n6, 0, none⟩), .pointer (some ⟨n6 + 1, 0, none⟩)]), .inr (2, pt 0), uu, uu, uu, uu, uu, .inl (.int .i64 ((n : Nat) : Int)), .inl (.bool false), .inl (.bool false), .inl (.int .i64 ((n : Nat) : Int)), .inl (.bool false), .inl (.bool false), .inl (.bool false), .inl (.int .i64 ((m : Nat) : Int)), .inl (.bool false), .inl (.bool false), .inl (.bool false), .inl (.int .i64 ((m : Nat) : Int)), .inl (.int .i64 ((n : Nat) : Int)), .inl (.bool false), .inl (.bool false), .inl (.int .i64 ((m : Nat) : Int)), .inl (.int .i64 ((n : Nat) : Int)), .inl (.func (.func 57) #[] #[.pointer (some ⟨n6, 0, none⟩), .pointer (some ⟨n6 + 1, 0, none⟩)]), .inl (.agg (ab 32 O)), .inl (.func (.func 57) #[] #[.pointer (some ⟨n6, 0, none⟩), .pointer (some ⟨n6 + 1, 0, none⟩)]), .inl (.int .i64 ((s : Nat) : Int)), .inl (.bool true), .inl (.slice pa q pcap), .inl (.int .i64 ((q : Nat) : Int)), .inl (.bool false), .inl (.slice pa q pcap), .inl (.pointer (some ⟨pb, po + 32 * 0, none⟩)), .inl (.agg (ab 32 P0)), .inl (.slice pa q pcap), .inl (.slice ad N c1), uu, uu, uu, uu, uu, uu, uu, uu, uu, uu, uu, uu, uu, uu, uu, uu, uu, uu, uu, uu, uu, uu, uu, uu, uu, uu, uu, uu, uu, uu, uu, uu, uu, uu, uu, uu, uu, uu, uu, uu, uu]) (m' := [(ab 32 O, 34), (ab 32 R, 34), (ab 32 P0, 34)]) (by kernel_rfl) (by kernel_rfl)
  obtain rfl : a = { tmps := (.int .i64 ((m : Nat) : Int) :: .int .i64 ((n : Nat) : Int) :: .agg (ab 32 O) :: .agg (ab 32 R) :: .slice ad N c1 :: undef :: undef :: fv (pt 0) (β 0) :: fv (pt 0) (β 1) :: undef :: .bool false :: .func (.func 57) #[] #[.pointer (some ⟨n6, 0, none⟩), .pointer (some ⟨n6 + 1, 0, none⟩)] :: fv (pt 0) (β 2) :: undef :: undef :: undef :: undef :: undef :: .int .i64 ((n : Nat) : Int) :: .bool false :: .bool false :: .int .i64 ((n : Nat) : Int) :: .bool false :: .bool false :: .bool false :: .int .i64 ((m : Nat) : Int) :: .bool false :: .bool false :: .bool false :: .int .i64 ((m : Nat) : Int) :: .int .i64 ((n : Nat) : Int) :: .bool false :: .bool false :: .int .i64 ((m : Nat) : Int) :: .int .i64 ((n : Nat) : Int) :: .func (.func 57) #[] #[.pointer (some ⟨n6, 0, none⟩), .pointer (some ⟨n6 + 1, 0, none⟩)] :: .agg (ab 32 O) :: .func (.func 57) #[] #[.pointer (some ⟨n6, 0, none⟩), .pointer (some ⟨n6 + 1, 0, none⟩)] :: .int .i64 ((s : Nat) : Int) :: .bool true :: .slice pa q pcap :: .int .i64 ((q : Nat) : Int) :: .bool false :: .slice pa q pcap :: .pointer (some ⟨pb, po + 32 * 0, none⟩) :: .agg (ab 32 P0) :: .slice pa q pcap :: .slice ad N c1 :: undef :: undef :: undef :: undef :: undef :: undef :: undef :: undef :: undef :: undef :: undef :: undef :: undef :: undef :: undef :: undef :: undef :: undef :: undef :: undef :: undef :: undef :: undef :: undef :: undef :: undef :: undef :: undef :: undef :: undef :: undef :: undef :: undef :: undef :: undef :: undef :: undef :: undef :: undef :: undef :: undef :: []).toArray, defers := [] } := h.tm.trans (by kernel_rfl)
  have hup := hup0 n6 w (hsq w h.bel).1 (hsq w h.bel).2
  have hH := hide1 h
  have hsH := hide1 hs
  clear h hs
  refine reg_gen fun QQ hQQ => ?_
  go_wp2_with fail
  refine hup.mono ?_
  rintro e w5 ⟨ca, cp, rfl, hcp, hcs0, hbl, hb5⟩
  clear hup
  go_wp2_with fail
  refine hQQ.out _ _ ?_
  clear hQQ QQ
  refine go_base hH.out ((.inl (.int .i64 ((m : Nat) : Int))) :: (.inl (.int .i64 ((n : Nat) : Int))) :: (.inl (.agg (ab 32 O))) :: (.inl (.agg (ab 32 R))) :: (.inl (.slice ad N c1)) :: uu :: uu :: (.inr (0, pt 0)) :: (.inr (1, pt 0)) :: uu :: (.inl (.bool false)) :: (.inl (.func (.func 57) #[] #[.pointer (some ⟨n6, 0, none⟩), .pointer (some ⟨n6 + 1, 0, none⟩)])) :: (.inr (2, pt 0)) :: (.inl (.slice ca N cp)) :: uu :: uu :: uu :: uu :: (.inl (.int .i64 ((n : Nat) : Int))) :: (.inl (.bool false)) :: (.inl (.bool false)) :: (.inl (.int .i64 ((n : Nat) : Int))) :: (.inl (.bool false)) :: (.inl (.bool false)) :: (.inl (.bool false)) :: (.inl (.int .i64 ((m : Nat) : Int))) :: (.inl (.bool false)) :: (.inl (.bool false)) :: (.inl (.bool false)) :: (.inl (.int .i64 ((m : Nat) : Int))) :: (.inl (.int .i64 ((n : Nat) : Int))) :: (.inl (.bool false)) :: (.inl (.bool false)) :: (.inl (.int .i64 ((m : Nat) : Int))) :: (.inl (.int .i64 ((n : Nat) : Int))) :: (.inl (.func (.func 57) #[] #[.pointer (some ⟨n6, 0, none⟩), .pointer (some ⟨n6 + 1, 0, none⟩)])) :: (.inl (.agg (ab 32 O))) :: (.inl (.func (.func 57) #[] #[.pointer (some ⟨n6, 0, none⟩), .pointer (some ⟨n6 + 1, 0, none⟩)])) :: (.inl (.int .i64 ((s : Nat) : Int))) :: (.inl (.bool true)) :: (.inl (.slice pa q pcap)) :: (.inl (.int .i64 ((q : Nat) : Int))) :: (.inl (.bool false)) :: (.inl (.slice pa q pcap)) :: (.inl (.pointer (some ⟨pb, po + 32 * 0, none⟩))) :: (.inl (.agg (ab 32 P0))) :: (.inl (.slice pa q pcap)) :: (.inl (.slice ad N c1)) :: (.inl (.func (.func 57) #[] #[.pointer (some ⟨n6, 0, none⟩), .pointer (some ⟨n6 + 1, 0, none⟩)])) :: (.inl (.slice ca N cp)) :: uu :: uu :: uu :: uu :: uu :: uu :: uu :: uu :: uu :: uu :: uu :: uu :: uu :: uu :: uu :: uu :: uu :: uu :: uu :: uu :: uu :: uu :: uu :: uu :: uu :: uu :: uu :: uu :: uu :: uu :: uu :: uu :: uu :: uu :: uu :: uu :: uu :: uu :: uu :: []) hb5 ?_ (by kernel_rfl)
  rintro W2b a n8 hn8 hk2b hfar h
  have hcs : ∀ v, KW W2b v → CsAt v ca cs := fun v hv => hcs0.far (n := n8) (fun p h1 h2 => by have := hbl p (by omega) h2; omega) (hfar v hv)
  have hps : ∀ v, KW W2b v → SsAt v ad ps := fun v hv => hps0 v (hk1b.kw v (hk2b.kw v hv))
  have hgl : ∀ v, KW W2b v → Gl v := fun v hv => gl_b hg (KW.below (hk1b.kw v (hk2b.kw v hv)))
  obtain ⟨cb, ec⟩ : ∃ cb, 0 < N → ca = some ⟨cb, 0, none⟩ := cs_ad (hcs _ h.bel) lc
  have hs := hsH.out
  clear hfar hcs0 hbl hcp hH hb5 hn8 hsH
  generalize ca = cav at *
  replace h := h.o0
  refine sym_then ?_
  refine sym_seq ?_
  refine sym_seq ?_
  refine St.r0 h [(50, .inl (.slice cav N cp)), (51, .inl (.int .i64 ((N : Nat) : Int))), (52, .inl (.slice ad N c1)), (53, .inl (.int .i64 ((N : Nat) : Int))), (54, .inl (.bool false))] [] ?_ ?_
  · exact oz (k_mv (.inl rfl) rfl) <|
    oz (k_ln (ad := cav) N cp rfl rfl (fun w => len_cs _ w)) <|
    oz (k_mv (.inl rfl) rfl) <|
    oz (k_ln (ad := ad) N c1 rfl rfl (fun w => len_ss _ w)) <|
    oz (k_bi (.int .i64 ((N : Nat) : Int)) (.int .i64 ((N : Nat) : Int)) (.bool false) (ne_i (m := ((N : Nat) : Int)) (n := ((N : Nat) : Int)) (decide_eq_false (by omega))) rfl rfl) <|
    ok_nil
  clear h; intro β a w h
  refine sym_then ?_
  refine s_cf h ?_
  refine wp_skip ?_
  refine sym_then ?_
  refine sym_seq ?_
  refine St.rg h [(55, .inl (.agg (ab 32 P0))), (56, .inl (.agg (ab 32 P0))), (14, .inr (3, pt 0)), (15, .inr (4, pt 0))] [(ab 32 (fun _ => 0), 34), (ab 32 (fun _ => 0), 34)] [(3, ab 32 P0), (4, ab 32 P0)] [eR 2, eR 2, eN 3, eN 4, eS 3, eS 4] ?_ ?_
  · exact oc (k_ld 2 0 (.agg (ab 32 P0)) (c := ab 32 P0) (ldS (F := P0) 34) rfl rfl) <|
    oc (k_ld 2 0 (.agg (ab 32 P0)) (c := ab 32 P0) (ldS (F := P0) 34) rfl rfl) <|
    oc (k_al 3 alS rfl rfl) <|
    oc (k_al 4 alS rfl rfl) <|
    oc (k_st 3 0 (.agg (ab 32 P0)) (c := ab 32 (fun _ => 0)) (n := ab 32 P0) (stS (F := P0) (c := ab 32 (fun _ => 0)) 34 (ab_size _ _)) rfl rfl) <|
    oc (k_st 4 0 (.agg (ab 32 P0)) (c := ab 32 (fun _ => 0)) (n := ab 32 P0) (stS (F := P0) (c := ab 32 (fun _ => 0)) 34 (ab_size _ _)) rfl rfl) <|
    ok_nil
  clear h; intro β a w h
  refine sym_then ?_
  refine sym_seq ?_
  refine sym_seq ?_
  refine St.r0 h [(57, .inl (.slice cav N cp)), (58, .inl (.int .i64 ((N : Nat) : Int))), (59, .inl (.int .i64 ((0 : Nat) : Int)))] [] ?_ ?_
  · exact oz (k_mv (.inl rfl) rfl) <|
    oz (k_ln (ad := cav) N cp rfl rfl (fun w => len_cs _ w)) <|
    oz (k_mv (.inl rfl) rfl) <|
    ok_nil
  clear h; intro β a w h
  refine sym_then ?_
  refine blk_in ?_
  replace h := St.sm h 3 (ab 32 (firstL (cs.take 0) (ps.take 0) P0)) (c := ab 32 P0) (t := 34) (by rw [List.take_zero, List.take_zero]; rfl)
  replace h := St.sm h 4 (ab 32 (comeL (cs.take 0) (ps.take 0) P0)) (c := ab 32 P0) (t := 34) (by rw [List.take_zero, List.take_zero]; rfl)
  obtain ⟨x, h⟩ := St.jn (n := 89) h [0, 1, 2, 3, 4, 7, 8, 10, 11, 12, 13, 14, 15, 57, 58, 59] [.inl (.int .i64 ((m : Nat) : Int)), .inl (.int .i64 ((n : Nat) : Int)), .inl (.agg (ab 32 O)), .inl (.agg (ab 32 R)), .inl (.slice ad N c1), .inr (0, pt 0), .inr (1, pt 0), .inl (.bool false), .inl (.func (.func 57) #[] #[.pointer (some ⟨n6, 0, none⟩), .pointer (some ⟨n6 + 1, 0, none⟩)]), .inr (2, pt 0), .inl (.slice cav N cp), .inr (3, pt 0), .inr (4, pt 0), .inl (.slice cav N cp), .inl (.int .i64 ((N : Nat) : Int)), .inl (.int .i64 ((0 : Nat) : Int))] [(ab 32 O, 34), (ab 32 R, 34), (ab 32 P0, 34), (ab 32 (firstL (cs.take 0) (ps.take 0) P0), 34), (ab 32 (comeL (cs.take 0) (ps.take 0) P0), 34)] (by kernel_rfl) (by kernel_rfl) (by kernel_rfl)
  refine loop_up N (fun k a w => ∃ (x : Nat → SV) (β : Nat → Nat), St (W2b) (ov (jk 89 x) ([0, 1, 2, 3, 4, 7, 8, 10, 11, 12, 13, 14, 15, 57, 58, 59].zip [.inl (.int .i64 ((m : Nat) : Int)), .inl (.int .i64 ((n : Nat) : Int)), .inl (.agg (ab 32 O)), .inl (.agg (ab 32 R)), .inl (.slice ad N c1), .inr (0, pt 0), .inr (1, pt 0), .inl (.bool false), .inl (.func (.func 57) #[] #[.pointer (some ⟨n6, 0, none⟩), .pointer (some ⟨n6 + 1, 0, none⟩)]), .inr (2, pt 0), .inl (.slice cav N cp), .inr (3, pt 0), .inr (4, pt 0), .inl (.slice cav N cp), .inl (.int .i64 ((N : Nat) : Int)), .inl (.int .i64 ((k : Nat) : Int))])) [(ab 32 O, 34), (ab 32 R, 34), (ab 32 P0, 34), (ab 32 (firstL (cs.take k) (ps.take k) P0), 34), (ab 32 (comeL (cs.take k) (ps.take k) P0), 34)] β a w) ⟨x, _, h⟩ ?_
  clear h; rintro k a w hkk ⟨x, β, h⟩
  rcases Nat.lt_or_ge k N with hltk | hgek
  · rcases Bool.eq_false_or_eq_true (cs.getD k default).r with hcr | hcr
    · refine sym_seq ?_
      refine St.r0 h [(60, .inl (.bool true))] [] ?_ ?_
      · exact oz (k_bi (.int .i64 ((k : Nat) : Int)) (.int .i64 ((N : Nat) : Int)) (.bool true) (lt_i (m := ((k : Nat) : Int)) (n := ((N : Nat) : Int)) (decide_eq_true (by omega))) rfl rfl) <|
        ok_nil
      clear h; intro β a w h
      refine sym_then ?_
      refine sym_seq ?_
      refine s_ct h ?_
      refine wp_skip ?_
      refine sym_then ?_
      refine sym_seq ?_
      refine blk_in ?_
      refine sym_seq ?_
      refine St.rg h [(61, .inl (.int .i64 ((k : Nat) : Int))), (62, .inl (.pointer (some ⟨cb, k * 4, none⟩))), (63, .inl (.agg (cvA (cs.getD k default)))), (17, .inr (5, pt 0)), (16, .inl (.int .i64 ((k : Nat) : Int)))] [(cvA ⟨0, 0, 0, false⟩, 73)] [(5, cvA (cs.getD k default))] [nn, nn, nn, eN 5, nn, eS 5] ?_ ?_
      · exact oc (k_mv (.inl rfl) rfl) <|
        oc (k_is (.slice cav N cp) (.int .i64 ((k : Nat) : Int)) (.pointer (some ⟨cb, k * 4, none⟩)) (fun w => ix_ct ec (i := k) (by omega) w) rfl rfl) <|
        oc (k_lf (.pointer (some ⟨cb, k * 4, none⟩)) (.agg (cvA (cs.getD k default))) (fun w hw => ld_ct (hcs w hw) ec (by omega)) rfl rfl) <|
        oc (k_al 5 alC rfl rfl) <|
        oc (k_mv (.inr rfl) rfl) <|
        oc (k_st 5 0 (.agg (cvA (cs.getD k default))) (c := cvA ⟨0, 0, 0, false⟩) (n := cvA (cs.getD k default)) (stC (c := (cs.getD k default)) (d := cvA ⟨0, 0, 0, false⟩) 73 rfl) rfl rfl) <|
        ok_nil
      clear h; intro β a w h
      refine sym_then ?_
      refine sym_seq ?_
      refine St.rg h [(64, .inl (.agg (cvA (cs.getD k default)))), (65, .inl (.agg (ab 32 (comeL (cs.take k) (ps.take k) P0)))), (66, .inl (.slice ad N c1)), (67, .inl (.int .i64 ((k : Nat) : Int))), (68, .inl (.pointer (some ⟨qb, qo + 32 * k, none⟩))), (69, .inl (.agg (ab 32 (ps.getD k fun _ => 0)))), (70, .inl (.agg (ab 32 (jn (cs.getD k default).r (comeL (cs.take k) (ps.take k) P0) (ps.getD k fun _ => 0)))))] [] [(4, ab 32 (jn (cs.getD k default).r (comeL (cs.take k) (ps.take k) P0) (ps.getD k fun _ => 0)))] [eR 5, eR 4, nn, nn, nn, nn, nn, eS 4] ?_ ?_
      · exact oc (k_ld 5 0 (.agg (cvA (cs.getD k default))) (c := cvA (cs.getD k default)) (ldC (c := (cs.getD k default)) 73) rfl rfl) <|
        oc (k_ld 4 0 (.agg (ab 32 (comeL (cs.take k) (ps.take k) P0))) (c := ab 32 (comeL (cs.take k) (ps.take k) P0)) (ldS (F := (comeL (cs.take k) (ps.take k) P0)) 34) rfl rfl) <|
        oc (k_mv (.inl rfl) rfl) <|
        oc (k_mv (.inl rfl) rfl) <|
        oc (k_is (.slice ad N c1) (.int .i64 ((k : Nat) : Int)) (.pointer (some ⟨qb, qo + 32 * k, none⟩)) (fun w => ix_st2 ea (i := k) (by omega) w) rfl rfl) <|
        oc (k_lf (.pointer (some ⟨qb, qo + 32 * k, none⟩)) (.agg (ab 32 (ps.getD k fun _ => 0))) (fun w hw => ld_st2 (hps w hw) ea (by omega)) rfl rfl) <|
        oc (k_cw 41 #[.agg (cvA (cs.getD k default)), .agg (ab 32 (comeL (cs.take k) (ps.take k) P0)), .agg (ab 32 (ps.getD k fun _ => 0))] (.agg (ab 32 (jn (cs.getD k default).r (comeL (cs.take k) (ps.take k) P0) (ps.getD k fun _ => 0)))) (fun w hw => join_d (hgl w hw) (comeL_lt hF _ _) (getD_lt hpl _)) rfl rfl) <|
        oc (k_st 4 0 (.agg (ab 32 (jn (cs.getD k default).r (comeL (cs.take k) (ps.take k) P0) (ps.getD k fun _ => 0)))) (c := ab 32 (comeL (cs.take k) (ps.take k) P0)) (n := ab 32 (jn (cs.getD k default).r (comeL (cs.take k) (ps.take k) P0) (ps.getD k fun _ => 0))) (stS (F := (jn (cs.getD k default).r (comeL (cs.take k) (ps.take k) P0) (ps.getD k fun _ => 0))) (c := ab 32 (comeL (cs.take k) (ps.take k) P0)) 34 (ab_size _ _)) rfl rfl) <|
        ok_nil
      clear h; intro β a w h
      refine sym_then ?_
      refine sym_seq ?_
      refine St.r0 h [(71, .inr (5, pt 3)), (72, .inl (.bool true))] [nn, eR 5] ?_ ?_
      · exact oc (k_fa 5 0 3 rfl rfl) <|
        oc (k_ld 5 3 (.bool true) (c := cvA (cs.getD k default)) (ldR (c := (cs.getD k default)) hcr 73) rfl rfl) <|
        ok_nil
      clear h; intro β a w h
      refine sym_then ?_
      refine s_ct h ?_
      refine St.rg h [(73, .inl (.agg (cvA (cs.getD k default)))), (74, .inl (.agg (ab 32 (firstL (cs.take k) (ps.take k) P0)))), (75, .inl (.slice ad N c1)), (76, .inl (.int .i64 ((k : Nat) : Int))), (77, .inl (.pointer (some ⟨qb, qo + 32 * k, none⟩))), (78, .inl (.agg (ab 32 (ps.getD k fun _ => 0)))), (79, .inl (.agg (ab 32 (jn (cs.getD k default).r (firstL (cs.take k) (ps.take k) P0) (ps.getD k fun _ => 0)))))] [] [(3, ab 32 (jn (cs.getD k default).r (firstL (cs.take k) (ps.take k) P0) (ps.getD k fun _ => 0)))] [eR 5, eR 3, nn, nn, nn, nn, nn, eS 3] ?_ ?_
      · exact oc (k_ld 5 0 (.agg (cvA (cs.getD k default))) (c := cvA (cs.getD k default)) (ldC (c := (cs.getD k default)) 73) rfl rfl) <|
        oc (k_ld 3 0 (.agg (ab 32 (firstL (cs.take k) (ps.take k) P0))) (c := ab 32 (firstL (cs.take k) (ps.take k) P0)) (ldS (F := (firstL (cs.take k) (ps.take k) P0)) 34) rfl rfl) <|
        oc (k_mv (.inl rfl) rfl) <|
        oc (k_mv (.inl rfl) rfl) <|
        oc (k_is (.slice ad N c1) (.int .i64 ((k : Nat) : Int)) (.pointer (some ⟨qb, qo + 32 * k, none⟩)) (fun w => ix_st2 ea (i := k) (by omega) w) rfl rfl) <|
        oc (k_lf (.pointer (some ⟨qb, qo + 32 * k, none⟩)) (.agg (ab 32 (ps.getD k fun _ => 0))) (fun w hw => ld_st2 (hps w hw) ea (by omega)) rfl rfl) <|
        oc (k_cw 41 #[.agg (cvA (cs.getD k default)), .agg (ab 32 (firstL (cs.take k) (ps.take k) P0)), .agg (ab 32 (ps.getD k fun _ => 0))] (.agg (ab 32 (jn (cs.getD k default).r (firstL (cs.take k) (ps.take k) P0) (ps.getD k fun _ => 0)))) (fun w hw => join_d (hgl w hw) (firstL_lt hF _ _) (getD_lt hpl _)) rfl rfl) <|
        oc (k_st 3 0 (.agg (ab 32 (jn (cs.getD k default).r (firstL (cs.take k) (ps.take k) P0) (ps.getD k fun _ => 0)))) (c := ab 32 (firstL (cs.take k) (ps.take k) P0)) (n := ab 32 (jn (cs.getD k default).r (firstL (cs.take k) (ps.take k) P0) (ps.getD k fun _ => 0))) (stS (F := (jn (cs.getD k default).r (firstL (cs.take k) (ps.take k) P0) (ps.getD k fun _ => 0))) (c := ab 32 (firstL (cs.take k) (ps.take k) P0)) 34 (ab_size _ _)) rfl rfl) <|
        ok_nil
      clear h; intro β a w h
      refine blk_norm ?_
      refine sym_then ?_
      refine St.r0 h [(80, .inl (.int .i64 (((k + 1) : Nat) : Int))), (59, .inl (.int .i64 (((k + 1) : Nat) : Int)))] [eO] ?_ ?_
      · exact oc (k_b0 (.int .i64 ((k : Nat) : Int)) (.int .i64 ((1 : Nat) : Int)) (.int .i64 (((k + 1) : Nat) : Int)) (ad_i (m := k) (n := 1) (by omega)) rfl rfl) <|
        oz (k_mv (.inl rfl) rfl) <|
        ok_nil
      clear h; intro β a w h
      replace h := St.sm h 3 (ab 32 (firstL (cs.take (k + 1)) (ps.take (k + 1)) P0)) (c := ab 32 (jn (cs.getD k default).r (firstL (cs.take k) (ps.take k) P0) (ps.getD k fun _ => 0))) (t := 34) (by rw [fst_t lc lp hltk hcr])
      replace h := St.sm h 4 (ab 32 (comeL (cs.take (k + 1)) (ps.take (k + 1)) P0)) (c := ab 32 (jn (cs.getD k default).r (comeL (cs.take k) (ps.take k) P0) (ps.getD k fun _ => 0))) (t := 34) (by rw [come_step lc lp hltk])
      obtain ⟨x, h⟩ := St.jd (n := 89) h [0, 1, 2, 3, 4, 7, 8, 10, 11, 12, 13, 14, 15, 57, 58, 59] [.inl (.int .i64 ((m : Nat) : Int)), .inl (.int .i64 ((n : Nat) : Int)), .inl (.agg (ab 32 O)), .inl (.agg (ab 32 R)), .inl (.slice ad N c1), .inr (0, pt 0), .inr (1, pt 0), .inl (.bool false), .inl (.func (.func 57) #[] #[.pointer (some ⟨n6, 0, none⟩), .pointer (some ⟨n6 + 1, 0, none⟩)]), .inr (2, pt 0), .inl (.slice cav N cp), .inr (3, pt 0), .inr (4, pt 0), .inl (.slice cav N cp), .inl (.int .i64 ((N : Nat) : Int)), .inl (.int .i64 (((k + 1) : Nat) : Int))] [(ab 32 O, 34), (ab 32 R, 34), (ab 32 P0, 34), (ab 32 (firstL (cs.take (k + 1)) (ps.take (k + 1)) P0), 34), (ab 32 (comeL (cs.take (k + 1)) (ps.take (k + 1)) P0), 34)] (by kernel_rfl) (by kernel_rfl) (by kernel_rfl) (by kernel_rfl) (fun _ _ h => by rw [hk2b.pn, hk1b.pn] at h; cases h)
      exact ⟨hltk, x, _, h⟩
    · refine sym_seq ?_
      refine St.r0 h [(60, .inl (.bool true))] [] ?_ ?_
      · exact oz (k_bi (.int .i64 ((k : Nat) : Int)) (.int .i64 ((N : Nat) : Int)) (.bool true) (lt_i (m := ((k : Nat) : Int)) (n := ((N : Nat) : Int)) (decide_eq_true (by omega))) rfl rfl) <|
        ok_nil
      clear h; intro β a w h
      refine sym_then ?_
      refine sym_seq ?_
      refine s_ct h ?_
      refine wp_skip ?_
      refine sym_then ?_
      refine sym_seq ?_
      refine blk_in ?_
      refine sym_seq ?_
      refine St.rg h [(61, .inl (.int .i64 ((k : Nat) : Int))), (62, .inl (.pointer (some ⟨cb, k * 4, none⟩))), (63, .inl (.agg (cvA (cs.getD k default)))), (17, .inr (5, pt 0)), (16, .inl (.int .i64 ((k : Nat) : Int)))] [(cvA ⟨0, 0, 0, false⟩, 73)] [(5, cvA (cs.getD k default))] [nn, nn, nn, eN 5, nn, eS 5] ?_ ?_
      · exact oc (k_mv (.inl rfl) rfl) <|
        oc (k_is (.slice cav N cp) (.int .i64 ((k : Nat) : Int)) (.pointer (some ⟨cb, k * 4, none⟩)) (fun w => ix_ct ec (i := k) (by omega) w) rfl rfl) <|
        oc (k_lf (.pointer (some ⟨cb, k * 4, none⟩)) (.agg (cvA (cs.getD k default))) (fun w hw => ld_ct (hcs w hw) ec (by omega)) rfl rfl) <|
        oc (k_al 5 alC rfl rfl) <|
        oc (k_mv (.inr rfl) rfl) <|
        oc (k_st 5 0 (.agg (cvA (cs.getD k default))) (c := cvA ⟨0, 0, 0, false⟩) (n := cvA (cs.getD k default)) (stC (c := (cs.getD k default)) (d := cvA ⟨0, 0, 0, false⟩) 73 rfl) rfl rfl) <|
        ok_nil
      clear h; intro β a w h
      refine sym_then ?_
      refine sym_seq ?_
      refine St.rg h [(64, .inl (.agg (cvA (cs.getD k default)))), (65, .inl (.agg (ab 32 (comeL (cs.take k) (ps.take k) P0)))), (66, .inl (.slice ad N c1)), (67, .inl (.int .i64 ((k : Nat) : Int))), (68, .inl (.pointer (some ⟨qb, qo + 32 * k, none⟩))), (69, .inl (.agg (ab 32 (ps.getD k fun _ => 0)))), (70, .inl (.agg (ab 32 (jn (cs.getD k default).r (comeL (cs.take k) (ps.take k) P0) (ps.getD k fun _ => 0)))))] [] [(4, ab 32 (jn (cs.getD k default).r (comeL (cs.take k) (ps.take k) P0) (ps.getD k fun _ => 0)))] [eR 5, eR 4, nn, nn, nn, nn, nn, eS 4] ?_ ?_
      · exact oc (k_ld 5 0 (.agg (cvA (cs.getD k default))) (c := cvA (cs.getD k default)) (ldC (c := (cs.getD k default)) 73) rfl rfl) <|
        oc (k_ld 4 0 (.agg (ab 32 (comeL (cs.take k) (ps.take k) P0))) (c := ab 32 (comeL (cs.take k) (ps.take k) P0)) (ldS (F := (comeL (cs.take k) (ps.take k) P0)) 34) rfl rfl) <|
        oc (k_mv (.inl rfl) rfl) <|
        oc (k_mv (.inl rfl) rfl) <|
        oc (k_is (.slice ad N c1) (.int .i64 ((k : Nat) : Int)) (.pointer (some ⟨qb, qo + 32 * k, none⟩)) (fun w => ix_st2 ea (i := k) (by omega) w) rfl rfl) <|
        oc (k_lf (.pointer (some ⟨qb, qo + 32 * k, none⟩)) (.agg (ab 32 (ps.getD k fun _ => 0))) (fun w hw => ld_st2 (hps w hw) ea (by omega)) rfl rfl) <|
        oc (k_cw 41 #[.agg (cvA (cs.getD k default)), .agg (ab 32 (comeL (cs.take k) (ps.take k) P0)), .agg (ab 32 (ps.getD k fun _ => 0))] (.agg (ab 32 (jn (cs.getD k default).r (comeL (cs.take k) (ps.take k) P0) (ps.getD k fun _ => 0)))) (fun w hw => join_d (hgl w hw) (comeL_lt hF _ _) (getD_lt hpl _)) rfl rfl) <|
        oc (k_st 4 0 (.agg (ab 32 (jn (cs.getD k default).r (comeL (cs.take k) (ps.take k) P0) (ps.getD k fun _ => 0)))) (c := ab 32 (comeL (cs.take k) (ps.take k) P0)) (n := ab 32 (jn (cs.getD k default).r (comeL (cs.take k) (ps.take k) P0) (ps.getD k fun _ => 0))) (stS (F := (jn (cs.getD k default).r (comeL (cs.take k) (ps.take k) P0) (ps.getD k fun _ => 0))) (c := ab 32 (comeL (cs.take k) (ps.take k) P0)) 34 (ab_size _ _)) rfl rfl) <|
        ok_nil
      clear h; intro β a w h
      refine sym_then ?_
      refine sym_seq ?_
      refine St.r0 h [(71, .inr (5, pt 3)), (72, .inl (.bool false))] [nn, eR 5] ?_ ?_
      · exact oc (k_fa 5 0 3 rfl rfl) <|
        oc (k_ld 5 3 (.bool false) (c := cvA (cs.getD k default)) (ldR (c := (cs.getD k default)) hcr 73) rfl rfl) <|
        ok_nil
      clear h; intro β a w h
      refine sym_then ?_
      refine s_cf h ?_
      refine wp_skip ?_
      refine blk_norm ?_
      refine sym_then ?_
      refine St.r0 h [(80, .inl (.int .i64 (((k + 1) : Nat) : Int))), (59, .inl (.int .i64 (((k + 1) : Nat) : Int)))] [eO] ?_ ?_
      · exact oc (k_b0 (.int .i64 ((k : Nat) : Int)) (.int .i64 ((1 : Nat) : Int)) (.int .i64 (((k + 1) : Nat) : Int)) (ad_i (m := k) (n := 1) (by omega)) rfl rfl) <|
        oz (k_mv (.inl rfl) rfl) <|
        ok_nil
      clear h; intro β a w h
      replace h := St.sm h 3 (ab 32 (firstL (cs.take (k + 1)) (ps.take (k + 1)) P0)) (c := ab 32 (firstL (cs.take k) (ps.take k) P0)) (t := 34) (by rw [← fst_f lc lp hltk hcr])
      replace h := St.sm h 4 (ab 32 (comeL (cs.take (k + 1)) (ps.take (k + 1)) P0)) (c := ab 32 (jn (cs.getD k default).r (comeL (cs.take k) (ps.take k) P0) (ps.getD k fun _ => 0))) (t := 34) (by rw [come_step lc lp hltk])
      obtain ⟨x, h⟩ := St.jd (n := 89) h [0, 1, 2, 3, 4, 7, 8, 10, 11, 12, 13, 14, 15, 57, 58, 59] [.inl (.int .i64 ((m : Nat) : Int)), .inl (.int .i64 ((n : Nat) : Int)), .inl (.agg (ab 32 O)), .inl (.agg (ab 32 R)), .inl (.slice ad N c1), .inr (0, pt 0), .inr (1, pt 0), .inl (.bool false), .inl (.func (.func 57) #[] #[.pointer (some ⟨n6, 0, none⟩), .pointer (some ⟨n6 + 1, 0, none⟩)]), .inr (2, pt 0), .inl (.slice cav N cp), .inr (3, pt 0), .inr (4, pt 0), .inl (.slice cav N cp), .inl (.int .i64 ((N : Nat) : Int)), .inl (.int .i64 (((k + 1) : Nat) : Int))] [(ab 32 O, 34), (ab 32 R, 34), (ab 32 P0, 34), (ab 32 (firstL (cs.take (k + 1)) (ps.take (k + 1)) P0), 34), (ab 32 (comeL (cs.take (k + 1)) (ps.take (k + 1)) P0), 34)] (by kernel_rfl) (by kernel_rfl) (by kernel_rfl) (by kernel_rfl) (fun _ _ h => by rw [hk2b.pn, hk1b.pn] at h; cases h)
      exact ⟨hltk, x, _, h⟩
  · obtain rfl : N = k := by omega
    refine sym_seq ?_
    refine St.r0 h [(60, .inl (.bool false))] [] ?_ ?_
    · exact oz (k_bi (.int .i64 ((N : Nat) : Int)) (.int .i64 ((N : Nat) : Int)) (.bool false) (lt_i (m := ((N : Nat) : Int)) (n := ((N : Nat) : Int)) (decide_eq_false (by omega))) rfl rfl) <|
      ok_nil
    clear h; intro β a w h
    refine sym_then ?_
    refine sym_seq ?_
    refine s_cf h ?_
    refine wp_exit ?_
    refine then_exit ?_
    refine then_exit ?_
    refine blk_exit ?_
    refine sym_then ?_
    refine sym_seq ?_
    refine St.r0 h [(81, .inl (.agg (ab 32 (firstL (cs.take N) (ps.take N) P0)))), (82, .inl (.agg (ab 32 O))), (83, .inl (.bool true)), (84, .inl (.bool true)), (85, .inl (.agg (ab 32 (comeL (cs.take N) (ps.take N) P0)))), (86, .inl (.agg (ab 32 R))), (87, .inl (.bool true)), (88, .inl (.bool true)), (10, .inl (.bool true))] [eR 3, eR 0, nn, nn, eR 4, eR 1] ?_ ?_
    · exact oc (k_ld 3 0 (.agg (ab 32 (firstL (cs.take N) (ps.take N) P0))) (c := ab 32 (firstL (cs.take N) (ps.take N) P0)) (ldS (F := (firstL (cs.take N) (ps.take N) P0)) 34) rfl rfl) <|
      oc (k_ld 0 0 (.agg (ab 32 O)) (c := ab 32 O) (ldS (F := O) 34) rfl rfl) <|
      oc (k_bi (.agg (ab 32 (firstL (cs.take N) (ps.take N) P0))) (.agg (ab 32 O)) (.bool true) (eqS_v hb1) rfl rfl) <|
      oc (k_mv (.inl rfl) rfl) <|
      oc (k_ld 4 0 (.agg (ab 32 (comeL (cs.take N) (ps.take N) P0))) (c := ab 32 (comeL (cs.take N) (ps.take N) P0)) (ldS (F := (comeL (cs.take N) (ps.take N) P0)) 34) rfl rfl) <|
      oc (k_ld 1 0 (.agg (ab 32 R)) (c := ab 32 R) (ldS (F := R) 34) rfl rfl) <|
      oz (k_bi (.agg (ab 32 (comeL (cs.take N) (ps.take N) P0))) (.agg (ab 32 R)) (.bool true) (eqS_v hb2) rfl rfl) <|
      oz (k_pt rfl rfl) <|
      oz (k_mv (.inr rfl) rfl) <|
      ok_nil
    clear h; intro β a w h
    refine sym_then ?_
    refine wp_ret ?_
    replace h := h.unb hk2b
    replace h := h.unb hk1b
    exact s_rt h Tryd.results14 (fun hb => ⟨rfl, hb⟩)
set_option maxHeartbeats 8000000 in
set_option maxRecDepth 100000 in
theorem ext1_tf {m n N c1 s q pcap pb po qb qo : Nat} {pa ad : Option Addr} {cs : List Cu} {ps : List (Nat → Nat)} {O R P0 : Nat → Nat} {W0 : World} (hg : Gl W0) (hm1 : 1 ≤ m) (hmn : m ≤ n) (hn : n ≤ 1048576) (hF : ∀ i, P0 i < 256) (hpl : ∀ P ∈ ps, ∀ j, P j < 256) (lc : cs.length = N) (lp : ps.length = N) (hN : N ≤ 1048576) (hs : s ≠ 0) (ea0 : 0 < q → pa = some ⟨pb, po, none⟩) (hq : 1 ≤ q) (hld0 : ∀ w, KW (wd W0) w → (Instr.loadAt 34 (.pointer (some ⟨pb, po + 32 * 0, none⟩))).run Tryd.prog w = .ok (.agg (ab 32 P0)) w) (hsl : ∀ w, (Instr.sliceAt 22 (.slice pa q pcap) (some (.int .i64 ((1 : Nat) : Int))) none none).run Tryd.prog w = .ok (.slice ad N c1) w) (ea : 0 < N → ad = some ⟨qb, qo, none⟩) (hps0 : ∀ w, KW (wd W0) w → SsAt w ad ps) (hst : ∀ g w, Bx w g 3 (.int .i64 ((m : Nat) : Int)) → Bx w (g + 1) 3 (.int .i64 ((n : Nat) : Int)) → Calls Tryd.prog 35 #[.func (.func 57) #[] #[.pointer (some ⟨g, 0, none⟩), .pointer (some ⟨g + 1, 0, none⟩)]] w fun e w' => e = .returned (.int .i64 ((s : Nat) : Int)) ∧ Below w.heap.size w w') (hup0 : ∀ g w, Bx w g 3 (.int .i64 ((m : Nat) : Int)) → Bx w (g + 1) 3 (.int .i64 ((n : Nat) : Int)) → Calls Tryd.prog 40 #[.func (.func 57) #[] #[.pointer (some ⟨g, 0, none⟩), .pointer (some ⟨g + 1, 0, none⟩)]] w fun e W' => ∃ a cap, e = .returned (.slice a N cap) ∧ N ≤ cap ∧ CsAt W' a cs ∧ (∀ p, 0 < N → a = some p → w.heap.size ≤ p.block) ∧ Below w.heap.size w W') (hb1 : eqD (firstL (cs.take N) (ps.take N) P0) O = true) (hb2 : eqD (comeL (cs.take N) (ps.take N) P0) R = false) :
    Calls Tryd.prog 14 #[.int .i64 ((m : Nat) : Int), .int .i64 ((n : Nat) : Int), .agg (ab 32 O), .agg (ab 32 R), .slice pa q pcap] W0 fun e w' => e = .returned (.bool false) ∧ Below W0.heap.size W0 w' := by
  refine s_in Tryd.func14 Tryd.ntmps14 rfl [.inl (.int .i64 ((m : Nat) : Int)), .inl (.int .i64 ((n : Nat) : Int)), .inl (.agg (ab 32 O)), .inl (.agg (ab 32 R)), .inl (.slice pa q pcap)] ?_
  intro β a h
  refine sym_seq ?_
  refine St.rg h [(7, .inr (0, pt 0)), (8, .inr (1, pt 0)), (10, .inl (.bool false))] [(ab 32 O, 34), (ab 32 R, 34)] [] [eN 0, eN 1] ?_ ?_
  · exact oc (k_bx 0 (.agg (ab 32 O)) (bx_agg (P := Tryd.prog)) rfl rfl) <|
    oc (k_bx 1 (.agg (ab 32 R)) (bx_agg (P := Tryd.prog)) rfl rfl) <|
    oz (k_mv (.inr rfl) rfl) <|
    ok_nil
  clear h; intro β a w h
  refine sym_then ?_
  refine sym_seq ?_
  refine sym_seq ?_
  refine St.r0 h [(18, .inl (.int .i64 ((n : Nat) : Int))), (19, .inl (.bool false)), (20, .inl (.bool false)), (21, .inl (.int .i64 ((n : Nat) : Int))), (22, .inl (.bool false)), (23, .inl (.bool false)), (24, .inl (.bool false)), (25, .inl (.int .i64 ((m : Nat) : Int))), (26, .inl (.bool false)), (27, .inl (.bool false)), (28, .inl (.bool false)), (29, .inl (.int .i64 ((m : Nat) : Int))), (30, .inl (.int .i64 ((n : Nat) : Int))), (31, .inl (.bool false)), (32, .inl (.bool false))] [] ?_ ?_
  · exact oz (k_mv (.inl rfl) rfl) <|
    oz (k_bi (.int .i64 ((n : Nat) : Int)) (.int .i64 ((1 : Nat) : Int)) (.bool false) (lt_i (m := ((n : Nat) : Int)) (n := ((1 : Nat) : Int)) (decide_eq_false (by omega))) rfl rfl) <|
    oz (k_mv (.inl rfl) rfl) <|
    oz (k_mv (.inl rfl) rfl) <|
    oz (k_bi (.int .i64 ((n : Nat) : Int)) (.int .i64 ((1048576 : Nat) : Int)) (.bool false) (gt_i (m := ((n : Nat) : Int)) (n := ((1048576 : Nat) : Int)) (decide_eq_false (by omega))) rfl rfl) <|
    oz (k_pf rfl rfl) <|
    oz (k_mv (.inl rfl) rfl) <|
    oz (k_mv (.inl rfl) rfl) <|
    oz (k_bi (.int .i64 ((m : Nat) : Int)) (.int .i64 ((1 : Nat) : Int)) (.bool false) (lt_i (m := ((m : Nat) : Int)) (n := ((1 : Nat) : Int)) (decide_eq_false (by omega))) rfl rfl) <|
    oz (k_pf rfl rfl) <|
    oz (k_mv (.inl rfl) rfl) <|
    oz (k_mv (.inl rfl) rfl) <|
    oz (k_mv (.inl rfl) rfl) <|
    oz (k_bi (.int .i64 ((m : Nat) : Int)) (.int .i64 ((n : Nat) : Int)) (.bool false) (gt_i (m := ((m : Nat) : Int)) (n := ((n : Nat) : Int)) (decide_eq_false (by omega))) rfl rfl) <|
    oz (k_pf rfl rfl) <|
    ok_nil
  clear h; intro β a w h
  refine sym_then ?_
  refine s_cf h ?_
  refine wp_skip ?_
  refine sym_then ?_
  refine sym_seq ?_
  replace h := St.cs h (s' := [.inl (.int .i64 ((m : Nat) : Int)), .inl (.int .i64 ((n : Nat) : Int)), .inl (.agg (ab 32 O)), .inl (.agg (ab 32 R)), .inl (.slice pa q pcap), uu, uu, .inr (0, pt 0), .inr (1, pt 0), uu, .inl (.bool false), uu, uu, uu, uu, uu, uu, uu, .inl (.int .i64 ((n : Nat) : Int)), .inl (.bool false), .inl (.bool false), .inl (.int .i64 ((n : Nat) : Int)), .inl (.bool false), .inl (.bool false), .inl (.bool false), .inl (.int .i64 ((m : Nat) : Int)), .inl (.bool false), .inl (.bool false), .inl (.bool false), .inl (.int .i64 ((m : Nat) : Int)), .inl (.int .i64 ((n : Nat) : Int)), .inl (.bool false), .inl (.bool false), uu, uu, uu, uu, uu, uu, uu, uu, uu, uu, uu, uu, uu, uu, uu, uu, uu, uu, uu, uu, uu, uu, uu, uu, uu, uu, uu, uu, uu, uu, uu, uu, uu, uu, uu, uu, uu, uu, uu, uu, uu, uu, uu, uu, uu, uu, uu, uu, uu, uu, uu, uu, uu, uu, uu, uu]) (m' := [(ab 32 O, 34), (ab 32 R, 34)]) (by kernel_rfl) (by kernel_rfl)
  obtain rfl : a = { tmps := (.int .i64 ((m : Nat) : Int) :: .int .i64 ((n : Nat) : Int) :: .agg (ab 32 O) :: .agg (ab 32 R) :: .slice pa q pcap :: undef :: undef :: fv (pt 0) (β 0) :: fv (pt 0) (β 1) :: undef :: .bool false :: undef :: undef :: undef :: undef :: undef :: undef :: undef :: .int .i64 ((n : Nat) : Int) :: .bool false :: .bool false :: .int .i64 ((n : Nat) : Int) :: .bool false :: .bool false :: .bool false :: .int .i64 ((m : Nat) : Int) :: .bool false :: .bool false :: .bool false :: .int .i64 ((m : Nat) : Int) :: .int .i64 ((n : Nat) : Int) :: .bool false :: .bool false :: undef :: undef :: undef :: undef :: undef :: undef :: undef :: undef :: undef :: undef :: undef :: undef :: undef :: undef :: undef :: undef :: undef :: undef :: undef :: undef :: undef :: undef :: undef :: undef :: undef :: undef :: undef :: undef :: undef :: undef :: undef :: undef :: undef :: undef :: undef :: undef :: undef :: undef :: undef :: undef :: undef :: undef :: undef :: undef :: undef :: undef :: undef :: undef :: undef :: undef :: undef :: undef :: undef :: undef :: undef :: undef :: []).toArray, defers := [] } := h.tm.trans (by kernel_rfl)
  obtain ⟨q1, q2, q3, q4⟩ := cuts_two (w := w) m n
  have hH := hide1 h
  have hz := q3.size
  clear h
  refine reg_gen fun QQ hQQ => ?_
  go_wp2_with fail
  refine (ahead_d _ _ _).mono ?_
  rintro e w' ⟨rfl, rfl⟩
  go_wp2_with fail
  refine hQQ.out _ _ ?_
  clear hQQ QQ
  refine go_base hH.out ((.inl (.int .i64 ((m : Nat) : Int))) :: (.inl (.int .i64 ((n : Nat) : Int))) :: (.inl (.agg (ab 32 O))) :: (.inl (.agg (ab 32 R))) :: (.inl (.slice pa q pcap)) :: uu :: uu :: (.inr (0, pt 0)) :: (.inr (1, pt 0)) :: uu :: (.inl (.bool false)) :: (.inl (.func (.func 57) #[] #[.pointer (some ⟨w.heap.size, 0, none⟩), .pointer (some ⟨w.heap.size + 1, 0, none⟩)])) :: uu :: uu :: uu :: uu :: uu :: uu :: (.inl (.int .i64 ((n : Nat) : Int))) :: (.inl (.bool false)) :: (.inl (.bool false)) :: (.inl (.int .i64 ((n : Nat) : Int))) :: (.inl (.bool false)) :: (.inl (.bool false)) :: (.inl (.bool false)) :: (.inl (.int .i64 ((m : Nat) : Int))) :: (.inl (.bool false)) :: (.inl (.bool false)) :: (.inl (.bool false)) :: (.inl (.int .i64 ((m : Nat) : Int))) :: (.inl (.int .i64 ((n : Nat) : Int))) :: (.inl (.bool false)) :: (.inl (.bool false)) :: (.inl (.int .i64 ((m : Nat) : Int))) :: (.inl (.int .i64 ((n : Nat) : Int))) :: (.inl (.func (.func 57) #[] #[.pointer (some ⟨w.heap.size, 0, none⟩), .pointer (some ⟨w.heap.size + 1, 0, none⟩)])) :: uu :: uu :: uu :: uu :: uu :: uu :: uu :: uu :: uu :: uu :: uu :: uu :: uu :: uu :: uu :: uu :: uu :: uu :: uu :: uu :: uu :: uu :: uu :: uu :: uu :: uu :: uu :: uu :: uu :: uu :: uu :: uu :: uu :: uu :: uu :: uu :: uu :: uu :: uu :: uu :: uu :: uu :: uu :: uu :: uu :: uu :: uu :: uu :: uu :: uu :: uu :: uu :: uu :: []) q3 ?_ (by kernel_rfl)
  rintro W1b a n5 hn5 hk1b hfar h
  have hsq : ∀ v, KW W1b v → Bx v w.heap.size 3 (.int .i64 ((m : Nat) : Int)) ∧ Bx v (w.heap.size + 1) 3 (.int .i64 ((n : Nat) : Int)) := fun v hv => ⟨(hfar v hv w.heap.size (by omega) (by omega)).trans q1, (hfar v hv (w.heap.size + 1) (by omega) (by omega)).trans q2⟩
  clear hH q1 q2 q3 q4 hz hfar hn5
  generalize w.heap.size = n6 at *
  replace h := h.o0
  refine sym_then ?_
  refine sym_seq ?_
  refine St.rg h [(36, .inl (.agg (ab 32 O))), (12, .inr (2, pt 0))] [(ab 32 (fun _ => 0), 34)] [(2, ab 32 O)] [eR 0, eN 2, eS 2] ?_ ?_
  · exact oc (k_ld 0 0 (.agg (ab 32 O)) (c := ab 32 O) (ldS (F := O) 34) rfl rfl) <|
    oc (k_al 2 alS rfl rfl) <|
    oc (k_st 2 0 (.agg (ab 32 O)) (c := ab 32 (fun _ => 0)) (n := ab 32 O) (stS (F := O) (c := ab 32 (fun _ => 0)) 34 (ab_size _ _)) rfl rfl) <|
    ok_nil
  clear h; intro β a w h
  refine sym_then ?_
  refine sym_seq ?_
  refine sym_seq ?_
  refine St.r0 h [(37, .inl (.func (.func 57) #[] #[.pointer (some ⟨n6, 0, none⟩), .pointer (some ⟨n6 + 1, 0, none⟩)])), (38, .inl (.int .i64 ((s : Nat) : Int))), (39, .inl (.bool true))] [] ?_ ?_
  · exact oz (k_mv (.inl rfl) rfl) <|
    oz (k_cw 35 #[.func (.func 57) #[] #[.pointer (some ⟨n6, 0, none⟩), .pointer (some ⟨n6 + 1, 0, none⟩)]] (.int .i64 ((s : Nat) : Int)) (fun w hw => hst n6 w (hsq w hw).1 (hsq w hw).2) rfl rfl) <|
    oz (k_bi (.int .i64 ((s : Nat) : Int)) (.int .i64 ((0 : Nat) : Int)) (.bool true) (gt_i (m := ((s : Nat) : Int)) (n := ((0 : Nat) : Int)) (decide_eq_true (by omega))) rfl rfl) <|
    ok_nil
  clear h; intro β a w h
  refine sym_then ?_
  refine s_ct h ?_
  refine sym_seq ?_
  refine sym_seq ?_
  refine St.r0 h [(40, .inl (.slice pa q pcap)), (41, .inl (.int .i64 ((q : Nat) : Int))), (42, .inl (.bool false))] [] ?_ ?_
  · exact oz (k_mv (.inl rfl) rfl) <|
    oz (k_ln (ad := pa) q pcap rfl rfl (fun w => len_ss _ w)) <|
    oz (k_bi (.int .i64 ((q : Nat) : Int)) (.int .i64 ((0 : Nat) : Int)) (.bool false) (eq_i (m := ((q : Nat) : Int)) (n := ((0 : Nat) : Int)) (decide_eq_false (by omega))) rfl rfl) <|
    ok_nil
  clear h; intro β a w h
  refine sym_then ?_
  refine s_cf h ?_
  refine wp_skip ?_
  refine sym_then ?_
  refine St.rg h [(43, .inl (.slice pa q pcap)), (44, .inl (.pointer (some ⟨pb, po + 32 * 0, none⟩))), (45, .inl (.agg (ab 32 P0))), (46, .inl (.slice pa q pcap)), (47, .inl (.slice ad N c1)), (4, .inl (.slice ad N c1))] [] [(2, ab 32 P0)] [eO, nn, nn, eO, nn, eS 2] ?_ ?_
  · exact oc (k_m0 rfl rfl) <|
    oc (k_is (.slice pa q pcap) (.int .i64 ((0 : Nat) : Int)) (.pointer (some ⟨pb, po + 32 * 0, none⟩)) (fun w => ix_st2 ea0 (i := 0) (by omega) w) rfl rfl) <|
    oc (k_lf (.pointer (some ⟨pb, po + 32 * 0, none⟩)) (.agg (ab 32 P0)) (fun w hw => hld0 w (hk1b.kw w hw)) rfl rfl) <|
    oc (k_m0 rfl rfl) <|
    oc (k_sw (.slice pa q pcap) (.slice ad N c1) (some (.int .i64 ((1 : Nat) : Int))) none hsl rfl rfl) <|
    oc (k_st 2 0 (.agg (ab 32 P0)) (c := ab 32 O) (n := ab 32 P0) (stS (F := P0) (c := ab 32 O) 34 (ab_size _ _)) rfl rfl) <|
    oz (k_mv (.inr rfl) rfl) <|
    ok_nil
  clear h; intro β a w h
  refine sym_then ?_
  refine sym_seq ?_
  replace h := St.cs h (s' := [.inl (.int .i64 ((m : Nat) : Int)), .inl (.int .i64 ((n : Nat) : Int)), .inl (.agg (ab 32 O)), .inl (.agg (ab 32 R)), .inl (.slice ad N c1), uu, uu, .inr (0, pt 0), .inr (1, pt 0), uu, .inl (.bool false), .inl (.func (.func 57) #[] #[.pointer (some ⟨n6, 0, none⟩), .pointer (some ⟨n6 + 1, 0, none⟩)]), .inr (2, pt 0), uu, uu, uu, uu, uu, .inl (.int .i64 ((n : Nat) : Int)), .inl (.bool false), .inl (.bool false), .inl (.int .i64 ((n : Nat) : Int)), .inl (.bool false), .inl (.bool false), .inl (.bool false), .inl (.int .i64 ((m : Nat) : Int)), .inl (.bool false), .inl (.bool false), .inl (.bool false), .inl (.int .i64 ((m : Nat) : Int)), .inl (.int .i64 ((n : Nat) : Int)), .inl (.bool false), .inl (.bool false), .inl (.int .i64 ((m : Nat) : Int)), .inl (.int .i64 ((n : Nat) : Int)), .inl (.func (.func 57) #[] #[.pointer (some ⟨n6, 0, none⟩), .pointer (some ⟨n6 + 1, 0, none⟩)]), .inl (.agg (ab 32 O)), .inl (.func (.func 57) #[] #[.pointer (some ⟨n6, 0, none⟩), .pointer (some ⟨n6 + 1, 0, none⟩)]), .inl (.int .i64 ((s : Nat) : Int)), .inl (.bool true), .inl (.slice pa q pcap), .inl (.int .i64 ((q : Nat) : Int)), .inl (.bool false), .inl (.slice pa q pcap), .inl (.pointer (some ⟨pb, po + 32 * 0, none⟩)), .inl (.agg (ab 32 P0)), .inl (.slice pa q pcap), .inl (.slice ad N c1), uu, uu, uu, uu, uu, uu, uu, uu, uu, uu, uu, uu, uu, uu, uu, uu, uu, uu, uu, uu, uu, uu, uu, uu, uu, uu, uu, uu, uu, uu, uu, uu, uu, uu, uu, uu, uu, uu, uu, uu, uu]) (m' := [(ab 32 O, 34), (ab 32 R, 34), (ab 32 P0, 34)]) (by kernel_rfl) (by kernel_rfl)
  obtain rfl : a = { tmps := (.int .i64 ((m : Nat) : Int) :: .int .i64 ((n : Nat) : Int) :: .agg (ab 32 O) :: .agg (ab 32 R) :: .slice ad N c1 :: undef :: undef :: fv (pt 0) (β 0) :: fv (pt 0) (β 1) :: undef :: .bool false :: .func (.func 57) #[] #[.pointer (some ⟨n6, 0, none⟩), .pointer (some ⟨n6 + 1, 0, none⟩)] :: fv (pt 0) (β 2) :: undef :: undef :: undef :: undef :: undef :: .int .i64 ((n : Nat) : Int) :: .bool false :: .bool false :: .int .i64 ((n : Nat) : Int) :: .bool false :: .bool false :: .bool false :: .int .i64 ((m : Nat) : Int) :: .bool false :: .bool false :: .bool false :: .int .i64 ((m : Nat) : Int) :: .int .i64 ((n : Nat) : Int) :: .bool false :: .bool false :: .int .i64 ((m : Nat) : Int) :: .int .i64 ((n : Nat) : Int) :: .func (.func 57) #[] #[.pointer (some ⟨n6, 0, none⟩), .pointer (some ⟨n6 + 1, 0, none⟩)] :: .agg (ab 32 O) :: .func (.func 57) #[] #[.pointer (some ⟨n6, 0, none⟩), .pointer (some ⟨n6 + 1, 0, none⟩)] :: .int .i64 ((s : Nat) : Int) :: .bool true :: .slice pa q pcap :: .int .i64 ((q : Nat) : Int) :: .bool false :: .slice pa q pcap :: .pointer (some ⟨pb, po + 32 * 0, none⟩) :: .agg (ab 32 P0) :: .slice pa q pcap :: .slice ad N c1 :: undef :: undef :: undef :: undef :: undef :: undef :: undef :: undef :: undef :: undef :: undef :: undef :: undef :: undef :: undef :: undef :: undef :: undef :: undef :: undef :: undef :: undef :: undef :: undef :: undef :: undef :: undef :: undef :: undef :: undef :: undef :: undef :: undef :: undef :: undef :: undef :: undef :: undef :: undef :: undef :: undef :: []).toArray, defers := [] } := h.tm.trans (by kernel_rfl)
  have hup := hup0 n6 w (hsq w h.bel).1 (hsq w h.bel).2
  have hH := hide1 h
  have hsH := hide1 hs
  clear h hs
  refine reg_gen fun QQ hQQ => ?_
  go_wp2_with fail
  refine hup.mono ?_
  rintro e w5 ⟨ca, cp, rfl, hcp, hcs0, hbl, hb5⟩
  clear hup
  go_wp2_with fail
  refine hQQ.out _ _ ?_
  clear hQQ QQ
  refine go_base hH.out ((.inl (.int .i64 ((m : Nat) : Int))) :: (.inl (.int .i64 ((n : Nat) : Int))) :: (.inl (.agg (ab 32 O))) :: (.inl (.agg (ab 32 R))) :: (.inl (.slice ad N c1)) :: uu :: uu :: (.inr (0, pt 0)) :: (.inr (1, pt 0)) :: uu :: (.inl (.bool false)) :: (.inl (.func (.func 57) #[] #[.pointer (some ⟨n6, 0, none⟩), .pointer (some ⟨n6 + 1, 0, none⟩)])) :: (.inr (2, pt 0)) :: (.inl (.slice ca N cp)) :: uu :: uu :: uu :: uu :: (.inl (.int .i64 ((n : Nat) : Int))) :: (.inl (.bool false)) :: (.inl (.bool false)) :: (.inl (.int .i64 ((n : Nat) : Int))) :: (.inl (.bool false)) :: (.inl (.bool false)) :: (.inl (.bool false)) :: (.inl (.int .i64 ((m : Nat) : Int))) :: (.inl (.bool false)) :: (.inl (.bool false)) :: (.inl (.bool false)) :: (.inl (.int .i64 ((m : Nat) : Int))) :: (.inl (.int .i64 ((n : Nat) : Int))) :: (.inl (.bool false)) :: (.inl (.bool false)) :: (.inl (.int .i64 ((m : Nat) : Int))) :: (.inl (.int .i64 ((n : Nat) : Int))) :: (.inl (.func (.func 57) #[] #[.pointer (some ⟨n6, 0, none⟩), .pointer (some ⟨n6 + 1, 0, none⟩)])) :: (.inl (.agg (ab 32 O))) :: (.inl (.func (.func 57) #[] #[.pointer (some ⟨n6, 0, none⟩), .pointer (some ⟨n6 + 1, 0, none⟩)])) :: (.inl (.int .i64 ((s : Nat) : Int))) :: (.inl (.bool true)) :: (.inl (.slice pa q pcap)) :: (.inl (.int .i64 ((q : Nat) : Int))) :: (.inl (.bool false)) :: (.inl (.slice pa q pcap)) :: (.inl (.pointer (some ⟨pb, po + 32 * 0, none⟩))) :: (.inl (.agg (ab 32 P0))) :: (.inl (.slice pa q pcap)) :: (.inl (.slice ad N c1)) :: (.inl (.func (.func 57) #[] #[.pointer (some ⟨n6, 0, none⟩), .pointer (some ⟨n6 + 1, 0, none⟩)])) :: (.inl (.slice ca N cp)) :: uu :: uu :: uu :: uu :: uu :: uu :: uu :: uu :: uu :: uu :: uu :: uu :: uu :: uu :: uu :: uu :: uu :: uu :: uu :: uu :: uu :: uu :: uu :: uu :: uu :: uu :: uu :: uu :: uu :: uu :: uu :: uu :: uu :: uu :: uu :: uu :: uu :: uu :: uu :: []) hb5 ?_ (by kernel_rfl)
  rintro W2b a n8 hn8 hk2b hfar h
  have hcs : ∀ v, KW W2b v → CsAt v ca cs := fun v hv => hcs0.far (n := n8) (fun p h1 h2 => by have := hbl p (by omega) h2; omega) (hfar v hv)
  have hps : ∀ v, KW W2b v → SsAt v ad ps := fun v hv => hps0 v (hk1b.kw v (hk2b.kw v hv))
  have hgl : ∀ v, KW W2b v → Gl v := fun v hv => gl_b hg (KW.below (hk1b.kw v (hk2b.kw v hv)))
  obtain ⟨cb, ec⟩ : ∃ cb, 0 < N → ca = some ⟨cb, 0, none⟩ := cs_ad (hcs _ h.bel) lc
  have hs := hsH.out
  clear hfar hcs0 hbl hcp hH hb5 hn8 hsH
  generalize ca = cav at *
  replace h := h.o0
  refine sym_then ?_
  refine sym_seq ?_
  refine sym_seq ?_
  refine St.r0 h [(50, .inl (.slice cav N cp)), (51, .inl (.int .i64 ((N : Nat) : Int))), (52, .inl (.slice ad N c1)), (53, .inl (.int .i64 ((N : Nat) : Int))), (54, .inl (.bool false))] [] ?_ ?_
  · exact oz (k_mv (.inl rfl) rfl) <|
    oz (k_ln (ad := cav) N cp rfl rfl (fun w => len_cs _ w)) <|
    oz (k_mv (.inl rfl) rfl) <|
    oz (k_ln (ad := ad) N c1 rfl rfl (fun w => len_ss _ w)) <|
    oz (k_bi (.int .i64 ((N : Nat) : Int)) (.int .i64 ((N : Nat) : Int)) (.bool false) (ne_i (m := ((N : Nat) : Int)) (n := ((N : Nat) : Int)) (decide_eq_false (by omega))) rfl rfl) <|
    ok_nil
  clear h; intro β a w h
  refine sym_then ?_
  refine s_cf h ?_
  refine wp_skip ?_
  refine sym_then ?_
  refine sym_seq ?_
  refine St.rg h [(55, .inl (.agg (ab 32 P0))), (56, .inl (.agg (ab 32 P0))), (14, .inr (3, pt 0)), (15, .inr (4, pt 0))] [(ab 32 (fun _ => 0), 34), (ab 32 (fun _ => 0), 34)] [(3, ab 32 P0), (4, ab 32 P0)] [eR 2, eR 2, eN 3, eN 4, eS 3, eS 4] ?_ ?_
  · exact oc (k_ld 2 0 (.agg (ab 32 P0)) (c := ab 32 P0) (ldS (F := P0) 34) rfl rfl) <|
    oc (k_ld 2 0 (.agg (ab 32 P0)) (c := ab 32 P0) (ldS (F := P0) 34) rfl rfl) <|
    oc (k_al 3 alS rfl rfl) <|
    oc (k_al 4 alS rfl rfl) <|
    oc (k_st 3 0 (.agg (ab 32 P0)) (c := ab 32 (fun _ => 0)) (n := ab 32 P0) (stS (F := P0) (c := ab 32 (fun _ => 0)) 34 (ab_size _ _)) rfl rfl) <|
    oc (k_st 4 0 (.agg (ab 32 P0)) (c := ab 32 (fun _ => 0)) (n := ab 32 P0) (stS (F := P0) (c := ab 32 (fun _ => 0)) 34 (ab_size _ _)) rfl rfl) <|
    ok_nil
  clear h; intro β a w h
  refine sym_then ?_
  refine sym_seq ?_
  refine sym_seq ?_
  refine St.r0 h [(57, .inl (.slice cav N cp)), (58, .inl (.int .i64 ((N : Nat) : Int))), (59, .inl (.int .i64 ((0 : Nat) : Int)))] [] ?_ ?_
  · exact oz (k_mv (.inl rfl) rfl) <|
    oz (k_ln (ad := cav) N cp rfl rfl (fun w => len_cs _ w)) <|
    oz (k_mv (.inl rfl) rfl) <|
    ok_nil
  clear h; intro β a w h
  refine sym_then ?_
  refine blk_in ?_
  replace h := St.sm h 3 (ab 32 (firstL (cs.take 0) (ps.take 0) P0)) (c := ab 32 P0) (t := 34) (by rw [List.take_zero, List.take_zero]; rfl)
  replace h := St.sm h 4 (ab 32 (comeL (cs.take 0) (ps.take 0) P0)) (c := ab 32 P0) (t := 34) (by rw [List.take_zero, List.take_zero]; rfl)
  obtain ⟨x, h⟩ := St.jn (n := 89) h [0, 1, 2, 3, 4, 7, 8, 10, 11, 12, 13, 14, 15, 57, 58, 59] [.inl (.int .i64 ((m : Nat) : Int)), .inl (.int .i64 ((n : Nat) : Int)), .inl (.agg (ab 32 O)), .inl (.agg (ab 32 R)), .inl (.slice ad N c1), .inr (0, pt 0), .inr (1, pt 0), .inl (.bool false), .inl (.func (.func 57) #[] #[.pointer (some ⟨n6, 0, none⟩), .pointer (some ⟨n6 + 1, 0, none⟩)]), .inr (2, pt 0), .inl (.slice cav N cp), .inr (3, pt 0), .inr (4, pt 0), .inl (.slice cav N cp), .inl (.int .i64 ((N : Nat) : Int)), .inl (.int .i64 ((0 : Nat) : Int))] [(ab 32 O, 34), (ab 32 R, 34), (ab 32 P0, 34), (ab 32 (firstL (cs.take 0) (ps.take 0) P0), 34), (ab 32 (comeL (cs.take 0) (ps.take 0) P0), 34)] (by kernel_rfl) (by kernel_rfl) (by kernel_rfl)
  refine loop_up N (fun k a w => ∃ (x : Nat → SV) (β : Nat → Nat), St (W2b) (ov (jk 89 x) ([0, 1, 2, 3, 4, 7, 8, 10, 11, 12, 13, 14, 15, 57, 58, 59].zip [.inl (.int .i64 ((m : Nat) : Int)), .inl (.int .i64 ((n : Nat) : Int)), .inl (.agg (ab 32 O)), .inl (.agg (ab 32 R)), .inl (.slice ad N c1), .inr (0, pt 0), .inr (1, pt 0), .inl (.bool false), .inl (.func (.func 57) #[] #[.pointer (some ⟨n6, 0, none⟩), .pointer (some ⟨n6 + 1, 0, none⟩)]), .inr (2, pt 0), .inl (.slice cav N cp), .inr (3, pt 0), .inr (4, pt 0), .inl (.slice cav N cp), .inl (.int .i64 ((N : Nat) : Int)), .inl (.int .i64 ((k : Nat) : Int))])) [(ab 32 O, 34), (ab 32 R, 34), (ab 32 P0, 34), (ab 32 (firstL (cs.take k) (ps.take k) P0), 34), (ab 32 (comeL (cs.take k) (ps.take k) P0), 34)] β a w) ⟨x, _, h⟩ ?_
  clear h; rintro k a w hkk ⟨x, β, h⟩
  rcases Nat.lt_or_ge k N with hltk | hgek
  · rcases Bool.eq_false_or_eq_true (cs.getD k default).r with hcr | hcr
    · refine sym_seq ?_
      refine St.r0 h [(60, .inl (.bool true))] [] ?_ ?_
      · exact oz (k_bi (.int .i64 ((k : Nat) : Int)) (.int .i64 ((N : Nat) : Int)) (.bool true) (lt_i (m := ((k : Nat) : Int)) (n := ((N : Nat) : Int)) (decide_eq_true (by omega))) rfl rfl) <|
        ok_nil
      clear h; intro β a w h
      refine sym_then ?_
      refine sym_seq ?_
      refine s_ct h ?_
      refine wp_skip ?_
      refine sym_then ?_
      refine sym_seq ?_
      refine blk_in ?_
      refine sym_seq ?_
      refine St.rg h [(61, .inl (.int .i64 ((k : Nat) : Int))), (62, .inl (.pointer (some ⟨cb, k * 4, none⟩))), (63, .inl (.agg (cvA (cs.getD k default)))), (17, .inr (5, pt 0)), (16, .inl (.int .i64 ((k : Nat) : Int)))] [(cvA ⟨0, 0, 0, false⟩, 73)] [(5, cvA (cs.getD k default))] [nn, nn, nn, eN 5, nn, eS 5] ?_ ?_
      · exact oc (k_mv (.inl rfl) rfl) <|
        oc (k_is (.slice cav N cp) (.int .i64 ((k : Nat) : Int)) (.pointer (some ⟨cb, k * 4, none⟩)) (fun w => ix_ct ec (i := k) (by omega) w) rfl rfl) <|
        oc (k_lf (.pointer (some ⟨cb, k * 4, none⟩)) (.agg (cvA (cs.getD k default))) (fun w hw => ld_ct (hcs w hw) ec (by omega)) rfl rfl) <|
        oc (k_al 5 alC rfl rfl) <|
        oc (k_mv (.inr rfl) rfl) <|
        oc (k_st 5 0 (.agg (cvA (cs.getD k default))) (c := cvA ⟨0, 0, 0, false⟩) (n := cvA (cs.getD k default)) (stC (c := (cs.getD k default)) (d := cvA ⟨0, 0, 0, false⟩) 73 rfl) rfl rfl) <|
        ok_nil
      clear h; intro β a w h
      refine sym_then ?_
      refine sym_seq ?_
      refine St.rg h [(64, .inl (.agg (cvA (cs.getD k default)))), (65, .inl (.agg (ab 32 (comeL (cs.take k) (ps.take k) P0)))), (66, .inl (.slice ad N c1)), (67, .inl (.int .i64 ((k : Nat) : Int))), (68, .inl (.pointer (some ⟨qb, qo + 32 * k, none⟩))), (69, .inl (.agg (ab 32 (ps.getD k fun _ => 0)))), (70, .inl (.agg (ab 32 (jn (cs.getD k default).r (comeL (cs.take k) (ps.take k) P0) (ps.getD k fun _ => 0)))))] [] [(4, ab 32 (jn (cs.getD k default).r (comeL (cs.take k) (ps.take k) P0) (ps.getD k fun _ => 0)))] [eR 5, eR 4, nn, nn, nn, nn, nn, eS 4] ?_ ?_
      · exact oc (k_ld 5 0 (.agg (cvA (cs.getD k default))) (c := cvA (cs.getD k default)) (ldC (c := (cs.getD k default)) 73) rfl rfl) <|
        oc (k_ld 4 0 (.agg (ab 32 (comeL (cs.take k) (ps.take k) P0))) (c := ab 32 (comeL (cs.take k) (ps.take k) P0)) (ldS (F := (comeL (cs.take k) (ps.take k) P0)) 34) rfl rfl) <|
        oc (k_mv (.inl rfl) rfl) <|
        oc (k_mv (.inl rfl) rfl) <|
        oc (k_is (.slice ad N c1) (.int .i64 ((k : Nat) : Int)) (.pointer (some ⟨qb, qo + 32 * k, none⟩)) (fun w => ix_st2 ea (i := k) (by omega) w) rfl rfl) <|
        oc (k_lf (.pointer (some ⟨qb, qo + 32 * k, none⟩)) (.agg (ab 32 (ps.getD k fun _ => 0))) (fun w hw => ld_st2 (hps w hw) ea (by omega)) rfl rfl) <|
        oc (k_cw 41 #[.agg (cvA (cs.getD k default)), .agg (ab 32 (comeL (cs.take k) (ps.take k) P0)), .agg (ab 32 (ps.getD k fun _ => 0))] (.agg (ab 32 (jn (cs.getD k default).r (comeL (cs.take k) (ps.take k) P0) (ps.getD k fun _ => 0)))) (fun w hw => join_d (hgl w hw) (comeL_lt hF _ _) (getD_lt hpl _)) rfl rfl) <|
        oc (k_st 4 0 (.agg (ab 32 (jn (cs.getD k default).r (comeL (cs.take k) (ps.take k) P0) (ps.getD k fun _ => 0)))) (c := ab 32 (comeL (cs.take k) (ps.take k) P0)) (n := ab 32 (jn (cs.getD k default).r (comeL (cs.take k) (ps.take k) P0) (ps.getD k fun _ => 0))) (stS (F := (jn (cs.getD k default).r (comeL (cs.take k) (ps.take k) P0) (ps.getD k fun _ => 0))) (c := ab 32 (comeL (cs.take k) (ps.take k) P0)) 34 (ab_size _ _)) rfl rfl) <|
        ok_nil
      clear h; intro β a w h
      refine sym_then ?_
      refine sym_seq ?_
      refine St.r0 h [(71, .inr (5, pt 3)), (72, .inl (.bool true))] [nn, eR 5] ?_ ?_
      · exact oc (k_fa 5 0 3 rfl rfl) <|
        oc (k_ld 5 3 (.bool true) (c := cvA (cs.getD k default)) (ldR (c := (cs.getD k default)) hcr 73) rfl rfl) <|
        ok_nil
      clear h; intro β a w h
      refine sym_then ?_
      refine s_ct h ?_
      refine St.rg h [(73, .inl (.agg (cvA (cs.getD k default)))), (74, .inl (.agg (ab 32 (firstL (cs.take k) (ps.take k) P0)))), (75, .inl (.slice ad N c1)), (76, .inl (.int .i64 ((k : Nat) : Int))), (77, .inl (.pointer (some ⟨qb, qo + 32 * k, none⟩))), (78, .inl (.agg (ab 32 (ps.getD k fun _ => 0)))), (79, .inl (.agg (ab 32 (jn (cs.getD k default).r (firstL (cs.take k) (ps.take k) P0) (ps.getD k fun _ => 0)))))] [] [(3, ab 32 (jn (cs.getD k default).r (firstL (cs.take k) (ps.take k) P0) (ps.getD k fun _ => 0)))] [eR 5, eR 3, nn, nn, nn, nn, nn, eS 3] ?_ ?_
      · exact oc (k_ld 5 0 (.agg (cvA (cs.getD k default))) (c := cvA (cs.getD k default)) (ldC (c := (cs.getD k default)) 73) rfl rfl) <|
        oc (k_ld 3 0 (.agg (ab 32 (firstL (cs.take k) (ps.take k) P0))) (c := ab 32 (firstL (cs.take k) (ps.take k) P0)) (ldS (F := (firstL (cs.take k) (ps.take k) P0)) 34) rfl rfl) <|
        oc (k_mv (.inl rfl) rfl) <|
        oc (k_mv (.inl rfl) rfl) <|
        oc (k_is (.slice ad N c1) (.int .i64 ((k : Nat) : Int)) (.pointer (some ⟨qb, qo + 32 * k, none⟩)) (fun w => ix_st2 ea (i := k) (by omega) w) rfl rfl) <|
        oc (k_lf (.pointer (some ⟨qb, qo + 32 * k, none⟩)) (.agg (ab 32 (ps.getD k fun _ => 0))) (fun w hw => ld_st2 (hps w hw) ea (by omega)) rfl rfl) <|
        oc (k_cw 41 #[.agg (cvA (cs.getD k default)), .agg (ab 32 (firstL (cs.take k) (ps.take k) P0)), .agg (ab 32 (ps.getD k fun _ => 0))] (.agg (ab 32 (jn (cs.getD k default).r (firstL (cs.take k) (ps.take k) P0) (ps.getD k fun _ => 0)))) (fun w hw => join_d (hgl w hw) (firstL_lt hF _ _) (getD_lt hpl _)) rfl rfl) <|
        oc (k_st 3 0 (.agg (ab 32 (jn (cs.getD k default).r (firstL (cs.take k) (ps.take k) P0) (ps.getD k fun _ => 0)))) (c := ab 32 (firstL (cs.take k) (ps.take k) P0)) (n := ab 32 (jn (cs.getD k default).r (firstL (cs.take k) (ps.take k) P0) (ps.getD k fun _ => 0))) (stS (F := (jn (cs.getD k default).r (firstL (cs.take k) (ps.take k) P0) (ps.getD k fun _ => 0))) (c := ab 32 (firstL (cs.take k) (ps.take k) P0)) 34 (ab_size _ _)) rfl rfl) <|
        ok_nil
      clear h; intro β a w h
      refine blk_norm ?_
      refine sym_then ?_
      refine St.r0 h [(80, .inl (.int .i64 (((k + 1) : Nat) : Int))), (59, .inl (.int .i64 (((k + 1) : Nat) : Int)))] [eO] ?_ ?_
      · exact oc (k_b0 (.int .i64 ((k : Nat) : Int)) (.int .i64 ((1 : Nat) : Int)) (.int .i64 (((k + 1) : Nat) : Int)) (ad_i (m := k) (n := 1) (by omega)) rfl rfl) <|
        oz (k_mv (.inl rfl) rfl) <|
        ok_nil
      clear h; intro β a w h
      replace h := St.sm h 3 (ab 32 (firstL (cs.take (k + 1)) (ps.take (k + 1)) P0)) (c := ab 32 (jn (cs.getD k default).r (firstL (cs.take k) (ps.take k) P0) (ps.getD k fun _ => 0))) (t := 34) (by rw [fst_t lc lp hltk hcr])
      replace h := St.sm h 4 (ab 32 (comeL (cs.take (k + 1)) (ps.take (k + 1)) P0)) (c := ab 32 (jn (cs.getD k default).r (comeL (cs.take k) (ps.take k) P0) (ps.getD k fun _ => 0))) (t := 34) (by rw [come_step lc lp hltk])
      obtain ⟨x, h⟩ := St.jd (n := 89) h [0, 1, 2, 3, 4, 7, 8, 10, 11, 12, 13, 14, 15, 57, 58, 59] [.inl (.int .i64 ((m : Nat) : Int)), .inl (.int .i64 ((n : Nat) : Int)), .inl (.agg (ab 32 O)), .inl (.agg (ab 32 R)), .inl (.slice ad N c1), .inr (0, pt 0), .inr (1, pt 0), .inl (.bool false), .inl (.func (.func 57) #[] #[.pointer (some ⟨n6, 0, none⟩), .pointer (some ⟨n6 + 1, 0, none⟩)]), .inr (2, pt 0), .inl (.slice cav N cp), .inr (3, pt 0), .inr (4, pt 0), .inl (.slice cav N cp), .inl (.int .i64 ((N : Nat) : Int)), .inl (.int .i64 (((k + 1) : Nat) : Int))] [(ab 32 O, 34), (ab 32 R, 34), (ab 32 P0, 34), (ab 32 (firstL (cs.take (k + 1)) (ps.take (k + 1)) P0), 34), (ab 32 (comeL (cs.take (k + 1)) (ps.take (k + 1)) P0), 34)] (by kernel_rfl) (by kernel_rfl) (by kernel_rfl) (by kernel_rfl) (fun _ _ h => by rw [hk2b.pn, hk1b.pn] at h; cases h)
      exact ⟨hltk, x, _, h⟩
    · refine sym_seq ?_
      refine St.r0 h [(60, .inl (.bool true))] [] ?_ ?_
      · exact oz (k_bi (.int .i64 ((k : Nat) : Int)) (.int .i64 ((N : Nat) : Int)) (.bool true) (lt_i (m := ((k : Nat) : Int)) (n := ((N : Nat) : Int)) (decide_eq_true (by omega))) rfl rfl) <|
        ok_nil
      clear h; intro β a w h
      refine sym_then ?_
      refine sym_seq ?_
      refine s_ct h ?_
      refine wp_skip ?_
      refine sym_then ?_
      refine sym_seq ?_
      refine blk_in ?_
      refine sym_seq ?_
      refine St.rg h [(61, .inl (.int .i64 ((k : Nat) : Int))), (62, .inl (.pointer (some ⟨cb, k * 4, none⟩))), (63, .inl (.agg (cvA (cs.getD k default)))), (17, .inr (5, pt 0)), (16, .inl (.int .i64 ((k : Nat) : Int)))] [(cvA ⟨0, 0, 0, false⟩, 73)] [(5, cvA (cs.getD k default))] [nn, nn, nn, eN 5, nn, eS 5] ?_ ?_
      · exact oc (k_mv (.inl rfl) rfl) <|
        oc (k_is (.slice cav N cp) (.int .i64 ((k : Nat) : Int)) (.pointer (some ⟨cb, k * 4, none⟩)) (fun w => ix_ct ec (i := k) (by omega) w) rfl rfl) <|
        oc (k_lf (.pointer (some ⟨cb, k * 4, none⟩)) (.agg (cvA (cs.getD k default))) (fun w hw => ld_ct (hcs w hw) ec (by omega)) rfl rfl) <|
        oc (k_al 5 alC rfl rfl) <|
        oc (k_mv (.inr rfl) rfl) <|
        oc (k_st 5 0 (.agg (cvA (cs.getD k default))) (c := cvA ⟨0, 0, 0, false⟩) (n := cvA (cs.getD k default)) (stC (c := (cs.getD k default)) (d := cvA ⟨0, 0, 0, false⟩) 73 rfl) rfl rfl) <|
        ok_nil
      clear h; intro β a w h
      refine sym_then ?_
      refine sym_seq ?_
      refine St.rg h [(64, .inl (.agg (cvA (cs.getD k default)))), (65, .inl (.agg (ab 32 (comeL (cs.take k) (ps.take k) P0)))), (66, .inl (.slice ad N c1)), (67, .inl (.int .i64 ((k : Nat) : Int))), (68, .inl (.pointer (some ⟨qb, qo + 32 * k, none⟩))), (69, .inl (.agg (ab 32 (ps.getD k fun _ => 0)))), (70, .inl (.agg (ab 32 (jn (cs.getD k default).r (comeL (cs.take k) (ps.take k) P0) (ps.getD k fun _ => 0)))))] [] [(4, ab 32 (jn (cs.getD k default).r (comeL (cs.take k) (ps.take k) P0) (ps.getD k fun _ => 0)))] [eR 5, eR 4, nn, nn, nn, nn, nn, eS 4] ?_ ?_
      · exact oc (k_ld 5 0 (.agg (cvA (cs.getD k default))) (c := cvA (cs.getD k default)) (ldC (c := (cs.getD k default)) 73) rfl rfl) <|
        oc (k_ld 4 0 (.agg (ab 32 (comeL (cs.take k) (ps.take k) P0))) (c := ab 32 (comeL (cs.take k) (ps.take k) P0)) (ldS (F := (comeL (cs.take k) (ps.take k) P0)) 34) rfl rfl) <|
        oc (k_mv (.inl rfl) rfl) <|
        oc (k_mv (.inl rfl) rfl) <|
        oc (k_is (.slice ad N c1) (.int .i64 ((k : Nat) : Int)) (.pointer (some ⟨qb, qo + 32 * k, none⟩)) (fun w => ix_st2 ea (i := k) (by omega) w) rfl rfl) <|
        oc (k_lf (.pointer (some ⟨qb, qo + 32 * k, none⟩)) (.agg (ab 32 (ps.getD k fun _ => 0))) (fun w hw => ld_st2 (hps w hw) ea (by omega)) rfl rfl) <|
        oc (k_cw 41 #[.agg (cvA (cs.getD k default)), .agg (ab 32 (comeL (cs.take k) (ps.take k) P0)), .agg (ab 32 (ps.getD k fun _ => 0))] (.agg (ab 32 (jn (cs.getD k default).r (comeL (cs.take k) (ps.take k) P0) (ps.getD k fun _ => 0)))) (fun w hw => join_d (hgl w hw) (comeL_lt hF _ _) (getD_lt hpl _)) rfl rfl) <|
        oc (k_st 4 0 (.agg (ab 32 (jn (cs.getD k default).r (comeL (cs.take k) (ps.take k) P0) (ps.getD k fun _ => 0)))) (c := ab 32 (comeL (cs.take k) (ps.take k) P0)) (n := ab 32 (jn (cs.getD k default).r (comeL (cs.take k) (ps.take k) P0) (ps.getD k fun _ => 0))) (stS (F := (jn (cs.getD k default).r (comeL (cs.take k) (ps.take k) P0) (ps.getD k fun _ => 0))) (c := ab 32 (comeL (cs.take k) (ps.take k) P0)) 34 (ab_size _ _)) rfl rfl) <|
        ok_nil
      clear h; intro β a w h
      refine sym_then ?_
      refine sym_seq ?_
      refine St.r0 h [(71, .inr (5, pt 3)), (72, .inl (.bool false))] [nn, eR 5] ?_ ?_
      · exact oc (k_fa 5 0 3 rfl rfl) <|
        oc (k_ld 5 3 (.bool false) (c := cvA (cs.getD k default)) (ldR (c := (cs.getD k default)) hcr 73) rfl rfl) <|
        ok_nil
      clear h; intro β a w h
      refine sym_then ?_
      refine s_cf h ?_
      refine wp_skip ?_
      refine blk_norm ?_
      refine sym_then ?_
      refine St.r0 h [(80, .inl (.int .i64 (((k + 1) : Nat) : Int))), (59, .inl (.int .i64 (((k + 1) : Nat) : Int)))] [eO] ?_ ?_
      · exact oc (k_b0 (.int .i64 ((k : Nat) : Int)) (.int .i64 ((1 : Nat) : Int)) (.int .i64 (((k + 1) : Nat) : Int)) (ad_i (m := k) (n := 1) (by omega)) rfl rfl) <|
        oz (k_mv (.inl rfl) rfl) <|
        ok_nil
      clear h; intro β a w h
      replace h := St.sm h 3 (ab 32 (firstL (cs.take (k + 1)) (ps.take (k + 1)) P0)) (c := ab 32 (firstL (cs.take k) (ps.take k) P0)) (t := 34) (by rw [← fst_f lc lp hltk hcr])
      replace h := St.sm h 4 (ab 32 (comeL (cs.take (k + 1)) (ps.take (k + 1)) P0)) (c := ab 32 (jn (cs.getD k default).r (comeL (cs.take k) (ps.take k) P0) (ps.getD k fun _ => 0))) (t := 34) (by rw [come_step lc lp hltk])
      obtain ⟨x, h⟩ := St.jd (n := 89) h [0, 1, 2, 3, 4, 7, 8, 10, 11, 12, 13, 14, 15, 57, 58, 59] [.inl (.int .i64 ((m : Nat) : Int)), .inl (.int .i64 ((n : Nat) : Int)), .inl (.agg (ab 32 O)), .inl (.agg (ab 32 R)), .inl (.slice ad N c1), .inr (0, pt 0), .inr (1, pt 0), .inl (.bool false), .inl (.func (.func 57) #[] #[.pointer (some ⟨n6, 0, none⟩), .pointer (some ⟨n6 + 1, 0, none⟩)]), .inr (2, pt 0), .inl (.slice cav N cp), .inr (3, pt 0), .inr (4, pt 0), .inl (.slice cav N cp), .inl (.int .i64 ((N : Nat) : Int)), .inl (.int .i64 (((k + 1) : Nat) : Int))] [(ab 32 O, 34), (ab 32 R, 34), (ab 32 P0, 34), (ab 32 (firstL (cs.take (k + 1)) (ps.take (k + 1)) P0), 34), (ab 32 (comeL (cs.take (k + 1)) (ps.take (k + 1)) P0), 34)] (by kernel_rfl) (by kernel_rfl) (by kernel_rfl) (by kernel_rfl) (fun _ _ h => by rw [hk2b.pn, hk1b.pn] at h; cases h)
      exact ⟨hltk, x, _, h⟩
  · obtain rfl : N = k := by omega
    refine sym_seq ?_
    refine St.r0 h [(60, .inl (.bool false))] [] ?_ ?_
    · exact oz (k_bi (.int .i64 ((N : Nat) : Int)) (.int .i64 ((N : Nat) : Int)) (.bool false) (lt_i (m := ((N : Nat) : Int)) (n := ((N : Nat) : Int)) (decide_eq_false (by omega))) rfl rfl) <|
      ok_nil
    clear h; intro β a w h
    refine sym_then ?_
    refine sym_seq ?_
    refine s_cf h ?_
    refine wp_exit ?_
    refine then_exit ?_
    refine then_exit ?_
    refine blk_exit ?_
    refine sym_then ?_
    refine sym_seq ?_
    refine St.r0 h [(81, .inl (.agg (ab 32 (firstL (cs.take N) (ps.take N) P0)))), (82, .inl (.agg (ab 32 O))), (83, .inl (.bool true)), (84, .inl (.bool true)), (85, .inl (.agg (ab 32 (comeL (cs.take N) (ps.take N) P0)))), (86, .inl (.agg (ab 32 R))), (87, .inl (.bool false)), (88, .inl (.bool false))] [eR 3, eR 0, nn, nn, eR 4, eR 1] ?_ ?_
    · exact oc (k_ld 3 0 (.agg (ab 32 (firstL (cs.take N) (ps.take N) P0))) (c := ab 32 (firstL (cs.take N) (ps.take N) P0)) (ldS (F := (firstL (cs.take N) (ps.take N) P0)) 34) rfl rfl) <|
      oc (k_ld 0 0 (.agg (ab 32 O)) (c := ab 32 O) (ldS (F := O) 34) rfl rfl) <|
      oc (k_bi (.agg (ab 32 (firstL (cs.take N) (ps.take N) P0))) (.agg (ab 32 O)) (.bool true) (eqS_v hb1) rfl rfl) <|
      oc (k_mv (.inl rfl) rfl) <|
      oc (k_ld 4 0 (.agg (ab 32 (comeL (cs.take N) (ps.take N) P0))) (c := ab 32 (comeL (cs.take N) (ps.take N) P0)) (ldS (F := (comeL (cs.take N) (ps.take N) P0)) 34) rfl rfl) <|
      oc (k_ld 1 0 (.agg (ab 32 R)) (c := ab 32 R) (ldS (F := R) 34) rfl rfl) <|
      oz (k_bi (.agg (ab 32 (comeL (cs.take N) (ps.take N) P0))) (.agg (ab 32 R)) (.bool false) (eqS_v hb2) rfl rfl) <|
      oz (k_pt rfl rfl) <|
      oz (k_mv (.inr rfl) rfl) <|
      ok_nil
    clear h; intro β a w h
    refine sym_then ?_
    refine wp_ret ?_
    replace h := h.unb hk2b
    replace h := h.unb hk1b
    exact s_rt h Tryd.results14 (fun hb => ⟨rfl, hb⟩)
end Go.Proofs.YtgnmnoadfjdjdaaDoor

namespace Go.Proofs.YtgnmnoadfjdjdaaDoor
open Go.RowKit Go.Maps Sh
set_option maxHeartbeats 8000000 in
theorem ext_n1 {m n : Int} {q pcap : Nat} {pa : Option Addr} {O R : Nat → Nat} {W0 : World} (hn1 : n < 1) : Calls Tryd.prog 14 #[.int .i64 m, .int .i64 n, .agg (ab 32 O), .agg (ab 32 R), .slice pa q pcap] W0 fun e w' => e = .returned (.bool false) ∧ Below W0.heap.size W0 w' := by
  refine s_in Tryd.func14 Tryd.ntmps14 rfl [.inl (.int .i64 m), .inl (.int .i64 n), .inl (.agg (ab 32 O)), .inl (.agg (ab 32 R)), .inl (.slice pa q pcap)] ?_
  intro β a h
  refine sym_seq ?_
  refine St.rg h [(7, .inr (0, pt 0)), (8, .inr (1, pt 0)), (10, .inl (.bool false))] [(ab 32 O, 34), (ab 32 R, 34)] [] [eN 0, eN 1] ?_ ?_
  · exact oc (k_bx 0 (.agg (ab 32 O)) (bx_agg (P := Tryd.prog)) rfl rfl) <|
    oc (k_bx 1 (.agg (ab 32 R)) (bx_agg (P := Tryd.prog)) rfl rfl) <|
    oz (k_mv (.inr rfl) rfl) <|
    ok_nil
  clear h; intro β a w h
  refine sym_then ?_
  refine sym_seq ?_
  refine sym_seq ?_
  refine St.r0 h [(18, .inl (.int .i64 n)), (19, .inl (.bool true)), (20, .inl (.bool true)), (23, .inl (.bool true)), (24, .inl (.bool true)), (27, .inl (.bool true)), (28, .inl (.bool true)), (32, .inl (.bool true))] [] ?_ ?_
  · exact oz (k_mv (.inl rfl) rfl) <|
    oz (k_bi (.int .i64 n) (.int .i64 ((1 : Nat) : Int)) (.bool true) (lt_i (m := n) (n := ((1 : Nat) : Int)) (decide_eq_true (by omega))) rfl rfl) <|
    oz (k_mv (.inl rfl) rfl) <|
    oz (k_sk rfl) <|
    oz (k_sk rfl) <|
    oz (k_pt rfl rfl) <|
    oz (k_mv (.inl rfl) rfl) <|
    oz (k_sk rfl) <|
    oz (k_sk rfl) <|
    oz (k_pt rfl rfl) <|
    oz (k_mv (.inl rfl) rfl) <|
    oz (k_sk rfl) <|
    oz (k_sk rfl) <|
    oz (k_sk rfl) <|
    oz (k_pt rfl rfl) <|
    ok_nil
  clear h; intro β a w h
  refine sym_then ?_
  refine s_ct h ?_
  refine sym_seq ?_
  refine St.r0 h [] [] ?_ ?_
  · exact oz (k_mv (.inr rfl) rfl) <|
    ok_nil
  clear h; intro β a w h
  refine sym_then ?_
  refine wp_ret ?_
  refine then_ret ?_
  exact s_rt h Tryd.results14 (fun hb => ⟨rfl, hb⟩)
set_option maxHeartbeats 8000000 in
theorem ext_n2 {m n : Int} {q pcap : Nat} {pa : Option Addr} {O R : Nat → Nat} {W0 : World} (hn2 : 1048576 < n) : Calls Tryd.prog 14 #[.int .i64 m, .int .i64 n, .agg (ab 32 O), .agg (ab 32 R), .slice pa q pcap] W0 fun e w' => e = .returned (.bool false) ∧ Below W0.heap.size W0 w' := by
  refine s_in Tryd.func14 Tryd.ntmps14 rfl [.inl (.int .i64 m), .inl (.int .i64 n), .inl (.agg (ab 32 O)), .inl (.agg (ab 32 R)), .inl (.slice pa q pcap)] ?_
  intro β a h
  refine sym_seq ?_
  refine St.rg h [(7, .inr (0, pt 0)), (8, .inr (1, pt 0)), (10, .inl (.bool false))] [(ab 32 O, 34), (ab 32 R, 34)] [] [eN 0, eN 1] ?_ ?_
  · exact oc (k_bx 0 (.agg (ab 32 O)) (bx_agg (P := Tryd.prog)) rfl rfl) <|
    oc (k_bx 1 (.agg (ab 32 R)) (bx_agg (P := Tryd.prog)) rfl rfl) <|
    oz (k_mv (.inr rfl) rfl) <|
    ok_nil
  clear h; intro β a w h
  refine sym_then ?_
  refine sym_seq ?_
  refine sym_seq ?_
  refine St.r0 h [(18, .inl (.int .i64 n)), (19, .inl (.bool false)), (20, .inl (.bool false)), (21, .inl (.int .i64 n)), (22, .inl (.bool true)), (23, .inl (.bool true)), (24, .inl (.bool true)), (27, .inl (.bool true)), (28, .inl (.bool true)), (32, .inl (.bool true))] [] ?_ ?_
  · exact oz (k_mv (.inl rfl) rfl) <|
    oz (k_bi (.int .i64 n) (.int .i64 ((1 : Nat) : Int)) (.bool false) (lt_i (m := n) (n := ((1 : Nat) : Int)) (decide_eq_false (by omega))) rfl rfl) <|
    oz (k_mv (.inl rfl) rfl) <|
    oz (k_mv (.inl rfl) rfl) <|
    oz (k_bi (.int .i64 n) (.int .i64 ((1048576 : Nat) : Int)) (.bool true) (gt_i (m := n) (n := ((1048576 : Nat) : Int)) (decide_eq_true (by omega))) rfl rfl) <|
    oz (k_pf rfl rfl) <|
    oz (k_mv (.inl rfl) rfl) <|
    oz (k_sk rfl) <|
    oz (k_sk rfl) <|
    oz (k_pt rfl rfl) <|
    oz (k_mv (.inl rfl) rfl) <|
    oz (k_sk rfl) <|
    oz (k_sk rfl) <|
    oz (k_sk rfl) <|
    oz (k_pt rfl rfl) <|
    ok_nil
  clear h; intro β a w h
  refine sym_then ?_
  refine s_ct h ?_
  refine sym_seq ?_
  refine St.r0 h [] [] ?_ ?_
  · exact oz (k_mv (.inr rfl) rfl) <|
    ok_nil
  clear h; intro β a w h
  refine sym_then ?_
  refine wp_ret ?_
  refine then_ret ?_
  exact s_rt h Tryd.results14 (fun hb => ⟨rfl, hb⟩)
set_option maxHeartbeats 8000000 in
theorem ext_m1 {m n : Int} {q pcap : Nat} {pa : Option Addr} {O R : Nat → Nat} {W0 : World} (hn1 : 1 ≤ n) (hn2 : n ≤ 1048576) (hm1 : m < 1) : Calls Tryd.prog 14 #[.int .i64 m, .int .i64 n, .agg (ab 32 O), .agg (ab 32 R), .slice pa q pcap] W0 fun e w' => e = .returned (.bool false) ∧ Below W0.heap.size W0 w' := by
  refine s_in Tryd.func14 Tryd.ntmps14 rfl [.inl (.int .i64 m), .inl (.int .i64 n), .inl (.agg (ab 32 O)), .inl (.agg (ab 32 R)), .inl (.slice pa q pcap)] ?_
  intro β a h
  refine sym_seq ?_
  refine St.rg h [(7, .inr (0, pt 0)), (8, .inr (1, pt 0)), (10, .inl (.bool false))] [(ab 32 O, 34), (ab 32 R, 34)] [] [eN 0, eN 1] ?_ ?_
  · exact oc (k_bx 0 (.agg (ab 32 O)) (bx_agg (P := Tryd.prog)) rfl rfl) <|
    oc (k_bx 1 (.agg (ab 32 R)) (bx_agg (P := Tryd.prog)) rfl rfl) <|
    oz (k_mv (.inr rfl) rfl) <|
    ok_nil
  clear h; intro β a w h
  refine sym_then ?_
  refine sym_seq ?_
  refine sym_seq ?_
  refine St.r0 h [(18, .inl (.int .i64 n)), (19, .inl (.bool false)), (20, .inl (.bool false)), (21, .inl (.int .i64 n)), (22, .inl (.bool false)), (23, .inl (.bool false)), (24, .inl (.bool false)), (25, .inl (.int .i64 m)), (26, .inl (.bool true)), (27, .inl (.bool true)), (28, .inl (.bool true)), (32, .inl (.bool true))] [] ?_ ?_
  · exact oz (k_mv (.inl rfl) rfl) <|
    oz (k_bi (.int .i64 n) (.int .i64 ((1 : Nat) : Int)) (.bool false) (lt_i (m := n) (n := ((1 : Nat) : Int)) (decide_eq_false (by omega))) rfl rfl) <|
    oz (k_mv (.inl rfl) rfl) <|
    oz (k_mv (.inl rfl) rfl) <|
    oz (k_bi (.int .i64 n) (.int .i64 ((1048576 : Nat) : Int)) (.bool false) (gt_i (m := n) (n := ((1048576 : Nat) : Int)) (decide_eq_false (by omega))) rfl rfl) <|
    oz (k_pf rfl rfl) <|
    oz (k_mv (.inl rfl) rfl) <|
    oz (k_mv (.inl rfl) rfl) <|
    oz (k_bi (.int .i64 m) (.int .i64 ((1 : Nat) : Int)) (.bool true) (lt_i (m := m) (n := ((1 : Nat) : Int)) (decide_eq_true (by omega))) rfl rfl) <|
    oz (k_pf rfl rfl) <|
    oz (k_mv (.inl rfl) rfl) <|
    oz (k_sk rfl) <|
    oz (k_sk rfl) <|
    oz (k_sk rfl) <|
    oz (k_pt rfl rfl) <|
    ok_nil
  clear h; intro β a w h
  refine sym_then ?_
  refine s_ct h ?_
  refine sym_seq ?_
  refine St.r0 h [] [] ?_ ?_
  · exact oz (k_mv (.inr rfl) rfl) <|
    ok_nil
  clear h; intro β a w h
  refine sym_then ?_
  refine wp_ret ?_
  refine then_ret ?_
  exact s_rt h Tryd.results14 (fun hb => ⟨rfl, hb⟩)
set_option maxHeartbeats 8000000 in
theorem ext_m2 {m n : Int} {q pcap : Nat} {pa : Option Addr} {O R : Nat → Nat} {W0 : World} (hn1 : 1 ≤ n) (hn2 : n ≤ 1048576) (hm1 : 1 ≤ m) (hm2 : n < m) : Calls Tryd.prog 14 #[.int .i64 m, .int .i64 n, .agg (ab 32 O), .agg (ab 32 R), .slice pa q pcap] W0 fun e w' => e = .returned (.bool false) ∧ Below W0.heap.size W0 w' := by
  refine s_in Tryd.func14 Tryd.ntmps14 rfl [.inl (.int .i64 m), .inl (.int .i64 n), .inl (.agg (ab 32 O)), .inl (.agg (ab 32 R)), .inl (.slice pa q pcap)] ?_
  intro β a h
  refine sym_seq ?_
  refine St.rg h [(7, .inr (0, pt 0)), (8, .inr (1, pt 0)), (10, .inl (.bool false))] [(ab 32 O, 34), (ab 32 R, 34)] [] [eN 0, eN 1] ?_ ?_
  · exact oc (k_bx 0 (.agg (ab 32 O)) (bx_agg (P := Tryd.prog)) rfl rfl) <|
    oc (k_bx 1 (.agg (ab 32 R)) (bx_agg (P := Tryd.prog)) rfl rfl) <|
    oz (k_mv (.inr rfl) rfl) <|
    ok_nil
  clear h; intro β a w h
  refine sym_then ?_
  refine sym_seq ?_
  refine sym_seq ?_
  refine St.r0 h [(18, .inl (.int .i64 n)), (19, .inl (.bool false)), (20, .inl (.bool false)), (21, .inl (.int .i64 n)), (22, .inl (.bool false)), (23, .inl (.bool false)), (24, .inl (.bool false)), (25, .inl (.int .i64 m)), (26, .inl (.bool false)), (27, .inl (.bool false)), (28, .inl (.bool false)), (29, .inl (.int .i64 m)), (30, .inl (.int .i64 n)), (31, .inl (.bool true)), (32, .inl (.bool true))] [] ?_ ?_
  · exact oz (k_mv (.inl rfl) rfl) <|
    oz (k_bi (.int .i64 n) (.int .i64 ((1 : Nat) : Int)) (.bool false) (lt_i (m := n) (n := ((1 : Nat) : Int)) (decide_eq_false (by omega))) rfl rfl) <|
    oz (k_mv (.inl rfl) rfl) <|
    oz (k_mv (.inl rfl) rfl) <|
    oz (k_bi (.int .i64 n) (.int .i64 ((1048576 : Nat) : Int)) (.bool false) (gt_i (m := n) (n := ((1048576 : Nat) : Int)) (decide_eq_false (by omega))) rfl rfl) <|
    oz (k_pf rfl rfl) <|
    oz (k_mv (.inl rfl) rfl) <|
    oz (k_mv (.inl rfl) rfl) <|
    oz (k_bi (.int .i64 m) (.int .i64 ((1 : Nat) : Int)) (.bool false) (lt_i (m := m) (n := ((1 : Nat) : Int)) (decide_eq_false (by omega))) rfl rfl) <|
    oz (k_pf rfl rfl) <|
    oz (k_mv (.inl rfl) rfl) <|
    oz (k_mv (.inl rfl) rfl) <|
    oz (k_mv (.inl rfl) rfl) <|
    oz (k_bi (.int .i64 m) (.int .i64 n) (.bool true) (gt_i (m := m) (n := n) (decide_eq_true (by omega))) rfl rfl) <|
    oz (k_pf rfl rfl) <|
    ok_nil
  clear h; intro β a w h
  refine sym_then ?_
  refine s_ct h ?_
  refine sym_seq ?_
  refine St.r0 h [] [] ?_ ?_
  · exact oz (k_mv (.inr rfl) rfl) <|
    ok_nil
  clear h; intro β a w h
  refine sym_then ?_
  refine wp_ret ?_
  refine then_ret ?_
  exact s_rt h Tryd.results14 (fun hb => ⟨rfl, hb⟩)
set_option maxHeartbeats 8000000 in
set_option maxRecDepth 100000 in
theorem ext_nil {m n pcap s : Nat} {pa : Option Addr} {O R : Nat → Nat} {W0 : World} (hm1 : 1 ≤ m) (hmn : m ≤ n) (hn : n ≤ 1048576) (hs : s ≠ 0) (hst : ∀ g w, Bx w g 3 (.int .i64 ((m : Nat) : Int)) → Bx w (g + 1) 3 (.int .i64 ((n : Nat) : Int)) → Calls Tryd.prog 35 #[.func (.func 57) #[] #[.pointer (some ⟨g, 0, none⟩), .pointer (some ⟨g + 1, 0, none⟩)]] w fun e w' => e = .returned (.int .i64 ((s : Nat) : Int)) ∧ Below w.heap.size w w') : Calls Tryd.prog 14 #[.int .i64 ((m : Nat) : Int), .int .i64 ((n : Nat) : Int), .agg (ab 32 O), .agg (ab 32 R), .slice pa 0 pcap] W0 fun e w' => e = .returned (.bool false) ∧ Below W0.heap.size W0 w' := by
  refine s_in Tryd.func14 Tryd.ntmps14 rfl [.inl (.int .i64 ((m : Nat) : Int)), .inl (.int .i64 ((n : Nat) : Int)), .inl (.agg (ab 32 O)), .inl (.agg (ab 32 R)), .inl (.slice pa 0 pcap)] ?_
  intro β a h
  refine sym_seq ?_
  refine St.rg h [(7, .inr (0, pt 0)), (8, .inr (1, pt 0)), (10, .inl (.bool false))] [(ab 32 O, 34), (ab 32 R, 34)] [] [eN 0, eN 1] ?_ ?_
  · exact oc (k_bx 0 (.agg (ab 32 O)) (bx_agg (P := Tryd.prog)) rfl rfl) <|
    oc (k_bx 1 (.agg (ab 32 R)) (bx_agg (P := Tryd.prog)) rfl rfl) <|
    oz (k_mv (.inr rfl) rfl) <|
    ok_nil
  clear h; intro β a w h
  refine sym_then ?_
  refine sym_seq ?_
  refine sym_seq ?_
  refine St.r0 h [(18, .inl (.int .i64 ((n : Nat) : Int))), (19, .inl (.bool false)), (20, .inl (.bool false)), (21, .inl (.int .i64 ((n : Nat) : Int))), (22, .inl (.bool false)), (23, .inl (.bool false)), (24, .inl (.bool false)), (25, .inl (.int .i64 ((m : Nat) : Int))), (26, .inl (.bool false)), (27, .inl (.bool false)), (28, .inl (.bool false)), (29, .inl (.int .i64 ((m : Nat) : Int))), (30, .inl (.int .i64 ((n : Nat) : Int))), (31, .inl (.bool false)), (32, .inl (.bool false))] [] ?_ ?_
  · exact oz (k_mv (.inl rfl) rfl) <|
    oz (k_bi (.int .i64 ((n : Nat) : Int)) (.int .i64 ((1 : Nat) : Int)) (.bool false) (lt_i (m := ((n : Nat) : Int)) (n := ((1 : Nat) : Int)) (decide_eq_false (by omega))) rfl rfl) <|
    oz (k_mv (.inl rfl) rfl) <|
    oz (k_mv (.inl rfl) rfl) <|
    oz (k_bi (.int .i64 ((n : Nat) : Int)) (.int .i64 ((1048576 : Nat) : Int)) (.bool false) (gt_i (m := ((n : Nat) : Int)) (n := ((1048576 : Nat) : Int)) (decide_eq_false (by omega))) rfl rfl) <|
    oz (k_pf rfl rfl) <|
    oz (k_mv (.inl rfl) rfl) <|
    oz (k_mv (.inl rfl) rfl) <|
    oz (k_bi (.int .i64 ((m : Nat) : Int)) (.int .i64 ((1 : Nat) : Int)) (.bool false) (lt_i (m := ((m : Nat) : Int)) (n := ((1 : Nat) : Int)) (decide_eq_false (by omega))) rfl rfl) <|
    oz (k_pf rfl rfl) <|
    oz (k_mv (.inl rfl) rfl) <|
    oz (k_mv (.inl rfl) rfl) <|
    oz (k_mv (.inl rfl) rfl) <|
    oz (k_bi (.int .i64 ((m : Nat) : Int)) (.int .i64 ((n : Nat) : Int)) (.bool false) (gt_i (m := ((m : Nat) : Int)) (n := ((n : Nat) : Int)) (decide_eq_false (by omega))) rfl rfl) <|
    oz (k_pf rfl rfl) <|
    ok_nil
  clear h; intro β a w h
  refine sym_then ?_
  refine s_cf h ?_
  refine wp_skip ?_
  refine sym_then ?_
  refine sym_seq ?_
  replace h := St.cs h (s' := [.inl (.int .i64 ((m : Nat) : Int)), .inl (.int .i64 ((n : Nat) : Int)), .inl (.agg (ab 32 O)), .inl (.agg (ab 32 R)), .inl (.slice pa 0 pcap), uu, uu, .inr (0, pt 0), .inr (1, pt 0), uu, .inl (.bool false), uu, uu, uu, uu, uu, uu, uu, .inl (.int .i64 ((n : Nat) : Int)), .inl (.bool false), .inl (.bool false), .inl (.int .i64 ((n : Nat) : Int)), .inl (.bool false), .inl (.bool false), .inl (.bool false), .inl (.int .i64 ((m : Nat) : Int)), .inl (.bool false), .inl (.bool false), .inl (.bool false), .inl (.int .i64 ((m : Nat) : Int)), .inl (.int .i64 ((n : Nat) : Int)), .inl (.bool false), .inl (.bool false), uu, uu, uu, uu, uu, uu, uu, uu, uu, uu, uu, uu, uu, uu, uu, uu, uu, uu, uu, uu, uu, uu, uu, uu, uu, uu, uu, uu, uu, uu, uu, uu, uu, uu, uu, uu, uu, uu, uu, uu, uu, uu, uu, uu, uu, uu, uu, uu, uu, uu, uu, uu, uu, uu, uu, uu]) (m' := [(ab 32 O, 34), (ab 32 R, 34)]) (by kernel_rfl) (by kernel_rfl)
  obtain rfl : a = { tmps := (.int .i64 ((m : Nat) : Int) :: .int .i64 ((n : Nat) : Int) :: .agg (ab 32 O) :: .agg (ab 32 R) :: .slice pa 0 pcap :: undef :: undef :: fv (pt 0) (β 0) :: fv (pt 0) (β 1) :: undef :: .bool false :: undef :: undef :: undef :: undef :: undef :: undef :: undef :: .int .i64 ((n : Nat) : Int) :: .bool false :: .bool false :: .int .i64 ((n : Nat) : Int) :: .bool false :: .bool false :: .bool false :: .int .i64 ((m : Nat) : Int) :: .bool false :: .bool false :: .bool false :: .int .i64 ((m : Nat) : Int) :: .int .i64 ((n : Nat) : Int) :: .bool false :: .bool false :: undef :: undef :: undef :: undef :: undef :: undef :: undef :: undef :: undef :: undef :: undef :: undef :: undef :: undef :: undef :: undef :: undef :: undef :: undef :: undef :: undef :: undef :: undef :: undef :: undef :: undef :: undef :: undef :: undef :: undef :: undef :: undef :: undef :: undef :: undef :: undef :: undef :: undef :: undef :: undef :: undef :: undef :: undef :: undef :: undef :: undef :: undef :: undef :: undef :: undef :: undef :: undef :: undef :: undef :: undef :: undef :: []).toArray, defers := [] } := h.tm.trans (by kernel_rfl)
  obtain ⟨q1, q2, q3, q4⟩ := cuts_two (w := w) m n
  have hH := hide1 h
  have hz := q3.size
  clear h
  refine reg_gen fun QQ hQQ => ?_
  go_wp2_with fail
  refine (ahead_d _ _ _).mono ?_
  rintro e w' ⟨rfl, rfl⟩
  go_wp2_with fail
  refine hQQ.out _ _ ?_
  clear hQQ QQ
  refine go_base hH.out ((.inl (.int .i64 ((m : Nat) : Int))) :: (.inl (.int .i64 ((n : Nat) : Int))) :: (.inl (.agg (ab 32 O))) :: (.inl (.agg (ab 32 R))) :: (.inl (.slice pa 0 pcap)) :: uu :: uu :: (.inr (0, pt 0)) :: (.inr (1, pt 0)) :: uu :: (.inl (.bool false)) :: (.inl (.func (.func 57) #[] #[.pointer (some ⟨w.heap.size, 0, none⟩), .pointer (some ⟨w.heap.size + 1, 0, none⟩)])) :: uu :: uu :: uu :: uu :: uu :: uu :: (.inl (.int .i64 ((n : Nat) : Int))) :: (.inl (.bool false)) :: (.inl (.bool false)) :: (.inl (.int .i64 ((n : Nat) : Int))) :: (.inl (.bool false)) :: (.inl (.bool false)) :: (.inl (.bool false)) :: (.inl (.int .i64 ((m : Nat) : Int))) :: (.inl (.bool false)) :: (.inl (.bool false)) :: (.inl (.bool false)) :: (.inl (.int .i64 ((m : Nat) : Int))) :: (.inl (.int .i64 ((n : Nat) : Int))) :: (.inl (.bool false)) :: (.inl (.bool false)) :: (.inl (.int .i64 ((m : Nat) : Int))) :: (.inl (.int .i64 ((n : Nat) : Int))) :: (.inl (.func (.func 57) #[] #[.pointer (some ⟨w.heap.size, 0, none⟩), .pointer (some ⟨w.heap.size + 1, 0, none⟩)])) :: uu :: uu :: uu :: uu :: uu :: uu :: uu :: uu :: uu :: uu :: uu :: uu :: uu :: uu :: uu :: uu :: uu :: uu :: uu :: uu :: uu :: uu :: uu :: uu :: uu :: uu :: uu :: uu :: uu :: uu :: uu :: uu :: uu :: uu :: uu :: uu :: uu :: uu :: uu :: uu :: uu :: uu :: uu :: uu :: uu :: uu :: uu :: uu :: uu :: uu :: uu :: uu :: uu :: []) q3 ?_ (by kernel_rfl)
  rintro W1b a n5 hn5 hk1b hfar h
  have hsq : ∀ v, KW W1b v → Bx v w.heap.size 3 (.int .i64 ((m : Nat) : Int)) ∧ Bx v (w.heap.size + 1) 3 (.int .i64 ((n : Nat) : Int)) := fun v hv => ⟨(hfar v hv w.heap.size (by omega) (by omega)).trans q1, (hfar v hv (w.heap.size + 1) (by omega) (by omega)).trans q2⟩
  clear hH q1 q2 q3 q4 hz hfar hn5
  generalize w.heap.size = n6 at *
  replace h := h.o0
  refine sym_then ?_
  refine sym_seq ?_
  refine St.rg h [(36, .inl (.agg (ab 32 O))), (12, .inr (2, pt 0))] [(ab 32 (fun _ => 0), 34)] [(2, ab 32 O)] [eR 0, eN 2, eS 2] ?_ ?_
  · exact oc (k_ld 0 0 (.agg (ab 32 O)) (c := ab 32 O) (ldS (F := O) 34) rfl rfl) <|
    oc (k_al 2 alS rfl rfl) <|
    oc (k_st 2 0 (.agg (ab 32 O)) (c := ab 32 (fun _ => 0)) (n := ab 32 O) (stS (F := O) (c := ab 32 (fun _ => 0)) 34 (ab_size _ _)) rfl rfl) <|
    ok_nil
  clear h; intro β a w h
  refine sym_then ?_
  refine sym_seq ?_
  refine sym_seq ?_
  refine St.r0 h [(37, .inl (.func (.func 57) #[] #[.pointer (some ⟨n6, 0, none⟩), .pointer (some ⟨n6 + 1, 0, none⟩)])), (38, .inl (.int .i64 ((s : Nat) : Int))), (39, .inl (.bool true))] [] ?_ ?_
  · exact oz (k_mv (.inl rfl) rfl) <|
    oz (k_cw 35 #[.func (.func 57) #[] #[.pointer (some ⟨n6, 0, none⟩), .pointer (some ⟨n6 + 1, 0, none⟩)]] (.int .i64 ((s : Nat) : Int)) (fun w hw => hst n6 w (hsq w hw).1 (hsq w hw).2) rfl rfl) <|
    oz (k_bi (.int .i64 ((s : Nat) : Int)) (.int .i64 ((0 : Nat) : Int)) (.bool true) (gt_i (m := ((s : Nat) : Int)) (n := ((0 : Nat) : Int)) (decide_eq_true (by omega))) rfl rfl) <|
    ok_nil
  clear h; intro β a w h
  refine sym_then ?_
  refine s_ct h ?_
  refine sym_seq ?_
  refine sym_seq ?_
  refine St.r0 h [(40, .inl (.slice pa 0 pcap)), (41, .inl (.int .i64 ((0 : Nat) : Int))), (42, .inl (.bool true))] [] ?_ ?_
  · exact oz (k_mv (.inl rfl) rfl) <|
    oz (k_ln (ad := pa) 0 pcap rfl rfl (fun w => len_ss _ w)) <|
    oz (k_bi (.int .i64 ((0 : Nat) : Int)) (.int .i64 ((0 : Nat) : Int)) (.bool true) (eq_i (m := ((0 : Nat) : Int)) (n := ((0 : Nat) : Int)) (decide_eq_true (by omega))) rfl rfl) <|
    ok_nil
  clear h; intro β a w h
  refine sym_then ?_
  refine s_ct h ?_
  refine sym_seq ?_
  refine St.r0 h [] [] ?_ ?_
  · exact oz (k_mv (.inr rfl) rfl) <|
    ok_nil
  clear h; intro β a w h
  refine sym_then ?_
  refine wp_ret ?_
  refine then_ret ?_
  refine then_ret ?_
  replace h := h.unb hk1b
  exact s_rt h Tryd.results14 (fun hb => ⟨rfl, hb⟩)
end Go.Proofs.YtgnmnoadfjdjdaaDoor

namespace Go.Proofs.YtgnmnoadfjdjdaaDoor
open Go.RowKit Go.Maps Go.Shelf Sh

/-- What Extends answers where the range is right. -/
def extN (m n : Nat) (O R : Nat → Nat) (ps : List (Nat → Nat)) : Bool := decide (ps.length = nds m n true) && (eqD (wasB true m n O ps) O && eqD (nowB true m n O ps) R)
def rngB (m n : Int) : Prop := 1 ≤ n ∧ n ≤ 1048576 ∧ 1 ≤ m ∧ m ≤ n
theorem ext_bad {m n : Int} {q pcap : Nat} {pa : Option Addr} {O R : Nat → Nat} {W0 : World} (h : ¬ rngB m n) : Calls Tryd.prog 14 #[.int .i64 m, .int .i64 n, .agg (ab 32 O), .agg (ab 32 R), .slice pa q pcap] W0 fun e w' => e = .returned (.bool false) ∧ Below W0.heap.size W0 w' := by
  by_cases h1 : n < 1
  · exact ext_n1 h1
  · by_cases h2 : 1048576 < n
    · exact ext_n2 h2
    · by_cases h3 : m < 1
      · exact ext_m1 (by omega) (by omega) h3
      · exact ext_m2 (by omega) (by omega) (by omega) (by unfold rngB at h; omega)
theorem ahead_le2 (m n : Nat) : (aheadL m n).length ≤ n := Nat.le_trans (List.takeWhile_prefix _).length_le (way_le _ _)
theorem ext_d {m n q pcap : Nat} {pa : Option Addr} {ps : List (Nat → Nat)} {O R : Nat → Nat} {W0 : World} (hg : Gl W0) (hO : ∀ i, O i < 256) (hm1 : 1 ≤ m) (hmn : m ≤ n) (hn : n ≤ 1048576) (hq : ps.length = q) (hqc : q ≤ pcap) (hS : SsAt W0 pa ps) :
    Calls Tryd.prog 14 #[.int .i64 ((m : Nat) : Int), .int .i64 ((n : Nat) : Int), .agg (ab 32 O), .agg (ab 32 R), .slice pa q pcap] W0 fun e w' => e = .returned (.bool (extN m n O R ps)) ∧ Below W0.heap.size W0 w' := by
  have eg := enters_of Tryd.func57 (by kernel_rfl) rfl
  have hx := ahead_le2 m n
  have hst : ∀ g w, Bx w g 3 (.int .i64 ((m : Nat) : Int)) → Bx w (g + 1) 3 (.int .i64 ((n : Nat) : Int)) → Calls Tryd.prog 35 #[.func (.func 57) #[] #[.pointer (some ⟨g, 0, none⟩), .pointer (some ⟨g + 1, 0, none⟩)]] w fun e w' => e = .returned (.int .i64 ((stF (aheadL m n) : Nat) : Int)) ∧ Below w.heap.size w w' := fun g w h1 h2 =>
    start_d eg (ahead_seq hm1 hmn hn h1 h2) (fun j hj => by rcases hj with rfl | rfl; exact h1.lt; exact h2.lt)
  have hup : ∀ g w, Bx w g 3 (.int .i64 ((m : Nat) : Int)) → Bx w (g + 1) 3 (.int .i64 ((n : Nat) : Int)) → Calls Tryd.prog 40 #[.func (.func 57) #[] #[.pointer (some ⟨g, 0, none⟩), .pointer (some ⟨g + 1, 0, none⟩)]] w fun e W' => ∃ a cap, e = .returned (.slice a (aheadL m n).length cap) ∧ (aheadL m n).length ≤ cap ∧ CsAt W' a (aheadL m n).reverse ∧ (∀ p, 0 < (aheadL m n).length → a = some p → w.heap.size ≤ p.block) ∧ Below w.heap.size w W' := fun g w h1 h2 =>
    upward_d eg (ahead_seq hm1 hmn hn h1 h2) (fun j hj => by rcases hj with rfl | rfl; exact h1.lt; exact h2.lt) (by omega)
  have lc : (aheadL m n).reverse.length = (aheadL m n).length := List.length_reverse
  by_cases h0 : stF (aheadL m n) = 0
  · have hnd : nds m n true = (aheadL m n).length := by unfold nds; simp [h0]
    have hw : wasB true m n O ps = firstL (aheadL m n).reverse ps O := by unfold wasB Q0 F0; simp [h0]
    have hv : nowB true m n O ps = comeL (aheadL m n).reverse ps O := by unfold nowB Q0 F0; simp [h0]
    obtain ⟨qb, qo, ea⟩ := ss_ad hS hq
    unfold extN
    rw [hw, hv, hnd]
    by_cases hl : q = (aheadL m n).length
    · have t1 : (aheadL m n).reverse.take (aheadL m n).length = (aheadL m n).reverse := List.take_of_length_le (by omega)
      have t2 : ps.take (aheadL m n).length = ps := List.take_of_length_le (by omega)
      rw [decide_eq_true (by omega), Bool.true_and]
      subst hl
      cases hb1 : eqD (firstL (aheadL m n).reverse ps O) O with
      | false => exact ext0_f hg hm1 hmn hn hO hS.1 lc hq (by omega) h0 ea (fun w hw => hS.later hw.below) hst hup (by rw [t1, t2]; exact hb1)
      | true =>
        cases hb2 : eqD (comeL (aheadL m n).reverse ps O) R with
        | false => exact ext0_tf hg hm1 hmn hn hO hS.1 lc hq (by omega) h0 ea (fun w hw => hS.later hw.below) hst hup (by rw [t1, t2]; exact hb1) (by rw [t1, t2]; exact hb2)
        | true => exact ext0_tt hg hm1 hmn hn hO hS.1 lc hq (by omega) h0 ea (fun w hw => hS.later hw.below) hst hup (by rw [t1, t2]; exact hb1) (by rw [t1, t2]; exact hb2)
    · rw [decide_eq_false (by omega), Bool.false_and]
      exact ext0_len hg hm1 hmn hn hO hS.1 lc hq (by omega) h0 ea (fun w hw => hS.later hw.below) hst hup hl
  · have hnd : nds m n true = 1 + (aheadL m n).length := by unfold nds; simp [h0]
    have hw : wasB true m n O ps = firstL (aheadL m n).reverse (ps.drop 1) (ps.getD 0 fun _ => 0) := by unfold wasB Q0 F0; simp [h0]
    have hv : nowB true m n O ps = comeL (aheadL m n).reverse (ps.drop 1) (ps.getD 0 fun _ => 0) := by unfold nowB Q0 F0; simp [h0]
    unfold extN
    rw [hw, hv, hnd]
    rcases Nat.eq_zero_or_pos q with hq0 | hq0
    · subst hq0
      rw [decide_eq_false (by omega), Bool.false_and]
      exact ext_nil hm1 hmn hn h0 hst
    · obtain ⟨pb, po, rfl, _⟩ := hS.2 (by omega)
      obtain ⟨ad, hsl, hss⟩ := sl_one (b := pb) (off := po) (n := q) (cap := pcap) hq0 hqc
      have hss' : ∀ w, KW (wd W0) w → SsAt w ad (ps.drop 1) := fun w hw => hss w ps hq (hS.later hw.below)
      have hld : ∀ w, KW (wd W0) w → (Instr.loadAt 34 (.pointer (some ⟨pb, po + 32 * 0, none⟩))).run Tryd.prog w = .ok (.agg (ab 32 (ps.getD 0 fun _ => 0))) w := fun w hw => ld_st2 (n := q) (hS.later hw.below) (fun _ => rfl) (by omega)
      have hld1 : (ps.drop 1).length = q - 1 := by rw [List.length_drop, hq]
      obtain ⟨qb, qo, ea⟩ := ss_ad (hss W0 ps hq hS) hld1
      have hP0 := getD_lt hS.1 0
      have hpl : ∀ P ∈ ps.drop 1, ∀ j, P j < 256 := fun P hP => hS.1 P (List.mem_of_mem_drop hP)
      by_cases hl : q - 1 = (aheadL m n).length
      · have t1 : (aheadL m n).reverse.take (aheadL m n).length = (aheadL m n).reverse := List.take_of_length_le (by omega)
        have t2 : (ps.drop 1).take (aheadL m n).length = ps.drop 1 := List.take_of_length_le (by omega)
        rw [decide_eq_true (by omega), Bool.true_and]
        rw [hl] at hsl hld1 ea
        cases hb1 : eqD (firstL (aheadL m n).reverse (ps.drop 1) (ps.getD 0 fun _ => 0)) O with
        | false => exact ext1_f hg hm1 hmn hn hP0 hpl lc hld1 (by omega) h0 (fun _ => rfl) hq0 hld hsl ea hss' hst hup (by rw [t1, t2]; exact hb1)
        | true =>
          cases hb2 : eqD (comeL (aheadL m n).reverse (ps.drop 1) (ps.getD 0 fun _ => 0)) R with
          | false => exact ext1_tf hg hm1 hmn hn hP0 hpl lc hld1 (by omega) h0 (fun _ => rfl) hq0 hld hsl ea hss' hst hup (by rw [t1, t2]; exact hb1) (by rw [t1, t2]; exact hb2)
          | true => exact ext1_tt hg hm1 hmn hn hP0 hpl lc hld1 (by omega) h0 (fun _ => rfl) hq0 hld hsl ea hss' hst hup (by rw [t1, t2]; exact hb1) (by rw [t1, t2]; exact hb2)
      · rw [decide_eq_false (by omega), Bool.false_and]
        exact ext1_len hg hm1 hmn hn hP0 hpl lc hld1 (by omega) h0 (fun _ => rfl) hq0 hld hsl ea hss' hst hup hl
/-- A beginning's own proof extends. -/
theorem ext_beg {L : List (Nat → Nat)} {m n : Nat} (hL : L.length = n) (hm1 : 1 ≤ m) (hmn : m ≤ n) : extN m n (root (L.take m)) (root L) (beg L m n true) = true := by
  obtain ⟨e1, e2⟩ := both_root n m L hL hm1 hmn
  have hF : F0 true m n (root (L.take m)) (beg L m n true) = pt0 L m n ∧ Q0 true m n (beg L m n true) = asl L (aheadL m n) := by
    unfold F0 Q0 beg pt0
    by_cases h0 : stF (aheadL m n) = 0
    · simp [h0]
      have : part L 0 m = L.take m := rfl
      rw [this]
    · simp [h0]
  unfold extN wasB nowB
  rw [hF.1, hF.2, e1, e2, nds_beg, eqD_iff.2 (fun _ _ => rfl), eqD_iff.2 (fun _ _ => rfl), decide_eq_true rfl]
  rfl
end Go.Proofs.YtgnmnoadfjdjdaaDoor

namespace Go.Proofs.YtgnmnoadfjdjdaaDoor
open Go.RowKit Go.Maps Sh

theorem TsV.weak {B B' : Nat} {T : List (Nat → Nat)} {v : Value} {w : World} (h : TsV B T v w) (hB : B' ≤ B) : TsV B' T v w := by
  obtain ⟨h0, xs, h1, h2⟩ := h
  exact ⟨Nat.le_trans hB h0, xs, own_mono h1 hB, h2.map (fun h => h.mono hB)⟩
theorem snoc_of {ps : List (Nat → Nat)} {m : Nat} (h : ps.length = m) (hm : 1 ≤ m) : ps = ps.take (m - 1) ++ [ps.getD (m - 1) fun _ => 0] := by
  have := List.take_succ_eq_append_getElem (l := ps) (i := m - 1) (by omega)
  rw [show m - 1 + 1 = m by omega, List.take_of_length_le (by omega)] at this
  conv => lhs; rw [this]
  congr 2
  simp [List.getD_eq_getElem?_getD, show m - 1 < ps.length by omega]
theorem refBoth_d : ∀ (n m : Nat) (ps : List (Nat → Nat)) (q : Nat) (a : Option Addr) (cap : Nat) (al : Bool) (F : Nat → Nat) (W0 : World), 1 ≤ m → m ≤ n → n ≤ 1048576 → ps.length = q → q = nds m n al → q ≤ 1000 → q ≤ cap → (∀ j, F j < 256) → SsAt W0 a ps → Calls Tryd.prog 46 #[.int .i64 ((m : Nat) : Int), .int .i64 ((n : Nat) : Int), .bool al, .agg (ab 32 F), .slice a q cap] W0 fun e w' => ∃ tv, e = .returned (.tuple #[.agg (ab 32 (wasB al m n F ps)), .agg (ab 32 (nowB al m n F ps)), tv]) ∧ TsV W0.heap.size (txB al m n F ps) tv w' ∧ Below W0.heap.size W0 w' := by
  intro n
  induction n using Nat.strongRecOn with
  | ind n ih =>
    intro m ps q a cap al F W0 hm1 hmn hn hq hl hq2 hcap hF hs
    rcases Nat.lt_or_ge m n with hlt | hge
    · have h2 : 2 ≤ n := by omega
      have hk := cut_in h2
      have hq1 : 1 ≤ q := by
        rcases Nat.lt_or_ge (cut n) m with h | h
        · rw [nds_hi hlt h2 h] at hl; omega
        · rw [nds_lo hm1 h2 h] at hl; omega
      obtain ⟨b, off, rfl, _⟩ := hs.2 (by omega)
      have hld : ∀ w, Below W0.heap.size W0 w → (Instr.loadAt 34 (.pointer (some ⟨b, off + 32 * (q - 1), none⟩))).run Tryd.prog w = .ok (.agg (ab 32 (ps.getD (q - 1) fun _ => 0))) w := fun w hw => ld_st2 (n := q) (hs.later hw) (fun _ => rfl) (by omega)
      have hPl := getD_lt hs.1 (q - 1)
      have hpt : ∀ P ∈ ps.take (q - 1), ∀ j, P j < 256 := fun P hP => hs.1 P (List.mem_of_mem_take hP)
      have e1 := snoc_of hq hq1
      have lt1 : (ps.take (q - 1)).length = q - 1 := by rw [List.length_take]; omega
      rw [e1]
      rcases Nat.lt_or_ge (cut n) m with h | h
      · rw [nds_hi hlt h2 h] at hl
        have hl' : (ps.take (q - 1)).length = nds (m - cut n) (n - cut n) false := by omega
        obtain ⟨b1, b2, b3⟩ := both_hi (all := al) (old := F) (p := ps.getD (q - 1) fun _ => 0) hlt h2 h hl'
        rw [b1, b2, b3]
        have htl := txB_len (all := false) (m := m - cut n) (n := n - cut n) (old := F) (ps := ps.take (q - 1))
        exact both_hi_r hn hq1 hq2 hcap hk h hlt (by omega) (wasB_lt hF hpt) (nowB_lt hF hpt) hPl hld (fun w hw => (ih (n - cut n) (by omega) (m - cut n) (ps.take (q - 1)) (q - 1) _ cap false F w (by omega) (by omega) (by omega) lt1 (by omega) (by omega) (by omega) hF (hs.lo.later hw)).mono fun e w' ⟨tv, q1, q2, q3⟩ => ⟨tv, q1, q2.weak hw.size, q3⟩)
      · rw [nds_lo hm1 h2 h] at hl
        have hl' : (ps.take (q - 1)).length = nds m (cut n) al := by omega
        obtain ⟨b1, b2, b3⟩ := both_lo (all := al) (old := F) (p := ps.getD (q - 1) fun _ => 0) hm1 h2 h hl'
        rw [b1, b2, b3]
        have htl := txB_len (all := al) (m := m) (n := cut n) (old := F) (ps := ps.take (q - 1))
        exact both_lo_r hn hq1 hq2 hcap hk h hlt (by omega) (nowB_lt hF hpt) hPl hld (fun w hw => (ih (cut n) hk.2.1 m (ps.take (q - 1)) (q - 1) _ cap al F w hm1 h (by omega) lt1 (by omega) (by omega) (by omega) hF (hs.lo.later hw)).mono fun e w' ⟨tv, q1, q2, q3⟩ => ⟨tv, q1, q2.weak hw.size, q3⟩)
    · obtain rfl : m = n := by omega
      obtain ⟨b1, b2, b3⟩ := both_eq hm1 al F ps
      rw [b1, b2, b3]
      rw [nds_eq hm1] at hl
      cases al with
      | true => exact both_rA
      | false =>
        obtain rfl : q = 1 := hl
        obtain ⟨b, off, rfl, _⟩ := hs.2 (by omega)
        exact both_rB (by decide) (fun w hw => ld_st2 (n := 1) (hs.later hw) (fun _ => rfl) (by omega))
end Go.Proofs.YtgnmnoadfjdjdaaDoor

namespace Go.Proofs.YtgnmnoadfjdjdaaDoor
open Go.RowKit Go.Maps Sh

set_option maxRecDepth 100000 in
theorem laidO : laidOutB Tryd.prog = true := by kernel_rfl
set_option maxRecDepth 100000 in
theorem rowK : (34 : TypeId) < Tryd.prog.types.size := of_decide_eq_true (by kernel_rfl)
set_option maxRecDepth 100000 in
theorem wideK : (match Tryd.prog.underlying 34 with | some (.array _ _) | some (.struct _) => true | _ => false) = true := by rw [Tryd.underlying34]
set_option maxRecDepth 100000 in
theorem keyL : Keyed Tryd.prog 34 := Keyed.of_law (deep_law_laid laidO (m := 3) (by omega) rowK (by kernel_rfl) wideK)
set_option maxRecDepth 100000 in
theorem mapM_some {α β : Type} {f : α → Option β} {g : α → β} : ∀ l : List α, (∀ x ∈ l, f x = some (g x)) → l.mapM f = some (l.map g)
  | [], _ => rfl
  | x :: r, h => by
    rw [List.mapM_cons, h x (by simp), mapM_some r (fun y hy => h y (by simp [hy]))]; rfl
set_option maxRecDepth 100000 in
theorem key_s (F : Nat → Nat) (hF : ∀ i, F i < 256) : ∃ kl, keyOf Tryd.prog 34 (.agg (ab 32 F)) = some kl := by
  have h1 : Tryd.prog.keyType 34 = true := by kernel_rfl
  have c1 : Tryd.prog.cellsOf 5 = 1 := by kernel_rfl
  have c2 : Tryd.prog.cellsOf 34 = 32 := by kernel_rfl
  have h2 : (Value.agg (ab 32 F)).formed Tryd.prog 34 = true := by simp [Value.formed, Tryd.underlying34, c2, ab_size]
  have hl : (Value.agg (ab 32 F)).cells.toList = (List.range 32).map fun j => Value.int .u8 ((F j : Nat) : Int) := by
    show (ab 32 F).toList = _
    rw [ab_list]
  have h3 : Tryd.prog.keyLits (Tryd.prog.types.size + 1) 34 (Value.agg (ab 32 F)).cells.toList = some (((List.range 32).map fun i => [Lit.int .u8 ((F i : Nat) : Int)]).flatten) := by
    rw [hl]
    unfold Program.keyLits
    rw [Tryd.underlying34]
    have hm : (List.range 32).mapM (fun i => Tryd.prog.keyLits Tryd.prog.types.size 5 ((((List.range 32).map fun j => Value.int .u8 ((F j : Nat) : Int)).drop (i * Tryd.prog.cellsOf 5)).take (Tryd.prog.cellsOf 5))) = some ((List.range 32).map fun i => [Lit.int .u8 ((F i : Nat) : Int)]) := by
      refine mapM_some _ fun i hi => ?_
      have hi := List.mem_range.1 hi
      rw [c1, Nat.mul_one]
      have e : (((List.range 32).map fun j => Value.int .u8 ((F j : Nat) : Int)).drop i).take 1 = [Value.int .u8 ((F i : Nat) : Int)] := by
        rw [List.take_one, List.head?_drop, List.getElem?_map, List.getElem?_range hi]; rfl
      rw [e]
      obtain ⟨k, hk⟩ : ∃ k, Tryd.prog.types.size = k + 1 := ⟨Tryd.prog.types.size - 1, (Nat.succ_pred_eq_of_pos (Nat.lt_of_le_of_lt (Nat.zero_le _) rowK)).symm⟩
      rw [hk]
      unfold Program.keyLits
      rw [Tryd.underlying5]
      have hw : (Lit.int .u8 ((F i : Nat) : Int)).wf = true := by
        have := hF i
        simp only [Lit.wf, Bool.and_eq_true, decide_eq_true_eq]
        have e1 : IntKind.u8.min = 0 := rfl
        have e2 : IntKind.u8.max = 255 := rfl
        omega
      simp [hw]
    simp only [List.length_map, List.length_range, c2, if_true, hm, Option.map_some]
  refine ⟨.string (keyBytes (((List.range 32).map fun i => [Lit.int .u8 ((F i : Nat) : Int)]).flatten)), ?_⟩
  unfold keyOf
  rw [Tryd.underlying34]
  simp only [h1, h2, Bool.and_self, if_true, h3, Option.map_some]
end Go.Proofs.YtgnmnoadfjdjdaaDoor

namespace Go.Proofs.YtgnmnoadfjdjdaaDoor
open Go.RowKit Go.Maps Sh

theorem str_inj {x y : List Int} (hx : ∀ z ∈ x, 0 ≤ z ∧ z < 256) (hy : ∀ z ∈ y, 0 ≤ z ∧ z < 256) (h : (strOfNums x).data.toList = (strOfNums y).data.toList) : x = y := by
  have h1 : x.map (fun n => UInt8.ofNat n.toNat) = y.map (fun n => UInt8.ofNat n.toNat) := by
    rw [← strOfNums_data, ← strOfNums_data]; exact h
  have h2 : ∀ l : List Int, (∀ z ∈ l, 0 ≤ z ∧ z < 256) → (l.map (fun n => UInt8.ofNat n.toNat)).map (fun u => ((u.toNat : Nat) : Int)) = l := by
    intro l hl
    rw [List.map_map]
    conv => rhs; rw [← List.map_id l]
    apply List.map_congr_left
    intro z hz
    have := hl z hz
    simp
    omega
  rw [← h2 x hx, ← h2 y hy, h1]
/-- A text's string. -/
def stT (T : Nat → Nat) : ByteArray := strOfNums (numsF 65 T)
theorem stT_inj {T U : Nat → Nat} (hT : ∀ i, T i < 256) (hU : ∀ i, U i < 256) (h : (stT T).data.toList = (stT U).data.toList) : ∀ i, i < 65 → T i = U i := by
  have hb : ∀ {V : Nat → Nat}, (∀ i, V i < 256) → ∀ z ∈ numsF 65 V, 0 ≤ z ∧ z < 256 := by
    intro V hV z hz
    obtain ⟨i, _, rfl⟩ := List.mem_map.1 hz
    have := hV i
    omega
  have h1 := str_inj (hb hT) (hb hU) h
  intro i hi
  have h2 := congrArg (·[i]?) h1
  simp only [numsF, List.getElem?_map, List.getElem?_range hi, Option.map_some, Option.some.injEq] at h2
  omega
theorem stT_size (T : Nat → Nat) : (stT T).size ≤ maxLen := by
  have h1 : (stT T).data.toList.length = 65 := by
    unfold stT
    rw [strOfNums_data]; simp [numsF]
  have h2 : (stT T).size = 65 := by
    rw [Array.length_toList] at h1
    exact h1
  unfold maxLen; omega
/-- What the rounds have seen: each text's string stands at its digest. -/
def Seen (D : DataW Unit) (key : Nat → Lit) (T : List (Nat → Nat)) (k : Nat) : Prop := ∀ i, i < k → D.atKey (key i) .nil = .lit (.string (stT (T.getD i fun _ => 0)).data.toList)
theorem isMap_own {w : World} {P : Program} {k : TypeId} {R : Value → Option (DataW Unit × List MemPlace)} {b n : Nat} {D : DataW Unit} (h : w.ownsMap P k R b n D) : IsMap D := by
  obtain ⟨es, clock, _, _, _, rfl⟩ := h
  exact ⟨_, rfl⟩
set_option maxRecDepth 100000 in
/-- A look-up: nothing there, or a text's string. -/
theorem look_s {w : World} {b n : Nat} {D : DataW Unit} {F : Nat → Nat} {kl : Lit} (h : w.ownsMap Tryd.prog 34 (plainElem Tryd.prog 9) b n D) (hk : keyOf Tryd.prog 34 (.agg (ab 32 F)) = some kl) :
    ((Instr.lookup 107 (.map (some b)) (.agg (ab 32 F)) true).run Tryd.prog w = .ok (.tuple #[.string ByteArray.empty, .bool false]) w ∧ ∀ z, D.atKey kl z = z) ∨
    ∃ s, (Instr.lookup 107 (.map (some b)) (.agg (ab 32 F)) true).run Tryd.prog w = .ok (.tuple #[.string s, .bool true]) w ∧ ∀ z, D.atKey kl z = .lit (.string s.data.toList) := by
  obtain ⟨es, clock, hb, hF, _, rfl⟩ := h
  have hz : (zeroValue 9).run Tryd.prog w = .ok (.string ByteArray.empty) w := by kernel_rfl
  rcases fit_look true keyL Tryd.underlying107 hz hb hF hk with ⟨h1, _, h2⟩ | ⟨e0, y, _, _, h1, h2, h3, _⟩
  · exact .inl ⟨h1, h2⟩
  · refine .inr ?_
    have hy : ∃ s, e0.val = .string s ∧ y.1 = .lit (.string s.data.toList) := by
      unfold plainElem at h2
      rw [Tryd.underlying9] at h2
      cases hv : e0.val with
      | string s =>
        rw [hv] at h2
        simp only at h2
        split at h2
        · cases h2; exact ⟨s, rfl, rfl⟩
        · cases h2
      | _ => rw [hv] at h2; simp at h2
    obtain ⟨s, e1, e2⟩ := hy
    refine ⟨s, by rw [h1, e1]; rfl, fun z => by rw [h3 z, e2]⟩
end Go.Proofs.YtgnmnoadfjdjdaaDoor

namespace Go.Proofs.YtgnmnoadfjdjdaaDoor
open Go.RowKit Go.Maps Sh

theorem wpList_append_sl {w : World} {ops : Array Oper} {rest : List Oper} {o : Oper} {a : Act} {Q : Exit → Act → World → Prop} (hgd : o.guard = none) (s x : Operand)
    (ho : o.op = .call { callee := .builtin .append, args := #[s, x], argTypes := #[78, 78] }) (base : Nat)
    (v : Value) (n : Nat) (xs : List Value) (hs : a.eval s = v) (hown : w.ownsRow base 97 1 v n xs) (u : Value) (m : Nat) (ys : List Value) (hx : a.eval x = u) (hu : w.ownsRow 0 97 1 u m ys) (h1 : ∀ y ∈ ys, y.oneCell' = true)
    (hbytes : n + m ≤ 1000000) (hbase : base ≤ w.heap.size)
    (h : ∀ v' w', w'.ownsRow base 97 1 v' (n + m) (xs ++ ys) → w.grownBy w' v.ownBlock → wpList Tryd.prog ops Q rest (a.put o.dst v') w') : wpList Tryd.prog ops Q (o :: rest) a w := by
  refine wpList_plain hgd fun K hK => ?_
  obtain ⟨v', w', hr, h2, h3⟩ := run_append_sl w base o.type v n xs hown u m ys hu h1 hbytes hbase
  unfold Oper.wp execOp
  simp only [ho, resolve, invoke, builtin, Sem.run_bind, Sem.run_pure, Result.andThen_ok, List.map_toArray, List.map_cons, List.map_nil, hs, hx, hr]
  exact hK _ _ (h v' w' h2 h3)
/-- What stands while the texts are gone through. -/
structure Un (W0 w : World) (bm g cap : Nat) (xs : List Value) (T : List (Nat → Nat)) (key : Nat → Lit) (k : Nat) (D : DataW Unit) : Prop where
  row : w.ownsRow W0.heap.size 97 1 (.slice (some ⟨g, 0, none⟩) T.length cap) T.length xs
  ts : TsAt w W0.heap.size xs T
  bl : Below W0.heap.size W0 w
  mp : w.ownsMap Tryd.prog 34 (plainElem Tryd.prog 9) bm k D
  mb : W0.heap.size ≤ bm
  sn : Seen D key T k
theorem Un.later {W0 w w' : World} {bm g cap : Nat} {xs : List Value} {T : List (Nat → Nat)} {key : Nat → Lit} {k : Nat} {D : DataW Unit} (h : Un W0 w bm g cap xs T key k D) (hb : Below w.heap.size w w') : Un W0 w' bm g cap xs T key k D :=
  ⟨own_at h.row hb, h.ts.map fun t => t.later hb, h.bl.trans (hb.mono h.bl.size), by
    obtain ⟨es, clock, h1, h2⟩ := h.mp
    exact ⟨es, clock, (hb.block bm (Array.getElem?_eq_some_iff.1 h1).1).trans h1, h2⟩, h.mb, h.sn⟩
/-- .. behind a store into the map. -/
theorem Un.next {W0 w w' : World} {bm g cap : Nat} {xs : List Value} {T : List (Nat → Nat)} {key : Nat → Lit} {k : Nat} {D : DataW Unit} (h : Un W0 w bm g cap xs T key k D) (hg : w.grownBy w' (some bm)) (hm : w'.ownsMap Tryd.prog 34 (plainElem Tryd.prog 9) bm (k + 1) (D.put (key k) (.lit (.string (stT (T.getD k fun _ => 0)).data.toList)))) (hk : WideAt.IsKeyLit (key k)) (hsn : ∀ i, i < k → key i = key k → (stT (T.getD i fun _ => 0)).data.toList = (stT (T.getD k fun _ => 0)).data.toList) :
    Un W0 w' bm g cap xs T key (k + 1) (D.put (key k) (.lit (.string (stT (T.getD k fun _ => 0)).data.toList))) := by
  obtain ⟨es, clock, hm1, _⟩ := h.mp
  have hne : ∀ q c t, w.heap[q]? = some (.cells c t (0, 0)) → some q ≠ some bm := by
    intro q c t hq e
    cases e
    rw [hm1] at hq; cases hq
  refine ⟨⟨h.row.1, ?_⟩, h.ts.map fun t => ?_, h.bl.grown hg h.bl.size (fun q e => by cases e; exact h.mb), hm, h.mb, fun i hi => ?_⟩
  · rcases h.row.2 with ⟨e, _⟩ | ⟨q, c, cur, e1, hb', hq, r⟩
    · cases e
    · exact .inr ⟨q, c, cur, e1, hb', (hg.block q (Array.getElem?_eq_some_iff.1 hq).1 (hne _ _ _ hq)).trans hq, r⟩
  · obtain ⟨b, c, cp, e, h1, h2, h3, h4⟩ := t
    exact ⟨b, c, cp, e, h1, h2, (hg.block b (Array.getElem?_eq_some_iff.1 h3).1 (hne _ _ _ h3)).trans h3, h4⟩
  · by_cases e : key i = key k
    · rw [e, atKey_put_same (isMap_own h.mp) hk]
      by_cases e2 : i = k
      · rw [e2]
      · rw [hsn i (by omega) e]
    · rw [atKey_put_other e]
      exact h.sn i (by
        have : i ≠ k := fun e2 => e (by rw [e2])
        omega)
set_option maxHeartbeats 8000000 in
set_option maxRecDepth 100000 in
theorem clash_d {g cap : Nat} {zs : List Value} {TT : List (Nat → Nat)} {W0 wc : World} (hNp : 0 < TT.length) (hN : TT.length ≤ 1000) (hb8 : Below W0.heap.size W0 wc) (ho8' : wc.ownsRow W0.heap.size 97 1 (.slice (some ⟨g, 0, none⟩) TT.length cap) TT.length zs) (hts8 : TsAt wc W0.heap.size zs TT) (hTg : ∀ i j, (TT.getD i fun _ => 0) j < 256)
    (hex : ∃ i j, i < TT.length ∧ j < TT.length ∧ Clash (TT.getD i fun _ => 0) (TT.getD j fun _ => 0)) : Calls Tryd.prog 47 #[.slice (some ⟨g, 0, none⟩) TT.length cap] wc fun e w' => e = .returned (.bool true) ∧ Below W0.heap.size W0 w' := by
  have hkx : ∀ i, ∃ kl, keyOf Tryd.prog 34 (.agg (ab 32 (dg 65 (TT.getD i fun _ => 0)))) = some kl := fun i => key_s _ (dg_lt _ _)
  obtain ⟨key, hkey⟩ : ∃ key : Nat → Lit, ∀ i, keyOf Tryd.prog 34 (.agg (ab 32 (dg 65 (TT.getD i fun _ => 0)))) = some (key i) := ⟨fun i => Classical.choose (hkx i), fun i => Classical.choose_spec (hkx i)⟩
  have hsh := fun (w : World) a cap i (hb : Bs w a 65 (TT.getD i fun _ => 0)) => refShort_d (cap := cap) hb (by omega)
  obtain ⟨ci, cj, hci, hcj, hc⟩ := hex
  have hkeq : key ci = key cj := by
    have e : ab 32 (dg 65 (TT.getD ci fun _ => 0)) = ab 32 (dg 65 (TT.getD cj fun _ => 0)) := arr_congr fun i hi => by rw [hc.1 i hi]
    have h1 := hkey ci
    rw [e, hkey cj] at h1
    exact (Option.some.inj h1).symm
  have hsne : (stT (TT.getD ci fun _ => 0)).data.toList ≠ (stT (TT.getD cj fun _ => 0)).data.toList := fun h => by
    obtain ⟨i, hi, hne⟩ := hc.2
    exact hne (stT_inj (hTg ci) (hTg cj) h i hi)
  have hcv : ∀ (w : World) (a : Option Addr) (i cap : Nat), Bs w a 65 (TT.getD i fun _ => 0) → (convert 97 9 (.slice a 65 cap)).run Tryd.prog w = .ok (.string (stT (TT.getD i fun _ => 0))) w := fun w a i cap hb => conv_f hb cap
  clear hkx hc
  have hal5 : Below wc.heap.size wc (wc.alloc (.map #[] 0)) := (Below.refl _ _).alloc (Nat.le_refl _) _
  have hmp5 := World.ownsMap_made wc Tryd.prog 34 (plainElem (H := Unit) Tryd.prog 9)
  have hU : Un W0 (wc.alloc (.map #[] 0)) wc.heap.size g cap zs TT key 0 (.map []) := ⟨own_at ho8' hal5, hts8.map (fun h => h.later hal5), blw hb8 hal5, hmp5, hb8.size, fun i hi => absurd hi (by omega)⟩
  clear ho8' hts8 hb8 hmp5 hal5
  have hmm := @run_makeMap Tryd.prog
  go_enter Tryd.func47, Tryd.ntmps47
  go_wp2_with fail
  clear hmm
  generalize wc.alloc (.map #[] 0) = w8 at hU ⊢
  generalize wc.heap.size = bm at *
  go_loopw [12] (fun v wr => ∃ (k : Nat) (D : DataW Unit), k ≤ TT.length ∧ v = .int .i64 k ∧ Un W0 wr bm g cap zs TT key k D) (fun v _ => TT.length - (intOf v).toNat)
  case atStart => exact ⟨0, _, Nat.zero_le _, rfl, hU⟩
  case round =>
    clear hU
    obtain ⟨k, D, hk, rfl, hU⟩ := hrel
    by_cases hlt : k < TT.length
    · have hcl := hU.row.cellAt k (by omega)
      obtain ⟨tb, tc, tcap, htv, _, _, _, _⟩ := hU.ts.2 k hlt
      have hzl := hU.ts.1
      rw [List.getD_eq_getElem?_getD] at htv
      have hzk : zs[k]? = some (.slice (some ⟨tb, 0, none⟩) 65 tcap) := by
        rw [List.getElem?_eq_getElem (by omega)] at htv ⊢
        exact congrArg some htv
      replace hcl : wr.cell? ⟨g, k, none⟩ = some (.slice (some ⟨tb, 0, none⟩) 65 tcap) := by rw [← hzk]; exact hcl
      obtain ⟨ta, tcap2, e2, htb⟩ := (hU.ts.2 k hlt).bs (hTg k)
      rw [List.getD_eq_getElem?_getD, hzk, Option.getD_some] at e2
      cases e2
      clear htv hzk hzl
      have hsk := hsh wr _ tcap k htb
      have hky := hkey k
      have hkl : WideAt.IsKeyLit (key k) := keyL.key hky
      obtain ⟨S, hS⟩ : ∃ S, Hid (S = stT (TT.getD k fun _ => 0)) := ⟨_, hide1 rfl⟩
      have hSs : S.size ≤ maxLen := by rw [hS.out]; exact stT_size _
      generalize dg 65 (TT.getD k fun _ => 0) = F at *
      have hzs : ∀ w : World, (zeroValue 34).run Tryd.prog w = .ok (.agg (ab 32 fun _ => 0)) w := fun w => by kernel_rfl
      go_wp2_with fail
      refine hsk.mono ?_
      rintro e w9 ⟨rfl, hb9⟩
      have hal9 : Below w9.heap.size w9 (w9.alloc (.cells (ab 32 fun _ => 0) 34)) := (Below.refl _ _).alloc (Nat.le_refl _) _
      have hr9 := (MapKept.heap_alloc w9 (.cells (ab 32 fun _ => 0) 34)).1
      have hw10 := wrt_row (c' := ab 32 F) hr9
      have hb10 : Below w9.heap.size w9 ((w9.alloc (.cells (ab 32 fun _ => 0) 34)).setRow w9.heap.size (ab 32 F)) := below_wrt hal9 hw10 (Nat.le_refl _) hal9.size
      have hr10 := hw10.row
      have hU10 := hU.later (hb9.trans (hb10.mono hb9.size))
      have htb10 := htb.later (hb9.trans (hb10.mono hb9.size))
      have hcv10 := hcv _ _ k tcap htb10
      rw [← hS.out] at hcv10
      clear hsk hal9 hw10 htb htb10 hb9 hb10
      go_upto_region 6 with (refine wpList_store_row rfl 34 (.tmp 6) (.tmp 17) rfl w9.heap.size (ab 32 F) (ab 32 fun _ => 0) 34 rfl rfl (sum_sz F) hr9 (by rw [ab_size, ab_size]) (ab_one _ _) rfl ?_)
      generalize (w9.alloc (.cells (ab 32 fun _ => 0) 34)).setRow w9.heap.size (ab 32 F) = w10 at hr10 hU10 hcv10 ⊢
      clear hr9
      generalize w9.heap.size = qd at *
      have hput : plainElem (H := Unit) Tryd.prog 9 (.string S) = some (.lit (.string S.data.toList), []) := plainElem_string Tryd.underlying9 hSs
      rcases look_s hU10.mp hky with ⟨hrun, hat⟩ | ⟨s, hrun, hat⟩
      · have hsn : ∀ i, i < k → key i = key k → (stT (TT.getD i fun _ => 0)).data.toList = S.data.toList := fun i hi e => by
          have h1 := hU10.sn i hi
          rw [e, hat .nil] at h1
          cases h1
        replace hsn := hide1 hsn
        replace hky := hide1 hky
        clear hat
        go_wp2_with (first
          | (refine wpList_load_row rfl 34 (.tmp 6) rfl qd (ab 32 F) 34 rfl Tryd.underlying34 (sum_sz F) hr10 ?_)
          | (refine wpList_mapUpdate_own (H := Unit) w10 rfl (.tmp 31) (.tmp 32) (.tmp 34) 107 rfl 34 9 keyL Tryd.underlying107 (plainElem Tryd.prog 9) bm k D rfl hU10.mp (by unfold maxLen; omega) (.agg (ab 32 F)) (.string S) (key k) rfl rfl hky.out _ [] hput ?_
             intro w11 hm11 hg11
             have hU11 := hU10.next hg11 (by rw [← hS.out]; exact hm11) hkl (by rw [← hS.out]; exact hsn.out)
             clear hm11 hg11))
        exact ⟨⟨k + 1, _, by omega, by go_num, hU11⟩, by simp [intOf]; omega⟩
      · by_cases hse : s.data.toList = S.data.toList
        · have hsn : ∀ i, i < k → key i = key k → (stT (TT.getD i fun _ => 0)).data.toList = S.data.toList := fun i hi e => by
            have h1 := hU10.sn i hi
            rw [e, hat .nil] at h1
            simp only [DataW.lit.injEq, Lit.string.injEq] at h1
            rw [← h1, hse]
          have hbe : (s.toList == S.toList) = true := by rw [ByteArray.toList_eq, ByteArray.toList_eq, hse]; simp
          replace hsn := hide1 hsn
          replace hky := hide1 hky
          replace hse := hide1 hse
          clear hat
          go_wp2_with (first
            | (refine wpList_load_row rfl 34 (.tmp 6) rfl qd (ab 32 F) 34 rfl Tryd.underlying34 (sum_sz F) hr10 ?_)
            | (refine wpList_mapUpdate_own (H := Unit) w10 rfl (.tmp 31) (.tmp 32) (.tmp 34) 107 rfl 34 9 keyL Tryd.underlying107 (plainElem Tryd.prog 9) bm k D rfl hU10.mp (by unfold maxLen; omega) (.agg (ab 32 F)) (.string S) (key k) rfl rfl hky.out _ [] hput ?_
               intro w11 hm11 hg11
               have hU11 := hU10.next hg11 (by rw [← hS.out]; exact hm11) hkl (by rw [← hS.out]; exact hsn.out)
               clear hm11 hg11))
          exact ⟨⟨k + 1, _, by omega, by go_num, hU11⟩, by simp [intOf]; omega⟩
        · have hbe : (s.toList == S.toList) = false := by
            rw [ByteArray.toList_eq, ByteArray.toList_eq]
            exact beq_eq_false_iff_ne.2 hse
          have hfin := hide1 hU10.bl
          replace hky := hide1 hky
          clear hat hse
          go_wp2_with (refine wpList_load_row rfl 34 (.tmp 6) rfl qd (ab 32 F) 34 rfl Tryd.underlying34 (sum_sz F) hr10 ?_)
          go_ret
          exact ⟨rfl, hfin.out⟩
    · obtain rfl : k = TT.length := by omega
      exfalso
      have h1 := hU.sn ci hci
      have h2 := hU.sn cj hcj
      rw [hkeq, h2] at h1
      simp only [DataW.lit.injEq, Lit.string.injEq] at h1
      exact hsne h1.symm
end Go.Proofs.YtgnmnoadfjdjdaaDoor

namespace Go.Proofs.YtgnmnoadfjdjdaaDoor
open Go.RowKit Go.Maps Sh

set_option maxHeartbeats 8000000 in
set_option maxRecDepth 100000 in
theorem rext_bad {m n : Int} {q cap : Nat} {pa : Option Addr} {O R : Nat → Nat} {W0 : World} (h : ¬ rngB m n) : Calls Tryd.prog 16 #[.int .i64 m, .int .i64 n, .agg (ab 32 O), .agg (ab 32 R), .slice pa q cap] W0 fun e w' => e = .returned (.bool false) ∧ Below W0.heap.size W0 w' := by
  have bx : ∀ (A : Array Value) (w : World), (Instr.box 34 (.agg A)).run Tryd.prog w = .ok (.pointer (some ⟨w.heap.size, 0, none⟩)) (w.alloc (.cells A 34)) := fun A w => bx_agg w
  generalize ab 32 O = A at *
  generalize ab 32 R = B at *
  have hb1 : Below W0.heap.size W0 ((W0.alloc (.cells A 34)).alloc (.cells B 34)) := ((Below.refl _ _).alloc (Nat.le_refl _) _).alloc (by simp) _
  by_cases h1 : n < 1
  · go_enter Tryd.func16, Tryd.ntmps16
    go_wp2
    go_ret
    exact ⟨rfl, hb1⟩
  · by_cases h2 : 1048576 < n
    · go_enter Tryd.func16, Tryd.ntmps16
      go_wp2
      go_ret
      exact ⟨rfl, hb1⟩
    · by_cases h3 : m < 1
      · go_enter Tryd.func16, Tryd.ntmps16
        go_wp2
        go_ret
        exact ⟨rfl, hb1⟩
      · have h4 : n < m := by unfold rngB at h; omega
        go_enter Tryd.func16, Tryd.ntmps16
        go_wp2
        go_ret
        exact ⟨rfl, hb1⟩
set_option maxHeartbeats 8000000 in
set_option maxRecDepth 100000 in
theorem rext_len {m n q cap : Nat} {pa : Option Addr} {O R : Nat → Nat} {W0 : World} (hm1 : 1 ≤ m) (hmn : m ≤ n) (hn : n ≤ 1048576) (hl : q ≠ nds m n true) : Calls Tryd.prog 16 #[.int .i64 ((m : Nat) : Int), .int .i64 ((n : Nat) : Int), .agg (ab 32 O), .agg (ab 32 R), .slice pa q cap] W0 fun e w' => e = .returned (.bool false) ∧ Below W0.heap.size W0 w' := by
  have bx : ∀ (A : Array Value) (w : World), (Instr.box 34 (.agg A)).run Tryd.prog w = .ok (.pointer (some ⟨w.heap.size, 0, none⟩)) (w.alloc (.cells A 34)) := fun A w => bx_agg w
  generalize ab 32 O = A at *
  generalize ab 32 R = B at *
  have hb1 : Below W0.heap.size W0 ((W0.alloc (.cells A 34)).alloc (.cells B 34)) := ((Below.refl _ _).alloc (Nat.le_refl _) _).alloc (by simp) _
  have hne := fun w => refNeeds_d n m true w hm1 hmn hn
  have h1 : ¬ (n : Int) < 1 := by omega
  have h2 : ¬ 1048576 < (n : Int) := by omega
  have h3 : ¬ (m : Int) < 1 := by omega
  have h4 : ¬ (n : Int) < (m : Int) := by omega
  generalize nds m n true = N at *
  have h5 : ((q : Int) != (N : Int)) = true := by rw [bne_iff_ne]; omega
  go_enter Tryd.func16, Tryd.ntmps16
  go_wp2_with fail
  refine (hne _).mono ?_
  rintro e w1 ⟨rfl, rfl⟩
  go_wp2
  go_ret
  exact ⟨rfl, hb1⟩
set_option maxHeartbeats 8000000 in
set_option maxRecDepth 100000 in
theorem rext_in {m n q cap : Nat} {pa : Option Addr} {ps : List (Nat → Nat)} {O R : Nat → Nat} {W0 : World} (hm1 : 1 ≤ m) (hmn : m ≤ n) (hn : n ≤ 1048576) (hq : ps.length = q) (hl : q = nds m n true) (hq2 : q ≤ 1000) (hcap : q ≤ cap) (hO : ∀ i, O i < 256) (hs : SsAt W0 pa ps) : Calls Tryd.prog 16 #[.int .i64 ((m : Nat) : Int), .int .i64 ((n : Nat) : Int), .agg (ab 32 O), .agg (ab 32 R), .slice pa q cap] W0 fun e w' => e = .returned (.bool (eqD (wasB true m n O ps) O && eqD (nowB true m n O ps) R)) ∧ Below W0.heap.size W0 w' := by
  have bx : ∀ (A : Nat → Nat) (w : World), (Instr.box 34 (.agg (ab 32 A))).run Tryd.prog w = .ok (.pointer (some ⟨w.heap.size, 0, none⟩)) (w.alloc (.cells (ab 32 A) 34)) := fun A w => bx_agg w
  have hne := fun w => refNeeds_d n m true w hm1 hmn hn
  have hbo := fun w (hw : Below W0.heap.size W0 w) => refBoth_d n m ps q pa cap true O w hm1 hmn hn hq hl hq2 hcap hO (hs.later hw)
  have h1 : ¬ (n : Int) < 1 := by omega
  have h2 : ¬ 1048576 < (n : Int) := by omega
  have h3 : ¬ (m : Int) < 1 := by omega
  have h4 : ¬ (n : Int) < (m : Int) := by omega
  rw [← hl] at hne
  replace hl := hide1 hl
  obtain ⟨Z, hZ⟩ : ∃ Z, Hid (Z = ab 32 fun _ => 0) := ⟨_, hide1 rfl⟩
  have hzs : ∀ w : World, (zeroValue 34).run Tryd.prog w = .ok (.agg Z) w := fun w => by rw [hZ.out]; kernel_rfl
  have hZs : Z.size = 32 := by rw [hZ.out]; exact ab_size _ _
  obtain ⟨w1, hw1⟩ : ∃ w1, Hid (w1 = (W0.alloc (.cells (ab 32 O) 34)).alloc (.cells (ab 32 R) 34)) := ⟨_, hide1 rfl⟩
  have hb1 : Below W0.heap.size W0 w1 := by rw [hw1.out]; exact ((Below.refl _ _).alloc (Nat.le_refl _) _).alloc (by simp) _
  have hrO : w1.heap[W0.heap.size]? = some (.cells (ab 32 O) 34 (0, 0)) := by rw [hw1.out]; exact (Below.heap_alloc _ _ _ (by simp)).trans (World.alloc_heap_new W0 _)
  have hrR : w1.heap[W0.heap.size + 1]? = some (.cells (ab 32 R) 34 (0, 0)) := by
    rw [hw1.out]; have := World.alloc_heap_new (W0.alloc (.cells (ab 32 O) 34)) (.cells (ab 32 R) 34); rwa [World.size_alloc] at this
  generalize wasB true m n O ps = C1 at *
  generalize nowB true m n O ps = C2 at *
  go_enter Tryd.func16, Tryd.ntmps16
  go_upto_region 1 with fail
  rw [← hw1.out]
  go_wp2_with fail
  refine (hne w1).mono ?_
  rintro e w ⟨rfl, rfl⟩
  go_wp2_with (refine wpList_load_row rfl 34 (.tmp 7) rfl W0.heap.size (ab 32 O) 34 rfl Tryd.underlying34 (sum_sz O) hrO ?_)
  refine (hbo w hb1).mono ?_
  rintro e w3 ⟨tv, rfl, -, hb3⟩
  obtain ⟨w4, hw4⟩ : ∃ w4, Hid (w4 = (((w3.alloc (.cells Z 34)).alloc (.cells Z 34)).setRow w3.heap.size (ab 32 C1)).setRow (w3.heap.size + 1) (ab 32 C2)) := ⟨_, hide1 rfl⟩
  have hn1 : (((w3.alloc (.cells Z 34)).alloc (.cells Z 34))).heap[w3.heap.size]? = some (.cells Z 34 (0, 0)) := (Below.heap_alloc _ _ _ (by simp)).trans (World.alloc_heap_new w3 _)
  have hn2 : (((w3.alloc (.cells Z 34)).alloc (.cells Z 34))).heap[w3.heap.size + 1]? = some (.cells Z 34 (0, 0)) := by
    have := World.alloc_heap_new (w3.alloc (.cells Z 34)) (.cells Z 34); rwa [World.size_alloc] at this
  have hwr1 := wrt_row (c' := ab 32 C1) hn1
  have hn3 := (setRow_other _ w3.heap.size (w3.heap.size + 1) (ab 32 C1) (by omega)).trans hn2
  have hwr2 := wrt_row (c' := ab 32 C2) hn3
  have hbz : Below w3.heap.size w3 (((w3.alloc (.cells Z 34)).alloc (.cells Z 34))) := ((Below.refl _ _).alloc (Nat.le_refl _) _).alloc (by simp) _
  have hbz1 := below_wrt hbz hwr1 (Nat.le_refl _) hbz.size
  have hbw4 : Below w3.heap.size w3 w4 := by rw [hw4.out]; exact below_wrt hbz1 hwr2 (by omega) hbz1.size
  have hC1 : w4.heap[w3.heap.size]? = some (.cells (ab 32 C1) 34 (0, 0)) := by rw [hw4.out]; exact (setRow_other _ (w3.heap.size + 1) w3.heap.size _ (by omega)).trans hwr1.row
  have hC2 : w4.heap[w3.heap.size + 1]? = some (.cells (ab 32 C2) 34 (0, 0)) := by rw [hw4.out]; exact hwr2.row
  have hrO4 := (hbw4.block _ (Array.getElem?_eq_some_iff.1 ((hb3.block _ (Array.getElem?_eq_some_iff.1 hrO).1).trans hrO)).1).trans ((hb3.block _ (Array.getElem?_eq_some_iff.1 hrO).1).trans hrO)
  have hrR4 := (hbw4.block _ (Array.getElem?_eq_some_iff.1 ((hb3.block _ (Array.getElem?_eq_some_iff.1 hrR).1).trans hrR)).1).trans ((hb3.block _ (Array.getElem?_eq_some_iff.1 hrR).1).trans hrR)
  have hfin := hide1 (blw (blw hb1 hb3) hbw4)
  clear hwr1 hwr2 hbz hbz1 hrO hrR hbo hne
  go_upto_region 4 with (first
    | (refine wpList_store_row rfl 34 (.tmp 11) (.tmp 43) rfl w3.heap.size (ab 32 C1) Z 34 rfl rfl (sum_sz C1) hn1 (by rw [hZs, ab_size]) (ab_one _ _) rfl ?_)
    | (refine wpList_store_row rfl 34 (.tmp 12) (.tmp 44) rfl (w3.heap.size + 1) (ab 32 C2) Z 34 rfl rfl (sum_sz C2) hn3 (by rw [hZs, ab_size]) (ab_one _ _) rfl ?_; rw [← hw4.out])
    | fail)
  have hl7 := ldS (F := O) 34 w4 _ hrO4
  have hl8 := ldS (F := R) 34 w4 _ hrR4
  have hl11 := ldS (F := C1) 34 w4 _ hC1
  have hl12 := ldS (F := C2) 34 w4 _ hC2
  clear hn1 hn2 hn3 hrO4 hrR4 hC1 hC2
  cases he1 : eqD C1 O with
  | false =>
    go_wp2_with (first
      | (refine wpList_ld rfl 34 (.tmp 11) rfl _ rfl hl11 ?_)
      | (refine wpList_ld rfl 34 (.tmp 7) rfl _ rfl hl7 ?_)
      | (refine wpList_eqG rfl (.tmp 46) (.tmp 47) rfl rfl rfl he1 ?_))
    go_ret
    exact ⟨by rw [he1, Bool.false_and]; rfl, hfin.out⟩
  | true =>
    cases he2 : eqD C2 R with
    | false =>
      go_wp2_with (first
        | (refine wpList_ld rfl 34 (.tmp 11) rfl _ rfl hl11 ?_)
        | (refine wpList_ld rfl 34 (.tmp 7) rfl _ rfl hl7 ?_)
        | (refine wpList_ld rfl 34 (.tmp 12) rfl _ rfl hl12 ?_)
        | (refine wpList_ld rfl 34 (.tmp 8) rfl _ rfl hl8 ?_)
        | (refine wpList_eqG rfl (.tmp 46) (.tmp 47) rfl rfl rfl he1 ?_)
        | (refine wpList_eqG rfl (.tmp 50) (.tmp 51) rfl rfl rfl he2 ?_))
      go_ret
      exact ⟨by rw [he1, he2]; rfl, hfin.out⟩
    | true =>
      go_wp2_with (first
        | (refine wpList_ld rfl 34 (.tmp 11) rfl _ rfl hl11 ?_)
        | (refine wpList_ld rfl 34 (.tmp 7) rfl _ rfl hl7 ?_)
        | (refine wpList_ld rfl 34 (.tmp 12) rfl _ rfl hl12 ?_)
        | (refine wpList_ld rfl 34 (.tmp 8) rfl _ rfl hl8 ?_)
        | (refine wpList_eqG rfl (.tmp 46) (.tmp 47) rfl rfl rfl he1 ?_)
        | (refine wpList_eqG rfl (.tmp 50) (.tmp 51) rfl rfl rfl he2 ?_))
      go_ret
      exact ⟨by rw [he1, he2]; rfl, hfin.out⟩
theorem rext_d {m n q cap : Nat} {pa : Option Addr} {ps : List (Nat → Nat)} {O R : Nat → Nat} {W0 : World} (hm1 : 1 ≤ m) (hmn : m ≤ n) (hn : n ≤ 1048576) (hq : ps.length = q) (hq2 : q ≤ 1000) (hcap : q ≤ cap) (hO : ∀ i, O i < 256) (hs : SsAt W0 pa ps) : Calls Tryd.prog 16 #[.int .i64 ((m : Nat) : Int), .int .i64 ((n : Nat) : Int), .agg (ab 32 O), .agg (ab 32 R), .slice pa q cap] W0 fun e w' => e = .returned (.bool (extN m n O R ps)) ∧ Below W0.heap.size W0 w' := by
  by_cases hl : q = nds m n true
  · have := rext_in (R := R) hm1 hmn hn hq hl hq2 hcap hO hs
    unfold extN
    rwa [decide_eq_true (by omega), Bool.true_and]
  · unfold extN
    rw [decide_eq_false (by omega), Bool.false_and]
    exact rext_len hm1 hmn hn hl
end Go.Proofs.YtgnmnoadfjdjdaaDoor

namespace Go.Proofs.YtgnmnoadfjdjdaaDoor
open Go.RowKit Go.Maps Sh
/-- The cells of ProofExtends' argument. -/
def exA (m n : Int) (F R : Nat → Nat) (a : Option Addr) (q cap : Nat) : Array Value := ([Value.int .i64 m, Value.int .i64 n] ++ ((ab 32 F).toList ++ ((ab 32 R).toList ++ [Value.slice a q cap]))).toArray
theorem ex_0 {m n : Int} {F R : Nat → Nat} {a : Option Addr} {q cap : Nat} : (exA m n F R a q cap)[0]? = some (.int .i64 m) ∧ (exA m n F R a q cap)[1]? = some (.int .i64 n) ∧ (exA m n F R a q cap)[66]? = some (.slice a q cap) := by
  refine ⟨rfl, rfl, ?_⟩
  unfold exA
  rw [List.getElem?_toArray, List.getElem?_append_right (by show 2 ≤ _; omega)]
  show ((ab 32 F).toList ++ ((ab 32 R).toList ++ [Value.slice a q cap]))[64]? = _
  rw [List.getElem?_append_right (by simp only [Array.length_toList, ab_size]; omega), Array.length_toList, ab_size, List.getElem?_append_right (by simp only [Array.length_toList, ab_size]; omega), Array.length_toList, ab_size]
  rfl
theorem ex_F {m n : Int} {F R : Nat → Nat} {a : Option Addr} {q cap j : Nat} (h : j < 32) : (exA m n F R a q cap)[2 + j]? = some (.int .u8 ((F j : Nat) : Int)) := by
  unfold exA
  rw [List.getElem?_toArray, List.getElem?_append_right (by show 2 ≤ _; omega)]
  show ((ab 32 F).toList ++ ((ab 32 R).toList ++ [Value.slice a q cap]))[2 + j - 2]? = _
  rw [show 2 + j - 2 = j by omega, List.getElem?_append_left (by simp only [Array.length_toList, ab_size]; exact h), Array.getElem?_toList]
  exact arr_get _ _ _ h
theorem ex_R {m n : Int} {F R : Nat → Nat} {a : Option Addr} {q cap j : Nat} (h : j < 32) : (exA m n F R a q cap)[34 + j]? = some (.int .u8 ((R j : Nat) : Int)) := by
  unfold exA
  rw [List.getElem?_toArray, List.getElem?_append_right (by show 2 ≤ _; omega)]
  show ((ab 32 F).toList ++ ((ab 32 R).toList ++ [Value.slice a q cap]))[34 + j - 2]? = _
  rw [List.getElem?_append_right (by simp only [Array.length_toList, ab_size]; omega), Array.length_toList, ab_size, show 34 + j - 2 - 32 = j by omega, List.getElem?_append_left (by simp only [Array.length_toList, ab_size]; exact h), Array.getElem?_toList]
  exact arr_get _ _ _ h
/-- The cells of ProofOld's argument. -/
def onA (la : Option Addr) (n cap : Nat) (i : Int) (F : Nat → Nat) (pa : Option Addr) (m pcap : Nat) : Array Value := ([Value.slice la n cap, Value.int .i64 i] ++ ((ab 32 F).toList ++ [Value.slice pa m pcap])).toArray
theorem on_0 {la pa : Option Addr} {n cap m pcap : Nat} {i : Int} {F : Nat → Nat} : (onA la n cap i F pa m pcap)[0]? = some (.slice la n cap) ∧ (onA la n cap i F pa m pcap)[1]? = some (.int .i64 i) ∧ (onA la n cap i F pa m pcap)[34]? = some (.slice pa m pcap) := by
  refine ⟨rfl, rfl, ?_⟩
  unfold onA
  rw [List.getElem?_toArray, List.getElem?_append_right (by show 2 ≤ _; omega)]
  show ((ab 32 F).toList ++ [Value.slice pa m pcap])[32]? = _
  rw [List.getElem?_append_right (by simp only [Array.length_toList, ab_size]; omega), Array.length_toList, ab_size]
  rfl
theorem on_F {la pa : Option Addr} {n cap m pcap j : Nat} {i : Int} {F : Nat → Nat} (h : j < 32) : (onA la n cap i F pa m pcap)[2 + j]? = some (.int .u8 ((F j : Nat) : Int)) := by
  unfold onA
  rw [List.getElem?_toArray, List.getElem?_append_right (by show 2 ≤ _; omega)]
  show ((ab 32 F).toList ++ [Value.slice pa m pcap])[2 + j - 2]? = _
  rw [show 2 + j - 2 = j by omega, List.getElem?_append_left (by simp only [Array.length_toList, ab_size]; exact h), Array.getElem?_toList]
  exact arr_get _ _ _ h
theorem ld_mid {w : World} {b off : Nat} {c : Array Value} {t0 : TypeId} {F : Nat → Nat} (h : w.heap[b]? = some (.cells c t0 (0, 0))) (hc : ∀ j, j < 32 → c[off + j]? = some (.int .u8 ((F j : Nat) : Int))) : (Instr.loadAt 34 (.pointer (some ⟨b, off, none⟩))).run Tryd.prog w = .ok (.agg (ab 32 F)) w := by
  rw [ab_list]
  refine run_loadAt_mid w b off 34 _ _ (fun j v hj => ?_) Tryd.underlying34 rfl (by rw [List.length_map, List.length_range]; kernel_rfl)
  rw [List.getElem?_map] at hj
  rcases Nat.lt_or_ge j 32 with h1 | h1
  · rw [List.getElem?_range h1, Option.map_some] at hj
    cases hj
    rw [cell_of_row _ _ _ _ _ _ h]
    exact hc j h1
  · rw [List.getElem?_eq_none (by simpa using h1)] at hj; cases hj
theorem eqb_t {x u : Operand} (b : Bool) (w : World) : (do eqGuard .eql 4 x u (.bool b) (.bool b); binOp .eql 4 (.bool b) (.bool b)).run Tryd.prog w = .ok (.bool true) w := by
  cases b <;> cases x <;> cases u <;> kernel_rfl
section
variable {H : Type} {enc : TypeId × Value → H} {W : World} {held : Bool}
theorem sum_l {n : Nat} {cs : List Value} {x : DataW H × List MemPlace} (h2 : DataW.trod enc Tryd.prog W 0 (fun _ => true) held n 34 cs = some x) : ∃ F : Nat → Nat, (∀ j, F j < 256) ∧ cs = (ab 32 F).toList := by
  obtain ⟨xs, m, rfl, -, hlen, hx, hi⟩ := DataW.trod_array Tryd.underlying34 h2
  have hce : Tryd.prog.cellsOf 5 = 1 := by kernel_rfl
  have hct : Tryd.prog.cellsOf 34 = 32 := by kernel_rfl
  have hcell : ∀ i, i < 32 → ∃ n : Nat, n < 256 ∧ cs[i]? = some (.int .u8 (n : Int)) := by
    intro i hi32
    have h1 := hi i hi32
    have h2 : xs[i]? = some xs[i] := by simp [hx, hi32]
    rw [h2, hce, Nat.mul_one] at h1
    obtain ⟨n, hc, -, hw⟩ := DataW.trod_int Tryd.underlying5 h1
    have h3 : cs[i]? = some (.int .u8 n) := by
      have := congrArg (·[0]?) hc
      simpa [List.getElem?_take, List.getElem?_drop] using this
    simp only [Lit.wf, Bool.and_eq_true, decide_eq_true_eq] at hw
    have e1 : IntKind.u8.min = 0 := rfl
    have e2 : IntKind.u8.max = 255 := rfl
    refine ⟨n.toNat, by omega, ?_⟩
    rw [h3, show ((n.toNat : Nat) : Int) = n by omega]
  obtain ⟨F, hF⟩ := Deep.choose_lt hcell
  refine ⟨fun j => F j % 256, fun j => Nat.mod_lt _ (by decide), ?_⟩
  rw [hct] at hlen
  apply List.ext_getElem?
  intro i
  rcases Nat.lt_or_ge i 32 with h | h
  · obtain ⟨h3, h4⟩ := hF i h
    rw [h4, Array.getElem?_toList]
    have := arr_get 32 (fun j => Value.int .u8 ((F j % 256 : Nat) : Int)) i h
    rw [show (ab 32 fun j => F j % 256)[i]? = some (Value.int .u8 ((F i % 256 : Nat) : Int)) from this, Nat.mod_eq_of_lt h3]
  · rw [List.getElem?_eq_none (by omega), List.getElem?_eq_none (by simp only [Array.length_toList, ab_size]; exact h)]
theorem slc_l {k : Nat} {l : List Value} {x : DataW H × List MemPlace} (h3 : DataW.trod enc Tryd.prog W 0 (fun _ => true) held k 22 l = some x) : ∃ a m cap ps, l = [.slice a m cap] ∧ SsAt W a ps ∧ ps.length = m ∧ m ≤ cap := by
  obtain ⟨a, m, cap, rfl⟩ : ∃ a m cap, l = [.slice a m cap] := by
    rcases DataW.trod_slice Tryd.underlying22 h3 with ⟨e, _⟩ | ⟨a, m, cap, _, _, _, _, e, _⟩
    · exact ⟨none, 0, 0, e⟩
    · exact ⟨some a, m, cap, e⟩
  obtain ⟨ps, hs, hps, hcap⟩ := sums_in (a0 := a) (len0 := m) (cap0 := cap) ⟨_, h3⟩
  exact ⟨a, m, cap, ps, rfl, hs, hps, hcap⟩
theorem ext_in {cs : Array Value} {d : DataW H} {p : List MemPlace} (h : DataW.Trod enc Tryd.prog W 0 (fun _ => true) held 38 (.agg cs) d p) :
    ∃ (m n : Int) (F R : Nat → Nat) (a : Option Addr) (q cap : Nat) (ps : List (Nat → Nat)), cs = exA m n F R a q cap ∧ (∀ j, F j < 256) ∧ ps.length = q ∧ SsAt W a ps ∧ q ≤ cap := by
  obtain ⟨fuel, h⟩ := h
  obtain ⟨xs, k, rfl, -, hl, hx, hi⟩ := DataW.trod_struct Tryd.underlying38 h
  have c34 : Tryd.prog.cellsOf 34 = 32 := by kernel_rfl
  have c3 : Tryd.prog.cellsOf 3 = 1 := by kernel_rfl
  have c22 : Tryd.prog.cellsOf 22 = 1 := by kernel_rfl
  have c39 : Tryd.prog.cellsOf 38 = 67 := by kernel_rfl
  have hx5 : xs.length = 5 := hx
  have hg : ∀ i (h : i < 5), xs[i]? = some (xs[i]'(by omega)) := fun i h => List.getElem?_eq_getElem _
  have h0 : DataW.trod enc Tryd.prog W 0 (fun _ => true) held k 3 ((cs.toList.drop 0).take (Tryd.prog.cellsOf 3)) = xs[0]? := hi 0 _ rfl
  have h1 : DataW.trod enc Tryd.prog W 0 (fun _ => true) held k 3 ((cs.toList.drop 1).take (Tryd.prog.cellsOf 3)) = xs[1]? := hi 1 _ rfl
  have h2 : DataW.trod enc Tryd.prog W 0 (fun _ => true) held k 34 ((cs.toList.drop 2).take (Tryd.prog.cellsOf 34)) = xs[2]? := hi 2 _ rfl
  have h3 : DataW.trod enc Tryd.prog W 0 (fun _ => true) held k 34 ((cs.toList.drop 34).take (Tryd.prog.cellsOf 34)) = xs[3]? := hi 3 _ rfl
  have h4 : DataW.trod enc Tryd.prog W 0 (fun _ => true) held k 22 ((cs.toList.drop 66).take (Tryd.prog.cellsOf 22)) = xs[4]? := hi 4 _ rfl
  rw [hg 0 (by omega), c3] at h0
  rw [hg 1 (by omega), c3] at h1
  rw [hg 2 (by omega), c34] at h2
  rw [hg 3 (by omega), c34] at h3
  rw [hg 4 (by omega), c22] at h4
  have hcs : (Value.agg cs).cells.toList = cs.toList := rfl
  rw [hcs, c39] at hl
  generalize hL : cs.toList = M at *
  obtain ⟨m, e0, -, -⟩ := DataW.trod_int Tryd.underlying3 h0
  obtain ⟨n, e1, -, -⟩ := DataW.trod_int Tryd.underlying3 h1
  obtain ⟨F, hF, e2⟩ := sum_l h2
  obtain ⟨R, -, e3⟩ := sum_l h3
  obtain ⟨a, q, cap, ps, e4, q1, q2, q3⟩ := slc_l h4
  refine ⟨m, n, F, R, a, q, cap, ps, ?_, hF, q2, q1, q3⟩
  have hsp : M = (M.drop 0).take 1 ++ ((M.drop 1).take 1 ++ ((M.drop 2).take 32 ++ ((M.drop 34).take 32 ++ (M.drop 66).take 1))) := by
    have t5 : (M.drop 66).take 1 = M.drop 66 := List.take_of_length_le (by rw [List.length_drop]; omega)
    have st : ∀ k q, (M.drop k).take q ++ M.drop (k + q) = M.drop k := fun k q => by
      have := List.take_append_drop q (M.drop k)
      rwa [List.drop_drop] at this
    rw [t5, st 34 32, st 2 32, st 1 1, st 0 1, List.drop_zero]
  rw [e0, e1, e2, e3, e4] at hsp
  have : cs = M.toArray := by rw [← hL]
  rw [this, hsp]
  rfl
theorem first_in {cs : Array Value} {d : DataW H} {p : List MemPlace} (h : DataW.Trod enc Tryd.prog W 0 (fun _ => true) held 41 (.agg cs) d p) :
    ∃ (la pa : Option Addr) (n cap m pcap : Nat) (i : Int) (F : Nat → Nat) (L ps : List (Nat → Nat)), cs = onA la n cap i F pa m pcap ∧ (∀ j, F j < 256) ∧ L.length = n ∧ SsAt W la L ∧ n ≤ cap ∧ ps.length = m ∧ SsAt W pa ps ∧ m ≤ pcap := by
  obtain ⟨fuel, h⟩ := h
  obtain ⟨xs, k, rfl, -, hl, hx, hi⟩ := DataW.trod_struct Tryd.underlying41 h
  have c34 : Tryd.prog.cellsOf 34 = 32 := by kernel_rfl
  have c3 : Tryd.prog.cellsOf 3 = 1 := by kernel_rfl
  have c22 : Tryd.prog.cellsOf 22 = 1 := by kernel_rfl
  have c39 : Tryd.prog.cellsOf 41 = 35 := by kernel_rfl
  have hx5 : xs.length = 4 := hx
  have hg : ∀ i (h : i < 4), xs[i]? = some (xs[i]'(by omega)) := fun i h => List.getElem?_eq_getElem _
  have h0 : DataW.trod enc Tryd.prog W 0 (fun _ => true) held k 22 ((cs.toList.drop 0).take (Tryd.prog.cellsOf 22)) = xs[0]? := hi 0 _ rfl
  have h1 : DataW.trod enc Tryd.prog W 0 (fun _ => true) held k 3 ((cs.toList.drop 1).take (Tryd.prog.cellsOf 3)) = xs[1]? := hi 1 _ rfl
  have h2 : DataW.trod enc Tryd.prog W 0 (fun _ => true) held k 34 ((cs.toList.drop 2).take (Tryd.prog.cellsOf 34)) = xs[2]? := hi 2 _ rfl
  have h3 : DataW.trod enc Tryd.prog W 0 (fun _ => true) held k 22 ((cs.toList.drop 34).take (Tryd.prog.cellsOf 22)) = xs[3]? := hi 3 _ rfl
  rw [hg 0 (by omega), c22] at h0
  rw [hg 1 (by omega), c3] at h1
  rw [hg 2 (by omega), c34] at h2
  rw [hg 3 (by omega), c22] at h3
  have hcs : (Value.agg cs).cells.toList = cs.toList := rfl
  rw [hcs, c39] at hl
  generalize hL : cs.toList = M at *
  obtain ⟨F, hF, e2⟩ := sum_l h2
  obtain ⟨i, e1, -, -⟩ := DataW.trod_int Tryd.underlying3 h1
  obtain ⟨la, n, cap, L, e0, q1, q2, q3⟩ := slc_l h0
  obtain ⟨pa, m, pcap, ps, e3, q4, q5, q6⟩ := slc_l h3
  refine ⟨la, pa, n, cap, m, pcap, i, F, L, ps, ?_, hF, q2, q1, q3, q5, q4, q6⟩
  have hsp : M = (M.drop 0).take 1 ++ ((M.drop 1).take 1 ++ ((M.drop 2).take 32 ++ (M.drop 34).take 1)) := by
    have t5 : (M.drop 34).take 1 = M.drop 34 := List.take_of_length_le (by rw [List.length_drop]; omega)
    have st : ∀ k q, (M.drop k).take q ++ M.drop (k + q) = M.drop k := fun k q => by
      have := List.take_append_drop q (M.drop k)
      rwa [List.drop_drop] at this
    rw [t5, st 2 32, st 1 1, st 0 1, List.drop_zero]
  rw [e0, e1, e2, e3] at hsp
  have : cs = M.toArray := by rw [← hL]
  rw [this, hsp]
  rfl
end
end Go.Proofs.YtgnmnoadfjdjdaaDoor

namespace Go.Proofs.YtgnmnoadfjdjdaaDoor
open Go.RowKit Go.Maps Sh

/-- Texts in a row. -/
def TsU (B : Nat) (T : List (Nat → Nat)) (v : Value) (w : World) : Prop := ∃ ys, w.ownsRow 0 97 1 v T.length ys ∧ TsAt w B ys T
theorem TsU.later {B : Nat} {T : List (Nat → Nat)} {v : Value} {w w' : World} (h : TsU B T v w) (hg : Gx w w') : TsU B T v w' := by
  obtain ⟨xs, h1, h2⟩ := h
  exact ⟨xs, own_gx h1 hg, h2.map (fun h => TxW.later h hg)⟩
structure MO (W0 : World) (T : List (Nat → Nat)) (tv : Value) (D : Nat → Bool) (w : World) : Prop where
  bel : Below W0.heap.size W0 w
  ts : D 3 = false → TsV W0.heap.size T tv w
theorem MO.step {W0 : World} {T : List (Nat → Nat)} {tv : Value} {D : Nat → Bool} {w w' : World} {i : Nat} (h : MO W0 T tv D w) (hb : Below w.heap.size w w') (hi : i ≠ 3) : MO W0 T tv (add1 D i) w' :=
  ⟨blw h.bel hb, fun hd => (h.ts (by rwa [add1_ne (Ne.symm hi)] at hd)).later (Gx.of hb)⟩
theorem own_bel {W0 w w' : World} {n : Nat} {v : Value} {xs : List Value} (hb : Below W0.heap.size W0 w) (ho : w.ownsRow W0.heap.size 97 1 v n xs) (hg : w.grownBy w' v.ownBlock) : Below W0.heap.size W0 w' := by
  refine hb.trans ((Below.refl _ w).grown hg hb.size (fun k ek => ?_))
  rcases ho.2 with ⟨rfl, _⟩ | ⟨g, cap, cur, rfl, hb, _⟩
  · simp [Value.ownBlock] at ek
  · obtain rfl : g = k := by simpa [Value.ownBlock] using ek
    exact hb
theorem txt_lt {F G : Nat → Nat} (hF : ∀ i, F i < 256) (hG : ∀ i, G i < 256) (i : Nat) : txt F G i < 256 := by
  unfold txt
  split
  · decide
  · split
    · exact hF _
    · exact hG _
theorem btL_lt : ∀ (cs : List Cu) (ps : List (Nat → Nat)) (W N : Nat → Nat), (∀ i, W i < 256) → (∀ i, N i < 256) → (∀ p ∈ ps, ∀ i, p i < 256) → ∀ T ∈ btL cs ps W N, ∀ i, T i < 256
  | c :: cs, p :: ps, W, N, hW, hN, hp, T, hT => by
    have hp0 := hp p (List.mem_cons_self ..)
    rcases List.mem_append.1 (show T ∈ (if c.r then [txt p W, txt p N] else [txt N p]) ++ btL cs ps (if c.r then jn c.r W p else W) (jn c.r N p) from hT) with h | h
    · split at h
      · rcases List.mem_cons.1 h with rfl | h
        · exact txt_lt hp0 hW
        · rw [List.mem_singleton.1 h]; exact txt_lt hp0 hN
      · rw [List.mem_singleton.1 h]; exact txt_lt hN hp0
    · refine btL_lt cs ps _ _ (fun i => ?_) (jn_lt _ _ _) (fun q hq => hp q (List.mem_cons_of_mem _ hq)) T h
      split
      · exact jn_lt _ _ _ i
      · exact hW i
  | [], _, _, _, _, _, _, T, hT => by cases hT
  | _ :: _, [], _, _, _, _, _, T, hT => by cases hT
theorem txB_lt {al : Bool} {m n : Nat} {O : Nat → Nat} {ps : List (Nat → Nat)} (hO : ∀ i, O i < 256) (hp : ∀ P ∈ ps, ∀ j, P j < 256) : ∀ T ∈ txB al m n O ps, ∀ i, T i < 256 := by
  refine btL_lt _ _ _ _ (F0_lt hO hp) (F0_lt hO hp) (fun P hP => ?_)
  unfold Q0 at hP
  split at hP
  · exact hp P hP
  · exact hp P (List.mem_of_mem_drop hP)
end Go.Proofs.YtgnmnoadfjdjdaaDoor

namespace Go.Proofs.YtgnmnoadfjdjdaaDoor
open Go.RowKit Go.Maps Sh
set_option maxHeartbeats 8000000 in
theorem old_1 {n cap q pcap : Nat} {m : Int} {la : Option Addr} {pa : Option Addr} {O : Nat → Nat} {W0 : World} (hg : Gl W0) (h : 100 < n) : Calls Tryd.prog 17 #[.slice la n cap, .int .i64 m, .agg (ab 32 O), .slice pa q pcap] W0 fun e w' => e = .returned (.bool true) ∧ Below W0.heap.size W0 w' := by
  refine s_in Tryd.func17 Tryd.ntmps17 rfl [.inl (.slice la n cap), .inl (.int .i64 m), .inl (.agg (ab 32 O)), .inl (.slice pa q pcap)] ?_
  intro β a h
  refine sym_seq ?_
  refine St.rg h [(6, .inr (0, pt 0)), (8, .inl (.bool false))] [(ab 32 O, 34)] [] [eN 0] ?_ ?_
  · exact oc (k_bx 0 (.agg (ab 32 O)) (bx_agg (P := Tryd.prog)) rfl rfl) <|
    oz (k_mv (.inr rfl) rfl) <|
    ok_nil
  clear h; intro β a w h
  refine sym_then ?_
  refine sym_seq ?_
  refine sym_seq ?_
  refine St.r0 h [(13, .inl (.bool true)), (14, .inl (.bool false))] [] ?_ ?_
  · exact oz (k_cw 9 #[] (.bool true) (fun w hw => alive_t (gl_b hg hw.below)) rfl rfl) <|
    oz (k_nt true rfl rfl) <|
    ok_nil
  clear h; intro β a w h
  refine sym_then ?_
  refine s_cf h ?_
  refine wp_skip ?_
  refine sym_then ?_
  refine sym_seq ?_
  refine St.r0 h [(15, .inl (.slice la n cap)), (16, .inl (.int .i64 ((n : Nat) : Int))), (9, .inl (.int .i64 ((n : Nat) : Int)))] [] ?_ ?_
  · exact oz (k_mv (.inl rfl) rfl) <|
    oz (k_ln (ad := la) n cap rfl rfl (fun w => len_ss _ w)) <|
    oz (k_mv (.inr rfl) rfl) <|
    ok_nil
  clear h; intro β a w h
  refine sym_then ?_
  refine sym_seq ?_
  refine sym_seq ?_
  refine St.r0 h [(17, .inl (.int .i64 ((n : Nat) : Int))), (18, .inl (.bool true)), (19, .inl (.bool true)), (23, .inl (.bool true)), (24, .inl (.bool true)), (27, .inl (.bool true)), (28, .inl (.bool true)), (32, .inl (.bool true))] [] ?_ ?_
  · exact oz (k_mv (.inl rfl) rfl) <|
    oz (k_bi (.int .i64 ((n : Nat) : Int)) (.int .i64 ((100 : Nat) : Int)) (.bool true) (gt_s (m := ((n : Nat) : Int)) (n := ((100 : Nat) : Int)) (decide_eq_true (by omega))) rfl rfl) <|
    oz (k_mv (.inl rfl) rfl) <|
    oz (k_sk rfl) <|
    oz (k_sk rfl) <|
    oz (k_sk rfl) <|
    oz (k_pt rfl rfl) <|
    oz (k_mv (.inl rfl) rfl) <|
    oz (k_sk rfl) <|
    oz (k_sk rfl) <|
    oz (k_pt rfl rfl) <|
    oz (k_mv (.inl rfl) rfl) <|
    oz (k_sk rfl) <|
    oz (k_sk rfl) <|
    oz (k_sk rfl) <|
    oz (k_pt rfl rfl) <|
    ok_nil
  clear h; intro β a w h
  refine sym_then ?_
  refine s_ct h ?_
  refine sym_seq ?_
  refine St.r0 h [(8, .inl (.bool true))] [] ?_ ?_
  · exact oz (k_mv (.inr rfl) rfl) <|
    ok_nil
  clear h; intro β a w h
  refine sym_then ?_
  refine wp_ret ?_
  refine then_ret ?_
  exact s_rt h Tryd.results17 (fun hb => ⟨rfl, hb⟩)
set_option maxHeartbeats 8000000 in
theorem old_2 {n cap q pcap : Nat} {m : Int} {la : Option Addr} {pa : Option Addr} {O : Nat → Nat} {W0 : World} (hg : Gl W0) (h1 : n ≤ 100) (h : 100 < q) : Calls Tryd.prog 17 #[.slice la n cap, .int .i64 m, .agg (ab 32 O), .slice pa q pcap] W0 fun e w' => e = .returned (.bool true) ∧ Below W0.heap.size W0 w' := by
  refine s_in Tryd.func17 Tryd.ntmps17 rfl [.inl (.slice la n cap), .inl (.int .i64 m), .inl (.agg (ab 32 O)), .inl (.slice pa q pcap)] ?_
  intro β a h
  refine sym_seq ?_
  refine St.rg h [(6, .inr (0, pt 0)), (8, .inl (.bool false))] [(ab 32 O, 34)] [] [eN 0] ?_ ?_
  · exact oc (k_bx 0 (.agg (ab 32 O)) (bx_agg (P := Tryd.prog)) rfl rfl) <|
    oz (k_mv (.inr rfl) rfl) <|
    ok_nil
  clear h; intro β a w h
  refine sym_then ?_
  refine sym_seq ?_
  refine sym_seq ?_
  refine St.r0 h [(13, .inl (.bool true)), (14, .inl (.bool false))] [] ?_ ?_
  · exact oz (k_cw 9 #[] (.bool true) (fun w hw => alive_t (gl_b hg hw.below)) rfl rfl) <|
    oz (k_nt true rfl rfl) <|
    ok_nil
  clear h; intro β a w h
  refine sym_then ?_
  refine s_cf h ?_
  refine wp_skip ?_
  refine sym_then ?_
  refine sym_seq ?_
  refine St.r0 h [(15, .inl (.slice la n cap)), (16, .inl (.int .i64 ((n : Nat) : Int))), (9, .inl (.int .i64 ((n : Nat) : Int)))] [] ?_ ?_
  · exact oz (k_mv (.inl rfl) rfl) <|
    oz (k_ln (ad := la) n cap rfl rfl (fun w => len_ss _ w)) <|
    oz (k_mv (.inr rfl) rfl) <|
    ok_nil
  clear h; intro β a w h
  refine sym_then ?_
  refine sym_seq ?_
  refine sym_seq ?_
  refine St.r0 h [(17, .inl (.int .i64 ((n : Nat) : Int))), (18, .inl (.bool false)), (19, .inl (.bool false)), (20, .inl (.slice pa q pcap)), (21, .inl (.int .i64 ((q : Nat) : Int))), (22, .inl (.bool true)), (23, .inl (.bool true)), (24, .inl (.bool true)), (27, .inl (.bool true)), (28, .inl (.bool true)), (32, .inl (.bool true))] [] ?_ ?_
  · exact oz (k_mv (.inl rfl) rfl) <|
    oz (k_bi (.int .i64 ((n : Nat) : Int)) (.int .i64 ((100 : Nat) : Int)) (.bool false) (gt_s (m := ((n : Nat) : Int)) (n := ((100 : Nat) : Int)) (decide_eq_false (by omega))) rfl rfl) <|
    oz (k_mv (.inl rfl) rfl) <|
    oz (k_mv (.inl rfl) rfl) <|
    oz (k_ln (ad := pa) q pcap rfl rfl (fun w => len_ss _ w)) <|
    oz (k_bi (.int .i64 ((q : Nat) : Int)) (.int .i64 ((100 : Nat) : Int)) (.bool true) (gt_s (m := ((q : Nat) : Int)) (n := ((100 : Nat) : Int)) (decide_eq_true (by omega))) rfl rfl) <|
    oz (k_pf rfl rfl) <|
    oz (k_mv (.inl rfl) rfl) <|
    oz (k_sk rfl) <|
    oz (k_sk rfl) <|
    oz (k_pt rfl rfl) <|
    oz (k_mv (.inl rfl) rfl) <|
    oz (k_sk rfl) <|
    oz (k_sk rfl) <|
    oz (k_sk rfl) <|
    oz (k_pt rfl rfl) <|
    ok_nil
  clear h; intro β a w h
  refine sym_then ?_
  refine s_ct h ?_
  refine sym_seq ?_
  refine St.r0 h [(8, .inl (.bool true))] [] ?_ ?_
  · exact oz (k_mv (.inr rfl) rfl) <|
    ok_nil
  clear h; intro β a w h
  refine sym_then ?_
  refine wp_ret ?_
  refine then_ret ?_
  exact s_rt h Tryd.results17 (fun hb => ⟨rfl, hb⟩)
set_option maxHeartbeats 8000000 in
theorem old_3 {n cap q pcap : Nat} {m : Int} {la : Option Addr} {pa : Option Addr} {O : Nat → Nat} {W0 : World} (hg : Gl W0) (h1 : n ≤ 100) (h2 : q ≤ 100) (h : m < 1) : Calls Tryd.prog 17 #[.slice la n cap, .int .i64 m, .agg (ab 32 O), .slice pa q pcap] W0 fun e w' => e = .returned (.bool true) ∧ Below W0.heap.size W0 w' := by
  refine s_in Tryd.func17 Tryd.ntmps17 rfl [.inl (.slice la n cap), .inl (.int .i64 m), .inl (.agg (ab 32 O)), .inl (.slice pa q pcap)] ?_
  intro β a h
  refine sym_seq ?_
  refine St.rg h [(6, .inr (0, pt 0)), (8, .inl (.bool false))] [(ab 32 O, 34)] [] [eN 0] ?_ ?_
  · exact oc (k_bx 0 (.agg (ab 32 O)) (bx_agg (P := Tryd.prog)) rfl rfl) <|
    oz (k_mv (.inr rfl) rfl) <|
    ok_nil
  clear h; intro β a w h
  refine sym_then ?_
  refine sym_seq ?_
  refine sym_seq ?_
  refine St.r0 h [(13, .inl (.bool true)), (14, .inl (.bool false))] [] ?_ ?_
  · exact oz (k_cw 9 #[] (.bool true) (fun w hw => alive_t (gl_b hg hw.below)) rfl rfl) <|
    oz (k_nt true rfl rfl) <|
    ok_nil
  clear h; intro β a w h
  refine sym_then ?_
  refine s_cf h ?_
  refine wp_skip ?_
  refine sym_then ?_
  refine sym_seq ?_
  refine St.r0 h [(15, .inl (.slice la n cap)), (16, .inl (.int .i64 ((n : Nat) : Int))), (9, .inl (.int .i64 ((n : Nat) : Int)))] [] ?_ ?_
  · exact oz (k_mv (.inl rfl) rfl) <|
    oz (k_ln (ad := la) n cap rfl rfl (fun w => len_ss _ w)) <|
    oz (k_mv (.inr rfl) rfl) <|
    ok_nil
  clear h; intro β a w h
  refine sym_then ?_
  refine sym_seq ?_
  refine sym_seq ?_
  refine St.r0 h [(17, .inl (.int .i64 ((n : Nat) : Int))), (18, .inl (.bool false)), (19, .inl (.bool false)), (20, .inl (.slice pa q pcap)), (21, .inl (.int .i64 ((q : Nat) : Int))), (22, .inl (.bool false)), (23, .inl (.bool false)), (24, .inl (.bool false)), (25, .inl (.int .i64 m)), (26, .inl (.bool true)), (27, .inl (.bool true)), (28, .inl (.bool true)), (32, .inl (.bool true))] [] ?_ ?_
  · exact oz (k_mv (.inl rfl) rfl) <|
    oz (k_bi (.int .i64 ((n : Nat) : Int)) (.int .i64 ((100 : Nat) : Int)) (.bool false) (gt_s (m := ((n : Nat) : Int)) (n := ((100 : Nat) : Int)) (decide_eq_false (by omega))) rfl rfl) <|
    oz (k_mv (.inl rfl) rfl) <|
    oz (k_mv (.inl rfl) rfl) <|
    oz (k_ln (ad := pa) q pcap rfl rfl (fun w => len_ss _ w)) <|
    oz (k_bi (.int .i64 ((q : Nat) : Int)) (.int .i64 ((100 : Nat) : Int)) (.bool false) (gt_s (m := ((q : Nat) : Int)) (n := ((100 : Nat) : Int)) (decide_eq_false (by omega))) rfl rfl) <|
    oz (k_pf rfl rfl) <|
    oz (k_mv (.inl rfl) rfl) <|
    oz (k_mv (.inl rfl) rfl) <|
    oz (k_bi (.int .i64 m) (.int .i64 ((1 : Nat) : Int)) (.bool true) (lt_i (m := m) (n := ((1 : Nat) : Int)) (decide_eq_true (by omega))) rfl rfl) <|
    oz (k_pf rfl rfl) <|
    oz (k_mv (.inl rfl) rfl) <|
    oz (k_sk rfl) <|
    oz (k_sk rfl) <|
    oz (k_sk rfl) <|
    oz (k_pt rfl rfl) <|
    ok_nil
  clear h; intro β a w h
  refine sym_then ?_
  refine s_ct h ?_
  refine sym_seq ?_
  refine St.r0 h [(8, .inl (.bool true))] [] ?_ ?_
  · exact oz (k_mv (.inr rfl) rfl) <|
    ok_nil
  clear h; intro β a w h
  refine sym_then ?_
  refine wp_ret ?_
  refine then_ret ?_
  exact s_rt h Tryd.results17 (fun hb => ⟨rfl, hb⟩)
set_option maxHeartbeats 8000000 in
theorem old_4 {n cap q pcap : Nat} {m : Int} {la : Option Addr} {pa : Option Addr} {O : Nat → Nat} {W0 : World} (hg : Gl W0) (h1 : n ≤ 100) (h2 : q ≤ 100) (h3 : 1 ≤ m) (h : (n : Int) < m) : Calls Tryd.prog 17 #[.slice la n cap, .int .i64 m, .agg (ab 32 O), .slice pa q pcap] W0 fun e w' => e = .returned (.bool true) ∧ Below W0.heap.size W0 w' := by
  refine s_in Tryd.func17 Tryd.ntmps17 rfl [.inl (.slice la n cap), .inl (.int .i64 m), .inl (.agg (ab 32 O)), .inl (.slice pa q pcap)] ?_
  intro β a h
  refine sym_seq ?_
  refine St.rg h [(6, .inr (0, pt 0)), (8, .inl (.bool false))] [(ab 32 O, 34)] [] [eN 0] ?_ ?_
  · exact oc (k_bx 0 (.agg (ab 32 O)) (bx_agg (P := Tryd.prog)) rfl rfl) <|
    oz (k_mv (.inr rfl) rfl) <|
    ok_nil
  clear h; intro β a w h
  refine sym_then ?_
  refine sym_seq ?_
  refine sym_seq ?_
  refine St.r0 h [(13, .inl (.bool true)), (14, .inl (.bool false))] [] ?_ ?_
  · exact oz (k_cw 9 #[] (.bool true) (fun w hw => alive_t (gl_b hg hw.below)) rfl rfl) <|
    oz (k_nt true rfl rfl) <|
    ok_nil
  clear h; intro β a w h
  refine sym_then ?_
  refine s_cf h ?_
  refine wp_skip ?_
  refine sym_then ?_
  refine sym_seq ?_
  refine St.r0 h [(15, .inl (.slice la n cap)), (16, .inl (.int .i64 ((n : Nat) : Int))), (9, .inl (.int .i64 ((n : Nat) : Int)))] [] ?_ ?_
  · exact oz (k_mv (.inl rfl) rfl) <|
    oz (k_ln (ad := la) n cap rfl rfl (fun w => len_ss _ w)) <|
    oz (k_mv (.inr rfl) rfl) <|
    ok_nil
  clear h; intro β a w h
  refine sym_then ?_
  refine sym_seq ?_
  refine sym_seq ?_
  refine St.r0 h [(17, .inl (.int .i64 ((n : Nat) : Int))), (18, .inl (.bool false)), (19, .inl (.bool false)), (20, .inl (.slice pa q pcap)), (21, .inl (.int .i64 ((q : Nat) : Int))), (22, .inl (.bool false)), (23, .inl (.bool false)), (24, .inl (.bool false)), (25, .inl (.int .i64 m)), (26, .inl (.bool false)), (27, .inl (.bool false)), (28, .inl (.bool false)), (29, .inl (.int .i64 m)), (30, .inl (.int .i64 ((n : Nat) : Int))), (31, .inl (.bool true)), (32, .inl (.bool true))] [] ?_ ?_
  · exact oz (k_mv (.inl rfl) rfl) <|
    oz (k_bi (.int .i64 ((n : Nat) : Int)) (.int .i64 ((100 : Nat) : Int)) (.bool false) (gt_s (m := ((n : Nat) : Int)) (n := ((100 : Nat) : Int)) (decide_eq_false (by omega))) rfl rfl) <|
    oz (k_mv (.inl rfl) rfl) <|
    oz (k_mv (.inl rfl) rfl) <|
    oz (k_ln (ad := pa) q pcap rfl rfl (fun w => len_ss _ w)) <|
    oz (k_bi (.int .i64 ((q : Nat) : Int)) (.int .i64 ((100 : Nat) : Int)) (.bool false) (gt_s (m := ((q : Nat) : Int)) (n := ((100 : Nat) : Int)) (decide_eq_false (by omega))) rfl rfl) <|
    oz (k_pf rfl rfl) <|
    oz (k_mv (.inl rfl) rfl) <|
    oz (k_mv (.inl rfl) rfl) <|
    oz (k_bi (.int .i64 m) (.int .i64 ((1 : Nat) : Int)) (.bool false) (lt_i (m := m) (n := ((1 : Nat) : Int)) (decide_eq_false (by omega))) rfl rfl) <|
    oz (k_pf rfl rfl) <|
    oz (k_mv (.inl rfl) rfl) <|
    oz (k_mv (.inl rfl) rfl) <|
    oz (k_mv (.inl rfl) rfl) <|
    oz (k_bi (.int .i64 m) (.int .i64 ((n : Nat) : Int)) (.bool true) (gt_s (m := m) (n := ((n : Nat) : Int)) (decide_eq_true (by omega))) rfl rfl) <|
    oz (k_pf rfl rfl) <|
    ok_nil
  clear h; intro β a w h
  refine sym_then ?_
  refine s_ct h ?_
  refine sym_seq ?_
  refine St.r0 h [(8, .inl (.bool true))] [] ?_ ?_
  · exact oz (k_mv (.inr rfl) rfl) <|
    ok_nil
  clear h; intro β a w h
  refine sym_then ?_
  refine wp_ret ?_
  refine then_ret ?_
  exact s_rt h Tryd.results17 (fun hb => ⟨rfl, hb⟩)
set_option maxHeartbeats 8000000 in
theorem old_5 {b off n cap m q pcap : Nat} {pa : Option Addr} {O RT : Nat → Nat} {W0 : World} (hg : Gl W0) (h1 : n ≤ 100) (h2 : q ≤ 100) (hm1 : 1 ≤ m) (hmn : m ≤ n) (hrt : ∀ w, KW (wd W0) w → Calls Tryd.prog 15 #[.slice (some ⟨b, off, none⟩) n cap] w fun e w' => e = .returned (.agg (ab 32 RT)) ∧ Below w.heap.size w w') (hex : ∀ w, KW (wd W0) w → Calls Tryd.prog 14 #[.int .i64 ((m : Nat) : Int), .int .i64 ((n : Nat) : Int), .agg (ab 32 O), .agg (ab 32 RT), .slice pa q pcap] w fun e w' => e = .returned (.bool false) ∧ Below w.heap.size w w') : Calls Tryd.prog 17 #[.slice (some ⟨b, off, none⟩) n cap, .int .i64 ((m : Nat) : Int), .agg (ab 32 O), .slice pa q pcap] W0 fun e w' => e = .returned (.bool true) ∧ Below W0.heap.size W0 w' := by
  refine s_in Tryd.func17 Tryd.ntmps17 rfl [.inl (.slice (some ⟨b, off, none⟩) n cap), .inl (.int .i64 ((m : Nat) : Int)), .inl (.agg (ab 32 O)), .inl (.slice pa q pcap)] ?_
  intro β a h
  refine sym_seq ?_
  refine St.rg h [(6, .inr (0, pt 0)), (8, .inl (.bool false))] [(ab 32 O, 34)] [] [eN 0] ?_ ?_
  · exact oc (k_bx 0 (.agg (ab 32 O)) (bx_agg (P := Tryd.prog)) rfl rfl) <|
    oz (k_mv (.inr rfl) rfl) <|
    ok_nil
  clear h; intro β a w h
  refine sym_then ?_
  refine sym_seq ?_
  refine sym_seq ?_
  refine St.r0 h [(13, .inl (.bool true)), (14, .inl (.bool false))] [] ?_ ?_
  · exact oz (k_cw 9 #[] (.bool true) (fun w hw => alive_t (gl_b hg hw.below)) rfl rfl) <|
    oz (k_nt true rfl rfl) <|
    ok_nil
  clear h; intro β a w h
  refine sym_then ?_
  refine s_cf h ?_
  refine wp_skip ?_
  refine sym_then ?_
  refine sym_seq ?_
  refine St.r0 h [(15, .inl (.slice (some ⟨b, off, none⟩) n cap)), (16, .inl (.int .i64 ((n : Nat) : Int))), (9, .inl (.int .i64 ((n : Nat) : Int)))] [] ?_ ?_
  · exact oz (k_mv (.inl rfl) rfl) <|
    oz (k_ln (ad := (some ⟨b, off, none⟩)) n cap rfl rfl (fun w => len_ss _ w)) <|
    oz (k_mv (.inr rfl) rfl) <|
    ok_nil
  clear h; intro β a w h
  refine sym_then ?_
  refine sym_seq ?_
  refine sym_seq ?_
  refine St.r0 h [(17, .inl (.int .i64 ((n : Nat) : Int))), (18, .inl (.bool false)), (19, .inl (.bool false)), (20, .inl (.slice pa q pcap)), (21, .inl (.int .i64 ((q : Nat) : Int))), (22, .inl (.bool false)), (23, .inl (.bool false)), (24, .inl (.bool false)), (25, .inl (.int .i64 ((m : Nat) : Int))), (26, .inl (.bool false)), (27, .inl (.bool false)), (28, .inl (.bool false)), (29, .inl (.int .i64 ((m : Nat) : Int))), (30, .inl (.int .i64 ((n : Nat) : Int))), (31, .inl (.bool false)), (32, .inl (.bool false))] [] ?_ ?_
  · exact oz (k_mv (.inl rfl) rfl) <|
    oz (k_bi (.int .i64 ((n : Nat) : Int)) (.int .i64 ((100 : Nat) : Int)) (.bool false) (gt_s (m := ((n : Nat) : Int)) (n := ((100 : Nat) : Int)) (decide_eq_false (by omega))) rfl rfl) <|
    oz (k_mv (.inl rfl) rfl) <|
    oz (k_mv (.inl rfl) rfl) <|
    oz (k_ln (ad := pa) q pcap rfl rfl (fun w => len_ss _ w)) <|
    oz (k_bi (.int .i64 ((q : Nat) : Int)) (.int .i64 ((100 : Nat) : Int)) (.bool false) (gt_s (m := ((q : Nat) : Int)) (n := ((100 : Nat) : Int)) (decide_eq_false (by omega))) rfl rfl) <|
    oz (k_pf rfl rfl) <|
    oz (k_mv (.inl rfl) rfl) <|
    oz (k_mv (.inl rfl) rfl) <|
    oz (k_bi (.int .i64 ((m : Nat) : Int)) (.int .i64 ((1 : Nat) : Int)) (.bool false) (lt_i (m := ((m : Nat) : Int)) (n := ((1 : Nat) : Int)) (decide_eq_false (by omega))) rfl rfl) <|
    oz (k_pf rfl rfl) <|
    oz (k_mv (.inl rfl) rfl) <|
    oz (k_mv (.inl rfl) rfl) <|
    oz (k_mv (.inl rfl) rfl) <|
    oz (k_bi (.int .i64 ((m : Nat) : Int)) (.int .i64 ((n : Nat) : Int)) (.bool false) (gt_s (m := ((m : Nat) : Int)) (n := ((n : Nat) : Int)) (decide_eq_false (by omega))) rfl rfl) <|
    oz (k_pf rfl rfl) <|
    ok_nil
  clear h; intro β a w h
  refine sym_then ?_
  refine s_cf h ?_
  refine wp_skip ?_
  refine sym_then ?_
  refine sym_seq ?_
  refine sym_seq ?_
  refine St.r0 h [(33, .inl (.int .i64 ((m : Nat) : Int))), (34, .inl (.int .i64 ((n : Nat) : Int))), (35, .inl (.agg (ab 32 O))), (36, .inl (.slice (some ⟨b, off, none⟩) n cap)), (37, .inl (.agg (ab 32 RT))), (38, .inl (.slice pa q pcap)), (39, .inl (.bool false)), (40, .inl (.bool true)), (41, .inl (.bool true)), (48, .inl (.bool true))] [nn, nn, eR 0] ?_ ?_
  · exact oc (k_mv (.inl rfl) rfl) <|
    oc (k_mv (.inl rfl) rfl) <|
    oc (k_ld 0 0 (.agg (ab 32 O)) (c := ab 32 O) (ldS (F := O) 34) rfl rfl) <|
    oz (k_mv (.inl rfl) rfl) <|
    oz (k_cw 15 #[.slice (some ⟨b, off, none⟩) n cap] (.agg (ab 32 RT)) (fun w hw => hrt w hw) rfl rfl) <|
    oz (k_mv (.inl rfl) rfl) <|
    oz (k_cw 14 #[.int .i64 ((m : Nat) : Int), .int .i64 ((n : Nat) : Int), .agg (ab 32 O), .agg (ab 32 RT), .slice pa q pcap] (.bool false) (fun w hw => hex w hw) rfl rfl) <|
    oz (k_nt false rfl rfl) <|
    oz (k_mv (.inl rfl) rfl) <|
    oz (k_sk rfl) <|
    oz (k_sk rfl) <|
    oz (k_sk rfl) <|
    oz (k_sk rfl) <|
    oz (k_sk rfl) <|
    oz (k_sk rfl) <|
    oz (k_pt rfl rfl) <|
    ok_nil
  clear h; intro β a w h
  refine sym_then ?_
  refine s_ct h ?_
  refine sym_seq ?_
  refine St.r0 h [(8, .inl (.bool true))] [] ?_ ?_
  · exact oz (k_mv (.inr rfl) rfl) <|
    ok_nil
  clear h; intro β a w h
  refine sym_then ?_
  refine wp_ret ?_
  refine then_ret ?_
  exact s_rt h Tryd.results17 (fun hb => ⟨rfl, hb⟩)
set_option maxHeartbeats 8000000 in
theorem old_6 {b off n cap m q pcap : Nat} {pa : Option Addr} {O RT RM : Nat → Nat} {W0 : World} (hg : Gl W0) (h1 : n ≤ 100) (h2 : q ≤ 100) (hm1 : 1 ≤ m) (hmn : m ≤ n) (hcap : n ≤ cap) (hb : eqD O RM = true) (hrt : ∀ w, KW (wd W0) w → Calls Tryd.prog 15 #[.slice (some ⟨b, off, none⟩) n cap] w fun e w' => e = .returned (.agg (ab 32 RT)) ∧ Below w.heap.size w w') (hrm : ∀ w, KW (wd W0) w → Calls Tryd.prog 15 #[.slice (some ⟨b, off, none⟩) m cap] w fun e w' => e = .returned (.agg (ab 32 RM)) ∧ Below w.heap.size w w') (hex : ∀ w, KW (wd W0) w → Calls Tryd.prog 14 #[.int .i64 ((m : Nat) : Int), .int .i64 ((n : Nat) : Int), .agg (ab 32 O), .agg (ab 32 RT), .slice pa q pcap] w fun e w' => e = .returned (.bool true) ∧ Below w.heap.size w w') : Calls Tryd.prog 17 #[.slice (some ⟨b, off, none⟩) n cap, .int .i64 ((m : Nat) : Int), .agg (ab 32 O), .slice pa q pcap] W0 fun e w' => e = .returned (.bool true) ∧ Below W0.heap.size W0 w' := by
  refine s_in Tryd.func17 Tryd.ntmps17 rfl [.inl (.slice (some ⟨b, off, none⟩) n cap), .inl (.int .i64 ((m : Nat) : Int)), .inl (.agg (ab 32 O)), .inl (.slice pa q pcap)] ?_
  intro β a h
  refine sym_seq ?_
  refine St.rg h [(6, .inr (0, pt 0)), (8, .inl (.bool false))] [(ab 32 O, 34)] [] [eN 0] ?_ ?_
  · exact oc (k_bx 0 (.agg (ab 32 O)) (bx_agg (P := Tryd.prog)) rfl rfl) <|
    oz (k_mv (.inr rfl) rfl) <|
    ok_nil
  clear h; intro β a w h
  refine sym_then ?_
  refine sym_seq ?_
  refine sym_seq ?_
  refine St.r0 h [(13, .inl (.bool true)), (14, .inl (.bool false))] [] ?_ ?_
  · exact oz (k_cw 9 #[] (.bool true) (fun w hw => alive_t (gl_b hg hw.below)) rfl rfl) <|
    oz (k_nt true rfl rfl) <|
    ok_nil
  clear h; intro β a w h
  refine sym_then ?_
  refine s_cf h ?_
  refine wp_skip ?_
  refine sym_then ?_
  refine sym_seq ?_
  refine St.r0 h [(15, .inl (.slice (some ⟨b, off, none⟩) n cap)), (16, .inl (.int .i64 ((n : Nat) : Int))), (9, .inl (.int .i64 ((n : Nat) : Int)))] [] ?_ ?_
  · exact oz (k_mv (.inl rfl) rfl) <|
    oz (k_ln (ad := (some ⟨b, off, none⟩)) n cap rfl rfl (fun w => len_ss _ w)) <|
    oz (k_mv (.inr rfl) rfl) <|
    ok_nil
  clear h; intro β a w h
  refine sym_then ?_
  refine sym_seq ?_
  refine sym_seq ?_
  refine St.r0 h [(17, .inl (.int .i64 ((n : Nat) : Int))), (18, .inl (.bool false)), (19, .inl (.bool false)), (20, .inl (.slice pa q pcap)), (21, .inl (.int .i64 ((q : Nat) : Int))), (22, .inl (.bool false)), (23, .inl (.bool false)), (24, .inl (.bool false)), (25, .inl (.int .i64 ((m : Nat) : Int))), (26, .inl (.bool false)), (27, .inl (.bool false)), (28, .inl (.bool false)), (29, .inl (.int .i64 ((m : Nat) : Int))), (30, .inl (.int .i64 ((n : Nat) : Int))), (31, .inl (.bool false)), (32, .inl (.bool false))] [] ?_ ?_
  · exact oz (k_mv (.inl rfl) rfl) <|
    oz (k_bi (.int .i64 ((n : Nat) : Int)) (.int .i64 ((100 : Nat) : Int)) (.bool false) (gt_s (m := ((n : Nat) : Int)) (n := ((100 : Nat) : Int)) (decide_eq_false (by omega))) rfl rfl) <|
    oz (k_mv (.inl rfl) rfl) <|
    oz (k_mv (.inl rfl) rfl) <|
    oz (k_ln (ad := pa) q pcap rfl rfl (fun w => len_ss _ w)) <|
    oz (k_bi (.int .i64 ((q : Nat) : Int)) (.int .i64 ((100 : Nat) : Int)) (.bool false) (gt_s (m := ((q : Nat) : Int)) (n := ((100 : Nat) : Int)) (decide_eq_false (by omega))) rfl rfl) <|
    oz (k_pf rfl rfl) <|
    oz (k_mv (.inl rfl) rfl) <|
    oz (k_mv (.inl rfl) rfl) <|
    oz (k_bi (.int .i64 ((m : Nat) : Int)) (.int .i64 ((1 : Nat) : Int)) (.bool false) (lt_i (m := ((m : Nat) : Int)) (n := ((1 : Nat) : Int)) (decide_eq_false (by omega))) rfl rfl) <|
    oz (k_pf rfl rfl) <|
    oz (k_mv (.inl rfl) rfl) <|
    oz (k_mv (.inl rfl) rfl) <|
    oz (k_mv (.inl rfl) rfl) <|
    oz (k_bi (.int .i64 ((m : Nat) : Int)) (.int .i64 ((n : Nat) : Int)) (.bool false) (gt_s (m := ((m : Nat) : Int)) (n := ((n : Nat) : Int)) (decide_eq_false (by omega))) rfl rfl) <|
    oz (k_pf rfl rfl) <|
    ok_nil
  clear h; intro β a w h
  refine sym_then ?_
  refine s_cf h ?_
  refine wp_skip ?_
  refine sym_then ?_
  refine sym_seq ?_
  refine sym_seq ?_
  refine St.r0 h [(33, .inl (.int .i64 ((m : Nat) : Int))), (34, .inl (.int .i64 ((n : Nat) : Int))), (35, .inl (.agg (ab 32 O))), (36, .inl (.slice (some ⟨b, off, none⟩) n cap)), (37, .inl (.agg (ab 32 RT))), (38, .inl (.slice pa q pcap)), (39, .inl (.bool true)), (40, .inl (.bool false)), (41, .inl (.bool false)), (42, .inl (.agg (ab 32 O))), (43, .inl (.slice (some ⟨b, off, none⟩) n cap)), (44, .inl (.int .i64 ((m : Nat) : Int))), (45, .inl (.slice (some ⟨b, off, none⟩) m cap)), (46, .inl (.agg (ab 32 RM))), (47, .inl (.bool true)), (48, .inl (.bool true))] [nn, nn, eR 0, nn, nn, nn, nn, nn, nn, eR 0] ?_ ?_
  · exact oc (k_mv (.inl rfl) rfl) <|
    oc (k_mv (.inl rfl) rfl) <|
    oc (k_ld 0 0 (.agg (ab 32 O)) (c := ab 32 O) (ldS (F := O) 34) rfl rfl) <|
    oc (k_mv (.inl rfl) rfl) <|
    oc (k_cw 15 #[.slice (some ⟨b, off, none⟩) n cap] (.agg (ab 32 RT)) (fun w hw => hrt w hw) rfl rfl) <|
    oc (k_mv (.inl rfl) rfl) <|
    oc (k_cw 14 #[.int .i64 ((m : Nat) : Int), .int .i64 ((n : Nat) : Int), .agg (ab 32 O), .agg (ab 32 RT), .slice pa q pcap] (.bool true) (fun w hw => hex w hw) rfl rfl) <|
    oc (k_nt true rfl rfl) <|
    oc (k_mv (.inl rfl) rfl) <|
    oc (k_ld 0 0 (.agg (ab 32 O)) (c := ab 32 O) (ldS (F := O) 34) rfl rfl) <|
    oz (k_mv (.inl rfl) rfl) <|
    oz (k_mv (.inl rfl) rfl) <|
    oz (k_sw (.slice (some ⟨b, off, none⟩) n cap) (.slice (some ⟨b, off, none⟩) m cap) none (some (.int .i64 ((m : Nat) : Int))) (sl_lo (by omega) hcap) rfl rfl) <|
    oz (k_cw 15 #[.slice (some ⟨b, off, none⟩) m cap] (.agg (ab 32 RM)) (fun w hw => hrm w hw) rfl rfl) <|
    oz (k_bi (.agg (ab 32 O)) (.agg (ab 32 RM)) (.bool true) (eqS_v hb) rfl rfl) <|
    oz (k_pf rfl rfl) <|
    ok_nil
  clear h; intro β a w h
  refine sym_then ?_
  refine s_ct h ?_
  refine sym_seq ?_
  refine St.r0 h [(8, .inl (.bool true))] [] ?_ ?_
  · exact oz (k_mv (.inr rfl) rfl) <|
    ok_nil
  clear h; intro β a w h
  refine sym_then ?_
  refine wp_ret ?_
  refine then_ret ?_
  exact s_rt h Tryd.results17 (fun hb => ⟨rfl, hb⟩)
end Go.Proofs.YtgnmnoadfjdjdaaDoor

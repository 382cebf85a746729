/- Crv2, Crv3, X5, X6, P3, Crv4, CurveAlive, Ref1, M3, Ref2, M4: laid together. -/
import Derived.LoopN
import Derived.Test.YtpogmflgmpifoaaG2
import Derived.Test.YtpogmflgmpifoaaG1
import Derived.Test.YtpogmflgmpifoaaRows
namespace Go.Proofs.Ytpogmflgmpifoaa
open Go.RowKit
def sLe (x1 y1 x2 y2 : Nat) : Nat := mu (sb y1 x1) (sb y2 x2)
def sMo (x1 y1 x2 y2 : Nat) : Nat := mu (ad y1 x1) (ad y2 x2)
def sOn (z1 z2 : Nat) : Nat := ad (mu z1 z2) (mu z1 z2)
def sPr (d t1 t2 : Nat) : Nat := ad (mu (mu t1 t2) d) (mu (mu t1 t2) d)

set_option maxHeartbeats 4000000 in
theorem sum_r {d x1 y1 z1 t1 x2 y2 z2 t2 : Nat} (hd : d < pp) (hx1 : x1 < pp) (hy1 : y1 < pp) (hz1 : z1 < pp) (ht1 : t1 < pp) (hx2 : x2 < pp) (hy2 : y2 < pp) (hz2 : z2 < pp) (ht2 : t2 < pp) (W0 : World) : Calls Try.prog 44 #[.agg (ces [d]), .agg (ces [x1, y1, z1, t1]), .agg (ces [x2, y2, z2, t2])] W0 fun e w' => e = .returned (.agg (ces [mu (sb (mu (ad y1 x1) (ad y2 x2)) (mu (sb y1 x1) (sb y2 x2))) (sb (ad (mu z1 z2) (mu z1 z2)) (ad (mu (mu t1 t2) d) (mu (mu t1 t2) d))), mu (ad (mu (ad y1 x1) (ad y2 x2)) (mu (sb y1 x1) (sb y2 x2))) (ad (ad (mu z1 z2) (mu z1 z2)) (ad (mu (mu t1 t2) d) (mu (mu t1 t2) d))), mu (ad (ad (mu z1 z2) (mu z1 z2)) (ad (mu (mu t1 t2) d) (mu (mu t1 t2) d))) (sb (ad (mu z1 z2) (mu z1 z2)) (ad (mu (mu t1 t2) d) (mu (mu t1 t2) d))), mu (sb (mu (ad y1 x1) (ad y2 x2)) (mu (sb y1 x1) (sb y2 x2))) (ad (mu (ad y1 x1) (ad y2 x2)) (mu (sb y1 x1) (sb y2 x2)))])) ∧ Below W0.heap.size W0 w' := by
  refine s_in Try.func44 Try.ntmps44 rfl [.inl (.agg (ces [d])), .inl (.agg (ces [x1, y1, z1, t1])), .inl (.agg (ces [x2, y2, z2, t2]))] ?_
  intro β a h
  refine sym_seq ?_
  refine St.rg h [(3, .inr (0, pt 0)), (4, .inr (1, pt 0)), (5, .inr (2, pt 0)), (6, .inr (3, pt 0))] [(ces [d], 78), (ces [x1, y1, z1, t1], 73), (ces [x2, y2, z2, t2], 73), (ces [0, 0, 0, 0], 73)] [] [eN 0, eN 1, eN 2, eN 3] ?_ ?_
  · exact oc (k_bx 0 (.agg (ces [d])) (bxL (a := d)) rfl rfl) <|
    oc (k_bx 1 (.agg (ces [x1, y1, z1, t1])) (bxS (a := x1) (b := y1) (c := z1) (d := t1)) rfl rfl) <|
    oc (k_bx 2 (.agg (ces [x2, y2, z2, t2])) (bxS (a := x2) (b := y2) (c := z2) (d := t2)) rfl rfl) <|
    oc (k_al 3 alS rfl rfl) <|
    ok_nil
  clear h; intro β a w h
  refine sym_then ?_
  refine sym_seq ?_
  refine St.rg h [(15, .inr (1, pt 4)), (16, .inl (el (dig y1))), (17, .inr (1, pt 0)), (18, .inl (el (dig x1))), (19, .inl (el (dig (sb y1 x1)))), (20, .inr (2, pt 4)), (21, .inl (el (dig y2))), (22, .inr (2, pt 0)), (23, .inl (el (dig x2))), (24, .inl (el (dig (sb y2 x2)))), (25, .inl (el (dig (mu (sb y1 x1) (sb y2 x2))))), (7, .inr (4, pt 0))] [(ce 0, 29)] [(4, ce (mu (sb y1 x1) (sb y2 x2)))] [nn, eR 1, nn, eR 1, nn, nn, eR 2, nn, eR 2, nn, nn, eN 4, eS 4] ?_ ?_
  · exact oc (k_fa 1 0 4 rfl rfl) <|
    oc (k_ld 1 4 (el (dig y1)) (c := ces [x1, y1, z1, t1]) (ld_ces (l := [x1, y1, z1, t1]) (k := 1) (n := y1) 73 rfl) rfl rfl) <|
    oc (k_fa 1 0 0 rfl rfl) <|
    oc (k_ld 1 0 (el (dig x1)) (c := ces [x1, y1, z1, t1]) (ld_ces (l := [x1, y1, z1, t1]) (k := 0) (n := x1) 73 rfl) rfl rfl) <|
    oc (k_ca 29 #[el (dig y1), el (dig x1)] (el (dig (sb y1 x1))) (fun w => minus_m hy1 hx1 w) rfl rfl) <|
    oc (k_fa 2 0 4 rfl rfl) <|
    oc (k_ld 2 4 (el (dig y2)) (c := ces [x2, y2, z2, t2]) (ld_ces (l := [x2, y2, z2, t2]) (k := 1) (n := y2) 73 rfl) rfl rfl) <|
    oc (k_fa 2 0 0 rfl rfl) <|
    oc (k_ld 2 0 (el (dig x2)) (c := ces [x2, y2, z2, t2]) (ld_ces (l := [x2, y2, z2, t2]) (k := 0) (n := x2) 73 rfl) rfl rfl) <|
    oc (k_ca 29 #[el (dig y2), el (dig x2)] (el (dig (sb y2 x2))) (fun w => minus_m hy2 hx2 w) rfl rfl) <|
    oc (k_ca 58 #[el (dig (sb y1 x1)), el (dig (sb y2 x2))] (el (dig (mu (sb y1 x1) (sb y2 x2)))) (fun w => times_m (sb_lt _ _) (sb_lt _ _) w) rfl rfl) <|
    oc (k_al 4 alE rfl rfl) <|
    oc (k_st 4 0 (el (dig (mu (sb y1 x1) (sb y2 x2)))) (c := ce 0) (n := ce (mu (sb y1 x1) (sb y2 x2))) (stE (n := (mu (sb y1 x1) (sb y2 x2))) (c := ce 0) 29 (ce_size _)) rfl rfl) <|
    ok_nil
  clear h; intro β a w h
  refine sym_then ?_
  refine sym_seq ?_
  refine St.rg h [(26, .inr (1, pt 4)), (27, .inl (el (dig y1))), (28, .inr (1, pt 0)), (29, .inl (el (dig x1))), (30, .inl (el (dig (ad y1 x1)))), (31, .inr (2, pt 4)), (32, .inl (el (dig y2))), (33, .inr (2, pt 0)), (34, .inl (el (dig x2))), (35, .inl (el (dig (ad y2 x2)))), (36, .inl (el (dig (mu (ad y1 x1) (ad y2 x2))))), (8, .inr (5, pt 0))] [(ce 0, 29)] [(5, ce (mu (ad y1 x1) (ad y2 x2)))] [nn, eR 1, nn, eR 1, nn, nn, eR 2, nn, eR 2, nn, nn, eN 5, eS 5] ?_ ?_
  · exact oc (k_fa 1 0 4 rfl rfl) <|
    oc (k_ld 1 4 (el (dig y1)) (c := ces [x1, y1, z1, t1]) (ld_ces (l := [x1, y1, z1, t1]) (k := 1) (n := y1) 73 rfl) rfl rfl) <|
    oc (k_fa 1 0 0 rfl rfl) <|
    oc (k_ld 1 0 (el (dig x1)) (c := ces [x1, y1, z1, t1]) (ld_ces (l := [x1, y1, z1, t1]) (k := 0) (n := x1) 73 rfl) rfl rfl) <|
    oc (k_ca 60 #[el (dig y1), el (dig x1)] (el (dig (ad y1 x1))) (fun w => plus_m hy1 hx1 w) rfl rfl) <|
    oc (k_fa 2 0 4 rfl rfl) <|
    oc (k_ld 2 4 (el (dig y2)) (c := ces [x2, y2, z2, t2]) (ld_ces (l := [x2, y2, z2, t2]) (k := 1) (n := y2) 73 rfl) rfl rfl) <|
    oc (k_fa 2 0 0 rfl rfl) <|
    oc (k_ld 2 0 (el (dig x2)) (c := ces [x2, y2, z2, t2]) (ld_ces (l := [x2, y2, z2, t2]) (k := 0) (n := x2) 73 rfl) rfl rfl) <|
    oc (k_ca 60 #[el (dig y2), el (dig x2)] (el (dig (ad y2 x2))) (fun w => plus_m hy2 hx2 w) rfl rfl) <|
    oc (k_ca 58 #[el (dig (ad y1 x1)), el (dig (ad y2 x2))] (el (dig (mu (ad y1 x1) (ad y2 x2)))) (fun w => times_m (ad_lt _ _) (ad_lt _ _) w) rfl rfl) <|
    oc (k_al 5 alE rfl rfl) <|
    oc (k_st 5 0 (el (dig (mu (ad y1 x1) (ad y2 x2)))) (c := ce 0) (n := ce (mu (ad y1 x1) (ad y2 x2))) (stE (n := (mu (ad y1 x1) (ad y2 x2))) (c := ce 0) 29 (ce_size _)) rfl rfl) <|
    ok_nil
  clear h; intro β a w h
  refine sym_then ?_
  refine sym_seq ?_
  refine St.rg h [(37, .inr (1, pt 8)), (38, .inl (el (dig z1))), (39, .inr (2, pt 8)), (40, .inl (el (dig z2))), (41, .inl (el (dig (mu z1 z2)))), (42, .inl (el (dig (ad (mu z1 z2) (mu z1 z2))))), (9, .inr (6, pt 0))] [(ce 0, 29)] [(6, ce (ad (mu z1 z2) (mu z1 z2)))] [nn, eR 1, nn, eR 2, nn, nn, eN 6, eS 6] ?_ ?_
  · exact oc (k_fa 1 0 8 rfl rfl) <|
    oc (k_ld 1 8 (el (dig z1)) (c := ces [x1, y1, z1, t1]) (ld_ces (l := [x1, y1, z1, t1]) (k := 2) (n := z1) 73 rfl) rfl rfl) <|
    oc (k_fa 2 0 8 rfl rfl) <|
    oc (k_ld 2 8 (el (dig z2)) (c := ces [x2, y2, z2, t2]) (ld_ces (l := [x2, y2, z2, t2]) (k := 2) (n := z2) 73 rfl) rfl rfl) <|
    oc (k_ca 58 #[el (dig z1), el (dig z2)] (el (dig (mu z1 z2))) (fun w => times_m hz1 hz2 w) rfl rfl) <|
    oc (k_ca 71 #[el (dig (mu z1 z2))] (el (dig (ad (mu z1 z2) (mu z1 z2)))) (fun w => twice_r (mu_lt _ _) w) rfl rfl) <|
    oc (k_al 6 alE rfl rfl) <|
    oc (k_st 6 0 (el (dig (ad (mu z1 z2) (mu z1 z2)))) (c := ce 0) (n := ce (ad (mu z1 z2) (mu z1 z2))) (stE (n := (ad (mu z1 z2) (mu z1 z2))) (c := ce 0) 29 (ce_size _)) rfl rfl) <|
    ok_nil
  clear h; intro β a w h
  refine sym_then ?_
  refine sym_seq ?_
  refine St.rg h [(43, .inr (1, pt 12)), (44, .inl (el (dig t1))), (45, .inr (2, pt 12)), (46, .inl (el (dig t2))), (47, .inl (el (dig (mu t1 t2)))), (48, .inr (0, pt 0)), (49, .inl (el (dig d))), (50, .inl (el (dig (mu (mu t1 t2) d)))), (51, .inl (el (dig (ad (mu (mu t1 t2) d) (mu (mu t1 t2) d))))), (10, .inr (7, pt 0))] [(ce 0, 29)] [(7, ce (ad (mu (mu t1 t2) d) (mu (mu t1 t2) d)))] [nn, eR 1, nn, eR 2, nn, nn, eR 0, nn, nn, eN 7, eS 7] ?_ ?_
  · exact oc (k_fa 1 0 12 rfl rfl) <|
    oc (k_ld 1 12 (el (dig t1)) (c := ces [x1, y1, z1, t1]) (ld_ces (l := [x1, y1, z1, t1]) (k := 3) (n := t1) 73 rfl) rfl rfl) <|
    oc (k_fa 2 0 12 rfl rfl) <|
    oc (k_ld 2 12 (el (dig t2)) (c := ces [x2, y2, z2, t2]) (ld_ces (l := [x2, y2, z2, t2]) (k := 3) (n := t2) 73 rfl) rfl rfl) <|
    oc (k_ca 58 #[el (dig t1), el (dig t2)] (el (dig (mu t1 t2))) (fun w => times_m ht1 ht2 w) rfl rfl) <|
    oc (k_fa 0 0 0 rfl rfl) <|
    oc (k_ld 0 0 (el (dig d)) (c := ces [d]) (ld_ces (l := [d]) (k := 0) (n := d) 78 rfl) rfl rfl) <|
    oc (k_ca 58 #[el (dig (mu t1 t2)), el (dig d)] (el (dig (mu (mu t1 t2) d))) (fun w => times_m (mu_lt _ _) hd w) rfl rfl) <|
    oc (k_ca 71 #[el (dig (mu (mu t1 t2) d))] (el (dig (ad (mu (mu t1 t2) d) (mu (mu t1 t2) d)))) (fun w => twice_r (mu_lt _ _) w) rfl rfl) <|
    oc (k_al 7 alE rfl rfl) <|
    oc (k_st 7 0 (el (dig (ad (mu (mu t1 t2) d) (mu (mu t1 t2) d)))) (c := ce 0) (n := ce (ad (mu (mu t1 t2) d) (mu (mu t1 t2) d))) (stE (n := (ad (mu (mu t1 t2) d) (mu (mu t1 t2) d))) (c := ce 0) 29 (ce_size _)) rfl rfl) <|
    ok_nil
  clear h; intro β a w h
  refine sym_then ?_
  refine sym_seq ?_
  refine St.rg h [(52, .inl (el (dig (mu (ad y1 x1) (ad y2 x2))))), (53, .inl (el (dig (mu (sb y1 x1) (sb y2 x2))))), (54, .inl (el (dig (sb (mu (ad y1 x1) (ad y2 x2)) (mu (sb y1 x1) (sb y2 x2)))))), (55, .inl (el (dig (mu (ad y1 x1) (ad y2 x2))))), (56, .inl (el (dig (mu (sb y1 x1) (sb y2 x2))))), (57, .inl (el (dig (ad (mu (ad y1 x1) (ad y2 x2)) (mu (sb y1 x1) (sb y2 x2)))))), (11, .inr (8, pt 0)), (12, .inr (9, pt 0))] [(ce 0, 29), (ce 0, 29)] [(8, ce (sb (mu (ad y1 x1) (ad y2 x2)) (mu (sb y1 x1) (sb y2 x2)))), (9, ce (ad (mu (ad y1 x1) (ad y2 x2)) (mu (sb y1 x1) (sb y2 x2))))] [eR 5, eR 4, nn, eR 5, eR 4, nn, eN 8, eN 9, eS 8, eS 9] ?_ ?_
  · exact oc (k_ld 5 0 (el (dig (mu (ad y1 x1) (ad y2 x2)))) (c := ce (mu (ad y1 x1) (ad y2 x2))) (ldE (n := (mu (ad y1 x1) (ad y2 x2))) 29) rfl rfl) <|
    oc (k_ld 4 0 (el (dig (mu (sb y1 x1) (sb y2 x2)))) (c := ce (mu (sb y1 x1) (sb y2 x2))) (ldE (n := (mu (sb y1 x1) (sb y2 x2))) 29) rfl rfl) <|
    oc (k_ca 29 #[el (dig (mu (ad y1 x1) (ad y2 x2))), el (dig (mu (sb y1 x1) (sb y2 x2)))] (el (dig (sb (mu (ad y1 x1) (ad y2 x2)) (mu (sb y1 x1) (sb y2 x2))))) (fun w => minus_m (mu_lt _ _) (mu_lt _ _) w) rfl rfl) <|
    oc (k_ld 5 0 (el (dig (mu (ad y1 x1) (ad y2 x2)))) (c := ce (mu (ad y1 x1) (ad y2 x2))) (ldE (n := (mu (ad y1 x1) (ad y2 x2))) 29) rfl rfl) <|
    oc (k_ld 4 0 (el (dig (mu (sb y1 x1) (sb y2 x2)))) (c := ce (mu (sb y1 x1) (sb y2 x2))) (ldE (n := (mu (sb y1 x1) (sb y2 x2))) 29) rfl rfl) <|
    oc (k_ca 60 #[el (dig (mu (ad y1 x1) (ad y2 x2))), el (dig (mu (sb y1 x1) (sb y2 x2)))] (el (dig (ad (mu (ad y1 x1) (ad y2 x2)) (mu (sb y1 x1) (sb y2 x2))))) (fun w => plus_m (mu_lt _ _) (mu_lt _ _) w) rfl rfl) <|
    oc (k_al 8 alE rfl rfl) <|
    oc (k_al 9 alE rfl rfl) <|
    oc (k_st 8 0 (el (dig (sb (mu (ad y1 x1) (ad y2 x2)) (mu (sb y1 x1) (sb y2 x2))))) (c := ce 0) (n := ce (sb (mu (ad y1 x1) (ad y2 x2)) (mu (sb y1 x1) (sb y2 x2)))) (stE (n := (sb (mu (ad y1 x1) (ad y2 x2)) (mu (sb y1 x1) (sb y2 x2)))) (c := ce 0) 29 (ce_size _)) rfl rfl) <|
    oc (k_st 9 0 (el (dig (ad (mu (ad y1 x1) (ad y2 x2)) (mu (sb y1 x1) (sb y2 x2))))) (c := ce 0) (n := ce (ad (mu (ad y1 x1) (ad y2 x2)) (mu (sb y1 x1) (sb y2 x2)))) (stE (n := (ad (mu (ad y1 x1) (ad y2 x2)) (mu (sb y1 x1) (sb y2 x2)))) (c := ce 0) 29 (ce_size _)) rfl rfl) <|
    ok_nil
  clear h; intro β a w h
  refine sym_then ?_
  refine sym_seq ?_
  refine St.rg h [(58, .inl (el (dig (ad (mu z1 z2) (mu z1 z2))))), (59, .inl (el (dig (ad (mu (mu t1 t2) d) (mu (mu t1 t2) d))))), (60, .inl (el (dig (ad (ad (mu z1 z2) (mu z1 z2)) (ad (mu (mu t1 t2) d) (mu (mu t1 t2) d)))))), (61, .inl (el (dig (ad (mu z1 z2) (mu z1 z2))))), (62, .inl (el (dig (ad (mu (mu t1 t2) d) (mu (mu t1 t2) d))))), (63, .inl (el (dig (sb (ad (mu z1 z2) (mu z1 z2)) (ad (mu (mu t1 t2) d) (mu (mu t1 t2) d)))))), (13, .inr (10, pt 0)), (14, .inr (11, pt 0))] [(ce 0, 29), (ce 0, 29)] [(10, ce (ad (ad (mu z1 z2) (mu z1 z2)) (ad (mu (mu t1 t2) d) (mu (mu t1 t2) d)))), (11, ce (sb (ad (mu z1 z2) (mu z1 z2)) (ad (mu (mu t1 t2) d) (mu (mu t1 t2) d))))] [eR 6, eR 7, nn, eR 6, eR 7, nn, eN 10, eN 11, eS 10, eS 11] ?_ ?_
  · exact oc (k_ld 6 0 (el (dig (ad (mu z1 z2) (mu z1 z2)))) (c := ce (ad (mu z1 z2) (mu z1 z2))) (ldE (n := (ad (mu z1 z2) (mu z1 z2))) 29) rfl rfl) <|
    oc (k_ld 7 0 (el (dig (ad (mu (mu t1 t2) d) (mu (mu t1 t2) d)))) (c := ce (ad (mu (mu t1 t2) d) (mu (mu t1 t2) d))) (ldE (n := (ad (mu (mu t1 t2) d) (mu (mu t1 t2) d))) 29) rfl rfl) <|
    oc (k_ca 60 #[el (dig (ad (mu z1 z2) (mu z1 z2))), el (dig (ad (mu (mu t1 t2) d) (mu (mu t1 t2) d)))] (el (dig (ad (ad (mu z1 z2) (mu z1 z2)) (ad (mu (mu t1 t2) d) (mu (mu t1 t2) d))))) (fun w => plus_m (ad_lt _ _) (ad_lt _ _) w) rfl rfl) <|
    oc (k_ld 6 0 (el (dig (ad (mu z1 z2) (mu z1 z2)))) (c := ce (ad (mu z1 z2) (mu z1 z2))) (ldE (n := (ad (mu z1 z2) (mu z1 z2))) 29) rfl rfl) <|
    oc (k_ld 7 0 (el (dig (ad (mu (mu t1 t2) d) (mu (mu t1 t2) d)))) (c := ce (ad (mu (mu t1 t2) d) (mu (mu t1 t2) d))) (ldE (n := (ad (mu (mu t1 t2) d) (mu (mu t1 t2) d))) 29) rfl rfl) <|
    oc (k_ca 29 #[el (dig (ad (mu z1 z2) (mu z1 z2))), el (dig (ad (mu (mu t1 t2) d) (mu (mu t1 t2) d)))] (el (dig (sb (ad (mu z1 z2) (mu z1 z2)) (ad (mu (mu t1 t2) d) (mu (mu t1 t2) d))))) (fun w => minus_m (ad_lt _ _) (ad_lt _ _) w) rfl rfl) <|
    oc (k_al 10 alE rfl rfl) <|
    oc (k_al 11 alE rfl rfl) <|
    oc (k_st 10 0 (el (dig (ad (ad (mu z1 z2) (mu z1 z2)) (ad (mu (mu t1 t2) d) (mu (mu t1 t2) d))))) (c := ce 0) (n := ce (ad (ad (mu z1 z2) (mu z1 z2)) (ad (mu (mu t1 t2) d) (mu (mu t1 t2) d)))) (stE (n := (ad (ad (mu z1 z2) (mu z1 z2)) (ad (mu (mu t1 t2) d) (mu (mu t1 t2) d)))) (c := ce 0) 29 (ce_size _)) rfl rfl) <|
    oc (k_st 11 0 (el (dig (sb (ad (mu z1 z2) (mu z1 z2)) (ad (mu (mu t1 t2) d) (mu (mu t1 t2) d))))) (c := ce 0) (n := ce (sb (ad (mu z1 z2) (mu z1 z2)) (ad (mu (mu t1 t2) d) (mu (mu t1 t2) d)))) (stE (n := (sb (ad (mu z1 z2) (mu z1 z2)) (ad (mu (mu t1 t2) d) (mu (mu t1 t2) d)))) (c := ce 0) 29 (ce_size _)) rfl rfl) <|
    ok_nil
  clear h; intro β a w h
  refine sym_then ?_
  refine sym_seq ?_
  refine St.rg h [(64, .inl (el (dig (sb (mu (ad y1 x1) (ad y2 x2)) (mu (sb y1 x1) (sb y2 x2)))))), (65, .inl (el (dig (sb (ad (mu z1 z2) (mu z1 z2)) (ad (mu (mu t1 t2) d) (mu (mu t1 t2) d)))))), (66, .inl (el (dig (mu (sb (mu (ad y1 x1) (ad y2 x2)) (mu (sb y1 x1) (sb y2 x2))) (sb (ad (mu z1 z2) (mu z1 z2)) (ad (mu (mu t1 t2) d) (mu (mu t1 t2) d))))))), (67, .inl (el (dig (ad (mu (ad y1 x1) (ad y2 x2)) (mu (sb y1 x1) (sb y2 x2)))))), (68, .inl (el (dig (ad (ad (mu z1 z2) (mu z1 z2)) (ad (mu (mu t1 t2) d) (mu (mu t1 t2) d)))))), (69, .inl (el (dig (mu (ad (mu (ad y1 x1) (ad y2 x2)) (mu (sb y1 x1) (sb y2 x2))) (ad (ad (mu z1 z2) (mu z1 z2)) (ad (mu (mu t1 t2) d) (mu (mu t1 t2) d))))))), (70, .inl (el (dig (ad (ad (mu z1 z2) (mu z1 z2)) (ad (mu (mu t1 t2) d) (mu (mu t1 t2) d)))))), (71, .inl (el (dig (sb (ad (mu z1 z2) (mu z1 z2)) (ad (mu (mu t1 t2) d) (mu (mu t1 t2) d)))))), (72, .inl (el (dig (mu (ad (ad (mu z1 z2) (mu z1 z2)) (ad (mu (mu t1 t2) d) (mu (mu t1 t2) d))) (sb (ad (mu z1 z2) (mu z1 z2)) (ad (mu (mu t1 t2) d) (mu (mu t1 t2) d))))))), (73, .inl (el (dig (sb (mu (ad y1 x1) (ad y2 x2)) (mu (sb y1 x1) (sb y2 x2)))))), (74, .inl (el (dig (ad (mu (ad y1 x1) (ad y2 x2)) (mu (sb y1 x1) (sb y2 x2)))))), (75, .inl (el (dig (mu (sb (mu (ad y1 x1) (ad y2 x2)) (mu (sb y1 x1) (sb y2 x2))) (ad (mu (ad y1 x1) (ad y2 x2)) (mu (sb y1 x1) (sb y2 x2))))))), (76, .inl (.agg (ces [(mu (sb (mu (ad y1 x1) (ad y2 x2)) (mu (sb y1 x1) (sb y2 x2))) (sb (ad (mu z1 z2) (mu z1 z2)) (ad (mu (mu t1 t2) d) (mu (mu t1 t2) d)))), (mu (ad (mu (ad y1 x1) (ad y2 x2)) (mu (sb y1 x1) (sb y2 x2))) (ad (ad (mu z1 z2) (mu z1 z2)) (ad (mu (mu t1 t2) d) (mu (mu t1 t2) d)))), (mu (ad (ad (mu z1 z2) (mu z1 z2)) (ad (mu (mu t1 t2) d) (mu (mu t1 t2) d))) (sb (ad (mu z1 z2) (mu z1 z2)) (ad (mu (mu t1 t2) d) (mu (mu t1 t2) d)))), (mu (sb (mu (ad y1 x1) (ad y2 x2)) (mu (sb y1 x1) (sb y2 x2))) (ad (mu (ad y1 x1) (ad y2 x2)) (mu (sb y1 x1) (sb y2 x2))))])))] [] [(3, ces [(mu (sb (mu (ad y1 x1) (ad y2 x2)) (mu (sb y1 x1) (sb y2 x2))) (sb (ad (mu z1 z2) (mu z1 z2)) (ad (mu (mu t1 t2) d) (mu (mu t1 t2) d)))), (mu (ad (mu (ad y1 x1) (ad y2 x2)) (mu (sb y1 x1) (sb y2 x2))) (ad (ad (mu z1 z2) (mu z1 z2)) (ad (mu (mu t1 t2) d) (mu (mu t1 t2) d)))), (mu (ad (ad (mu z1 z2) (mu z1 z2)) (ad (mu (mu t1 t2) d) (mu (mu t1 t2) d))) (sb (ad (mu z1 z2) (mu z1 z2)) (ad (mu (mu t1 t2) d) (mu (mu t1 t2) d)))), (mu (sb (mu (ad y1 x1) (ad y2 x2)) (mu (sb y1 x1) (sb y2 x2))) (ad (mu (ad y1 x1) (ad y2 x2)) (mu (sb y1 x1) (sb y2 x2))))])] [eR 8, eR 11, nn, eR 9, eR 10, nn, eR 10, eR 11, nn, eR 8, eR 9, nn, nn, eS 3] ?_ ?_
  · exact oc (k_ld 8 0 (el (dig (sb (mu (ad y1 x1) (ad y2 x2)) (mu (sb y1 x1) (sb y2 x2))))) (c := ce (sb (mu (ad y1 x1) (ad y2 x2)) (mu (sb y1 x1) (sb y2 x2)))) (ldE (n := (sb (mu (ad y1 x1) (ad y2 x2)) (mu (sb y1 x1) (sb y2 x2)))) 29) rfl rfl) <|
    oc (k_ld 11 0 (el (dig (sb (ad (mu z1 z2) (mu z1 z2)) (ad (mu (mu t1 t2) d) (mu (mu t1 t2) d))))) (c := ce (sb (ad (mu z1 z2) (mu z1 z2)) (ad (mu (mu t1 t2) d) (mu (mu t1 t2) d)))) (ldE (n := (sb (ad (mu z1 z2) (mu z1 z2)) (ad (mu (mu t1 t2) d) (mu (mu t1 t2) d)))) 29) rfl rfl) <|
    oc (k_ca 58 #[el (dig (sb (mu (ad y1 x1) (ad y2 x2)) (mu (sb y1 x1) (sb y2 x2)))), el (dig (sb (ad (mu z1 z2) (mu z1 z2)) (ad (mu (mu t1 t2) d) (mu (mu t1 t2) d))))] (el (dig (mu (sb (mu (ad y1 x1) (ad y2 x2)) (mu (sb y1 x1) (sb y2 x2))) (sb (ad (mu z1 z2) (mu z1 z2)) (ad (mu (mu t1 t2) d) (mu (mu t1 t2) d)))))) (fun w => times_m (sb_lt _ _) (sb_lt _ _) w) rfl rfl) <|
    oc (k_ld 9 0 (el (dig (ad (mu (ad y1 x1) (ad y2 x2)) (mu (sb y1 x1) (sb y2 x2))))) (c := ce (ad (mu (ad y1 x1) (ad y2 x2)) (mu (sb y1 x1) (sb y2 x2)))) (ldE (n := (ad (mu (ad y1 x1) (ad y2 x2)) (mu (sb y1 x1) (sb y2 x2)))) 29) rfl rfl) <|
    oc (k_ld 10 0 (el (dig (ad (ad (mu z1 z2) (mu z1 z2)) (ad (mu (mu t1 t2) d) (mu (mu t1 t2) d))))) (c := ce (ad (ad (mu z1 z2) (mu z1 z2)) (ad (mu (mu t1 t2) d) (mu (mu t1 t2) d)))) (ldE (n := (ad (ad (mu z1 z2) (mu z1 z2)) (ad (mu (mu t1 t2) d) (mu (mu t1 t2) d)))) 29) rfl rfl) <|
    oc (k_ca 58 #[el (dig (ad (mu (ad y1 x1) (ad y2 x2)) (mu (sb y1 x1) (sb y2 x2)))), el (dig (ad (ad (mu z1 z2) (mu z1 z2)) (ad (mu (mu t1 t2) d) (mu (mu t1 t2) d))))] (el (dig (mu (ad (mu (ad y1 x1) (ad y2 x2)) (mu (sb y1 x1) (sb y2 x2))) (ad (ad (mu z1 z2) (mu z1 z2)) (ad (mu (mu t1 t2) d) (mu (mu t1 t2) d)))))) (fun w => times_m (ad_lt _ _) (ad_lt _ _) w) rfl rfl) <|
    oc (k_ld 10 0 (el (dig (ad (ad (mu z1 z2) (mu z1 z2)) (ad (mu (mu t1 t2) d) (mu (mu t1 t2) d))))) (c := ce (ad (ad (mu z1 z2) (mu z1 z2)) (ad (mu (mu t1 t2) d) (mu (mu t1 t2) d)))) (ldE (n := (ad (ad (mu z1 z2) (mu z1 z2)) (ad (mu (mu t1 t2) d) (mu (mu t1 t2) d)))) 29) rfl rfl) <|
    oc (k_ld 11 0 (el (dig (sb (ad (mu z1 z2) (mu z1 z2)) (ad (mu (mu t1 t2) d) (mu (mu t1 t2) d))))) (c := ce (sb (ad (mu z1 z2) (mu z1 z2)) (ad (mu (mu t1 t2) d) (mu (mu t1 t2) d)))) (ldE (n := (sb (ad (mu z1 z2) (mu z1 z2)) (ad (mu (mu t1 t2) d) (mu (mu t1 t2) d)))) 29) rfl rfl) <|
    oc (k_ca 58 #[el (dig (ad (ad (mu z1 z2) (mu z1 z2)) (ad (mu (mu t1 t2) d) (mu (mu t1 t2) d)))), el (dig (sb (ad (mu z1 z2) (mu z1 z2)) (ad (mu (mu t1 t2) d) (mu (mu t1 t2) d))))] (el (dig (mu (ad (ad (mu z1 z2) (mu z1 z2)) (ad (mu (mu t1 t2) d) (mu (mu t1 t2) d))) (sb (ad (mu z1 z2) (mu z1 z2)) (ad (mu (mu t1 t2) d) (mu (mu t1 t2) d)))))) (fun w => times_m (ad_lt _ _) (sb_lt _ _) w) rfl rfl) <|
    oc (k_ld 8 0 (el (dig (sb (mu (ad y1 x1) (ad y2 x2)) (mu (sb y1 x1) (sb y2 x2))))) (c := ce (sb (mu (ad y1 x1) (ad y2 x2)) (mu (sb y1 x1) (sb y2 x2)))) (ldE (n := (sb (mu (ad y1 x1) (ad y2 x2)) (mu (sb y1 x1) (sb y2 x2)))) 29) rfl rfl) <|
    oc (k_ld 9 0 (el (dig (ad (mu (ad y1 x1) (ad y2 x2)) (mu (sb y1 x1) (sb y2 x2))))) (c := ce (ad (mu (ad y1 x1) (ad y2 x2)) (mu (sb y1 x1) (sb y2 x2)))) (ldE (n := (ad (mu (ad y1 x1) (ad y2 x2)) (mu (sb y1 x1) (sb y2 x2)))) 29) rfl rfl) <|
    oc (k_ca 58 #[el (dig (sb (mu (ad y1 x1) (ad y2 x2)) (mu (sb y1 x1) (sb y2 x2)))), el (dig (ad (mu (ad y1 x1) (ad y2 x2)) (mu (sb y1 x1) (sb y2 x2))))] (el (dig (mu (sb (mu (ad y1 x1) (ad y2 x2)) (mu (sb y1 x1) (sb y2 x2))) (ad (mu (ad y1 x1) (ad y2 x2)) (mu (sb y1 x1) (sb y2 x2)))))) (fun w => times_m (sb_lt _ _) (ad_lt _ _) w) rfl rfl) <|
    oc (k_bu #[(0, el (dig (mu (sb (mu (ad y1 x1) (ad y2 x2)) (mu (sb y1 x1) (sb y2 x2))) (sb (ad (mu z1 z2) (mu z1 z2)) (ad (mu (mu t1 t2) d) (mu (mu t1 t2) d)))))), (1, el (dig (mu (ad (mu (ad y1 x1) (ad y2 x2)) (mu (sb y1 x1) (sb y2 x2))) (ad (ad (mu z1 z2) (mu z1 z2)) (ad (mu (mu t1 t2) d) (mu (mu t1 t2) d)))))), (2, el (dig (mu (ad (ad (mu z1 z2) (mu z1 z2)) (ad (mu (mu t1 t2) d) (mu (mu t1 t2) d))) (sb (ad (mu z1 z2) (mu z1 z2)) (ad (mu (mu t1 t2) d) (mu (mu t1 t2) d)))))), (3, el (dig (mu (sb (mu (ad y1 x1) (ad y2 x2)) (mu (sb y1 x1) (sb y2 x2))) (ad (mu (ad y1 x1) (ad y2 x2)) (mu (sb y1 x1) (sb y2 x2))))))] (.agg (ces [(mu (sb (mu (ad y1 x1) (ad y2 x2)) (mu (sb y1 x1) (sb y2 x2))) (sb (ad (mu z1 z2) (mu z1 z2)) (ad (mu (mu t1 t2) d) (mu (mu t1 t2) d)))), (mu (ad (mu (ad y1 x1) (ad y2 x2)) (mu (sb y1 x1) (sb y2 x2))) (ad (ad (mu z1 z2) (mu z1 z2)) (ad (mu (mu t1 t2) d) (mu (mu t1 t2) d)))), (mu (ad (ad (mu z1 z2) (mu z1 z2)) (ad (mu (mu t1 t2) d) (mu (mu t1 t2) d))) (sb (ad (mu z1 z2) (mu z1 z2)) (ad (mu (mu t1 t2) d) (mu (mu t1 t2) d)))), (mu (sb (mu (ad y1 x1) (ad y2 x2)) (mu (sb y1 x1) (sb y2 x2))) (ad (mu (ad y1 x1) (ad y2 x2)) (mu (sb y1 x1) (sb y2 x2))))])) (bdS (a := (mu (sb (mu (ad y1 x1) (ad y2 x2)) (mu (sb y1 x1) (sb y2 x2))) (sb (ad (mu z1 z2) (mu z1 z2)) (ad (mu (mu t1 t2) d) (mu (mu t1 t2) d))))) (b := (mu (ad (mu (ad y1 x1) (ad y2 x2)) (mu (sb y1 x1) (sb y2 x2))) (ad (ad (mu z1 z2) (mu z1 z2)) (ad (mu (mu t1 t2) d) (mu (mu t1 t2) d))))) (c := (mu (ad (ad (mu z1 z2) (mu z1 z2)) (ad (mu (mu t1 t2) d) (mu (mu t1 t2) d))) (sb (ad (mu z1 z2) (mu z1 z2)) (ad (mu (mu t1 t2) d) (mu (mu t1 t2) d))))) (d := (mu (sb (mu (ad y1 x1) (ad y2 x2)) (mu (sb y1 x1) (sb y2 x2))) (ad (mu (ad y1 x1) (ad y2 x2)) (mu (sb y1 x1) (sb y2 x2)))))) rfl rfl) <|
    oc (k_st 3 0 (.agg (ces [(mu (sb (mu (ad y1 x1) (ad y2 x2)) (mu (sb y1 x1) (sb y2 x2))) (sb (ad (mu z1 z2) (mu z1 z2)) (ad (mu (mu t1 t2) d) (mu (mu t1 t2) d)))), (mu (ad (mu (ad y1 x1) (ad y2 x2)) (mu (sb y1 x1) (sb y2 x2))) (ad (ad (mu z1 z2) (mu z1 z2)) (ad (mu (mu t1 t2) d) (mu (mu t1 t2) d)))), (mu (ad (ad (mu z1 z2) (mu z1 z2)) (ad (mu (mu t1 t2) d) (mu (mu t1 t2) d))) (sb (ad (mu z1 z2) (mu z1 z2)) (ad (mu (mu t1 t2) d) (mu (mu t1 t2) d)))), (mu (sb (mu (ad y1 x1) (ad y2 x2)) (mu (sb y1 x1) (sb y2 x2))) (ad (mu (ad y1 x1) (ad y2 x2)) (mu (sb y1 x1) (sb y2 x2))))])) (c := ces [0, 0, 0, 0]) (n := ces [(mu (sb (mu (ad y1 x1) (ad y2 x2)) (mu (sb y1 x1) (sb y2 x2))) (sb (ad (mu z1 z2) (mu z1 z2)) (ad (mu (mu t1 t2) d) (mu (mu t1 t2) d)))), (mu (ad (mu (ad y1 x1) (ad y2 x2)) (mu (sb y1 x1) (sb y2 x2))) (ad (ad (mu z1 z2) (mu z1 z2)) (ad (mu (mu t1 t2) d) (mu (mu t1 t2) d)))), (mu (ad (ad (mu z1 z2) (mu z1 z2)) (ad (mu (mu t1 t2) d) (mu (mu t1 t2) d))) (sb (ad (mu z1 z2) (mu z1 z2)) (ad (mu (mu t1 t2) d) (mu (mu t1 t2) d)))), (mu (sb (mu (ad y1 x1) (ad y2 x2)) (mu (sb y1 x1) (sb y2 x2))) (ad (mu (ad y1 x1) (ad y2 x2)) (mu (sb y1 x1) (sb y2 x2))))]) (stS (a := (mu (sb (mu (ad y1 x1) (ad y2 x2)) (mu (sb y1 x1) (sb y2 x2))) (sb (ad (mu z1 z2) (mu z1 z2)) (ad (mu (mu t1 t2) d) (mu (mu t1 t2) d))))) (b := (mu (ad (mu (ad y1 x1) (ad y2 x2)) (mu (sb y1 x1) (sb y2 x2))) (ad (ad (mu z1 z2) (mu z1 z2)) (ad (mu (mu t1 t2) d) (mu (mu t1 t2) d))))) (c := (mu (ad (ad (mu z1 z2) (mu z1 z2)) (ad (mu (mu t1 t2) d) (mu (mu t1 t2) d))) (sb (ad (mu z1 z2) (mu z1 z2)) (ad (mu (mu t1 t2) d) (mu (mu t1 t2) d))))) (d := (mu (sb (mu (ad y1 x1) (ad y2 x2)) (mu (sb y1 x1) (sb y2 x2))) (ad (mu (ad y1 x1) (ad y2 x2)) (mu (sb y1 x1) (sb y2 x2))))) (e := ces [0, 0, 0, 0]) 73 (by rw [ces_size]; rfl)) rfl rfl) <|
    ok_nil
  clear h; intro β a w h
  refine sym_then ?_
  refine wp_ret ?_
  exact s_rc (b := 3) (t0 := 73) (c := ces [(mu (sb (mu (ad y1 x1) (ad y2 x2)) (mu (sb y1 x1) (sb y2 x2))) (sb (ad (mu z1 z2) (mu z1 z2)) (ad (mu (mu t1 t2) d) (mu (mu t1 t2) d)))), (mu (ad (mu (ad y1 x1) (ad y2 x2)) (mu (sb y1 x1) (sb y2 x2))) (ad (ad (mu z1 z2) (mu z1 z2)) (ad (mu (mu t1 t2) d) (mu (mu t1 t2) d)))), (mu (ad (ad (mu z1 z2) (mu z1 z2)) (ad (mu (mu t1 t2) d) (mu (mu t1 t2) d))) (sb (ad (mu z1 z2) (mu z1 z2)) (ad (mu (mu t1 t2) d) (mu (mu t1 t2) d)))), (mu (sb (mu (ad y1 x1) (ad y2 x2)) (mu (sb y1 x1) (sb y2 x2))) (ad (mu (ad y1 x1) (ad y2 x2)) (mu (sb y1 x1) (sb y2 x2))))]) h Try.results44 Try.underlying73 (fun hb => ⟨rfl, hb⟩) (by rw [ces_size]; kernel_rfl)

end Go.Proofs.Ytpogmflgmpifoaa

namespace Go.Proofs.Ytpogmflgmpifoaa
open Go.RowKit

set_option maxHeartbeats 4000000 in
theorem plus_q {x1 b1 x2 b2 X Y Z T : Nat} (hx1 : x1 < pp) (hb1 : b1 < pp) (hx2 : x2 < pp) (hb2 : b2 < pp) (hX : X < pp) (hY : Y < pp) (hZ : Z < pp) (cS : ∀ w, Calls Try.prog 44 #[.agg (ces [dN]), .agg (ces [x1, ad b1 1, 1, mu x1 (ad b1 1)]), .agg (ces [x2, ad b2 1, 1, mu x2 (ad b2 1)])] w fun e w' => e = .returned (.agg (ces [X, Y, Z, T])) ∧ Below w.heap.size w w') (W0 : World) : Calls Try.prog 17 #[.agg (ces [x1, b1]), .agg (ces [x2, b2])] W0 fun e w' => e = .returned (.agg (ces [mu X (mu 1 (inv Z)), sb (mu Y (mu 1 (inv Z))) 1])) ∧ Below W0.heap.size W0 w' := by
  refine s_in Try.func17 Try.ntmps17 rfl [.inl (.agg (ces [x1, b1])), .inl (.agg (ces [x2, b2]))] ?_
  intro β a h
  refine sym_seq ?_
  refine St.rg h [(2, .inr (0, pt 0)), (3, .inr (1, pt 0)), (4, .inr (2, pt 0))] [(ces [x1, b1], 31), (ces [x2, b2], 31), (ces [0, 0], 31)] [] [eN 0, eN 1, eN 2] ?_ ?_
  · exact oc (k_bx 0 (.agg (ces [x1, b1])) (bxP (a := x1) (b := b1)) rfl rfl) <|
    oc (k_bx 1 (.agg (ces [x2, b2])) (bxP (a := x2) (b := b2)) rfl rfl) <|
    oc (k_al 2 alP rfl rfl) <|
    ok_nil
  clear h; intro β a w h
  refine sym_then ?_
  refine sym_seq ?_
  refine St.r0 h [(6, .inl (.agg (ces [dN]))), (7, .inl (.func (.func 44) #[.agg (ces [dN])] #[])), (5, .inl (.func (.func 44) #[.agg (ces [dN])] #[]))] [] ?_ ?_
  · exact oz (k_ca 43 #[] (.agg (ces [dN])) law_r rfl rfl) <|
    oz (k_mf #[.agg (ces [dN])] rfl rfl) <|
    oz (k_mv (.inr rfl) rfl) <|
    ok_nil
  clear h; intro β a w h
  refine sym_then ?_
  refine sym_seq ?_
  refine St.rg h [(8, .inl (.func (.func 44) #[.agg (ces [dN])] #[])), (9, .inl (.agg (ces [x1, b1]))), (10, .inl (.agg (ces [x1, (ad b1 1), 1, (mu x1 (ad b1 1))]))), (11, .inl (.agg (ces [x2, b2]))), (12, .inl (.agg (ces [x2, (ad b2 1), 1, (mu x2 (ad b2 1))]))), (13, .inl (.agg (ces [X, Y, Z, T]))), (14, .inl (.agg (ces [(mu X (mu 1 (inv Z))), (sb (mu Y (mu 1 (inv Z))) 1)])))] [] [(2, ces [(mu X (mu 1 (inv Z))), (sb (mu Y (mu 1 (inv Z))) 1)])] [nn, eR 0, nn, eR 1, nn, nn, nn, eS 2] ?_ ?_
  · exact oc (k_mv (.inl rfl) rfl) <|
    oc (k_ld 0 0 (.agg (ces [x1, b1])) (c := ces [x1, b1]) (ldP (a := x1) (b := b1) 31) rfl rfl) <|
    oc (k_ca 42 #[.agg (ces [x1, b1])] (.agg (ces [x1, (ad b1 1), 1, (mu x1 (ad b1 1))])) (fun w => shared_r hx1 hb1 w) rfl rfl) <|
    oc (k_ld 1 0 (.agg (ces [x2, b2])) (c := ces [x2, b2]) (ldP (a := x2) (b := b2) 31) rfl rfl) <|
    oc (k_ca 42 #[.agg (ces [x2, b2])] (.agg (ces [x2, (ad b2 1), 1, (mu x2 (ad b2 1))])) (fun w => shared_r hx2 hb2 w) rfl rfl) <|
    oc (k_cv #[.agg (ces [dN])] #[.agg (ces [x1, (ad b1 1), 1, (mu x1 (ad b1 1))]), .agg (ces [x2, (ad b2 1), 1, (mu x2 (ad b2 1))])] #[.agg (ces [dN]), .agg (ces [x1, (ad b1 1), 1, (mu x1 (ad b1 1))]), .agg (ces [x2, (ad b2 1), 1, (mu x2 (ad b2 1))])] (.agg (ces [X, Y, Z, T])) cS rfl rfl) <|
    oc (k_ca 45 #[.agg (ces [X, Y, Z, T])] (.agg (ces [(mu X (mu 1 (inv Z))), (sb (mu Y (mu 1 (inv Z))) 1)])) (fun w => point_r hX hY hZ w) rfl rfl) <|
    oc (k_st 2 0 (.agg (ces [(mu X (mu 1 (inv Z))), (sb (mu Y (mu 1 (inv Z))) 1)])) (c := ces [0, 0]) (n := ces [(mu X (mu 1 (inv Z))), (sb (mu Y (mu 1 (inv Z))) 1)]) (stP (a := (mu X (mu 1 (inv Z)))) (b := (sb (mu Y (mu 1 (inv Z))) 1)) (c := ces [0, 0]) 31 (by rw [ces_size]; rfl)) rfl rfl) <|
    ok_nil
  clear h; intro β a w h
  refine sym_then ?_
  refine wp_ret ?_
  exact s_rc (b := 2) (t0 := 31) (c := ces [(mu X (mu 1 (inv Z))), (sb (mu Y (mu 1 (inv Z))) 1)]) h Try.results17 Try.underlying31 (fun hb => ⟨rfl, hb⟩) (by rw [ces_size]; kernel_rfl)

/-- The sum's four numbers. -/
def pX (x1 b1 x2 b2 : Nat) : Nat := (mu (sb (mu (ad (ad b1 1) x1) (ad (ad b2 1) x2)) (mu (sb (ad b1 1) x1) (sb (ad b2 1) x2))) (sb (ad (mu 1 1) (mu 1 1)) (ad (mu (mu (mu x1 (ad b1 1)) (mu x2 (ad b2 1))) dN) (mu (mu (mu x1 (ad b1 1)) (mu x2 (ad b2 1))) dN))))
def pY (x1 b1 x2 b2 : Nat) : Nat := (mu (ad (mu (ad (ad b1 1) x1) (ad (ad b2 1) x2)) (mu (sb (ad b1 1) x1) (sb (ad b2 1) x2))) (ad (ad (mu 1 1) (mu 1 1)) (ad (mu (mu (mu x1 (ad b1 1)) (mu x2 (ad b2 1))) dN) (mu (mu (mu x1 (ad b1 1)) (mu x2 (ad b2 1))) dN))))
def pZ (x1 b1 x2 b2 : Nat) : Nat := (mu (ad (ad (mu 1 1) (mu 1 1)) (ad (mu (mu (mu x1 (ad b1 1)) (mu x2 (ad b2 1))) dN) (mu (mu (mu x1 (ad b1 1)) (mu x2 (ad b2 1))) dN))) (sb (ad (mu 1 1) (mu 1 1)) (ad (mu (mu (mu x1 (ad b1 1)) (mu x2 (ad b2 1))) dN) (mu (mu (mu x1 (ad b1 1)) (mu x2 (ad b2 1))) dN))))
def sx (x1 b1 x2 b2 : Nat) : Nat := mu (pX x1 b1 x2 b2) (mu 1 (inv (pZ x1 b1 x2 b2)))
def sy (x1 b1 x2 b2 : Nat) : Nat := mu (pY x1 b1 x2 b2) (mu 1 (inv (pZ x1 b1 x2 b2)))
theorem plus_p {x1 b1 x2 b2 : Nat} (hx1 : x1 < pp) (hb1 : b1 < pp) (hx2 : x2 < pp) (hb2 : b2 < pp) (W0 : World) : Calls Try.prog 17 #[.agg (ces [x1, b1]), .agg (ces [x2, b2])] W0 fun e w' => e = .returned (.agg (ces [sx x1 b1 x2 b2, sb (sy x1 b1 x2 b2) 1])) ∧ Below W0.heap.size W0 w' :=
  plus_q (X := pX x1 b1 x2 b2) (Y := pY x1 b1 x2 b2) (Z := pZ x1 b1 x2 b2) (T := (mu (sb (mu (ad (ad b1 1) x1) (ad (ad b2 1) x2)) (mu (sb (ad b1 1) x1) (sb (ad b2 1) x2))) (ad (mu (ad (ad b1 1) x1) (ad (ad b2 1) x2)) (mu (sb (ad b1 1) x1) (sb (ad b2 1) x2))))) hx1 hb1 hx2 hb2 (mu_lt _ _) (mu_lt _ _) (mu_lt _ _) (fun w => sum_r dN_lt hx1 (ad_lt _ _) one_ltp (mu_lt _ _) hx2 (ad_lt _ _) one_ltp (mu_lt _ _) w) W0

set_option maxHeartbeats 4000000 in
theorem minus_p {x1 b1 x2 b2 : Nat} (hx1 : x1 < pp) (hb1 : b1 < pp) (hx2 : x2 < pp) (hb2 : b2 < pp) (W0 : World) : Calls Try.prog 18 #[.agg (ces [x1, b1]), .agg (ces [x2, b2])] W0 fun e w' => e = .returned (.agg (ces [sx x1 b1 (sb 0 x2) b2, sb (sy x1 b1 (sb 0 x2) b2) 1])) ∧ Below W0.heap.size W0 w' := by
  refine s_in Try.func18 Try.ntmps18 rfl [.inl (.agg (ces [x1, b1])), .inl (.agg (ces [x2, b2]))] ?_
  intro β a h
  refine sym_seq ?_
  refine St.rg h [(2, .inr (0, pt 0)), (3, .inr (1, pt 0)), (4, .inr (2, pt 0))] [(ces [x1, b1], 31), (ces [x2, b2], 31), (ces [0, 0], 31)] [] [eN 0, eN 1, eN 2] ?_ ?_
  · exact oc (k_bx 0 (.agg (ces [x1, b1])) (bxP (a := x1) (b := b1)) rfl rfl) <|
    oc (k_bx 1 (.agg (ces [x2, b2])) (bxP (a := x2) (b := b2)) rfl rfl) <|
    oc (k_al 2 alP rfl rfl) <|
    ok_nil
  clear h; intro β a w h
  refine sym_then ?_
  refine sym_seq ?_
  refine St.rg h [(5, .inl (.agg (ces [x1, b1]))), (6, .inl (el (dig 0))), (7, .inr (1, pt 0)), (8, .inl (el (dig x2))), (9, .inl (el (dig (sb 0 x2)))), (10, .inr (1, pt 4)), (11, .inl (el (dig b2))), (12, .inl (.agg (ces [(sb 0 x2), b2]))), (13, .inl (.agg (ces [(sx x1 b1 (sb 0 x2) b2), (sb (sy x1 b1 (sb 0 x2) b2) 1)])))] [] [(2, ces [(sx x1 b1 (sb 0 x2) b2), (sb (sy x1 b1 (sb 0 x2) b2) 1)])] [eR 0, nn, nn, eR 1, nn, nn, eR 1, nn, nn, eS 2] ?_ ?_
  · exact oc (k_ld 0 0 (.agg (ces [x1, b1])) (c := ces [x1, b1]) (ldP (a := x1) (b := b1) 31) rfl rfl) <|
    oc (k_bu #[] (el (dig 0)) bdE rfl rfl) <|
    oc (k_fa 1 0 0 rfl rfl) <|
    oc (k_ld 1 0 (el (dig x2)) (c := ces [x2, b2]) (ld_ces (l := [x2, b2]) (k := 0) (n := x2) 31 rfl) rfl rfl) <|
    oc (k_ca 29 #[el (dig 0), el (dig x2)] (el (dig (sb 0 x2))) (fun w => minus_m (by decide +kernel) hx2 w) rfl rfl) <|
    oc (k_fa 1 0 4 rfl rfl) <|
    oc (k_ld 1 4 (el (dig b2)) (c := ces [x2, b2]) (ld_ces (l := [x2, b2]) (k := 1) (n := b2) 31 rfl) rfl rfl) <|
    oc (k_bu #[(0, el (dig (sb 0 x2))), (1, el (dig b2))] (.agg (ces [(sb 0 x2), b2])) (bdP (a := (sb 0 x2)) (b := b2)) rfl rfl) <|
    oc (k_ca 17 #[.agg (ces [x1, b1]), .agg (ces [(sb 0 x2), b2])] (.agg (ces [(sx x1 b1 (sb 0 x2) b2), (sb (sy x1 b1 (sb 0 x2) b2) 1)])) (fun w => plus_p hx1 hb1 (sb_lt _ _) hb2 w) rfl rfl) <|
    oc (k_st 2 0 (.agg (ces [(sx x1 b1 (sb 0 x2) b2), (sb (sy x1 b1 (sb 0 x2) b2) 1)])) (c := ces [0, 0]) (n := ces [(sx x1 b1 (sb 0 x2) b2), (sb (sy x1 b1 (sb 0 x2) b2) 1)]) (stP (a := (sx x1 b1 (sb 0 x2) b2)) (b := (sb (sy x1 b1 (sb 0 x2) b2) 1)) (c := ces [0, 0]) 31 (by rw [ces_size]; rfl)) rfl rfl) <|
    ok_nil
  clear h; intro β a w h
  refine sym_then ?_
  refine wp_ret ?_
  exact s_rc (b := 2) (t0 := 31) (c := ces [(sx x1 b1 (sb 0 x2) b2), (sb (sy x1 b1 (sb 0 x2) b2) 1)]) h Try.results18 Try.underlying31 (fun hb => ⟨rfl, hb⟩) (by rw [ces_size]; kernel_rfl)

set_option maxHeartbeats 4000000 in
theorem is_ptt {x1 b1 x2 b2 : Nat} (hx1 : x1 < pp) (hx2 : x2 < pp) (e1 : x1 = x2) (hb1 : b1 < pp) (hb2 : b2 < pp) (e2 : b1 = b2) (W0 : World) : Calls Try.prog 16 #[.agg (ces [x1, b1]), .agg (ces [x2, b2])] W0 fun e w' => e = .returned (.bool true) ∧ Below W0.heap.size W0 w' := by
  refine s_in Try.func16 Try.ntmps16 rfl [.inl (.agg (ces [x1, b1])), .inl (.agg (ces [x2, b2]))] ?_
  intro β a h
  refine sym_seq ?_
  refine St.rg h [(2, .inr (0, pt 0)), (3, .inr (1, pt 0)), (4, .inl (.bool false))] [(ces [x1, b1], 31), (ces [x2, b2], 31)] [] [eN 0, eN 1] ?_ ?_
  · exact oc (k_bx 0 (.agg (ces [x1, b1])) (bxP (a := x1) (b := b1)) rfl rfl) <|
    oc (k_bx 1 (.agg (ces [x2, b2])) (bxP (a := x2) (b := b2)) rfl rfl) <|
    oz (k_mv (.inr rfl) rfl) <|
    ok_nil
  clear h; intro β a w h
  refine sym_then ?_
  refine sym_seq ?_
  refine St.r0 h [(5, .inr (0, pt 0)), (6, .inl (el (dig x1))), (7, .inr (1, pt 0)), (8, .inl (el (dig x2))), (9, .inl (.bool true)), (10, .inl (.bool true)), (11, .inr (0, pt 4)), (12, .inl (el (dig b1))), (13, .inr (1, pt 4)), (14, .inl (el (dig b2))), (15, .inl (.bool true)), (16, .inl (.bool true)), (4, .inl (.bool true))] [nn, eR 0, nn, eR 1, nn, nn, nn, eR 0, nn, eR 1] ?_ ?_
  · exact oc (k_fa 0 0 0 rfl rfl) <|
    oc (k_ld 0 0 (el (dig x1)) (c := ces [x1, b1]) (ld_ces (l := [x1, b1]) (k := 0) (n := x1) 31 rfl) rfl rfl) <|
    oc (k_fa 1 0 0 rfl rfl) <|
    oc (k_ld 1 0 (el (dig x2)) (c := ces [x2, b2]) (ld_ces (l := [x2, b2]) (k := 0) (n := x2) 31 rfl) rfl rfl) <|
    oc (k_ca 28 #[el (dig x1), el (dig x2)] (.bool true) (fun w => is_t hx1 hx2 e1 w) rfl rfl) <|
    oc (k_mv (.inl rfl) rfl) <|
    oc (k_fa 0 0 4 rfl rfl) <|
    oc (k_ld 0 4 (el (dig b1)) (c := ces [x1, b1]) (ld_ces (l := [x1, b1]) (k := 1) (n := b1) 31 rfl) rfl rfl) <|
    oc (k_fa 1 0 4 rfl rfl) <|
    oc (k_ld 1 4 (el (dig b2)) (c := ces [x2, b2]) (ld_ces (l := [x2, b2]) (k := 1) (n := b2) 31 rfl) rfl rfl) <|
    oz (k_ca 28 #[el (dig b1), el (dig b2)] (.bool true) (fun w => is_t hb1 hb2 e2 w) rfl rfl) <|
    oz (k_pt rfl rfl) <|
    oz (k_mv (.inr rfl) rfl) <|
    ok_nil
  clear h; intro β a w h
  refine sym_then ?_
  refine wp_ret ?_
  exact s_rt h Try.results16 (fun hb => ⟨rfl, hb⟩)

set_option maxHeartbeats 4000000 in
theorem is_ptf {x1 b1 x2 b2 : Nat} (hx1 : x1 < pp) (hx2 : x2 < pp) (e1 : x1 = x2) (hb1 : b1 < pp) (hb2 : b2 < pp) (e2 : b1 ≠ b2) (W0 : World) : Calls Try.prog 16 #[.agg (ces [x1, b1]), .agg (ces [x2, b2])] W0 fun e w' => e = .returned (.bool false) ∧ Below W0.heap.size W0 w' := by
  refine s_in Try.func16 Try.ntmps16 rfl [.inl (.agg (ces [x1, b1])), .inl (.agg (ces [x2, b2]))] ?_
  intro β a h
  refine sym_seq ?_
  refine St.rg h [(2, .inr (0, pt 0)), (3, .inr (1, pt 0)), (4, .inl (.bool false))] [(ces [x1, b1], 31), (ces [x2, b2], 31)] [] [eN 0, eN 1] ?_ ?_
  · exact oc (k_bx 0 (.agg (ces [x1, b1])) (bxP (a := x1) (b := b1)) rfl rfl) <|
    oc (k_bx 1 (.agg (ces [x2, b2])) (bxP (a := x2) (b := b2)) rfl rfl) <|
    oz (k_mv (.inr rfl) rfl) <|
    ok_nil
  clear h; intro β a w h
  refine sym_then ?_
  refine sym_seq ?_
  refine St.r0 h [(5, .inr (0, pt 0)), (6, .inl (el (dig x1))), (7, .inr (1, pt 0)), (8, .inl (el (dig x2))), (9, .inl (.bool true)), (10, .inl (.bool true)), (11, .inr (0, pt 4)), (12, .inl (el (dig b1))), (13, .inr (1, pt 4)), (14, .inl (el (dig b2))), (15, .inl (.bool false)), (16, .inl (.bool false))] [nn, eR 0, nn, eR 1, nn, nn, nn, eR 0, nn, eR 1] ?_ ?_
  · exact oc (k_fa 0 0 0 rfl rfl) <|
    oc (k_ld 0 0 (el (dig x1)) (c := ces [x1, b1]) (ld_ces (l := [x1, b1]) (k := 0) (n := x1) 31 rfl) rfl rfl) <|
    oc (k_fa 1 0 0 rfl rfl) <|
    oc (k_ld 1 0 (el (dig x2)) (c := ces [x2, b2]) (ld_ces (l := [x2, b2]) (k := 0) (n := x2) 31 rfl) rfl rfl) <|
    oc (k_ca 28 #[el (dig x1), el (dig x2)] (.bool true) (fun w => is_t hx1 hx2 e1 w) rfl rfl) <|
    oc (k_mv (.inl rfl) rfl) <|
    oc (k_fa 0 0 4 rfl rfl) <|
    oc (k_ld 0 4 (el (dig b1)) (c := ces [x1, b1]) (ld_ces (l := [x1, b1]) (k := 1) (n := b1) 31 rfl) rfl rfl) <|
    oc (k_fa 1 0 4 rfl rfl) <|
    oc (k_ld 1 4 (el (dig b2)) (c := ces [x2, b2]) (ld_ces (l := [x2, b2]) (k := 1) (n := b2) 31 rfl) rfl rfl) <|
    oz (k_ca 28 #[el (dig b1), el (dig b2)] (.bool false) (fun w => is_f hb1 hb2 e2 w) rfl rfl) <|
    oz (k_pt rfl rfl) <|
    oz (k_mv (.inr rfl) rfl) <|
    ok_nil
  clear h; intro β a w h
  refine sym_then ?_
  refine wp_ret ?_
  exact s_rt h Try.results16 (fun hb => ⟨rfl, hb⟩)

set_option maxHeartbeats 4000000 in
theorem is_pf {x1 b1 x2 b2 : Nat} (hx1 : x1 < pp) (hx2 : x2 < pp) (e1 : x1 ≠ x2) (W0 : World) : Calls Try.prog 16 #[.agg (ces [x1, b1]), .agg (ces [x2, b2])] W0 fun e w' => e = .returned (.bool false) ∧ Below W0.heap.size W0 w' := by
  refine s_in Try.func16 Try.ntmps16 rfl [.inl (.agg (ces [x1, b1])), .inl (.agg (ces [x2, b2]))] ?_
  intro β a h
  refine sym_seq ?_
  refine St.rg h [(2, .inr (0, pt 0)), (3, .inr (1, pt 0)), (4, .inl (.bool false))] [(ces [x1, b1], 31), (ces [x2, b2], 31)] [] [eN 0, eN 1] ?_ ?_
  · exact oc (k_bx 0 (.agg (ces [x1, b1])) (bxP (a := x1) (b := b1)) rfl rfl) <|
    oc (k_bx 1 (.agg (ces [x2, b2])) (bxP (a := x2) (b := b2)) rfl rfl) <|
    oz (k_mv (.inr rfl) rfl) <|
    ok_nil
  clear h; intro β a w h
  refine sym_then ?_
  refine sym_seq ?_
  refine St.r0 h [(5, .inr (0, pt 0)), (6, .inl (el (dig x1))), (7, .inr (1, pt 0)), (8, .inl (el (dig x2))), (9, .inl (.bool false)), (10, .inl (.bool false)), (16, .inl (.bool false))] [nn, eR 0, nn, eR 1] ?_ ?_
  · exact oc (k_fa 0 0 0 rfl rfl) <|
    oc (k_ld 0 0 (el (dig x1)) (c := ces [x1, b1]) (ld_ces (l := [x1, b1]) (k := 0) (n := x1) 31 rfl) rfl rfl) <|
    oc (k_fa 1 0 0 rfl rfl) <|
    oc (k_ld 1 0 (el (dig x2)) (c := ces [x2, b2]) (ld_ces (l := [x2, b2]) (k := 0) (n := x2) 31 rfl) rfl rfl) <|
    oz (k_ca 28 #[el (dig x1), el (dig x2)] (.bool false) (fun w => is_f hx1 hx2 e1 w) rfl rfl) <|
    oz (k_mv (.inl rfl) rfl) <|
    oz (k_sk rfl) <|
    oz (k_sk rfl) <|
    oz (k_sk rfl) <|
    oz (k_sk rfl) <|
    oz (k_sk rfl) <|
    oz (k_pf rfl rfl) <|
    oz (k_mv (.inr rfl) rfl) <|
    ok_nil
  clear h; intro β a w h
  refine sym_then ?_
  refine wp_ret ?_
  exact s_rt h Try.results16 (fun hb => ⟨rfl, hb⟩)

set_option maxHeartbeats 4000000 in
theorem gen_r (W0 : World) : Calls Try.prog 15 #[] W0 fun e w' => e = .returned (.agg (ces [gX, sb (mu 4 (inv 5)) 1])) ∧ Below W0.heap.size W0 w' := by
  refine s_in Try.func15 Try.ntmps15 rfl [] ?_
  intro β a h
  refine sym_seq ?_
  refine St.rg h [(0, .inr (0, pt 0))] [(ces [0, 0], 31)] [] [eN 0] ?_ ?_
  · exact oc (k_al 0 alP rfl rfl) <|
    ok_nil
  clear h; intro β a w h
  refine sym_then ?_
  refine sym_seq ?_
  refine St.rg h [(2, .inl (.agg (ck (kl [26, 213, 37, 143, 96, 45, 86, 201, 178, 167, 37, 149, 96, 199, 44, 105, 92, 220, 214, 253, 49, 226, 164, 192, 254, 83, 110, 205, 211, 54, 105, 33])))), (3, .inl (el (dig gX))), (1, .inr (1, pt 0))] [(ce 0, 29)] [(1, ce gX)] [nn, nn, eN 1, eS 1] ?_ ?_
  · exact oc (k_bu #[(0, .int .u8 ((26 : Nat) : Int)), (1, .int .u8 ((213 : Nat) : Int)), (2, .int .u8 ((37 : Nat) : Int)), (3, .int .u8 ((143 : Nat) : Int)), (4, .int .u8 ((96 : Nat) : Int)), (5, .int .u8 ((45 : Nat) : Int)), (6, .int .u8 ((86 : Nat) : Int)), (7, .int .u8 ((201 : Nat) : Int)), (8, .int .u8 ((178 : Nat) : Int)), (9, .int .u8 ((167 : Nat) : Int)), (10, .int .u8 ((37 : Nat) : Int)), (11, .int .u8 ((149 : Nat) : Int)), (12, .int .u8 ((96 : Nat) : Int)), (13, .int .u8 ((199 : Nat) : Int)), (14, .int .u8 ((44 : Nat) : Int)), (15, .int .u8 ((105 : Nat) : Int)), (16, .int .u8 ((92 : Nat) : Int)), (17, .int .u8 ((220 : Nat) : Int)), (18, .int .u8 ((214 : Nat) : Int)), (19, .int .u8 ((253 : Nat) : Int)), (20, .int .u8 ((49 : Nat) : Int)), (21, .int .u8 ((226 : Nat) : Int)), (22, .int .u8 ((164 : Nat) : Int)), (23, .int .u8 ((192 : Nat) : Int)), (24, .int .u8 ((254 : Nat) : Int)), (25, .int .u8 ((83 : Nat) : Int)), (26, .int .u8 ((110 : Nat) : Int)), (27, .int .u8 ((205 : Nat) : Int)), (28, .int .u8 ((211 : Nat) : Int)), (29, .int .u8 ((54 : Nat) : Int)), (30, .int .u8 ((105 : Nat) : Int)), (31, .int .u8 ((33 : Nat) : Int))] (.agg (ck (kl [26, 213, 37, 143, 96, 45, 86, 201, 178, 167, 37, 149, 96, 199, 44, 105, 92, 220, 214, 253, 49, 226, 164, 192, 254, 83, 110, 205, 211, 54, 105, 33]))) (fun w => by kernel_rfl) rfl rfl) <|
    oc (k_ca 25 #[.agg (ck (kl [26, 213, 37, 143, 96, 45, 86, 201, 178, 167, 37, 149, 96, 199, 44, 105, 92, 220, 214, 253, 49, 226, 164, 192, 254, 83, 110, 205, 211, 54, 105, 33]))] (el (dig gX)) (fun w => by have := of_k (b := (kl [26, 213, 37, 143, 96, 45, 86, 201, 178, 167, 37, 149, 96, 199, 44, 105, 92, 220, 214, 253, 49, 226, 164, 192, 254, 83, 110, 205, 211, 54, 105, 33])) (kl_lt (by decide)) w; rwa [show ofb (kl [26, 213, 37, 143, 96, 45, 86, 201, 178, 167, 37, 149, 96, 199, 44, 105, 92, 220, 214, 253, 49, 226, 164, 192, 254, 83, 110, 205, 211, 54, 105, 33]) = gX by decide +kernel] at this) rfl rfl) <|
    oc (k_al 1 alE rfl rfl) <|
    oc (k_st 1 0 (el (dig gX)) (c := ce 0) (n := ce gX) (stE (n := gX) (c := ce 0) 29 (ce_size _)) rfl rfl) <|
    ok_nil
  clear h; intro β a w h
  refine sym_then ?_
  refine sym_seq ?_
  refine St.rg h [(4, .inl (el (dig gX))), (5, .inl (el (dig 4))), (6, .inl (el (dig 5))), (7, .inl (el (dig (mu 4 (inv 5))))), (8, .inl (.agg (ces [gX, (sb (mu 4 (inv 5)) 1)])))] [] [(0, ces [gX, (sb (mu 4 (inv 5)) 1)])] [eR 1, nn, nn, nn, nn, eS 0] ?_ ?_
  · exact oc (k_ld 1 0 (el (dig gX)) (c := ce gX) (ldE (n := gX) 29) rfl rfl) <|
    oc (k_ca 49 #[.int .i64 ((4 : Nat) : Int)] (el (dig 4)) (fun w => int_m (m := 4) (by decide) w) rfl rfl) <|
    oc (k_ca 49 #[.int .i64 ((5 : Nat) : Int)] (el (dig 5)) (fun w => int_m (m := 5) (by decide) w) rfl rfl) <|
    oc (k_ca 50 #[el (dig 4), el (dig 5)] (el (dig (mu 4 (inv 5)))) (fun w => over_m four_ltp five_ltp w) rfl rfl) <|
    oc (k_ca 30 #[el (dig gX), el (dig (mu 4 (inv 5)))] (.agg (ces [gX, (sb (mu 4 (inv 5)) 1)])) (fun w => at_r (mu_lt _ _) w) rfl rfl) <|
    oc (k_st 0 0 (.agg (ces [gX, (sb (mu 4 (inv 5)) 1)])) (c := ces [0, 0]) (n := ces [gX, (sb (mu 4 (inv 5)) 1)]) (stP (a := gX) (b := (sb (mu 4 (inv 5)) 1)) (c := ces [0, 0]) 31 (by rw [ces_size]; rfl)) rfl rfl) <|
    ok_nil
  clear h; intro β a w h
  refine sym_then ?_
  refine wp_ret ?_
  exact s_rc (b := 0) (t0 := 31) (c := ces [gX, (sb (mu 4 (inv 5)) 1)]) h Try.results15 Try.underlying31 (fun hb => ⟨rfl, hb⟩) (by rw [ces_size]; kernel_rfl)
end Go.Proofs.Ytpogmflgmpifoaa

namespace Go.Proofs.Ytpogmflgmpifoaa
open Go.RowKit

section
variable {P : Program} {a : Act} {w : World} {Q : Exit → Act → World → Prop}
theorem loop_up {c : Code} (n : Nat) (J : Nat → Act → World → Prop) (h0 : J 0 a w) (round : ∀ k a w, k ≤ n → J k a w → c.wp P (Exit.then (fun a' w' => k < n ∧ J (k + 1) a' w') Q) a w) : (Code.loop c).wp P Q a w := by
  refine wp_loop_rounds (n + 1) ?_
  have key : ∀ d k a w, k + d = n → J k a w → Code.rounds P c Q (d + 1) a w := by
    intro d
    induction d with
    | zero =>
      intro k a w hk hJ
      rw [rounds_succ]
      refine wp_mono (round k a w (by omega) hJ) ?_
      intro e a' w' he
      cases e <;> simp only [Exit.then] at he ⊢
      case normal => exact absurd he.1 (by omega)
      all_goals exact he
    | succ d ih =>
      intro k a w hk hJ
      rw [rounds_succ]
      refine wp_mono (round k a w (by omega) hJ) ?_
      intro e a' w' he
      cases e <;> simp only [Exit.then] at he ⊢
      case normal => exact ih (k + 1) a' w' (by omega) he.2
      all_goals exact he
  exact key n 0 a w (by omega) h0
theorem blk_in {id : Nat} {c : Code} (h : c.wp P (Exit.inBlock id Q) a w) : (Code.block id c).wp P Q a w := wp_block h
theorem blk_exit {id : Nat} (h : Q .normal a w) : Exit.inBlock id Q (.exit id) a w := by simp only [Exit.inBlock, if_true]; exact h
theorem blk_norm {id : Nat} (h : Q .normal a w) : Exit.inBlock id Q .normal a w := h
theorem blk_ret {id : Nat} (h : Q .ret a w) : Exit.inBlock id Q .ret a w := h
theorem blk_pass {id id' : Nat} (hne : Nat.beq id' id = false) (h : Q (.exit id') a w) : Exit.inBlock id Q (.exit id') a w := by
  simp only [Exit.inBlock]
  rw [if_neg (fun e => by rw [e, Nat.beq_refl] at hne; cases hne)]; exact h
theorem then_norm {K : Act → World → Prop} (h : K a w) : Exit.then K Q .normal a w := h
theorem then_exit {K : Act → World → Prop} {id : Nat} (h : Q (.exit id) a w) : Exit.then K Q (.exit id) a w := h
end

/-- Whole numbers in a row. -/
def ai (n : Nat) (F : Nat → Nat) : Array Value := arr n fun i => .int .i64 ((F i : Nat) : Int)
def updN (F : Nat → Nat) (i v : Nat) : Nat → Nat := fun j => if j = i then v else F j
theorem ai_size (n : Nat) (F : Nat → Nat) : (ai n F).size = n := arr_size _ _
theorem ai_congr {n : Nat} {F G : Nat → Nat} (h : ∀ i, i < n → F i = G i) : ai n F = ai n G := arr_congr fun i hi => by rw [h i hi]
theorem ai_set (n : Nat) (F : Nat → Nat) (i v : Nat) : (ai n F).setIfInBounds i (.int .i64 ((v : Nat) : Int)) = ai n (updN F i v) := by
  unfold ai
  rw [arr_set]
  refine arr_congr fun j _ => ?_
  unfold upd updN
  by_cases h : j = i <;> simp [h]

section
variable {w : World} {x u : Operand}
theorem wrapI (n : Int) (h1 : -9223372036854775808 ≤ n) (h2 : n < 9223372036854775808) : IntKind.i64.wrap n = n := by rw [IntKind.wrap_i64]; omega
theorem ad_i {m n : Nat} (h : m + n < 9223372036854775808) (w : World) : (do eqGuard .add 3 x u (.int .i64 ((m : Nat) : Int)) (.int .i64 ((n : Nat) : Int)); binOp .add 3 (.int .i64 ((m : Nat) : Int)) (.int .i64 ((n : Nat) : Int))).run Try.prog w = .ok (.int .i64 ((m + n : Nat) : Int)) w := by
  have h1 : IntKind.i64.wrap ((m : Int) + (n : Int)) = ((m + n : Nat) : Int) := by rw [wrapI _ (by omega) (by omega)]; omega
  simp [eqGuard, binOp, go_sem, h1]
theorem mu_i {m n : Nat} (h : m * n < 9223372036854775808) (w : World) : (do eqGuard .mul 3 x u (.int .i64 ((m : Nat) : Int)) (.int .i64 ((n : Nat) : Int)); binOp .mul 3 (.int .i64 ((m : Nat) : Int)) (.int .i64 ((n : Nat) : Int))).run Try.prog w = .ok (.int .i64 ((m * n : Nat) : Int)) w := by
  have h1 : IntKind.i64.wrap ((m : Int) * (n : Int)) = ((m * n : Nat) : Int) := by
    rw [← Int.natCast_mul, wrapI _ (by omega) (by omega)]
  simp [eqGuard, binOp, go_sem, h1]
theorem qu_i {m n : Nat} (hn : 0 < n) (hm : m < 9223372036854775808) (w : World) : (do eqGuard .quo 3 x u (.int .i64 ((m : Nat) : Int)) (.int .i64 ((n : Nat) : Int)); binOp .quo 3 (.int .i64 ((m : Nat) : Int)) (.int .i64 ((n : Nat) : Int))).run Try.prog w = .ok (.int .i64 ((m / n : Nat) : Int)) w := by
  have h0 : ¬ n = 0 := by omega
  have h2 : m / n < 9223372036854775808 := Nat.lt_of_le_of_lt (Nat.div_le_self _ _) hm
  have h3 : ((m / n : Nat) : Int) = (m : Int) / (n : Int) := Int.natCast_ediv m n
  have h1 : IntKind.i64.wrap ((m : Int) / (n : Int)) = (m : Int) / (n : Int) := by
    rw [← h3]
    generalize m / n = d at h2
    exact wrapI _ (by omega) (by omega)
  simp [eqGuard, binOp, go_sem, h1, h0]
theorem re_i {m n : Nat} (hn : 0 < n) (w : World) : (do eqGuard .rem 3 x u (.int .i64 ((m : Nat) : Int)) (.int .i64 ((n : Nat) : Int)); binOp .rem 3 (.int .i64 ((m : Nat) : Int)) (.int .i64 ((n : Nat) : Int))).run Try.prog w = .ok (.int .i64 ((m % n : Nat) : Int)) w := by
  have h0 : ¬ n = 0 := by omega
  have h1 : (m : Int).tmod (n : Int) = (m : Int) % (n : Int) := Int.tmod_eq_emod_of_nonneg (by omega)
  simp [eqGuard, binOp, go_sem, h1, h0]
theorem sb_z {m n : Int} (h1 : -9223372036854775808 ≤ m - n) (h2 : m - n < 9223372036854775808) (w : World) : (do eqGuard .sub 3 x u (.int .i64 m) (.int .i64 n); binOp .sub 3 (.int .i64 m) (.int .i64 n)).run Try.prog w = .ok (.int .i64 (m - n)) w := by
  have h3 := wrapI (m - n) h1 h2
  simp [eqGuard, binOp, go_sem, h3]
theorem sb_zn {m n : Int} {k : Nat} (h : m - n = (k : Int)) (hk : k < 9223372036854775808) (w : World) : (do eqGuard .sub 3 x u (.int .i64 m) (.int .i64 n); binOp .sub 3 (.int .i64 m) (.int .i64 n)).run Try.prog w = .ok (.int .i64 (k : Int)) w := by
  have := sb_z (x := x) (u := u) (m := m) (n := n) (by omega) (by omega) w
  rwa [h] at this
theorem ad_zn {m n : Int} {k : Nat} (h : m + n = (k : Int)) (hk : k < 9223372036854775808) (w : World) : (do eqGuard .add 3 x u (.int .i64 m) (.int .i64 n); binOp .add 3 (.int .i64 m) (.int .i64 n)).run Try.prog w = .ok (.int .i64 (k : Int)) w := by
  have h3 : IntKind.i64.wrap (m + n) = (k : Int) := by rw [wrapI _ (by omega) (by omega)]; exact h
  simp [eqGuard, binOp, go_sem, h3]
theorem lt_i {m n : Int} {b : Bool} (h : decide (m < n) = b) (w : World) : (do eqGuard .lss 3 x u (.int .i64 m) (.int .i64 n); binOp .lss 3 (.int .i64 m) (.int .i64 n)).run Try.prog w = .ok (.bool b) w := by
  subst h; simp [eqGuard, binOp, go_sem]
theorem ge_i {m n : Int} {b : Bool} (h : decide (n ≤ m) = b) (w : World) : (do eqGuard .geq 3 x u (.int .i64 m) (.int .i64 n); binOp .geq 3 (.int .i64 m) (.int .i64 n)).run Try.prog w = .ok (.bool b) w := by
  subst h; simp [eqGuard, binOp, go_sem]
theorem ne_i {m n : Int} {b : Bool} (h : decide (¬ m = n) = b) (w : World) : (do eqGuard .neq 3 x u (.int .i64 m) (.int .i64 n); binOp .neq 3 (.int .i64 m) (.int .i64 n)).run Try.prog w = .ok (.bool b) w := by
  subst h; simp [eqGuard, binOp, go_sem]; rfl
theorem eq_i {m n : Int} {b : Bool} (h : decide (m = n) = b) (w : World) : (do eqGuard .eql 3 x u (.int .i64 m) (.int .i64 n); binOp .eql 3 (.int .i64 m) (.int .i64 n)).run Try.prog w = .ok (.bool b) w := by
  subst h; simp [eqGuard, binOp, go_sem]; rfl
end

theorem ix22 {i : Nat} (hi : i < 22) (w : World) (q : Nat) : (Instr.indexAt 35 (.pointer (some ⟨q, 0, none⟩)) (.int .i64 ((i : Nat) : Int))).run Try.prog w = .ok (.pointer (some ⟨q, i, none⟩)) w := by
  simp [Instr.indexAt, go_sem, hi, addr_add]
theorem ix44 {i : Nat} (hi : i < 44) (w : World) (q : Nat) : (Instr.indexAt 95 (.pointer (some ⟨q, 0, none⟩)) (.int .i64 ((i : Nat) : Int))).run Try.prog w = .ok (.pointer (some ⟨q, i, none⟩)) w := by
  simp [Instr.indexAt, go_sem, hi, addr_add]
theorem ixK {i : Nat} (hi : i < 32) (w : World) (q : Nat) : (Instr.indexAt 23 (.pointer (some ⟨q, 0, none⟩)) (.int .i64 ((i : Nat) : Int))).run Try.prog w = .ok (.pointer (some ⟨q, i, none⟩)) w := by
  simp [Instr.indexAt, go_sem, hi, addr_add]
theorem ld_at {t0 : TypeId} {n i : Nat} {F : Nat → Nat} (hi : i < n) (w : World) (q : Nat) (h : w.heap[q]? = some (.cells (ai n F) t0 (0, 0))) : (Instr.loadAt 3 (.pointer (some ⟨q, i, none⟩))).run Try.prog w = .ok (.int .i64 ((F i : Nat) : Int)) w := by
  have h1 : w.cell? ⟨q, i, none⟩ = some (.int .i64 ((F i : Nat) : Int)) := by
    rw [cell_of_row _ _ _ _ _ _ h]; exact arr_get _ _ _ hi
  simp [Instr.loadAt, Instr.sureAddr, go_sem, h1]
theorem wext : ∀ a c : World, a.heap = c.heap → a.tape = c.tape → a.drawn = c.drawn → a.os = c.os → a.output = c.output → a = c := by
  rintro ⟨⟩ ⟨⟩ h1 h2 h3 h4 h5
  simp_all
theorem set_row {w : World} {q i : Nat} {c : Array Value} {t0 : TypeId} {fr : Nat × Nat} {v : Value} (h : w.heap[q]? = some (.cells c t0 fr)) : w.setCell ⟨q, i, none⟩ v = w.setRow q (c.setIfInBounds i v) := by
  refine wext _ _ ?_ rfl rfl rfl rfl
  apply Array.ext_getElem?
  intro k
  by_cases e : k = q
  · subst e
    rw [setRow_heap _ _ _ _ _ _ h]
    simp [World.setCell, Array.getElem?_modify, h]
  · rw [setRow_other _ _ _ _ e]
    have e' : ¬ q = k := fun x => e x.symm
    simp [World.setCell, Array.getElem?_modify, e']
theorem st_at {t0 : TypeId} {n i v : Nat} {F : Nat → Nat} (hi : i < n) (w : World) (q : Nat) (h : w.heap[q]? = some (.cells (ai n F) t0 (0, 0))) : (Instr.storeAt 3 (.pointer (some ⟨q, i, none⟩)) (.int .i64 ((v : Nat) : Int))).run Try.prog w = .ok () (w.setRow q (ai n (updN F i v))) := by
  have h1 : w.cell? ⟨q, i, none⟩ = some (.int .i64 ((F i : Nat) : Int)) := by
    rw [cell_of_row _ _ _ _ _ _ h]; exact arr_get _ _ _ hi
  have h2 : w.setCell ⟨q, i, none⟩ (.int .i64 ((v : Nat) : Int)) = w.setRow q (ai n (updN F i v)) := by rw [set_row h, ai_set]
  have h3 : w.frozen? ⟨q, i, none⟩ = false := by
    simp [World.frozen?, h]
  simp [Instr.storeAt, Instr.sureAddr, go_sem, h1, h2, h3]

/-- Rows of 22 and of 44, whole. -/
theorem ld22 {F : Nat → Nat} (t0 : TypeId) (w : World) (q : Nat) (h : w.heap[q]? = some (.cells (ai 22 F) t0 (0, 0))) : (Instr.loadAt 35 (.pointer (some ⟨q, 0, none⟩))).run Try.prog w = .ok (.agg (ai 22 F)) w :=
  ld_row (c := ai 22 F) Try.underlying35 rfl (by rw [ai_size]; kernel_rfl) w q h
theorem ai_one (n : Nat) (F : Nat → Nat) : (ai n F).all (·.oneCell') = true := by
  rw [Array.all_eq_true_iff_forall_mem]
  intro v hv
  obtain ⟨i, hi⟩ := Array.getElem?_of_mem hv
  have hl : i < n := by have := (Array.getElem?_eq_some_iff.1 hi).1; rwa [ai_size] at this
  rw [ai, arr_get _ _ _ hl] at hi
  cases hi; rfl
theorem st22 {F : Nat → Nat} {c : Array Value} (t0 : TypeId) (hc : c.size = 22) (w : World) (q : Nat) (h : w.heap[q]? = some (.cells c t0 (0, 0))) : (Instr.storeAt 35 (.pointer (some ⟨q, 0, none⟩)) (.agg (ai 22 F))).run Try.prog w = .ok () (w.setRow q (ai 22 F)) :=
  st_row (n := ai 22 F) (by rw [ai_size]; kernel_rfl) (by rw [hc, ai_size]) (ai_one _ _) w q h
theorem bx22 {F : Nat → Nat} (w : World) : (Instr.box 35 (.agg (ai 22 F))).run Try.prog w = .ok (.pointer (some ⟨w.heap.size, 0, none⟩)) (w.alloc (.cells (ai 22 F) 35)) := bx_agg w
theorem bx44 {F : Nat → Nat} (w : World) : (Instr.box 95 (.agg (ai 44 F))).run Try.prog w = .ok (.pointer (some ⟨w.heap.size, 0, none⟩)) (w.alloc (.cells (ai 44 F) 95)) := bx_agg w
theorem ld44 {F : Nat → Nat} (t0 : TypeId) (w : World) (q : Nat) (h : w.heap[q]? = some (.cells (ai 44 F) t0 (0, 0))) : (Instr.loadAt 95 (.pointer (some ⟨q, 0, none⟩))).run Try.prog w = .ok (.agg (ai 44 F)) w :=
  ld_row (c := ai 44 F) Try.underlying95 rfl (by rw [ai_size]; kernel_rfl) w q h
theorem ai_zero (n : Nat) : ai n (fun _ => 0) = ⟨List.replicate n (.int .i64 0)⟩ := arr_rep (fun _ _ => rfl)
theorem al22 (w : World) : (Instr.alloc 35 true (.tuple #[])).run Try.prog w = .ok (.pointer (some ⟨w.heap.size, 0, none⟩)) (w.alloc (.cells (ai 22 fun _ => 0) 35)) := by
  rw [ai_zero]
  simp [Instr.alloc, go_sem]
theorem al44 (w : World) : (Instr.alloc 95 true (.tuple #[])).run Try.prog w = .ok (.pointer (some ⟨w.heap.size, 0, none⟩)) (w.alloc (.cells (ai 44 fun _ => 0) 95)) := by
  rw [ai_zero]
  simp [Instr.alloc, go_sem]
end Go.Proofs.Ytpogmflgmpifoaa

namespace Go.Proofs.Ytpogmflgmpifoaa
open Go.RowKit

section
variable {x u : Operand}
theorem cv_iu {n : Nat} (h : n < 9223372036854775808) (w : World) : (convert 3 56 (.int .i64 ((n : Nat) : Int))).run Try.prog w = .ok (.int .u64 ((n : Nat) : Int)) w := by
  have h1 : IntKind.u64.wrap (n : Int) = (n : Int) := by rw [IntKind.wrap_u64]; omega
  simp [convert, go_sem, h1]
theorem cv_bi {n : Nat} (h : n < 256) (w : World) : (convert 5 3 (.int .u8 ((n : Nat) : Int))).run Try.prog w = .ok (.int .i64 ((n : Nat) : Int)) w := by
  have h1 := wrapI (n : Int) (by omega) (by omega)
  simp [convert, go_sem, h1]
theorem sr_b {m r : Nat} (hr : r < 8) (w : World) : (do eqGuard .shr 5 x u (.int .u8 ((m : Nat) : Int)) (.int .u64 ((r : Nat) : Int)); binOp .shr 5 (.int .u8 ((m : Nat) : Int)) (.int .u64 ((r : Nat) : Int))).run Try.prog w = .ok (.int .u8 ((m / 2 ^ r : Nat) : Int)) w := by
  simp [eqGuard, binOp, go_sem]
theorem sr_i {m r : Nat} (hr : r < 64) (w : World) : (do eqGuard .shr 3 x u (.int .i64 ((m : Nat) : Int)) (.int .u64 ((r : Nat) : Int)); binOp .shr 3 (.int .i64 ((m : Nat) : Int)) (.int .u64 ((r : Nat) : Int))).run Try.prog w = .ok (.int .i64 ((m / 2 ^ r : Nat) : Int)) w := by
  simp [eqGuard, binOp, go_sem]
theorem sl_b {r : Nat} (hr : r < 8) (w : World) : (do eqGuard .shl 5 x u (.int .u8 ((1 : Nat) : Int)) (.int .u64 ((r : Nat) : Int)); binOp .shl 5 (.int .u8 ((1 : Nat) : Int)) (.int .u64 ((r : Nat) : Int))).run Try.prog w = .ok (.int .u8 ((2 ^ r : Nat) : Int)) w := by
  have h1 : IntKind.u8.wrap (2 ^ r) = 2 ^ r := by
    obtain rfl | rfl | rfl | rfl | rfl | rfl | rfl | rfl : r = 0 ∨ r = 1 ∨ r = 2 ∨ r = 3 ∨ r = 4 ∨ r = 5 ∨ r = 6 ∨ r = 7 := by omega
    all_goals rfl
  simp [eqGuard, binOp, go_sem, h1]
theorem ad_b {m n : Nat} (h : m + n < 256) (w : World) : (do eqGuard .add 5 x u (.int .u8 ((m : Nat) : Int)) (.int .u8 ((n : Nat) : Int)); binOp .add 5 (.int .u8 ((m : Nat) : Int)) (.int .u8 ((n : Nat) : Int))).run Try.prog w = .ok (.int .u8 ((m + n : Nat) : Int)) w := by
  have h1 : IntKind.u8.wrap ((m : Int) + (n : Int)) = ((m + n : Nat) : Int) := by rw [IntKind.wrap_u8]; omega
  simp [eqGuard, binOp, go_sem, h1]
end
theorem ld_k {t0 : TypeId} {i : Nat} {F : Nat → Nat} (hi : i < 32) (w : World) (q : Nat) (h : w.heap[q]? = some (.cells (ck F) t0 (0, 0))) : (Instr.loadAt 5 (.pointer (some ⟨q, i, none⟩))).run Try.prog w = .ok (.int .u8 ((F i : Nat) : Int)) w := by
  have h1 : w.cell? ⟨q, i, none⟩ = some (.int .u8 ((F i : Nat) : Int)) := by
    rw [cell_of_row _ _ _ _ _ _ h]; exact arr_get _ _ _ hi
  simp [Instr.loadAt, Instr.sureAddr, go_sem, h1]
theorem ck_set (F : Nat → Nat) (i v : Nat) : (ck F).setIfInBounds i (.int .u8 ((v : Nat) : Int)) = ck (updN F i v) := by
  unfold ck
  rw [arr_set]
  refine arr_congr fun j _ => ?_
  unfold upd updN
  by_cases h : j = i <;> simp [h]
theorem ck_congr {F G : Nat → Nat} (h : ∀ i, i < 32 → F i = G i) : ck F = ck G := arr_congr fun i hi => by rw [h i hi]
theorem st_k {t0 : TypeId} {i v : Nat} {F : Nat → Nat} (hi : i < 32) (w : World) (q : Nat) (h : w.heap[q]? = some (.cells (ck F) t0 (0, 0))) : (Instr.storeAt 5 (.pointer (some ⟨q, i, none⟩)) (.int .u8 ((v : Nat) : Int))).run Try.prog w = .ok () (w.setRow q (ck (updN F i v))) := by
  have h1 : w.cell? ⟨q, i, none⟩ = some (.int .u8 ((F i : Nat) : Int)) := by
    rw [cell_of_row _ _ _ _ _ _ h]; exact arr_get _ _ _ hi
  have h2 : w.setCell ⟨q, i, none⟩ (.int .u8 ((v : Nat) : Int)) = w.setRow q (ck (updN F i v)) := by rw [set_row h, ck_set]
  have h3 : w.frozen? ⟨q, i, none⟩ = false := by
    simp [World.frozen?, h]
  simp [Instr.storeAt, Instr.sureAddr, go_sem, h1, h2, h3]
theorem ck_one (F : Nat → Nat) : (ck F).all (·.oneCell') = true := by
  rw [Array.all_eq_true_iff_forall_mem]
  intro v hv
  obtain ⟨i, hi⟩ := Array.getElem?_of_mem hv
  have hl : i < 32 := by have := (Array.getElem?_eq_some_iff.1 hi).1; rwa [ck_size] at this
  rw [ck, arr_get _ _ _ hl] at hi
  cases hi; rfl
theorem stK {F : Nat → Nat} {c : Array Value} (t0 : TypeId) (hc : c.size = 32) (w : World) (q : Nat) (h : w.heap[q]? = some (.cells c t0 (0, 0))) : (Instr.storeAt 23 (.pointer (some ⟨q, 0, none⟩)) (.agg (ck F))).run Try.prog w = .ok () (w.setRow q (ck F)) :=
  st_row (n := ck F) (by rw [ck_size]; kernel_rfl) (by rw [hc, ck_size]) (ck_one _) w q h
theorem ck_zero : ck (fun _ => 0) = ⟨List.replicate 32 (.int .u8 0)⟩ := arr_rep (fun _ _ => rfl)
theorem alK (w : World) : (Instr.alloc 23 true (.tuple #[])).run Try.prog w = .ok (.pointer (some ⟨w.heap.size, 0, none⟩)) (w.alloc (.cells (ck fun _ => 0) 23)) := by
  rw [ck_zero]
  simp [Instr.alloc, go_sem]
set_option maxRecDepth 100000 in
/-- Whether two keys are the same. -/
theorem eqK_t {x u : Operand} {F G : Nat → Nat} (h : ∀ i, i < 32 → F i = G i) (w : World) : (do eqGuard .eql 23 x u (.agg (ck F)) (.agg (ck G)); binOp .eql 23 (.agg (ck F)) (.agg (ck G))).run Try.prog w = .ok (.bool true) w := by
  have h1 := eq_ints (P := Try.prog) (t := 23) (e := 5) (n := 32) (k := .u8) (k' := .u8) Try.underlying23 (inf := _) rfl (by kernel_rfl) Try.underlying5 (fun _ => by kernel_rfl) (ck F) (ck G) (fun i => (F i : Int)) (fun i => (G i : Int)) (fun i hi => arr_get _ _ _ hi) (fun i hi => arr_get _ _ _ hi) w
  rw [decide_eq_true (fun i hi => by rw [h i hi])] at h1
  simp [eqGuard, binOp, go_sem, Op.equal, Op.maxDepth, h1]
end Go.Proofs.Ytpogmflgmpifoaa

namespace Go.Proofs.Ytpogmflgmpifoaa
open Go.RowKit

set_option maxRecDepth 100000 in
theorem eqK_run (F G : Nat → Nat) (w : World) : ∃ b : Bool, (b = true ↔ ∀ i, i < 32 → F i = G i) ∧ (Op.equalIn 10000 23 (.agg (ck F)) (.agg (ck G))).run Try.prog w = .ok b w := by
  refine ⟨_, ?_, eq_ints (P := Try.prog) (t := 23) (e := 5) (n := 32) (k := .u8) (k' := .u8) Try.underlying23 (inf := _) rfl (by kernel_rfl) Try.underlying5 (fun _ => by kernel_rfl) (ck F) (ck G) (fun i => (F i : Int)) (fun i => (G i : Int)) (fun i hi => arr_get _ _ _ hi) (fun i hi => arr_get _ _ _ hi) w⟩
  rw [decide_eq_true_eq]
  constructor <;> intro hh i hi <;> have := hh i hi <;> omega
section
variable {x u : Operand}
theorem neK_f {F G : Nat → Nat} (h : ∀ i, i < 32 → F i = G i) (w : World) : (do eqGuard .neq 23 x u (.agg (ck F)) (.agg (ck G)); binOp .neq 23 (.agg (ck F)) (.agg (ck G))).run Try.prog w = .ok (.bool false) w := by
  obtain ⟨b, hb, h1⟩ := eqK_run F G w
  obtain rfl : b = true := hb.2 h
  simp [eqGuard, binOp, go_sem, Op.equal, Op.maxDepth, h1]
theorem neK_t {F G : Nat → Nat} (h : ¬ ∀ i, i < 32 → F i = G i) (w : World) : (do eqGuard .neq 23 x u (.agg (ck F)) (.agg (ck G)); binOp .neq 23 (.agg (ck F)) (.agg (ck G))).run Try.prog w = .ok (.bool true) w := by
  obtain ⟨b, hb, h1⟩ := eqK_run F G w
  obtain rfl : b = false := by
    cases b with
    | false => rfl
    | true => exact absurd (hb.1 rfl) h
  simp [eqGuard, binOp, go_sem, Op.equal, Op.maxDepth, h1]
theorem eqK_f {F G : Nat → Nat} (h : ¬ ∀ i, i < 32 → F i = G i) (w : World) : (do eqGuard .eql 23 x u (.agg (ck F)) (.agg (ck G)); binOp .eql 23 (.agg (ck F)) (.agg (ck G))).run Try.prog w = .ok (.bool false) w := by
  obtain ⟨b, hb, h1⟩ := eqK_run F G w
  obtain rfl : b = false := by
    cases b with
    | false => rfl
    | true => exact absurd (hb.1 rfl) h
  simp [eqGuard, binOp, go_sem, Op.equal, Op.maxDepth, h1]
end
/-- An element's last byte has no topmost bit. -/
theorem byt_top {n : Nat} (hn : n < pp) : byt (dig n) 31 < 128 := by
  show dig n 3 / 256 ^ 7 % 256 < 128
  have h : dig n 3 = n / 6277101735386680763835789423207666416102355444464034512896 % 18446744073709551616 := rfl
  rw [h]
  have hp : pp = 57896044618658097711785492504343953926634992332820282019728792003956564819949 := rfl
  rw [hp] at hn
  have h2 : n / 6277101735386680763835789423207666416102355444464034512896 < 9223372036854775808 := by omega
  generalize n / 6277101735386680763835789423207666416102355444464034512896 = q at *
  rw [Nat.mod_eq_of_lt (by omega)]
  have h3 : q / 256 ^ 7 < 128 := by
    rw [Nat.div_lt_iff_lt_mul (by decide)]
    exact h2
  omega
end Go.Proofs.Ytpogmflgmpifoaa

namespace Go.Proofs.Ytpogmflgmpifoaa
open Go.RowKit

set_option maxHeartbeats 4000000 in
theorem pkey_e {x b : Nat} (hx : x < pp) (hb : b < pp) (hev : x % 2 = 0) (W0 : World) : Calls Try.prog 12 #[.agg (ces [x, b])] W0 fun e w' => e = .returned (.agg (ck (byt (dig (ad b 1))))) ∧ Below W0.heap.size W0 w' := by

  refine s_in Try.func12 Try.ntmps12 rfl [.inl (.agg (ces [x, b]))] ?_
  intro β a h
  refine sym_seq ?_
  refine St.rg h [(1, .inr (0, pt 0)), (2, .inr (1, pt 0))] [(ces [x, b], 31), (ck (fun _ => 0), 23)] [] [eN 0, eN 1] ?_ ?_
  · exact oc (k_bx 0 (.agg (ces [x, b])) (bxP (a := x) (b := b)) rfl rfl) <|
    oc (k_al 1 alK rfl rfl) <|
    ok_nil
  clear h; intro β a w h
  refine sym_then ?_
  refine sym_seq ?_
  refine St.rg h [(4, .inl (.agg (ces [x, b]))), (5, .inl (el (dig (ad b 1)))), (6, .inl (.agg (ck (byt (dig (ad b 1)))))), (3, .inr (2, pt 0))] [(ck (fun _ => 0), 23)] [(2, ck (byt (dig (ad b 1))))] [eR 0, nn, nn, eN 2, eS 2] ?_ ?_
  · exact oc (k_ld 0 0 (.agg (ces [x, b])) (c := ces [x, b]) (ldP (a := x) (b := b) 31) rfl rfl) <|
    oc (k_ca 46 #[.agg (ces [x, b])] (el (dig (ad b 1))) (fun w => y_r hb w) rfl rfl) <|
    oc (k_ca 26 #[el (dig (ad b 1))] (.agg (ck (byt (dig (ad b 1))))) (fun w => key_d (ad_lt _ _) w) rfl rfl) <|
    oc (k_al 2 alK rfl rfl) <|
    oc (k_st 2 0 (.agg (ck (byt (dig (ad b 1))))) (c := ck (fun _ => 0)) (n := ck (byt (dig (ad b 1)))) (stK (F := (byt (dig (ad b 1)))) (c := ck (fun _ => 0)) 23 (ck_size _)) rfl rfl) <|
    ok_nil
  clear h; intro β a w h
  refine sym_then ?_
  refine sym_seq ?_
  refine sym_seq ?_
  refine St.r0 h [(7, .inr (0, pt 0)), (8, .inl (el (dig x))), (9, .inl (.bool true)), (10, .inl (.bool false))] [nn, eR 0] ?_ ?_
  · exact oc (k_fa 0 0 0 rfl rfl) <|
    oc (k_ld 0 0 (el (dig x)) (c := ces [x, b]) (ld_ces (l := [x, b]) (k := 0) (n := x) 31 rfl) rfl rfl) <|
    oz (k_ca 47 #[el (dig x)] (.bool true) (fun w => even_b hx (decide_eq_true hev) w) rfl rfl) <|
    oz (k_nt true rfl rfl) <|
    ok_nil
  clear h; intro β a w h
  refine sym_then ?_
  refine s_cf h ?_
  refine wp_skip ?_
  refine sym_then ?_
  refine sym_seq ?_
  refine St.rg h [(15, .inl (.agg (ck (byt (dig (ad b 1))))))] [] [(1, ck (byt (dig (ad b 1))))] [eR 2, eS 1] ?_ ?_
  · exact oc (k_ld 2 0 (.agg (ck (byt (dig (ad b 1))))) (c := ck (byt (dig (ad b 1)))) (ldK (b := (byt (dig (ad b 1)))) 23) rfl rfl) <|
    oc (k_st 1 0 (.agg (ck (byt (dig (ad b 1))))) (c := ck (fun _ => 0)) (n := ck (byt (dig (ad b 1)))) (stK (F := (byt (dig (ad b 1)))) (c := ck (fun _ => 0)) 23 (ck_size _)) rfl rfl) <|
    ok_nil
  clear h; intro β a w h
  refine sym_then ?_
  refine wp_ret ?_
  exact s_rc (b := 1) (t0 := 23) (c := ck (byt (dig (ad b 1)))) h Try.results12 Try.underlying23 (fun hb => ⟨rfl, hb⟩) (by rw [ck_size]; kernel_rfl)

set_option maxHeartbeats 4000000 in
theorem pkey_o {x b : Nat} (hx : x < pp) (hb : b < pp) (hev : ¬ x % 2 = 0) (W0 : World) : Calls Try.prog 12 #[.agg (ces [x, b])] W0 fun e w' => e = .returned (.agg (ck (updN (byt (dig (ad b 1))) 31 (byt (dig (ad b 1)) 31 + 128)))) ∧ Below W0.heap.size W0 w' := by
  have g1 := byt_top (ad_lt b 1)
  refine s_in Try.func12 Try.ntmps12 rfl [.inl (.agg (ces [x, b]))] ?_
  intro β a h
  refine sym_seq ?_
  refine St.rg h [(1, .inr (0, pt 0)), (2, .inr (1, pt 0))] [(ces [x, b], 31), (ck (fun _ => 0), 23)] [] [eN 0, eN 1] ?_ ?_
  · exact oc (k_bx 0 (.agg (ces [x, b])) (bxP (a := x) (b := b)) rfl rfl) <|
    oc (k_al 1 alK rfl rfl) <|
    ok_nil
  clear h; intro β a w h
  refine sym_then ?_
  refine sym_seq ?_
  refine St.rg h [(4, .inl (.agg (ces [x, b]))), (5, .inl (el (dig (ad b 1)))), (6, .inl (.agg (ck (byt (dig (ad b 1)))))), (3, .inr (2, pt 0))] [(ck (fun _ => 0), 23)] [(2, ck (byt (dig (ad b 1))))] [eR 0, nn, nn, eN 2, eS 2] ?_ ?_
  · exact oc (k_ld 0 0 (.agg (ces [x, b])) (c := ces [x, b]) (ldP (a := x) (b := b) 31) rfl rfl) <|
    oc (k_ca 46 #[.agg (ces [x, b])] (el (dig (ad b 1))) (fun w => y_r hb w) rfl rfl) <|
    oc (k_ca 26 #[el (dig (ad b 1))] (.agg (ck (byt (dig (ad b 1))))) (fun w => key_d (ad_lt _ _) w) rfl rfl) <|
    oc (k_al 2 alK rfl rfl) <|
    oc (k_st 2 0 (.agg (ck (byt (dig (ad b 1))))) (c := ck (fun _ => 0)) (n := ck (byt (dig (ad b 1)))) (stK (F := (byt (dig (ad b 1)))) (c := ck (fun _ => 0)) 23 (ck_size _)) rfl rfl) <|
    ok_nil
  clear h; intro β a w h
  refine sym_then ?_
  refine sym_seq ?_
  refine sym_seq ?_
  refine St.r0 h [(7, .inr (0, pt 0)), (8, .inl (el (dig x))), (9, .inl (.bool false)), (10, .inl (.bool true))] [nn, eR 0] ?_ ?_
  · exact oc (k_fa 0 0 0 rfl rfl) <|
    oc (k_ld 0 0 (el (dig x)) (c := ces [x, b]) (ld_ces (l := [x, b]) (k := 0) (n := x) 31 rfl) rfl rfl) <|
    oz (k_ca 47 #[el (dig x)] (.bool false) (fun w => even_b hx (decide_eq_false hev) w) rfl rfl) <|
    oz (k_nt false rfl rfl) <|
    ok_nil
  clear h; intro β a w h
  refine sym_then ?_
  refine s_ct h ?_
  refine St.rg h [(11, .inr (2, pt 31)), (12, .inl (.int .u8 ((((byt (dig (ad b 1))) 31) : Nat) : Int))), (13, .inl (.int .u8 (((((byt (dig (ad b 1))) 31) + 128) : Nat) : Int))), (14, .inr (2, pt 31))] [] [(2, ck (updN (byt (dig (ad b 1))) 31 (((byt (dig (ad b 1))) 31) + 128)))] [nn, eR 2, nn, nn, eS 2] ?_ ?_
  · exact oc (k_ia 2 0 31 (.int .i64 ((31 : Nat) : Int)) (ixK (i := 31) (by omega)) rfl rfl) <|
    oc (k_ld 2 31 (.int .u8 ((((byt (dig (ad b 1))) 31) : Nat) : Int)) (c := ck (byt (dig (ad b 1)))) (ld_k (F := (byt (dig (ad b 1)))) (i := 31) (t0 := 23) (by omega)) rfl rfl) <|
    oc (k_bi (.int .u8 ((((byt (dig (ad b 1))) 31) : Nat) : Int)) (.int .u8 ((128 : Nat) : Int)) (.int .u8 (((((byt (dig (ad b 1))) 31) + 128) : Nat) : Int)) (or_b (m := ((byt (dig (ad b 1))) 31)) (by omega)) rfl rfl) <|
    oc (k_ia 2 0 31 (.int .i64 ((31 : Nat) : Int)) (ixK (i := 31) (by omega)) rfl rfl) <|
    oc (k_st 2 31 (.int .u8 (((((byt (dig (ad b 1))) 31) + 128) : Nat) : Int)) (c := ck (byt (dig (ad b 1)))) (n := ck (updN (byt (dig (ad b 1))) 31 (((byt (dig (ad b 1))) 31) + 128))) (st_k (F := (byt (dig (ad b 1)))) (i := 31) (v := (((byt (dig (ad b 1))) 31) + 128)) (t0 := 23) (by omega)) rfl rfl) <|
    ok_nil
  clear h; intro β a w h
  refine sym_then ?_
  refine sym_seq ?_
  refine St.rg h [(15, .inl (.agg (ck (updN (byt (dig (ad b 1))) 31 (((byt (dig (ad b 1))) 31) + 128)))))] [] [(1, ck (updN (byt (dig (ad b 1))) 31 (((byt (dig (ad b 1))) 31) + 128)))] [eR 2, eS 1] ?_ ?_
  · exact oc (k_ld 2 0 (.agg (ck (updN (byt (dig (ad b 1))) 31 (((byt (dig (ad b 1))) 31) + 128)))) (c := ck (updN (byt (dig (ad b 1))) 31 (((byt (dig (ad b 1))) 31) + 128))) (ldK (b := (updN (byt (dig (ad b 1))) 31 (((byt (dig (ad b 1))) 31) + 128))) 23) rfl rfl) <|
    oc (k_st 1 0 (.agg (ck (updN (byt (dig (ad b 1))) 31 (((byt (dig (ad b 1))) 31) + 128)))) (c := ck (fun _ => 0)) (n := ck (updN (byt (dig (ad b 1))) 31 (((byt (dig (ad b 1))) 31) + 128))) (stK (F := (updN (byt (dig (ad b 1))) 31 (((byt (dig (ad b 1))) 31) + 128))) (c := ck (fun _ => 0)) 23 (ck_size _)) rfl rfl) <|
    ok_nil
  clear h; intro β a w h
  refine sym_then ?_
  refine wp_ret ?_
  exact s_rc (b := 1) (t0 := 23) (c := ck (updN (byt (dig (ad b 1))) 31 (((byt (dig (ad b 1))) 31) + 128))) h Try.results12 Try.underlying23 (fun hb => ⟨rfl, hb⟩) (by rw [ck_size]; kernel_rfl)

set_option maxHeartbeats 4000000 in
theorem evenX_r {y r : Nat} {k : Bool} (hy : y < pp) (cR : ∀ w, Calls Try.prog 61 #[el (dig (mu (sb (mu y y) 1) (inv (ad (mu dN (mu y y)) 1))))] w fun e w' => e = .returned (.tuple #[el (dig r), .bool k]) ∧ Below w.heap.size w w') (W0 : World) : Calls Try.prog 27 #[el (dig y)] W0 fun e w' => e = .returned (.tuple #[el (dig r), .bool k]) ∧ Below W0.heap.size W0 w' := by
  refine s_in Try.func27 Try.ntmps27 rfl [.inl (el (dig y))] ?_
  intro β a h
  refine sym_seq ?_
  refine St.rg h [(1, .inr (0, pt 0)), (2, .inr (1, pt 0)), (3, .inl (.bool false))] [(ce y, 29), (ce 0, 29)] [] [eN 0, eN 1] ?_ ?_
  · exact oc (k_bx 0 (el (dig y)) (bxE (n := y)) rfl rfl) <|
    oc (k_al 1 alE rfl rfl) <|
    oz (k_mv (.inr rfl) rfl) <|
    ok_nil
  clear h; intro β a w h
  refine sym_then ?_
  refine sym_seq ?_
  refine St.rg h [(6, .inl (el (dig 1))), (4, .inr (2, pt 0))] [(ce 0, 29)] [(2, ce 1)] [nn, eN 2, eS 2] ?_ ?_
  · exact oc (k_ca 49 #[.int .i64 ((1 : Nat) : Int)] (el (dig 1)) (fun w => int_m (m := 1) (by decide) w) rfl rfl) <|
    oc (k_al 2 alE rfl rfl) <|
    oc (k_st 2 0 (el (dig 1)) (c := ce 0) (n := ce 1) (stE (n := 1) (c := ce 0) 29 (ce_size _)) rfl rfl) <|
    ok_nil
  clear h; intro β a w h
  refine sym_then ?_
  refine sym_seq ?_
  refine St.rg h [(7, .inl (el (dig y))), (8, .inl (el (dig y))), (9, .inl (el (dig (mu y y)))), (5, .inr (3, pt 0))] [(ce 0, 29)] [(3, ce (mu y y))] [eR 0, eR 0, nn, eN 3, eS 3] ?_ ?_
  · exact oc (k_ld 0 0 (el (dig y)) (c := ce y) (ldE (n := y) 29) rfl rfl) <|
    oc (k_ld 0 0 (el (dig y)) (c := ce y) (ldE (n := y) 29) rfl rfl) <|
    oc (k_ca 58 #[el (dig y), el (dig y)] (el (dig (mu y y))) (fun w => times_m hy hy w) rfl rfl) <|
    oc (k_al 3 alE rfl rfl) <|
    oc (k_st 3 0 (el (dig (mu y y))) (c := ce 0) (n := ce (mu y y)) (stE (n := (mu y y)) (c := ce 0) 29 (ce_size _)) rfl rfl) <|
    ok_nil
  clear h; intro β a w h
  refine sym_then ?_
  refine sym_seq ?_
  refine St.rg h [(10, .inl (el (dig (mu y y)))), (11, .inl (el (dig 1))), (12, .inl (el (dig (sb (mu y y) 1)))), (13, .inl (el (dig dN))), (14, .inl (el (dig (mu y y)))), (15, .inl (el (dig (mu dN (mu y y))))), (16, .inl (el (dig 1))), (17, .inl (el (dig (ad (mu dN (mu y y)) 1)))), (18, .inl (el (dig (mu (sb (mu y y) 1) (inv (ad (mu dN (mu y y)) 1)))))), (19, .inl (.tuple #[el (dig r), .bool k])), (20, .inl (el (dig r))), (21, .inl (.bool k)), (3, .inl (.bool k))] [] [(1, ce r)] [eR 3, eR 2, nn, nn, eR 3, nn, eR 2, nn, nn, nn, nn, nn, eS 1] ?_ ?_
  · exact oc (k_ld 3 0 (el (dig (mu y y))) (c := ce (mu y y)) (ldE (n := (mu y y)) 29) rfl rfl) <|
    oc (k_ld 2 0 (el (dig 1)) (c := ce 1) (ldE (n := 1) 29) rfl rfl) <|
    oc (k_ca 29 #[el (dig (mu y y)), el (dig 1)] (el (dig (sb (mu y y) 1))) (fun w => minus_m (mu_lt _ _) one_ltp w) rfl rfl) <|
    oc (k_ca 59 #[] (el (dig dN)) cnum_r rfl rfl) <|
    oc (k_ld 3 0 (el (dig (mu y y))) (c := ce (mu y y)) (ldE (n := (mu y y)) 29) rfl rfl) <|
    oc (k_ca 58 #[el (dig dN), el (dig (mu y y))] (el (dig (mu dN (mu y y)))) (fun w => times_m dN_lt (mu_lt _ _) w) rfl rfl) <|
    oc (k_ld 2 0 (el (dig 1)) (c := ce 1) (ldE (n := 1) 29) rfl rfl) <|
    oc (k_ca 60 #[el (dig (mu dN (mu y y))), el (dig 1)] (el (dig (ad (mu dN (mu y y)) 1))) (fun w => plus_m (mu_lt _ _) one_ltp w) rfl rfl) <|
    oc (k_ca 50 #[el (dig (sb (mu y y) 1)), el (dig (ad (mu dN (mu y y)) 1))] (el (dig (mu (sb (mu y y) 1) (inv (ad (mu dN (mu y y)) 1))))) (fun w => over_m (sb_lt _ _) (ad_lt _ _) w) rfl rfl) <|
    oc (k_ca 61 #[el (dig (mu (sb (mu y y) 1) (inv (ad (mu dN (mu y y)) 1))))] (.tuple #[el (dig r), .bool k]) cR rfl rfl) <|
    oc (k_ex (.tuple #[el (dig r), .bool k]) (el (dig r)) rfl rfl) <|
    oc (k_ex (.tuple #[el (dig r), .bool k]) (.bool k) rfl rfl) <|
    oc (k_st 1 0 (el (dig r)) (c := ce 0) (n := ce r) (stE (n := r) (c := ce 0) 29 (ce_size _)) rfl rfl) <|
    oz (k_mv (.inr rfl) rfl) <|
    ok_nil
  clear h; intro β a w h
  refine sym_then ?_
  refine wp_ret ?_
  exact s_r2 (b := 1) (t0 := 29) (c := ce r) h Try.results27 Try.underlying29 (fun hb => ⟨rfl, hb⟩)

set_option maxHeartbeats 4000000 in
theorem of_no {b : Nat → Nat} (hb : ∀ i, b i < 256) {y : Nat} (hy : y < pp) (cO : ∀ w, Calls Try.prog 25 #[.agg (ck (updN b 31 (b 31 % 128)))] w fun e w' => e = .returned (el (dig y)) ∧ Below w.heap.size w w') (hkey : ¬ ∀ i, i < 32 → byt (dig y) i = (updN b 31 (b 31 % 128)) i) (hod : 128 ≤ b 31) (W0 : World) : Calls Try.prog 9 #[.agg (ck b)] W0 fun e w' => e = .returned (.tuple #[.agg (ces [0, 0]), .bool false]) ∧ Below W0.heap.size W0 w' := by
  have g1 := hb 31
  refine s_in Try.func9 Try.ntmps9 rfl [.inl (.agg (ck b))] ?_
  intro β a h
  refine sym_seq ?_
  refine St.rg h [(1, .inr (0, pt 0)), (2, .inr (1, pt 0)), (3, .inl (.bool false))] [(ck b, 23), (ces [0, 0], 31)] [] [eN 0, eN 1] ?_ ?_
  · exact oc (k_bx 0 (.agg (ck b)) (bxK (b := b)) rfl rfl) <|
    oc (k_al 1 alP rfl rfl) <|
    oz (k_mv (.inr rfl) rfl) <|
    ok_nil
  clear h; intro β a w h
  refine sym_then ?_
  refine sym_seq ?_
  refine St.r0 h [(8, .inr (0, pt 31)), (9, .inl (.int .u8 (((b 31) : Nat) : Int))), (10, .inl (.int .u8 ((((b 31) / 128 * 128) : Nat) : Int))), (11, .inl (.bool true)), (4, .inl (.bool true))] [nn, eR 0] ?_ ?_
  · exact oc (k_ia 0 0 31 (.int .i64 ((31 : Nat) : Int)) (ixK (i := 31) (by omega)) rfl rfl) <|
    oc (k_ld 0 31 (.int .u8 (((b 31) : Nat) : Int)) (c := ck b) (ld_k (F := b) (i := 31) (t0 := 23) (by omega)) rfl rfl) <|
    oz (k_bi (.int .u8 (((b 31) : Nat) : Int)) (.int .u8 ((128 : Nat) : Int)) (.int .u8 ((((b 31) / 128 * 128) : Nat) : Int)) (and_b (m := (b 31)) (by omega)) rfl rfl) <|
    oz (k_bi (.int .u8 ((((b 31) / 128 * 128) : Nat) : Int)) (.int .u8 ((0 : Nat) : Int)) (.bool true) (ne_b (m := ((b 31) / 128 * 128)) (n := 0) (decide_eq_true (by omega))) rfl rfl) <|
    oz (k_mv (.inr rfl) rfl) <|
    ok_nil
  clear h; intro β a w h
  refine sym_then ?_
  refine sym_seq ?_
  refine St.rg h [(12, .inr (0, pt 31)), (13, .inl (.int .u8 (((b 31) : Nat) : Int))), (14, .inl (.int .u8 ((((b 31) % 128) : Nat) : Int))), (15, .inr (0, pt 31))] [] [(0, ck (updN b 31 ((b 31) % 128)))] [nn, eR 0, nn, nn, eS 0] ?_ ?_
  · exact oc (k_ia 0 0 31 (.int .i64 ((31 : Nat) : Int)) (ixK (i := 31) (by omega)) rfl rfl) <|
    oc (k_ld 0 31 (.int .u8 (((b 31) : Nat) : Int)) (c := ck b) (ld_k (F := b) (i := 31) (t0 := 23) (by omega)) rfl rfl) <|
    oc (k_bi (.int .u8 (((b 31) : Nat) : Int)) (.int .u8 ((128 : Nat) : Int)) (.int .u8 ((((b 31) % 128) : Nat) : Int)) (an_b (m := (b 31)) (by omega)) rfl rfl) <|
    oc (k_ia 0 0 31 (.int .i64 ((31 : Nat) : Int)) (ixK (i := 31) (by omega)) rfl rfl) <|
    oc (k_st 0 31 (.int .u8 ((((b 31) % 128) : Nat) : Int)) (c := ck b) (n := ck (updN b 31 ((b 31) % 128))) (st_k (F := b) (i := 31) (v := ((b 31) % 128)) (t0 := 23) (by omega)) rfl rfl) <|
    ok_nil
  clear h; intro β a w h
  refine sym_then ?_
  refine sym_seq ?_
  refine St.rg h [(16, .inl (.agg (ck (updN b 31 ((b 31) % 128))))), (17, .inl (el (dig y))), (5, .inr (2, pt 0))] [(ce 0, 29)] [(2, ce y)] [eR 0, nn, eN 2, eS 2] ?_ ?_
  · exact oc (k_ld 0 0 (.agg (ck (updN b 31 ((b 31) % 128)))) (c := ck (updN b 31 ((b 31) % 128))) (ldK (b := (updN b 31 ((b 31) % 128))) 23) rfl rfl) <|
    oc (k_ca 25 #[.agg (ck (updN b 31 ((b 31) % 128)))] (el (dig y)) cO rfl rfl) <|
    oc (k_al 2 alE rfl rfl) <|
    oc (k_st 2 0 (el (dig y)) (c := ce 0) (n := ce y) (stE (n := y) (c := ce 0) 29 (ce_size _)) rfl rfl) <|
    ok_nil
  clear h; intro β a w h
  refine sym_then ?_
  refine sym_seq ?_
  refine sym_seq ?_
  refine St.r0 h [(18, .inl (el (dig y))), (19, .inl (.agg (ck (byt (dig y))))), (20, .inl (.agg (ck (updN b 31 ((b 31) % 128))))), (21, .inl (.bool true))] [eR 2, nn, eR 0] ?_ ?_
  · exact oc (k_ld 2 0 (el (dig y)) (c := ce y) (ldE (n := y) 29) rfl rfl) <|
    oc (k_ca 26 #[el (dig y)] (.agg (ck (byt (dig y)))) (fun w => key_d hy w) rfl rfl) <|
    oc (k_ld 0 0 (.agg (ck (updN b 31 ((b 31) % 128)))) (c := ck (updN b 31 ((b 31) % 128))) (ldK (b := (updN b 31 ((b 31) % 128))) 23) rfl rfl) <|
    oz (k_bi (.agg (ck (byt (dig y)))) (.agg (ck (updN b 31 ((b 31) % 128)))) (.bool true) (neK_t (F := (byt (dig y))) (G := (updN b 31 ((b 31) % 128))) hkey) rfl rfl) <|
    ok_nil
  clear h; intro β a w h
  refine sym_then ?_
  refine s_ct h ?_
  refine sym_seq ?_
  refine St.rg h [(22, .inl (.agg (ces [0, 0])))] [] [(1, ces [0, 0])] [nn, eS 1] ?_ ?_
  · exact oc (k_bu #[] (.agg (ces [0, 0])) bdP0 rfl rfl) <|
    oc (k_st 1 0 (.agg (ces [0, 0])) (c := ces [0, 0]) (n := ces [0, 0]) (stP (a := 0) (b := 0) (c := ces [0, 0]) 31 (by rw [ces_size]; rfl)) rfl rfl) <|
    oz (k_mv (.inr rfl) rfl) <|
    ok_nil
  clear h; intro β a w h
  refine sym_then ?_
  refine wp_ret ?_
  refine then_ret ?_
  exact s_r2 (b := 1) (t0 := 31) (c := ces [0, 0]) h Try.results9 Try.underlying31 (fun hb => ⟨rfl, hb⟩) (by rw [ces_size]; kernel_rfl)

set_option maxHeartbeats 4000000 in
theorem of_xo {b : Nat → Nat} (hb : ∀ i, b i < 256) {y r : Nat} (hy : y < pp) (cO : ∀ w, Calls Try.prog 25 #[.agg (ck (updN b 31 (b 31 % 128)))] w fun e w' => e = .returned (el (dig y)) ∧ Below w.heap.size w w') (hkey : ∀ i, i < 32 → byt (dig y) i = (updN b 31 (b 31 % 128)) i) (cE : ∀ w, Calls Try.prog 27 #[el (dig y)] w fun e w' => e = .returned (.tuple #[el (dig r), .bool false]) ∧ Below w.heap.size w w') (hod : 128 ≤ b 31) (W0 : World) : Calls Try.prog 9 #[.agg (ck b)] W0 fun e w' => e = .returned (.tuple #[.agg (ces [0, 0]), .bool false]) ∧ Below W0.heap.size W0 w' := by
  have g1 := hb 31
  refine s_in Try.func9 Try.ntmps9 rfl [.inl (.agg (ck b))] ?_
  intro β a h
  refine sym_seq ?_
  refine St.rg h [(1, .inr (0, pt 0)), (2, .inr (1, pt 0)), (3, .inl (.bool false))] [(ck b, 23), (ces [0, 0], 31)] [] [eN 0, eN 1] ?_ ?_
  · exact oc (k_bx 0 (.agg (ck b)) (bxK (b := b)) rfl rfl) <|
    oc (k_al 1 alP rfl rfl) <|
    oz (k_mv (.inr rfl) rfl) <|
    ok_nil
  clear h; intro β a w h
  refine sym_then ?_
  refine sym_seq ?_
  refine St.r0 h [(8, .inr (0, pt 31)), (9, .inl (.int .u8 (((b 31) : Nat) : Int))), (10, .inl (.int .u8 ((((b 31) / 128 * 128) : Nat) : Int))), (11, .inl (.bool true)), (4, .inl (.bool true))] [nn, eR 0] ?_ ?_
  · exact oc (k_ia 0 0 31 (.int .i64 ((31 : Nat) : Int)) (ixK (i := 31) (by omega)) rfl rfl) <|
    oc (k_ld 0 31 (.int .u8 (((b 31) : Nat) : Int)) (c := ck b) (ld_k (F := b) (i := 31) (t0 := 23) (by omega)) rfl rfl) <|
    oz (k_bi (.int .u8 (((b 31) : Nat) : Int)) (.int .u8 ((128 : Nat) : Int)) (.int .u8 ((((b 31) / 128 * 128) : Nat) : Int)) (and_b (m := (b 31)) (by omega)) rfl rfl) <|
    oz (k_bi (.int .u8 ((((b 31) / 128 * 128) : Nat) : Int)) (.int .u8 ((0 : Nat) : Int)) (.bool true) (ne_b (m := ((b 31) / 128 * 128)) (n := 0) (decide_eq_true (by omega))) rfl rfl) <|
    oz (k_mv (.inr rfl) rfl) <|
    ok_nil
  clear h; intro β a w h
  refine sym_then ?_
  refine sym_seq ?_
  refine St.rg h [(12, .inr (0, pt 31)), (13, .inl (.int .u8 (((b 31) : Nat) : Int))), (14, .inl (.int .u8 ((((b 31) % 128) : Nat) : Int))), (15, .inr (0, pt 31))] [] [(0, ck (updN b 31 ((b 31) % 128)))] [nn, eR 0, nn, nn, eS 0] ?_ ?_
  · exact oc (k_ia 0 0 31 (.int .i64 ((31 : Nat) : Int)) (ixK (i := 31) (by omega)) rfl rfl) <|
    oc (k_ld 0 31 (.int .u8 (((b 31) : Nat) : Int)) (c := ck b) (ld_k (F := b) (i := 31) (t0 := 23) (by omega)) rfl rfl) <|
    oc (k_bi (.int .u8 (((b 31) : Nat) : Int)) (.int .u8 ((128 : Nat) : Int)) (.int .u8 ((((b 31) % 128) : Nat) : Int)) (an_b (m := (b 31)) (by omega)) rfl rfl) <|
    oc (k_ia 0 0 31 (.int .i64 ((31 : Nat) : Int)) (ixK (i := 31) (by omega)) rfl rfl) <|
    oc (k_st 0 31 (.int .u8 ((((b 31) % 128) : Nat) : Int)) (c := ck b) (n := ck (updN b 31 ((b 31) % 128))) (st_k (F := b) (i := 31) (v := ((b 31) % 128)) (t0 := 23) (by omega)) rfl rfl) <|
    ok_nil
  clear h; intro β a w h
  refine sym_then ?_
  refine sym_seq ?_
  refine St.rg h [(16, .inl (.agg (ck (updN b 31 ((b 31) % 128))))), (17, .inl (el (dig y))), (5, .inr (2, pt 0))] [(ce 0, 29)] [(2, ce y)] [eR 0, nn, eN 2, eS 2] ?_ ?_
  · exact oc (k_ld 0 0 (.agg (ck (updN b 31 ((b 31) % 128)))) (c := ck (updN b 31 ((b 31) % 128))) (ldK (b := (updN b 31 ((b 31) % 128))) 23) rfl rfl) <|
    oc (k_ca 25 #[.agg (ck (updN b 31 ((b 31) % 128)))] (el (dig y)) cO rfl rfl) <|
    oc (k_al 2 alE rfl rfl) <|
    oc (k_st 2 0 (el (dig y)) (c := ce 0) (n := ce y) (stE (n := y) (c := ce 0) 29 (ce_size _)) rfl rfl) <|
    ok_nil
  clear h; intro β a w h
  refine sym_then ?_
  refine sym_seq ?_
  refine sym_seq ?_
  refine St.r0 h [(18, .inl (el (dig y))), (19, .inl (.agg (ck (byt (dig y))))), (20, .inl (.agg (ck (updN b 31 ((b 31) % 128))))), (21, .inl (.bool false))] [eR 2, nn, eR 0] ?_ ?_
  · exact oc (k_ld 2 0 (el (dig y)) (c := ce y) (ldE (n := y) 29) rfl rfl) <|
    oc (k_ca 26 #[el (dig y)] (.agg (ck (byt (dig y)))) (fun w => key_d hy w) rfl rfl) <|
    oc (k_ld 0 0 (.agg (ck (updN b 31 ((b 31) % 128)))) (c := ck (updN b 31 ((b 31) % 128))) (ldK (b := (updN b 31 ((b 31) % 128))) 23) rfl rfl) <|
    oz (k_bi (.agg (ck (byt (dig y)))) (.agg (ck (updN b 31 ((b 31) % 128)))) (.bool false) (neK_f (F := (byt (dig y))) (G := (updN b 31 ((b 31) % 128))) hkey) rfl rfl) <|
    ok_nil
  clear h; intro β a w h
  refine sym_then ?_
  refine s_cf h ?_
  refine wp_skip ?_
  refine sym_then ?_
  refine sym_seq ?_
  refine St.rg h [(24, .inl (el (dig y))), (25, .inl (.tuple #[el (dig r), .bool false])), (23, .inl (.tuple #[el (dig r), .bool false])), (26, .inl (el (dig r))), (27, .inl (.bool false)), (6, .inr (3, pt 0)), (7, .inl (.bool false))] [(ce 0, 29)] [(3, ce r)] [eR 2, nn, nn, nn, nn, eN 3, eS 3] ?_ ?_
  · exact oc (k_ld 2 0 (el (dig y)) (c := ce y) (ldE (n := y) 29) rfl rfl) <|
    oc (k_ca 27 #[el (dig y)] (.tuple #[el (dig r), .bool false]) cE rfl rfl) <|
    oc (k_mv (.inl rfl) rfl) <|
    oc (k_ex (.tuple #[el (dig r), .bool false]) (el (dig r)) rfl rfl) <|
    oc (k_ex (.tuple #[el (dig r), .bool false]) (.bool false) rfl rfl) <|
    oc (k_al 3 alE rfl rfl) <|
    oc (k_st 3 0 (el (dig r)) (c := ce 0) (n := ce r) (stE (n := r) (c := ce 0) 29 (ce_size _)) rfl rfl) <|
    oz (k_mv (.inr rfl) rfl) <|
    ok_nil
  clear h; intro β a w h
  refine sym_then ?_
  refine sym_seq ?_
  refine sym_seq ?_
  refine St.r0 h [(28, .inl (.bool false)), (29, .inl (.bool true)), (30, .inl (.bool true)), (37, .inl (.bool true))] [] ?_ ?_
  · exact oz (k_mv (.inl rfl) rfl) <|
    oz (k_nt false rfl rfl) <|
    oz (k_mv (.inl rfl) rfl) <|
    oz (k_sk rfl) <|
    oz (k_sk rfl) <|
    oz (k_sk rfl) <|
    oz (k_sk rfl) <|
    oz (k_sk rfl) <|
    oz (k_sk rfl) <|
    oz (k_pt rfl rfl) <|
    ok_nil
  clear h; intro β a w h
  refine sym_then ?_
  refine s_ct h ?_
  refine sym_seq ?_
  refine St.rg h [(38, .inl (.agg (ces [0, 0])))] [] [(1, ces [0, 0])] [nn, eS 1] ?_ ?_
  · exact oc (k_bu #[] (.agg (ces [0, 0])) bdP0 rfl rfl) <|
    oc (k_st 1 0 (.agg (ces [0, 0])) (c := ces [0, 0]) (n := ces [0, 0]) (stP (a := 0) (b := 0) (c := ces [0, 0]) 31 (by rw [ces_size]; rfl)) rfl rfl) <|
    oz (k_mv (.inr rfl) rfl) <|
    ok_nil
  clear h; intro β a w h
  refine sym_then ?_
  refine wp_ret ?_
  refine then_ret ?_
  exact s_r2 (b := 1) (t0 := 31) (c := ces [0, 0]) h Try.results9 Try.underlying31 (fun hb => ⟨rfl, hb⟩) (by rw [ces_size]; kernel_rfl)

set_option maxHeartbeats 4000000 in
theorem of_ne {b : Nat → Nat} (hb : ∀ i, b i < 256) {y : Nat} (hy : y < pp) (cO : ∀ w, Calls Try.prog 25 #[.agg (ck (updN b 31 (b 31 % 128)))] w fun e w' => e = .returned (el (dig y)) ∧ Below w.heap.size w w') (hkey : ¬ ∀ i, i < 32 → byt (dig y) i = (updN b 31 (b 31 % 128)) i) (hod : b 31 < 128) (W0 : World) : Calls Try.prog 9 #[.agg (ck b)] W0 fun e w' => e = .returned (.tuple #[.agg (ces [0, 0]), .bool false]) ∧ Below W0.heap.size W0 w' := by
  have g1 := hb 31
  refine s_in Try.func9 Try.ntmps9 rfl [.inl (.agg (ck b))] ?_
  intro β a h
  refine sym_seq ?_
  refine St.rg h [(1, .inr (0, pt 0)), (2, .inr (1, pt 0)), (3, .inl (.bool false))] [(ck b, 23), (ces [0, 0], 31)] [] [eN 0, eN 1] ?_ ?_
  · exact oc (k_bx 0 (.agg (ck b)) (bxK (b := b)) rfl rfl) <|
    oc (k_al 1 alP rfl rfl) <|
    oz (k_mv (.inr rfl) rfl) <|
    ok_nil
  clear h; intro β a w h
  refine sym_then ?_
  refine sym_seq ?_
  refine St.r0 h [(8, .inr (0, pt 31)), (9, .inl (.int .u8 (((b 31) : Nat) : Int))), (10, .inl (.int .u8 ((((b 31) / 128 * 128) : Nat) : Int))), (11, .inl (.bool false)), (4, .inl (.bool false))] [nn, eR 0] ?_ ?_
  · exact oc (k_ia 0 0 31 (.int .i64 ((31 : Nat) : Int)) (ixK (i := 31) (by omega)) rfl rfl) <|
    oc (k_ld 0 31 (.int .u8 (((b 31) : Nat) : Int)) (c := ck b) (ld_k (F := b) (i := 31) (t0 := 23) (by omega)) rfl rfl) <|
    oz (k_bi (.int .u8 (((b 31) : Nat) : Int)) (.int .u8 ((128 : Nat) : Int)) (.int .u8 ((((b 31) / 128 * 128) : Nat) : Int)) (and_b (m := (b 31)) (by omega)) rfl rfl) <|
    oz (k_bi (.int .u8 ((((b 31) / 128 * 128) : Nat) : Int)) (.int .u8 ((0 : Nat) : Int)) (.bool false) (ne_b (m := ((b 31) / 128 * 128)) (n := 0) (decide_eq_false (by omega))) rfl rfl) <|
    oz (k_mv (.inr rfl) rfl) <|
    ok_nil
  clear h; intro β a w h
  refine sym_then ?_
  refine sym_seq ?_
  refine St.rg h [(12, .inr (0, pt 31)), (13, .inl (.int .u8 (((b 31) : Nat) : Int))), (14, .inl (.int .u8 ((((b 31) % 128) : Nat) : Int))), (15, .inr (0, pt 31))] [] [(0, ck (updN b 31 ((b 31) % 128)))] [nn, eR 0, nn, nn, eS 0] ?_ ?_
  · exact oc (k_ia 0 0 31 (.int .i64 ((31 : Nat) : Int)) (ixK (i := 31) (by omega)) rfl rfl) <|
    oc (k_ld 0 31 (.int .u8 (((b 31) : Nat) : Int)) (c := ck b) (ld_k (F := b) (i := 31) (t0 := 23) (by omega)) rfl rfl) <|
    oc (k_bi (.int .u8 (((b 31) : Nat) : Int)) (.int .u8 ((128 : Nat) : Int)) (.int .u8 ((((b 31) % 128) : Nat) : Int)) (an_b (m := (b 31)) (by omega)) rfl rfl) <|
    oc (k_ia 0 0 31 (.int .i64 ((31 : Nat) : Int)) (ixK (i := 31) (by omega)) rfl rfl) <|
    oc (k_st 0 31 (.int .u8 ((((b 31) % 128) : Nat) : Int)) (c := ck b) (n := ck (updN b 31 ((b 31) % 128))) (st_k (F := b) (i := 31) (v := ((b 31) % 128)) (t0 := 23) (by omega)) rfl rfl) <|
    ok_nil
  clear h; intro β a w h
  refine sym_then ?_
  refine sym_seq ?_
  refine St.rg h [(16, .inl (.agg (ck (updN b 31 ((b 31) % 128))))), (17, .inl (el (dig y))), (5, .inr (2, pt 0))] [(ce 0, 29)] [(2, ce y)] [eR 0, nn, eN 2, eS 2] ?_ ?_
  · exact oc (k_ld 0 0 (.agg (ck (updN b 31 ((b 31) % 128)))) (c := ck (updN b 31 ((b 31) % 128))) (ldK (b := (updN b 31 ((b 31) % 128))) 23) rfl rfl) <|
    oc (k_ca 25 #[.agg (ck (updN b 31 ((b 31) % 128)))] (el (dig y)) cO rfl rfl) <|
    oc (k_al 2 alE rfl rfl) <|
    oc (k_st 2 0 (el (dig y)) (c := ce 0) (n := ce y) (stE (n := y) (c := ce 0) 29 (ce_size _)) rfl rfl) <|
    ok_nil
  clear h; intro β a w h
  refine sym_then ?_
  refine sym_seq ?_
  refine sym_seq ?_
  refine St.r0 h [(18, .inl (el (dig y))), (19, .inl (.agg (ck (byt (dig y))))), (20, .inl (.agg (ck (updN b 31 ((b 31) % 128))))), (21, .inl (.bool true))] [eR 2, nn, eR 0] ?_ ?_
  · exact oc (k_ld 2 0 (el (dig y)) (c := ce y) (ldE (n := y) 29) rfl rfl) <|
    oc (k_ca 26 #[el (dig y)] (.agg (ck (byt (dig y)))) (fun w => key_d hy w) rfl rfl) <|
    oc (k_ld 0 0 (.agg (ck (updN b 31 ((b 31) % 128)))) (c := ck (updN b 31 ((b 31) % 128))) (ldK (b := (updN b 31 ((b 31) % 128))) 23) rfl rfl) <|
    oz (k_bi (.agg (ck (byt (dig y)))) (.agg (ck (updN b 31 ((b 31) % 128)))) (.bool true) (neK_t (F := (byt (dig y))) (G := (updN b 31 ((b 31) % 128))) hkey) rfl rfl) <|
    ok_nil
  clear h; intro β a w h
  refine sym_then ?_
  refine s_ct h ?_
  refine sym_seq ?_
  refine St.rg h [(22, .inl (.agg (ces [0, 0])))] [] [(1, ces [0, 0])] [nn, eS 1] ?_ ?_
  · exact oc (k_bu #[] (.agg (ces [0, 0])) bdP0 rfl rfl) <|
    oc (k_st 1 0 (.agg (ces [0, 0])) (c := ces [0, 0]) (n := ces [0, 0]) (stP (a := 0) (b := 0) (c := ces [0, 0]) 31 (by rw [ces_size]; rfl)) rfl rfl) <|
    oz (k_mv (.inr rfl) rfl) <|
    ok_nil
  clear h; intro β a w h
  refine sym_then ?_
  refine wp_ret ?_
  refine then_ret ?_
  exact s_r2 (b := 1) (t0 := 31) (c := ces [0, 0]) h Try.results9 Try.underlying31 (fun hb => ⟨rfl, hb⟩) (by rw [ces_size]; kernel_rfl)

set_option maxHeartbeats 4000000 in
theorem of_xe {b : Nat → Nat} (hb : ∀ i, b i < 256) {y r : Nat} (hy : y < pp) (cO : ∀ w, Calls Try.prog 25 #[.agg (ck (updN b 31 (b 31 % 128)))] w fun e w' => e = .returned (el (dig y)) ∧ Below w.heap.size w w') (hkey : ∀ i, i < 32 → byt (dig y) i = (updN b 31 (b 31 % 128)) i) (cE : ∀ w, Calls Try.prog 27 #[el (dig y)] w fun e w' => e = .returned (.tuple #[el (dig r), .bool false]) ∧ Below w.heap.size w w') (hod : b 31 < 128) (W0 : World) : Calls Try.prog 9 #[.agg (ck b)] W0 fun e w' => e = .returned (.tuple #[.agg (ces [0, 0]), .bool false]) ∧ Below W0.heap.size W0 w' := by
  have g1 := hb 31
  refine s_in Try.func9 Try.ntmps9 rfl [.inl (.agg (ck b))] ?_
  intro β a h
  refine sym_seq ?_
  refine St.rg h [(1, .inr (0, pt 0)), (2, .inr (1, pt 0)), (3, .inl (.bool false))] [(ck b, 23), (ces [0, 0], 31)] [] [eN 0, eN 1] ?_ ?_
  · exact oc (k_bx 0 (.agg (ck b)) (bxK (b := b)) rfl rfl) <|
    oc (k_al 1 alP rfl rfl) <|
    oz (k_mv (.inr rfl) rfl) <|
    ok_nil
  clear h; intro β a w h
  refine sym_then ?_
  refine sym_seq ?_
  refine St.r0 h [(8, .inr (0, pt 31)), (9, .inl (.int .u8 (((b 31) : Nat) : Int))), (10, .inl (.int .u8 ((((b 31) / 128 * 128) : Nat) : Int))), (11, .inl (.bool false)), (4, .inl (.bool false))] [nn, eR 0] ?_ ?_
  · exact oc (k_ia 0 0 31 (.int .i64 ((31 : Nat) : Int)) (ixK (i := 31) (by omega)) rfl rfl) <|
    oc (k_ld 0 31 (.int .u8 (((b 31) : Nat) : Int)) (c := ck b) (ld_k (F := b) (i := 31) (t0 := 23) (by omega)) rfl rfl) <|
    oz (k_bi (.int .u8 (((b 31) : Nat) : Int)) (.int .u8 ((128 : Nat) : Int)) (.int .u8 ((((b 31) / 128 * 128) : Nat) : Int)) (and_b (m := (b 31)) (by omega)) rfl rfl) <|
    oz (k_bi (.int .u8 ((((b 31) / 128 * 128) : Nat) : Int)) (.int .u8 ((0 : Nat) : Int)) (.bool false) (ne_b (m := ((b 31) / 128 * 128)) (n := 0) (decide_eq_false (by omega))) rfl rfl) <|
    oz (k_mv (.inr rfl) rfl) <|
    ok_nil
  clear h; intro β a w h
  refine sym_then ?_
  refine sym_seq ?_
  refine St.rg h [(12, .inr (0, pt 31)), (13, .inl (.int .u8 (((b 31) : Nat) : Int))), (14, .inl (.int .u8 ((((b 31) % 128) : Nat) : Int))), (15, .inr (0, pt 31))] [] [(0, ck (updN b 31 ((b 31) % 128)))] [nn, eR 0, nn, nn, eS 0] ?_ ?_
  · exact oc (k_ia 0 0 31 (.int .i64 ((31 : Nat) : Int)) (ixK (i := 31) (by omega)) rfl rfl) <|
    oc (k_ld 0 31 (.int .u8 (((b 31) : Nat) : Int)) (c := ck b) (ld_k (F := b) (i := 31) (t0 := 23) (by omega)) rfl rfl) <|
    oc (k_bi (.int .u8 (((b 31) : Nat) : Int)) (.int .u8 ((128 : Nat) : Int)) (.int .u8 ((((b 31) % 128) : Nat) : Int)) (an_b (m := (b 31)) (by omega)) rfl rfl) <|
    oc (k_ia 0 0 31 (.int .i64 ((31 : Nat) : Int)) (ixK (i := 31) (by omega)) rfl rfl) <|
    oc (k_st 0 31 (.int .u8 ((((b 31) % 128) : Nat) : Int)) (c := ck b) (n := ck (updN b 31 ((b 31) % 128))) (st_k (F := b) (i := 31) (v := ((b 31) % 128)) (t0 := 23) (by omega)) rfl rfl) <|
    ok_nil
  clear h; intro β a w h
  refine sym_then ?_
  refine sym_seq ?_
  refine St.rg h [(16, .inl (.agg (ck (updN b 31 ((b 31) % 128))))), (17, .inl (el (dig y))), (5, .inr (2, pt 0))] [(ce 0, 29)] [(2, ce y)] [eR 0, nn, eN 2, eS 2] ?_ ?_
  · exact oc (k_ld 0 0 (.agg (ck (updN b 31 ((b 31) % 128)))) (c := ck (updN b 31 ((b 31) % 128))) (ldK (b := (updN b 31 ((b 31) % 128))) 23) rfl rfl) <|
    oc (k_ca 25 #[.agg (ck (updN b 31 ((b 31) % 128)))] (el (dig y)) cO rfl rfl) <|
    oc (k_al 2 alE rfl rfl) <|
    oc (k_st 2 0 (el (dig y)) (c := ce 0) (n := ce y) (stE (n := y) (c := ce 0) 29 (ce_size _)) rfl rfl) <|
    ok_nil
  clear h; intro β a w h
  refine sym_then ?_
  refine sym_seq ?_
  refine sym_seq ?_
  refine St.r0 h [(18, .inl (el (dig y))), (19, .inl (.agg (ck (byt (dig y))))), (20, .inl (.agg (ck (updN b 31 ((b 31) % 128))))), (21, .inl (.bool false))] [eR 2, nn, eR 0] ?_ ?_
  · exact oc (k_ld 2 0 (el (dig y)) (c := ce y) (ldE (n := y) 29) rfl rfl) <|
    oc (k_ca 26 #[el (dig y)] (.agg (ck (byt (dig y)))) (fun w => key_d hy w) rfl rfl) <|
    oc (k_ld 0 0 (.agg (ck (updN b 31 ((b 31) % 128)))) (c := ck (updN b 31 ((b 31) % 128))) (ldK (b := (updN b 31 ((b 31) % 128))) 23) rfl rfl) <|
    oz (k_bi (.agg (ck (byt (dig y)))) (.agg (ck (updN b 31 ((b 31) % 128)))) (.bool false) (neK_f (F := (byt (dig y))) (G := (updN b 31 ((b 31) % 128))) hkey) rfl rfl) <|
    ok_nil
  clear h; intro β a w h
  refine sym_then ?_
  refine s_cf h ?_
  refine wp_skip ?_
  refine sym_then ?_
  refine sym_seq ?_
  refine St.rg h [(24, .inl (el (dig y))), (25, .inl (.tuple #[el (dig r), .bool false])), (23, .inl (.tuple #[el (dig r), .bool false])), (26, .inl (el (dig r))), (27, .inl (.bool false)), (6, .inr (3, pt 0)), (7, .inl (.bool false))] [(ce 0, 29)] [(3, ce r)] [eR 2, nn, nn, nn, nn, eN 3, eS 3] ?_ ?_
  · exact oc (k_ld 2 0 (el (dig y)) (c := ce y) (ldE (n := y) 29) rfl rfl) <|
    oc (k_ca 27 #[el (dig y)] (.tuple #[el (dig r), .bool false]) cE rfl rfl) <|
    oc (k_mv (.inl rfl) rfl) <|
    oc (k_ex (.tuple #[el (dig r), .bool false]) (el (dig r)) rfl rfl) <|
    oc (k_ex (.tuple #[el (dig r), .bool false]) (.bool false) rfl rfl) <|
    oc (k_al 3 alE rfl rfl) <|
    oc (k_st 3 0 (el (dig r)) (c := ce 0) (n := ce r) (stE (n := r) (c := ce 0) 29 (ce_size _)) rfl rfl) <|
    oz (k_mv (.inr rfl) rfl) <|
    ok_nil
  clear h; intro β a w h
  refine sym_then ?_
  refine sym_seq ?_
  refine sym_seq ?_
  refine St.r0 h [(28, .inl (.bool false)), (29, .inl (.bool true)), (30, .inl (.bool true)), (37, .inl (.bool true))] [] ?_ ?_
  · exact oz (k_mv (.inl rfl) rfl) <|
    oz (k_nt false rfl rfl) <|
    oz (k_mv (.inl rfl) rfl) <|
    oz (k_sk rfl) <|
    oz (k_sk rfl) <|
    oz (k_sk rfl) <|
    oz (k_sk rfl) <|
    oz (k_sk rfl) <|
    oz (k_sk rfl) <|
    oz (k_pt rfl rfl) <|
    ok_nil
  clear h; intro β a w h
  refine sym_then ?_
  refine s_ct h ?_
  refine sym_seq ?_
  refine St.rg h [(38, .inl (.agg (ces [0, 0])))] [] [(1, ces [0, 0])] [nn, eS 1] ?_ ?_
  · exact oc (k_bu #[] (.agg (ces [0, 0])) bdP0 rfl rfl) <|
    oc (k_st 1 0 (.agg (ces [0, 0])) (c := ces [0, 0]) (n := ces [0, 0]) (stP (a := 0) (b := 0) (c := ces [0, 0]) 31 (by rw [ces_size]; rfl)) rfl rfl) <|
    oz (k_mv (.inr rfl) rfl) <|
    ok_nil
  clear h; intro β a w h
  refine sym_then ?_
  refine wp_ret ?_
  refine then_ret ?_
  exact s_r2 (b := 1) (t0 := 31) (c := ces [0, 0]) h Try.results9 Try.underlying31 (fun hb => ⟨rfl, hb⟩) (by rw [ces_size]; kernel_rfl)

set_option maxHeartbeats 4000000 in
theorem of_z {b : Nat → Nat} (hb : ∀ i, b i < 256) {y r : Nat} (hy : y < pp) (cO : ∀ w, Calls Try.prog 25 #[.agg (ck (updN b 31 (b 31 % 128)))] w fun e w' => e = .returned (el (dig y)) ∧ Below w.heap.size w w') (hkey : ∀ i, i < 32 → byt (dig y) i = (updN b 31 (b 31 % 128)) i) (cE : ∀ w, Calls Try.prog 27 #[el (dig y)] w fun e w' => e = .returned (.tuple #[el (dig r), .bool true]) ∧ Below w.heap.size w w') (hr : r < pp) (hz : r = 0) (hod : 128 ≤ b 31) (W0 : World) : Calls Try.prog 9 #[.agg (ck b)] W0 fun e w' => e = .returned (.tuple #[.agg (ces [0, 0]), .bool false]) ∧ Below W0.heap.size W0 w' := by
  have g1 := hb 31
  refine s_in Try.func9 Try.ntmps9 rfl [.inl (.agg (ck b))] ?_
  intro β a h
  refine sym_seq ?_
  refine St.rg h [(1, .inr (0, pt 0)), (2, .inr (1, pt 0)), (3, .inl (.bool false))] [(ck b, 23), (ces [0, 0], 31)] [] [eN 0, eN 1] ?_ ?_
  · exact oc (k_bx 0 (.agg (ck b)) (bxK (b := b)) rfl rfl) <|
    oc (k_al 1 alP rfl rfl) <|
    oz (k_mv (.inr rfl) rfl) <|
    ok_nil
  clear h; intro β a w h
  refine sym_then ?_
  refine sym_seq ?_
  refine St.r0 h [(8, .inr (0, pt 31)), (9, .inl (.int .u8 (((b 31) : Nat) : Int))), (10, .inl (.int .u8 ((((b 31) / 128 * 128) : Nat) : Int))), (11, .inl (.bool true)), (4, .inl (.bool true))] [nn, eR 0] ?_ ?_
  · exact oc (k_ia 0 0 31 (.int .i64 ((31 : Nat) : Int)) (ixK (i := 31) (by omega)) rfl rfl) <|
    oc (k_ld 0 31 (.int .u8 (((b 31) : Nat) : Int)) (c := ck b) (ld_k (F := b) (i := 31) (t0 := 23) (by omega)) rfl rfl) <|
    oz (k_bi (.int .u8 (((b 31) : Nat) : Int)) (.int .u8 ((128 : Nat) : Int)) (.int .u8 ((((b 31) / 128 * 128) : Nat) : Int)) (and_b (m := (b 31)) (by omega)) rfl rfl) <|
    oz (k_bi (.int .u8 ((((b 31) / 128 * 128) : Nat) : Int)) (.int .u8 ((0 : Nat) : Int)) (.bool true) (ne_b (m := ((b 31) / 128 * 128)) (n := 0) (decide_eq_true (by omega))) rfl rfl) <|
    oz (k_mv (.inr rfl) rfl) <|
    ok_nil
  clear h; intro β a w h
  refine sym_then ?_
  refine sym_seq ?_
  refine St.rg h [(12, .inr (0, pt 31)), (13, .inl (.int .u8 (((b 31) : Nat) : Int))), (14, .inl (.int .u8 ((((b 31) % 128) : Nat) : Int))), (15, .inr (0, pt 31))] [] [(0, ck (updN b 31 ((b 31) % 128)))] [nn, eR 0, nn, nn, eS 0] ?_ ?_
  · exact oc (k_ia 0 0 31 (.int .i64 ((31 : Nat) : Int)) (ixK (i := 31) (by omega)) rfl rfl) <|
    oc (k_ld 0 31 (.int .u8 (((b 31) : Nat) : Int)) (c := ck b) (ld_k (F := b) (i := 31) (t0 := 23) (by omega)) rfl rfl) <|
    oc (k_bi (.int .u8 (((b 31) : Nat) : Int)) (.int .u8 ((128 : Nat) : Int)) (.int .u8 ((((b 31) % 128) : Nat) : Int)) (an_b (m := (b 31)) (by omega)) rfl rfl) <|
    oc (k_ia 0 0 31 (.int .i64 ((31 : Nat) : Int)) (ixK (i := 31) (by omega)) rfl rfl) <|
    oc (k_st 0 31 (.int .u8 ((((b 31) % 128) : Nat) : Int)) (c := ck b) (n := ck (updN b 31 ((b 31) % 128))) (st_k (F := b) (i := 31) (v := ((b 31) % 128)) (t0 := 23) (by omega)) rfl rfl) <|
    ok_nil
  clear h; intro β a w h
  refine sym_then ?_
  refine sym_seq ?_
  refine St.rg h [(16, .inl (.agg (ck (updN b 31 ((b 31) % 128))))), (17, .inl (el (dig y))), (5, .inr (2, pt 0))] [(ce 0, 29)] [(2, ce y)] [eR 0, nn, eN 2, eS 2] ?_ ?_
  · exact oc (k_ld 0 0 (.agg (ck (updN b 31 ((b 31) % 128)))) (c := ck (updN b 31 ((b 31) % 128))) (ldK (b := (updN b 31 ((b 31) % 128))) 23) rfl rfl) <|
    oc (k_ca 25 #[.agg (ck (updN b 31 ((b 31) % 128)))] (el (dig y)) cO rfl rfl) <|
    oc (k_al 2 alE rfl rfl) <|
    oc (k_st 2 0 (el (dig y)) (c := ce 0) (n := ce y) (stE (n := y) (c := ce 0) 29 (ce_size _)) rfl rfl) <|
    ok_nil
  clear h; intro β a w h
  refine sym_then ?_
  refine sym_seq ?_
  refine sym_seq ?_
  refine St.r0 h [(18, .inl (el (dig y))), (19, .inl (.agg (ck (byt (dig y))))), (20, .inl (.agg (ck (updN b 31 ((b 31) % 128))))), (21, .inl (.bool false))] [eR 2, nn, eR 0] ?_ ?_
  · exact oc (k_ld 2 0 (el (dig y)) (c := ce y) (ldE (n := y) 29) rfl rfl) <|
    oc (k_ca 26 #[el (dig y)] (.agg (ck (byt (dig y)))) (fun w => key_d hy w) rfl rfl) <|
    oc (k_ld 0 0 (.agg (ck (updN b 31 ((b 31) % 128)))) (c := ck (updN b 31 ((b 31) % 128))) (ldK (b := (updN b 31 ((b 31) % 128))) 23) rfl rfl) <|
    oz (k_bi (.agg (ck (byt (dig y)))) (.agg (ck (updN b 31 ((b 31) % 128)))) (.bool false) (neK_f (F := (byt (dig y))) (G := (updN b 31 ((b 31) % 128))) hkey) rfl rfl) <|
    ok_nil
  clear h; intro β a w h
  refine sym_then ?_
  refine s_cf h ?_
  refine wp_skip ?_
  refine sym_then ?_
  refine sym_seq ?_
  refine St.rg h [(24, .inl (el (dig y))), (25, .inl (.tuple #[el (dig r), .bool true])), (23, .inl (.tuple #[el (dig r), .bool true])), (26, .inl (el (dig r))), (27, .inl (.bool true)), (6, .inr (3, pt 0)), (7, .inl (.bool true))] [(ce 0, 29)] [(3, ce r)] [eR 2, nn, nn, nn, nn, eN 3, eS 3] ?_ ?_
  · exact oc (k_ld 2 0 (el (dig y)) (c := ce y) (ldE (n := y) 29) rfl rfl) <|
    oc (k_ca 27 #[el (dig y)] (.tuple #[el (dig r), .bool true]) cE rfl rfl) <|
    oc (k_mv (.inl rfl) rfl) <|
    oc (k_ex (.tuple #[el (dig r), .bool true]) (el (dig r)) rfl rfl) <|
    oc (k_ex (.tuple #[el (dig r), .bool true]) (.bool true) rfl rfl) <|
    oc (k_al 3 alE rfl rfl) <|
    oc (k_st 3 0 (el (dig r)) (c := ce 0) (n := ce r) (stE (n := r) (c := ce 0) 29 (ce_size _)) rfl rfl) <|
    oz (k_mv (.inr rfl) rfl) <|
    ok_nil
  clear h; intro β a w h
  refine sym_then ?_
  refine sym_seq ?_
  refine sym_seq ?_
  refine St.r0 h [(28, .inl (.bool true)), (29, .inl (.bool false)), (30, .inl (.bool false)), (31, .inl (.bool true)), (32, .inl (.bool true)), (33, .inl (el (dig r))), (34, .inl (el (dig 0))), (35, .inl (.bool true)), (36, .inl (.bool true)), (37, .inl (.bool true))] [nn, nn, nn, nn, nn, eR 3] ?_ ?_
  · exact oc (k_mv (.inl rfl) rfl) <|
    oc (k_nt true rfl rfl) <|
    oc (k_mv (.inl rfl) rfl) <|
    oc (k_mv (.inl rfl) rfl) <|
    oc (k_mv (.inl rfl) rfl) <|
    oc (k_ld 3 0 (el (dig r)) (c := ce r) (ldE (n := r) 29) rfl rfl) <|
    oz (k_bu #[] (el (dig 0)) bdE rfl rfl) <|
    oz (k_ca 28 #[el (dig r), el (dig 0)] (.bool true) (fun w => is_t hr (by decide +kernel) hz w) rfl rfl) <|
    oz (k_pt rfl rfl) <|
    oz (k_pf rfl rfl) <|
    ok_nil
  clear h; intro β a w h
  refine sym_then ?_
  refine s_ct h ?_
  refine sym_seq ?_
  refine St.rg h [(38, .inl (.agg (ces [0, 0])))] [] [(1, ces [0, 0])] [nn, eS 1] ?_ ?_
  · exact oc (k_bu #[] (.agg (ces [0, 0])) bdP0 rfl rfl) <|
    oc (k_st 1 0 (.agg (ces [0, 0])) (c := ces [0, 0]) (n := ces [0, 0]) (stP (a := 0) (b := 0) (c := ces [0, 0]) 31 (by rw [ces_size]; rfl)) rfl rfl) <|
    oz (k_mv (.inr rfl) rfl) <|
    ok_nil
  clear h; intro β a w h
  refine sym_then ?_
  refine wp_ret ?_
  refine then_ret ?_
  exact s_r2 (b := 1) (t0 := 31) (c := ces [0, 0]) h Try.results9 Try.underlying31 (fun hb => ⟨rfl, hb⟩) (by rw [ces_size]; kernel_rfl)

set_option maxHeartbeats 4000000 in
theorem of_o {b : Nat → Nat} (hb : ∀ i, b i < 256) {y r : Nat} (hy : y < pp) (cO : ∀ w, Calls Try.prog 25 #[.agg (ck (updN b 31 (b 31 % 128)))] w fun e w' => e = .returned (el (dig y)) ∧ Below w.heap.size w w') (hkey : ∀ i, i < 32 → byt (dig y) i = (updN b 31 (b 31 % 128)) i) (cE : ∀ w, Calls Try.prog 27 #[el (dig y)] w fun e w' => e = .returned (.tuple #[el (dig r), .bool true]) ∧ Below w.heap.size w w') (hr : r < pp) (hz : r ≠ 0) (hod : 128 ≤ b 31) (W0 : World) : Calls Try.prog 9 #[.agg (ck b)] W0 fun e w' => e = .returned (.tuple #[.agg (ces [sb 0 r, sb y 1]), .bool true]) ∧ Below W0.heap.size W0 w' := by
  have g1 := hb 31
  refine s_in Try.func9 Try.ntmps9 rfl [.inl (.agg (ck b))] ?_
  intro β a h
  refine sym_seq ?_
  refine St.rg h [(1, .inr (0, pt 0)), (2, .inr (1, pt 0)), (3, .inl (.bool false))] [(ck b, 23), (ces [0, 0], 31)] [] [eN 0, eN 1] ?_ ?_
  · exact oc (k_bx 0 (.agg (ck b)) (bxK (b := b)) rfl rfl) <|
    oc (k_al 1 alP rfl rfl) <|
    oz (k_mv (.inr rfl) rfl) <|
    ok_nil
  clear h; intro β a w h
  refine sym_then ?_
  refine sym_seq ?_
  refine St.r0 h [(8, .inr (0, pt 31)), (9, .inl (.int .u8 (((b 31) : Nat) : Int))), (10, .inl (.int .u8 ((((b 31) / 128 * 128) : Nat) : Int))), (11, .inl (.bool true)), (4, .inl (.bool true))] [nn, eR 0] ?_ ?_
  · exact oc (k_ia 0 0 31 (.int .i64 ((31 : Nat) : Int)) (ixK (i := 31) (by omega)) rfl rfl) <|
    oc (k_ld 0 31 (.int .u8 (((b 31) : Nat) : Int)) (c := ck b) (ld_k (F := b) (i := 31) (t0 := 23) (by omega)) rfl rfl) <|
    oz (k_bi (.int .u8 (((b 31) : Nat) : Int)) (.int .u8 ((128 : Nat) : Int)) (.int .u8 ((((b 31) / 128 * 128) : Nat) : Int)) (and_b (m := (b 31)) (by omega)) rfl rfl) <|
    oz (k_bi (.int .u8 ((((b 31) / 128 * 128) : Nat) : Int)) (.int .u8 ((0 : Nat) : Int)) (.bool true) (ne_b (m := ((b 31) / 128 * 128)) (n := 0) (decide_eq_true (by omega))) rfl rfl) <|
    oz (k_mv (.inr rfl) rfl) <|
    ok_nil
  clear h; intro β a w h
  refine sym_then ?_
  refine sym_seq ?_
  refine St.rg h [(12, .inr (0, pt 31)), (13, .inl (.int .u8 (((b 31) : Nat) : Int))), (14, .inl (.int .u8 ((((b 31) % 128) : Nat) : Int))), (15, .inr (0, pt 31))] [] [(0, ck (updN b 31 ((b 31) % 128)))] [nn, eR 0, nn, nn, eS 0] ?_ ?_
  · exact oc (k_ia 0 0 31 (.int .i64 ((31 : Nat) : Int)) (ixK (i := 31) (by omega)) rfl rfl) <|
    oc (k_ld 0 31 (.int .u8 (((b 31) : Nat) : Int)) (c := ck b) (ld_k (F := b) (i := 31) (t0 := 23) (by omega)) rfl rfl) <|
    oc (k_bi (.int .u8 (((b 31) : Nat) : Int)) (.int .u8 ((128 : Nat) : Int)) (.int .u8 ((((b 31) % 128) : Nat) : Int)) (an_b (m := (b 31)) (by omega)) rfl rfl) <|
    oc (k_ia 0 0 31 (.int .i64 ((31 : Nat) : Int)) (ixK (i := 31) (by omega)) rfl rfl) <|
    oc (k_st 0 31 (.int .u8 ((((b 31) % 128) : Nat) : Int)) (c := ck b) (n := ck (updN b 31 ((b 31) % 128))) (st_k (F := b) (i := 31) (v := ((b 31) % 128)) (t0 := 23) (by omega)) rfl rfl) <|
    ok_nil
  clear h; intro β a w h
  refine sym_then ?_
  refine sym_seq ?_
  refine St.rg h [(16, .inl (.agg (ck (updN b 31 ((b 31) % 128))))), (17, .inl (el (dig y))), (5, .inr (2, pt 0))] [(ce 0, 29)] [(2, ce y)] [eR 0, nn, eN 2, eS 2] ?_ ?_
  · exact oc (k_ld 0 0 (.agg (ck (updN b 31 ((b 31) % 128)))) (c := ck (updN b 31 ((b 31) % 128))) (ldK (b := (updN b 31 ((b 31) % 128))) 23) rfl rfl) <|
    oc (k_ca 25 #[.agg (ck (updN b 31 ((b 31) % 128)))] (el (dig y)) cO rfl rfl) <|
    oc (k_al 2 alE rfl rfl) <|
    oc (k_st 2 0 (el (dig y)) (c := ce 0) (n := ce y) (stE (n := y) (c := ce 0) 29 (ce_size _)) rfl rfl) <|
    ok_nil
  clear h; intro β a w h
  refine sym_then ?_
  refine sym_seq ?_
  refine sym_seq ?_
  refine St.r0 h [(18, .inl (el (dig y))), (19, .inl (.agg (ck (byt (dig y))))), (20, .inl (.agg (ck (updN b 31 ((b 31) % 128))))), (21, .inl (.bool false))] [eR 2, nn, eR 0] ?_ ?_
  · exact oc (k_ld 2 0 (el (dig y)) (c := ce y) (ldE (n := y) 29) rfl rfl) <|
    oc (k_ca 26 #[el (dig y)] (.agg (ck (byt (dig y)))) (fun w => key_d hy w) rfl rfl) <|
    oc (k_ld 0 0 (.agg (ck (updN b 31 ((b 31) % 128)))) (c := ck (updN b 31 ((b 31) % 128))) (ldK (b := (updN b 31 ((b 31) % 128))) 23) rfl rfl) <|
    oz (k_bi (.agg (ck (byt (dig y)))) (.agg (ck (updN b 31 ((b 31) % 128)))) (.bool false) (neK_f (F := (byt (dig y))) (G := (updN b 31 ((b 31) % 128))) hkey) rfl rfl) <|
    ok_nil
  clear h; intro β a w h
  refine sym_then ?_
  refine s_cf h ?_
  refine wp_skip ?_
  refine sym_then ?_
  refine sym_seq ?_
  refine St.rg h [(24, .inl (el (dig y))), (25, .inl (.tuple #[el (dig r), .bool true])), (23, .inl (.tuple #[el (dig r), .bool true])), (26, .inl (el (dig r))), (27, .inl (.bool true)), (6, .inr (3, pt 0)), (7, .inl (.bool true))] [(ce 0, 29)] [(3, ce r)] [eR 2, nn, nn, nn, nn, eN 3, eS 3] ?_ ?_
  · exact oc (k_ld 2 0 (el (dig y)) (c := ce y) (ldE (n := y) 29) rfl rfl) <|
    oc (k_ca 27 #[el (dig y)] (.tuple #[el (dig r), .bool true]) cE rfl rfl) <|
    oc (k_mv (.inl rfl) rfl) <|
    oc (k_ex (.tuple #[el (dig r), .bool true]) (el (dig r)) rfl rfl) <|
    oc (k_ex (.tuple #[el (dig r), .bool true]) (.bool true) rfl rfl) <|
    oc (k_al 3 alE rfl rfl) <|
    oc (k_st 3 0 (el (dig r)) (c := ce 0) (n := ce r) (stE (n := r) (c := ce 0) 29 (ce_size _)) rfl rfl) <|
    oz (k_mv (.inr rfl) rfl) <|
    ok_nil
  clear h; intro β a w h
  refine sym_then ?_
  refine sym_seq ?_
  refine sym_seq ?_
  refine St.r0 h [(28, .inl (.bool true)), (29, .inl (.bool false)), (30, .inl (.bool false)), (31, .inl (.bool true)), (32, .inl (.bool true)), (33, .inl (el (dig r))), (34, .inl (el (dig 0))), (35, .inl (.bool false)), (36, .inl (.bool false)), (37, .inl (.bool false))] [nn, nn, nn, nn, nn, eR 3] ?_ ?_
  · exact oc (k_mv (.inl rfl) rfl) <|
    oc (k_nt true rfl rfl) <|
    oc (k_mv (.inl rfl) rfl) <|
    oc (k_mv (.inl rfl) rfl) <|
    oc (k_mv (.inl rfl) rfl) <|
    oc (k_ld 3 0 (el (dig r)) (c := ce r) (ldE (n := r) 29) rfl rfl) <|
    oz (k_bu #[] (el (dig 0)) bdE rfl rfl) <|
    oz (k_ca 28 #[el (dig r), el (dig 0)] (.bool false) (fun w => is_f hr (by decide +kernel) hz w) rfl rfl) <|
    oz (k_pt rfl rfl) <|
    oz (k_pf rfl rfl) <|
    ok_nil
  clear h; intro β a w h
  refine sym_then ?_
  refine s_cf h ?_
  refine wp_skip ?_
  refine sym_then ?_
  refine sym_seq ?_
  refine sym_seq ?_
  refine St.r0 h [(39, .inl (.bool true))] [] ?_ ?_
  · exact oz (k_mv (.inl rfl) rfl) <|
    ok_nil
  clear h; intro β a w h
  refine sym_then ?_
  refine s_ct h ?_
  refine St.rg h [(40, .inl (el (dig 0))), (41, .inl (el (dig r))), (42, .inl (el (dig (sb 0 r))))] [] [(3, ce (sb 0 r))] [nn, eR 3, nn, eS 3] ?_ ?_
  · exact oc (k_bu #[] (el (dig 0)) bdE rfl rfl) <|
    oc (k_ld 3 0 (el (dig r)) (c := ce r) (ldE (n := r) 29) rfl rfl) <|
    oc (k_ca 29 #[el (dig 0), el (dig r)] (el (dig (sb 0 r))) (fun w => minus_m (by decide +kernel) hr w) rfl rfl) <|
    oc (k_st 3 0 (el (dig (sb 0 r))) (c := ce r) (n := ce (sb 0 r)) (stE (n := (sb 0 r)) (c := ce r) 29 (ce_size _)) rfl rfl) <|
    ok_nil
  clear h; intro β a w h
  refine sym_then ?_
  refine sym_seq ?_
  refine St.rg h [(43, .inl (el (dig (sb 0 r)))), (44, .inl (el (dig y))), (45, .inl (.agg (ces [(sb 0 r), (sb y 1)]))), (3, .inl (.bool true))] [] [(1, ces [(sb 0 r), (sb y 1)])] [eR 3, eR 2, nn, eS 1] ?_ ?_
  · exact oc (k_ld 3 0 (el (dig (sb 0 r))) (c := ce (sb 0 r)) (ldE (n := (sb 0 r)) 29) rfl rfl) <|
    oc (k_ld 2 0 (el (dig y)) (c := ce y) (ldE (n := y) 29) rfl rfl) <|
    oc (k_ca 30 #[el (dig (sb 0 r)), el (dig y)] (.agg (ces [(sb 0 r), (sb y 1)])) (fun w => at_r hy w) rfl rfl) <|
    oc (k_st 1 0 (.agg (ces [(sb 0 r), (sb y 1)])) (c := ces [0, 0]) (n := ces [(sb 0 r), (sb y 1)]) (stP (a := (sb 0 r)) (b := (sb y 1)) (c := ces [0, 0]) 31 (by rw [ces_size]; rfl)) rfl rfl) <|
    oz (k_mv (.inr rfl) rfl) <|
    ok_nil
  clear h; intro β a w h
  refine sym_then ?_
  refine wp_ret ?_
  exact s_r2 (b := 1) (t0 := 31) (c := ces [(sb 0 r), (sb y 1)]) h Try.results9 Try.underlying31 (fun hb => ⟨rfl, hb⟩) (by rw [ces_size]; kernel_rfl)

set_option maxHeartbeats 4000000 in
theorem of_e {b : Nat → Nat} (hb : ∀ i, b i < 256) {y r : Nat} (hy : y < pp) (cO : ∀ w, Calls Try.prog 25 #[.agg (ck (updN b 31 (b 31 % 128)))] w fun e w' => e = .returned (el (dig y)) ∧ Below w.heap.size w w') (hkey : ∀ i, i < 32 → byt (dig y) i = (updN b 31 (b 31 % 128)) i) (cE : ∀ w, Calls Try.prog 27 #[el (dig y)] w fun e w' => e = .returned (.tuple #[el (dig r), .bool true]) ∧ Below w.heap.size w w') (hod : b 31 < 128) (W0 : World) : Calls Try.prog 9 #[.agg (ck b)] W0 fun e w' => e = .returned (.tuple #[.agg (ces [r, sb y 1]), .bool true]) ∧ Below W0.heap.size W0 w' := by
  have g1 := hb 31
  refine s_in Try.func9 Try.ntmps9 rfl [.inl (.agg (ck b))] ?_
  intro β a h
  refine sym_seq ?_
  refine St.rg h [(1, .inr (0, pt 0)), (2, .inr (1, pt 0)), (3, .inl (.bool false))] [(ck b, 23), (ces [0, 0], 31)] [] [eN 0, eN 1] ?_ ?_
  · exact oc (k_bx 0 (.agg (ck b)) (bxK (b := b)) rfl rfl) <|
    oc (k_al 1 alP rfl rfl) <|
    oz (k_mv (.inr rfl) rfl) <|
    ok_nil
  clear h; intro β a w h
  refine sym_then ?_
  refine sym_seq ?_
  refine St.r0 h [(8, .inr (0, pt 31)), (9, .inl (.int .u8 (((b 31) : Nat) : Int))), (10, .inl (.int .u8 ((((b 31) / 128 * 128) : Nat) : Int))), (11, .inl (.bool false)), (4, .inl (.bool false))] [nn, eR 0] ?_ ?_
  · exact oc (k_ia 0 0 31 (.int .i64 ((31 : Nat) : Int)) (ixK (i := 31) (by omega)) rfl rfl) <|
    oc (k_ld 0 31 (.int .u8 (((b 31) : Nat) : Int)) (c := ck b) (ld_k (F := b) (i := 31) (t0 := 23) (by omega)) rfl rfl) <|
    oz (k_bi (.int .u8 (((b 31) : Nat) : Int)) (.int .u8 ((128 : Nat) : Int)) (.int .u8 ((((b 31) / 128 * 128) : Nat) : Int)) (and_b (m := (b 31)) (by omega)) rfl rfl) <|
    oz (k_bi (.int .u8 ((((b 31) / 128 * 128) : Nat) : Int)) (.int .u8 ((0 : Nat) : Int)) (.bool false) (ne_b (m := ((b 31) / 128 * 128)) (n := 0) (decide_eq_false (by omega))) rfl rfl) <|
    oz (k_mv (.inr rfl) rfl) <|
    ok_nil
  clear h; intro β a w h
  refine sym_then ?_
  refine sym_seq ?_
  refine St.rg h [(12, .inr (0, pt 31)), (13, .inl (.int .u8 (((b 31) : Nat) : Int))), (14, .inl (.int .u8 ((((b 31) % 128) : Nat) : Int))), (15, .inr (0, pt 31))] [] [(0, ck (updN b 31 ((b 31) % 128)))] [nn, eR 0, nn, nn, eS 0] ?_ ?_
  · exact oc (k_ia 0 0 31 (.int .i64 ((31 : Nat) : Int)) (ixK (i := 31) (by omega)) rfl rfl) <|
    oc (k_ld 0 31 (.int .u8 (((b 31) : Nat) : Int)) (c := ck b) (ld_k (F := b) (i := 31) (t0 := 23) (by omega)) rfl rfl) <|
    oc (k_bi (.int .u8 (((b 31) : Nat) : Int)) (.int .u8 ((128 : Nat) : Int)) (.int .u8 ((((b 31) % 128) : Nat) : Int)) (an_b (m := (b 31)) (by omega)) rfl rfl) <|
    oc (k_ia 0 0 31 (.int .i64 ((31 : Nat) : Int)) (ixK (i := 31) (by omega)) rfl rfl) <|
    oc (k_st 0 31 (.int .u8 ((((b 31) % 128) : Nat) : Int)) (c := ck b) (n := ck (updN b 31 ((b 31) % 128))) (st_k (F := b) (i := 31) (v := ((b 31) % 128)) (t0 := 23) (by omega)) rfl rfl) <|
    ok_nil
  clear h; intro β a w h
  refine sym_then ?_
  refine sym_seq ?_
  refine St.rg h [(16, .inl (.agg (ck (updN b 31 ((b 31) % 128))))), (17, .inl (el (dig y))), (5, .inr (2, pt 0))] [(ce 0, 29)] [(2, ce y)] [eR 0, nn, eN 2, eS 2] ?_ ?_
  · exact oc (k_ld 0 0 (.agg (ck (updN b 31 ((b 31) % 128)))) (c := ck (updN b 31 ((b 31) % 128))) (ldK (b := (updN b 31 ((b 31) % 128))) 23) rfl rfl) <|
    oc (k_ca 25 #[.agg (ck (updN b 31 ((b 31) % 128)))] (el (dig y)) cO rfl rfl) <|
    oc (k_al 2 alE rfl rfl) <|
    oc (k_st 2 0 (el (dig y)) (c := ce 0) (n := ce y) (stE (n := y) (c := ce 0) 29 (ce_size _)) rfl rfl) <|
    ok_nil
  clear h; intro β a w h
  refine sym_then ?_
  refine sym_seq ?_
  refine sym_seq ?_
  refine St.r0 h [(18, .inl (el (dig y))), (19, .inl (.agg (ck (byt (dig y))))), (20, .inl (.agg (ck (updN b 31 ((b 31) % 128))))), (21, .inl (.bool false))] [eR 2, nn, eR 0] ?_ ?_
  · exact oc (k_ld 2 0 (el (dig y)) (c := ce y) (ldE (n := y) 29) rfl rfl) <|
    oc (k_ca 26 #[el (dig y)] (.agg (ck (byt (dig y)))) (fun w => key_d hy w) rfl rfl) <|
    oc (k_ld 0 0 (.agg (ck (updN b 31 ((b 31) % 128)))) (c := ck (updN b 31 ((b 31) % 128))) (ldK (b := (updN b 31 ((b 31) % 128))) 23) rfl rfl) <|
    oz (k_bi (.agg (ck (byt (dig y)))) (.agg (ck (updN b 31 ((b 31) % 128)))) (.bool false) (neK_f (F := (byt (dig y))) (G := (updN b 31 ((b 31) % 128))) hkey) rfl rfl) <|
    ok_nil
  clear h; intro β a w h
  refine sym_then ?_
  refine s_cf h ?_
  refine wp_skip ?_
  refine sym_then ?_
  refine sym_seq ?_
  refine St.rg h [(24, .inl (el (dig y))), (25, .inl (.tuple #[el (dig r), .bool true])), (23, .inl (.tuple #[el (dig r), .bool true])), (26, .inl (el (dig r))), (27, .inl (.bool true)), (6, .inr (3, pt 0)), (7, .inl (.bool true))] [(ce 0, 29)] [(3, ce r)] [eR 2, nn, nn, nn, nn, eN 3, eS 3] ?_ ?_
  · exact oc (k_ld 2 0 (el (dig y)) (c := ce y) (ldE (n := y) 29) rfl rfl) <|
    oc (k_ca 27 #[el (dig y)] (.tuple #[el (dig r), .bool true]) cE rfl rfl) <|
    oc (k_mv (.inl rfl) rfl) <|
    oc (k_ex (.tuple #[el (dig r), .bool true]) (el (dig r)) rfl rfl) <|
    oc (k_ex (.tuple #[el (dig r), .bool true]) (.bool true) rfl rfl) <|
    oc (k_al 3 alE rfl rfl) <|
    oc (k_st 3 0 (el (dig r)) (c := ce 0) (n := ce r) (stE (n := r) (c := ce 0) 29 (ce_size _)) rfl rfl) <|
    oz (k_mv (.inr rfl) rfl) <|
    ok_nil
  clear h; intro β a w h
  refine sym_then ?_
  refine sym_seq ?_
  refine sym_seq ?_
  refine St.r0 h [(28, .inl (.bool true)), (29, .inl (.bool false)), (30, .inl (.bool false)), (31, .inl (.bool false)), (32, .inl (.bool false)), (36, .inl (.bool false)), (37, .inl (.bool false))] [] ?_ ?_
  · exact oz (k_mv (.inl rfl) rfl) <|
    oz (k_nt true rfl rfl) <|
    oz (k_mv (.inl rfl) rfl) <|
    oz (k_mv (.inl rfl) rfl) <|
    oz (k_mv (.inl rfl) rfl) <|
    oz (k_sk rfl) <|
    oz (k_sk rfl) <|
    oz (k_sk rfl) <|
    oz (k_pf rfl rfl) <|
    oz (k_pf rfl rfl) <|
    ok_nil
  clear h; intro β a w h
  refine sym_then ?_
  refine s_cf h ?_
  refine wp_skip ?_
  refine sym_then ?_
  refine sym_seq ?_
  refine sym_seq ?_
  refine St.r0 h [(39, .inl (.bool false))] [] ?_ ?_
  · exact oz (k_mv (.inl rfl) rfl) <|
    ok_nil
  clear h; intro β a w h
  refine sym_then ?_
  refine s_cf h ?_
  refine wp_skip ?_
  refine sym_then ?_
  refine sym_seq ?_
  refine St.rg h [(43, .inl (el (dig r))), (44, .inl (el (dig y))), (45, .inl (.agg (ces [r, (sb y 1)]))), (3, .inl (.bool true))] [] [(1, ces [r, (sb y 1)])] [eR 3, eR 2, nn, eS 1] ?_ ?_
  · exact oc (k_ld 3 0 (el (dig r)) (c := ce r) (ldE (n := r) 29) rfl rfl) <|
    oc (k_ld 2 0 (el (dig y)) (c := ce y) (ldE (n := y) 29) rfl rfl) <|
    oc (k_ca 30 #[el (dig r), el (dig y)] (.agg (ces [r, (sb y 1)])) (fun w => at_r hy w) rfl rfl) <|
    oc (k_st 1 0 (.agg (ces [r, (sb y 1)])) (c := ces [0, 0]) (n := ces [r, (sb y 1)]) (stP (a := r) (b := (sb y 1)) (c := ces [0, 0]) 31 (by rw [ces_size]; rfl)) rfl rfl) <|
    oz (k_mv (.inr rfl) rfl) <|
    ok_nil
  clear h; intro β a w h
  refine sym_then ?_
  refine wp_ret ?_
  exact s_r2 (b := 1) (t0 := 31) (c := ces [r, (sb y 1)]) h Try.results9 Try.underlying31 (fun hb => ⟨rfl, hb⟩) (by rw [ces_size]; kernel_rfl)

end Go.Proofs.Ytpogmflgmpifoaa

namespace Go.Proofs.Ytpogmflgmpifoaa
open Go.RowKit
def gB : Nat := 46316835694926478169428394003475163141307993866256225615783033603165251855959
theorem gB_lt : gB < pp := by decide +kernel
theorem gX_ev : gX % 2 = 0 := by decide +kernel
theorem gB_eq : sb (mu 4 (inv 5)) 1 = gB := by decide +kernel
theorem gen_g (W0 : World) : Calls Try.prog 15 #[] W0 fun e w' => e = .returned (.agg (ces [gX, gB])) ∧ Below W0.heap.size W0 w' := by
  have := gen_r W0
  rwa [gB_eq] at this
theorem gen_x : sx gX gB (sb 0 gX) gB = 0 := by decide +kernel
theorem gen_y : sb (sy gX gB (sb 0 gX) gB) 1 = 0 := by decide +kernel
theorem gen_m (W0 : World) : Calls Try.prog 18 #[.agg (ces [gX, gB]), .agg (ces [gX, gB])] W0 fun e w' => e = .returned (.agg (ces [0, 0])) ∧ Below W0.heap.size W0 w' := by
  have := minus_p gX_lt gB_lt gX_lt gB_lt W0
  rwa [gen_x, gen_y] at this
set_option maxHeartbeats 4000000 in
theorem alive_c (W0 : World) : Calls Try.prog 8 #[] W0 fun e w' => e = .returned (.bool true) ∧ Below W0.heap.size W0 w' := by
  refine s_in Try.func8 Try.ntmps8 rfl [] ?_
  intro β a h
  refine sym_seq ?_
  refine St.r0 h [(0, .inl (.bool false))] [] ?_ ?_
  · exact oz (k_mv (.inr rfl) rfl) <|
    ok_nil
  clear h; intro β a w h
  refine sym_then ?_
  refine sym_seq ?_
  refine St.rg h [(2, .inl (.agg (ces [gX, gB]))), (3, .inl (.agg (ck (byt (dig (ad gB 1)))))), (1, .inr (0, pt 0))] [(ck (fun _ => 0), 23)] [(0, ck (byt (dig (ad gB 1))))] [nn, nn, eN 0, eS 0] ?_ ?_
  · exact oc (k_ca 15 #[] (.agg (ces [gX, gB])) gen_g rfl rfl) <|
    oc (k_ca 12 #[.agg (ces [gX, gB])] (.agg (ck (byt (dig (ad gB 1))))) (fun w => pkey_e gX_lt gB_lt gX_ev w) rfl rfl) <|
    oc (k_al 0 alK rfl rfl) <|
    oc (k_st 0 0 (.agg (ck (byt (dig (ad gB 1))))) (c := ck (fun _ => 0)) (n := ck (byt (dig (ad gB 1)))) (stK (F := (byt (dig (ad gB 1)))) (c := ck (fun _ => 0)) 23 (ck_size _)) rfl rfl) <|
    ok_nil
  clear h; intro β a w h
  refine sym_then ?_
  refine sym_seq ?_
  refine St.r0 h [(4, .inr (0, pt 0)), (5, .inl (.int .u8 ((((byt (dig (ad gB 1))) 0) : Nat) : Int))), (6, .inl (.bool true)), (7, .inl (.bool true)), (8, .inr (0, pt 1)), (9, .inl (.int .u8 ((((byt (dig (ad gB 1))) 1) : Nat) : Int))), (10, .inl (.bool true)), (11, .inl (.bool true)), (12, .inl (.bool true)), (13, .inr (0, pt 31)), (14, .inl (.int .u8 ((((byt (dig (ad gB 1))) 31) : Nat) : Int))), (15, .inl (.bool true)), (16, .inl (.bool true)), (17, .inl (.bool true)), (18, .inl (.agg (ces [gX, gB]))), (19, .inl (.agg (ces [gX, gB]))), (20, .inl (.agg (ces [0, 0]))), (21, .inl (.agg (ces [0, 0]))), (22, .inl (.bool true)), (23, .inl (.bool true)), (0, .inl (.bool true))] [nn, eR 0, nn, nn, nn, eR 0, nn, nn, nn, nn, eR 0] ?_ ?_
  · exact oc (k_ia 0 0 0 (.int .i64 ((0 : Nat) : Int)) (ixK (i := 0) (by omega)) rfl rfl) <|
    oc (k_ld 0 0 (.int .u8 ((((byt (dig (ad gB 1))) 0) : Nat) : Int)) (c := ck (byt (dig (ad gB 1)))) (ld_k (F := (byt (dig (ad gB 1)))) (i := 0) (t0 := 23) (by omega)) rfl rfl) <|
    oc (k_bi (.int .u8 ((((byt (dig (ad gB 1))) 0) : Nat) : Int)) (.int .u8 ((88 : Nat) : Int)) (.bool true) (eq_b (m := ((byt (dig (ad gB 1))) 0)) (n := 88) (by decide +kernel)) rfl rfl) <|
    oc (k_mv (.inl rfl) rfl) <|
    oc (k_ia 0 0 1 (.int .i64 ((1 : Nat) : Int)) (ixK (i := 1) (by omega)) rfl rfl) <|
    oc (k_ld 0 1 (.int .u8 ((((byt (dig (ad gB 1))) 1) : Nat) : Int)) (c := ck (byt (dig (ad gB 1)))) (ld_k (F := (byt (dig (ad gB 1)))) (i := 1) (t0 := 23) (by omega)) rfl rfl) <|
    oc (k_bi (.int .u8 ((((byt (dig (ad gB 1))) 1) : Nat) : Int)) (.int .u8 ((102 : Nat) : Int)) (.bool true) (eq_b (m := ((byt (dig (ad gB 1))) 1)) (n := 102) (by decide +kernel)) rfl rfl) <|
    oc (k_pt rfl rfl) <|
    oc (k_mv (.inl rfl) rfl) <|
    oc (k_ia 0 0 31 (.int .i64 ((31 : Nat) : Int)) (ixK (i := 31) (by omega)) rfl rfl) <|
    oc (k_ld 0 31 (.int .u8 ((((byt (dig (ad gB 1))) 31) : Nat) : Int)) (c := ck (byt (dig (ad gB 1)))) (ld_k (F := (byt (dig (ad gB 1)))) (i := 31) (t0 := 23) (by omega)) rfl rfl) <|
    oz (k_bi (.int .u8 ((((byt (dig (ad gB 1))) 31) : Nat) : Int)) (.int .u8 ((102 : Nat) : Int)) (.bool true) (eq_b (m := ((byt (dig (ad gB 1))) 31)) (n := 102) (by decide +kernel)) rfl rfl) <|
    oz (k_pt rfl rfl) <|
    oz (k_mv (.inl rfl) rfl) <|
    oz (k_ca 15 #[] (.agg (ces [gX, gB])) gen_g rfl rfl) <|
    oz (k_ca 15 #[] (.agg (ces [gX, gB])) gen_g rfl rfl) <|
    oz (k_ca 18 #[.agg (ces [gX, gB]), .agg (ces [gX, gB])] (.agg (ces [0, 0])) gen_m rfl rfl) <|
    oz (k_bu #[] (.agg (ces [0, 0])) bdP0 rfl rfl) <|
    oz (k_ca 16 #[.agg (ces [0, 0]), .agg (ces [0, 0])] (.bool true) (fun w => is_ptt zero_ltp zero_ltp rfl zero_ltp zero_ltp rfl w) rfl rfl) <|
    oz (k_pt rfl rfl) <|
    oz (k_mv (.inr rfl) rfl) <|
    ok_nil
  clear h; intro β a w h
  refine sym_then ?_
  refine wp_ret ?_
  exact s_rt h Try.results8 (fun hb => ⟨rfl, hb⟩)
end Go.Proofs.Ytpogmflgmpifoaa

namespace Go.Proofs.Ytpogmflgmpifoaa
open Go.RowKit

/-- Figure number i of a number. -/
def dg (n i : Nat) : Nat := n / 4096 ^ i % 4096
theorem dg_lt (n i : Nat) : dg n i < 4096 := Nat.mod_lt _ (by omega)
def prF (k j : Nat) : Nat := if j < k then 4095 else 0
theorem prF_next (k : Nat) : ai 22 (updN (prF k) k 4095) = ai 22 (prF (k + 1)) := ai_congr fun i _ => by
  unfold updN prF
  by_cases h : i = k
  · subst h; simp
  · have : (i < k + 1) = (i < k) := by simp; omega
    simp [h, this]
theorem prF_end : ai 22 (updN (updN (prF 21) 0 4077) 21 7) = ai 22 (dg pp) := ai_congr (by decide +kernel)

set_option maxHeartbeats 1000000 in
theorem prime_r (W0 : World) : Calls Try.prog 66 #[] W0 fun e w' => e = .returned (.agg (ai 22 (dg pp))) ∧ Below W0.heap.size W0 w' := by
  rw [← prF_end]
  refine s_in Try.func66 Try.ntmps66 rfl [] ?_
  intro β a h
  refine sym_seq ?_
  refine St.rg h [(0, .inr (0, pt 0))] [(ai 22 (fun _ => 0), 35)] [] [eN 0] ?_ ?_
  · exact oc (k_al 0 al22 rfl rfl) <|
    ok_nil
  clear h; intro β a w h
  refine sym_then ?_
  refine sym_seq ?_
  refine St.rg h [(1, .inr (1, pt 0))] [(ai 22 (fun _ => 0), 35)] [] [eN 1] ?_ ?_
  · exact oc (k_al 1 al22 rfl rfl) <|
    ok_nil
  clear h; intro β a w h
  refine sym_then ?_
  refine sym_seq ?_
  refine sym_seq ?_
  refine St.r0 h [(2, .inl (.int .i64 ((0 : Nat) : Int)))] [] ?_ ?_
  · exact oz (k_mv (.inr rfl) rfl) <|
    ok_nil
  clear h; intro β a w h
  refine sym_then ?_
  refine blk_in ?_
  replace h := St.sm h 1 (ai 22 (prF 0)) (c := ai 22 (fun _ => 0)) (t := 35) (ai_congr fun i _ => (by simp [prF]))
  replace h := St.cs h (s' := [.inr (0, pt 0), .inr (1, pt 0), .inl (.int .i64 ((0 : Nat) : Int)), uu, uu, uu, uu, uu, uu, uu, uu, uu]) (m' := [(ai 22 (fun _ => 0), 35), (ai 22 (prF 0), 35)]) (by kernel_rfl) (by kernel_rfl)
  refine loop_up 21 (fun k a w => ∃ (x3 x4 x5 x6 x7 x8 : SV) (β : Nat → Nat), St (wd W0) [.inr (0, pt 0), .inr (1, pt 0), .inl (.int .i64 ((k : Nat) : Int)), x3, x4, x5, x6, x7, x8, uu, uu, uu] [(ai 22 (fun _ => 0), 35), (ai 22 (prF k), 35)] β a w) ⟨_, _, _, _, _, _, β, h⟩ ?_
  clear h; rintro k a w hkk ⟨x3, x4, x5, x6, x7, x8, β, h⟩; replace h := h.o0
  rcases Nat.lt_or_ge k 21 with hltk | hgek
  · refine sym_seq ?_
    refine sym_seq ?_
    refine St.r0 h [(3, .inl (.int .i64 ((k : Nat) : Int))), (4, .inl (.bool true))] [] ?_ ?_
    · exact oz (k_mv (.inl rfl) rfl) <|
      oz (k_bi (.int .i64 ((k : Nat) : Int)) (.int .i64 ((21 : Nat) : Int)) (.bool true) (lt_i (m := ((k : Nat) : Int)) (n := ((21 : Nat) : Int)) (decide_eq_true (by omega))) rfl rfl) <|
      ok_nil
    clear h; intro β a w h
    refine sym_then ?_
    refine s_ct h ?_
    refine wp_skip ?_
    refine sym_then ?_
    refine sym_seq ?_
    refine blk_in ?_
    refine St.rg h [(7, .inl (.int .i64 ((k : Nat) : Int))), (8, .inr (1, pt k))] [] [(1, ai 22 (updN (prF k) k 4095))] [nn, nn, eS 1] ?_ ?_
    · exact oc (k_mv (.inl rfl) rfl) <|
      oc (k_ia 1 0 k (.int .i64 ((k : Nat) : Int)) (ix22 (i := k) (by omega)) rfl rfl) <|
      oc (k_st 1 k (.int .i64 ((4095 : Nat) : Int)) (c := ai 22 (prF k)) (n := ai 22 (updN (prF k) k 4095)) (st_at (n := 22) (F := (prF k)) (i := k) (v := 4095) (t0 := 35) (by omega)) rfl rfl) <|
      ok_nil
    clear h; intro β a w h
    refine blk_norm ?_
    refine sym_then ?_
    refine St.r0 h [(5, .inl (.int .i64 ((k : Nat) : Int))), (6, .inl (.int .i64 (((k + 1) : Nat) : Int))), (2, .inl (.int .i64 (((k + 1) : Nat) : Int)))] [eO] ?_ ?_
    · exact oc (k_m0 rfl rfl) <|
      oz (k_bi (.int .i64 ((k : Nat) : Int)) (.int .i64 ((1 : Nat) : Int)) (.int .i64 (((k + 1) : Nat) : Int)) (ad_i (m := k) (n := 1) (by omega)) rfl rfl) <|
      oz (k_mv (.inr rfl) rfl) <|
      ok_nil
    clear h; intro β a w h
    replace h := St.sm h 1 (ai 22 (prF (k + 1))) (c := ai 22 (updN (prF k) k 4095)) (t := 35) (prF_next k)
    replace h := St.cs h (s' := [.inr (0, pt 0), .inr (1, pt 0), .inl (.int .i64 (((k + 1) : Nat) : Int)), .inl (.int .i64 ((k : Nat) : Int)), .inl (.bool true), .inl (.int .i64 ((k : Nat) : Int)), .inl (.int .i64 (((k + 1) : Nat) : Int)), .inl (.int .i64 ((k : Nat) : Int)), .inr (1, pt k), uu, uu, uu]) (m' := [(ai 22 (fun _ => 0), 35), (ai 22 (prF (k + 1)), 35)]) (by kernel_rfl) (by kernel_rfl)
    exact ⟨hltk, _, _, _, _, _, _, _, h⟩
  · obtain rfl : k = 21 := by omega
    refine sym_seq ?_
    refine sym_seq ?_
    refine St.r0 h [(3, .inl (.int .i64 ((21 : Nat) : Int))), (4, .inl (.bool false))] [] ?_ ?_
    · exact oz (k_mv (.inl rfl) rfl) <|
      oz (k_bi (.int .i64 ((21 : Nat) : Int)) (.int .i64 ((21 : Nat) : Int)) (.bool false) (lt_i (m := ((21 : Nat) : Int)) (n := ((21 : Nat) : Int)) (decide_eq_false (by omega))) rfl rfl) <|
      ok_nil
    clear h; intro β a w h
    refine sym_then ?_
    refine s_cf h ?_
    refine wp_exit ?_
    refine then_exit ?_
    refine then_exit ?_
    refine blk_exit ?_
    refine sym_then ?_
    refine sym_seq ?_
    refine St.rg h [(9, .inr (1, pt 0))] [] [(1, ai 22 (updN (prF 21) 0 4077))] [nn, eS 1] ?_ ?_
    · exact oc (k_ia 1 0 0 (.int .i64 ((0 : Nat) : Int)) (ix22 (i := 0) (by omega)) rfl rfl) <|
      oc (k_st 1 0 (.int .i64 ((4077 : Nat) : Int)) (c := ai 22 (prF 21)) (n := ai 22 (updN (prF 21) 0 4077)) (st_at (n := 22) (F := (prF 21)) (i := 0) (v := 4077) (t0 := 35) (by omega)) rfl rfl) <|
      ok_nil
    clear h; intro β a w h
    refine sym_then ?_
    refine sym_seq ?_
    refine St.rg h [(10, .inr (1, pt 21))] [] [(1, ai 22 (updN (updN (prF 21) 0 4077) 21 7))] [nn, eS 1] ?_ ?_
    · exact oc (k_ia 1 0 21 (.int .i64 ((21 : Nat) : Int)) (ix22 (i := 21) (by omega)) rfl rfl) <|
      oc (k_st 1 21 (.int .i64 ((7 : Nat) : Int)) (c := ai 22 (updN (prF 21) 0 4077)) (n := ai 22 (updN (updN (prF 21) 0 4077) 21 7)) (st_at (n := 22) (F := (updN (prF 21) 0 4077)) (i := 21) (v := 7) (t0 := 35) (by omega)) rfl rfl) <|
      ok_nil
    clear h; intro β a w h
    refine sym_then ?_
    refine sym_seq ?_
    refine St.rg h [(11, .inl (.agg (ai 22 (updN (updN (prF 21) 0 4077) 21 7))))] [] [(0, ai 22 (updN (updN (prF 21) 0 4077) 21 7))] [eR 1, eS 0] ?_ ?_
    · exact oc (k_ld 1 0 (.agg (ai 22 (updN (updN (prF 21) 0 4077) 21 7))) (c := ai 22 (updN (updN (prF 21) 0 4077) 21 7)) (ld22 (F := (updN (updN (prF 21) 0 4077) 21 7)) 35) rfl rfl) <|
      oc (k_st 0 0 (.agg (ai 22 (updN (updN (prF 21) 0 4077) 21 7))) (c := ai 22 (fun _ => 0)) (n := ai 22 (updN (updN (prF 21) 0 4077) 21 7)) (st22 (F := (updN (updN (prF 21) 0 4077) 21 7)) (c := ai 22 (fun _ => 0)) 35 (ai_size _ _)) rfl rfl) <|
      ok_nil
    clear h; intro β a w h
    refine sym_then ?_
    refine wp_ret ?_
    exact s_rc (b := 0) (t0 := 35) (c := ai 22 (updN (updN (prF 21) 0 4077) 21 7)) h Try.results66 Try.underlying35 (fun hb => ⟨rfl, hb⟩) (by rw [ai_size]; kernel_rfl)
end Go.Proofs.Ytpogmflgmpifoaa

namespace Go.Proofs.Ytpogmflgmpifoaa

/-- The number of the first k figures. -/
def pv (F : Nat → Nat) : Nat → Nat
  | 0 => 0
  | k + 1 => pv F k + F k * 4096 ^ k

theorem p4 (k : Nat) : 0 < 4096 ^ k := Nat.pow_pos (by omega)
theorem div_step (n k : Nat) : n / 4096 ^ k = dg n k + 4096 * (n / 4096 ^ (k + 1)) := by
  unfold dg
  rw [Nat.pow_succ, ← Nat.div_div_eq_div_mul]
  omega
theorem mod_step (n k : Nat) : n % 4096 ^ (k + 1) = n % 4096 ^ k + dg n k * 4096 ^ k := by
  unfold dg
  rw [Nat.pow_succ, Nat.mod_mul, Nat.mul_comm]
theorem pv_dg (n : Nat) : ∀ k, pv (dg n) k = n % 4096 ^ k := by
  intro k
  induction k with
  | zero => simp [pv, Nat.mod_one]
  | succ k ih => rw [pv, ih, mod_step]
theorem pv_congr {F G : Nat → Nat} : ∀ k, (∀ i, i < k → F i = G i) → pv F k = pv G k := by
  intro k
  induction k with
  | zero => intro _; rfl
  | succ k ih => intro h; rw [pv, pv, ih (fun i hi => h i (by omega)), h k (by omega)]
theorem dg_big {n k : Nat} (h : n < 4096 ^ k) (i : Nat) (hi : k ≤ i) : dg n i = 0 := by
  unfold dg
  rw [Nat.div_eq_of_lt (Nat.lt_of_lt_of_le h (Nat.pow_le_pow_right (by omega) hi))]
theorem div_top {n k : Nat} (h : n < 4096 ^ (k + 1)) : dg n k = n / 4096 ^ k := by
  unfold dg
  refine Nat.mod_eq_of_lt (Nat.div_lt_of_lt_mul ?_)
  rw [← Nat.pow_succ]; exact h

/-- Which is below: by the highest figure that differs. -/
theorem top_eq {m n k : Nat} (h : m / 4096 ^ (k + 1) = n / 4096 ^ (k + 1)) (hd : dg m k = dg n k) : m / 4096 ^ k = n / 4096 ^ k := by
  rw [div_step m k, div_step n k, h, hd]
theorem lt_of_div {m n d : Nat} (h : m / d < n / d) : m < n := by
  rcases Nat.lt_or_ge m n with h1 | h1
  · exact h1
  · exact absurd (Nat.div_le_div_right (c := d) h1) (by omega)
theorem top_lt {m n k : Nat} (h : m / 4096 ^ (k + 1) = n / 4096 ^ (k + 1)) (hd : dg m k < dg n k) : m < n := by
  refine lt_of_div (d := 4096 ^ k) ?_
  rw [div_step m k, div_step n k, h]; omega

/-- What is borrowed of figure number k. -/
def bo (m n k : Nat) : Nat := if m % 4096 ^ k < n % 4096 ^ k then 1 else 0
theorem bo_le (m n k : Nat) : bo m n k ≤ 1 := by unfold bo; split <;> omega
theorem bo_zero (m n : Nat) : bo m n 0 = 0 := by simp [bo, Nat.mod_one]
theorem bo_yes {m n k : Nat} (h : dg m k < dg n k + bo m n k) : bo m n (k + 1) = 1 := by
  unfold bo at *
  rw [if_pos]
  rw [mod_step m k, mod_step n k]
  have hm : m % 4096 ^ k < 4096 ^ k := Nat.mod_lt _ (p4 k)
  have hn : n % 4096 ^ k < 4096 ^ k := Nat.mod_lt _ (p4 k)
  split at h
  · have : dg m k * 4096 ^ k ≤ dg n k * 4096 ^ k := Nat.mul_le_mul_right _ (by omega)
    omega
  · have : (dg m k + 1) * 4096 ^ k ≤ dg n k * 4096 ^ k := Nat.mul_le_mul_right _ (by omega)
    rw [Nat.add_mul, Nat.one_mul] at this
    omega
theorem bo_no {m n k : Nat} (h : dg n k + bo m n k ≤ dg m k) : bo m n (k + 1) = 0 := by
  unfold bo at *
  rw [if_neg]
  rw [mod_step m k, mod_step n k]
  have hm : m % 4096 ^ k < 4096 ^ k := Nat.mod_lt _ (p4 k)
  have hn : n % 4096 ^ k < 4096 ^ k := Nat.mod_lt _ (p4 k)
  split at h
  · have : (dg n k + 1) * 4096 ^ k ≤ dg m k * 4096 ^ k := Nat.mul_le_mul_right _ (by omega)
    rw [Nat.add_mul, Nat.one_mul] at this
    omega
  · have : dg n k * 4096 ^ k ≤ dg m k * 4096 ^ k := Nat.mul_le_mul_right _ (by omega)
    omega
/-- A difference's quotients. -/
theorem sub_div {m n : Nat} (h : n ≤ m) : ∀ k, (m - n) / 4096 ^ k + n / 4096 ^ k + bo m n k = m / 4096 ^ k := by
  intro k
  have hp := p4 k
  have e1 : m = m / 4096 ^ k * 4096 ^ k + m % 4096 ^ k := (Nat.div_add_mod' m _).symm
  have e2 : n = n / 4096 ^ k * 4096 ^ k + n % 4096 ^ k := (Nat.div_add_mod' n _).symm
  have hm : m % 4096 ^ k < 4096 ^ k := Nat.mod_lt _ hp
  have hn : n % 4096 ^ k < 4096 ^ k := Nat.mod_lt _ hp
  unfold bo
  generalize 4096 ^ k = d at *
  generalize m / d = a at *
  generalize n / d = b at *
  generalize m % d = r at *
  generalize n % d = s at *
  have hab : b ≤ a := by
    rcases Nat.lt_or_ge a b with hlt | hge
    · exfalso
      have : (a + 1) * d ≤ b * d := Nat.mul_le_mul_right _ hlt
      rw [Nat.add_mul, Nat.one_mul] at this
      omega
    · exact hge
  obtain ⟨c, rfl⟩ : ∃ c, a = b + c := ⟨a - b, by omega⟩
  have e3 : (b + c) * d = b * d + c * d := Nat.add_mul _ _ _
  split
  · rename_i hlt
    have hc : 0 < c := by
      rcases Nat.eq_zero_or_pos c with h0 | h0
      · subst h0; rw [Nat.add_zero] at e1; omega
      · exact h0
    obtain ⟨c', rfl⟩ : ∃ c', c = c' + 1 := ⟨c - 1, by omega⟩
    have e4 : (c' + 1) * d = c' * d + d := by rw [Nat.add_mul, Nat.one_mul]
    have e5 : m - n = c' * d + (d + r - s) := by omega
    rw [e5, Nat.mul_comm, Nat.mul_add_div hp, Nat.div_eq_of_lt (by omega)]
    omega
  · have e5 : m - n = c * d + (r - s) := by omega
    rw [e5, Nat.mul_comm, Nat.mul_add_div hp, Nat.div_eq_of_lt (by omega)]
    omega
theorem sub_yes {m n k : Nat} (h : n ≤ m) (hb : dg m k < dg n k + bo m n k) : dg (m - n) k = dg m k + 4096 - (dg n k + bo m n k) := by
  have h1 := sub_div h k
  have h2 := sub_div h (k + 1)
  rw [bo_yes hb] at h2
  rw [div_step m k, div_step n k, div_step (m - n) k] at h1
  have := dg_lt (m - n) k; have := dg_lt m k; have := dg_lt n k
  omega
theorem sub_no {m n k : Nat} (h : n ≤ m) (hb : dg n k + bo m n k ≤ dg m k) : dg (m - n) k = dg m k - (dg n k + bo m n k) := by
  have h1 := sub_div h k
  have h2 := sub_div h (k + 1)
  rw [bo_no hb] at h2
  rw [div_step m k, div_step n k, div_step (m - n) k] at h1
  have := dg_lt (m - n) k; have := dg_lt m k; have := dg_lt n k
  omega
/-- A difference, so many figures of it done. -/
def suF (m n k j : Nat) : Nat := if j < k then dg (m - n) j else dg m j
theorem suF_at (m n k : Nat) : suF m n k k = dg m k := by simp [suF]
theorem suF_next {m n k v : Nat} (h : v = dg (m - n) k) : ai 22 (updN (suF m n k) k v) = ai 22 (suF m n (k + 1)) := ai_congr fun i _ => by
  unfold updN suF
  by_cases e : i = k
  · subst e; simp [h]
  · have : (i < k + 1) = (i < k) := by simp; omega
    simp [e, this]
theorem suF_zero (m n : Nat) : ai 22 (dg m) = ai 22 (suF m n 0) := ai_congr fun i _ => by simp [suF]
theorem suF_end (m n : Nat) : ai 22 (suF m n 22) = ai 22 (dg (m - n)) := ai_congr fun i hi => by simp [suF, hi]
end Go.Proofs.Ytpogmflgmpifoaa

namespace Go.Proofs.Ytpogmflgmpifoaa
open Go.RowKit
theorem dgI (m n k : Nat) : ((dg m k : Nat) : Int) < ((dg n k : Nat) : Int) ↔ dg m k < dg n k := by omega

/-- Counting down from 21. -/
def dn (k : Nat) : Int := 21 - (k : Int)
theorem dn_ix {k : Nat} (h : k < 22) : dn k = ((21 - k : Nat) : Int) := by unfold dn; omega

theorem ix_dn {k : Nat} (h : k < 22) (w : World) (q : Nat) : (Instr.indexAt 35 (.pointer (some ⟨q, 0, none⟩)) (.int .i64 (dn k))).run Try.prog w = .ok (.pointer (some ⟨q, 21 - k, none⟩)) w := by
  rw [dn_ix h]; exact ix22 (by omega) w q
theorem sb_dn {x u : Operand} {k : Nat} (h : k < 22) (w : World) : (do eqGuard .sub 3 x u (.int .i64 (dn k)) (.int .i64 ((1 : Nat) : Int)); binOp .sub 3 (.int .i64 (dn k)) (.int .i64 ((1 : Nat) : Int))).run Try.prog w = .ok (.int .i64 (dn (k + 1))) w := by
  have := sb_z (x := x) (u := u) (m := dn k) (n := ((1 : Nat) : Int)) (by unfold dn; omega) (by unfold dn; omega) w
  rwa [show dn k - ((1 : Nat) : Int) = dn (k + 1) by unfold dn; omega] at this
theorem be_zero {m n : Nat} (hm : m < 4096 ^ 22) (hn : n < 4096 ^ 22) : m / 4096 ^ (22 - 0) = n / 4096 ^ (22 - 0) := by
  rw [Nat.div_eq_of_lt hm, Nat.div_eq_of_lt hn]
theorem top_next {m n k : Nat} (h : m / 4096 ^ (22 - k) = n / 4096 ^ (22 - k)) (hk : k < 22) (hd : dg m (21 - k) = dg n (21 - k)) : m / 4096 ^ (22 - (k + 1)) = n / 4096 ^ (22 - (k + 1)) := by
  rw [show 22 - (k + 1) = 21 - k by omega]
  rw [show 22 - k = (21 - k) + 1 by omega] at h
  exact top_eq h hd
theorem be_fin {m n : Nat} (h : m / 4096 ^ (22 - 22) = n / 4096 ^ (22 - 22)) : decide (m < n) = false := by
  simp at h; subst h; simp
theorem be_end {m n k : Nat} (h : m / 4096 ^ (22 - k) = n / 4096 ^ (22 - k)) (hk : k < 22) (hd : ¬ dg m (21 - k) = dg n (21 - k)) : decide (((dg m (21 - k) : Nat) : Int) < ((dg n (21 - k) : Nat) : Int)) = decide (m < n) := by
  rw [show 22 - k = (21 - k) + 1 by omega] at h
  rw [decide_eq_decide]
  constructor
  · intro h1; exact top_lt h (by omega)
  · intro h1
    rcases Nat.lt_or_ge (dg m (21 - k)) (dg n (21 - k)) with h2 | h2
    · omega
    · exact absurd (top_lt h.symm (by omega : dg n (21 - k) < dg m (21 - k))) (by omega)
set_option maxHeartbeats 1000000 in
theorem below_r {m n : Nat} (hm : m < 4096 ^ 22) (hn : n < 4096 ^ 22) (W0 : World) : Calls Try.prog 81 #[.agg (ai 22 (dg m)), .agg (ai 22 (dg n))] W0 fun e w' => e = .returned (.bool (decide (m < n))) ∧ Below W0.heap.size W0 w' := by
  refine s_in Try.func81 Try.ntmps81 rfl [.inl (.agg (ai 22 (dg m))), .inl (.agg (ai 22 (dg n)))] ?_
  intro β a h
  refine sym_seq ?_
  refine St.rg h [(2, .inr (0, pt 0)), (3, .inr (1, pt 0)), (4, .inl (.bool false))] [(ai 22 (dg m), 35), (ai 22 (dg n), 35)] [] [eN 0, eN 1] ?_ ?_
  · exact oc (k_bx 0 (.agg (ai 22 (dg m))) (bx22 (F := (dg m))) rfl rfl) <|
    oc (k_bx 1 (.agg (ai 22 (dg n))) (bx22 (F := (dg n))) rfl rfl) <|
    oz (k_mv (.inr rfl) rfl) <|
    ok_nil
  clear h; intro β a w h
  refine sym_then ?_
  refine sym_seq ?_
  refine sym_seq ?_
  refine St.r0 h [(5, .inl (.int .i64 ((21 : Nat) : Int)))] [] ?_ ?_
  · exact oz (k_mv (.inr rfl) rfl) <|
    ok_nil
  clear h; intro β a w h
  refine sym_then ?_
  refine blk_in ?_
  replace h := St.ss h 5 (.int .i64 (dn 0)) (v := .int .i64 ((21 : Nat) : Int)) rfl
  replace h := St.cs h (s' := [.inl (.agg (ai 22 (dg m))), .inl (.agg (ai 22 (dg n))), .inr (0, pt 0), .inr (1, pt 0), .inl (.bool false), .inl (.int .i64 (dn 0)), uu, uu, uu, uu, uu, uu, uu, uu, uu, uu, uu, uu, uu, uu, uu, uu, uu, uu]) (m' := [(ai 22 (dg m), 35), (ai 22 (dg n), 35)]) (by kernel_rfl) (by kernel_rfl)
  refine loop_up 22 (fun k a w => m / 4096 ^ (22 - k) = n / 4096 ^ (22 - k) ∧ ∃ (x4 x6 x7 x8 x9 x10 x11 x12 x13 x14 x15 x16 x17 x18 x19 x20 x21 x22 x23 : SV) (β : Nat → Nat), St (wd W0) [.inl (.agg (ai 22 (dg m))), .inl (.agg (ai 22 (dg n))), .inr (0, pt 0), .inr (1, pt 0), x4, .inl (.int .i64 (dn k)), x6, x7, x8, x9, x10, x11, x12, x13, x14, x15, x16, x17, x18, x19, x20, x21, x22, x23] [(ai 22 (dg m), 35), (ai 22 (dg n), 35)] β a w) ⟨be_zero hm hn, _, _, _, _, _, _, _, _, _, _, _, _, _, _, _, _, _, _, _, β, h⟩ ?_
  clear h; rintro k a w hkk ⟨hinv, x4, x6, x7, x8, x9, x10, x11, x12, x13, x14, x15, x16, x17, x18, x19, x20, x21, x22, x23, β, h⟩; replace h := h.o0
  rcases Nat.lt_or_ge k 22 with hltk | hgek
  · by_cases cd : dg m (21 - k) = dg n (21 - k)
    · have hn1 := top_next hinv hltk cd
      refine sym_seq ?_
      refine sym_seq ?_
      refine St.r0 h [(6, .inl (.int .i64 (dn k))), (7, .inl (.bool true))] [] ?_ ?_
      · exact oz (k_mv (.inl rfl) rfl) <|
        oz (k_bi (.int .i64 (dn k)) (.int .i64 ((0 : Nat) : Int)) (.bool true) (ge_i (m := dn k) (n := ((0 : Nat) : Int)) (decide_eq_true (by unfold dn; omega))) rfl rfl) <|
        ok_nil
      clear h; intro β a w h
      refine sym_then ?_
      refine s_ct h ?_
      refine wp_skip ?_
      refine sym_then ?_
      refine sym_seq ?_
      refine blk_in ?_
      refine sym_seq ?_
      refine St.r0 h [(10, .inl (.int .i64 (dn k))), (11, .inr (0, pt (21 - k))), (12, .inl (.int .i64 ((((dg m) (21 - k)) : Nat) : Int))), (13, .inl (.int .i64 (dn k))), (14, .inr (1, pt (21 - k))), (15, .inl (.int .i64 ((((dg n) (21 - k)) : Nat) : Int))), (16, .inl (.bool false))] [nn, nn, eR 0, nn, nn, eR 1] ?_ ?_
      · exact oc (k_mv (.inl rfl) rfl) <|
        oc (k_ia 0 0 ((21 - k)) (.int .i64 (dn k)) (ix_dn (k := k) (by omega)) rfl rfl) <|
        oc (k_ld 0 ((21 - k)) (.int .i64 ((((dg m) (21 - k)) : Nat) : Int)) (c := ai 22 (dg m)) (ld_at (n := 22) (F := (dg m)) (i := (21 - k)) (t0 := 35) (by omega)) rfl rfl) <|
        oc (k_mv (.inl rfl) rfl) <|
        oc (k_ia 1 0 ((21 - k)) (.int .i64 (dn k)) (ix_dn (k := k) (by omega)) rfl rfl) <|
        oc (k_ld 1 ((21 - k)) (.int .i64 ((((dg n) (21 - k)) : Nat) : Int)) (c := ai 22 (dg n)) (ld_at (n := 22) (F := (dg n)) (i := (21 - k)) (t0 := 35) (by omega)) rfl rfl) <|
        oz (k_bi (.int .i64 ((((dg m) (21 - k)) : Nat) : Int)) (.int .i64 ((((dg n) (21 - k)) : Nat) : Int)) (.bool false) (ne_i (m := ((dg m (21 - k) : Nat) : Int)) (n := ((dg n (21 - k) : Nat) : Int)) (decide_eq_false (by omega))) rfl rfl) <|
        ok_nil
      clear h; intro β a w h
      refine sym_then ?_
      refine s_cf h ?_
      refine wp_skip ?_
      refine blk_norm ?_
      refine sym_then ?_
      refine St.r0 h [(8, .inl (.int .i64 (dn k))), (9, .inl (.int .i64 (dn (k + 1)))), (5, .inl (.int .i64 (dn (k + 1))))] [eO] ?_ ?_
      · exact oc (k_m0 rfl rfl) <|
        oz (k_bi (.int .i64 (dn k)) (.int .i64 ((1 : Nat) : Int)) (.int .i64 (dn (k + 1))) (sb_dn (k := k) (by omega)) rfl rfl) <|
        oz (k_mv (.inr rfl) rfl) <|
        ok_nil
      clear h; intro β a w h
      replace h := St.cs h (s' := [.inl (.agg (ai 22 (dg m))), .inl (.agg (ai 22 (dg n))), .inr (0, pt 0), .inr (1, pt 0), x4, .inl (.int .i64 (dn (k + 1))), .inl (.int .i64 (dn k)), .inl (.bool true), .inl (.int .i64 (dn k)), .inl (.int .i64 (dn (k + 1))), .inl (.int .i64 (dn k)), .inr (0, pt (21 - k)), .inl (.int .i64 ((((dg m) (21 - k)) : Nat) : Int)), .inl (.int .i64 (dn k)), .inr (1, pt (21 - k)), .inl (.int .i64 ((((dg n) (21 - k)) : Nat) : Int)), .inl (.bool false), x17, x18, x19, x20, x21, x22, x23]) (m' := [(ai 22 (dg m), 35), (ai 22 (dg n), 35)]) (by kernel_rfl) (by kernel_rfl)
      exact ⟨hltk, hn1, _, _, _, _, _, _, _, _, _, _, _, _, _, _, _, _, _, _, _, _, h⟩
    · refine sym_seq ?_
      refine sym_seq ?_
      refine St.r0 h [(6, .inl (.int .i64 (dn k))), (7, .inl (.bool true))] [] ?_ ?_
      · exact oz (k_mv (.inl rfl) rfl) <|
        oz (k_bi (.int .i64 (dn k)) (.int .i64 ((0 : Nat) : Int)) (.bool true) (ge_i (m := dn k) (n := ((0 : Nat) : Int)) (decide_eq_true (by unfold dn; omega))) rfl rfl) <|
        ok_nil
      clear h; intro β a w h
      refine sym_then ?_
      refine s_ct h ?_
      refine wp_skip ?_
      refine sym_then ?_
      refine sym_seq ?_
      refine blk_in ?_
      refine sym_seq ?_
      refine St.r0 h [(10, .inl (.int .i64 (dn k))), (11, .inr (0, pt (21 - k))), (12, .inl (.int .i64 ((((dg m) (21 - k)) : Nat) : Int))), (13, .inl (.int .i64 (dn k))), (14, .inr (1, pt (21 - k))), (15, .inl (.int .i64 ((((dg n) (21 - k)) : Nat) : Int))), (16, .inl (.bool true))] [nn, nn, eR 0, nn, nn, eR 1] ?_ ?_
      · exact oc (k_mv (.inl rfl) rfl) <|
        oc (k_ia 0 0 ((21 - k)) (.int .i64 (dn k)) (ix_dn (k := k) (by omega)) rfl rfl) <|
        oc (k_ld 0 ((21 - k)) (.int .i64 ((((dg m) (21 - k)) : Nat) : Int)) (c := ai 22 (dg m)) (ld_at (n := 22) (F := (dg m)) (i := (21 - k)) (t0 := 35) (by omega)) rfl rfl) <|
        oc (k_mv (.inl rfl) rfl) <|
        oc (k_ia 1 0 ((21 - k)) (.int .i64 (dn k)) (ix_dn (k := k) (by omega)) rfl rfl) <|
        oc (k_ld 1 ((21 - k)) (.int .i64 ((((dg n) (21 - k)) : Nat) : Int)) (c := ai 22 (dg n)) (ld_at (n := 22) (F := (dg n)) (i := (21 - k)) (t0 := 35) (by omega)) rfl rfl) <|
        oz (k_bi (.int .i64 ((((dg m) (21 - k)) : Nat) : Int)) (.int .i64 ((((dg n) (21 - k)) : Nat) : Int)) (.bool true) (ne_i (m := ((dg m (21 - k) : Nat) : Int)) (n := ((dg n (21 - k) : Nat) : Int)) (decide_eq_true (by omega))) rfl rfl) <|
        ok_nil
      clear h; intro β a w h
      refine sym_then ?_
      refine s_ct h ?_
      refine sym_seq ?_
      refine St.r0 h [(17, .inl (.int .i64 (dn k))), (18, .inr (0, pt (21 - k))), (19, .inl (.int .i64 ((((dg m) (21 - k)) : Nat) : Int))), (20, .inl (.int .i64 (dn k))), (21, .inr (1, pt (21 - k))), (22, .inl (.int .i64 ((((dg n) (21 - k)) : Nat) : Int))), (23, .inl (.bool (decide (m < n)))), (4, .inl (.bool (decide (m < n))))] [nn, nn, eR 0, nn, nn, eR 1] ?_ ?_
      · exact oc (k_mv (.inl rfl) rfl) <|
        oc (k_ia 0 0 ((21 - k)) (.int .i64 (dn k)) (ix_dn (k := k) (by omega)) rfl rfl) <|
        oc (k_ld 0 ((21 - k)) (.int .i64 ((((dg m) (21 - k)) : Nat) : Int)) (c := ai 22 (dg m)) (ld_at (n := 22) (F := (dg m)) (i := (21 - k)) (t0 := 35) (by omega)) rfl rfl) <|
        oc (k_mv (.inl rfl) rfl) <|
        oc (k_ia 1 0 ((21 - k)) (.int .i64 (dn k)) (ix_dn (k := k) (by omega)) rfl rfl) <|
        oc (k_ld 1 ((21 - k)) (.int .i64 ((((dg n) (21 - k)) : Nat) : Int)) (c := ai 22 (dg n)) (ld_at (n := 22) (F := (dg n)) (i := (21 - k)) (t0 := 35) (by omega)) rfl rfl) <|
        oz (k_bi (.int .i64 ((((dg m) (21 - k)) : Nat) : Int)) (.int .i64 ((((dg n) (21 - k)) : Nat) : Int)) (.bool (decide (m < n))) (lt_i (m := ((dg m (21 - k) : Nat) : Int)) (n := ((dg n (21 - k) : Nat) : Int)) (be_end hinv hltk cd)) rfl rfl) <|
        oz (k_mv (.inr rfl) rfl) <|
        ok_nil
      clear h; intro β a w h
      refine sym_then ?_
      refine wp_ret ?_
      refine blk_ret ?_
      refine then_ret ?_
      refine then_ret ?_
      refine blk_ret ?_
      refine then_ret ?_
      exact s_rt h Try.results81 (fun hb => ⟨rfl, hb⟩)
  · obtain rfl : k = 22 := by omega
    rw [be_fin hinv]
    refine sym_seq ?_
    refine sym_seq ?_
    refine St.r0 h [(6, .inl (.int .i64 (dn 22))), (7, .inl (.bool false))] [] ?_ ?_
    · exact oz (k_mv (.inl rfl) rfl) <|
      oz (k_bi (.int .i64 (dn 22)) (.int .i64 ((0 : Nat) : Int)) (.bool false) (ge_i (m := dn 22) (n := ((0 : Nat) : Int)) (decide_eq_false (by unfold dn; omega))) rfl rfl) <|
      ok_nil
    clear h; intro β a w h
    refine sym_then ?_
    refine s_cf h ?_
    refine wp_exit ?_
    refine then_exit ?_
    refine then_exit ?_
    refine blk_exit ?_
    refine sym_then ?_
    refine sym_seq ?_
    refine St.r0 h [(4, .inl (.bool false))] [] ?_ ?_
    · exact oz (k_mv (.inr rfl) rfl) <|
      ok_nil
    clear h; intro β a w h
    refine sym_then ?_
    refine wp_ret ?_
    exact s_rt h Try.results81 (fun hb => ⟨rfl, hb⟩)

theorem ld_su {t0 : TypeId} {m n k : Nat} (hi : k < 22) (w : World) (q : Nat) (h : w.heap[q]? = some (.cells (ai 22 (suF m n k)) t0 (0, 0))) : (Instr.loadAt 3 (.pointer (some ⟨q, k, none⟩))).run Try.prog w = .ok (.int .i64 ((dg m k : Nat) : Int)) w := by
  have := ld_at hi w q h
  rwa [suF_at] at this
set_option maxHeartbeats 2000000 in
theorem less_r {m n : Nat} (hle : n ≤ m) (W0 : World) : Calls Try.prog 69 #[.agg (ai 22 (dg m)), .agg (ai 22 (dg n))] W0 fun e w' => e = .returned (.agg (ai 22 (dg (m - n)))) ∧ Below W0.heap.size W0 w' := by
  rw [← suF_end]
  refine s_in Try.func69 Try.ntmps69 rfl [.inl (.agg (ai 22 (dg m))), .inl (.agg (ai 22 (dg n)))] ?_
  intro β a h
  refine sym_seq ?_
  refine St.rg h [(2, .inr (0, pt 0)), (3, .inr (1, pt 0)), (4, .inr (2, pt 0))] [(ai 22 (dg m), 35), (ai 22 (dg n), 35), (ai 22 (fun _ => 0), 35)] [] [eN 0, eN 1, eN 2] ?_ ?_
  · exact oc (k_bx 0 (.agg (ai 22 (dg m))) (bx22 (F := (dg m))) rfl rfl) <|
    oc (k_bx 1 (.agg (ai 22 (dg n))) (bx22 (F := (dg n))) rfl rfl) <|
    oc (k_al 2 al22 rfl rfl) <|
    ok_nil
  clear h; intro β a w h
  refine sym_then ?_
  refine sym_seq ?_
  refine St.r0 h [(5, .inl (.int .i64 ((0 : Nat) : Int)))] [] ?_ ?_
  · exact oz (k_mv (.inr rfl) rfl) <|
    ok_nil
  clear h; intro β a w h
  refine sym_then ?_
  refine sym_seq ?_
  refine sym_seq ?_
  refine St.r0 h [(6, .inl (.int .i64 ((0 : Nat) : Int)))] [] ?_ ?_
  · exact oz (k_mv (.inr rfl) rfl) <|
    ok_nil
  clear h; intro β a w h
  refine sym_then ?_
  refine blk_in ?_
  replace h := St.sm h 0 (ai 22 (suF m n 0)) (c := ai 22 (dg m)) (t := 35) (suF_zero m n)
  replace h := St.ss h 5 (.int .i64 (((bo m n 0) : Nat) : Int)) (v := .int .i64 ((0 : Nat) : Int)) (by rw [bo_zero])
  replace h := St.cs h (s' := [.inl (.agg (ai 22 (dg m))), .inl (.agg (ai 22 (dg n))), .inr (0, pt 0), .inr (1, pt 0), .inr (2, pt 0), .inl (.int .i64 (((bo m n 0) : Nat) : Int)), .inl (.int .i64 ((0 : Nat) : Int)), uu, uu, uu, uu, uu, uu, uu, uu, uu, uu, uu, uu, uu, uu, uu, uu, uu, uu, uu, uu, uu, uu]) (m' := [(ai 22 (suF m n 0), 35), (ai 22 (dg n), 35), (ai 22 (fun _ => 0), 35)]) (by kernel_rfl) (by kernel_rfl)
  refine loop_up 22 (fun k a w => ∃ (x7 x8 x9 x10 x11 x12 x13 x14 x15 x16 x17 x18 x19 x20 x21 x22 x23 x24 x25 x26 x27 : SV) (β : Nat → Nat), St (wd W0) [.inl (.agg (ai 22 (dg m))), .inl (.agg (ai 22 (dg n))), .inr (0, pt 0), .inr (1, pt 0), .inr (2, pt 0), .inl (.int .i64 (((bo m n k) : Nat) : Int)), .inl (.int .i64 ((k : Nat) : Int)), x7, x8, x9, x10, x11, x12, x13, x14, x15, x16, x17, x18, x19, x20, x21, x22, x23, x24, x25, x26, x27, uu] [(ai 22 (suF m n k), 35), (ai 22 (dg n), 35), (ai 22 (fun _ => 0), 35)] β a w) ⟨_, _, _, _, _, _, _, _, _, _, _, _, _, _, _, _, _, _, _, _, _, β, h⟩ ?_
  clear h; rintro k a w hkk ⟨x7, x8, x9, x10, x11, x12, x13, x14, x15, x16, x17, x18, x19, x20, x21, x22, x23, x24, x25, x26, x27, β, h⟩; replace h := h.o0
  rcases Nat.lt_or_ge k 22 with hltk | hgek
  · rcases Nat.lt_or_ge (dg m k) (dg n k + bo m n k) with hb | hb; rotate_left
    · have f1 := dg_lt m k
      have f2 := dg_lt n k
      have f3 := dg_lt (m - n) k
      have f4 := bo_le m n k
      have f5 := sub_no hle hb
      refine sym_seq ?_
      refine sym_seq ?_
      refine St.r0 h [(8, .inl (.int .i64 ((k : Nat) : Int))), (9, .inl (.bool true))] [] ?_ ?_
      · exact oz (k_mv (.inl rfl) rfl) <|
        oz (k_bi (.int .i64 ((k : Nat) : Int)) (.int .i64 ((22 : Nat) : Int)) (.bool true) (lt_i (m := ((k : Nat) : Int)) (n := ((22 : Nat) : Int)) (decide_eq_true (by omega))) rfl rfl) <|
        ok_nil
      clear h; intro β a w h
      refine sym_then ?_
      refine s_ct h ?_
      refine wp_skip ?_
      refine sym_then ?_
      refine sym_seq ?_
      refine blk_in ?_
      refine sym_seq ?_
      refine St.r0 h [(12, .inl (.int .i64 ((k : Nat) : Int))), (13, .inr (0, pt k)), (14, .inl (.int .i64 (((dg m k) : Nat) : Int))), (15, .inl (.int .i64 ((k : Nat) : Int))), (16, .inr (1, pt k)), (17, .inl (.int .i64 ((((dg n) k) : Nat) : Int))), (18, .inl (.int .i64 (((dg m k : Nat) : Int) - ((dg n k : Nat) : Int)))), (19, .inl (.int .i64 (((bo m n k) : Nat) : Int))), (20, .inl (.int .i64 (((dg (m - n) k) : Nat) : Int))), (7, .inl (.int .i64 (((dg (m - n) k) : Nat) : Int)))] [nn, nn, eR 0, nn, nn, eR 1] ?_ ?_
      · exact oc (k_mv (.inl rfl) rfl) <|
        oc (k_ia 0 0 k (.int .i64 ((k : Nat) : Int)) (ix22 (i := k) (by omega)) rfl rfl) <|
        oc (k_ld 0 k (.int .i64 (((dg m k) : Nat) : Int)) (c := ai 22 (suF m n k)) (ld_su (k := k) (t0 := 35) (by omega)) rfl rfl) <|
        oc (k_mv (.inl rfl) rfl) <|
        oc (k_ia 1 0 k (.int .i64 ((k : Nat) : Int)) (ix22 (i := k) (by omega)) rfl rfl) <|
        oc (k_ld 1 k (.int .i64 ((((dg n) k) : Nat) : Int)) (c := ai 22 (dg n)) (ld_at (n := 22) (F := (dg n)) (i := k) (t0 := 35) (by omega)) rfl rfl) <|
        oz (k_bi (.int .i64 (((dg m k) : Nat) : Int)) (.int .i64 ((((dg n) k) : Nat) : Int)) (.int .i64 (((dg m k : Nat) : Int) - ((dg n k : Nat) : Int))) (sb_z (m := ((dg m k : Nat) : Int)) (n := ((dg n k : Nat) : Int)) (by omega) (by omega)) rfl rfl) <|
        oz (k_mv (.inl rfl) rfl) <|
        oz (k_bi (.int .i64 (((dg m k : Nat) : Int) - ((dg n k : Nat) : Int))) (.int .i64 (((bo m n k) : Nat) : Int)) (.int .i64 (((dg (m - n) k) : Nat) : Int)) (sb_zn (m := ((dg m k : Nat) : Int) - ((dg n k : Nat) : Int)) (n := ((bo m n k : Nat) : Int)) (k := (dg (m - n) k)) (by omega) (by omega)) rfl rfl) <|
        oz (k_mv (.inr rfl) rfl) <|
        ok_nil
      clear h; intro β a w h
      refine sym_then ?_
      refine sym_seq ?_
      refine St.r0 h [(5, .inl (.int .i64 ((0 : Nat) : Int)))] [] ?_ ?_
      · exact oz (k_mv (.inr rfl) rfl) <|
        ok_nil
      clear h; intro β a w h
      refine sym_then ?_
      refine sym_seq ?_
      refine sym_seq ?_
      refine St.r0 h [(21, .inl (.int .i64 (((dg (m - n) k) : Nat) : Int))), (22, .inl (.bool false))] [] ?_ ?_
      · exact oz (k_mv (.inl rfl) rfl) <|
        oz (k_bi (.int .i64 (((dg (m - n) k) : Nat) : Int)) (.int .i64 ((0 : Nat) : Int)) (.bool false) (lt_i (m := (((dg (m - n) k) : Nat) : Int)) (n := ((0 : Nat) : Int)) (decide_eq_false (by omega))) rfl rfl) <|
        ok_nil
      clear h; intro β a w h
      refine sym_then ?_
      refine s_cf h ?_
      refine wp_skip ?_
      refine sym_then ?_
      refine St.rg h [(25, .inl (.int .i64 ((k : Nat) : Int))), (26, .inl (.int .i64 (((dg (m - n) k) : Nat) : Int))), (27, .inr (0, pt k))] [] [(0, ai 22 (updN (suF m n k) k (dg (m - n) k)))] [nn, nn, nn, eS 0] ?_ ?_
      · exact oc (k_mv (.inl rfl) rfl) <|
        oc (k_mv (.inl rfl) rfl) <|
        oc (k_ia 0 0 k (.int .i64 ((k : Nat) : Int)) (ix22 (i := k) (by omega)) rfl rfl) <|
        oc (k_st 0 k (.int .i64 (((dg (m - n) k) : Nat) : Int)) (c := ai 22 (suF m n k)) (n := ai 22 (updN (suF m n k) k (dg (m - n) k))) (st_at (n := 22) (F := (suF m n k)) (i := k) (v := (dg (m - n) k)) (t0 := 35) (by omega)) rfl rfl) <|
        ok_nil
      clear h; intro β a w h
      refine blk_norm ?_
      refine sym_then ?_
      refine St.r0 h [(10, .inl (.int .i64 ((k : Nat) : Int))), (11, .inl (.int .i64 (((k + 1) : Nat) : Int))), (6, .inl (.int .i64 (((k + 1) : Nat) : Int)))] [eO] ?_ ?_
      · exact oc (k_m0 rfl rfl) <|
        oz (k_bi (.int .i64 ((k : Nat) : Int)) (.int .i64 ((1 : Nat) : Int)) (.int .i64 (((k + 1) : Nat) : Int)) (ad_i (m := k) (n := 1) (by omega)) rfl rfl) <|
        oz (k_mv (.inr rfl) rfl) <|
        ok_nil
      clear h; intro β a w h
      replace h := St.sm h 0 (ai 22 (suF m n (k + 1))) (c := ai 22 (updN (suF m n k) k (dg (m - n) k))) (t := 35) (suF_next rfl)
      replace h := St.ss h 5 (.int .i64 (((bo m n (k + 1)) : Nat) : Int)) (v := .int .i64 ((0 : Nat) : Int)) (by rw [bo_no hb])
      replace h := St.cs h (s' := [.inl (.agg (ai 22 (dg m))), .inl (.agg (ai 22 (dg n))), .inr (0, pt 0), .inr (1, pt 0), .inr (2, pt 0), .inl (.int .i64 (((bo m n (k + 1)) : Nat) : Int)), .inl (.int .i64 (((k + 1) : Nat) : Int)), .inl (.int .i64 (((dg (m - n) k) : Nat) : Int)), .inl (.int .i64 ((k : Nat) : Int)), .inl (.bool true), .inl (.int .i64 ((k : Nat) : Int)), .inl (.int .i64 (((k + 1) : Nat) : Int)), .inl (.int .i64 ((k : Nat) : Int)), .inr (0, pt k), .inl (.int .i64 (((dg m k) : Nat) : Int)), .inl (.int .i64 ((k : Nat) : Int)), .inr (1, pt k), .inl (.int .i64 ((((dg n) k) : Nat) : Int)), .inl (.int .i64 (((dg m k : Nat) : Int) - ((dg n k : Nat) : Int))), .inl (.int .i64 (((bo m n k) : Nat) : Int)), .inl (.int .i64 (((dg (m - n) k) : Nat) : Int)), .inl (.int .i64 (((dg (m - n) k) : Nat) : Int)), .inl (.bool false), x23, x24, .inl (.int .i64 ((k : Nat) : Int)), .inl (.int .i64 (((dg (m - n) k) : Nat) : Int)), .inr (0, pt k), uu]) (m' := [(ai 22 (suF m n (k + 1)), 35), (ai 22 (dg n), 35), (ai 22 (fun _ => 0), 35)]) (by kernel_rfl) (by kernel_rfl)
      exact ⟨hltk, _, _, _, _, _, _, _, _, _, _, _, _, _, _, _, _, _, _, _, _, _, _, h⟩
    · have f1 := dg_lt m k
      have f2 := dg_lt n k
      have f3 := dg_lt (m - n) k
      have f4 := bo_le m n k
      have f5 := sub_yes hle hb
      refine sym_seq ?_
      refine sym_seq ?_
      refine St.r0 h [(8, .inl (.int .i64 ((k : Nat) : Int))), (9, .inl (.bool true))] [] ?_ ?_
      · exact oz (k_mv (.inl rfl) rfl) <|
        oz (k_bi (.int .i64 ((k : Nat) : Int)) (.int .i64 ((22 : Nat) : Int)) (.bool true) (lt_i (m := ((k : Nat) : Int)) (n := ((22 : Nat) : Int)) (decide_eq_true (by omega))) rfl rfl) <|
        ok_nil
      clear h; intro β a w h
      refine sym_then ?_
      refine s_ct h ?_
      refine wp_skip ?_
      refine sym_then ?_
      refine sym_seq ?_
      refine blk_in ?_
      refine sym_seq ?_
      refine St.r0 h [(12, .inl (.int .i64 ((k : Nat) : Int))), (13, .inr (0, pt k)), (14, .inl (.int .i64 (((dg m k) : Nat) : Int))), (15, .inl (.int .i64 ((k : Nat) : Int))), (16, .inr (1, pt k)), (17, .inl (.int .i64 ((((dg n) k) : Nat) : Int))), (18, .inl (.int .i64 (((dg m k : Nat) : Int) - ((dg n k : Nat) : Int)))), (19, .inl (.int .i64 (((bo m n k) : Nat) : Int))), (20, .inl (.int .i64 (((dg m k : Nat) : Int) - ((dg n k : Nat) : Int) - ((bo m n k : Nat) : Int)))), (7, .inl (.int .i64 (((dg m k : Nat) : Int) - ((dg n k : Nat) : Int) - ((bo m n k : Nat) : Int))))] [nn, nn, eR 0, nn, nn, eR 1] ?_ ?_
      · exact oc (k_mv (.inl rfl) rfl) <|
        oc (k_ia 0 0 k (.int .i64 ((k : Nat) : Int)) (ix22 (i := k) (by omega)) rfl rfl) <|
        oc (k_ld 0 k (.int .i64 (((dg m k) : Nat) : Int)) (c := ai 22 (suF m n k)) (ld_su (k := k) (t0 := 35) (by omega)) rfl rfl) <|
        oc (k_mv (.inl rfl) rfl) <|
        oc (k_ia 1 0 k (.int .i64 ((k : Nat) : Int)) (ix22 (i := k) (by omega)) rfl rfl) <|
        oc (k_ld 1 k (.int .i64 ((((dg n) k) : Nat) : Int)) (c := ai 22 (dg n)) (ld_at (n := 22) (F := (dg n)) (i := k) (t0 := 35) (by omega)) rfl rfl) <|
        oz (k_bi (.int .i64 (((dg m k) : Nat) : Int)) (.int .i64 ((((dg n) k) : Nat) : Int)) (.int .i64 (((dg m k : Nat) : Int) - ((dg n k : Nat) : Int))) (sb_z (m := ((dg m k : Nat) : Int)) (n := ((dg n k : Nat) : Int)) (by omega) (by omega)) rfl rfl) <|
        oz (k_mv (.inl rfl) rfl) <|
        oz (k_bi (.int .i64 (((dg m k : Nat) : Int) - ((dg n k : Nat) : Int))) (.int .i64 (((bo m n k) : Nat) : Int)) (.int .i64 (((dg m k : Nat) : Int) - ((dg n k : Nat) : Int) - ((bo m n k : Nat) : Int))) (sb_z (m := ((dg m k : Nat) : Int) - ((dg n k : Nat) : Int)) (n := ((bo m n k : Nat) : Int)) (by omega) (by omega)) rfl rfl) <|
        oz (k_mv (.inr rfl) rfl) <|
        ok_nil
      clear h; intro β a w h
      refine sym_then ?_
      refine sym_seq ?_
      refine St.r0 h [(5, .inl (.int .i64 ((0 : Nat) : Int)))] [] ?_ ?_
      · exact oz (k_mv (.inr rfl) rfl) <|
        ok_nil
      clear h; intro β a w h
      refine sym_then ?_
      refine sym_seq ?_
      refine sym_seq ?_
      refine St.r0 h [(21, .inl (.int .i64 (((dg m k : Nat) : Int) - ((dg n k : Nat) : Int) - ((bo m n k : Nat) : Int)))), (22, .inl (.bool true))] [] ?_ ?_
      · exact oz (k_mv (.inl rfl) rfl) <|
        oz (k_bi (.int .i64 (((dg m k : Nat) : Int) - ((dg n k : Nat) : Int) - ((bo m n k : Nat) : Int))) (.int .i64 ((0 : Nat) : Int)) (.bool true) (lt_i (m := ((dg m k : Nat) : Int) - ((dg n k : Nat) : Int) - ((bo m n k : Nat) : Int)) (n := ((0 : Nat) : Int)) (decide_eq_true (by omega))) rfl rfl) <|
        ok_nil
      clear h; intro β a w h
      refine sym_then ?_
      refine s_ct h ?_
      refine sym_seq ?_
      refine St.r0 h [(23, .inl (.int .i64 (((dg m k : Nat) : Int) - ((dg n k : Nat) : Int) - ((bo m n k : Nat) : Int)))), (24, .inl (.int .i64 (((dg (m - n) k) : Nat) : Int))), (7, .inl (.int .i64 (((dg (m - n) k) : Nat) : Int)))] [eO] ?_ ?_
      · exact oc (k_m0 rfl rfl) <|
        oz (k_bi (.int .i64 (((dg m k : Nat) : Int) - ((dg n k : Nat) : Int) - ((bo m n k : Nat) : Int))) (.int .i64 ((4096 : Nat) : Int)) (.int .i64 (((dg (m - n) k) : Nat) : Int)) (ad_zn (m := ((dg m k : Nat) : Int) - ((dg n k : Nat) : Int) - ((bo m n k : Nat) : Int)) (n := ((4096 : Nat) : Int)) (k := (dg (m - n) k)) (by omega) (by omega)) rfl rfl) <|
        oz (k_mv (.inr rfl) rfl) <|
        ok_nil
      clear h; intro β a w h
      refine sym_then ?_
      refine St.r0 h [(5, .inl (.int .i64 ((1 : Nat) : Int)))] [] ?_ ?_
      · exact oz (k_mv (.inr rfl) rfl) <|
        ok_nil
      clear h; intro β a w h
      refine sym_then ?_
      refine St.rg h [(25, .inl (.int .i64 ((k : Nat) : Int))), (26, .inl (.int .i64 (((dg (m - n) k) : Nat) : Int))), (27, .inr (0, pt k))] [] [(0, ai 22 (updN (suF m n k) k (dg (m - n) k)))] [nn, nn, nn, eS 0] ?_ ?_
      · exact oc (k_mv (.inl rfl) rfl) <|
        oc (k_mv (.inl rfl) rfl) <|
        oc (k_ia 0 0 k (.int .i64 ((k : Nat) : Int)) (ix22 (i := k) (by omega)) rfl rfl) <|
        oc (k_st 0 k (.int .i64 (((dg (m - n) k) : Nat) : Int)) (c := ai 22 (suF m n k)) (n := ai 22 (updN (suF m n k) k (dg (m - n) k))) (st_at (n := 22) (F := (suF m n k)) (i := k) (v := (dg (m - n) k)) (t0 := 35) (by omega)) rfl rfl) <|
        ok_nil
      clear h; intro β a w h
      refine blk_norm ?_
      refine sym_then ?_
      refine St.r0 h [(10, .inl (.int .i64 ((k : Nat) : Int))), (11, .inl (.int .i64 (((k + 1) : Nat) : Int))), (6, .inl (.int .i64 (((k + 1) : Nat) : Int)))] [eO] ?_ ?_
      · exact oc (k_m0 rfl rfl) <|
        oz (k_bi (.int .i64 ((k : Nat) : Int)) (.int .i64 ((1 : Nat) : Int)) (.int .i64 (((k + 1) : Nat) : Int)) (ad_i (m := k) (n := 1) (by omega)) rfl rfl) <|
        oz (k_mv (.inr rfl) rfl) <|
        ok_nil
      clear h; intro β a w h
      replace h := St.sm h 0 (ai 22 (suF m n (k + 1))) (c := ai 22 (updN (suF m n k) k (dg (m - n) k))) (t := 35) (suF_next rfl)
      replace h := St.ss h 5 (.int .i64 (((bo m n (k + 1)) : Nat) : Int)) (v := .int .i64 ((1 : Nat) : Int)) (by rw [bo_yes hb])
      replace h := St.cs h (s' := [.inl (.agg (ai 22 (dg m))), .inl (.agg (ai 22 (dg n))), .inr (0, pt 0), .inr (1, pt 0), .inr (2, pt 0), .inl (.int .i64 (((bo m n (k + 1)) : Nat) : Int)), .inl (.int .i64 (((k + 1) : Nat) : Int)), .inl (.int .i64 (((dg (m - n) k) : Nat) : Int)), .inl (.int .i64 ((k : Nat) : Int)), .inl (.bool true), .inl (.int .i64 ((k : Nat) : Int)), .inl (.int .i64 (((k + 1) : Nat) : Int)), .inl (.int .i64 ((k : Nat) : Int)), .inr (0, pt k), .inl (.int .i64 (((dg m k) : Nat) : Int)), .inl (.int .i64 ((k : Nat) : Int)), .inr (1, pt k), .inl (.int .i64 ((((dg n) k) : Nat) : Int)), .inl (.int .i64 (((dg m k : Nat) : Int) - ((dg n k : Nat) : Int))), .inl (.int .i64 (((bo m n k) : Nat) : Int)), .inl (.int .i64 (((dg m k : Nat) : Int) - ((dg n k : Nat) : Int) - ((bo m n k : Nat) : Int))), .inl (.int .i64 (((dg m k : Nat) : Int) - ((dg n k : Nat) : Int) - ((bo m n k : Nat) : Int))), .inl (.bool true), .inl (.int .i64 (((dg m k : Nat) : Int) - ((dg n k : Nat) : Int) - ((bo m n k : Nat) : Int))), .inl (.int .i64 (((dg (m - n) k) : Nat) : Int)), .inl (.int .i64 ((k : Nat) : Int)), .inl (.int .i64 (((dg (m - n) k) : Nat) : Int)), .inr (0, pt k), uu]) (m' := [(ai 22 (suF m n (k + 1)), 35), (ai 22 (dg n), 35), (ai 22 (fun _ => 0), 35)]) (by kernel_rfl) (by kernel_rfl)
      exact ⟨hltk, _, _, _, _, _, _, _, _, _, _, _, _, _, _, _, _, _, _, _, _, _, _, h⟩
  · obtain rfl : k = 22 := by omega
    refine sym_seq ?_
    refine sym_seq ?_
    refine St.r0 h [(8, .inl (.int .i64 ((22 : Nat) : Int))), (9, .inl (.bool false))] [] ?_ ?_
    · exact oz (k_mv (.inl rfl) rfl) <|
      oz (k_bi (.int .i64 ((22 : Nat) : Int)) (.int .i64 ((22 : Nat) : Int)) (.bool false) (lt_i (m := ((22 : Nat) : Int)) (n := ((22 : Nat) : Int)) (decide_eq_false (by omega))) rfl rfl) <|
      ok_nil
    clear h; intro β a w h
    refine sym_then ?_
    refine s_cf h ?_
    refine wp_exit ?_
    refine then_exit ?_
    refine then_exit ?_
    refine blk_exit ?_
    refine sym_then ?_
    refine sym_seq ?_
    refine St.rg h [(28, .inl (.agg (ai 22 (suF m n 22))))] [] [(2, ai 22 (suF m n 22))] [eR 0, eS 2] ?_ ?_
    · exact oc (k_ld 0 0 (.agg (ai 22 (suF m n 22))) (c := ai 22 (suF m n 22)) (ld22 (F := (suF m n 22)) 35) rfl rfl) <|
      oc (k_st 2 0 (.agg (ai 22 (suF m n 22))) (c := ai 22 (fun _ => 0)) (n := ai 22 (suF m n 22)) (st22 (F := (suF m n 22)) (c := ai 22 (fun _ => 0)) 35 (ai_size _ _)) rfl rfl) <|
      ok_nil
    clear h; intro β a w h
    refine sym_then ?_
    refine wp_ret ?_
    exact s_rc (b := 2) (t0 := 35) (c := ai 22 (suF m n 22)) h Try.results69 Try.underlying35 (fun hb => ⟨rfl, hb⟩) (by rw [ai_size]; kernel_rfl)
end Go.Proofs.Ytpogmflgmpifoaa

namespace Go.Proofs.Ytpogmflgmpifoaa

theorem ic {a b : Nat} (h : a = b) : Value.int .i64 ((a : Nat) : Int) = Value.int .i64 ((b : Nat) : Int) := by rw [h]
/-- What is carried behind k figures. -/
def cr (F : Nat → Nat) (k : Nat) : Nat := pv F k / 4096 ^ k
theorem cr_zero (F : Nat → Nat) : cr F 0 = 0 := by simp [cr, pv]
theorem cr_sum (F : Nat → Nat) (k : Nat) : F k + cr F k = pv F (k + 1) / 4096 ^ k := by
  unfold cr
  rw [pv, Nat.add_mul_div_right _ _ (p4 k), Nat.add_comm]
theorem cr_dig (F : Nat → Nat) (k : Nat) : (F k + cr F k) % 4096 = dg (pv F (k + 1)) k := by rw [cr_sum]; rfl
theorem cr_next (F : Nat → Nat) (k : Nat) : (F k + cr F k) / 4096 = cr F (k + 1) := by
  rw [cr_sum, Nat.div_div_eq_div_mul, ← Nat.pow_succ]; rfl
theorem pv_low (F : Nat → Nat) {k j : Nat} (h : j < k) : dg (pv F (k + 1)) j = dg (pv F k) j := by
  unfold dg
  obtain ⟨e, rfl⟩ : ∃ e, k = j + 1 + e := ⟨k - (j + 1), by omega⟩
  rw [pv]
  have h1 : F (j + 1 + e) * 4096 ^ (j + 1 + e) = F (j + 1 + e) * 4096 ^ e * 4096 * 4096 ^ j := by
    rw [show j + 1 + e = e + (1 + j) by omega, Nat.pow_add, Nat.pow_add, Nat.pow_one, Nat.mul_assoc, Nat.mul_assoc, ← Nat.mul_assoc (4096 ^ e)]
  rw [h1, Nat.add_mul_div_right _ _ (p4 j), Nat.add_mul_mod_self_right]
theorem pv_lt {F : Nat → Nat} {B : Nat} (h : ∀ i, F i < B) : ∀ k, pv F k < B * 4096 ^ k := by
  intro k
  have hB : 0 < B := Nat.lt_of_le_of_lt (Nat.zero_le _) (h 0)
  induction k with
  | zero => simpa [pv] using hB
  | succ k ih =>
    have h1 : F k * 4096 ^ k ≤ B * 4096 ^ k := Nat.mul_le_mul_right _ (Nat.le_of_lt (h k))
    have h2 : B * 4096 ^ (k + 1) = 4096 * (B * 4096 ^ k) := by rw [Nat.pow_succ, Nat.mul_comm 4096, Nat.mul_assoc]
    rw [pv, h2]; omega
theorem cr_lt {F : Nat → Nat} {B : Nat} (h : ∀ i, F i < B) (k : Nat) : cr F k < B := by
  unfold cr
  rw [Nat.div_lt_iff_lt_mul (p4 k)]
  exact pv_lt h k

/-- The pass that carries, k figures done. -/
def cyF (F : Nat → Nat) (k j : Nat) : Nat := if j < k then dg (pv F k) j else F j
theorem cyF_at (F : Nat → Nat) (k : Nat) : cyF F k k = F k := by simp [cyF]
theorem cyF_zero (F : Nat → Nat) : ai 44 F = ai 44 (cyF F 0) := ai_congr fun i _ => by simp [cyF]
theorem cyF_next (F : Nat → Nat) (k : Nat) : ai 44 (updN (cyF F k) k ((cyF F k k + cr F k) % 4096)) = ai 44 (cyF F (k + 1)) := ai_congr fun i _ => by
  rw [cyF_at, cr_dig]
  unfold updN cyF
  by_cases e : i = k
  · subst e; simp
  · by_cases h : i < k
    · have h1 : i < k + 1 := by omega
      rw [if_neg e, if_pos h, if_pos h1, pv_low F h]
    · have h1 : ¬ i < k + 1 := by omega
      rw [if_neg e, if_neg h, if_neg h1]
theorem cyF_end {F : Nat → Nat} {N : Nat} (h : pv F 44 = N) : ai 44 (cyF F 44) = ai 44 (dg N) := ai_congr fun i hi => by simp [cyF, hi, h]

/-- What stands beyond 264 bits, added below, k figures done. -/
def foF (V k j : Nat) : Nat := if j < k then dg V j + 9728 * dg V (j + 22) else if 22 ≤ j ∧ j < 22 + k then 0 else dg V j
theorem foF_a {V k : Nat} (h : k < 22) : foF V k k = dg V k := by
  unfold foF; rw [if_neg (by omega), if_neg (by omega)]
theorem foF_b (V k : Nat) : foF V k (k + 22) = dg V (k + 22) := by
  unfold foF; rw [if_neg (by omega), if_neg (by omega)]
theorem foF_zero (V : Nat) : ai 44 (dg V) = ai 44 (foF V 0) := ai_congr fun i _ => by
  unfold foF; rw [if_neg (by omega), if_neg (by omega)]
theorem foF_next {V k : Nat} (h : k < 22) : ai 44 (updN (updN (foF V k) k (foF V k k + 9728 * foF V k (k + 22))) (k + 22) 0) = ai 44 (foF V (k + 1)) := ai_congr fun i _ => by
  rw [foF_a h, foF_b V k]
  unfold updN
  by_cases e1 : i = k + 22
  · subst e1; rw [if_pos rfl]; unfold foF; rw [if_neg (by omega), if_pos (by omega)]
  · rw [if_neg e1]
    by_cases e2 : i = k
    · subst e2; rw [if_pos rfl]; unfold foF; rw [if_pos (by omega)]
    · rw [if_neg e2]; unfold foF
      by_cases h1 : i < k
      · rw [if_pos h1, if_pos (by omega)]
      · rw [if_neg h1, if_neg (show ¬ i < k + 1 by omega)]
        by_cases h2 : 22 ≤ i ∧ i < 22 + k
        · rw [if_pos h2, if_pos (by omega)]
        · rw [if_neg h2, if_neg (by omega)]
def FO (V j : Nat) : Nat := if j < 22 then dg V j + 9728 * dg V (j + 22) else 0
theorem FO_lt (V j : Nat) : FO V j < 1099511627776 := by
  unfold FO
  have := dg_lt V j; have := dg_lt V (j + 22)
  split <;> omega
theorem foF_end (V : Nat) : ai 44 (foF V 22) = ai 44 (FO V) := ai_congr fun i hi => by
  unfold foF FO
  by_cases h : i < 22
  · rw [if_pos h, if_pos h]
  · rw [if_neg h, if_neg h, if_pos (by omega)]

theorem dg_shift (V j : Nat) : dg V (j + 22) = dg (V / 4096 ^ 22) j := by
  unfold dg
  rw [Nat.div_div_eq_div_mul, ← Nat.pow_add, Nat.add_comm 22 j]
theorem pv_add (F G : Nat → Nat) (c : Nat) : ∀ k, pv (fun j => F j + c * G j) k = pv F k + c * pv G k := by
  intro k
  induction k with
  | zero => simp [pv]
  | succ k ih =>
    simp only [pv, ih]
    rw [Nat.add_mul, Nat.mul_add, Nat.mul_assoc]; omega
theorem pv_zero {F : Nat → Nat} {a : Nat} : ∀ b, (∀ j, a ≤ j → j < a + b → F j = 0) → pv F (a + b) = pv F a := by
  intro b
  induction b with
  | zero => intro _; rfl
  | succ b ih =>
    intro h
    rw [show a + (b + 1) = a + b + 1 from rfl, pv, h (a + b) (by omega) (by omega), ih (fun j h1 h2 => h j h1 (by omega))]
    simp
/-- What a round leaves. -/
def TT (V : Nat) : Nat := V % 4096 ^ 22 + 9728 * (V / 4096 ^ 22)
theorem pv_FO {V : Nat} (h : V < 4096 ^ 44) : pv (FO V) 44 = TT V := by
  have h1 : pv (FO V) 44 = pv (FO V) 22 := pv_zero (a := 22) 22 (fun j h1 _ => by unfold FO; rw [if_neg (by omega)])
  have h2 : pv (FO V) 22 = pv (fun j => dg V j + 9728 * dg (V / 4096 ^ 22) j) 22 := pv_congr 22 fun i hi => by
    unfold FO; rw [if_pos hi, dg_shift]
  have h3 : V / 4096 ^ 22 % 4096 ^ 22 = V / 4096 ^ 22 := Nat.mod_eq_of_lt (Nat.div_lt_of_lt_mul (by rw [← Nat.pow_add]; exact h))
  rw [h1, h2, pv_add, pv_dg, pv_dg, h3]; rfl
theorem TT_mod (V : Nat) : TT V % pp = V % pp := by
  have h0 : 4096 ^ 22 % pp = 9728 := by decide +kernel
  have h1 : V = V % 4096 ^ 22 + 4096 ^ 22 * (V / 4096 ^ 22) := (Nat.mod_add_div _ _).symm
  have h2 : V % pp = (V % 4096 ^ 22 + 4096 ^ 22 * (V / 4096 ^ 22)) % pp := by rw [← h1]
  have h3 : 9728 % pp = 9728 := Nat.mod_eq_of_lt (by decide +kernel)
  unfold TT
  rw [h2, Nat.add_mod, Nat.mul_mod 9728, Nat.add_mod (V % 4096 ^ 22), Nat.mul_mod (4096 ^ 22), h0, h3]
def tV (N : Nat) : Nat → Nat
  | 0 => N
  | r + 1 => TT (tV N r)
theorem tV_mod (N : Nat) : ∀ r, tV N r % pp = N % pp := by
  intro r
  induction r with
  | zero => rfl
  | succ r ih => rw [tV, TT_mod, ih]
theorem TT_of_lt {V : Nat} (h : V < 4096 ^ 22) : TT V = V := by
  unfold TT; rw [Nat.mod_eq_of_lt h, Nat.div_eq_of_lt h]; omega
theorem tV_three {N : Nat} (h : N < 4096 ^ 44) : tV N 1 < 4096 ^ 44 ∧ tV N 2 < 4096 ^ 44 ∧ tV N 3 < 4096 ^ 22 := by
  have hX : (4096 : Nat) ^ 22 = 29642774844752946028434172162224104410437116074403984394101141506025761187823616 := by decide +kernel
  have hY : (4096 : Nat) ^ 44 = 29642774844752946028434172162224104410437116074403984394101141506025761187823616 * 29642774844752946028434172162224104410437116074403984394101141506025761187823616 := by decide +kernel
  have h1 : N / 4096 ^ 22 < 4096 ^ 22 := Nat.div_lt_of_lt_mul (by rw [← Nat.pow_add]; exact h)
  have g1 : N % 4096 ^ 22 < 4096 ^ 22 := Nat.mod_lt _ (p4 22)
  have b1 : tV N 1 < 9729 * 4096 ^ 22 := by
    show TT N < _
    unfold TT
    omega
  have h2 : tV N 1 / 4096 ^ 22 < 9729 := by rw [Nat.div_lt_iff_lt_mul (p4 22)]; exact b1
  have g2 : tV N 1 % 4096 ^ 22 < 4096 ^ 22 := Nat.mod_lt _ (p4 22)
  have b2 : tV N 2 < 4096 ^ 22 + 94643713 := by
    show TT (tV N 1) < _
    unfold TT
    omega
  refine ⟨by rw [hX] at b1; rw [hY]; omega, by rw [hX] at b2; rw [hY]; omega, ?_⟩
  show TT (tV N 2) < _
  by_cases hlt : tV N 2 < 4096 ^ 22
  · rw [TT_of_lt hlt]; exact hlt
  · have e1 : tV N 2 / 4096 ^ 22 = 1 := by
      refine Nat.div_eq_of_lt_le (by omega) ?_
      rw [hX] at b2 ⊢; omega
    have e2 : tV N 2 % 4096 ^ 22 = tV N 2 - 4096 ^ 22 := by
      have := Nat.mod_add_div (tV N 2) (4096 ^ 22)
      rw [e1] at this; omega
    unfold TT
    rw [e1, e2]
    rw [hX] at *; omega
theorem tV_lt {N : Nat} (h : N < 4096 ^ 44) : ∀ r, tV N r < 4096 ^ 44 ∧ (3 ≤ r → tV N r = tV N 3) := by
  have h3 := tV_three h
  have hXY : (4096 : Nat) ^ 22 < 4096 ^ 44 := by decide +kernel
  have k3 : ∀ d, tV N (3 + d) = tV N 3 := by
    intro d
    induction d with
    | zero => rfl
    | succ d ih => show TT (tV N (3 + d)) = _; rw [ih]; exact TT_of_lt h3.2.2
  intro r
  match r with
  | 0 => exact ⟨h, fun h => by omega⟩
  | 1 => exact ⟨h3.1, fun h => by omega⟩
  | 2 => exact ⟨h3.2.1, fun h => by omega⟩
  | r + 3 => rw [Nat.add_comm r 3, k3 r]; exact ⟨Nat.lt_trans h3.2.2 hXY, fun _ => rfl⟩
/-- The figures at the head of round r. -/
def oF (F : Nat → Nat) (N : Nat) : Nat → Nat → Nat
  | 0 => F
  | r + 1 => FO (tV N r)
theorem oF_lt {F : Nat → Nat} (hF : ∀ i, F i < 1099511627776) (N r i : Nat) : oF F N r i < 1099511627776 := by
  cases r with
  | zero => exact hF i
  | succ r => exact FO_lt _ _
theorem oF_pv {F : Nat → Nat} {N : Nat} (hN : pv F 44 = N) (hb : N < 4096 ^ 44) (r : Nat) : pv (oF F N r) 44 = tV N r := by
  cases r with
  | zero => exact hN
  | succ r => exact pv_FO (tV_lt hb r).1
theorem oF_end (F : Nat → Nat) {N : Nat} (hb : N < 4096 ^ 44) : ai 44 (oF F N 5) = ai 44 (dg (tV N 3)) := ai_congr fun i _ => by
  show FO (tV N 4) i = _
  rw [(tV_lt hb 4).2 (by omega)]
  have h3 := (tV_three hb).2.2
  unfold FO
  by_cases h : i < 22
  · rw [if_pos h, dg_big h3 (i + 22) (by omega)]; omega
  · rw [if_neg h, dg_big h3 i (by omega)]
end Go.Proofs.Ytpogmflgmpifoaa

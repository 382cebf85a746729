/- Crv4, CurveAlive, PtsMath, PtsOf, P7, E1, E2, ManyS, Pcon, E3, E4, SG8, Sg2, Sg4, Sg5, Sg3, SG9, Sg6: laid together. -/
import Derived.Test.YtgojlikjcpnhjaaDoorG5
import Derived.Test.YtgojlikjcpnhjaaDoorG4
import Derived.Test.YtgojlikjcpnhjaaDoorG3
namespace Go.Proofs.YtgojlikjcpnhjaaDoor
open Go.RowKit

set_option maxHeartbeats 4000000 in
theorem pkey_e {x b : Nat} (hx : x < pp) (hb : b < pp) (hev : x % 2 = 0) (W0 : World) : Calls Tryd.prog 19 #[.agg (ces [x, b])] W0 fun e w' => e = .returned (.agg (ck (byt (dig (ad b 1))))) ∧ Below W0.heap.size W0 w' := by

  refine s_in Tryd.func19 Tryd.ntmps19 rfl [.inl (.agg (ces [x, b]))] ?_
  intro β a h
  refine sym_seq ?_
  refine St.rg h [(1, .inr (0, pt 0)), (2, .inr (1, pt 0))] [(ces [x, b], 44), (ck (fun _ => 0), 23)] [] [eN 0, eN 1] ?_ ?_
  · exact oc (k_bx 0 (.agg (ces [x, b])) (bxP (a := x) (b := b)) rfl rfl) <|
    oc (k_al 1 alK rfl rfl) <|
    ok_nil
  clear h; intro β a w h
  refine sym_then ?_
  refine sym_seq ?_
  refine St.rg h [(4, .inl (.agg (ces [x, b]))), (5, .inl (el (dig (ad b 1)))), (6, .inl (.agg (ck (byt (dig (ad b 1)))))), (3, .inr (2, pt 0))] [(ck (fun _ => 0), 23)] [(2, ck (byt (dig (ad b 1))))] [eR 0, nn, nn, eN 2, eS 2] ?_ ?_
  · exact oc (k_ld 0 0 (.agg (ces [x, b])) (c := ces [x, b]) (ldP (a := x) (b := b) 44) rfl rfl) <|
    oc (k_ca 41 #[.agg (ces [x, b])] (el (dig (ad b 1))) (fun w => y_r hb w) rfl rfl) <|
    oc (k_ca 28 #[el (dig (ad b 1))] (.agg (ck (byt (dig (ad b 1))))) (fun w => key_d (ad_lt _ _) w) rfl rfl) <|
    oc (k_al 2 alK rfl rfl) <|
    oc (k_st 2 0 (.agg (ck (byt (dig (ad b 1))))) (c := ck (fun _ => 0)) (n := ck (byt (dig (ad b 1)))) (stK (F := (byt (dig (ad b 1)))) (c := ck (fun _ => 0)) 23 (ck_size _)) rfl rfl) <|
    ok_nil
  clear h; intro β a w h
  refine sym_then ?_
  refine sym_seq ?_
  refine sym_seq ?_
  refine St.r0 h [(7, .inr (0, pt 0)), (8, .inl (el (dig x))), (9, .inl (.bool true)), (10, .inl (.bool false))] [nn, eR 0] ?_ ?_
  · exact oc (k_fa 0 0 0 rfl rfl) <|
    oc (k_ld 0 0 (el (dig x)) (c := ces [x, b]) (ld_ces (l := [x, b]) (k := 0) (n := x) 44 rfl) rfl rfl) <|
    oz (k_ca 42 #[el (dig x)] (.bool true) (fun w => even_b hx (decide_eq_true hev) w) rfl rfl) <|
    oz (k_nt true rfl rfl) <|
    ok_nil
  clear h; intro β a w h
  refine sym_then ?_
  refine s_cf h ?_
  refine wp_skip ?_
  refine sym_then ?_
  refine sym_seq ?_
  refine St.rg h [(15, .inl (.agg (ck (byt (dig (ad b 1))))))] [] [(1, ck (byt (dig (ad b 1))))] [eR 2, eS 1] ?_ ?_
  · exact oc (k_ld 2 0 (.agg (ck (byt (dig (ad b 1))))) (c := ck (byt (dig (ad b 1)))) (ldK (b := (byt (dig (ad b 1)))) 23) rfl rfl) <|
    oc (k_st 1 0 (.agg (ck (byt (dig (ad b 1))))) (c := ck (fun _ => 0)) (n := ck (byt (dig (ad b 1)))) (stK (F := (byt (dig (ad b 1)))) (c := ck (fun _ => 0)) 23 (ck_size _)) rfl rfl) <|
    ok_nil
  clear h; intro β a w h
  refine sym_then ?_
  refine wp_ret ?_
  exact s_rc (b := 1) (t0 := 23) (c := ck (byt (dig (ad b 1)))) h Tryd.results19 Tryd.underlying23 (fun hb => ⟨rfl, hb⟩) (by rw [ck_size]; kernel_rfl)

set_option maxHeartbeats 4000000 in
theorem pkey_o {x b : Nat} (hx : x < pp) (hb : b < pp) (hev : ¬ x % 2 = 0) (W0 : World) : Calls Tryd.prog 19 #[.agg (ces [x, b])] W0 fun e w' => e = .returned (.agg (ck (updN (byt (dig (ad b 1))) 31 (byt (dig (ad b 1)) 31 + 128)))) ∧ Below W0.heap.size W0 w' := by
  have g1 := byt_top (ad_lt b 1)
  refine s_in Tryd.func19 Tryd.ntmps19 rfl [.inl (.agg (ces [x, b]))] ?_
  intro β a h
  refine sym_seq ?_
  refine St.rg h [(1, .inr (0, pt 0)), (2, .inr (1, pt 0))] [(ces [x, b], 44), (ck (fun _ => 0), 23)] [] [eN 0, eN 1] ?_ ?_
  · exact oc (k_bx 0 (.agg (ces [x, b])) (bxP (a := x) (b := b)) rfl rfl) <|
    oc (k_al 1 alK rfl rfl) <|
    ok_nil
  clear h; intro β a w h
  refine sym_then ?_
  refine sym_seq ?_
  refine St.rg h [(4, .inl (.agg (ces [x, b]))), (5, .inl (el (dig (ad b 1)))), (6, .inl (.agg (ck (byt (dig (ad b 1)))))), (3, .inr (2, pt 0))] [(ck (fun _ => 0), 23)] [(2, ck (byt (dig (ad b 1))))] [eR 0, nn, nn, eN 2, eS 2] ?_ ?_
  · exact oc (k_ld 0 0 (.agg (ces [x, b])) (c := ces [x, b]) (ldP (a := x) (b := b) 44) rfl rfl) <|
    oc (k_ca 41 #[.agg (ces [x, b])] (el (dig (ad b 1))) (fun w => y_r hb w) rfl rfl) <|
    oc (k_ca 28 #[el (dig (ad b 1))] (.agg (ck (byt (dig (ad b 1))))) (fun w => key_d (ad_lt _ _) w) rfl rfl) <|
    oc (k_al 2 alK rfl rfl) <|
    oc (k_st 2 0 (.agg (ck (byt (dig (ad b 1))))) (c := ck (fun _ => 0)) (n := ck (byt (dig (ad b 1)))) (stK (F := (byt (dig (ad b 1)))) (c := ck (fun _ => 0)) 23 (ck_size _)) rfl rfl) <|
    ok_nil
  clear h; intro β a w h
  refine sym_then ?_
  refine sym_seq ?_
  refine sym_seq ?_
  refine St.r0 h [(7, .inr (0, pt 0)), (8, .inl (el (dig x))), (9, .inl (.bool false)), (10, .inl (.bool true))] [nn, eR 0] ?_ ?_
  · exact oc (k_fa 0 0 0 rfl rfl) <|
    oc (k_ld 0 0 (el (dig x)) (c := ces [x, b]) (ld_ces (l := [x, b]) (k := 0) (n := x) 44 rfl) rfl rfl) <|
    oz (k_ca 42 #[el (dig x)] (.bool false) (fun w => even_b hx (decide_eq_false hev) w) rfl rfl) <|
    oz (k_nt false rfl rfl) <|
    ok_nil
  clear h; intro β a w h
  refine sym_then ?_
  refine s_ct h ?_
  refine St.rg h [(11, .inr (2, pt 31)), (12, .inl (.int .u8 ((((byt (dig (ad b 1))) 31) : Nat) : Int))), (13, .inl (.int .u8 (((((byt (dig (ad b 1))) 31) + 128) : Nat) : Int))), (14, .inr (2, pt 31))] [] [(2, ck (updN (byt (dig (ad b 1))) 31 (((byt (dig (ad b 1))) 31) + 128)))] [nn, eR 2, nn, nn, eS 2] ?_ ?_
  · exact oc (k_ia 2 0 31 (.int .i64 ((31 : Nat) : Int)) (ixK (i := 31) (by omega)) rfl rfl) <|
    oc (k_ld 2 31 (.int .u8 ((((byt (dig (ad b 1))) 31) : Nat) : Int)) (c := ck (byt (dig (ad b 1)))) (ld_k (F := (byt (dig (ad b 1)))) (i := 31) (t0 := 23) (by omega)) rfl rfl) <|
    oc (k_bi (.int .u8 ((((byt (dig (ad b 1))) 31) : Nat) : Int)) (.int .u8 ((128 : Nat) : Int)) (.int .u8 (((((byt (dig (ad b 1))) 31) + 128) : Nat) : Int)) (or_b (m := ((byt (dig (ad b 1))) 31)) (by omega)) rfl rfl) <|
    oc (k_ia 2 0 31 (.int .i64 ((31 : Nat) : Int)) (ixK (i := 31) (by omega)) rfl rfl) <|
    oc (k_st 2 31 (.int .u8 (((((byt (dig (ad b 1))) 31) + 128) : Nat) : Int)) (c := ck (byt (dig (ad b 1)))) (n := ck (updN (byt (dig (ad b 1))) 31 (((byt (dig (ad b 1))) 31) + 128))) (st_k (F := (byt (dig (ad b 1)))) (i := 31) (v := (((byt (dig (ad b 1))) 31) + 128)) (t0 := 23) (by omega)) rfl rfl) <|
    ok_nil
  clear h; intro β a w h
  refine sym_then ?_
  refine sym_seq ?_
  refine St.rg h [(15, .inl (.agg (ck (updN (byt (dig (ad b 1))) 31 (((byt (dig (ad b 1))) 31) + 128)))))] [] [(1, ck (updN (byt (dig (ad b 1))) 31 (((byt (dig (ad b 1))) 31) + 128)))] [eR 2, eS 1] ?_ ?_
  · exact oc (k_ld 2 0 (.agg (ck (updN (byt (dig (ad b 1))) 31 (((byt (dig (ad b 1))) 31) + 128)))) (c := ck (updN (byt (dig (ad b 1))) 31 (((byt (dig (ad b 1))) 31) + 128))) (ldK (b := (updN (byt (dig (ad b 1))) 31 (((byt (dig (ad b 1))) 31) + 128))) 23) rfl rfl) <|
    oc (k_st 1 0 (.agg (ck (updN (byt (dig (ad b 1))) 31 (((byt (dig (ad b 1))) 31) + 128)))) (c := ck (fun _ => 0)) (n := ck (updN (byt (dig (ad b 1))) 31 (((byt (dig (ad b 1))) 31) + 128))) (stK (F := (updN (byt (dig (ad b 1))) 31 (((byt (dig (ad b 1))) 31) + 128))) (c := ck (fun _ => 0)) 23 (ck_size _)) rfl rfl) <|
    ok_nil
  clear h; intro β a w h
  refine sym_then ?_
  refine wp_ret ?_
  exact s_rc (b := 1) (t0 := 23) (c := ck (updN (byt (dig (ad b 1))) 31 (((byt (dig (ad b 1))) 31) + 128))) h Tryd.results19 Tryd.underlying23 (fun hb => ⟨rfl, hb⟩) (by rw [ck_size]; kernel_rfl)

set_option maxHeartbeats 4000000 in
theorem evenX_r {y r : Nat} {k : Bool} (hy : y < pp) (cR : ∀ w, Calls Tryd.prog 59 #[el (dig (mu (sb (mu y y) 1) (inv (ad (mu dN (mu y y)) 1))))] w fun e w' => e = .returned (.tuple #[el (dig r), .bool k]) ∧ Below w.heap.size w w') (W0 : World) : Calls Tryd.prog 29 #[el (dig y)] W0 fun e w' => e = .returned (.tuple #[el (dig r), .bool k]) ∧ Below W0.heap.size W0 w' := by
  refine s_in Tryd.func29 Tryd.ntmps29 rfl [.inl (el (dig y))] ?_
  intro β a h
  refine sym_seq ?_
  refine St.rg h [(1, .inr (0, pt 0)), (2, .inr (1, pt 0)), (3, .inl (.bool false))] [(ce y, 42), (ce 0, 42)] [] [eN 0, eN 1] ?_ ?_
  · exact oc (k_bx 0 (el (dig y)) (bxE (n := y)) rfl rfl) <|
    oc (k_al 1 alE rfl rfl) <|
    oz (k_mv (.inr rfl) rfl) <|
    ok_nil
  clear h; intro β a w h
  refine sym_then ?_
  refine sym_seq ?_
  refine St.rg h [(6, .inl (el (dig 1))), (4, .inr (2, pt 0))] [(ce 0, 42)] [(2, ce 1)] [nn, eN 2, eS 2] ?_ ?_
  · exact oc (k_ca 33 #[.int .i64 ((1 : Nat) : Int)] (el (dig 1)) (fun w => int_m (m := 1) (by decide) w) rfl rfl) <|
    oc (k_al 2 alE rfl rfl) <|
    oc (k_st 2 0 (el (dig 1)) (c := ce 0) (n := ce 1) (stE (n := 1) (c := ce 0) 42 (ce_size _)) rfl rfl) <|
    ok_nil
  clear h; intro β a w h
  refine sym_then ?_
  refine sym_seq ?_
  refine St.rg h [(7, .inl (el (dig y))), (8, .inl (el (dig y))), (9, .inl (el (dig (mu y y)))), (5, .inr (3, pt 0))] [(ce 0, 42)] [(3, ce (mu y y))] [eR 0, eR 0, nn, eN 3, eS 3] ?_ ?_
  · exact oc (k_ld 0 0 (el (dig y)) (c := ce y) (ldE (n := y) 42) rfl rfl) <|
    oc (k_ld 0 0 (el (dig y)) (c := ce y) (ldE (n := y) 42) rfl rfl) <|
    oc (k_ca 56 #[el (dig y), el (dig y)] (el (dig (mu y y))) (fun w => times_m hy hy w) rfl rfl) <|
    oc (k_al 3 alE rfl rfl) <|
    oc (k_st 3 0 (el (dig (mu y y))) (c := ce 0) (n := ce (mu y y)) (stE (n := (mu y y)) (c := ce 0) 42 (ce_size _)) rfl rfl) <|
    ok_nil
  clear h; intro β a w h
  refine sym_then ?_
  refine sym_seq ?_
  refine St.rg h [(10, .inl (el (dig (mu y y)))), (11, .inl (el (dig 1))), (12, .inl (el (dig (sb (mu y y) 1)))), (13, .inl (el (dig dN))), (14, .inl (el (dig (mu y y)))), (15, .inl (el (dig (mu dN (mu y y))))), (16, .inl (el (dig 1))), (17, .inl (el (dig (ad (mu dN (mu y y)) 1)))), (18, .inl (el (dig (mu (sb (mu y y) 1) (inv (ad (mu dN (mu y y)) 1)))))), (19, .inl (.tuple #[el (dig r), .bool k])), (20, .inl (el (dig r))), (21, .inl (.bool k)), (3, .inl (.bool k))] [] [(1, ce r)] [eR 3, eR 2, nn, nn, eR 3, nn, eR 2, nn, nn, nn, nn, nn, eS 1] ?_ ?_
  · exact oc (k_ld 3 0 (el (dig (mu y y))) (c := ce (mu y y)) (ldE (n := (mu y y)) 42) rfl rfl) <|
    oc (k_ld 2 0 (el (dig 1)) (c := ce 1) (ldE (n := 1) 42) rfl rfl) <|
    oc (k_ca 31 #[el (dig (mu y y)), el (dig 1)] (el (dig (sb (mu y y) 1))) (fun w => minus_m (mu_lt _ _) one_ltp w) rfl rfl) <|
    oc (k_ca 57 #[] (el (dig dN)) cnum_r rfl rfl) <|
    oc (k_ld 3 0 (el (dig (mu y y))) (c := ce (mu y y)) (ldE (n := (mu y y)) 42) rfl rfl) <|
    oc (k_ca 56 #[el (dig dN), el (dig (mu y y))] (el (dig (mu dN (mu y y)))) (fun w => times_m dN_lt (mu_lt _ _) w) rfl rfl) <|
    oc (k_ld 2 0 (el (dig 1)) (c := ce 1) (ldE (n := 1) 42) rfl rfl) <|
    oc (k_ca 58 #[el (dig (mu dN (mu y y))), el (dig 1)] (el (dig (ad (mu dN (mu y y)) 1))) (fun w => plus_m (mu_lt _ _) one_ltp w) rfl rfl) <|
    oc (k_ca 34 #[el (dig (sb (mu y y) 1)), el (dig (ad (mu dN (mu y y)) 1))] (el (dig (mu (sb (mu y y) 1) (inv (ad (mu dN (mu y y)) 1))))) (fun w => over_m (sb_lt _ _) (ad_lt _ _) w) rfl rfl) <|
    oc (k_ca 59 #[el (dig (mu (sb (mu y y) 1) (inv (ad (mu dN (mu y y)) 1))))] (.tuple #[el (dig r), .bool k]) cR rfl rfl) <|
    oc (k_ex (.tuple #[el (dig r), .bool k]) (el (dig r)) rfl rfl) <|
    oc (k_ex (.tuple #[el (dig r), .bool k]) (.bool k) rfl rfl) <|
    oc (k_st 1 0 (el (dig r)) (c := ce 0) (n := ce r) (stE (n := r) (c := ce 0) 42 (ce_size _)) rfl rfl) <|
    oz (k_mv (.inr rfl) rfl) <|
    ok_nil
  clear h; intro β a w h
  refine sym_then ?_
  refine wp_ret ?_
  exact s_r2 (b := 1) (t0 := 42) (c := ce r) h Tryd.results29 Tryd.underlying42 (fun hb => ⟨rfl, hb⟩)

set_option maxHeartbeats 4000000 in
theorem of_no {b : Nat → Nat} (hb : ∀ i, b i < 256) {y : Nat} (hy : y < pp) (cO : ∀ w, Calls Tryd.prog 27 #[.agg (ck (updN b 31 (b 31 % 128)))] w fun e w' => e = .returned (el (dig y)) ∧ Below w.heap.size w w') (hkey : ¬ ∀ i, i < 32 → byt (dig y) i = (updN b 31 (b 31 % 128)) i) (hod : 128 ≤ b 31) (W0 : World) : Calls Tryd.prog 13 #[.agg (ck b)] W0 fun e w' => e = .returned (.tuple #[.agg (ces [0, 0]), .bool false]) ∧ Below W0.heap.size W0 w' := by
  have g1 := hb 31
  refine s_in Tryd.func13 Tryd.ntmps13 rfl [.inl (.agg (ck b))] ?_
  intro β a h
  refine sym_seq ?_
  refine St.rg h [(1, .inr (0, pt 0)), (2, .inr (1, pt 0)), (3, .inl (.bool false))] [(ck b, 23), (ces [0, 0], 44)] [] [eN 0, eN 1] ?_ ?_
  · exact oc (k_bx 0 (.agg (ck b)) (bxK (b := b)) rfl rfl) <|
    oc (k_al 1 alP rfl rfl) <|
    oz (k_mv (.inr rfl) rfl) <|
    ok_nil
  clear h; intro β a w h
  refine sym_then ?_
  refine sym_seq ?_
  refine St.r0 h [(8, .inr (0, pt 31)), (9, .inl (.int .u8 (((b 31) : Nat) : Int))), (10, .inl (.int .u8 ((((b 31) / 128 * 128) : Nat) : Int))), (11, .inl (.bool true)), (4, .inl (.bool true))] [nn, eR 0] ?_ ?_
  · exact oc (k_ia 0 0 31 (.int .i64 ((31 : Nat) : Int)) (ixK (i := 31) (by omega)) rfl rfl) <|
    oc (k_ld 0 31 (.int .u8 (((b 31) : Nat) : Int)) (c := ck b) (ld_k (F := b) (i := 31) (t0 := 23) (by omega)) rfl rfl) <|
    oz (k_bi (.int .u8 (((b 31) : Nat) : Int)) (.int .u8 ((128 : Nat) : Int)) (.int .u8 ((((b 31) / 128 * 128) : Nat) : Int)) (and_b (m := (b 31)) (by omega)) rfl rfl) <|
    oz (k_bi (.int .u8 ((((b 31) / 128 * 128) : Nat) : Int)) (.int .u8 ((0 : Nat) : Int)) (.bool true) (ne_b (m := ((b 31) / 128 * 128)) (n := 0) (decide_eq_true (by omega))) rfl rfl) <|
    oz (k_mv (.inr rfl) rfl) <|
    ok_nil
  clear h; intro β a w h
  refine sym_then ?_
  refine sym_seq ?_
  refine St.rg h [(12, .inr (0, pt 31)), (13, .inl (.int .u8 (((b 31) : Nat) : Int))), (14, .inl (.int .u8 ((((b 31) % 128) : Nat) : Int))), (15, .inr (0, pt 31))] [] [(0, ck (updN b 31 ((b 31) % 128)))] [nn, eR 0, nn, nn, eS 0] ?_ ?_
  · exact oc (k_ia 0 0 31 (.int .i64 ((31 : Nat) : Int)) (ixK (i := 31) (by omega)) rfl rfl) <|
    oc (k_ld 0 31 (.int .u8 (((b 31) : Nat) : Int)) (c := ck b) (ld_k (F := b) (i := 31) (t0 := 23) (by omega)) rfl rfl) <|
    oc (k_bi (.int .u8 (((b 31) : Nat) : Int)) (.int .u8 ((128 : Nat) : Int)) (.int .u8 ((((b 31) % 128) : Nat) : Int)) (an_b (m := (b 31)) (by omega)) rfl rfl) <|
    oc (k_ia 0 0 31 (.int .i64 ((31 : Nat) : Int)) (ixK (i := 31) (by omega)) rfl rfl) <|
    oc (k_st 0 31 (.int .u8 ((((b 31) % 128) : Nat) : Int)) (c := ck b) (n := ck (updN b 31 ((b 31) % 128))) (st_k (F := b) (i := 31) (v := ((b 31) % 128)) (t0 := 23) (by omega)) rfl rfl) <|
    ok_nil
  clear h; intro β a w h
  refine sym_then ?_
  refine sym_seq ?_
  refine St.rg h [(16, .inl (.agg (ck (updN b 31 ((b 31) % 128))))), (17, .inl (el (dig y))), (5, .inr (2, pt 0))] [(ce 0, 42)] [(2, ce y)] [eR 0, nn, eN 2, eS 2] ?_ ?_
  · exact oc (k_ld 0 0 (.agg (ck (updN b 31 ((b 31) % 128)))) (c := ck (updN b 31 ((b 31) % 128))) (ldK (b := (updN b 31 ((b 31) % 128))) 23) rfl rfl) <|
    oc (k_ca 27 #[.agg (ck (updN b 31 ((b 31) % 128)))] (el (dig y)) cO rfl rfl) <|
    oc (k_al 2 alE rfl rfl) <|
    oc (k_st 2 0 (el (dig y)) (c := ce 0) (n := ce y) (stE (n := y) (c := ce 0) 42 (ce_size _)) rfl rfl) <|
    ok_nil
  clear h; intro β a w h
  refine sym_then ?_
  refine sym_seq ?_
  refine sym_seq ?_
  refine St.r0 h [(18, .inl (el (dig y))), (19, .inl (.agg (ck (byt (dig y))))), (20, .inl (.agg (ck (updN b 31 ((b 31) % 128))))), (21, .inl (.bool true))] [eR 2, nn, eR 0] ?_ ?_
  · exact oc (k_ld 2 0 (el (dig y)) (c := ce y) (ldE (n := y) 42) rfl rfl) <|
    oc (k_ca 28 #[el (dig y)] (.agg (ck (byt (dig y)))) (fun w => key_d hy w) rfl rfl) <|
    oc (k_ld 0 0 (.agg (ck (updN b 31 ((b 31) % 128)))) (c := ck (updN b 31 ((b 31) % 128))) (ldK (b := (updN b 31 ((b 31) % 128))) 23) rfl rfl) <|
    oz (k_bi (.agg (ck (byt (dig y)))) (.agg (ck (updN b 31 ((b 31) % 128)))) (.bool true) (neK_t (F := (byt (dig y))) (G := (updN b 31 ((b 31) % 128))) hkey) rfl rfl) <|
    ok_nil
  clear h; intro β a w h
  refine sym_then ?_
  refine s_ct h ?_
  refine sym_seq ?_
  refine St.rg h [(22, .inl (.agg (ces [0, 0])))] [] [(1, ces [0, 0])] [nn, eS 1] ?_ ?_
  · exact oc (k_bu #[] (.agg (ces [0, 0])) bdP0 rfl rfl) <|
    oc (k_st 1 0 (.agg (ces [0, 0])) (c := ces [0, 0]) (n := ces [0, 0]) (stP (a := 0) (b := 0) (c := ces [0, 0]) 44 (by rw [ces_size]; rfl)) rfl rfl) <|
    oz (k_mv (.inr rfl) rfl) <|
    ok_nil
  clear h; intro β a w h
  refine sym_then ?_
  refine wp_ret ?_
  refine then_ret ?_
  exact s_r2 (b := 1) (t0 := 44) (c := ces [0, 0]) h Tryd.results13 Tryd.underlying44 (fun hb => ⟨rfl, hb⟩) (by rw [ces_size]; kernel_rfl)

set_option maxHeartbeats 4000000 in
theorem of_xo {b : Nat → Nat} (hb : ∀ i, b i < 256) {y r : Nat} (hy : y < pp) (cO : ∀ w, Calls Tryd.prog 27 #[.agg (ck (updN b 31 (b 31 % 128)))] w fun e w' => e = .returned (el (dig y)) ∧ Below w.heap.size w w') (hkey : ∀ i, i < 32 → byt (dig y) i = (updN b 31 (b 31 % 128)) i) (cE : ∀ w, Calls Tryd.prog 29 #[el (dig y)] w fun e w' => e = .returned (.tuple #[el (dig r), .bool false]) ∧ Below w.heap.size w w') (hod : 128 ≤ b 31) (W0 : World) : Calls Tryd.prog 13 #[.agg (ck b)] W0 fun e w' => e = .returned (.tuple #[.agg (ces [0, 0]), .bool false]) ∧ Below W0.heap.size W0 w' := by
  have g1 := hb 31
  refine s_in Tryd.func13 Tryd.ntmps13 rfl [.inl (.agg (ck b))] ?_
  intro β a h
  refine sym_seq ?_
  refine St.rg h [(1, .inr (0, pt 0)), (2, .inr (1, pt 0)), (3, .inl (.bool false))] [(ck b, 23), (ces [0, 0], 44)] [] [eN 0, eN 1] ?_ ?_
  · exact oc (k_bx 0 (.agg (ck b)) (bxK (b := b)) rfl rfl) <|
    oc (k_al 1 alP rfl rfl) <|
    oz (k_mv (.inr rfl) rfl) <|
    ok_nil
  clear h; intro β a w h
  refine sym_then ?_
  refine sym_seq ?_
  refine St.r0 h [(8, .inr (0, pt 31)), (9, .inl (.int .u8 (((b 31) : Nat) : Int))), (10, .inl (.int .u8 ((((b 31) / 128 * 128) : Nat) : Int))), (11, .inl (.bool true)), (4, .inl (.bool true))] [nn, eR 0] ?_ ?_
  · exact oc (k_ia 0 0 31 (.int .i64 ((31 : Nat) : Int)) (ixK (i := 31) (by omega)) rfl rfl) <|
    oc (k_ld 0 31 (.int .u8 (((b 31) : Nat) : Int)) (c := ck b) (ld_k (F := b) (i := 31) (t0 := 23) (by omega)) rfl rfl) <|
    oz (k_bi (.int .u8 (((b 31) : Nat) : Int)) (.int .u8 ((128 : Nat) : Int)) (.int .u8 ((((b 31) / 128 * 128) : Nat) : Int)) (and_b (m := (b 31)) (by omega)) rfl rfl) <|
    oz (k_bi (.int .u8 ((((b 31) / 128 * 128) : Nat) : Int)) (.int .u8 ((0 : Nat) : Int)) (.bool true) (ne_b (m := ((b 31) / 128 * 128)) (n := 0) (decide_eq_true (by omega))) rfl rfl) <|
    oz (k_mv (.inr rfl) rfl) <|
    ok_nil
  clear h; intro β a w h
  refine sym_then ?_
  refine sym_seq ?_
  refine St.rg h [(12, .inr (0, pt 31)), (13, .inl (.int .u8 (((b 31) : Nat) : Int))), (14, .inl (.int .u8 ((((b 31) % 128) : Nat) : Int))), (15, .inr (0, pt 31))] [] [(0, ck (updN b 31 ((b 31) % 128)))] [nn, eR 0, nn, nn, eS 0] ?_ ?_
  · exact oc (k_ia 0 0 31 (.int .i64 ((31 : Nat) : Int)) (ixK (i := 31) (by omega)) rfl rfl) <|
    oc (k_ld 0 31 (.int .u8 (((b 31) : Nat) : Int)) (c := ck b) (ld_k (F := b) (i := 31) (t0 := 23) (by omega)) rfl rfl) <|
    oc (k_bi (.int .u8 (((b 31) : Nat) : Int)) (.int .u8 ((128 : Nat) : Int)) (.int .u8 ((((b 31) % 128) : Nat) : Int)) (an_b (m := (b 31)) (by omega)) rfl rfl) <|
    oc (k_ia 0 0 31 (.int .i64 ((31 : Nat) : Int)) (ixK (i := 31) (by omega)) rfl rfl) <|
    oc (k_st 0 31 (.int .u8 ((((b 31) % 128) : Nat) : Int)) (c := ck b) (n := ck (updN b 31 ((b 31) % 128))) (st_k (F := b) (i := 31) (v := ((b 31) % 128)) (t0 := 23) (by omega)) rfl rfl) <|
    ok_nil
  clear h; intro β a w h
  refine sym_then ?_
  refine sym_seq ?_
  refine St.rg h [(16, .inl (.agg (ck (updN b 31 ((b 31) % 128))))), (17, .inl (el (dig y))), (5, .inr (2, pt 0))] [(ce 0, 42)] [(2, ce y)] [eR 0, nn, eN 2, eS 2] ?_ ?_
  · exact oc (k_ld 0 0 (.agg (ck (updN b 31 ((b 31) % 128)))) (c := ck (updN b 31 ((b 31) % 128))) (ldK (b := (updN b 31 ((b 31) % 128))) 23) rfl rfl) <|
    oc (k_ca 27 #[.agg (ck (updN b 31 ((b 31) % 128)))] (el (dig y)) cO rfl rfl) <|
    oc (k_al 2 alE rfl rfl) <|
    oc (k_st 2 0 (el (dig y)) (c := ce 0) (n := ce y) (stE (n := y) (c := ce 0) 42 (ce_size _)) rfl rfl) <|
    ok_nil
  clear h; intro β a w h
  refine sym_then ?_
  refine sym_seq ?_
  refine sym_seq ?_
  refine St.r0 h [(18, .inl (el (dig y))), (19, .inl (.agg (ck (byt (dig y))))), (20, .inl (.agg (ck (updN b 31 ((b 31) % 128))))), (21, .inl (.bool false))] [eR 2, nn, eR 0] ?_ ?_
  · exact oc (k_ld 2 0 (el (dig y)) (c := ce y) (ldE (n := y) 42) rfl rfl) <|
    oc (k_ca 28 #[el (dig y)] (.agg (ck (byt (dig y)))) (fun w => key_d hy w) rfl rfl) <|
    oc (k_ld 0 0 (.agg (ck (updN b 31 ((b 31) % 128)))) (c := ck (updN b 31 ((b 31) % 128))) (ldK (b := (updN b 31 ((b 31) % 128))) 23) rfl rfl) <|
    oz (k_bi (.agg (ck (byt (dig y)))) (.agg (ck (updN b 31 ((b 31) % 128)))) (.bool false) (neK_f (F := (byt (dig y))) (G := (updN b 31 ((b 31) % 128))) hkey) rfl rfl) <|
    ok_nil
  clear h; intro β a w h
  refine sym_then ?_
  refine s_cf h ?_
  refine wp_skip ?_
  refine sym_then ?_
  refine sym_seq ?_
  refine St.rg h [(24, .inl (el (dig y))), (25, .inl (.tuple #[el (dig r), .bool false])), (23, .inl (.tuple #[el (dig r), .bool false])), (26, .inl (el (dig r))), (27, .inl (.bool false)), (6, .inr (3, pt 0)), (7, .inl (.bool false))] [(ce 0, 42)] [(3, ce r)] [eR 2, nn, nn, nn, nn, eN 3, eS 3] ?_ ?_
  · exact oc (k_ld 2 0 (el (dig y)) (c := ce y) (ldE (n := y) 42) rfl rfl) <|
    oc (k_ca 29 #[el (dig y)] (.tuple #[el (dig r), .bool false]) cE rfl rfl) <|
    oc (k_mv (.inl rfl) rfl) <|
    oc (k_ex (.tuple #[el (dig r), .bool false]) (el (dig r)) rfl rfl) <|
    oc (k_ex (.tuple #[el (dig r), .bool false]) (.bool false) rfl rfl) <|
    oc (k_al 3 alE rfl rfl) <|
    oc (k_st 3 0 (el (dig r)) (c := ce 0) (n := ce r) (stE (n := r) (c := ce 0) 42 (ce_size _)) rfl rfl) <|
    oz (k_mv (.inr rfl) rfl) <|
    ok_nil
  clear h; intro β a w h
  refine sym_then ?_
  refine sym_seq ?_
  refine sym_seq ?_
  refine St.r0 h [(28, .inl (.bool false)), (29, .inl (.bool true)), (30, .inl (.bool true)), (37, .inl (.bool true))] [] ?_ ?_
  · exact oz (k_mv (.inl rfl) rfl) <|
    oz (k_nt false rfl rfl) <|
    oz (k_mv (.inl rfl) rfl) <|
    oz (k_sk rfl) <|
    oz (k_sk rfl) <|
    oz (k_sk rfl) <|
    oz (k_sk rfl) <|
    oz (k_sk rfl) <|
    oz (k_sk rfl) <|
    oz (k_pt rfl rfl) <|
    ok_nil
  clear h; intro β a w h
  refine sym_then ?_
  refine s_ct h ?_
  refine sym_seq ?_
  refine St.rg h [(38, .inl (.agg (ces [0, 0])))] [] [(1, ces [0, 0])] [nn, eS 1] ?_ ?_
  · exact oc (k_bu #[] (.agg (ces [0, 0])) bdP0 rfl rfl) <|
    oc (k_st 1 0 (.agg (ces [0, 0])) (c := ces [0, 0]) (n := ces [0, 0]) (stP (a := 0) (b := 0) (c := ces [0, 0]) 44 (by rw [ces_size]; rfl)) rfl rfl) <|
    oz (k_mv (.inr rfl) rfl) <|
    ok_nil
  clear h; intro β a w h
  refine sym_then ?_
  refine wp_ret ?_
  refine then_ret ?_
  exact s_r2 (b := 1) (t0 := 44) (c := ces [0, 0]) h Tryd.results13 Tryd.underlying44 (fun hb => ⟨rfl, hb⟩) (by rw [ces_size]; kernel_rfl)

set_option maxHeartbeats 4000000 in
theorem of_ne {b : Nat → Nat} (hb : ∀ i, b i < 256) {y : Nat} (hy : y < pp) (cO : ∀ w, Calls Tryd.prog 27 #[.agg (ck (updN b 31 (b 31 % 128)))] w fun e w' => e = .returned (el (dig y)) ∧ Below w.heap.size w w') (hkey : ¬ ∀ i, i < 32 → byt (dig y) i = (updN b 31 (b 31 % 128)) i) (hod : b 31 < 128) (W0 : World) : Calls Tryd.prog 13 #[.agg (ck b)] W0 fun e w' => e = .returned (.tuple #[.agg (ces [0, 0]), .bool false]) ∧ Below W0.heap.size W0 w' := by
  have g1 := hb 31
  refine s_in Tryd.func13 Tryd.ntmps13 rfl [.inl (.agg (ck b))] ?_
  intro β a h
  refine sym_seq ?_
  refine St.rg h [(1, .inr (0, pt 0)), (2, .inr (1, pt 0)), (3, .inl (.bool false))] [(ck b, 23), (ces [0, 0], 44)] [] [eN 0, eN 1] ?_ ?_
  · exact oc (k_bx 0 (.agg (ck b)) (bxK (b := b)) rfl rfl) <|
    oc (k_al 1 alP rfl rfl) <|
    oz (k_mv (.inr rfl) rfl) <|
    ok_nil
  clear h; intro β a w h
  refine sym_then ?_
  refine sym_seq ?_
  refine St.r0 h [(8, .inr (0, pt 31)), (9, .inl (.int .u8 (((b 31) : Nat) : Int))), (10, .inl (.int .u8 ((((b 31) / 128 * 128) : Nat) : Int))), (11, .inl (.bool false)), (4, .inl (.bool false))] [nn, eR 0] ?_ ?_
  · exact oc (k_ia 0 0 31 (.int .i64 ((31 : Nat) : Int)) (ixK (i := 31) (by omega)) rfl rfl) <|
    oc (k_ld 0 31 (.int .u8 (((b 31) : Nat) : Int)) (c := ck b) (ld_k (F := b) (i := 31) (t0 := 23) (by omega)) rfl rfl) <|
    oz (k_bi (.int .u8 (((b 31) : Nat) : Int)) (.int .u8 ((128 : Nat) : Int)) (.int .u8 ((((b 31) / 128 * 128) : Nat) : Int)) (and_b (m := (b 31)) (by omega)) rfl rfl) <|
    oz (k_bi (.int .u8 ((((b 31) / 128 * 128) : Nat) : Int)) (.int .u8 ((0 : Nat) : Int)) (.bool false) (ne_b (m := ((b 31) / 128 * 128)) (n := 0) (decide_eq_false (by omega))) rfl rfl) <|
    oz (k_mv (.inr rfl) rfl) <|
    ok_nil
  clear h; intro β a w h
  refine sym_then ?_
  refine sym_seq ?_
  refine St.rg h [(12, .inr (0, pt 31)), (13, .inl (.int .u8 (((b 31) : Nat) : Int))), (14, .inl (.int .u8 ((((b 31) % 128) : Nat) : Int))), (15, .inr (0, pt 31))] [] [(0, ck (updN b 31 ((b 31) % 128)))] [nn, eR 0, nn, nn, eS 0] ?_ ?_
  · exact oc (k_ia 0 0 31 (.int .i64 ((31 : Nat) : Int)) (ixK (i := 31) (by omega)) rfl rfl) <|
    oc (k_ld 0 31 (.int .u8 (((b 31) : Nat) : Int)) (c := ck b) (ld_k (F := b) (i := 31) (t0 := 23) (by omega)) rfl rfl) <|
    oc (k_bi (.int .u8 (((b 31) : Nat) : Int)) (.int .u8 ((128 : Nat) : Int)) (.int .u8 ((((b 31) % 128) : Nat) : Int)) (an_b (m := (b 31)) (by omega)) rfl rfl) <|
    oc (k_ia 0 0 31 (.int .i64 ((31 : Nat) : Int)) (ixK (i := 31) (by omega)) rfl rfl) <|
    oc (k_st 0 31 (.int .u8 ((((b 31) % 128) : Nat) : Int)) (c := ck b) (n := ck (updN b 31 ((b 31) % 128))) (st_k (F := b) (i := 31) (v := ((b 31) % 128)) (t0 := 23) (by omega)) rfl rfl) <|
    ok_nil
  clear h; intro β a w h
  refine sym_then ?_
  refine sym_seq ?_
  refine St.rg h [(16, .inl (.agg (ck (updN b 31 ((b 31) % 128))))), (17, .inl (el (dig y))), (5, .inr (2, pt 0))] [(ce 0, 42)] [(2, ce y)] [eR 0, nn, eN 2, eS 2] ?_ ?_
  · exact oc (k_ld 0 0 (.agg (ck (updN b 31 ((b 31) % 128)))) (c := ck (updN b 31 ((b 31) % 128))) (ldK (b := (updN b 31 ((b 31) % 128))) 23) rfl rfl) <|
    oc (k_ca 27 #[.agg (ck (updN b 31 ((b 31) % 128)))] (el (dig y)) cO rfl rfl) <|
    oc (k_al 2 alE rfl rfl) <|
    oc (k_st 2 0 (el (dig y)) (c := ce 0) (n := ce y) (stE (n := y) (c := ce 0) 42 (ce_size _)) rfl rfl) <|
    ok_nil
  clear h; intro β a w h
  refine sym_then ?_
  refine sym_seq ?_
  refine sym_seq ?_
  refine St.r0 h [(18, .inl (el (dig y))), (19, .inl (.agg (ck (byt (dig y))))), (20, .inl (.agg (ck (updN b 31 ((b 31) % 128))))), (21, .inl (.bool true))] [eR 2, nn, eR 0] ?_ ?_
  · exact oc (k_ld 2 0 (el (dig y)) (c := ce y) (ldE (n := y) 42) rfl rfl) <|
    oc (k_ca 28 #[el (dig y)] (.agg (ck (byt (dig y)))) (fun w => key_d hy w) rfl rfl) <|
    oc (k_ld 0 0 (.agg (ck (updN b 31 ((b 31) % 128)))) (c := ck (updN b 31 ((b 31) % 128))) (ldK (b := (updN b 31 ((b 31) % 128))) 23) rfl rfl) <|
    oz (k_bi (.agg (ck (byt (dig y)))) (.agg (ck (updN b 31 ((b 31) % 128)))) (.bool true) (neK_t (F := (byt (dig y))) (G := (updN b 31 ((b 31) % 128))) hkey) rfl rfl) <|
    ok_nil
  clear h; intro β a w h
  refine sym_then ?_
  refine s_ct h ?_
  refine sym_seq ?_
  refine St.rg h [(22, .inl (.agg (ces [0, 0])))] [] [(1, ces [0, 0])] [nn, eS 1] ?_ ?_
  · exact oc (k_bu #[] (.agg (ces [0, 0])) bdP0 rfl rfl) <|
    oc (k_st 1 0 (.agg (ces [0, 0])) (c := ces [0, 0]) (n := ces [0, 0]) (stP (a := 0) (b := 0) (c := ces [0, 0]) 44 (by rw [ces_size]; rfl)) rfl rfl) <|
    oz (k_mv (.inr rfl) rfl) <|
    ok_nil
  clear h; intro β a w h
  refine sym_then ?_
  refine wp_ret ?_
  refine then_ret ?_
  exact s_r2 (b := 1) (t0 := 44) (c := ces [0, 0]) h Tryd.results13 Tryd.underlying44 (fun hb => ⟨rfl, hb⟩) (by rw [ces_size]; kernel_rfl)

set_option maxHeartbeats 4000000 in
theorem of_xe {b : Nat → Nat} (hb : ∀ i, b i < 256) {y r : Nat} (hy : y < pp) (cO : ∀ w, Calls Tryd.prog 27 #[.agg (ck (updN b 31 (b 31 % 128)))] w fun e w' => e = .returned (el (dig y)) ∧ Below w.heap.size w w') (hkey : ∀ i, i < 32 → byt (dig y) i = (updN b 31 (b 31 % 128)) i) (cE : ∀ w, Calls Tryd.prog 29 #[el (dig y)] w fun e w' => e = .returned (.tuple #[el (dig r), .bool false]) ∧ Below w.heap.size w w') (hod : b 31 < 128) (W0 : World) : Calls Tryd.prog 13 #[.agg (ck b)] W0 fun e w' => e = .returned (.tuple #[.agg (ces [0, 0]), .bool false]) ∧ Below W0.heap.size W0 w' := by
  have g1 := hb 31
  refine s_in Tryd.func13 Tryd.ntmps13 rfl [.inl (.agg (ck b))] ?_
  intro β a h
  refine sym_seq ?_
  refine St.rg h [(1, .inr (0, pt 0)), (2, .inr (1, pt 0)), (3, .inl (.bool false))] [(ck b, 23), (ces [0, 0], 44)] [] [eN 0, eN 1] ?_ ?_
  · exact oc (k_bx 0 (.agg (ck b)) (bxK (b := b)) rfl rfl) <|
    oc (k_al 1 alP rfl rfl) <|
    oz (k_mv (.inr rfl) rfl) <|
    ok_nil
  clear h; intro β a w h
  refine sym_then ?_
  refine sym_seq ?_
  refine St.r0 h [(8, .inr (0, pt 31)), (9, .inl (.int .u8 (((b 31) : Nat) : Int))), (10, .inl (.int .u8 ((((b 31) / 128 * 128) : Nat) : Int))), (11, .inl (.bool false)), (4, .inl (.bool false))] [nn, eR 0] ?_ ?_
  · exact oc (k_ia 0 0 31 (.int .i64 ((31 : Nat) : Int)) (ixK (i := 31) (by omega)) rfl rfl) <|
    oc (k_ld 0 31 (.int .u8 (((b 31) : Nat) : Int)) (c := ck b) (ld_k (F := b) (i := 31) (t0 := 23) (by omega)) rfl rfl) <|
    oz (k_bi (.int .u8 (((b 31) : Nat) : Int)) (.int .u8 ((128 : Nat) : Int)) (.int .u8 ((((b 31) / 128 * 128) : Nat) : Int)) (and_b (m := (b 31)) (by omega)) rfl rfl) <|
    oz (k_bi (.int .u8 ((((b 31) / 128 * 128) : Nat) : Int)) (.int .u8 ((0 : Nat) : Int)) (.bool false) (ne_b (m := ((b 31) / 128 * 128)) (n := 0) (decide_eq_false (by omega))) rfl rfl) <|
    oz (k_mv (.inr rfl) rfl) <|
    ok_nil
  clear h; intro β a w h
  refine sym_then ?_
  refine sym_seq ?_
  refine St.rg h [(12, .inr (0, pt 31)), (13, .inl (.int .u8 (((b 31) : Nat) : Int))), (14, .inl (.int .u8 ((((b 31) % 128) : Nat) : Int))), (15, .inr (0, pt 31))] [] [(0, ck (updN b 31 ((b 31) % 128)))] [nn, eR 0, nn, nn, eS 0] ?_ ?_
  · exact oc (k_ia 0 0 31 (.int .i64 ((31 : Nat) : Int)) (ixK (i := 31) (by omega)) rfl rfl) <|
    oc (k_ld 0 31 (.int .u8 (((b 31) : Nat) : Int)) (c := ck b) (ld_k (F := b) (i := 31) (t0 := 23) (by omega)) rfl rfl) <|
    oc (k_bi (.int .u8 (((b 31) : Nat) : Int)) (.int .u8 ((128 : Nat) : Int)) (.int .u8 ((((b 31) % 128) : Nat) : Int)) (an_b (m := (b 31)) (by omega)) rfl rfl) <|
    oc (k_ia 0 0 31 (.int .i64 ((31 : Nat) : Int)) (ixK (i := 31) (by omega)) rfl rfl) <|
    oc (k_st 0 31 (.int .u8 ((((b 31) % 128) : Nat) : Int)) (c := ck b) (n := ck (updN b 31 ((b 31) % 128))) (st_k (F := b) (i := 31) (v := ((b 31) % 128)) (t0 := 23) (by omega)) rfl rfl) <|
    ok_nil
  clear h; intro β a w h
  refine sym_then ?_
  refine sym_seq ?_
  refine St.rg h [(16, .inl (.agg (ck (updN b 31 ((b 31) % 128))))), (17, .inl (el (dig y))), (5, .inr (2, pt 0))] [(ce 0, 42)] [(2, ce y)] [eR 0, nn, eN 2, eS 2] ?_ ?_
  · exact oc (k_ld 0 0 (.agg (ck (updN b 31 ((b 31) % 128)))) (c := ck (updN b 31 ((b 31) % 128))) (ldK (b := (updN b 31 ((b 31) % 128))) 23) rfl rfl) <|
    oc (k_ca 27 #[.agg (ck (updN b 31 ((b 31) % 128)))] (el (dig y)) cO rfl rfl) <|
    oc (k_al 2 alE rfl rfl) <|
    oc (k_st 2 0 (el (dig y)) (c := ce 0) (n := ce y) (stE (n := y) (c := ce 0) 42 (ce_size _)) rfl rfl) <|
    ok_nil
  clear h; intro β a w h
  refine sym_then ?_
  refine sym_seq ?_
  refine sym_seq ?_
  refine St.r0 h [(18, .inl (el (dig y))), (19, .inl (.agg (ck (byt (dig y))))), (20, .inl (.agg (ck (updN b 31 ((b 31) % 128))))), (21, .inl (.bool false))] [eR 2, nn, eR 0] ?_ ?_
  · exact oc (k_ld 2 0 (el (dig y)) (c := ce y) (ldE (n := y) 42) rfl rfl) <|
    oc (k_ca 28 #[el (dig y)] (.agg (ck (byt (dig y)))) (fun w => key_d hy w) rfl rfl) <|
    oc (k_ld 0 0 (.agg (ck (updN b 31 ((b 31) % 128)))) (c := ck (updN b 31 ((b 31) % 128))) (ldK (b := (updN b 31 ((b 31) % 128))) 23) rfl rfl) <|
    oz (k_bi (.agg (ck (byt (dig y)))) (.agg (ck (updN b 31 ((b 31) % 128)))) (.bool false) (neK_f (F := (byt (dig y))) (G := (updN b 31 ((b 31) % 128))) hkey) rfl rfl) <|
    ok_nil
  clear h; intro β a w h
  refine sym_then ?_
  refine s_cf h ?_
  refine wp_skip ?_
  refine sym_then ?_
  refine sym_seq ?_
  refine St.rg h [(24, .inl (el (dig y))), (25, .inl (.tuple #[el (dig r), .bool false])), (23, .inl (.tuple #[el (dig r), .bool false])), (26, .inl (el (dig r))), (27, .inl (.bool false)), (6, .inr (3, pt 0)), (7, .inl (.bool false))] [(ce 0, 42)] [(3, ce r)] [eR 2, nn, nn, nn, nn, eN 3, eS 3] ?_ ?_
  · exact oc (k_ld 2 0 (el (dig y)) (c := ce y) (ldE (n := y) 42) rfl rfl) <|
    oc (k_ca 29 #[el (dig y)] (.tuple #[el (dig r), .bool false]) cE rfl rfl) <|
    oc (k_mv (.inl rfl) rfl) <|
    oc (k_ex (.tuple #[el (dig r), .bool false]) (el (dig r)) rfl rfl) <|
    oc (k_ex (.tuple #[el (dig r), .bool false]) (.bool false) rfl rfl) <|
    oc (k_al 3 alE rfl rfl) <|
    oc (k_st 3 0 (el (dig r)) (c := ce 0) (n := ce r) (stE (n := r) (c := ce 0) 42 (ce_size _)) rfl rfl) <|
    oz (k_mv (.inr rfl) rfl) <|
    ok_nil
  clear h; intro β a w h
  refine sym_then ?_
  refine sym_seq ?_
  refine sym_seq ?_
  refine St.r0 h [(28, .inl (.bool false)), (29, .inl (.bool true)), (30, .inl (.bool true)), (37, .inl (.bool true))] [] ?_ ?_
  · exact oz (k_mv (.inl rfl) rfl) <|
    oz (k_nt false rfl rfl) <|
    oz (k_mv (.inl rfl) rfl) <|
    oz (k_sk rfl) <|
    oz (k_sk rfl) <|
    oz (k_sk rfl) <|
    oz (k_sk rfl) <|
    oz (k_sk rfl) <|
    oz (k_sk rfl) <|
    oz (k_pt rfl rfl) <|
    ok_nil
  clear h; intro β a w h
  refine sym_then ?_
  refine s_ct h ?_
  refine sym_seq ?_
  refine St.rg h [(38, .inl (.agg (ces [0, 0])))] [] [(1, ces [0, 0])] [nn, eS 1] ?_ ?_
  · exact oc (k_bu #[] (.agg (ces [0, 0])) bdP0 rfl rfl) <|
    oc (k_st 1 0 (.agg (ces [0, 0])) (c := ces [0, 0]) (n := ces [0, 0]) (stP (a := 0) (b := 0) (c := ces [0, 0]) 44 (by rw [ces_size]; rfl)) rfl rfl) <|
    oz (k_mv (.inr rfl) rfl) <|
    ok_nil
  clear h; intro β a w h
  refine sym_then ?_
  refine wp_ret ?_
  refine then_ret ?_
  exact s_r2 (b := 1) (t0 := 44) (c := ces [0, 0]) h Tryd.results13 Tryd.underlying44 (fun hb => ⟨rfl, hb⟩) (by rw [ces_size]; kernel_rfl)

set_option maxHeartbeats 4000000 in
theorem of_z {b : Nat → Nat} (hb : ∀ i, b i < 256) {y r : Nat} (hy : y < pp) (cO : ∀ w, Calls Tryd.prog 27 #[.agg (ck (updN b 31 (b 31 % 128)))] w fun e w' => e = .returned (el (dig y)) ∧ Below w.heap.size w w') (hkey : ∀ i, i < 32 → byt (dig y) i = (updN b 31 (b 31 % 128)) i) (cE : ∀ w, Calls Tryd.prog 29 #[el (dig y)] w fun e w' => e = .returned (.tuple #[el (dig r), .bool true]) ∧ Below w.heap.size w w') (hr : r < pp) (hz : r = 0) (hod : 128 ≤ b 31) (W0 : World) : Calls Tryd.prog 13 #[.agg (ck b)] W0 fun e w' => e = .returned (.tuple #[.agg (ces [0, 0]), .bool false]) ∧ Below W0.heap.size W0 w' := by
  have g1 := hb 31
  refine s_in Tryd.func13 Tryd.ntmps13 rfl [.inl (.agg (ck b))] ?_
  intro β a h
  refine sym_seq ?_
  refine St.rg h [(1, .inr (0, pt 0)), (2, .inr (1, pt 0)), (3, .inl (.bool false))] [(ck b, 23), (ces [0, 0], 44)] [] [eN 0, eN 1] ?_ ?_
  · exact oc (k_bx 0 (.agg (ck b)) (bxK (b := b)) rfl rfl) <|
    oc (k_al 1 alP rfl rfl) <|
    oz (k_mv (.inr rfl) rfl) <|
    ok_nil
  clear h; intro β a w h
  refine sym_then ?_
  refine sym_seq ?_
  refine St.r0 h [(8, .inr (0, pt 31)), (9, .inl (.int .u8 (((b 31) : Nat) : Int))), (10, .inl (.int .u8 ((((b 31) / 128 * 128) : Nat) : Int))), (11, .inl (.bool true)), (4, .inl (.bool true))] [nn, eR 0] ?_ ?_
  · exact oc (k_ia 0 0 31 (.int .i64 ((31 : Nat) : Int)) (ixK (i := 31) (by omega)) rfl rfl) <|
    oc (k_ld 0 31 (.int .u8 (((b 31) : Nat) : Int)) (c := ck b) (ld_k (F := b) (i := 31) (t0 := 23) (by omega)) rfl rfl) <|
    oz (k_bi (.int .u8 (((b 31) : Nat) : Int)) (.int .u8 ((128 : Nat) : Int)) (.int .u8 ((((b 31) / 128 * 128) : Nat) : Int)) (and_b (m := (b 31)) (by omega)) rfl rfl) <|
    oz (k_bi (.int .u8 ((((b 31) / 128 * 128) : Nat) : Int)) (.int .u8 ((0 : Nat) : Int)) (.bool true) (ne_b (m := ((b 31) / 128 * 128)) (n := 0) (decide_eq_true (by omega))) rfl rfl) <|
    oz (k_mv (.inr rfl) rfl) <|
    ok_nil
  clear h; intro β a w h
  refine sym_then ?_
  refine sym_seq ?_
  refine St.rg h [(12, .inr (0, pt 31)), (13, .inl (.int .u8 (((b 31) : Nat) : Int))), (14, .inl (.int .u8 ((((b 31) % 128) : Nat) : Int))), (15, .inr (0, pt 31))] [] [(0, ck (updN b 31 ((b 31) % 128)))] [nn, eR 0, nn, nn, eS 0] ?_ ?_
  · exact oc (k_ia 0 0 31 (.int .i64 ((31 : Nat) : Int)) (ixK (i := 31) (by omega)) rfl rfl) <|
    oc (k_ld 0 31 (.int .u8 (((b 31) : Nat) : Int)) (c := ck b) (ld_k (F := b) (i := 31) (t0 := 23) (by omega)) rfl rfl) <|
    oc (k_bi (.int .u8 (((b 31) : Nat) : Int)) (.int .u8 ((128 : Nat) : Int)) (.int .u8 ((((b 31) % 128) : Nat) : Int)) (an_b (m := (b 31)) (by omega)) rfl rfl) <|
    oc (k_ia 0 0 31 (.int .i64 ((31 : Nat) : Int)) (ixK (i := 31) (by omega)) rfl rfl) <|
    oc (k_st 0 31 (.int .u8 ((((b 31) % 128) : Nat) : Int)) (c := ck b) (n := ck (updN b 31 ((b 31) % 128))) (st_k (F := b) (i := 31) (v := ((b 31) % 128)) (t0 := 23) (by omega)) rfl rfl) <|
    ok_nil
  clear h; intro β a w h
  refine sym_then ?_
  refine sym_seq ?_
  refine St.rg h [(16, .inl (.agg (ck (updN b 31 ((b 31) % 128))))), (17, .inl (el (dig y))), (5, .inr (2, pt 0))] [(ce 0, 42)] [(2, ce y)] [eR 0, nn, eN 2, eS 2] ?_ ?_
  · exact oc (k_ld 0 0 (.agg (ck (updN b 31 ((b 31) % 128)))) (c := ck (updN b 31 ((b 31) % 128))) (ldK (b := (updN b 31 ((b 31) % 128))) 23) rfl rfl) <|
    oc (k_ca 27 #[.agg (ck (updN b 31 ((b 31) % 128)))] (el (dig y)) cO rfl rfl) <|
    oc (k_al 2 alE rfl rfl) <|
    oc (k_st 2 0 (el (dig y)) (c := ce 0) (n := ce y) (stE (n := y) (c := ce 0) 42 (ce_size _)) rfl rfl) <|
    ok_nil
  clear h; intro β a w h
  refine sym_then ?_
  refine sym_seq ?_
  refine sym_seq ?_
  refine St.r0 h [(18, .inl (el (dig y))), (19, .inl (.agg (ck (byt (dig y))))), (20, .inl (.agg (ck (updN b 31 ((b 31) % 128))))), (21, .inl (.bool false))] [eR 2, nn, eR 0] ?_ ?_
  · exact oc (k_ld 2 0 (el (dig y)) (c := ce y) (ldE (n := y) 42) rfl rfl) <|
    oc (k_ca 28 #[el (dig y)] (.agg (ck (byt (dig y)))) (fun w => key_d hy w) rfl rfl) <|
    oc (k_ld 0 0 (.agg (ck (updN b 31 ((b 31) % 128)))) (c := ck (updN b 31 ((b 31) % 128))) (ldK (b := (updN b 31 ((b 31) % 128))) 23) rfl rfl) <|
    oz (k_bi (.agg (ck (byt (dig y)))) (.agg (ck (updN b 31 ((b 31) % 128)))) (.bool false) (neK_f (F := (byt (dig y))) (G := (updN b 31 ((b 31) % 128))) hkey) rfl rfl) <|
    ok_nil
  clear h; intro β a w h
  refine sym_then ?_
  refine s_cf h ?_
  refine wp_skip ?_
  refine sym_then ?_
  refine sym_seq ?_
  refine St.rg h [(24, .inl (el (dig y))), (25, .inl (.tuple #[el (dig r), .bool true])), (23, .inl (.tuple #[el (dig r), .bool true])), (26, .inl (el (dig r))), (27, .inl (.bool true)), (6, .inr (3, pt 0)), (7, .inl (.bool true))] [(ce 0, 42)] [(3, ce r)] [eR 2, nn, nn, nn, nn, eN 3, eS 3] ?_ ?_
  · exact oc (k_ld 2 0 (el (dig y)) (c := ce y) (ldE (n := y) 42) rfl rfl) <|
    oc (k_ca 29 #[el (dig y)] (.tuple #[el (dig r), .bool true]) cE rfl rfl) <|
    oc (k_mv (.inl rfl) rfl) <|
    oc (k_ex (.tuple #[el (dig r), .bool true]) (el (dig r)) rfl rfl) <|
    oc (k_ex (.tuple #[el (dig r), .bool true]) (.bool true) rfl rfl) <|
    oc (k_al 3 alE rfl rfl) <|
    oc (k_st 3 0 (el (dig r)) (c := ce 0) (n := ce r) (stE (n := r) (c := ce 0) 42 (ce_size _)) rfl rfl) <|
    oz (k_mv (.inr rfl) rfl) <|
    ok_nil
  clear h; intro β a w h
  refine sym_then ?_
  refine sym_seq ?_
  refine sym_seq ?_
  refine St.r0 h [(28, .inl (.bool true)), (29, .inl (.bool false)), (30, .inl (.bool false)), (31, .inl (.bool true)), (32, .inl (.bool true)), (33, .inl (el (dig r))), (34, .inl (el (dig 0))), (35, .inl (.bool true)), (36, .inl (.bool true)), (37, .inl (.bool true))] [nn, nn, nn, nn, nn, eR 3] ?_ ?_
  · exact oc (k_mv (.inl rfl) rfl) <|
    oc (k_nt true rfl rfl) <|
    oc (k_mv (.inl rfl) rfl) <|
    oc (k_mv (.inl rfl) rfl) <|
    oc (k_mv (.inl rfl) rfl) <|
    oc (k_ld 3 0 (el (dig r)) (c := ce r) (ldE (n := r) 42) rfl rfl) <|
    oz (k_bu #[] (el (dig 0)) bdE rfl rfl) <|
    oz (k_ca 30 #[el (dig r), el (dig 0)] (.bool true) (fun w => is_t hr (by decide +kernel) hz w) rfl rfl) <|
    oz (k_pt rfl rfl) <|
    oz (k_pf rfl rfl) <|
    ok_nil
  clear h; intro β a w h
  refine sym_then ?_
  refine s_ct h ?_
  refine sym_seq ?_
  refine St.rg h [(38, .inl (.agg (ces [0, 0])))] [] [(1, ces [0, 0])] [nn, eS 1] ?_ ?_
  · exact oc (k_bu #[] (.agg (ces [0, 0])) bdP0 rfl rfl) <|
    oc (k_st 1 0 (.agg (ces [0, 0])) (c := ces [0, 0]) (n := ces [0, 0]) (stP (a := 0) (b := 0) (c := ces [0, 0]) 44 (by rw [ces_size]; rfl)) rfl rfl) <|
    oz (k_mv (.inr rfl) rfl) <|
    ok_nil
  clear h; intro β a w h
  refine sym_then ?_
  refine wp_ret ?_
  refine then_ret ?_
  exact s_r2 (b := 1) (t0 := 44) (c := ces [0, 0]) h Tryd.results13 Tryd.underlying44 (fun hb => ⟨rfl, hb⟩) (by rw [ces_size]; kernel_rfl)

set_option maxHeartbeats 4000000 in
theorem of_o {b : Nat → Nat} (hb : ∀ i, b i < 256) {y r : Nat} (hy : y < pp) (cO : ∀ w, Calls Tryd.prog 27 #[.agg (ck (updN b 31 (b 31 % 128)))] w fun e w' => e = .returned (el (dig y)) ∧ Below w.heap.size w w') (hkey : ∀ i, i < 32 → byt (dig y) i = (updN b 31 (b 31 % 128)) i) (cE : ∀ w, Calls Tryd.prog 29 #[el (dig y)] w fun e w' => e = .returned (.tuple #[el (dig r), .bool true]) ∧ Below w.heap.size w w') (hr : r < pp) (hz : r ≠ 0) (hod : 128 ≤ b 31) (W0 : World) : Calls Tryd.prog 13 #[.agg (ck b)] W0 fun e w' => e = .returned (.tuple #[.agg (ces [sb 0 r, sb y 1]), .bool true]) ∧ Below W0.heap.size W0 w' := by
  have g1 := hb 31
  refine s_in Tryd.func13 Tryd.ntmps13 rfl [.inl (.agg (ck b))] ?_
  intro β a h
  refine sym_seq ?_
  refine St.rg h [(1, .inr (0, pt 0)), (2, .inr (1, pt 0)), (3, .inl (.bool false))] [(ck b, 23), (ces [0, 0], 44)] [] [eN 0, eN 1] ?_ ?_
  · exact oc (k_bx 0 (.agg (ck b)) (bxK (b := b)) rfl rfl) <|
    oc (k_al 1 alP rfl rfl) <|
    oz (k_mv (.inr rfl) rfl) <|
    ok_nil
  clear h; intro β a w h
  refine sym_then ?_
  refine sym_seq ?_
  refine St.r0 h [(8, .inr (0, pt 31)), (9, .inl (.int .u8 (((b 31) : Nat) : Int))), (10, .inl (.int .u8 ((((b 31) / 128 * 128) : Nat) : Int))), (11, .inl (.bool true)), (4, .inl (.bool true))] [nn, eR 0] ?_ ?_
  · exact oc (k_ia 0 0 31 (.int .i64 ((31 : Nat) : Int)) (ixK (i := 31) (by omega)) rfl rfl) <|
    oc (k_ld 0 31 (.int .u8 (((b 31) : Nat) : Int)) (c := ck b) (ld_k (F := b) (i := 31) (t0 := 23) (by omega)) rfl rfl) <|
    oz (k_bi (.int .u8 (((b 31) : Nat) : Int)) (.int .u8 ((128 : Nat) : Int)) (.int .u8 ((((b 31) / 128 * 128) : Nat) : Int)) (and_b (m := (b 31)) (by omega)) rfl rfl) <|
    oz (k_bi (.int .u8 ((((b 31) / 128 * 128) : Nat) : Int)) (.int .u8 ((0 : Nat) : Int)) (.bool true) (ne_b (m := ((b 31) / 128 * 128)) (n := 0) (decide_eq_true (by omega))) rfl rfl) <|
    oz (k_mv (.inr rfl) rfl) <|
    ok_nil
  clear h; intro β a w h
  refine sym_then ?_
  refine sym_seq ?_
  refine St.rg h [(12, .inr (0, pt 31)), (13, .inl (.int .u8 (((b 31) : Nat) : Int))), (14, .inl (.int .u8 ((((b 31) % 128) : Nat) : Int))), (15, .inr (0, pt 31))] [] [(0, ck (updN b 31 ((b 31) % 128)))] [nn, eR 0, nn, nn, eS 0] ?_ ?_
  · exact oc (k_ia 0 0 31 (.int .i64 ((31 : Nat) : Int)) (ixK (i := 31) (by omega)) rfl rfl) <|
    oc (k_ld 0 31 (.int .u8 (((b 31) : Nat) : Int)) (c := ck b) (ld_k (F := b) (i := 31) (t0 := 23) (by omega)) rfl rfl) <|
    oc (k_bi (.int .u8 (((b 31) : Nat) : Int)) (.int .u8 ((128 : Nat) : Int)) (.int .u8 ((((b 31) % 128) : Nat) : Int)) (an_b (m := (b 31)) (by omega)) rfl rfl) <|
    oc (k_ia 0 0 31 (.int .i64 ((31 : Nat) : Int)) (ixK (i := 31) (by omega)) rfl rfl) <|
    oc (k_st 0 31 (.int .u8 ((((b 31) % 128) : Nat) : Int)) (c := ck b) (n := ck (updN b 31 ((b 31) % 128))) (st_k (F := b) (i := 31) (v := ((b 31) % 128)) (t0 := 23) (by omega)) rfl rfl) <|
    ok_nil
  clear h; intro β a w h
  refine sym_then ?_
  refine sym_seq ?_
  refine St.rg h [(16, .inl (.agg (ck (updN b 31 ((b 31) % 128))))), (17, .inl (el (dig y))), (5, .inr (2, pt 0))] [(ce 0, 42)] [(2, ce y)] [eR 0, nn, eN 2, eS 2] ?_ ?_
  · exact oc (k_ld 0 0 (.agg (ck (updN b 31 ((b 31) % 128)))) (c := ck (updN b 31 ((b 31) % 128))) (ldK (b := (updN b 31 ((b 31) % 128))) 23) rfl rfl) <|
    oc (k_ca 27 #[.agg (ck (updN b 31 ((b 31) % 128)))] (el (dig y)) cO rfl rfl) <|
    oc (k_al 2 alE rfl rfl) <|
    oc (k_st 2 0 (el (dig y)) (c := ce 0) (n := ce y) (stE (n := y) (c := ce 0) 42 (ce_size _)) rfl rfl) <|
    ok_nil
  clear h; intro β a w h
  refine sym_then ?_
  refine sym_seq ?_
  refine sym_seq ?_
  refine St.r0 h [(18, .inl (el (dig y))), (19, .inl (.agg (ck (byt (dig y))))), (20, .inl (.agg (ck (updN b 31 ((b 31) % 128))))), (21, .inl (.bool false))] [eR 2, nn, eR 0] ?_ ?_
  · exact oc (k_ld 2 0 (el (dig y)) (c := ce y) (ldE (n := y) 42) rfl rfl) <|
    oc (k_ca 28 #[el (dig y)] (.agg (ck (byt (dig y)))) (fun w => key_d hy w) rfl rfl) <|
    oc (k_ld 0 0 (.agg (ck (updN b 31 ((b 31) % 128)))) (c := ck (updN b 31 ((b 31) % 128))) (ldK (b := (updN b 31 ((b 31) % 128))) 23) rfl rfl) <|
    oz (k_bi (.agg (ck (byt (dig y)))) (.agg (ck (updN b 31 ((b 31) % 128)))) (.bool false) (neK_f (F := (byt (dig y))) (G := (updN b 31 ((b 31) % 128))) hkey) rfl rfl) <|
    ok_nil
  clear h; intro β a w h
  refine sym_then ?_
  refine s_cf h ?_
  refine wp_skip ?_
  refine sym_then ?_
  refine sym_seq ?_
  refine St.rg h [(24, .inl (el (dig y))), (25, .inl (.tuple #[el (dig r), .bool true])), (23, .inl (.tuple #[el (dig r), .bool true])), (26, .inl (el (dig r))), (27, .inl (.bool true)), (6, .inr (3, pt 0)), (7, .inl (.bool true))] [(ce 0, 42)] [(3, ce r)] [eR 2, nn, nn, nn, nn, eN 3, eS 3] ?_ ?_
  · exact oc (k_ld 2 0 (el (dig y)) (c := ce y) (ldE (n := y) 42) rfl rfl) <|
    oc (k_ca 29 #[el (dig y)] (.tuple #[el (dig r), .bool true]) cE rfl rfl) <|
    oc (k_mv (.inl rfl) rfl) <|
    oc (k_ex (.tuple #[el (dig r), .bool true]) (el (dig r)) rfl rfl) <|
    oc (k_ex (.tuple #[el (dig r), .bool true]) (.bool true) rfl rfl) <|
    oc (k_al 3 alE rfl rfl) <|
    oc (k_st 3 0 (el (dig r)) (c := ce 0) (n := ce r) (stE (n := r) (c := ce 0) 42 (ce_size _)) rfl rfl) <|
    oz (k_mv (.inr rfl) rfl) <|
    ok_nil
  clear h; intro β a w h
  refine sym_then ?_
  refine sym_seq ?_
  refine sym_seq ?_
  refine St.r0 h [(28, .inl (.bool true)), (29, .inl (.bool false)), (30, .inl (.bool false)), (31, .inl (.bool true)), (32, .inl (.bool true)), (33, .inl (el (dig r))), (34, .inl (el (dig 0))), (35, .inl (.bool false)), (36, .inl (.bool false)), (37, .inl (.bool false))] [nn, nn, nn, nn, nn, eR 3] ?_ ?_
  · exact oc (k_mv (.inl rfl) rfl) <|
    oc (k_nt true rfl rfl) <|
    oc (k_mv (.inl rfl) rfl) <|
    oc (k_mv (.inl rfl) rfl) <|
    oc (k_mv (.inl rfl) rfl) <|
    oc (k_ld 3 0 (el (dig r)) (c := ce r) (ldE (n := r) 42) rfl rfl) <|
    oz (k_bu #[] (el (dig 0)) bdE rfl rfl) <|
    oz (k_ca 30 #[el (dig r), el (dig 0)] (.bool false) (fun w => is_f hr (by decide +kernel) hz w) rfl rfl) <|
    oz (k_pt rfl rfl) <|
    oz (k_pf rfl rfl) <|
    ok_nil
  clear h; intro β a w h
  refine sym_then ?_
  refine s_cf h ?_
  refine wp_skip ?_
  refine sym_then ?_
  refine sym_seq ?_
  refine sym_seq ?_
  refine St.r0 h [(39, .inl (.bool true))] [] ?_ ?_
  · exact oz (k_mv (.inl rfl) rfl) <|
    ok_nil
  clear h; intro β a w h
  refine sym_then ?_
  refine s_ct h ?_
  refine St.rg h [(40, .inl (el (dig 0))), (41, .inl (el (dig r))), (42, .inl (el (dig (sb 0 r))))] [] [(3, ce (sb 0 r))] [nn, eR 3, nn, eS 3] ?_ ?_
  · exact oc (k_bu #[] (el (dig 0)) bdE rfl rfl) <|
    oc (k_ld 3 0 (el (dig r)) (c := ce r) (ldE (n := r) 42) rfl rfl) <|
    oc (k_ca 31 #[el (dig 0), el (dig r)] (el (dig (sb 0 r))) (fun w => minus_m (by decide +kernel) hr w) rfl rfl) <|
    oc (k_st 3 0 (el (dig (sb 0 r))) (c := ce r) (n := ce (sb 0 r)) (stE (n := (sb 0 r)) (c := ce r) 42 (ce_size _)) rfl rfl) <|
    ok_nil
  clear h; intro β a w h
  refine sym_then ?_
  refine sym_seq ?_
  refine St.rg h [(43, .inl (el (dig (sb 0 r)))), (44, .inl (el (dig y))), (45, .inl (.agg (ces [(sb 0 r), (sb y 1)]))), (3, .inl (.bool true))] [] [(1, ces [(sb 0 r), (sb y 1)])] [eR 3, eR 2, nn, eS 1] ?_ ?_
  · exact oc (k_ld 3 0 (el (dig (sb 0 r))) (c := ce (sb 0 r)) (ldE (n := (sb 0 r)) 42) rfl rfl) <|
    oc (k_ld 2 0 (el (dig y)) (c := ce y) (ldE (n := y) 42) rfl rfl) <|
    oc (k_ca 32 #[el (dig (sb 0 r)), el (dig y)] (.agg (ces [(sb 0 r), (sb y 1)])) (fun w => at_r hy w) rfl rfl) <|
    oc (k_st 1 0 (.agg (ces [(sb 0 r), (sb y 1)])) (c := ces [0, 0]) (n := ces [(sb 0 r), (sb y 1)]) (stP (a := (sb 0 r)) (b := (sb y 1)) (c := ces [0, 0]) 44 (by rw [ces_size]; rfl)) rfl rfl) <|
    oz (k_mv (.inr rfl) rfl) <|
    ok_nil
  clear h; intro β a w h
  refine sym_then ?_
  refine wp_ret ?_
  exact s_r2 (b := 1) (t0 := 44) (c := ces [(sb 0 r), (sb y 1)]) h Tryd.results13 Tryd.underlying44 (fun hb => ⟨rfl, hb⟩) (by rw [ces_size]; kernel_rfl)

set_option maxHeartbeats 4000000 in
theorem of_e {b : Nat → Nat} (hb : ∀ i, b i < 256) {y r : Nat} (hy : y < pp) (cO : ∀ w, Calls Tryd.prog 27 #[.agg (ck (updN b 31 (b 31 % 128)))] w fun e w' => e = .returned (el (dig y)) ∧ Below w.heap.size w w') (hkey : ∀ i, i < 32 → byt (dig y) i = (updN b 31 (b 31 % 128)) i) (cE : ∀ w, Calls Tryd.prog 29 #[el (dig y)] w fun e w' => e = .returned (.tuple #[el (dig r), .bool true]) ∧ Below w.heap.size w w') (hod : b 31 < 128) (W0 : World) : Calls Tryd.prog 13 #[.agg (ck b)] W0 fun e w' => e = .returned (.tuple #[.agg (ces [r, sb y 1]), .bool true]) ∧ Below W0.heap.size W0 w' := by
  have g1 := hb 31
  refine s_in Tryd.func13 Tryd.ntmps13 rfl [.inl (.agg (ck b))] ?_
  intro β a h
  refine sym_seq ?_
  refine St.rg h [(1, .inr (0, pt 0)), (2, .inr (1, pt 0)), (3, .inl (.bool false))] [(ck b, 23), (ces [0, 0], 44)] [] [eN 0, eN 1] ?_ ?_
  · exact oc (k_bx 0 (.agg (ck b)) (bxK (b := b)) rfl rfl) <|
    oc (k_al 1 alP rfl rfl) <|
    oz (k_mv (.inr rfl) rfl) <|
    ok_nil
  clear h; intro β a w h
  refine sym_then ?_
  refine sym_seq ?_
  refine St.r0 h [(8, .inr (0, pt 31)), (9, .inl (.int .u8 (((b 31) : Nat) : Int))), (10, .inl (.int .u8 ((((b 31) / 128 * 128) : Nat) : Int))), (11, .inl (.bool false)), (4, .inl (.bool false))] [nn, eR 0] ?_ ?_
  · exact oc (k_ia 0 0 31 (.int .i64 ((31 : Nat) : Int)) (ixK (i := 31) (by omega)) rfl rfl) <|
    oc (k_ld 0 31 (.int .u8 (((b 31) : Nat) : Int)) (c := ck b) (ld_k (F := b) (i := 31) (t0 := 23) (by omega)) rfl rfl) <|
    oz (k_bi (.int .u8 (((b 31) : Nat) : Int)) (.int .u8 ((128 : Nat) : Int)) (.int .u8 ((((b 31) / 128 * 128) : Nat) : Int)) (and_b (m := (b 31)) (by omega)) rfl rfl) <|
    oz (k_bi (.int .u8 ((((b 31) / 128 * 128) : Nat) : Int)) (.int .u8 ((0 : Nat) : Int)) (.bool false) (ne_b (m := ((b 31) / 128 * 128)) (n := 0) (decide_eq_false (by omega))) rfl rfl) <|
    oz (k_mv (.inr rfl) rfl) <|
    ok_nil
  clear h; intro β a w h
  refine sym_then ?_
  refine sym_seq ?_
  refine St.rg h [(12, .inr (0, pt 31)), (13, .inl (.int .u8 (((b 31) : Nat) : Int))), (14, .inl (.int .u8 ((((b 31) % 128) : Nat) : Int))), (15, .inr (0, pt 31))] [] [(0, ck (updN b 31 ((b 31) % 128)))] [nn, eR 0, nn, nn, eS 0] ?_ ?_
  · exact oc (k_ia 0 0 31 (.int .i64 ((31 : Nat) : Int)) (ixK (i := 31) (by omega)) rfl rfl) <|
    oc (k_ld 0 31 (.int .u8 (((b 31) : Nat) : Int)) (c := ck b) (ld_k (F := b) (i := 31) (t0 := 23) (by omega)) rfl rfl) <|
    oc (k_bi (.int .u8 (((b 31) : Nat) : Int)) (.int .u8 ((128 : Nat) : Int)) (.int .u8 ((((b 31) % 128) : Nat) : Int)) (an_b (m := (b 31)) (by omega)) rfl rfl) <|
    oc (k_ia 0 0 31 (.int .i64 ((31 : Nat) : Int)) (ixK (i := 31) (by omega)) rfl rfl) <|
    oc (k_st 0 31 (.int .u8 ((((b 31) % 128) : Nat) : Int)) (c := ck b) (n := ck (updN b 31 ((b 31) % 128))) (st_k (F := b) (i := 31) (v := ((b 31) % 128)) (t0 := 23) (by omega)) rfl rfl) <|
    ok_nil
  clear h; intro β a w h
  refine sym_then ?_
  refine sym_seq ?_
  refine St.rg h [(16, .inl (.agg (ck (updN b 31 ((b 31) % 128))))), (17, .inl (el (dig y))), (5, .inr (2, pt 0))] [(ce 0, 42)] [(2, ce y)] [eR 0, nn, eN 2, eS 2] ?_ ?_
  · exact oc (k_ld 0 0 (.agg (ck (updN b 31 ((b 31) % 128)))) (c := ck (updN b 31 ((b 31) % 128))) (ldK (b := (updN b 31 ((b 31) % 128))) 23) rfl rfl) <|
    oc (k_ca 27 #[.agg (ck (updN b 31 ((b 31) % 128)))] (el (dig y)) cO rfl rfl) <|
    oc (k_al 2 alE rfl rfl) <|
    oc (k_st 2 0 (el (dig y)) (c := ce 0) (n := ce y) (stE (n := y) (c := ce 0) 42 (ce_size _)) rfl rfl) <|
    ok_nil
  clear h; intro β a w h
  refine sym_then ?_
  refine sym_seq ?_
  refine sym_seq ?_
  refine St.r0 h [(18, .inl (el (dig y))), (19, .inl (.agg (ck (byt (dig y))))), (20, .inl (.agg (ck (updN b 31 ((b 31) % 128))))), (21, .inl (.bool false))] [eR 2, nn, eR 0] ?_ ?_
  · exact oc (k_ld 2 0 (el (dig y)) (c := ce y) (ldE (n := y) 42) rfl rfl) <|
    oc (k_ca 28 #[el (dig y)] (.agg (ck (byt (dig y)))) (fun w => key_d hy w) rfl rfl) <|
    oc (k_ld 0 0 (.agg (ck (updN b 31 ((b 31) % 128)))) (c := ck (updN b 31 ((b 31) % 128))) (ldK (b := (updN b 31 ((b 31) % 128))) 23) rfl rfl) <|
    oz (k_bi (.agg (ck (byt (dig y)))) (.agg (ck (updN b 31 ((b 31) % 128)))) (.bool false) (neK_f (F := (byt (dig y))) (G := (updN b 31 ((b 31) % 128))) hkey) rfl rfl) <|
    ok_nil
  clear h; intro β a w h
  refine sym_then ?_
  refine s_cf h ?_
  refine wp_skip ?_
  refine sym_then ?_
  refine sym_seq ?_
  refine St.rg h [(24, .inl (el (dig y))), (25, .inl (.tuple #[el (dig r), .bool true])), (23, .inl (.tuple #[el (dig r), .bool true])), (26, .inl (el (dig r))), (27, .inl (.bool true)), (6, .inr (3, pt 0)), (7, .inl (.bool true))] [(ce 0, 42)] [(3, ce r)] [eR 2, nn, nn, nn, nn, eN 3, eS 3] ?_ ?_
  · exact oc (k_ld 2 0 (el (dig y)) (c := ce y) (ldE (n := y) 42) rfl rfl) <|
    oc (k_ca 29 #[el (dig y)] (.tuple #[el (dig r), .bool true]) cE rfl rfl) <|
    oc (k_mv (.inl rfl) rfl) <|
    oc (k_ex (.tuple #[el (dig r), .bool true]) (el (dig r)) rfl rfl) <|
    oc (k_ex (.tuple #[el (dig r), .bool true]) (.bool true) rfl rfl) <|
    oc (k_al 3 alE rfl rfl) <|
    oc (k_st 3 0 (el (dig r)) (c := ce 0) (n := ce r) (stE (n := r) (c := ce 0) 42 (ce_size _)) rfl rfl) <|
    oz (k_mv (.inr rfl) rfl) <|
    ok_nil
  clear h; intro β a w h
  refine sym_then ?_
  refine sym_seq ?_
  refine sym_seq ?_
  refine St.r0 h [(28, .inl (.bool true)), (29, .inl (.bool false)), (30, .inl (.bool false)), (31, .inl (.bool false)), (32, .inl (.bool false)), (36, .inl (.bool false)), (37, .inl (.bool false))] [] ?_ ?_
  · exact oz (k_mv (.inl rfl) rfl) <|
    oz (k_nt true rfl rfl) <|
    oz (k_mv (.inl rfl) rfl) <|
    oz (k_mv (.inl rfl) rfl) <|
    oz (k_mv (.inl rfl) rfl) <|
    oz (k_sk rfl) <|
    oz (k_sk rfl) <|
    oz (k_sk rfl) <|
    oz (k_pf rfl rfl) <|
    oz (k_pf rfl rfl) <|
    ok_nil
  clear h; intro β a w h
  refine sym_then ?_
  refine s_cf h ?_
  refine wp_skip ?_
  refine sym_then ?_
  refine sym_seq ?_
  refine sym_seq ?_
  refine St.r0 h [(39, .inl (.bool false))] [] ?_ ?_
  · exact oz (k_mv (.inl rfl) rfl) <|
    ok_nil
  clear h; intro β a w h
  refine sym_then ?_
  refine s_cf h ?_
  refine wp_skip ?_
  refine sym_then ?_
  refine sym_seq ?_
  refine St.rg h [(43, .inl (el (dig r))), (44, .inl (el (dig y))), (45, .inl (.agg (ces [r, (sb y 1)]))), (3, .inl (.bool true))] [] [(1, ces [r, (sb y 1)])] [eR 3, eR 2, nn, eS 1] ?_ ?_
  · exact oc (k_ld 3 0 (el (dig r)) (c := ce r) (ldE (n := r) 42) rfl rfl) <|
    oc (k_ld 2 0 (el (dig y)) (c := ce y) (ldE (n := y) 42) rfl rfl) <|
    oc (k_ca 32 #[el (dig r), el (dig y)] (.agg (ces [r, (sb y 1)])) (fun w => at_r hy w) rfl rfl) <|
    oc (k_st 1 0 (.agg (ces [r, (sb y 1)])) (c := ces [0, 0]) (n := ces [r, (sb y 1)]) (stP (a := r) (b := (sb y 1)) (c := ces [0, 0]) 44 (by rw [ces_size]; rfl)) rfl rfl) <|
    oz (k_mv (.inr rfl) rfl) <|
    ok_nil
  clear h; intro β a w h
  refine sym_then ?_
  refine wp_ret ?_
  exact s_r2 (b := 1) (t0 := 44) (c := ces [r, (sb y 1)]) h Tryd.results13 Tryd.underlying44 (fun hb => ⟨rfl, hb⟩) (by rw [ces_size]; kernel_rfl)

end Go.Proofs.YtgojlikjcpnhjaaDoor

namespace Go.Proofs.YtgojlikjcpnhjaaDoor
open Go.RowKit
def gB : Nat := 46316835694926478169428394003475163141307993866256225615783033603165251855959
theorem gB_lt : gB < pp := by decide +kernel
theorem gX_ev : gX % 2 = 0 := by decide +kernel
theorem gB_eq : sb (mu 4 (inv 5)) 1 = gB := by decide +kernel
theorem gen_g (W0 : World) : Calls Tryd.prog 16 #[] W0 fun e w' => e = .returned (.agg (ces [gX, gB])) ∧ Below W0.heap.size W0 w' := by
  have := gen_r W0
  rwa [gB_eq] at this
end Go.Proofs.YtgojlikjcpnhjaaDoor

namespace Go.Proofs.YtgojlikjcpnhjaaDoor
open Go.RowKit
def kb (n j : Nat) : Nat := n / 256 ^ j % 256
theorem byt_kb (n : Nat) : ∀ j, j < 32 → byt (dig n) j = kb n j := by
  intro j hj
  have hq : j / 8 = 0 ∨ j / 8 = 1 ∨ j / 8 = 2 ∨ j / 8 = 3 := by omega
  have hp : (256 : Nat) ^ j = 256 ^ (8 * (j / 8)) * 256 ^ (j % 8) := by rw [← Nat.pow_add, Nat.div_add_mod]
  unfold byt kb
  rw [hp, ← Nat.div_div_eq_div_mul]
  have hr : j % 8 < 8 := Nat.mod_lt _ (by omega)
  -- a word, and what stands above it
  have key : ∀ y, y % 18446744073709551616 / 256 ^ (j % 8) % 256 = y / 256 ^ (j % 8) % 256 := by
    intro y
    have e1 : y = y % 18446744073709551616 + 18446744073709551616 * (y / 18446744073709551616) := (Nat.mod_add_div _ _).symm
    have e2 : (18446744073709551616 : Nat) = 256 ^ (j % 8) * (256 ^ (7 - j % 8) * 256) := by
      rw [← Nat.pow_succ, ← Nat.pow_add, show j % 8 + (7 - j % 8).succ = 8 by omega]
    conv => rhs; rw [e1]
    conv => rhs; rw [show 18446744073709551616 * (y / 18446744073709551616) = 256 ^ (j % 8) * ((256 ^ (7 - j % 8) * (y / 18446744073709551616)) * 256) by
      conv => lhs; arg 1; rw [e2]
      simp only [Nat.mul_assoc, Nat.mul_comm 256 _]]
    rw [Nat.add_mul_div_left _ _ (Nat.pow_pos (by omega)), Nat.add_mul_mod_self_right]
  rcases hq with h | h | h | h <;> rw [h]
  · show n % 18446744073709551616 / _ % 256 = _
    rw [key]; simp
  · show n / 18446744073709551616 % 18446744073709551616 / _ % 256 = _
    rw [key]
  · show n / 340282366920938463463374607431768211456 % 18446744073709551616 / _ % 256 = _
    rw [key]
  · show n / 6277101735386680763835789423207666416102355444464034512896 % 18446744073709551616 / _ % 256 = _
    rw [key]

theorem pp_256 {m : Nat} (h : m < pp) : m < 2 ^ 256 := Nat.lt_trans h (by decide +kernel)
theorem kb_top {n : Nat} (hn : n < pp) : kb n 31 < 128 := by rw [← byt_kb n 31 (by omega)]; exact byt_top hn
theorem inv_1 : inv 1 = 1 := by decide +kernel
theorem mu_1 {m : Nat} (h : m < pp) : mu m (inv 1) = m := by rw [inv_1]; unfold mu; rw [Nat.mul_one, Nat.mod_eq_of_lt h]
theorem ad_sb {y : Nat} (h : y < pp) : ad (sb y 1) 1 = y := by
  unfold ad sb
  have := one_ltp
  rw [Nat.mod_add_mod, show y + (pp - 1) + 1 = y + pp by omega, Nat.add_mod_right, Nat.mod_eq_of_lt h]
theorem sb_odd {r : Nat} (hr : r < pp) (h0 : r ≠ 0) (he : r % 2 = 0) : sb 0 r % 2 = 1 := by
  have e : sb 0 r = pp - r := by
    unfold sb
    rw [Nat.zero_add]; exact Nat.mod_eq_of_lt (by omega)
  rw [e]
  have := pp_odd
  omega
theorem ring_x {R : Type} [Lean.Grind.CommRing R] (x1 y1 x2 y2 d o t : R) : ((y1 + x1) * (y2 + x2) - (y1 - x1) * (y2 - x2)) * ((o * o + o * o) - (t * d + t * d)) = ((x1 * y2 + y1 * x2) * (o * o - d * t) + (x1 * y2 + y1 * x2) * (o * o - d * t)) + ((x1 * y2 + y1 * x2) * (o * o - d * t) + (x1 * y2 + y1 * x2) * (o * o - d * t)) := by grind
theorem ring_y {R : Type} [Lean.Grind.CommRing R] (x1 y1 x2 y2 d o t : R) : ((y1 + x1) * (y2 + x2) + (y1 - x1) * (y2 - x2)) * ((o * o + o * o) + (t * d + t * d)) = ((o * o + d * t) * (y1 * y2 + x1 * x2) + (o * o + d * t) * (y1 * y2 + x1 * x2)) + ((o * o + d * t) * (y1 * y2 + x1 * x2) + (o * o + d * t) * (y1 * y2 + x1 * x2)) := by grind
theorem ring_z {R : Type} [Lean.Grind.CommRing R] (d o t : R) : ((o * o + o * o) + (t * d + t * d)) * ((o * o + o * o) - (t * d + t * d)) = ((o * o - d * t) * (o * o + d * t) + (o * o - d * t) * (o * o + d * t)) + ((o * o - d * t) * (o * o + d * t) + (o * o - d * t) * (o * o + d * t)) := by grind
theorem ring_q {R : Type} [Lean.Grind.CommRing R] (f g o x w : R) (h1 : f * g = o) (h2 : o * (x * w) = x * w) : f * x * (o * (g * w)) = x * w := by grind
theorem ring_n {R : Type} [Lean.Grind.CommRing R] (z x y : R) (h : z * y = z) : z - x * y = (z - x) * y := by grind
instance : NeZero pp := ⟨by decide +kernel⟩
def cf (n : Nat) : Fin pp := Fin.ofNat pp n
theorem cf_mu (m n : Nat) : cf (mu m n) = cf m * cf n := by
  apply Fin.ext
  simp only [cf, mu, Fin.ofNat, Fin.val_mul]
  rw [Nat.mod_mod, Nat.mul_mod]
theorem cf_ad (m n : Nat) : cf (ad m n) = cf m + cf n := by
  apply Fin.ext
  simp only [cf, ad, Fin.ofNat, Fin.val_add]
  rw [Nat.mod_mod, Nat.add_mod]
theorem cf_sb {m n : Nat} (h : n < pp) : cf (sb m n) = cf m - cf n := by
  apply Fin.ext
  simp only [cf, sb, Fin.ofNat, Fin.sub_def]
  rw [Nat.mod_mod, Nat.mod_eq_of_lt h, Nat.add_mod_mod, Nat.add_comm]
theorem cf_inj {m n : Nat} (hm : m < pp) (hn : n < pp) (h : cf m = cf n) : m = n := by
  have := congrArg Fin.val h
  simp only [cf, Fin.ofNat] at this
  rwa [Nat.mod_eq_of_lt hm, Nat.mod_eq_of_lt hn] at this
def qd (n : Nat) : Nat := ad (ad n n) (ad n n)
theorem qd_mu (n : Nat) : qd n = mu 4 n := by
  unfold qd ad mu
  rw [← Nat.add_mod]
  exact congrArg (· % pp) (by omega)
theorem inv_mu (m n : Nat) : inv (mu m n) = mu (inv m) (inv n) := by
  obtain ⟨k, hk⟩ : ∃ k : Nat, k = 57896044618658097711785492504343953926634992332820282019728792003956564819947 := ⟨_, rfl⟩
  rw [← inv_pow_eq hk, ← inv_pow_eq hk, ← inv_pow_eq hk]
  exact mul_pow_mod
theorem one_mu {n : Nat} (h : n < pp) : mu 1 n = n := by unfold mu; rw [Nat.one_mul, Nat.mod_eq_of_lt h]
theorem four_inv : mu 4 (inv 4) = 1 := by decide +kernel
theorem quo {x z : Nat} : mu (qd x) (mu 1 (inv (qd z))) = mu x (inv z) := by
  rw [qd_mu, qd_mu, inv_mu]
  refine cf_inj (mu_lt _ _) (mu_lt _ _) ?_
  have h1 := congrArg cf four_inv
  have h2 := congrArg cf (one_mu (mu_lt x (inv z)))
  simp only [cf_mu] at h1 h2 ⊢
  exact ring_q _ _ _ _ _ h1 h2
theorem neg_mu {x y : Nat} (hx : x < pp) : sb 0 (mu x y) = mu (sb 0 x) y := by
  refine cf_inj (sb_lt _ _) (mu_lt _ _) ?_
  have h : mu 0 y = 0 := by unfold mu; rw [Nat.zero_mul, Nat.zero_mod]
  have h1 := congrArg cf h
  rw [cf_sb (mu_lt _ _), cf_mu, cf_mu, cf_sb hx]
  rw [cf_mu] at h1
  exact ring_n _ _ _ h1
def rX (x1 y1 x2 y2 t : Nat) : Nat := mu (ad (mu x1 y2) (mu y1 x2)) (sb (mu 1 1) (mu dN t))
def rY (x1 y1 x2 y2 t : Nat) : Nat := mu (ad (mu 1 1) (mu dN t)) (ad (mu y1 y2) (mu x1 x2))
def rZ (t : Nat) : Nat := mu (sb (mu 1 1) (mu dN t)) (ad (mu 1 1) (mu dN t))
theorem pX_eq {x1 y1 x2 y2 : Nat} (hx1 : x1 < pp) (hy1 : y1 < pp) (hx2 : x2 < pp) (hy2 : y2 < pp) : pX x1 (sb y1 1) x2 (sb y2 1) = qd (rX x1 y1 x2 y2 (mu (mu x1 y1) (mu x2 y2))) := by
  unfold pX rX
  rw [ad_sb hy1, ad_sb hy2]
  generalize ht : mu (mu x1 y1) (mu x2 y2) = t
  refine cf_inj (mu_lt _ _) (ad_lt _ _) ?_
  unfold qd
  rw [cf_mu, cf_sb (mu_lt _ _), cf_mu, cf_ad, cf_ad, cf_mu, cf_sb hx1, cf_sb hx2, cf_sb (ad_lt _ _), cf_ad, cf_ad, cf_ad, cf_ad, cf_mu, cf_mu, cf_mu, cf_ad, cf_mu, cf_mu, cf_sb (mu_lt _ _), cf_mu, cf_mu]
  exact ring_x _ _ _ _ _ _ _
theorem pY_eq {x1 y1 x2 y2 : Nat} (hx1 : x1 < pp) (hy1 : y1 < pp) (hx2 : x2 < pp) (hy2 : y2 < pp) : pY x1 (sb y1 1) x2 (sb y2 1) = qd (rY x1 y1 x2 y2 (mu (mu x1 y1) (mu x2 y2))) := by
  unfold pY rY
  rw [ad_sb hy1, ad_sb hy2]
  generalize ht : mu (mu x1 y1) (mu x2 y2) = t
  refine cf_inj (mu_lt _ _) (ad_lt _ _) ?_
  unfold qd
  simp only [cf_mu, cf_ad, cf_sb hx1, cf_sb hx2]
  exact ring_y _ _ _ _ _ _ _
theorem pZ_eq {x1 y1 x2 y2 : Nat} (hy1 : y1 < pp) (hy2 : y2 < pp) : pZ x1 (sb y1 1) x2 (sb y2 1) = qd (rZ (mu (mu x1 y1) (mu x2 y2))) := by
  unfold pZ rZ
  rw [ad_sb hy1, ad_sb hy2]
  generalize ht : mu (mu x1 y1) (mu x2 y2) = t
  refine cf_inj (mu_lt _ _) (ad_lt _ _) ?_
  unfold qd
  simp only [cf_mu, cf_ad, cf_sb (ad_lt _ _), cf_sb (mu_lt _ _)]
  exact ring_z _ _ _
theorem sx_eq {x1 y1 x2 y2 : Nat} (hx1 : x1 < pp) (hy1 : y1 < pp) (hx2 : x2 < pp) (hy2 : y2 < pp) : sx x1 (sb y1 1) x2 (sb y2 1) = mu (rX x1 y1 x2 y2 (mu (mu x1 y1) (mu x2 y2))) (inv (rZ (mu (mu x1 y1) (mu x2 y2)))) := by
  unfold sx
  rw [pX_eq hx1 hy1 hx2 hy2, pZ_eq hy1 hy2, quo]
theorem sy_eq {x1 y1 x2 y2 : Nat} (hx1 : x1 < pp) (hy1 : y1 < pp) (hx2 : x2 < pp) (hy2 : y2 < pp) : sy x1 (sb y1 1) x2 (sb y2 1) = mu (rY x1 y1 x2 y2 (mu (mu x1 y1) (mu x2 y2))) (inv (rZ (mu (mu x1 y1) (mu x2 y2)))) := by
  unfold sy
  rw [pY_eq hx1 hy1 hx2 hy2, pZ_eq hy1 hy2, quo]
/-- A point's text. -/
def tk (x y : Nat) : Nat → Nat := if x % 2 = 0 then kb y else updN (kb y) 31 (kb y 31 + 128)
theorem pk {x b : Nat} (hx : x < pp) (hb : b < pp) (W0 : World) : Calls Tryd.prog 19 #[.agg (ces [x, b])] W0 fun e w' => e = .returned (.agg (ck (tk x (ad b 1)))) ∧ Below W0.heap.size W0 w' := by
  unfold tk
  by_cases h : x % 2 = 0
  · have := pkey_e hx hb h W0
    rw [ck_congr (byt_kb _)] at this
    rw [if_pos h]; exact this
  · have := pkey_o hx hb h W0
    rw [ck_congr (G := updN (kb (ad b 1)) 31 (kb (ad b 1) 31 + 128)) (fun i hi => by
      unfold updN
      split
      · rw [byt_kb _ 31 (by omega)]
      · exact byt_kb _ i hi)] at this
    rw [if_neg h]; exact this
theorem kb_mod {m n : Nat} : ∀ k, (∀ i, i < k → kb m i = kb n i) → m % 256 ^ k = n % 256 ^ k
  | 0, _ => by rw [Nat.pow_zero, Nat.mod_one, Nat.mod_one]
  | k + 1, h => by
    rw [Nat.pow_succ, Nat.mod_mul, Nat.mod_mul, kb_mod k fun i hi => h i (by omega)]
    have := h k (by omega)
    unfold kb at this
    rw [this]
theorem kb_inj {m n : Nat} (hm : m < pp) (hn : n < pp) (h : ∀ i, i < 32 → kb m i = kb n i) : m = n := by
  have := kb_mod 32 h
  rwa [Nat.mod_eq_of_lt (pp_256 hm), Nat.mod_eq_of_lt (pp_256 hn)] at this
theorem tk_inj {x1 y1 x2 y2 : Nat} (hy1 : y1 < pp) (hy2 : y2 < pp) (h : ∀ i, i < 32 → tk x1 y1 i = tk x2 y2 i) : y1 = y2 ∧ x1 % 2 = x2 % 2 := by
  have t1 := kb_top hy1
  have t2 := kb_top hy2
  have e31 : ∀ x y, tk x y 31 = if x % 2 = 0 then kb y 31 else kb y 31 + 128 := by
    intro x y; unfold tk; split
    · rfl
    · unfold updN; rw [if_pos rfl]
  have eo : ∀ x y i, i ≠ 31 → tk x y i = kb y i := by
    intro x y i hi; unfold tk; split
    · rfl
    · unfold updN; rw [if_neg hi]
  have h31 := h 31 (by omega)
  rw [e31, e31] at h31
  have hp : x1 % 2 = x2 % 2 ∧ kb y1 31 = kb y2 31 := by
    split at h31 <;> split at h31 <;> omega
  refine ⟨kb_inj hy1 hy2 fun i hi => ?_, hp.1⟩
  by_cases e : i = 31
  · subst e; exact hp.2
  · have := h i hi
    rwa [eo _ _ _ e, eo _ _ _ e] at this
def uY (y : Nat) : Nat := mu (sb (mu y y) 1) (inv (ad (mu dN (mu y y)) 1))
theorem same_x {x1 x2 y : Nat} (hx1 : x1 < pp) (hx2 : x2 < pp) (h1 : mu x1 x1 = uY y) (h2 : mu x2 x2 = uY y) (hp : x1 % 2 = x2 % 2) : x1 = x2 := by
  rcases sq_eq hx1 hx2 (h1.trans h2.symm) with h | h
  · exact h
  · have := pp_odd
    omega
end Go.Proofs.YtgojlikjcpnhjaaDoor

namespace Go.Proofs.YtgojlikjcpnhjaaDoor
open Go.RowKit
theorem mu_zero (n : Nat) : mu 0 n = 0 := by unfold mu; rw [Nat.zero_mul, Nat.zero_mod]
theorem sb_11 : sb 1 1 = 0 := by decide +kernel
theorem uY_1 : uY 1 = 0 := by decide +kernel
theorem neg_sq {r : Nat} (hr : r < pp) (h0 : r ≠ 0) : mu (sb 0 r) (sb 0 r) = mu r r := by
  have e : sb 0 r = pp - r := by
    unfold sb
    rw [Nat.zero_add]; exact Nat.mod_eq_of_lt (by omega)
  rw [e]; unfold mu
  exact sq_neg (Nat.le_of_lt hr)
end Go.Proofs.YtgojlikjcpnhjaaDoor

namespace Go.Proofs.YtgojlikjcpnhjaaDoor
theorem no_den {R : Type} [Lean.Grind.CommRing R] (d i : R) (nzd : ∀ a b : R, a * b = 0 → a = 0 ∨ b = 0) (h20 : ∀ a : R, a + a = 0 → a = 0) (h10 : (1 : R) ≠ 0) (ns : ∀ a b : R, d * (b * b) = a * a → b = 0) (hi : i * i = -1) {x1 y1 x2 y2 e : R} (he : e * e = 1) (h1 : y1 * y1 - x1 * x1 = 1 + d * (x1 * x1 * y1 * y1)) (h2 : y2 * y2 - x2 * x2 = 1 + d * (x2 * x2 * y2 * y2)) (h : d * (x1 * x2 * y1 * y2) = e) : False := by
  have a1 := ns (y1 + i * e * x1) (x1 * y1 * (y2 + i * x2)) (by have := den_e d x1 y1 x2 y2 i e hi he h1 h2 h; grind)
  have a2 := ns (y1 + -i * e * x1) (x1 * y1 * (y2 + -i * x2)) (by have := den_e d x1 y1 x2 y2 (-i) e (by grind) he h1 h2 h; grind)
  have nxy : x1 * y1 ≠ 0 := by
    intro z
    have : e = 0 := by grind
    apply h10; grind
  have b1 : y2 + i * x2 = 0 := (nzd _ _ a1).resolve_left nxy
  have b2 : y2 + -i * x2 = 0 := (nzd _ _ a2).resolve_left nxy
  have c : y2 = 0 := h20 _ (by grind)
  apply h10
  grind
/-- A text's y gives no denominator 0 either. -/
theorem no_den1 {R : Type} [Lean.Grind.CommRing R] (d i : R) (h10 : (1 : R) ≠ 0) (ns : ∀ a b : R, d * (b * b) = a * a → b = 0) (hi : i * i = -1) {y : R} (h : d * (y * y) + 1 = 0) : False := by
  have a1 := ns i y (by grind)
  apply h10
  grind
theorem fin_nzd (a b : Fin pp) (h : a * b = 0) : a = 0 ∨ b = 0 := by
  by_cases ha : a.val = 0
  · exact Or.inl (Fin.ext ha)
  · by_cases hb : b.val = 0
    · exact Or.inr (Fin.ext hb)
    · exact absurd (by have := congrArg Fin.val h; rw [Fin.val_mul] at this; exact this) (mul_ne a.isLt b.isLt ha hb)
theorem fin_20 (a : Fin pp) (h : a + a = 0) : a = 0 := by
  have := congrArg Fin.val h
  rw [Fin.val_add] at this
  apply Fin.ext
  have hl := a.isLt
  have ho := pp_odd
  change (a.val + a.val) % pp = 0 at this
  show a.val = 0
  rcases Nat.lt_or_ge (a.val + a.val) pp with c | c
  · rw [Nat.mod_eq_of_lt c] at this; omega
  · rw [Nat.mod_eq_sub_mod c, Nat.mod_eq_of_lt (by omega)] at this; omega
theorem fin_10 : (1 : Fin pp) ≠ 0 := by
  intro h
  have := congrArg Fin.val h
  exact absurd this (by decide +kernel)
theorem d_pow {k : Nat} (hk : k = 28948022309329048855892746252171976963317496166410141009864396001978282409974) : dN ^ k % pp = pp - 1 := by
  have h : k < 2 ^ 255 := by rw [hk]; decide +kernel
  rw [← pmod_eq dN pp 255 k h, hk]
  decide +kernel
theorem ring_d {R : Type} [Lean.Grind.CommRing R] (d a b c o : R) (h : d * (b * b) = a * a) (h1 : b * c = o) (h2 : o * d = d) : a * c * (a * c) = d := by grind
theorem d_nosq {a b : Nat} (hb : b < pp) (h0 : b ≠ 0) (h : mu dN (mu b b) = mu a a) : False := by
  obtain ⟨k, hk⟩ : ∃ k : Nat, k = 28948022309329048855892746252171976963317496166410141009864396001978282409974 := ⟨_, rfl⟩
  have hh : 2 * k + 1 = pp := by rw [hk]; unfold pp; omega
  have e : mu (mu a (inv b)) (mu a (inv b)) = dN := by
    refine cf_inj (mu_lt _ _) dN_lt ?_
    have h1 := congrArg cf h
    have h2 : cf (mu b (inv b)) = cf 1 := congrArg cf (inv_mul hb h0)
    have h3 := congrArg cf (one_mu dN_lt)
    simp only [cf_mu] at h1 h2 h3 ⊢
    exact ring_d _ _ _ _ _ h1 h2 h3
  have e1 := one_of_root hh (by decide +kernel) e
  rw [d_pow hk] at e1
  exact absurd e1 (by decide +kernel)
theorem cf_val (a : Fin pp) : cf a.val = a := Fin.ext (Nat.mod_eq_of_lt a.isLt)
theorem fin_ns (a b : Fin pp) (h : cf dN * (b * b) = a * a) : b = 0 := by
  by_cases hb : b.val = 0
  · exact Fin.ext hb
  · refine (d_nosq (a := a.val) b.isLt hb ?_).elim
    refine cf_inj (mu_lt _ _) (mu_lt _ _) ?_
    rw [cf_mu, cf_mu, cf_mu, cf_val, cf_val]; exact h
theorem fin_i : cf iRt * cf iRt = -(1 : Fin pp) := by
  have h : mu iRt iRt = sb 0 1 := by decide +kernel
  rw [← cf_mu, h]
  apply Fin.ext
  decide +kernel
/-- The sum's denominators are not 0. -/
theorem fin_den {x1 y1 x2 y2 e : Fin pp} (he : e * e = 1) (h1 : y1 * y1 - x1 * x1 = 1 + cf dN * (x1 * x1 * y1 * y1)) (h2 : y2 * y2 - x2 * x2 = 1 + cf dN * (x2 * x2 * y2 * y2)) (h : cf dN * (x1 * x2 * y1 * y2) = e) : False :=
  no_den (cf dN) (cf iRt) fin_nzd fin_20 fin_10 fin_ns fin_i he h1 h2 h
theorem fin_den1 {y : Fin pp} (h : cf dN * (y * y) + 1 = 0) : False :=
  no_den1 (cf dN) (cf iRt) fin_10 fin_ns fin_i h
end Go.Proofs.YtgojlikjcpnhjaaDoor

namespace Go.Proofs.YtgojlikjcpnhjaaDoor

section
variable {R : Type} [Lean.Grind.CommRing R]
theorem g_close (d N1 N2 A B a b : R) (hA : A * a = 1) (hB : B * b = 1) (h : N2 ^ 2 * A ^ 2 - N1 ^ 2 * B ^ 2 = B ^ 2 * A ^ 2 + d * (N1 ^ 2 * N2 ^ 2)) : N2 * b * (N2 * b) - N1 * a * (N1 * a) = 1 + d * (N1 * a * (N1 * a) * (N2 * b) * (N2 * b)) := by grind
theorem g_ax (d x1 y1 x3 y3 N1 N2 M1 M2 A B C E a b c e : R) (hA : A * a = 1) (hB : B * b = 1) (hC : C * c = 1) (hE : E * e = 1)
    (h : (N1 * B * y3 + N2 * A * x3) * (C * E + d * (M1 * M2) * (x1 * y1)) = (x1 * M2 * C + y1 * M1 * E) * (A * B + d * (N1 * N2) * (x3 * y3))) :
    (N1 * a * y3 + N2 * b * x3) * (1 + d * (x1 * (M1 * c) * y1 * (M2 * e))) = (x1 * (M2 * e) + y1 * (M1 * c)) * (1 + d * (N1 * a * x3 * (N2 * b) * y3)) := by
  have e1 : (N1 * a * y3 + N2 * b * x3) * (1 + d * (x1 * (M1 * c) * y1 * (M2 * e))) = (N1 * B * y3 + N2 * A * x3) * (C * E + d * (M1 * M2) * (x1 * y1)) * (a * b * c * e) := by grind
  have e2 : (x1 * (M2 * e) + y1 * (M1 * c)) * (1 + d * (N1 * a * x3 * (N2 * b) * y3)) = (x1 * M2 * C + y1 * M1 * E) * (A * B + d * (N1 * N2) * (x3 * y3)) * (a * b * c * e) := by grind
  rw [e1, e2, h]
theorem g_ay (d x1 y1 x3 y3 N1 N2 M1 M2 A B C E a b c e : R) (hA : A * a = 1) (hB : B * b = 1) (hC : C * c = 1) (hE : E * e = 1)
    (h : (N2 * A * y3 + N1 * B * x3) * (C * E - d * (M1 * M2) * (x1 * y1)) = (y1 * M2 * C + x1 * M1 * E) * (A * B - d * (N1 * N2) * (x3 * y3))) :
    (N2 * b * y3 + N1 * a * x3) * (1 - d * (x1 * (M1 * c) * y1 * (M2 * e))) = (y1 * (M2 * e) + x1 * (M1 * c)) * (1 - d * (N1 * a * x3 * (N2 * b) * y3)) := by
  have e1 : (N2 * b * y3 + N1 * a * x3) * (1 - d * (x1 * (M1 * c) * y1 * (M2 * e))) = (N2 * A * y3 + N1 * B * x3) * (C * E - d * (M1 * M2) * (x1 * y1)) * (a * b * c * e) := by grind
  have e2 : (y1 * (M2 * e) + x1 * (M1 * c)) * (1 - d * (N1 * a * x3 * (N2 * b) * y3)) = (y1 * M2 * C + x1 * M1 * E) * (A * B - d * (N1 * N2) * (x3 * y3)) * (a * b * c * e) := by grind
  rw [e1, e2, h]
theorem g_10 : (1 : R) + 0 = 1 := by grind
theorem g_m0 : (1 : R) - 0 = 1 := by grind
theorem g_div (u v P Q p q : R) (hP : P * p = 1) (hQ : Q * q = 1) (h : u * Q = v * P) : u * p = v * q := by grind
end

abbrev Fp := Fin pp
def fi (a : Fp) : Fp := cf (inv a.val)
theorem cf_one : cf 1 = 1 := rfl
theorem fi_mul {a : Fp} (h : a ≠ 0) : a * fi a = 1 := by
  have h1 := inv_mul a.isLt (fun e => h (Fin.ext e))
  have h2 : cf (mu a.val (inv a.val)) = cf 1 := congrArg cf h1
  rw [cf_mu, cf_val] at h2
  exact h2
theorem fi_one : fi 1 = 1 := by have := fi_mul fin_10; grind
def dF : Fp := cf dN
def OC (p : Fp × Fp) : Prop := p.2 * p.2 - p.1 * p.1 = 1 + dF * (p.1 * p.1 * p.2 * p.2)
def pd (p q : Fp × Fp) : Fp := dF * (p.1 * q.1 * p.2 * q.2)
def pa (p q : Fp × Fp) : Fp × Fp := ((p.1 * q.2 + p.2 * q.1) * fi (1 + pd p q), (p.2 * q.2 + p.1 * q.1) * fi (1 - pd p q))
def pO : Fp × Fp := (0, 1)
def pn (p : Fp × Fp) : Fp × Fp := (-p.1, p.2)
theorem oc_O : OC pO := by unfold OC pO; grind
theorem oc_n {p : Fp × Fp} (h : OC p) : OC (pn p) := by unfold OC pn at *; grind
theorem pd_n1 {p q : Fp × Fp} (hp : OC p) (hq : OC q) : 1 + pd p q ≠ 0 := fun h => fin_den (e := -1) (by grind) hp hq (by unfold pd dF at h; grind)
theorem pd_n2 {p q : Fp × Fp} (hp : OC p) (hq : OC q) : 1 - pd p q ≠ 0 := fun h => fin_den (e := 1) (by grind) hp hq (by unfold pd dF at h; grind)
theorem pa_oc {p q : Fp × Fp} (hp : OC p) (hq : OC q) : OC (pa p q) := by
  have h := closure_e dF p.1 p.2 q.1 q.2 hp hq
  exact g_close dF _ _ _ _ _ _ (fi_mul (pd_n1 hp hq)) (fi_mul (pd_n2 hp hq)) h
theorem pa_comm (p q : Fp × Fp) : pa p q = pa q p := by
  have e : pd p q = pd q p := by unfold pd; grind
  unfold pa
  rw [e]
  refine Prod.ext ?_ ?_
  · show _ * fi _ = _ * fi _
    congr 1; grind
  · show _ * fi _ = _ * fi _
    congr 1; grind
theorem pa_assoc {p q r : Fp × Fp} (hp : OC p) (hq : OC q) (hr : OC r) : pa (pa p q) r = pa p (pa q r) := by
  have A := fi_mul (pd_n1 hp hq)
  have B := fi_mul (pd_n2 hp hq)
  have C := fi_mul (pd_n1 hq hr)
  have E := fi_mul (pd_n2 hq hr)
  have P1 := fi_mul (pd_n1 (pa_oc hp hq) hr)
  have P2 := fi_mul (pd_n2 (pa_oc hp hq) hr)
  have Q1 := fi_mul (pd_n1 hp (pa_oc hq hr))
  have Q2 := fi_mul (pd_n2 hp (pa_oc hq hr))
  refine Prod.ext ?_ ?_
  · exact g_div _ _ _ _ _ _ P1 Q1 (g_ax dF p.1 p.2 r.1 r.2 _ _ _ _ _ _ _ _ _ _ _ _ A B C E (assoc_x dF p.1 p.2 q.1 q.2 r.1 r.2 hp hq hr))
  · exact g_div _ _ _ _ _ _ P2 Q2 (g_ay dF p.1 p.2 r.1 r.2 _ _ _ _ _ _ _ _ _ _ _ _ A B C E (assoc_y dF p.1 p.2 q.1 q.2 r.1 r.2 hp hq hr))
theorem pa_O (p : Fp × Fp) : pa p pO = p := by
  have e : pd p pO = 0 := by unfold pd pO; grind
  unfold pa
  rw [e]
  refine Prod.ext ?_ ?_
  · show (p.1 * 1 + p.2 * 0) * fi (1 + 0) = p.1
    rw [g_10 (R := Fp), fi_one]; grind
  · show (p.2 * 1 + p.1 * 0) * fi (1 - 0) = p.2
    rw [g_m0 (R := Fp), fi_one]; grind
theorem pa_n {p : Fp × Fp} (hp : OC p) : pa p (pn p) = pO := by
  have B := fi_mul (pd_n2 hp (oc_n hp))
  have h := hp
  unfold OC at h
  refine Prod.ext ?_ ?_
  · show (p.1 * p.2 + p.2 * -p.1) * fi _ = 0
    grind
  · show (p.2 * p.2 + p.1 * -p.1) * fi (1 - pd p (pn p)) = 1
    have e : p.2 * p.2 + p.1 * -p.1 = 1 - pd p (pn p) := by unfold pd pn; grind
    rw [e]; exact B

/-- So many times a point. -/
def mt : Nat → Fp × Fp → Fp × Fp
  | 0, _ => pO
  | k + 1, p => pa (mt k p) p
theorem mt_oc {p : Fp × Fp} (hp : OC p) : ∀ k, OC (mt k p)
  | 0 => oc_O
  | k + 1 => pa_oc (mt_oc hp k) hp
theorem mt_add {p : Fp × Fp} (hp : OC p) (j : Nat) : ∀ k, pa (mt j p) (mt k p) = mt (j + k) p
  | 0 => pa_O _
  | k + 1 => by
    show pa (mt j p) (pa (mt k p) p) = pa (mt (j + k) p) p
    rw [← pa_assoc (mt_oc hp j) (mt_oc hp k) hp, mt_add hp j k]
theorem mt_mul {p : Fp × Fp} (hp : OC p) (k : Nat) : ∀ j, mt j (mt k p) = mt (j * k) p
  | 0 => by rw [Nat.zero_mul]; rfl
  | j + 1 => by
    show pa (mt j (mt k p)) (mt k p) = _
    rw [mt_mul hp k j, mt_add hp, Nat.succ_mul]

/-- A point by four numbers: X = x Z, Y = y Z, T = x y Z. -/
def Pj (v : Nat × Nat × Nat × Nat) (p : Fp × Fp) : Prop := cf v.2.2.1 ≠ 0 ∧ cf v.1 = p.1 * cf v.2.2.1 ∧ cf v.2.1 = p.2 * cf v.2.2.1 ∧ cf v.2.2.2 = p.1 * p.2 * cf v.2.2.1
def Gd (v : Nat × Nat × Nat × Nat) : Prop := v.1 < pp ∧ v.2.1 < pp ∧ v.2.2.1 < pp ∧ v.2.2.2 < pp
section
variable {R : Type} [Lean.Grind.CommRing R]
/-- The program's sum. -/
theorem g_sX (d x1 y1 z1 x2 y2 z2 A B a : R) (hA : A * a = 1) (eA : A = 1 + d * (x1 * x2 * y1 * y2)) (_eB : B = 1 - d * (x1 * x2 * y1 * y2)) :
    ((y1 * z1 + x1 * z1) * (y2 * z2 + x2 * z2) - (y1 * z1 - x1 * z1) * (y2 * z2 - x2 * z2)) * ((z1 * z2 + z1 * z2) - (x1 * y1 * z1 * (x2 * y2 * z2) * d + x1 * y1 * z1 * (x2 * y2 * z2) * d)) =
    (x1 * y2 + y1 * x2) * a * (((z1 * z2 + z1 * z2) + (x1 * y1 * z1 * (x2 * y2 * z2) * d + x1 * y1 * z1 * (x2 * y2 * z2) * d)) * ((z1 * z2 + z1 * z2) - (x1 * y1 * z1 * (x2 * y2 * z2) * d + x1 * y1 * z1 * (x2 * y2 * z2) * d))) := by
  have e1 : (z1 * z2 + z1 * z2) + (x1 * y1 * z1 * (x2 * y2 * z2) * d + x1 * y1 * z1 * (x2 * y2 * z2) * d) = (z1 * z2 + z1 * z2) * A := by grind
  rw [e1]; grind
theorem g_sY (d x1 y1 z1 x2 y2 z2 A B b : R) (hB : B * b = 1) (_eA : A = 1 + d * (x1 * x2 * y1 * y2)) (eB : B = 1 - d * (x1 * x2 * y1 * y2)) :
    ((y1 * z1 + x1 * z1) * (y2 * z2 + x2 * z2) + (y1 * z1 - x1 * z1) * (y2 * z2 - x2 * z2)) * ((z1 * z2 + z1 * z2) + (x1 * y1 * z1 * (x2 * y2 * z2) * d + x1 * y1 * z1 * (x2 * y2 * z2) * d)) =
    (y1 * y2 + x1 * x2) * b * (((z1 * z2 + z1 * z2) + (x1 * y1 * z1 * (x2 * y2 * z2) * d + x1 * y1 * z1 * (x2 * y2 * z2) * d)) * ((z1 * z2 + z1 * z2) - (x1 * y1 * z1 * (x2 * y2 * z2) * d + x1 * y1 * z1 * (x2 * y2 * z2) * d))) := by
  have e1 : (z1 * z2 + z1 * z2) - (x1 * y1 * z1 * (x2 * y2 * z2) * d + x1 * y1 * z1 * (x2 * y2 * z2) * d) = (z1 * z2 + z1 * z2) * B := by grind
  rw [e1]; grind
theorem g_sT (d x1 y1 z1 x2 y2 z2 A B a b : R) (hA : A * a = 1) (hB : B * b = 1) (eA : A = 1 + d * (x1 * x2 * y1 * y2)) (eB : B = 1 - d * (x1 * x2 * y1 * y2)) :
    ((y1 * z1 + x1 * z1) * (y2 * z2 + x2 * z2) - (y1 * z1 - x1 * z1) * (y2 * z2 - x2 * z2)) * ((y1 * z1 + x1 * z1) * (y2 * z2 + x2 * z2) + (y1 * z1 - x1 * z1) * (y2 * z2 - x2 * z2)) =
    (x1 * y2 + y1 * x2) * a * ((y1 * y2 + x1 * x2) * b) * (((z1 * z2 + z1 * z2) + (x1 * y1 * z1 * (x2 * y2 * z2) * d + x1 * y1 * z1 * (x2 * y2 * z2) * d)) * ((z1 * z2 + z1 * z2) - (x1 * y1 * z1 * (x2 * y2 * z2) * d + x1 * y1 * z1 * (x2 * y2 * z2) * d))) := by
  have e1 : (z1 * z2 + z1 * z2) + (x1 * y1 * z1 * (x2 * y2 * z2) * d + x1 * y1 * z1 * (x2 * y2 * z2) * d) = (z1 * z2 + z1 * z2) * A := by grind
  have e2 : (z1 * z2 + z1 * z2) - (x1 * y1 * z1 * (x2 * y2 * z2) * d + x1 * y1 * z1 * (x2 * y2 * z2) * d) = (z1 * z2 + z1 * z2) * B := by grind
  rw [e1, e2]
  have e3 : (x1 * y2 + y1 * x2) * a * ((y1 * y2 + x1 * x2) * b) * ((z1 * z2 + z1 * z2) * A * ((z1 * z2 + z1 * z2) * B)) = (x1 * y2 + y1 * x2) * (y1 * y2 + x1 * x2) * ((z1 * z2 + z1 * z2) * (z1 * z2 + z1 * z2)) * ((A * a) * (B * b)) := by grind
  rw [e3, hA, hB]; grind
/-- The reference's sum. -/
theorem g_rX (d x1 y1 z1 x2 y2 z2 A B a : R) (hA : A * a = 1) (eA : A = 1 + d * (x1 * x2 * y1 * y2)) (_eB : B = 1 - d * (x1 * x2 * y1 * y2)) :
    (x1 * z1 * (y2 * z2) + y1 * z1 * (x2 * z2)) * (z1 * z2 - d * (x1 * y1 * z1 * (x2 * y2 * z2))) = (x1 * y2 + y1 * x2) * a * ((z1 * z2 - d * (x1 * y1 * z1 * (x2 * y2 * z2))) * (z1 * z2 + d * (x1 * y1 * z1 * (x2 * y2 * z2)))) := by
  have e1 : z1 * z2 + d * (x1 * y1 * z1 * (x2 * y2 * z2)) = z1 * z2 * A := by grind
  rw [e1]; grind
theorem g_rY (d x1 y1 z1 x2 y2 z2 A B b : R) (hB : B * b = 1) (_eA : A = 1 + d * (x1 * x2 * y1 * y2)) (eB : B = 1 - d * (x1 * x2 * y1 * y2)) :
    (z1 * z2 + d * (x1 * y1 * z1 * (x2 * y2 * z2))) * (y1 * z1 * (y2 * z2) + x1 * z1 * (x2 * z2)) = (y1 * y2 + x1 * x2) * b * ((z1 * z2 - d * (x1 * y1 * z1 * (x2 * y2 * z2))) * (z1 * z2 + d * (x1 * y1 * z1 * (x2 * y2 * z2)))) := by
  have e1 : z1 * z2 - d * (x1 * y1 * z1 * (x2 * y2 * z2)) = z1 * z2 * B := by grind
  rw [e1]; grind
theorem g_rT (d x1 y1 z1 x2 y2 z2 A B a b : R) (hA : A * a = 1) (hB : B * b = 1) (eA : A = 1 + d * (x1 * x2 * y1 * y2)) (eB : B = 1 - d * (x1 * x2 * y1 * y2)) :
    (x1 * z1 * (y2 * z2) + y1 * z1 * (x2 * z2)) * (y1 * z1 * (y2 * z2) + x1 * z1 * (x2 * z2)) = (x1 * y2 + y1 * x2) * a * ((y1 * y2 + x1 * x2) * b) * ((z1 * z2 - d * (x1 * y1 * z1 * (x2 * y2 * z2))) * (z1 * z2 + d * (x1 * y1 * z1 * (x2 * y2 * z2)))) := by
  have e1 : z1 * z2 + d * (x1 * y1 * z1 * (x2 * y2 * z2)) = z1 * z2 * A := by grind
  have e2 : z1 * z2 - d * (x1 * y1 * z1 * (x2 * y2 * z2)) = z1 * z2 * B := by grind
  rw [e1, e2]
  have e3 : (x1 * y2 + y1 * x2) * a * ((y1 * y2 + x1 * x2) * b) * (z1 * z2 * B * (z1 * z2 * A)) = (x1 * y2 + y1 * x2) * (y1 * y2 + x1 * x2) * (z1 * z2 * (z1 * z2)) * ((A * a) * (B * b)) := by grind
  rw [e3, hA, hB]; grind
theorem g_z1 (d x1 y1 z1 x2 y2 z2 : R) : (z1 * z2 + z1 * z2) + (x1 * y1 * z1 * (x2 * y2 * z2) * d + x1 * y1 * z1 * (x2 * y2 * z2) * d) = (1 + d * (x1 * x2 * y1 * y2)) * (z1 * z2 + z1 * z2) := by grind
theorem g_z2 (d x1 y1 z1 x2 y2 z2 : R) : (z1 * z2 + z1 * z2) - (x1 * y1 * z1 * (x2 * y2 * z2) * d + x1 * y1 * z1 * (x2 * y2 * z2) * d) = (1 - d * (x1 * x2 * y1 * y2)) * (z1 * z2 + z1 * z2) := by grind
theorem g_z3 (d x1 y1 z1 x2 y2 z2 : R) : z1 * z2 + d * (x1 * y1 * z1 * (x2 * y2 * z2)) = (1 + d * (x1 * x2 * y1 * y2)) * (z1 * z2) := by grind
theorem g_z4 (d x1 y1 z1 x2 y2 z2 : R) : z1 * z2 - d * (x1 * y1 * z1 * (x2 * y2 * z2)) = (1 - d * (x1 * x2 * y1 * y2)) * (z1 * z2) := by grind
end
theorem fin_mul_ne {a b : Fp} (ha : a ≠ 0) (hb : b ≠ 0) : a * b ≠ 0 := fun h => (fin_nzd a b h).elim ha hb
def sumS (v u : Nat × Nat × Nat × Nat) : Nat × Nat × Nat × Nat :=
  (mu (sb (mu (ad v.2.1 v.1) (ad u.2.1 u.1)) (mu (sb v.2.1 v.1) (sb u.2.1 u.1))) (sb (ad (mu v.2.2.1 u.2.2.1) (mu v.2.2.1 u.2.2.1)) (ad (mu (mu v.2.2.2 u.2.2.2) dN) (mu (mu v.2.2.2 u.2.2.2) dN))),
   mu (ad (mu (ad v.2.1 v.1) (ad u.2.1 u.1)) (mu (sb v.2.1 v.1) (sb u.2.1 u.1))) (ad (ad (mu v.2.2.1 u.2.2.1) (mu v.2.2.1 u.2.2.1)) (ad (mu (mu v.2.2.2 u.2.2.2) dN) (mu (mu v.2.2.2 u.2.2.2) dN))),
   mu (ad (ad (mu v.2.2.1 u.2.2.1) (mu v.2.2.1 u.2.2.1)) (ad (mu (mu v.2.2.2 u.2.2.2) dN) (mu (mu v.2.2.2 u.2.2.2) dN))) (sb (ad (mu v.2.2.1 u.2.2.1) (mu v.2.2.1 u.2.2.1)) (ad (mu (mu v.2.2.2 u.2.2.2) dN) (mu (mu v.2.2.2 u.2.2.2) dN))),
   mu (sb (mu (ad v.2.1 v.1) (ad u.2.1 u.1)) (mu (sb v.2.1 v.1) (sb u.2.1 u.1))) (ad (mu (ad v.2.1 v.1) (ad u.2.1 u.1)) (mu (sb v.2.1 v.1) (sb u.2.1 u.1))))
theorem sumS_gd (v u : Nat × Nat × Nat × Nat) : Gd (sumS v u) := ⟨mu_lt _ _, mu_lt _ _, mu_lt _ _, mu_lt _ _⟩
theorem sumS_pj {v u : Nat × Nat × Nat × Nat} {p q : Fp × Fp} (gv : Gd v) (gu : Gd u) (hp : OC p) (hq : OC q) (hv : Pj v p) (hu : Pj u q) : Pj (sumS v u) (pa p q) := by
  obtain ⟨nz1, e1, e2, e3⟩ := hv
  obtain ⟨nz2, e4, e5, e6⟩ := hu
  have A := fi_mul (pd_n1 hp hq)
  have B := fi_mul (pd_n2 hp hq)
  have two : cf v.2.2.1 * cf u.2.2.1 + cf v.2.2.1 * cf u.2.2.1 ≠ 0 := fun h => fin_mul_ne nz1 nz2 (fin_20 _ h)
  unfold Pj sumS
  simp only [cf_mu, cf_ad, cf_sb gv.1, cf_sb gu.1, cf_sb (mu_lt _ _), cf_sb (ad_lt _ _), e1, e2, e3, e4, e5, e6]
  refine ⟨?_, ?_, ?_, ?_⟩
  · rw [g_z1, g_z2]
    exact fin_mul_ne (fin_mul_ne (pd_n1 hp hq) two) (fin_mul_ne (pd_n2 hp hq) two)
  · exact g_sX (cf dN) p.1 p.2 _ q.1 q.2 _ _ _ _ A rfl rfl
  · exact g_sY (cf dN) p.1 p.2 _ q.1 q.2 _ _ _ _ B rfl rfl
  · exact g_sT (cf dN) p.1 p.2 _ q.1 q.2 _ _ _ _ _ A B rfl rfl
def sumR (v u : Nat × Nat × Nat × Nat) : Nat × Nat × Nat × Nat :=
  (mu (ad (mu v.1 u.2.1) (mu v.2.1 u.1)) (sb (mu v.2.2.1 u.2.2.1) (mu dN (mu v.2.2.2 u.2.2.2))),
   mu (ad (mu v.2.2.1 u.2.2.1) (mu dN (mu v.2.2.2 u.2.2.2))) (ad (mu v.2.1 u.2.1) (mu v.1 u.1)),
   mu (sb (mu v.2.2.1 u.2.2.1) (mu dN (mu v.2.2.2 u.2.2.2))) (ad (mu v.2.2.1 u.2.2.1) (mu dN (mu v.2.2.2 u.2.2.2))),
   mu (ad (mu v.1 u.2.1) (mu v.2.1 u.1)) (ad (mu v.2.1 u.2.1) (mu v.1 u.1)))
theorem sumR_gd (v u : Nat × Nat × Nat × Nat) : Gd (sumR v u) := ⟨mu_lt _ _, mu_lt _ _, mu_lt _ _, mu_lt _ _⟩
theorem sumR_pj {v u : Nat × Nat × Nat × Nat} {p q : Fp × Fp} (hp : OC p) (hq : OC q) (hv : Pj v p) (hu : Pj u q) : Pj (sumR v u) (pa p q) := by
  obtain ⟨nz1, e1, e2, e3⟩ := hv
  obtain ⟨nz2, e4, e5, e6⟩ := hu
  have A := fi_mul (pd_n1 hp hq)
  have B := fi_mul (pd_n2 hp hq)
  have two := fin_mul_ne nz1 nz2
  unfold Pj sumR
  simp only [cf_mu, cf_ad, cf_sb (mu_lt _ _), e1, e2, e3, e4, e5, e6]
  refine ⟨?_, ?_, ?_, ?_⟩
  · rw [g_z3, g_z4]
    exact fin_mul_ne (fin_mul_ne (pd_n2 hp hq) two) (fin_mul_ne (pd_n1 hp hq) two)
  · exact g_rX (cf dN) p.1 p.2 _ q.1 q.2 _ _ _ _ A rfl rfl
  · exact g_rY (cf dN) p.1 p.2 _ q.1 q.2 _ _ _ _ B rfl rfl
  · exact g_rT (cf dN) p.1 p.2 _ q.1 q.2 _ _ _ _ _ A B rfl rfl
end Go.Proofs.YtgojlikjcpnhjaaDoor

namespace Go.Proofs.YtgojlikjcpnhjaaDoor
open Go.RowKit

/-- The number that bytes tell, the lowest first. -/
def nbv (f : Nat → Nat) : Nat → Nat
  | 0 => 0
  | k + 1 => nbv f k + f k * 256 ^ k
theorem nbv_lt {f : Nat → Nat} (hf : ∀ i, f i < 256) : ∀ k, nbv f k < 256 ^ k
  | 0 => by show 0 < 1; omega
  | k + 1 => by
    have h1 := nbv_lt hf k
    have h2 := hf k
    have h3 : f k * 256 ^ k ≤ 255 * 256 ^ k := Nat.mul_le_mul_right _ (by omega)
    show nbv f k + f k * 256 ^ k < 256 ^ (k + 1)
    rw [Nat.pow_succ]; omega
theorem nbv_byte {f : Nat → Nat} (hf : ∀ i, f i < 256) : ∀ k i, i < k → nbv f k / 256 ^ i % 256 = f i
  | 0, _, h => by omega
  | k + 1, i, h => by
    show (nbv f k + f k * 256 ^ k) / 256 ^ i % 256 = f i
    have h1 := nbv_lt hf k
    have hp : 0 < 256 ^ i := Nat.pow_pos (by omega)
    by_cases e : i = k
    · subst e
      rw [Nat.add_mul_div_right _ _ hp, Nat.div_eq_of_lt h1, Nat.zero_add, Nat.mod_eq_of_lt (hf i)]
    · have e2 : f k * 256 ^ k = f k * 256 ^ (k - i - 1) * 256 * 256 ^ i := by
        rw [Nat.mul_assoc, Nat.mul_assoc, Nat.mul_comm 256, ← Nat.pow_succ, ← Nat.pow_add, show k - i - 1 + (i + 1) = k by omega]
      rw [e2, Nat.add_mul_div_right _ _ hp, Nat.add_mul_mod_self_right]
      exact nbv_byte hf k i (by omega)
theorem fg_nb {f : Nat → Nat} (hf : ∀ i, f i < 256) (k j : Nat) (h : j < 8 * k) : fg f j = nbv f k / 2 ^ j % 2 := by
  unfold fg
  rw [← nbv_byte hf k (j / 8) (by omega)]
  have e : 2 ^ j = 256 ^ (j / 8) * 2 ^ (j % 8) := by
    rw [show (256 : Nat) = 2 ^ 8 from rfl, ← Nat.pow_mul, ← Nat.pow_add]; congr 1; omega
  rw [e, ← Nat.div_div_eq_div_mul]
  generalize nbv f k / 256 ^ (j / 8) = m
  have hr : j % 8 < 8 := Nat.mod_lt _ (by omega)
  generalize j % 8 = r at hr
  obtain rfl | rfl | rfl | rfl | rfl | rfl | rfl | rfl : r = 0 ∨ r = 1 ∨ r = 2 ∨ r = 3 ∨ r = 4 ∨ r = 5 ∨ r = 6 ∨ r = 7 := by omega
  all_goals omega
def stN (s x : Nat) : Nat := if x = 1 then s + s + 1 else s + s
theorem tops_nb {f : Nat → Nat} (hf : ∀ i, f i < 256) (n : Nat) : ∀ k, k ≤ 8 * n → (tops f (8 * n) k).foldl stN 0 = nbv f n / 2 ^ (8 * n - k)
  | 0, _ => by
    have h := nbv_lt hf n
    rw [show (256 : Nat) = 2 ^ 8 from rfl, ← Nat.pow_mul] at h
    show 0 = _
    rw [Nat.sub_zero, Nat.div_eq_of_lt h]
  | k + 1, h => by
    rw [tops_succ, List.foldl_append, tops_nb hf n k (by omega), fg_nb hf n _ (by omega)]
    show stN _ _ = _
    have e : 8 * n - k = (8 * n - 1 - k) + 1 := by omega
    have e2 : 8 * n - (k + 1) = 8 * n - 1 - k := by omega
    rw [e, e2, Nat.pow_succ, ← Nat.div_div_eq_div_mul]
    generalize nbv f n / 2 ^ (8 * n - 1 - k) = m
    unfold stN
    split <;> omega
theorem tops_all {f : Nat → Nat} (hf : ∀ i, f i < 256) (n : Nat) : (tops f (8 * n) (8 * n)).foldl stN 0 = nbv f n := by
  rw [tops_nb hf n _ (Nat.le_refl _), Nat.sub_self]; simp
/-- A fold that adds, told by what it stands for. -/
theorem fldM_rel {α : Type} {add : α → α → α} {no one : α} {p : Fp × Fp} (hp : OC p) {Rl : α → Fp × Fp → Prop} (ha : ∀ u v q r, OC q → OC r → Rl u q → Rl v r → Rl (add u v) (pa q r)) (h0 : Rl no pO) (h1 : Rl one p) (l : List Nat) : Rl (fldM add no one l) (mt (l.foldl stN 0) p) := by
  suffices h : ∀ (l : List Nat) (s : α) (k : Nat), Rl s (mt k p) → Rl (l.foldl (stepM add one) s) (mt (l.foldl stN k) p) from h l no 0 h0
  intro l
  induction l with
  | nil => intro s k h; exact h
  | cons x r ih =>
    intro s k h
    have hk := mt_oc hp k
    have h2 := ha s s _ _ hk hk h h
    rw [mt_add hp] at h2
    refine ih _ _ ?_
    unfold stepM stN
    split
    · exact ha _ _ _ _ (mt_oc hp _) hp h2 h1
    · exact h2
end Go.Proofs.YtgojlikjcpnhjaaDoor

namespace Go.Proofs.YtgojlikjcpnhjaaDoor
open Go.RowKit Go.Shelf
theorem eq_u8s {x u : Operand} {m n : Nat} {b : Bool} (h : decide (m = n) = b) (w : World) : (do eqGuard .eql 5 x u (.int .u8 ((m : Nat) : Int)) (.int .u8 ((n : Nat) : Int)); binOp .eql 5 (.int .u8 ((m : Nat) : Int)) (.int .u8 ((n : Nat) : Int))).run Tryd.prog w = .ok (.bool b) w := by
  have h1 : decide (((m : Nat) : Int) = ((n : Nat) : Int)) = b := by rw [← h]; congr 1; exact propext Int.natCast_inj
  subst h1; simp [eqGuard, binOp, go_sem]; rfl
theorem ld_fnsh (w : World) (q : Nat) (h : w.heap[q]? = some (.cells #[.func (.func 38) #[.agg (ces [dN])] #[]] 72 (0, 0))) : (Instr.loadAt 72 (.pointer (some ⟨q, 0, none⟩))).run Tryd.prog w = .ok (.func (.func 38) #[.agg (ces [dN])] #[]) w := by
  have h1 : w.cell? ⟨q, 0, none⟩ = some (.func (.func 38) #[.agg (ces [dN])] #[]) := by rw [cell_of_row _ _ _ _ _ _ h]; rfl
  simp [Instr.loadAt, Instr.sureAddr, go_sem, h1]
theorem bx_fnsh (w : World) : (Instr.box 72 (.func (.func 38) #[.agg (ces [dN])] #[])).run Tryd.prog w = .ok (.pointer (some ⟨w.heap.size, 0, none⟩)) (w.alloc (.cells #[.func (.func 38) #[.agg (ces [dN])] #[]] 72)) := by
  simp [Instr.box, go_sem]
set_option maxRecDepth 100000 in
set_option maxHeartbeats 4000000 in
theorem many_sh {α : Type} {Vl : α → Array Value} {G : α → Prop} {add : α → α → α} {zc0 : Array Value} (hsz : ∀ x, (Tryd.prog.info? 69).map (·.size) = some (Vl x).size) (hss : ∀ x y, (Vl x).size = (Vl y).size) (hzs : ∀ y, zc0.size = (Vl y).size) (hone : ∀ x, (Vl x).all (·.oneCell') = true)
    (hal : ∀ w : World, (Instr.alloc 69 true (.tuple #[])).run Tryd.prog w = .ok (.pointer (some ⟨w.heap.size, 0, none⟩)) (w.alloc (.cells zc0 69))) (hG : ∀ x y, G x → G y → G (add x y)) (hplus : ∀ x y, G x → G y → ∀ w, Calls Tryd.prog 38 #[.agg (ces [dN]), .agg (Vl x), .agg (Vl y)] w fun e w' => e = .returned (.agg (Vl (add x y))) ∧ Below w.heap.size w w')
    {no one : α} (h0 : G no) (h1 : G one) {aa : Option Addr} {len cap : Nat} {f : Nat → Nat} (hm : len ≤ 1000) (W0 : World) (hb : Bs W0 aa len f) :
    Calls Tryd.prog 35 #[.slice aa len cap, .agg (Vl no), .agg (Vl one), .func (.func 38) #[.agg (ces [dN])] #[]] W0 fun e w' => e = .returned (.agg (Vl (fldM add no one (tops f (8 * len) (8 * len))))) ∧ Below W0.heap.size W0 w' := by
  refine s_im Tryd.func35 Tryd.ntmps35 rfl [.inl (.slice aa len cap), .inl (.agg (Vl no)), .inl (.agg (Vl one)), .inl (.func (.func 38) #[.agg (ces [dN])] #[])] ?_
  intro β a h
  refine sym_seq ?_
  refine St.rg h [(5, .inr (0, pt 0)), (6, .inr (1, pt 0)), (7, .inr (2, pt 0)), (8, .inr (3, pt 0))] [(Vl no, 69), (Vl one, 69), (#[.func (.func 38) #[.agg (ces [dN])] #[]], 72), (zc0, 69)] [] [eN 0, eN 1, eN 2, eN 3] ?_ ?_
  · exact oc (k_bx 0 (.agg (Vl no)) bx_agg rfl rfl) <|
    oc (k_bx 1 (.agg (Vl one)) bx_agg rfl rfl) <|
    oc (k_bx 2 (.func (.func 38) #[.agg (ces [dN])] #[]) bx_fnsh rfl rfl) <|
    oc (k_al 3 hal rfl rfl) <|
    ok_nil
  clear h; intro β a w h
  refine sym_then ?_
  refine sym_seq ?_
  refine St.rg h [(11, .inl (.agg (Vl no))), (9, .inr (4, pt 0))] [(zc0, 69)] [(4, Vl no)] [eR 0, eN 4, eS 4] ?_ ?_
  · exact oc (k_ld 0 0 (.agg (Vl no)) (c := Vl no) (ld_row (t0 := 69) Tryd.underlying69 rfl (hsz no)) rfl rfl) <|
    oc (k_al 4 hal rfl rfl) <|
    oc (k_st 4 0 (.agg (Vl no)) (c := zc0) (n := Vl no) (st_row (t0 := 69) (hsz no) (hzs _) (hone no)) rfl rfl) <|
    ok_nil
  clear h; intro β a w h
  refine sym_then ?_
  replace h := St.cs h (s' := [.inl (.slice aa len cap), .inl (.agg (Vl no)), .inl (.agg (Vl one)), .inl (.func (.func 38) #[.agg (ces [dN])] #[]), uu, .inr (0, pt 0), .inr (1, pt 0), .inr (2, pt 0), .inr (3, pt 0), .inr (4, pt 0), uu, .inl (.agg (Vl no)), uu, uu, uu, uu, uu, uu, uu, uu, uu, uu, uu, uu, uu, uu]) (m' := [(Vl no, 69), (Vl one, 69), (#[.func (.func 38) #[.agg (ces [dN])] #[]], 72), (zc0, 69), (Vl no, 69)]) (by kernel_rfl) (by kernel_rfl)
  have hS : ∀ pre, G (fldM add no one pre) := fldM_good hG h0 h1
  refine sym_seq ?_
  refine sym_seq ?_
  refine rg_call2 (t := 0) (d1 := 12) (d2 := 13) (f := 64) (v := .slice aa len cap) (h.eval (by kernel_rfl) (by kernel_rfl)) rfl rfl rfl rfl rfl rfl (by rw [h.tm]; simp) (fun w => by kernel_rfl) ((figures_d aa len cap f _ (hb.later h.bel.below) hm).mono ?_)
  rintro e w2 ⟨p, g, rfl, hp1, hg1, hpc, ⟨og, hgo, hgc⟩, hgi, hb2⟩
  refine ⟨_, rfl, ?_⟩
  have h2 := h.after hb2 [.inl (.slice aa len cap), .inl (.agg (Vl no)), .inl (.agg (Vl one)), .inl (.func (.func 38) #[.agg (ces [dN])] #[]), uu, .inr (0, pt 0), .inr (1, pt 0), .inr (2, pt 0), .inr (3, pt 0), .inr (4, pt 0), uu, .inl (.agg (Vl no)), .inl (.slice aa len cap), .inl (.func (.func 76) #[] #[.pointer (some ⟨p, 0, none⟩)]), uu, uu, uu, uu, uu, uu, uu, uu, uu, uu, uu, uu] (by kernel_rfl)
  have ea : ((a.put (some 12) (.slice aa len cap)).put (some 13) (.func (.func 76) #[] #[.pointer (some ⟨p, 0, none⟩)])) = { tmps := ([.inl (.slice aa len cap), .inl (.agg (Vl no)), .inl (.agg (Vl one)), .inl (.func (.func 38) #[.agg (ces [dN])] #[]), uu, .inr (0, pt 0), .inr (1, pt 0), .inr (2, pt 0), .inr (3, pt 0), .inr (4, pt 0), uu, .inl (.agg (Vl no)), .inl (.slice aa len cap), .inl (.func (.func 76) #[] #[.pointer (some ⟨p, 0, none⟩)]), uu, uu, uu, uu, uu, uu, uu, uu, uu, uu, uu, uu].map (den β)).toArray, defers := [] } := by rw [h.tm]; kernel_rfl
  rw [ea]
  have hpl : p < w2.heap.size := cell_lt hpc
  have hgl : g < w2.heap.size := (Array.getElem?_eq_some_iff.1 hgo).1
  have hbl : ∀ b, b < 5 → β b < w.heap.size := fun b hb' => by
    have h5 := h.row b _ (List.getElem?_eq_getElem (by simpa using hb'))
    exact (Array.getElem?_eq_some_iff.1 h5).1
  have hne : ∀ x, w.heap.size ≤ x → ∀ b, b < 5 → x ≠ β b := fun x hx b hb' => by have := hbl b hb'; omega
  clear ea
  refine sym_then ?_
  refine wp_block ((wpIn_wide (n := 5)).1 ?_)
  refine wpIn_rangeFunc_ownF (F := Fence.wide) (n := 5) rfl (by decide) (gf := 76) (lb := #[.pointer (some ⟨p, 0, none⟩)]) (by kernel_rfl) trivial (enters_of Tryd.func76 (by kernel_rfl) rfl) (figs_stops p g len f hb.1 hm w2 hpc hgi) two_t (two_b hpl hgl) (Below.refl _ _) (fun _ => rfl)
    (fun pre v => St (wd W0) [.inl (.slice aa len cap), .inl (.agg (Vl no)), .inl (.agg (Vl one)), .inl (.func (.func 38) #[.agg (ces [dN])] #[]), uu, .inr (0, pt 0), .inr (1, pt 0), .inr (2, pt 0), .inr (3, pt 0), .inr (4, pt 0), uu, .inl (.agg (Vl no)), .inl (.slice aa len cap), .inl (.func (.func 76) #[] #[.pointer (some ⟨p, 0, none⟩)]), uu, uu, uu, uu, uu, uu, uu, uu, uu, uu, uu, uu] [(Vl no, 69), (Vl one, 69), (#[.func (.func 38) #[.agg (ces [dN])] #[]], 72), (zc0, 69), (Vl (fldM add no one pre), 69)] β { tmps := ([.inl (.slice aa len cap), .inl (.agg (Vl no)), .inl (.agg (Vl one)), .inl (.func (.func 38) #[.agg (ces [dN])] #[]), uu, .inr (0, pt 0), .inr (1, pt 0), .inr (2, pt 0), .inr (3, pt 0), .inr (4, pt 0), uu, .inl (.agg (Vl no)), .inl (.slice aa len cap), .inl (.func (.func 76) #[] #[.pointer (some ⟨p, 0, none⟩)]), uu, uu, uu, uu, uu, uu, uu, uu, uu, uu, uu, uu].map (den β)).toArray, defers := [] } v ∧ w2.heap.size ≤ v.heap.size) (fun _ _ _ => False)
    (OwnFrom.and (St.own (mm := fun pre => [(Vl no, 69), (Vl one, 69), (#[.func (.func 38) #[.agg (ces [dN])] #[]], 72), (zc0, 69), (Vl (fldM add no one pre), 69)]) (fun k hk => Nat.lt_of_lt_of_le hk h2.bel.size)) (fun _ _ _ _ hs hg _ => Nat.le_trans hs hg.size)) (fun _ _ _ _ _ hs _ _ => hs) ⟨h2, Nat.le_refl _⟩ (fun x => { tmps := ([.inl (.slice aa len cap), .inl (.agg (Vl no)), .inl (.agg (Vl one)), .inl (.func (.func 38) #[.agg (ces [dN])] #[]), uu, .inr (0, pt 0), .inr (1, pt 0), .inr (2, pt 0), .inr (3, pt 0), .inr (4, pt 0), .inl (.int .u8 ((x : Nat) : Int)), .inl (.agg (Vl no)), .inl (.slice aa len cap), .inl (.func (.func 76) #[] #[.pointer (some ⟨p, 0, none⟩)]), .inl (.int .u8 ((x : Nat) : Int)), uu, uu, uu, uu, uu, uu, uu, uu, uu, uu, uu].map (den β)).toArray, defers := [] }) ?assign ?body ?done ?stop
  case assign =>
    intro l x v K hK
    refine rg_as (t := 14) (d := 10) (v := .int .u8 ((x : Nat) : Int)) (by kernel_rfl) rfl rfl rfl ?_
    have e : ∀ z : Act, z = { tmps := ([.inl (.slice aa len cap), .inl (.agg (Vl no)), .inl (.agg (Vl one)), .inl (.func (.func 38) #[.agg (ces [dN])] #[]), uu, .inr (0, pt 0), .inr (1, pt 0), .inr (2, pt 0), .inr (3, pt 0), .inr (4, pt 0), .inl (.int .u8 ((x : Nat) : Int)), .inl (.agg (Vl no)), .inl (.slice aa len cap), .inl (.func (.func 76) #[] #[.pointer (some ⟨p, 0, none⟩)]), .inl (.int .u8 ((x : Nat) : Int)), uu, uu, uu, uu, uu, uu, uu, uu, uu, uu, uu].map (den β)).toArray, defers := [] } → K z v := fun z h => h ▸ hK
    exact e _ (by kernel_rfl)
  case body =>
    rintro l pre x v ⟨hI, hvs⟩ hlt
    have hS := hS pre
    generalize hSe : fldM add no one pre = S at hI hS
    have h := hI.round [.inl (.slice aa len cap), .inl (.agg (Vl no)), .inl (.agg (Vl one)), .inl (.func (.func 38) #[.agg (ces [dN])] #[]), uu, .inr (0, pt 0), .inr (1, pt 0), .inr (2, pt 0), .inr (3, pt 0), .inr (4, pt 0), .inl (.int .u8 ((x : Nat) : Int)), .inl (.agg (Vl no)), .inl (.slice aa len cap), .inl (.func (.func 76) #[] #[.pointer (some ⟨p, 0, none⟩)]), .inl (.int .u8 ((x : Nat) : Int)), uu, uu, uu, uu, uu, uu, uu, uu, uu, uu, uu] (by kernel_rfl)
    have eb : ∀ c, c < 5 → β c = β c := fun _ _ => rfl
    replace h := h.o0
    by_cases hx : x = 1
    · refine wpIn_block ?_
      refine wpIn_seq ?_
      refine St.rgR h [(15, .inl (.func (.func 38) #[.agg (ces [dN])] #[])), (16, .inl (.agg (Vl S))), (17, .inl (.agg (Vl S))), (18, .inl (.agg (Vl (add S S))))] [] [(4, Vl (add S S))] [eR 2, eR 4, eR 4, nn, eS 4] ?_ ?_
      · exact oc (k_ld 2 0 (.func (.func 38) #[.agg (ces [dN])] #[]) (c := #[.func (.func 38) #[.agg (ces [dN])] #[]]) ld_fnsh rfl rfl) <|
        oc (k_ld 4 0 (.agg (Vl S)) (c := Vl S) (ld_row (t0 := 69) Tryd.underlying69 rfl (hsz S)) rfl rfl) <|
        oc (k_ld 4 0 (.agg (Vl S)) (c := Vl S) (ld_row (t0 := 69) Tryd.underlying69 rfl (hsz S)) rfl rfl) <|
        oc (k_cv #[.agg (ces [dN])] #[.agg (Vl S), .agg (Vl S)] #[.agg (ces [dN]), .agg (Vl S), .agg (Vl S)] (.agg (Vl (add S S))) (hplus _ _ hS hS) rfl rfl) <|
        oc (k_st 4 0 (.agg (Vl (add S S))) (c := Vl S) (n := Vl (add S S)) (st_row (t0 := 69) (hsz (add S S)) (hss _ _) (hone (add S S))) rfl rfl) <|
        ok_nil
      clear h; intro β' a w e h; replace eb := eb_trans (k := 5) e eb; clear e
      refine thenR ?_
      refine wpIn_seq ?_
      refine St.rgR h [(19, .inl (.int .u8 ((x : Nat) : Int))), (20, .inl (.bool true))] [] [] [] ?_ ?_
      · exact oz (k_mv (.inl rfl) rfl) <|
        oz (k_bi (.int .u8 ((x : Nat) : Int)) (.int .u8 ((1 : Nat) : Int)) (.bool true) (eq_u8s (m := x) (n := 1) (decide_eq_true (by omega))) rfl rfl) <|
        ok_nil
      clear h; intro β' a w e h; replace eb := eb_trans (k := 5) e eb; clear e
      refine thenR ?_
      refine s_ctR h ?_
      refine St.rgR h [(21, .inl (.func (.func 38) #[.agg (ces [dN])] #[])), (22, .inl (.agg (Vl (add S S)))), (23, .inl (.agg (Vl one))), (24, .inl (.agg (Vl (add (add S S) one))))] [] [(4, Vl (add (add S S) one))] [eR 2, eR 4, eR 1, nn, eS 4] ?_ ?_
      · exact oc (k_ld 2 0 (.func (.func 38) #[.agg (ces [dN])] #[]) (c := #[.func (.func 38) #[.agg (ces [dN])] #[]]) ld_fnsh rfl rfl) <|
        oc (k_ld 4 0 (.agg (Vl (add S S))) (c := Vl (add S S)) (ld_row (t0 := 69) Tryd.underlying69 rfl (hsz (add S S))) rfl rfl) <|
        oc (k_ld 1 0 (.agg (Vl one)) (c := Vl one) (ld_row (t0 := 69) Tryd.underlying69 rfl (hsz one)) rfl rfl) <|
        oc (k_cv #[.agg (ces [dN])] #[.agg (Vl (add S S)), .agg (Vl one)] #[.agg (ces [dN]), .agg (Vl (add S S)), .agg (Vl one)] (.agg (Vl (add (add S S) one))) (hplus _ _ (hG _ _ hS hS) h1) rfl rfl) <|
        oc (k_st 4 0 (.agg (Vl (add (add S S) one))) (c := Vl (add S S)) (n := Vl (add (add S S) one)) (st_row (t0 := 69) (hsz (add (add S S) one)) (hss _ _) (hone (add (add S S) one))) rfl rfl) <|
        ok_nil
      clear h; intro β' a w e h; replace eb := eb_trans (k := 5) e eb; clear e
      refine blk_norm ?_
      obtain ⟨q1, q2, q3⟩ := hI.back h eb rfl (by kernel_rfl)
      exact ⟨q2, ⟨q3 p (Nat.lt_of_lt_of_le hpl hvs) (hne p hp1), q3 g (Nat.lt_of_lt_of_le hgl hvs) (hne g hg1)⟩, by rw [hx, fldM_1, hSe]; exact q1, Nat.le_trans hvs q2.size⟩
    · refine wpIn_block ?_
      refine wpIn_seq ?_
      refine St.rgR h [(15, .inl (.func (.func 38) #[.agg (ces [dN])] #[])), (16, .inl (.agg (Vl S))), (17, .inl (.agg (Vl S))), (18, .inl (.agg (Vl (add S S))))] [] [(4, Vl (add S S))] [eR 2, eR 4, eR 4, nn, eS 4] ?_ ?_
      · exact oc (k_ld 2 0 (.func (.func 38) #[.agg (ces [dN])] #[]) (c := #[.func (.func 38) #[.agg (ces [dN])] #[]]) ld_fnsh rfl rfl) <|
        oc (k_ld 4 0 (.agg (Vl S)) (c := Vl S) (ld_row (t0 := 69) Tryd.underlying69 rfl (hsz S)) rfl rfl) <|
        oc (k_ld 4 0 (.agg (Vl S)) (c := Vl S) (ld_row (t0 := 69) Tryd.underlying69 rfl (hsz S)) rfl rfl) <|
        oc (k_cv #[.agg (ces [dN])] #[.agg (Vl S), .agg (Vl S)] #[.agg (ces [dN]), .agg (Vl S), .agg (Vl S)] (.agg (Vl (add S S))) (hplus _ _ hS hS) rfl rfl) <|
        oc (k_st 4 0 (.agg (Vl (add S S))) (c := Vl S) (n := Vl (add S S)) (st_row (t0 := 69) (hsz (add S S)) (hss _ _) (hone (add S S))) rfl rfl) <|
        ok_nil
      clear h; intro β' a w e h; replace eb := eb_trans (k := 5) e eb; clear e
      refine thenR ?_
      refine wpIn_seq ?_
      refine St.rgR h [(19, .inl (.int .u8 ((x : Nat) : Int))), (20, .inl (.bool false))] [] [] [] ?_ ?_
      · exact oz (k_mv (.inl rfl) rfl) <|
        oz (k_bi (.int .u8 ((x : Nat) : Int)) (.int .u8 ((1 : Nat) : Int)) (.bool false) (eq_u8s (m := x) (n := 1) (decide_eq_false (by omega))) rfl rfl) <|
        ok_nil
      clear h; intro β' a w e h; replace eb := eb_trans (k := 5) e eb; clear e
      refine thenR ?_
      refine s_cfR h ?_
      refine wpIn_skip ?_
      refine blk_norm ?_
      obtain ⟨q1, q2, q3⟩ := hI.back h eb rfl (by kernel_rfl)
      exact ⟨q2, ⟨q3 p (Nat.lt_of_lt_of_le hpl hvs) (hne p hp1), q3 g (Nat.lt_of_lt_of_le hgl hvs) (hne g hg1)⟩, by rw [fldM_0 _ _ _ _ hx, hSe]; exact q1, Nat.le_trans hvs q2.size⟩
  case done =>
    rintro D xs v hD rfl ⟨hI, hvs⟩ hK
    refine blk_norm ?_
    refine sym_then ?_
    refine sym_seq ?_
    have r1 := hI.row 4 _ rfl
    have r2 := hI.row 3 _ rfl
    have hD3 : D ≠ β 3 := fun e => by rw [e, r2] at hK; cases hK
    have hB := hI.bel.below
    have o3 := Nat.le_of_not_lt (hI.old 3 (by simp))
    refine rg_ls (p := 9) (d := 25) (q := 8) (t := 69) (by kernel_rfl) (by kernel_rfl) rfl rfl rfl rfl rfl rfl (by decide) (by simp) r1 r2 Tryd.underlying69 rfl (hsz _) (hzs _) (hone _) ?_
    refine sym_then ?_
    refine wp_ret ?_
    refine mark_ret (D := D) (g := β 3) rfl ((setRow_other _ _ _ _ hD3).trans hK) Tryd.results35 (by kernel_rfl) (setRow_heap _ _ _ _ _ _ r2) Tryd.underlying69 rfl (hsz _) ⟨rfl, ?_⟩
    refine (below_setRow hB o3 _).trans (belowK_b (w := w2) h2.bel.size _ D _ _ hD ((setRow_other _ _ _ _ hD3).trans hK) rfl rfl)
  case stop =>
    rintro D c pre v _ _ h _
    exact h.elim
end Go.Proofs.YtgojlikjcpnhjaaDoor

namespace Go.Proofs.YtgojlikjcpnhjaaDoor
open Go.RowKit Go.Shelf
theorem sl_key (w : World) (q : Nat) : (Instr.sliceAt 23 (.pointer (some ⟨q, 0, none⟩)) none none none).run Tryd.prog w = .ok (.slice (some ⟨q, 0, none⟩) 32 32) w := by kernel_rfl
def vS (v : Nat × Nat × Nat × Nat) : Array Value := ces [v.1, v.2.1, v.2.2.1, v.2.2.2]
theorem manyS_r {f : Nat → Nat} (hf : ∀ i, f i < 256) {n1 n2 : Nat × Nat × Nat × Nat} (h0 : Gd n1) (h1 : Gd n2) (w : World) (q : Nat) (hq : w.heap[q]? = some (.cells (ck f) 23 (0, 0))) :
    Calls Tryd.prog 35 #[.slice (some ⟨q, 0, none⟩) 32 32, .agg (vS n1), .agg (vS n2), .func (.func 38) #[.agg (ces [dN])] #[]] w fun e w' => e = .returned (.agg (vS (fldM sumS n1 n2 (tops f (8 * 32) (8 * 32))))) ∧ Below w.heap.size w w' :=
  many_sh (Vl := vS) (G := Gd) (add := sumS) (zc0 := ces [0, 0, 0, 0]) (fun v => by unfold vS; rw [ces_size]; kernel_rfl) (fun v u => by unfold vS; rw [ces_size, ces_size]; rfl) (fun v => by unfold vS; rw [ces_size, ces_size]; rfl) (fun v => ces_one _) alS (fun _ _ _ _ => sumS_gd _ _)
    (fun v u hv hu w => sum_r dN_lt hv.1 hv.2.1 hv.2.2.1 hv.2.2.2 hu.1 hu.2.1 hu.2.2.1 hu.2.2.2 w) h0 h1 (by omega) w (bs_key hf hq)
set_option maxHeartbeats 4000000 in
theorem many_q {x b X Y Z T : Nat} {f : Nat → Nat} (hx : x < pp) (hb : b < pp) (hX : X < pp) (hY : Y < pp) (hZ : Z < pp) (cM : ∀ (w : World) (q : Nat), w.heap[q]? = some (.cells (ck f) 23 (0, 0)) → Calls Tryd.prog 35 #[.slice (some ⟨q, 0, none⟩) 32 32, .agg (ces [0, (ad 0 1), 1, (mu 0 (ad 0 1))]), .agg (ces [x, (ad b 1), 1, (mu x (ad b 1))]), .func (.func 38) #[.agg (ces [dN])] #[]] w fun e w' => e = .returned (.agg (ces [X, Y, Z, T])) ∧ Below w.heap.size w w') (W0 : World) :
    Calls Tryd.prog 17 #[.agg (ces [x, b]), .agg (ck f)] W0 fun e w' => e = .returned (.agg (ces [mu X (mu 1 (inv Z)), sb (mu Y (mu 1 (inv Z))) 1])) ∧ Below W0.heap.size W0 w' := by
  refine s_in Tryd.func17 Tryd.ntmps17 rfl [.inl (.agg (ces [x, b])), .inl (.agg (ck f))] ?_
  intro β a h
  refine sym_seq ?_
  refine St.rg h [(2, .inr (0, pt 0)), (3, .inr (1, pt 0)), (4, .inr (2, pt 0))] [(ces [x, b], 44), (ck f, 23), (ces [0, 0], 44)] [] [eN 0, eN 1, eN 2] ?_ ?_
  · exact oc (k_bx 0 (.agg (ces [x, b])) (bxP (a := x) (b := b)) rfl rfl) <|
    oc (k_bx 1 (.agg (ck f)) (bxK (b := f)) rfl rfl) <|
    oc (k_al 2 alP rfl rfl) <|
    ok_nil
  clear h; intro β a w h
  refine sym_then ?_
  refine sym_seq ?_
  refine St.rg h [(5, .inr (1, sl 0 32 32)), (6, .inl (.agg (ces [0, 0]))), (7, .inl (.agg (ces [0, (ad 0 1), 1, (mu 0 (ad 0 1))]))), (8, .inl (.agg (ces [x, b]))), (9, .inl (.agg (ces [x, (ad b 1), 1, (mu x (ad b 1))]))), (10, .inl (.agg (ces [dN]))), (11, .inl (.func (.func 38) #[.agg (ces [dN])] #[])), (12, .inl (.agg (ces [X, Y, Z, T]))), (13, .inl (.agg (ces [(mu X (mu 1 (inv Z))), (sb (mu Y (mu 1 (inv Z))) 1)])))] [] [(2, ces [(mu X (mu 1 (inv Z))), (sb (mu Y (mu 1 (inv Z))) 1)])] [nn, nn, nn, eR 0, nn, nn, nn, eR 1, nn, eS 2] ?_ ?_
  · exact oc (k_sl 1 32 rfl rfl sl_key) <|
    oc (k_bu #[] (.agg (ces [0, 0])) bdP0 rfl rfl) <|
    oc (k_ca 36 #[.agg (ces [0, 0])] (.agg (ces [0, (ad 0 1), 1, (mu 0 (ad 0 1))])) (fun w => shared_r zero_ltp zero_ltp w) rfl rfl) <|
    oc (k_ld 0 0 (.agg (ces [x, b])) (c := ces [x, b]) (ldP (a := x) (b := b) 44) rfl rfl) <|
    oc (k_ca 36 #[.agg (ces [x, b])] (.agg (ces [x, (ad b 1), 1, (mu x (ad b 1))])) (fun w => shared_r hx hb w) rfl rfl) <|
    oc (k_ca 37 #[] (.agg (ces [dN])) law_r rfl rfl) <|
    oc (k_mf #[.agg (ces [dN])] rfl rfl) <|
    oc (k_cb 35 (fun q => #[.slice (some ⟨q, 0, none⟩) 32 32, .agg (ces [0, (ad 0 1), 1, (mu 0 (ad 0 1))]), .agg (ces [x, (ad b 1), 1, (mu x (ad b 1))]), .func (.func 38) #[.agg (ces [dN])] #[]]) (.agg (ces [X, Y, Z, T])) 1 5 (fun w q _ hq => cM w q hq) rfl rfl (by simp) (fm := sl 0 32 32)) <|
    oc (k_ca 39 #[.agg (ces [X, Y, Z, T])] (.agg (ces [(mu X (mu 1 (inv Z))), (sb (mu Y (mu 1 (inv Z))) 1)])) (fun w => point_r hX hY hZ w) rfl rfl) <|
    oc (k_st 2 0 (.agg (ces [(mu X (mu 1 (inv Z))), (sb (mu Y (mu 1 (inv Z))) 1)])) (c := ces [0, 0]) (n := ces [(mu X (mu 1 (inv Z))), (sb (mu Y (mu 1 (inv Z))) 1)]) (stP (a := (mu X (mu 1 (inv Z)))) (b := (sb (mu Y (mu 1 (inv Z))) 1)) (c := ces [0, 0]) 44 (by rw [ces_size]; rfl)) rfl rfl) <|
    ok_nil
  clear h; intro β a w h
  refine sym_then ?_
  refine wp_ret ?_
  exact s_rc (b := 2) (t0 := 44) (c := ces [(mu X (mu 1 (inv Z))), (sb (mu Y (mu 1 (inv Z))) 1)]) h Tryd.results17 Tryd.underlying44 (fun hb => ⟨rfl, hb⟩) (by rw [ces_size]; kernel_rfl)

/-- A point as the program has it. -/
def pvt (p : Fp × Fp) : Array Value := ces [p.1.val, sb p.2.val 1]
theorem ad_v (p : Fp × Fp) : ad (sb p.2.val 1) 1 = p.2.val := ad_sb p.2.isLt
theorem cf_sv {n : Nat} (h : n < pp) : (cf n).val = n := Nat.mod_eq_of_lt h
theorem sh_pj (p : Fp × Fp) : Pj (p.1.val, ad (sb p.2.val 1) 1, 1, mu p.1.val (ad (sb p.2.val 1) 1)) p := by
  rw [ad_v]
  unfold Pj
  simp only [cf_mu, cf_val, cf_one]
  exact ⟨fin_10, by grind, by grind, by grind⟩
theorem sh_gd (p : Fp × Fp) : Gd (p.1.val, ad (sb p.2.val 1) 1, 1, mu p.1.val (ad (sb p.2.val 1) 1)) := ⟨p.1.isLt, ad_lt _ _, one_ltp, mu_lt _ _⟩
theorem g_pt {R : Type} [Lean.Grind.CommRing R] (x z i : R) (h : z * i = 1) : x * z * (1 * i) = x := by grind
theorem pt_pj {v : Nat × Nat × Nat × Nat} {p : Fp × Fp} (g : Gd v) (h : Pj v p) : ces [mu v.1 (mu 1 (inv v.2.2.1)), sb (mu v.2.1 (mu 1 (inv v.2.2.1))) 1] = pvt p := by
  obtain ⟨nz, e1, e2, -⟩ := h
  have hi : cf v.2.2.1 * cf (inv v.2.2.1) = 1 := by
    have := fi_mul nz
    unfold fi at this
    rwa [cf_sv g.2.2.1] at this
  have hx : mu v.1 (mu 1 (inv v.2.2.1)) = p.1.val := by
    refine cf_inj (mu_lt _ _) p.1.isLt ?_
    rw [cf_mu, cf_mu, cf_one, e1, cf_val]; exact g_pt _ _ _ hi
  have hy : mu v.2.1 (mu 1 (inv v.2.2.1)) = p.2.val := by
    refine cf_inj (mu_lt _ _) p.2.isLt ?_
    rw [cf_mu, cf_mu, cf_one, e2, cf_val]; exact g_pt _ _ _ hi
  unfold pvt
  rw [hx, hy]
theorem o_sh : sb pO.2.val 1 = 0 := by decide +kernel
theorem o_x : pO.1.val = 0 := rfl
theorem pv_O : pvt pO = ces [0, 0] := by unfold pvt; rw [o_sh]; rfl
theorem many_pv {p : Fp × Fp} (hp : OC p) {f : Nat → Nat} (hf : ∀ i, f i < 256) (W0 : World) : Calls Tryd.prog 17 #[.agg (pvt p), .agg (ck f)] W0 fun e w' => e = .returned (.agg (pvt (mt (nbv f 32) p))) ∧ Below W0.heap.size W0 w' := by
  have g0 := sh_gd pO
  have j0 := sh_pj pO
  rw [o_sh, o_x] at g0 j0
  have h := many_q (x := p.1.val) (b := sb p.2.val 1) (f := f) p.1.isLt (sb_lt _ _) (X := (fldM sumS _ _ (tops f (8 * 32) (8 * 32))).1) (Y := (fldM sumS _ _ (tops f (8 * 32) (8 * 32))).2.1) (Z := (fldM sumS _ _ (tops f (8 * 32) (8 * 32))).2.2.1) (T := (fldM sumS _ _ (tops f (8 * 32) (8 * 32))).2.2.2)
    (fldM_good (fun _ _ _ _ => sumS_gd _ _) g0 (sh_gd p) _).1 (fldM_good (fun _ _ _ _ => sumS_gd _ _) g0 (sh_gd p) _).2.1 (fldM_good (fun _ _ _ _ => sumS_gd _ _) g0 (sh_gd p) _).2.2.1 (fun w q hq => manyS_r hf g0 (sh_gd p) w q hq) W0
  have hr := fldM_rel (add := sumS) (no := (0, ad 0 1, 1, mu 0 (ad 0 1))) (one := (p.1.val, ad (sb p.2.val 1) 1, 1, mu p.1.val (ad (sb p.2.val 1) 1))) hp (Rl := fun v q => Gd v ∧ Pj v q) (fun u v q r hq hr h1 h2 => ⟨sumS_gd _ _, sumS_pj h1.1 h2.1 hq hr h1.2 h2.2⟩) ⟨g0, j0⟩ ⟨sh_gd p, sh_pj p⟩ (tops f (8 * 32) (8 * 32))
  rw [tops_all hf] at hr
  rw [pt_pj hr.1 hr.2] at h
  exact h
theorem sum_pj {p q : Fp × Fp} (hp : OC p) (hq : OC q) : ces [sx p.1.val (sb p.2.val 1) q.1.val (sb q.2.val 1), sb (sy p.1.val (sb p.2.val 1) q.1.val (sb q.2.val 1)) 1] = pvt (pa p q) := by
  have h := pt_pj (sumS_gd _ _) (sumS_pj (sh_gd p) (sh_gd q) hp hq (sh_pj p) (sh_pj q))
  unfold sumS at h
  unfold sx sy pX pY pZ
  exact h
theorem plus_pv {p q : Fp × Fp} (hp : OC p) (hq : OC q) (W0 : World) : Calls Tryd.prog 40 #[.agg (pvt p), .agg (pvt q)] W0 fun e w' => e = .returned (.agg (pvt (pa p q))) ∧ Below W0.heap.size W0 w' := by
  have h := plus_p p.1.isLt (sb_lt p.2.val 1) q.1.isLt (sb_lt q.2.val 1) W0
  rw [sum_pj hp hq] at h
  exact h
theorem neg_v (a : Fp) : sb 0 a.val = (-a).val := by
  refine cf_inj (sb_lt _ _) (-a).isLt ?_
  rw [cf_sb a.isLt, cf_val, cf_val]
  have : cf 0 = 0 := rfl
  rw [this]; grind
theorem minus_pv {p q : Fp × Fp} (hp : OC p) (hq : OC q) (W0 : World) : Calls Tryd.prog 18 #[.agg (pvt p), .agg (pvt q)] W0 fun e w' => e = .returned (.agg (pvt (pa p (pn q)))) ∧ Below W0.heap.size W0 w' := by
  have h := minus_p p.1.isLt (sb_lt p.2.val 1) q.1.isLt (sb_lt q.2.val 1) W0
  rw [neg_v] at h
  have e := sum_pj hp (oc_n hq)
  have e1 : (pn q).1 = -q.1 := rfl
  have e2 : (pn q).2 = q.2 := rfl
  rw [e1, e2] at e
  rw [e] at h
  exact h

/-- A point's text. -/
def kp (p : Fp × Fp) : Nat → Nat := tk p.1.val p.2.val
theorem key_pv (p : Fp × Fp) (W0 : World) : Calls Tryd.prog 19 #[.agg (pvt p)] W0 fun e w' => e = .returned (.agg (ck (kp p))) ∧ Below W0.heap.size W0 w' := by
  have h := pk p.1.isLt (sb_lt p.2.val 1) W0
  rw [ad_v] at h
  exact h
end Go.Proofs.YtgojlikjcpnhjaaDoor

namespace Go.Proofs.YtgojlikjcpnhjaaDoor
open Go.RowKit

theorem nb_kb {f : Nat → Nat} {y : Nat} : ∀ k, (∀ i, i < k → f i = kb y i) → nb f k = y % 256 ^ k
  | 0, _ => by rw [Nat.pow_zero, Nat.mod_one]; rfl
  | k + 1, h => by
    show nb f k + f k * 256 ^ k = _
    rw [nb_kb k fun i hi => h i (by omega), h k (by omega), Nat.pow_succ, Nat.mod_mul]
    unfold kb
    rw [Nat.mul_comm]
theorem kb_lt (y i : Nat) : kb y i < 256 := Nat.mod_lt _ (by omega)
theorem tk_lt {x y : Nat} (hy : y < pp) (i : Nat) : tk x y i < 256 := by
  have h := kb_top hy
  unfold tk updN
  split
  · exact kb_lt _ _
  · dsimp only
    split
    · omega
    · exact kb_lt _ _
theorem kp_lt (p : Fp × Fp) (i : Nat) : kp p i < 256 := tk_lt p.2.isLt i
theorem tk_low {x y : Nat} (hy : y < pp) (i : Nat) : updN (tk x y) 31 (tk x y 31 % 128) i = kb y i := by
  have h := kb_top hy
  unfold updN
  by_cases e : i = 31
  · subst e
    rw [if_pos rfl]
    unfold tk
    split
    · exact Nat.mod_eq_of_lt h
    · show (if (31 : Nat) = 31 then kb y 31 + 128 else kb y 31) % 128 = _
      rw [if_pos rfl]; omega
  · rw [if_neg e]
    unfold tk
    split
    · rfl
    · exact if_neg e
theorem tk_31 {x y : Nat} (hy : y < pp) : (x % 2 = 0 → tk x y 31 < 128) ∧ (x % 2 ≠ 0 → 128 ≤ tk x y 31) := by
  have h := kb_top hy
  unfold tk
  constructor
  · intro e; rw [if_pos e]; exact h
  · intro e; rw [if_neg e]
    show 128 ≤ if (31 : Nat) = 31 then kb y 31 + 128 else kb y 31
    rw [if_pos rfl]; omega
theorem g_uy {R : Type} [Lean.Grind.CommRing R] (d x y i : R) (h : y * y - x * x = 1 + d * (x * x * y * y)) (hi : (d * (y * y) + 1) * i = 1) : x * x = (y * y - 1) * i := by grind
theorem oc_uY {p : Fp × Fp} (hp : OC p) : mu p.1.val p.1.val = uY p.2.val := by
  refine cf_inj (mu_lt _ _) (mu_lt _ _) ?_
  have hz : cf (ad (mu dN (mu p.2.val p.2.val)) 1) ≠ 0 := by
    rw [cf_ad, cf_mu, cf_mu, cf_val, cf_one]
    exact fun h => fin_den1 h
  have hi := fi_mul hz
  unfold fi at hi
  rw [cf_sv (ad_lt _ _)] at hi
  unfold uY
  rw [cf_mu, cf_mu, cf_sb one_ltp, cf_mu, cf_val, cf_val, cf_one]
  rw [cf_ad, cf_mu, cf_mu, cf_val, cf_one] at hi
  exact g_uy dF _ _ _ hp hi
theorem of_pv {p : Fp × Fp} (hp : OC p) (W0 : World) : Calls Tryd.prog 13 #[.agg (ck (kp p))] W0 fun e w' => e = .returned (.tuple #[.agg (pvt p), .bool true]) ∧ Below W0.heap.size W0 w' := by
  have hu := oc_uY hp
  have hx := p.1.isLt
  have hy := p.2.isLt
  have hb : ∀ i, kp p i < 256 := kp_lt p
  unfold kp at hb ⊢
  unfold pvt
  generalize p.1.val = x at *
  generalize p.2.val = y at *
  have hc : ∀ i, updN (tk x y) 31 (tk x y 31 % 128) i < 256 := fun i => by rw [tk_low hy]; exact kb_lt _ _
  have cO := fun w => of_k hc w
  have eO : ofb (updN (tk x y) 31 (tk x y 31 % 128)) = y := by
    unfold ofb
    have h255 : y < 57896044618658097711785492504343953926634992332820282019728792003956564819968 := Nat.lt_trans hy (by decide +kernel)
    rw [nb_kb 32 fun i _ => tk_low hy i, Nat.mod_eq_of_lt (pp_256 hy), Nat.mod_eq_of_lt h255, Nat.mod_eq_of_lt hy]
  rw [eO] at cO
  have hkey : ∀ i, i < 32 → byt (dig y) i = updN (tk x y) 31 (tk x y 31 % 128) i := fun i hi => by rw [tk_low hy, byt_kb y i hi]
  obtain ⟨r, k, hr, ht, hf, cU⟩ := root_d (m := uY y) (mu_lt _ _)
  cases k with
  | false => exact absurd hu ((hf rfl).2 x)
  | true =>
    obtain ⟨hsq, hev⟩ := ht rfl
    have cE := fun w => evenX_r hy cU w
    by_cases h2 : x % 2 = 0
    · have e := same_x hx hr hu hsq (by omega)
      rw [e]
      have := of_e hb hy cO hkey cE ((tk_31 hy).1 h2) W0
      rwa [e] at this
    · have hz : r ≠ 0 := by
        intro e
        rw [e] at hsq
        have h0 : mu x x = 0 := hu.trans (by rw [← hsq, Nat.zero_mul, Nat.zero_mod])
        exact mul_ne hx hx (by omega) (by omega) h0
      have h1 := of_o hb hy cO hkey cE hr hz ((tk_31 hy).2 h2) W0
      have e := same_x hx (sb_lt 0 r) hu ((neg_sq hr hz).trans hsq) (by have := sb_odd hr hz hev; omega)
      rw [← e] at h1
      exact h1

/-- The generator. -/
def gG : Fp × Fp := (cf gX, cf (ad gB 1))
theorem gG_oc : OC gG := by
  have h : sb (mu (ad gB 1) (ad gB 1)) (mu gX gX) = ad 1 (mu dN (mu (mu (mu gX gX) (ad gB 1)) (ad gB 1))) := by decide +kernel
  have h2 := congrArg cf h
  rw [cf_sb (mu_lt _ _), cf_ad, cf_mu, cf_mu, cf_mu, cf_mu, cf_mu, cf_one] at h2
  exact h2
theorem pvt_G : pvt gG = ces [gX, gB] := by
  have h1 : gG.1.val = gX := cf_sv gX_lt
  have h2 : sb gG.2.val 1 = gB := by
    have : gG.2.val = ad gB 1 := cf_sv (ad_lt _ _)
    rw [this]; decide +kernel
  unfold pvt
  rw [h1, h2]
theorem gen_pv (W0 : World) : Calls Tryd.prog 16 #[] W0 fun e w' => e = .returned (.agg (pvt gG)) ∧ Below W0.heap.size W0 w' := by
  rw [pvt_G]; exact gen_g W0
/-- Points in blocks. -/
theorem pvt_size (p : Fp × Fp) : (pvt p).size = 8 := by unfold pvt; rw [ces_size]; rfl
theorem ldPt {p : Fp × Fp} (t0 : TypeId) (w : World) (q : Nat) (h : w.heap[q]? = some (.cells (pvt p) t0 (0, 0))) : (Instr.loadAt 44 (.pointer (some ⟨q, 0, none⟩))).run Tryd.prog w = .ok (.agg (pvt p)) w :=
  ld_row (c := pvt p) Tryd.underlying44 rfl (by rw [pvt_size]; kernel_rfl) w q h
theorem stPt {p : Fp × Fp} {c : Array Value} (t0 : TypeId) (hc : c.size = 8) (w : World) (q : Nat) (h : w.heap[q]? = some (.cells c t0 (0, 0))) : (Instr.storeAt 44 (.pointer (some ⟨q, 0, none⟩)) (.agg (pvt p))).run Tryd.prog w = .ok () (w.setRow q (pvt p)) :=
  st_row (n := pvt p) (by rw [pvt_size]; kernel_rfl) (by rw [hc, pvt_size]) (ces_one _) w q h
theorem alPt (w : World) : (Instr.alloc 44 true (.tuple #[])).run Tryd.prog w = .ok (.pointer (some ⟨w.heap.size, 0, none⟩)) (w.alloc (.cells (pvt pO) 44)) := by
  rw [pv_O]; exact alP w
theorem bdPt (w : World) : (Instr.build 44 #[]).run Tryd.prog w = .ok (.agg (pvt pO)) w := by
  rw [pv_O]; exact bdP0 w
theorem cv_ib {n : Nat} (w : World) : (convert 3 5 (.int .i64 ((n : Nat) : Int))).run Tryd.prog w = .ok (.int .u8 ((n % 256 : Nat) : Int)) w := by
  have h1 : IntKind.u8.wrap (n : Int) = ((n % 256 : Nat) : Int) := by rw [IntKind.wrap_u8]; omega
  simp [convert, go_sem, h1]
theorem nbv_1 (a : Nat) : nbv (kl [a]) 32 = a := by simp [nbv, kl]
theorem nbv_2 (a b : Nat) : nbv (kl [a, b]) 32 = a + b * 256 := by simp [nbv, kl]
theorem kl_1 {a : Nat} (h : a < 256) (i : Nat) : kl [a] i < 256 := by
  unfold kl
  rcases i with _ | i
  · exact h
  · simp
theorem kl_2 {a b : Nat} (h : a < 256) (h2 : b < 256) (i : Nat) : kl [a, b] i < 256 := by
  unfold kl
  rcases i with _ | i
  · exact h
  · rcases i with _ | i
    · exact h2
    · simp
theorem u8_nat {a : Int} (h : (Lit.int .u8 a).wf = true) : ∃ n : Nat, n < 256 ∧ a = (n : Int) := by
  simp only [Lit.wf, Bool.and_eq_true, decide_eq_true_eq] at h
  have e1 : IntKind.u8.min = 0 := rfl
  have e2 : IntKind.u8.max = 255 := rfl
  exact ⟨a.toNat, by omega, by omega⟩
end Go.Proofs.YtgojlikjcpnhjaaDoor

namespace Go.Proofs.YtgojlikjcpnhjaaDoor
open Go.RowKit

def ordL : List Nat := [237, 211, 245, 92, 26, 99, 18, 88, 214, 156, 247, 162, 222, 249, 222, 20, 0, 0, 0, 0, 0, 0, 0, 0, 0, 0, 0, 0, 0, 0, 0, 16]
theorem ord_lt : ∀ i, kl ordL i < 256 := kl_lt (by decide)
theorem ord_n : nbv (kl ordL) 32 = oL := by decide +kernel
theorem ord_v : (fldM sumS (0, ad 0 1, 1, mu 0 (ad 0 1)) (gX, ad gB 1, 1, mu gX (ad gB 1)) (tops (kl ordL) (8 * 32) (8 * 32))).1 = 0 ∧ (fldM sumS (0, ad 0 1, 1, mu 0 (ad 0 1)) (gX, ad gB 1, 1, mu gX (ad gB 1)) (tops (kl ordL) (8 * 32) (8 * 32))).2.1 = (fldM sumS (0, ad 0 1, 1, mu 0 (ad 0 1)) (gX, ad gB 1, 1, mu gX (ad gB 1)) (tops (kl ordL) (8 * 32) (8 * 32))).2.2.1 := by decide +kernel

theorem pj_zero {v : Nat × Nat × Nat × Nat} {p : Fp × Fp} (h : Pj v p) (h0 : v.1 = 0) (h1 : v.2.1 = v.2.2.1) : p = pO := by
  obtain ⟨nz, e1, e2, -⟩ := h
  have hi := fi_mul nz
  have c0 : cf 0 = 0 := rfl
  rw [h0, c0] at e1
  rw [h1] at e2
  generalize cf v.2.2.1 = z at *
  refine Prod.ext ?_ ?_
  · show p.1 = 0
    grind
  · show p.2 = 1
    grind
theorem G_sh : Pj (gX, ad gB 1, 1, mu gX (ad gB 1)) gG := by
  have h := sh_pj gG
  have h1 : gG.1.val = gX := cf_sv gX_lt
  have h2 : gG.2.val = ad gB 1 := cf_sv (ad_lt _ _)
  rw [ad_v, h1, h2] at h
  exact h
theorem O_sh : Pj (0, ad 0 1, 1, mu 0 (ad 0 1)) pO := by
  have h := sh_pj pO
  rw [o_sh, o_x] at h
  exact h
/-- The generator, as many times as the order, is the origin. -/
theorem ord_G : mt oL gG = pO := by
  have gO : Gd (0, ad 0 1, 1, mu 0 (ad 0 1)) := ⟨zero_ltp, ad_lt _ _, one_ltp, mu_lt _ _⟩
  have gg : Gd (gX, ad gB 1, 1, mu gX (ad gB 1)) := ⟨gX_lt, ad_lt _ _, one_ltp, mu_lt _ _⟩
  have hr := fldM_rel (add := sumS) (no := (0, ad 0 1, 1, mu 0 (ad 0 1))) (one := (gX, ad gB 1, 1, mu gX (ad gB 1))) gG_oc (Rl := fun v q => Gd v ∧ Pj v q) (fun u v q r hq hr h1 h2 => ⟨sumS_gd _ _, sumS_pj h1.1 h2.1 hq hr h1.2 h2.2⟩) ⟨gO, O_sh⟩ ⟨gg, G_sh⟩ (tops (kl ordL) (8 * 32) (8 * 32))
  rw [tops_all ord_lt, ord_n] at hr
  exact pj_zero hr.2 ord_v.1 ord_v.2
theorem mt_O : ∀ j, mt j pO = pO
  | 0 => rfl
  | j + 1 => by show pa (mt j pO) pO = pO; rw [mt_O j, pa_O]
theorem mt_mod (n : Nat) : mt (n % oL) gG = mt n gG := by
  have h := mt_add gG_oc (n / oL * oL) (n % oL)
  rw [← mt_mul gG_oc oL, ord_G, mt_O, pa_comm, pa_O, Nat.mul_comm, Nat.div_add_mod] at h
  exact h
theorem nB_nbv (f : Nat → Nat) : ∀ k, nB f k = nbv f k
  | 0 => rfl
  | k + 1 => by show nB f k + _ = nbv f k + _; rw [nB_nbv f k]
theorem nbv_kq {n : Nat} : ∀ k, nbv (kq n) k = n % 256 ^ k
  | 0 => by rw [Nat.pow_zero, Nat.mod_one]; rfl
  | k + 1 => by
    show nbv (kq n) k + kq n k * 256 ^ k = _
    rw [nbv_kq k, Nat.pow_succ, Nat.mod_mul]
    unfold kq
    rw [Nat.mul_comm]
theorem oL_256 {n : Nat} (h : n < oL) : nbv (kq n) 32 = n := by
  rw [nbv_kq, Nat.mod_eq_of_lt]
  exact Nat.lt_trans h (by decide +kernel)
end Go.Proofs.YtgojlikjcpnhjaaDoor

namespace Go.Proofs.YtgojlikjcpnhjaaDoor
open Go.RowKit
/-- Values that are slices of such bytes. -/
def Sl (w : World) (xs : List Value) (L : List Pt) : Prop := xs.length = L.length ∧ ∀ i (h : i < L.length), ∃ a cap, xs[i]? = some (.slice a L[i].1 cap) ∧ Bs w a L[i].1 L[i].2 ∧ L[i].1 ≤ cap ∧ ∀ x, a = some x → x.block < w.heap.size
theorem Sl.later {w w' : World} {xs : List Value} {L : List Pt} (h : Sl w xs L) (hb : Below w.heap.size w w') : Sl w' xs L := ⟨h.1, fun i hi => by
  obtain ⟨a, cap, e, h1, h2, h3⟩ := h.2 i hi
  exact ⟨a, cap, e, h1.later hb, h2, fun x e => Nat.lt_of_lt_of_le (h3 x e) hb.size⟩⟩
theorem Sl.app {w : World} {xs ys : List Value} {L M : List Pt} (h : Sl w xs L) (k : Sl w ys M) : Sl w (xs ++ ys) (L ++ M) := by
  refine ⟨by rw [List.length_append, List.length_append, h.1, k.1], fun i hi => ?_⟩
  rw [List.length_append] at hi
  rcases Nat.lt_or_ge i L.length with hl | hl
  · obtain ⟨a, cap, e, r⟩ := h.2 i hl
    rw [List.getElem_append_left hl]
    exact ⟨a, cap, by rw [List.getElem?_append_left (by rw [h.1]; exact hl)]; exact e, r⟩
  · obtain ⟨a, cap, e, r⟩ := k.2 (i - L.length) (by omega)
    rw [List.getElem_append_right hl]
    exact ⟨a, cap, by rw [List.getElem?_append_right (by rw [h.1]; exact hl), h.1]; exact e, r⟩
theorem Sl.one {w : World} {xs : List Value} {L : List Pt} (h : Sl w xs L) : ∀ u ∈ xs, u.oneCell' = true := by
  intro u hu
  obtain ⟨i, hi, e⟩ := List.mem_iff_getElem.1 hu
  obtain ⟨a, cap, e2, -⟩ := h.2 i (by rw [← h.1]; exact hi)
  rw [List.getElem?_eq_getElem hi, e] at e2
  cases e2; rfl
theorem ps_vals {w : World} {pa : Option Addr} {L : List Pt} (h : PsAt w pa L) : ∃ xs, Sl w xs L ∧ RowAt w pa xs := by
  rcases Nat.eq_zero_or_pos L.length with h0 | h0
  · exact ⟨[], ⟨h0.symm, fun i hi => by omega⟩, fun h => by simp at h⟩
  · obtain ⟨b, off, rfl, hc⟩ := h h0
    have hx : ∀ i, ((List.range L.length).map fun i => (w.cell? ⟨b, off + i, none⟩).getD undef)[i]? = if i < L.length then some ((w.cell? ⟨b, off + i, none⟩).getD undef) else none := by
      intro i
      rw [List.getElem?_map]
      split
      · next h => rw [List.getElem?_range h]; rfl
      · next h => rw [List.getElem?_eq_none (by simpa using h)]; rfl
    refine ⟨(List.range L.length).map fun i => (w.cell? ⟨b, off + i, none⟩).getD undef, ⟨by simp, fun i hi => ?_⟩, fun _ => ⟨b, off, rfl, fun i v hv => ?_⟩⟩
    · obtain ⟨a, cap, e, r⟩ := hc i hi
      exact ⟨a, cap, by rw [hx, if_pos hi, e]; rfl, r⟩
    · rw [hx] at hv
      split at hv
      · next h => obtain ⟨a, cap, e, r⟩ := hc i h; rw [e] at hv ⊢; exact hv
      · cases hv
theorem ps_of {w : World} {pa : Option Addr} {L : List Pt} {xs : List Value} (h : Sl w xs L) (hr : RowAt w pa xs) : PsAt w pa L := fun h0 => by
  obtain ⟨b, off, e, hc⟩ := hr (by rw [h.1]; exact h0)
  refine ⟨b, off, e, fun i hi => ?_⟩
  obtain ⟨a, cap, e2, r⟩ := h.2 i hi
  exact ⟨a, cap, hc i _ e2, r⟩
/-- Two rows of parts, one behind the other. -/
theorem concat_p {w : World} {pa qa : Option Addr} {pc qc g : Nat} {L M : List Pt} (hP : PsAt w pa L) (hQ : PsAt w qa M) (h0 : 0 < L.length) (hn : L.length + M.length ≤ 1000)
    (h3 : w.heap[g]? = some (.cells #[.slice pa L.length pc, .slice qa M.length qc] 32 (0, 0))) :
    Calls Tryd.prog 21 #[.slice (some ⟨g, 0, none⟩) 2 2] w fun e w' => ∃ r cap, e = .returned (.slice (some ⟨r, 0, none⟩) (L ++ M).length cap) ∧ PsAt w' (some ⟨r, 0, none⟩) (L ++ M) ∧ Below w.heap.size w w' := by
  obtain ⟨xs, s1, r1⟩ := ps_vals hP
  obtain ⟨ys, s2, r2⟩ := ps_vals hQ
  have hf : [xs, ys].flatten = xs ++ ys := by simp
  have hl : [xs, ys].flatten.length = L.length + M.length := by rw [hf, List.length_append, s1.1, s2.1]
  refine (concat_s (some ⟨g, 0, none⟩) 2 [xs, ys] w (fun _ => ⟨g, 0, rfl, fun i hi => ?_⟩) 2 rfl (by omega) (by rw [hl]; omega) (by rw [hl]; omega) (fun l hx => ?_)).mono ?_
  · have : i = 0 ∨ i = 1 := by simp at hi; omega
    rcases this with rfl | rfl
    · refine ⟨pa, pc, ?_, r1⟩
      rw [cell_of_row _ _ _ _ _ _ h3]
      show _ = some (Value.slice _ xs.length pc)
      rw [s1.1]; rfl
    · refine ⟨qa, qc, ?_, r2⟩
      rw [cell_of_row _ _ _ _ _ _ h3]
      show _ = some (Value.slice _ ys.length qc)
      rw [s2.1]; rfl
  · rcases List.mem_cons.1 hx with rfl | hx
    · exact s1.one
    · rcases List.mem_cons.1 hx with rfl | hx
      · exact s2.one
      · cases hx
  · rintro e w' ⟨v, rfl, ho, hb⟩
    rw [hf] at ho
    have hll : (xs ++ ys).length = (L ++ M).length := by rw [List.length_append, List.length_append, s1.1, s2.1]
    have hlm : (L ++ M).length = L.length + M.length := List.length_append
    rw [hll] at ho
    rcases ho.2 with ⟨_, e⟩ | ⟨r, cap, cur, rfl, hr, hh, hc, _, _, ht⟩
    · omega
    · refine ⟨r, cap, rfl, ps_of ((s1.app s2).later hb) (fun _ => ⟨r, 0, rfl, fun i v hi => ?_⟩), hb⟩
      have := ho.cells (g := r) rfl i v hi
      rwa [Addr.add_lit] at this
/-- From a region walked by hand back to the engine: one block more. -/
theorem go_grow2 {W : Wd} {s : List SV} {m : List Blk} {β : Nat → Nat} {a : Act} {w : World} {Q : Exit → Act → World → Prop} (h : St W s m β a w) (cc : Array Value) (t0 : TypeId) (s' : List SV) {a' : Act} {w' : World} (q : Nat) (hq : w.heap.size ≤ q) (hr : w'.heap[q]? = some (.cells cc t0 (0, 0))) (hb : Below w.heap.size w w')
    (hk : ∀ β a w, St W s' (m ++ [(cc, t0)]) β a w → Q .normal a w) (ha : a' = { tmps := (s'.map (den (bup β m.length q))).toArray, defers := [] }) (hl : liveB s' (m.length + 1) = true := by kernel_rfl) : Q .normal a' w' := by
  obtain ⟨h1, -⟩ := h.o0.grown hq hr hb
  refine hk (bup β m.length q) a' w' ⟨ha, h1.bel, h1.row, h1.old, h1.inj, live_of (by rw [List.length_append]; exact hl), h1.pin⟩
end Go.Proofs.YtgojlikjcpnhjaaDoor

namespace Go.Proofs.YtgojlikjcpnhjaaDoor
open Go.RowKit
set_option maxHeartbeats 4000000 in
theorem halves_d (F : Nat → Nat) (W0 : World) : Calls Tryd.prog 14 #[.agg (cw F)] W0 fun e w' => e = .returned (.tuple #[.agg (ck F), .agg (ck (hi32 F))]) ∧ Below W0.heap.size W0 w' := by
  refine s_in Tryd.func14 Tryd.ntmps14 rfl [.inl (.agg (cw F))] ?_
  intro β a h
  refine sym_seq ?_
  refine St.rg h [(1, .inr (0, pt 0)), (2, .inr (1, pt 0)), (3, .inr (2, pt 0))] [(cw F, 27), (ck (fun _ => 0), 23), (ck (fun _ => 0), 23)] [] [eN 0, eN 1, eN 2] ?_ ?_
  · exact oc (k_bx 0 (.agg (cw F)) (bxWd (F := F)) rfl rfl) <|
    oc (k_al 1 alK rfl rfl) <|
    oc (k_al 2 alK rfl rfl) <|
    ok_nil
  clear h; intro β a w h
  refine sym_then ?_
  refine sym_seq ?_
  refine St.rg h [(4, .inr (0, sl 0 32 64)), (5, .inr (0, pt 0)), (6, .inl (.agg (ck F))), (7, .inr (0, sl 32 32 32)), (8, .inr (0, pt 32)), (9, .inl (.agg (ck (hi32 F))))] [] [(1, ck F), (2, ck (hi32 F))] [nn, nn, eR 0, nn, nn, eR 0, eS 1, eS 2] ?_ ?_
  · exact oc (k_s3 0 0 32 64 none (some (.int .i64 32)) rfl rfl sl_lo) <|
    oc (k_sa 0 0 32 64 rfl rfl ar_lo) <|
    oc (k_ld 0 0 (.agg (ck F)) (c := cw F) (ld_half (F := F) (G := F) (off := 0) (by omega) (fun i => by rw [Nat.zero_add]) 27) rfl rfl) <|
    oc (k_s3 0 32 32 32 (some (.int .i64 32)) none rfl rfl sl_hi) <|
    oc (k_sa 0 32 32 32 rfl rfl ar_hi) <|
    oc (k_ld 0 32 (.agg (ck (hi32 F))) (c := cw F) (ld_half (F := F) (G := (hi32 F)) (off := 32) (by omega) (fun i => rfl) 27) rfl rfl) <|
    oc (k_st 1 0 (.agg (ck F)) (c := ck (fun _ => 0)) (n := ck F) (stK (F := F) (c := ck (fun _ => 0)) 23 (ck_size _)) rfl rfl) <|
    oc (k_st 2 0 (.agg (ck (hi32 F))) (c := ck (fun _ => 0)) (n := ck (hi32 F)) (stK (F := (hi32 F)) (c := ck (fun _ => 0)) 23 (ck_size _)) rfl rfl) <|
    ok_nil
  clear h; intro β a w h
  refine sym_then ?_
  refine wp_ret ?_
  exact s_rr (b := 1) (t0 := 23) (c := ck F) (b' := 2) (t0' := 23) (c' := ck (hi32 F)) h Tryd.results14 Tryd.underlying23 Tryd.underlying23 (fun hb => ⟨rfl, hb⟩) (by rw [ck_size]; kernel_rfl) (by rw [ck_size]; kernel_rfl)
end Go.Proofs.YtgojlikjcpnhjaaDoor

namespace Go.Proofs.YtgojlikjcpnhjaaDoor
open Go.RowKit
/-- The secret: the first half with some bits set. -/
def clmp (F : Nat → Nat) : Nat → Nat := (updN (updN (updN F 0 ((F 0) / 8 * 8)) 31 (((updN F 0 ((F 0) / 8 * 8)) 31) % 128)) 31 (((updN (updN F 0 ((F 0) / 8 * 8)) 31 (((updN F 0 ((F 0) / 8 * 8)) 31) % 128)) 31) % 64 + 64))
theorem cl_0 {F : Nat → Nat} (hF : ∀ i, F i < 256) : F 0 < 256 := hF 0
theorem cl_1 {F : Nat → Nat} (hF : ∀ i, F i < 256) : updN F 0 (F 0 / 8 * 8) 31 < 256 := hF 31
theorem cl_2 (F : Nat → Nat) : updN (updN F 0 (F 0 / 8 * 8)) 31 (updN F 0 (F 0 / 8 * 8) 31 % 128) 31 < 128 := by
  unfold updN; rw [if_pos rfl]; omega
theorem clmp_lt {F : Nat → Nat} (hF : ∀ i, F i < 256) (i : Nat) : clmp F i < 256 := by
  have h0 := hF 0
  unfold clmp updN
  split
  · omega
  · split
    · omega
    · exact hF i
set_option maxHeartbeats 4000000 in
theorem open_q {f F : Nat → Nat} (hF : ∀ i, F i < 256) (W0 : World) (cL0 : ∀ (w : World) (g q : Nat), Below W0.heap.size W0 w → w.heap[g]? = some (.cells (ck f) 23 (0, 0)) → w.heap[q]? = some (.cells #[.slice (some ⟨g, 0, none⟩) 32 32] 24 (0, 0)) → Calls Tryd.prog 20 #[.slice (some ⟨q, 0, none⟩) 1 1] w fun e w' => e = .returned (.agg (cw F)) ∧ Below w.heap.size w w') :
    Calls Tryd.prog 8 #[.agg (ck f)] W0 fun e w' => e = .returned (.tuple #[.agg (ck (clmp F)), .agg (ck (hi32 F))]) ∧ Below W0.heap.size W0 w' := by
  refine s_in Tryd.func8 Tryd.ntmps8 rfl [.inl (.agg (ck f))] ?_
  intro β a h
  refine sym_seq ?_
  refine St.rg h [(1, .inr (0, pt 0)), (2, .inr (1, pt 0)), (3, .inr (2, pt 0))] [(ck f, 23), (ck (fun _ => 0), 23), (ck (fun _ => 0), 23)] [] [eN 0, eN 1, eN 2] ?_ ?_
  · exact oc (k_bx 0 (.agg (ck f)) (bxK (b := f)) rfl rfl) <|
    oc (k_al 1 alK rfl rfl) <|
    oc (k_al 2 alK rfl rfl) <|
    ok_nil
  clear h; intro β a w h
  refine sym_then ?_
  refine sym_seq ?_
  replace h := St.cs h (s' := [.inl (.agg (ck f)), .inr (0, pt 0), .inr (1, pt 0), .inr (2, pt 0), uu, uu, uu, uu, uu, uu, uu, uu, uu, uu, uu, uu, uu, uu, uu, uu, uu, uu, uu, uu, uu]) (m' := [(ck f, 23), (ck (fun _ => 0), 23), (ck (fun _ => 0), 23)]) (by kernel_rfl) (by kernel_rfl)
  obtain ⟨W1f, q1f, βf, hk1f, hr1f, h⟩ := St.fixed h 0 (c := ck f) (t := 23)
  replace h := St.cs h (s' := [.inl (.agg (ck f)), .inl (.pointer (some ⟨q1f, 0, none⟩)), .inr (0, pt 0), .inr (1, pt 0), uu, uu, uu, uu, uu, uu, uu, uu, uu, uu, uu, uu, uu, uu, uu, uu, uu, uu, uu, uu, uu]) (m' := [(ck (fun _ => 0), 23), (ck (fun _ => 0), 23)]) (by kernel_rfl) (by kernel_rfl)
  replace h := h.o0
  refine St.rg h [(5, .inl (.slice (some ⟨q1f, 0, none⟩) 32 32)), (6, .inr (2, sl 0 1 1)), (7, .inl (.agg (cw F))), (8, .inl (.tuple #[.agg (ck F), .agg (ck (hi32 F))])), (4, .inl (.tuple #[.agg (ck F), .agg (ck (hi32 F))])), (9, .inl (.agg (ck F))), (10, .inl (.agg (ck (hi32 F))))] [(#[.slice (some ⟨q1f, 0, none⟩) 32 32], 24)] [(0, ck F), (1, ck (hi32 F))] [nn, eN 2, eR 2, nn, nn, nn, nn, eS 0, eS 1] ?_ ?_
  · exact oc (k_sp (.pointer (some ⟨q1f, 0, none⟩)) (.slice (some ⟨q1f, 0, none⟩) 32 32) none none rfl rfl (fun w => sl_key w q1f)) <|
    oc (k_bs #[(0, .slice (some ⟨q1f, 0, none⟩) 32 32)] 2 (c := #[.slice (some ⟨q1f, 0, none⟩) 32 32]) (t0 := 24) (fun w => by kernel_rfl) rfl rfl) <|
    oc (k_cb 20 (fun q => #[.slice (some ⟨q, 0, none⟩) 1 1]) (.agg (cw F)) 2 6 (fun w q hk hq => cL0 w q1f q (KW.below (hk1f _ hk)) (hr1f _ hk) hq) rfl rfl (by simp) (fm := sl 0 1 1)) <|
    oc (k_ca 14 #[.agg (cw F)] (.tuple #[.agg (ck F), .agg (ck (hi32 F))]) (fun w => halves_d F w) rfl rfl) <|
    oc (k_mv (.inl rfl) rfl) <|
    oc (k_ex (.tuple #[.agg (ck F), .agg (ck (hi32 F))]) (.agg (ck F)) rfl rfl) <|
    oc (k_ex (.tuple #[.agg (ck F), .agg (ck (hi32 F))]) (.agg (ck (hi32 F))) rfl rfl) <|
    oc (k_st 0 0 (.agg (ck F)) (c := ck (fun _ => 0)) (n := ck F) (stK (F := F) (c := ck (fun _ => 0)) 23 (ck_size _)) rfl rfl) <|
    oc (k_st 1 0 (.agg (ck (hi32 F))) (c := ck (fun _ => 0)) (n := ck (hi32 F)) (stK (F := (hi32 F)) (c := ck (fun _ => 0)) 23 (ck_size _)) rfl rfl) <|
    ok_nil
  clear h; intro β a w h
  refine sym_then ?_
  refine sym_seq ?_
  refine St.rg h [(11, .inr (0, pt 0)), (12, .inl (.int .u8 (((F 0) : Nat) : Int))), (13, .inl (.int .u8 ((((F 0) / 8 * 8) : Nat) : Int))), (14, .inr (0, pt 0))] [] [(0, ck (updN F 0 ((F 0) / 8 * 8)))] [nn, eR 0, nn, nn, eS 0] ?_ ?_
  · exact oc (k_ia 0 0 0 (.int .i64 ((0 : Nat) : Int)) (ixK (i := 0) (by omega)) rfl rfl) <|
    oc (k_ld 0 0 (.int .u8 (((F 0) : Nat) : Int)) (c := ck F) (ld_k (F := F) (i := 0) (t0 := 23) (by omega)) rfl rfl) <|
    oc (k_bi (.int .u8 (((F 0) : Nat) : Int)) (.int .u8 ((7 : Nat) : Int)) (.int .u8 ((((F 0) / 8 * 8) : Nat) : Int)) (an7 (m := (F 0)) (cl_0 hF)) rfl rfl) <|
    oc (k_ia 0 0 0 (.int .i64 ((0 : Nat) : Int)) (ixK (i := 0) (by omega)) rfl rfl) <|
    oc (k_st 0 0 (.int .u8 ((((F 0) / 8 * 8) : Nat) : Int)) (c := ck F) (n := ck (updN F 0 ((F 0) / 8 * 8))) (st_k (F := F) (i := 0) (v := ((F 0) / 8 * 8)) (t0 := 23) (by omega)) rfl rfl) <|
    ok_nil
  clear h; intro β a w h
  refine sym_then ?_
  refine sym_seq ?_
  refine St.rg h [(15, .inr (0, pt 31)), (16, .inl (.int .u8 ((((updN F 0 ((F 0) / 8 * 8)) 31) : Nat) : Int))), (17, .inl (.int .u8 (((((updN F 0 ((F 0) / 8 * 8)) 31) % 128) : Nat) : Int))), (18, .inr (0, pt 31))] [] [(0, ck (updN (updN F 0 ((F 0) / 8 * 8)) 31 (((updN F 0 ((F 0) / 8 * 8)) 31) % 128)))] [nn, eR 0, nn, nn, eS 0] ?_ ?_
  · exact oc (k_ia 0 0 31 (.int .i64 ((31 : Nat) : Int)) (ixK (i := 31) (by omega)) rfl rfl) <|
    oc (k_ld 0 31 (.int .u8 ((((updN F 0 ((F 0) / 8 * 8)) 31) : Nat) : Int)) (c := ck (updN F 0 ((F 0) / 8 * 8))) (ld_k (F := (updN F 0 ((F 0) / 8 * 8))) (i := 31) (t0 := 23) (by omega)) rfl rfl) <|
    oc (k_bi (.int .u8 ((((updN F 0 ((F 0) / 8 * 8)) 31) : Nat) : Int)) (.int .u8 ((128 : Nat) : Int)) (.int .u8 (((((updN F 0 ((F 0) / 8 * 8)) 31) % 128) : Nat) : Int)) (an128 (m := ((updN F 0 ((F 0) / 8 * 8)) 31)) (cl_1 hF)) rfl rfl) <|
    oc (k_ia 0 0 31 (.int .i64 ((31 : Nat) : Int)) (ixK (i := 31) (by omega)) rfl rfl) <|
    oc (k_st 0 31 (.int .u8 (((((updN F 0 ((F 0) / 8 * 8)) 31) % 128) : Nat) : Int)) (c := ck (updN F 0 ((F 0) / 8 * 8))) (n := ck (updN (updN F 0 ((F 0) / 8 * 8)) 31 (((updN F 0 ((F 0) / 8 * 8)) 31) % 128))) (st_k (F := (updN F 0 ((F 0) / 8 * 8))) (i := 31) (v := (((updN F 0 ((F 0) / 8 * 8)) 31) % 128)) (t0 := 23) (by omega)) rfl rfl) <|
    ok_nil
  clear h; intro β a w h
  refine sym_then ?_
  refine sym_seq ?_
  refine St.rg h [(19, .inr (0, pt 31)), (20, .inl (.int .u8 ((((updN (updN F 0 ((F 0) / 8 * 8)) 31 (((updN F 0 ((F 0) / 8 * 8)) 31) % 128)) 31) : Nat) : Int))), (21, .inl (.int .u8 (((((updN (updN F 0 ((F 0) / 8 * 8)) 31 (((updN F 0 ((F 0) / 8 * 8)) 31) % 128)) 31) % 64 + 64) : Nat) : Int))), (22, .inr (0, pt 31))] [] [(0, ck (updN (updN (updN F 0 ((F 0) / 8 * 8)) 31 (((updN F 0 ((F 0) / 8 * 8)) 31) % 128)) 31 (((updN (updN F 0 ((F 0) / 8 * 8)) 31 (((updN F 0 ((F 0) / 8 * 8)) 31) % 128)) 31) % 64 + 64)))] [nn, eR 0, nn, nn, eS 0] ?_ ?_
  · exact oc (k_ia 0 0 31 (.int .i64 ((31 : Nat) : Int)) (ixK (i := 31) (by omega)) rfl rfl) <|
    oc (k_ld 0 31 (.int .u8 ((((updN (updN F 0 ((F 0) / 8 * 8)) 31 (((updN F 0 ((F 0) / 8 * 8)) 31) % 128)) 31) : Nat) : Int)) (c := ck (updN (updN F 0 ((F 0) / 8 * 8)) 31 (((updN F 0 ((F 0) / 8 * 8)) 31) % 128))) (ld_k (F := (updN (updN F 0 ((F 0) / 8 * 8)) 31 (((updN F 0 ((F 0) / 8 * 8)) 31) % 128))) (i := 31) (t0 := 23) (by omega)) rfl rfl) <|
    oc (k_bi (.int .u8 ((((updN (updN F 0 ((F 0) / 8 * 8)) 31 (((updN F 0 ((F 0) / 8 * 8)) 31) % 128)) 31) : Nat) : Int)) (.int .u8 ((64 : Nat) : Int)) (.int .u8 (((((updN (updN F 0 ((F 0) / 8 * 8)) 31 (((updN F 0 ((F 0) / 8 * 8)) 31) % 128)) 31) % 64 + 64) : Nat) : Int)) (or64 (m := ((updN (updN F 0 ((F 0) / 8 * 8)) 31 (((updN F 0 ((F 0) / 8 * 8)) 31) % 128)) 31)) (cl_2 F)) rfl rfl) <|
    oc (k_ia 0 0 31 (.int .i64 ((31 : Nat) : Int)) (ixK (i := 31) (by omega)) rfl rfl) <|
    oc (k_st 0 31 (.int .u8 (((((updN (updN F 0 ((F 0) / 8 * 8)) 31 (((updN F 0 ((F 0) / 8 * 8)) 31) % 128)) 31) % 64 + 64) : Nat) : Int)) (c := ck (updN (updN F 0 ((F 0) / 8 * 8)) 31 (((updN F 0 ((F 0) / 8 * 8)) 31) % 128))) (n := ck (updN (updN (updN F 0 ((F 0) / 8 * 8)) 31 (((updN F 0 ((F 0) / 8 * 8)) 31) % 128)) 31 (((updN (updN F 0 ((F 0) / 8 * 8)) 31 (((updN F 0 ((F 0) / 8 * 8)) 31) % 128)) 31) % 64 + 64))) (st_k (F := (updN (updN F 0 ((F 0) / 8 * 8)) 31 (((updN F 0 ((F 0) / 8 * 8)) 31) % 128))) (i := 31) (v := (((updN (updN F 0 ((F 0) / 8 * 8)) 31 (((updN F 0 ((F 0) / 8 * 8)) 31) % 128)) 31) % 64 + 64)) (t0 := 23) (by omega)) rfl rfl) <|
    ok_nil
  clear h; intro β a w h
  refine sym_then ?_
  refine sym_seq ?_
  refine St.rg h [(23, .inl (.agg (ck (updN (updN (updN F 0 ((F 0) / 8 * 8)) 31 (((updN F 0 ((F 0) / 8 * 8)) 31) % 128)) 31 (((updN (updN F 0 ((F 0) / 8 * 8)) 31 (((updN F 0 ((F 0) / 8 * 8)) 31) % 128)) 31) % 64 + 64))))), (24, .inl (.agg (ck (hi32 F))))] [] [(0, ck (updN (updN (updN F 0 ((F 0) / 8 * 8)) 31 (((updN F 0 ((F 0) / 8 * 8)) 31) % 128)) 31 (((updN (updN F 0 ((F 0) / 8 * 8)) 31 (((updN F 0 ((F 0) / 8 * 8)) 31) % 128)) 31) % 64 + 64))), (1, ck (hi32 F))] [eR 0, eR 1, eS 0, eS 1] ?_ ?_
  · exact oc (k_ld 0 0 (.agg (ck (updN (updN (updN F 0 ((F 0) / 8 * 8)) 31 (((updN F 0 ((F 0) / 8 * 8)) 31) % 128)) 31 (((updN (updN F 0 ((F 0) / 8 * 8)) 31 (((updN F 0 ((F 0) / 8 * 8)) 31) % 128)) 31) % 64 + 64)))) (c := ck (updN (updN (updN F 0 ((F 0) / 8 * 8)) 31 (((updN F 0 ((F 0) / 8 * 8)) 31) % 128)) 31 (((updN (updN F 0 ((F 0) / 8 * 8)) 31 (((updN F 0 ((F 0) / 8 * 8)) 31) % 128)) 31) % 64 + 64))) (ldK (b := (updN (updN (updN F 0 ((F 0) / 8 * 8)) 31 (((updN F 0 ((F 0) / 8 * 8)) 31) % 128)) 31 (((updN (updN F 0 ((F 0) / 8 * 8)) 31 (((updN F 0 ((F 0) / 8 * 8)) 31) % 128)) 31) % 64 + 64))) 23) rfl rfl) <|
    oc (k_ld 1 0 (.agg (ck (hi32 F))) (c := ck (hi32 F)) (ldK (b := (hi32 F)) 23) rfl rfl) <|
    oc (k_st 0 0 (.agg (ck (updN (updN (updN F 0 ((F 0) / 8 * 8)) 31 (((updN F 0 ((F 0) / 8 * 8)) 31) % 128)) 31 (((updN (updN F 0 ((F 0) / 8 * 8)) 31 (((updN F 0 ((F 0) / 8 * 8)) 31) % 128)) 31) % 64 + 64)))) (c := ck (updN (updN (updN F 0 ((F 0) / 8 * 8)) 31 (((updN F 0 ((F 0) / 8 * 8)) 31) % 128)) 31 (((updN (updN F 0 ((F 0) / 8 * 8)) 31 (((updN F 0 ((F 0) / 8 * 8)) 31) % 128)) 31) % 64 + 64))) (n := ck (updN (updN (updN F 0 ((F 0) / 8 * 8)) 31 (((updN F 0 ((F 0) / 8 * 8)) 31) % 128)) 31 (((updN (updN F 0 ((F 0) / 8 * 8)) 31 (((updN F 0 ((F 0) / 8 * 8)) 31) % 128)) 31) % 64 + 64))) (stK (F := (updN (updN (updN F 0 ((F 0) / 8 * 8)) 31 (((updN F 0 ((F 0) / 8 * 8)) 31) % 128)) 31 (((updN (updN F 0 ((F 0) / 8 * 8)) 31 (((updN F 0 ((F 0) / 8 * 8)) 31) % 128)) 31) % 64 + 64))) (c := ck (updN (updN (updN F 0 ((F 0) / 8 * 8)) 31 (((updN F 0 ((F 0) / 8 * 8)) 31) % 128)) 31 (((updN (updN F 0 ((F 0) / 8 * 8)) 31 (((updN F 0 ((F 0) / 8 * 8)) 31) % 128)) 31) % 64 + 64))) 23 (ck_size _)) rfl rfl) <|
    oc (k_st 1 0 (.agg (ck (hi32 F))) (c := ck (hi32 F)) (n := ck (hi32 F)) (stK (F := (hi32 F)) (c := ck (hi32 F)) 23 (ck_size _)) rfl rfl) <|
    ok_nil
  clear h; intro β a w h
  refine sym_then ?_
  refine wp_ret ?_
  exact s_rrW (b := 0) (t0 := 23) (c := ck (updN (updN (updN F 0 ((F 0) / 8 * 8)) 31 (((updN F 0 ((F 0) / 8 * 8)) 31) % 128)) 31 (((updN (updN F 0 ((F 0) / 8 * 8)) 31 (((updN F 0 ((F 0) / 8 * 8)) 31) % 128)) 31) % 64 + 64))) (b' := 1) (t0' := 23) (c' := ck (hi32 F)) h Tryd.results8 Tryd.underlying23 Tryd.underlying23 (fun hb => ⟨rfl, KW.below (hk1f _ hb)⟩) (by rw [ck_size]; kernel_rfl) (by rw [ck_size]; kernel_rfl)
end Go.Proofs.YtgojlikjcpnhjaaDoor

namespace Go.Proofs.YtgojlikjcpnhjaaDoor
open Go.RowKit
theorem sl_wide (w : World) (q : Nat) : (Instr.sliceAt 27 (.pointer (some ⟨q, 0, none⟩)) none none none).run Tryd.prog w = .ok (.slice (some ⟨q, 0, none⟩) 64 64) w := by kernel_rfl
theorem cw_sz (F : Nat → Nat) : (Tryd.prog.info? 27).map (·.size) = some (cw F).size := by unfold cw; rw [ab_size]; kernel_rfl
theorem bs_wide {w : World} {q : Nat} {f : Nat → Nat} {t : TypeId} {fr : Nat × Nat} (hf : ∀ i, f i < 256) (h : w.heap[q]? = some (.cells (cw f) t fr)) : Bs w (some ⟨q, 0, none⟩) 64 f :=
  ⟨hf, fun _ => ⟨q, 0, rfl, fun i hi => by
    rw [cell_of_row _ _ _ _ _ _ h, Nat.zero_add]; unfold cw ab; exact arr_get 64 (fun i => .int .u8 ((f i : Nat) : Int)) i hi⟩⟩
set_option maxHeartbeats 4000000 in
set_option maxRecDepth 100000 in
theorem residue_q {F : Nat → Nat} {pa qa : Option Addr} {pc qc ln mn kn : Nat} (hF : ∀ i, F i < 256) (W0 : World)
    (cat0 : ∀ (w : World) (g : Nat), Below W0.heap.size W0 w → w.heap[g]? = some (.cells #[.slice qa mn qc, .slice pa ln pc] 32 (0, 0)) → Calls Tryd.prog 21 #[.slice (some ⟨g, 0, none⟩) 2 2] w fun e w' => ∃ r cap, e = .returned (.slice (some ⟨r, 0, none⟩) kn cap) ∧ Hid (Calls Tryd.prog 20 #[.slice (some ⟨r, 0, none⟩) kn cap] w' fun e w'' => e = .returned (.agg (cw F)) ∧ Below w'.heap.size w' w'') ∧ Below w.heap.size w w') :
    Calls Tryd.prog 10 #[.slice pa ln pc, .slice qa mn qc] W0 fun e w' => e = .returned (.agg (ck (kq (nB F 64 % oL)))) ∧ Below W0.heap.size W0 w' := by
  refine s_in Tryd.func10 Tryd.ntmps10 rfl [.inl (.slice pa ln pc), .inl (.slice qa mn qc)] ?_
  intro β a h
  refine sym_seq ?_
  refine St.rg h [(4, .inr (0, pt 0))] [(ck (fun _ => 0), 23)] [] [eN 0] ?_ ?_
  · exact oc (k_al 0 alK rfl rfl) <|
    ok_nil
  clear h; intro β a w h
  refine sym_then ?_
  refine sym_seq ?_
  replace h := St.cs h (s' := [.inl (.slice pa ln pc), .inl (.slice qa mn qc), uu, uu, .inr (0, pt 0), uu, uu, uu, uu, uu, uu, uu, uu, uu, uu, uu, uu, uu, uu]) (m' := [(ck (fun _ => 0), 23)]) (by kernel_rfl) (by kernel_rfl)
  obtain rfl : a = { tmps := #[.slice pa ln pc, .slice qa mn qc, undef, undef, fv (pt 0) (β 0), undef, undef, undef, undef, undef, undef, undef, undef, undef, undef, undef, undef, undef, undef], defers := [] } := h.tm
  have hb0 := KW.below h.bel
  have hal : Below w.heap.size w (w.alloc (.cells #[.slice qa mn qc, .slice pa ln pc] 32)) := (Below.refl _ _).alloc (Nat.le_refl _) _
  have hcat := cat0 _ _ (hb0.trans (hal.mono hb0.size)) (MapKept.heap_alloc w _).1
  have hH := hide1 h
  clear h
  refine reg_gen fun QQ hQQ => ?_
  go_wp2_with fail
  refine hcat.mono ?_
  rintro e w2 ⟨r, cap, rfl, hlg, hb2⟩
  have hb02 := (hb0.trans (hal.mono hb0.size)).trans (hb2.mono (hb0.trans (hal.mono hb0.size)).size)
  have hlong := hlg.out
  clear hcat
  go_wp2_with fail
  refine hlong.mono ?_
  rintro e w3 ⟨rfl, hb3⟩
  have hbw : Below w.heap.size w w3 := (hal.trans (hb2.mono hal.size)).trans (hb3.mono (hal.trans (hb2.mono hal.size)).size)
  have hr3 := (MapKept.heap_alloc w3 (.cells (ab 64 fun _ => 0) 27)).1
  have hz3 : ∀ w : World, (zeroValue 27).run Tryd.prog w = .ok (.agg (ab 64 fun _ => 0)) w := fun w => by kernel_rfl
  have hw5 := wrt_row (c' := cw F) hr3
  have hb5 : Below w.heap.size w ((w3.alloc (.cells (ab 64 fun _ => 0) 27)).setRow w3.heap.size (cw F)) := below_wrt (hbw.trans ((((Below.refl _ _).alloc (Nat.le_refl _) _)).mono hbw.size)) hw5 hbw.size (by have := hbw.size; simp; omega)
  have hr5 := hw5.row
  clear hlong hb2 hb3
  go_wp2_with (refine wpList_store_row rfl 27 (.tmp 5) (.tmp 12) rfl w3.heap.size (cw F) (ab 64 fun _ => 0) 27 rfl rfl (cw_sz F) hr3 (by rw [ab_size]; exact (ab_size _ _).symm) (ab_one _ _) rfl ?_)
  refine hQQ.out _ _ ?_
  clear hQQ QQ
  refine go_grow2 hH.out (cw F) 27 [.inl (.slice pa ln pc), .inl (.slice qa mn qc), uu, uu, .inr (0, pt 0), .inr (1, pt 0), uu, uu, .inl (.slice qa mn qc), .inl (.slice pa ln pc), .inl (.slice (some ⟨w.heap.size, 0, none⟩) 2 2), .inl (.slice (some ⟨r, 0, none⟩) kn cap), .inl (.agg (cw F)), uu, uu, uu, uu, uu, uu] w3.heap.size hbw.size hr5 hb5 ?_ (by kernel_rfl)
  clear hH hb0 hal hb02 hbw hr3 hz3 hw5 hb5 hr5; intro β a w h; replace h := h.o0
  refine sym_then ?_
  refine sym_seq ?_
  refine St.rg h [(14, .inr (1, sl 0 64 64)), (15, .inl (.tuple #[.agg (ck (kq (nB F 64 % oL))), .bool true])), (13, .inl (.tuple #[.agg (ck (kq (nB F 64 % oL))), .bool true])), (16, .inl (.agg (ck (kq (nB F 64 % oL))))), (17, .inl (.bool true)), (6, .inr (2, pt 0)), (7, .inl (.bool true))] [(ck (fun _ => 0), 23)] [(2, ck (kq (nB F 64 % oL)))] [nn, eR 1, nn, nn, nn, eN 2, eS 2] ?_ ?_
  · exact oc (k_sl 1 64 rfl rfl sl_wide) <|
    oc (k_cb 22 (fun q => #[.slice (some ⟨q, 0, none⟩) 64 64]) (.tuple #[.agg (ck (kq (nB F 64 % oL))), .bool true]) 1 14 (fun w q _ hq => residue_L (by omega) w (bs_wide hF hq)) rfl rfl (by simp) (fm := sl 0 64 64) (t0 := 27)) <|
    oc (k_mv (.inl rfl) rfl) <|
    oc (k_ex (.tuple #[.agg (ck (kq (nB F 64 % oL))), .bool true]) (.agg (ck (kq (nB F 64 % oL)))) rfl rfl) <|
    oc (k_ex (.tuple #[.agg (ck (kq (nB F 64 % oL))), .bool true]) (.bool true) rfl rfl) <|
    oc (k_al 2 alK rfl rfl) <|
    oc (k_st 2 0 (.agg (ck (kq (nB F 64 % oL)))) (c := ck (fun _ => 0)) (n := ck (kq (nB F 64 % oL))) (stK (F := (kq (nB F 64 % oL))) (c := ck (fun _ => 0)) 23 (ck_size _)) rfl rfl) <|
    oz (k_mv (.inr rfl) rfl) <|
    ok_nil
  clear h; intro β a w h
  refine sym_then ?_
  refine sym_seq ?_
  refine St.rg h [(18, .inl (.agg (ck (kq (nB F 64 % oL)))))] [] [(0, ck (kq (nB F 64 % oL)))] [eR 2, eS 0] ?_ ?_
  · exact oc (k_ld 2 0 (.agg (ck (kq (nB F 64 % oL)))) (c := ck (kq (nB F 64 % oL))) (ldK (b := (kq (nB F 64 % oL))) 23) rfl rfl) <|
    oc (k_st 0 0 (.agg (ck (kq (nB F 64 % oL)))) (c := ck (fun _ => 0)) (n := ck (kq (nB F 64 % oL))) (stK (F := (kq (nB F 64 % oL))) (c := ck (fun _ => 0)) 23 (ck_size _)) rfl rfl) <|
    ok_nil
  clear h; intro β a w h
  refine sym_then ?_
  refine wp_ret ?_
  exact s_rc (b := 0) (t0 := 23) (c := ck (kq (nB F 64 % oL))) h Tryd.results10 Tryd.underlying23 (fun hb => ⟨rfl, hb⟩) (by rw [ck_size]; kernel_rfl)
end Go.Proofs.YtgojlikjcpnhjaaDoor

namespace Go.Proofs.YtgojlikjcpnhjaaDoor
open Go.RowKit
set_option maxHeartbeats 4000000 in
theorem generator_d {f : Nat → Nat} (hf : ∀ i, f i < 256) (W0 : World) : Calls Tryd.prog 9 #[.agg (ck f)] W0 fun e w' => e = .returned (.agg (ck (kp (mt (nbv f 32) gG)))) ∧ Below W0.heap.size W0 w' := by
  refine s_in Tryd.func9 Tryd.ntmps9 rfl [.inl (.agg (ck f))] ?_
  intro β a h
  refine sym_seq ?_
  refine St.rg h [(1, .inr (0, pt 0)), (2, .inr (1, pt 0))] [(ck f, 23), (ck (fun _ => 0), 23)] [] [eN 0, eN 1] ?_ ?_
  · exact oc (k_bx 0 (.agg (ck f)) (bxK (b := f)) rfl rfl) <|
    oc (k_al 1 alK rfl rfl) <|
    ok_nil
  clear h; intro β a w h
  refine sym_then ?_
  refine sym_seq ?_
  refine St.rg h [(3, .inl (.agg (pvt gG))), (4, .inl (.agg (ck f))), (5, .inl (.agg (pvt (mt (nbv f 32) gG)))), (6, .inl (.agg (ck (kp (mt (nbv f 32) gG)))))] [] [(1, ck (kp (mt (nbv f 32) gG)))] [nn, eR 0, nn, nn, eS 1] ?_ ?_
  · exact oc (k_ca 16 #[] (.agg (pvt gG)) gen_pv rfl rfl) <|
    oc (k_ld 0 0 (.agg (ck f)) (c := ck f) (ldK (b := f) 23) rfl rfl) <|
    oc (k_ca 17 #[.agg (pvt gG), .agg (ck f)] (.agg (pvt (mt (nbv f 32) gG))) (fun w => many_pv gG_oc hf w) rfl rfl) <|
    oc (k_ca 19 #[.agg (pvt (mt (nbv f 32) gG))] (.agg (ck (kp (mt (nbv f 32) gG)))) (fun w => key_pv _ w) rfl rfl) <|
    oc (k_st 1 0 (.agg (ck (kp (mt (nbv f 32) gG)))) (c := ck (fun _ => 0)) (n := ck (kp (mt (nbv f 32) gG))) (stK (F := (kp (mt (nbv f 32) gG))) (c := ck (fun _ => 0)) 23 (ck_size _)) rfl rfl) <|
    ok_nil
  clear h; intro β a w h
  refine sym_then ?_
  refine wp_ret ?_
  exact s_rc (b := 1) (t0 := 23) (c := ck (kp (mt (nbv f 32) gG))) h Tryd.results9 Tryd.underlying23 (fun hb => ⟨rfl, hb⟩) (by rw [ck_size]; kernel_rfl)
end Go.Proofs.YtgojlikjcpnhjaaDoor

namespace Go.Proofs.YtgojlikjcpnhjaaDoor.Lo
/-- The digest of n bytes. -/
def lg (n : Nat) (f : Nat → Nat) : Nat → Nat := outF (fun _ => 0) (bkH (bgF 8) (padF f n) (nP n)) 8
theorem padF_cong {f g : Nat → Nat} {n : Nat} (h : ∀ i, i < n → f i = g i) : padF f n = padF g n := by
  funext i
  unfold padF
  by_cases hi : i < n
  · rw [if_pos hi, if_pos hi, h i hi]
  · rw [if_neg hi, if_neg hi]
theorem lg_cong {f g : Nat → Nat} {n : Nat} (h : ∀ i, i < n → f i = g i) : lg n f = lg n g := by unfold lg; rw [padF_cong h]
theorem outF_lt {F H : Nat → Nat} (h : ∀ i, F i < 256) : ∀ k i, outF F H k i < 256
  | 0, i => h i
  | k + 1, i => ptF_lt (outF_lt h k) 8 i
theorem lg_lt (n : Nat) (f : Nat → Nat) (i : Nat) : lg n f i < 256 := outF_lt (fun _ => by decide) 8 i
end Go.Proofs.YtgojlikjcpnhjaaDoor.Lo
namespace Go.Proofs.YtgojlikjcpnhjaaDoor
open Go.RowKit Lo
theorem long_lg {L : List Pt} {pa : Option Addr} {pc : Nat} {W0 : World} (hg : Gl W0) (hP : PsAt W0 pa L) (hL : ∀ x ∈ L, ∀ i, x.2 i < 256) (hlen : lenS L ≤ 1099511627776) (hn : L.length ≤ 1000000) :
    Calls Tryd.prog 20 #[.slice pa L.length pc] W0 fun e w' => e = .returned (.agg (cw (lg (lenS L) (joinF L)))) ∧ Below W0.heap.size W0 w' := by
  have := long_d (pc := pc) hg hP hL hlen hn
  rw [longP_bk] at this
  exact this
theorem join_1 (n : Nat) (f : Nat → Nat) : lg (lenS [(n, f)]) (joinF [(n, f)]) = lg n f := by
  have e : lenS [(n, f)] = n := by simp [lenS]
  rw [e]
  exact lg_cong fun i hi => by
    show (if i < n then f i else 0) = f i
    rw [if_pos hi]
theorem open_d {f : Nat → Nat} {W0 : World} (hg : Gl W0) (hf : ∀ i, f i < 256) : Calls Tryd.prog 8 #[.agg (ck f)] W0 fun e w' => e = .returned (.tuple #[.agg (ck (clmp (lg 32 f))), .agg (ck (hi32 (lg 32 f)))]) ∧ Below W0.heap.size W0 w' := by
  refine open_q (lg_lt 32 f) W0 fun w g q hb h1 h2 => ?_
  have := long_lg (L := [(32, f)]) (pc := 1) (gl_b hg hb) (ps_1 (x := (32, f)) h2 (bs_key hf h1) (Nat.le_refl _) (fun p e => by cases e; exact (Array.getElem?_eq_some_iff.1 h1).1)) (fun x hx i => by
    rcases List.mem_cons.1 hx with rfl | hx
    · exact hf i
    · cases hx) (by simp [lenS]) (by simp)
  rw [join_1] at this
  exact this
theorem PsAt.later {w w' : World} {pa : Option Addr} {L : List Pt} (h : PsAt w pa L) (hb : Below w.heap.size w w') : PsAt w' pa L := by
  obtain ⟨xs, h1, h2⟩ := ps_vals h
  exact ps_of (h1.later hb) (h2.later hb)
/-- The residue of a text's digest. -/
def rsd (L : List Pt) : Nat := nB (lg (lenS L) (joinF L)) 64 % oL
theorem residue_d {L M : List Pt} {pa qa : Option Addr} {pc qc : Nat} {W0 : World} (hg : Gl W0) (hP : PsAt W0 pa L) (hQ : PsAt W0 qa M) (h0 : 0 < M.length) (hL : ∀ x ∈ L, ∀ i, x.2 i < 256) (hM : ∀ x ∈ M, ∀ i, x.2 i < 256) (hlen : lenS (M ++ L) ≤ 1099511627776) (hn : M.length + L.length ≤ 1000) :
    Calls Tryd.prog 10 #[.slice pa L.length pc, .slice qa M.length qc] W0 fun e w' => e = .returned (.agg (ck (kq (rsd (M ++ L))))) ∧ Below W0.heap.size W0 w' := by
  refine residue_q (kn := (M ++ L).length) (lg_lt _ _) W0 fun w g hb h1 => ?_
  refine (concat_p (hQ.later hb) (hP.later hb) h0 hn h1).mono ?_
  rintro e w' ⟨r, cap, rfl, hps, hb2⟩
  refine ⟨r, cap, rfl, hide1 ?_, hb2⟩
  exact long_lg (gl_b (gl_b hg hb) hb2) hps (fun x hx => by
    rcases List.mem_append.1 hx with hx | hx
    · exact hM x hx
    · exact hL x hx) hlen (by rw [List.length_append]; omega)
end Go.Proofs.YtgojlikjcpnhjaaDoor

namespace Go.Proofs.YtgojlikjcpnhjaaDoor
open Go.RowKit
theorem ldWd {F : Nat → Nat} (t0 : TypeId) (w : World) (q : Nat) (h : w.heap[q]? = some (.cells (cw F) t0 (0, 0))) : (Instr.loadAt 27 (.pointer (some ⟨q, 0, none⟩))).run Tryd.prog w = .ok (.agg (cw F)) w :=
  ld_row (c := cw F) Tryd.underlying27 rfl (cw_sz F) w q h
theorem stWd {F : Nat → Nat} {c : Array Value} (t0 : TypeId) (hc : c.size = 64) (w : World) (q : Nat) (h : w.heap[q]? = some (.cells c t0 (0, 0))) : (Instr.storeAt 27 (.pointer (some ⟨q, 0, none⟩)) (.agg (cw F))).run Tryd.prog w = .ok () (w.setRow q (cw F)) :=
  st_row (n := cw F) (cw_sz F) (by rw [hc]; exact (ab_size _ _).symm) (ab_one _ _) w q h
theorem cw_zero : cw (fun _ => 0) = Array.replicate 64 (.int .u8 0) := by unfold cw ab arr; kernel_rfl
theorem alWd (w : World) : (Instr.alloc 27 true (.tuple #[])).run Tryd.prog w = .ok (.pointer (some ⟨w.heap.size, 0, none⟩)) (w.alloc (.cells (cw fun _ => 0) 27)) := by
  rw [cw_zero]; kernel_rfl
set_option maxHeartbeats 4000000 in
theorem public_q {f S T : Nat → Nat} (hS : ∀ i, S i < 256) (W0 : World) (cO0 : ∀ w, Below W0.heap.size W0 w → Calls Tryd.prog 8 #[.agg (ck f)] w fun e w' => e = .returned (.tuple #[.agg (ck S), .agg (ck T)]) ∧ Below w.heap.size w w') : Calls Tryd.prog 7 #[.agg (ck f)] W0 fun e w' => e = .returned (.agg (ck (kp (mt (nbv S 32) gG)))) ∧ Below W0.heap.size W0 w' := by
  refine s_in Tryd.func7 Tryd.ntmps7 rfl [.inl (.agg (ck f))] ?_
  intro β a h
  refine sym_seq ?_
  refine St.rg h [(1, .inr (0, pt 0)), (2, .inr (1, pt 0))] [(ck f, 23), (ck (fun _ => 0), 23)] [] [eN 0, eN 1] ?_ ?_
  · exact oc (k_bx 0 (.agg (ck f)) (bxK (b := f)) rfl rfl) <|
    oc (k_al 1 alK rfl rfl) <|
    ok_nil
  clear h; intro β a w h
  refine sym_then ?_
  refine sym_seq ?_
  refine St.rg h [(6, .inl (.agg (ck f))), (7, .inl (.tuple #[.agg (ck S), .agg (ck T)])), (5, .inl (.tuple #[.agg (ck S), .agg (ck T)])), (8, .inl (.agg (ck S))), (9, .inl (.agg (ck T))), (3, .inr (2, pt 0)), (4, .inr (3, pt 0))] [(ck (fun _ => 0), 23), (ck (fun _ => 0), 23)] [(2, ck S), (3, ck T)] [eR 0, nn, nn, nn, nn, eN 2, eN 3, eS 2, eS 3] ?_ ?_
  · exact oc (k_ld 0 0 (.agg (ck f)) (c := ck f) (ldK (b := f) 23) rfl rfl) <|
    oc (k_cw 8 #[.agg (ck f)] (.tuple #[.agg (ck S), .agg (ck T)]) (fun w hw => cO0 w (KW.below hw)) rfl rfl) <|
    oc (k_mv (.inl rfl) rfl) <|
    oc (k_ex (.tuple #[.agg (ck S), .agg (ck T)]) (.agg (ck S)) rfl rfl) <|
    oc (k_ex (.tuple #[.agg (ck S), .agg (ck T)]) (.agg (ck T)) rfl rfl) <|
    oc (k_al 2 alK rfl rfl) <|
    oc (k_al 3 alK rfl rfl) <|
    oc (k_st 2 0 (.agg (ck S)) (c := ck (fun _ => 0)) (n := ck S) (stK (F := S) (c := ck (fun _ => 0)) 23 (ck_size _)) rfl rfl) <|
    oc (k_st 3 0 (.agg (ck T)) (c := ck (fun _ => 0)) (n := ck T) (stK (F := T) (c := ck (fun _ => 0)) 23 (ck_size _)) rfl rfl) <|
    ok_nil
  clear h; intro β a w h
  refine sym_then ?_
  refine sym_seq ?_
  refine St.rg h [(10, .inl (.agg (ck S))), (11, .inl (.agg (ck (kp (mt (nbv S 32) gG)))))] [] [(1, ck (kp (mt (nbv S 32) gG)))] [eR 2, nn, eS 1] ?_ ?_
  · exact oc (k_ld 2 0 (.agg (ck S)) (c := ck S) (ldK (b := S) 23) rfl rfl) <|
    oc (k_ca 9 #[.agg (ck S)] (.agg (ck (kp (mt (nbv S 32) gG)))) (fun w => generator_d hS w) rfl rfl) <|
    oc (k_st 1 0 (.agg (ck (kp (mt (nbv S 32) gG)))) (c := ck (fun _ => 0)) (n := ck (kp (mt (nbv S 32) gG))) (stK (F := (kp (mt (nbv S 32) gG))) (c := ck (fun _ => 0)) 23 (ck_size _)) rfl rfl) <|
    ok_nil
  clear h; intro β a w h
  refine sym_then ?_
  refine wp_ret ?_
  exact s_rc (b := 1) (t0 := 23) (c := ck (kp (mt (nbv S 32) gG))) h Tryd.results7 Tryd.underlying23 (fun hb => ⟨rfl, hb⟩) (by rw [ck_size]; kernel_rfl)
set_option maxHeartbeats 4000000 in
set_option maxRecDepth 100000 in
theorem sign_q {f S T : Nat → Nat} {R1 R2 ln pc : Nat} {pa : Option Addr} (hS : ∀ i, S i < 256) (W0 : World) (cO0 : ∀ w, Below W0.heap.size W0 w → Calls Tryd.prog 8 #[.agg (ck f)] w fun e w' => e = .returned (.tuple #[.agg (ck S), .agg (ck T)]) ∧ Below w.heap.size w w')
    (cR1 : ∀ (w : World) (g q : Nat), Below W0.heap.size W0 w → w.heap[g]? = some (.cells (ck T) 23 (0, 0)) → w.heap[q]? = some (.cells #[.slice (some ⟨g, 0, none⟩) 32 32] 24 (0, 0)) → Calls Tryd.prog 10 #[.slice pa ln pc, .slice (some ⟨q, 0, none⟩) 1 1] w fun e w' => e = .returned (.agg (ck (kq R1))) ∧ Below w.heap.size w w')
    (cR2 : ∀ (w : World) (g g' q : Nat), Below W0.heap.size W0 w → w.heap[g]? = some (.cells (ck (kp (mt (nbv (kq R1) 32) gG))) 23 (0, 0)) → w.heap[g']? = some (.cells (ck (kp (mt (nbv S 32) gG))) 23 (0, 0)) → w.heap[q]? = some (.cells #[.slice (some ⟨g, 0, none⟩) 32 32, .slice (some ⟨g', 0, none⟩) 32 32] 24 (0, 0)) → Calls Tryd.prog 10 #[.slice pa ln pc, .slice (some ⟨q, 0, none⟩) 2 2] w fun e w' => e = .returned (.agg (ck (kq R2))) ∧ Below w.heap.size w w') :
    Calls Tryd.prog 5 #[.agg (ck f), .slice pa ln pc] W0 fun e w' => e = .returned (.agg (cw (jn (kp (mt (nbv (kq R1) 32) gG)) (kq ((nB (kq R2) 32 * nB S 32 + nB (kq R1) 32) % oL))))) ∧ Below W0.heap.size W0 w' := by
  refine s_in Tryd.func5 Tryd.ntmps5 rfl [.inl (.agg (ck f)), .inl (.slice pa ln pc)] ?_
  intro β a h
  refine sym_seq ?_
  refine St.rg h [(2, .inr (0, pt 0)), (4, .inr (1, pt 0))] [(ck f, 23), (cw (fun _ => 0), 27)] [] [eN 0, eN 1] ?_ ?_
  · exact oc (k_bx 0 (.agg (ck f)) (bxK (b := f)) rfl rfl) <|
    oc (k_al 1 alWd rfl rfl) <|
    ok_nil
  clear h; intro β a w h
  refine sym_then ?_
  refine sym_seq ?_
  refine St.rg h [(12, .inl (.agg (ck f))), (13, .inl (.tuple #[.agg (ck S), .agg (ck T)])), (11, .inl (.tuple #[.agg (ck S), .agg (ck T)])), (14, .inl (.agg (ck S))), (15, .inl (.agg (ck T))), (5, .inr (2, pt 0)), (6, .inr (3, pt 0))] [(ck (fun _ => 0), 23), (ck (fun _ => 0), 23)] [(2, ck S), (3, ck T)] [eR 0, nn, nn, nn, nn, eN 2, eN 3, eS 2, eS 3] ?_ ?_
  · exact oc (k_ld 0 0 (.agg (ck f)) (c := ck f) (ldK (b := f) 23) rfl rfl) <|
    oc (k_cw 8 #[.agg (ck f)] (.tuple #[.agg (ck S), .agg (ck T)]) (fun w hw => cO0 w (KW.below hw)) rfl rfl) <|
    oc (k_mv (.inl rfl) rfl) <|
    oc (k_ex (.tuple #[.agg (ck S), .agg (ck T)]) (.agg (ck S)) rfl rfl) <|
    oc (k_ex (.tuple #[.agg (ck S), .agg (ck T)]) (.agg (ck T)) rfl rfl) <|
    oc (k_al 2 alK rfl rfl) <|
    oc (k_al 3 alK rfl rfl) <|
    oc (k_st 2 0 (.agg (ck S)) (c := ck (fun _ => 0)) (n := ck S) (stK (F := S) (c := ck (fun _ => 0)) 23 (ck_size _)) rfl rfl) <|
    oc (k_st 3 0 (.agg (ck T)) (c := ck (fun _ => 0)) (n := ck T) (stK (F := T) (c := ck (fun _ => 0)) 23 (ck_size _)) rfl rfl) <|
    ok_nil
  clear h; intro β a w h
  refine sym_then ?_
  refine sym_seq ?_
  refine St.rg h [(16, .inl (.agg (ck S))), (17, .inl (.agg (ck (kp (mt (nbv S 32) gG))))), (7, .inr (4, pt 0))] [(ck (fun _ => 0), 23)] [(4, ck (kp (mt (nbv S 32) gG)))] [eR 2, nn, eN 4, eS 4] ?_ ?_
  · exact oc (k_ld 2 0 (.agg (ck S)) (c := ck S) (ldK (b := S) 23) rfl rfl) <|
    oc (k_ca 9 #[.agg (ck S)] (.agg (ck (kp (mt (nbv S 32) gG)))) (fun w => generator_d hS w) rfl rfl) <|
    oc (k_al 4 alK rfl rfl) <|
    oc (k_st 4 0 (.agg (ck (kp (mt (nbv S 32) gG)))) (c := ck (fun _ => 0)) (n := ck (kp (mt (nbv S 32) gG))) (stK (F := (kp (mt (nbv S 32) gG))) (c := ck (fun _ => 0)) 23 (ck_size _)) rfl rfl) <|
    ok_nil
  clear h; intro β a w h
  refine sym_then ?_
  refine sym_seq ?_
  replace h := St.cs h (s' := [.inl (.agg (ck f)), .inl (.slice pa ln pc), .inr (0, pt 0), uu, .inr (1, pt 0), .inr (2, pt 0), .inr (3, pt 0), .inr (4, pt 0), uu, uu, uu, .inl (.tuple #[.agg (ck S), .agg (ck T)]), .inl (.agg (ck f)), .inl (.tuple #[.agg (ck S), .agg (ck T)]), .inl (.agg (ck S)), .inl (.agg (ck T)), .inl (.agg (ck S)), .inl (.agg (ck (kp (mt (nbv S 32) gG)))), uu, uu, uu, uu, uu, uu, uu, uu, uu, uu, uu, uu, uu, uu, uu, uu, uu]) (m' := [(ck f, 23), (cw (fun _ => 0), 27), (ck S, 23), (ck T, 23), (ck (kp (mt (nbv S 32) gG)), 23)]) (by kernel_rfl) (by kernel_rfl)
  obtain ⟨W1f, q1f, βf, hk1f, hr1f, h⟩ := St.fixed h 3 (c := ck T) (t := 23)
  replace h := St.cs h (s' := [.inl (.agg (ck f)), .inl (.slice pa ln pc), .inr (0, pt 0), uu, .inr (1, pt 0), .inr (2, pt 0), .inl (.pointer (some ⟨q1f, 0, none⟩)), .inr (3, pt 0), uu, uu, uu, .inl (.tuple #[.agg (ck S), .agg (ck T)]), .inl (.agg (ck f)), .inl (.tuple #[.agg (ck S), .agg (ck T)]), .inl (.agg (ck S)), .inl (.agg (ck T)), .inl (.agg (ck S)), .inl (.agg (ck (kp (mt (nbv S 32) gG)))), uu, uu, uu, uu, uu, uu, uu, uu, uu, uu, uu, uu, uu, uu, uu, uu, uu]) (m' := [(ck f, 23), (cw (fun _ => 0), 27), (ck S, 23), (ck (kp (mt (nbv S 32) gG)), 23)]) (by kernel_rfl) (by kernel_rfl)
  replace h := h.o0
  refine St.rg h [(18, .inl (.slice pa ln pc)), (19, .inl (.slice (some ⟨q1f, 0, none⟩) 32 32)), (20, .inr (4, sl 0 1 1)), (21, .inl (.agg (ck (kq R1)))), (8, .inr (5, pt 0))] [(#[.slice (some ⟨q1f, 0, none⟩) 32 32], 24), (ck (fun _ => 0), 23)] [(5, ck (kq R1))] [nn, nn, eN 4, eR 4, eN 5, eS 5] ?_ ?_
  · exact oc (k_mv (.inl rfl) rfl) <|
    oc (k_sp (.pointer (some ⟨q1f, 0, none⟩)) (.slice (some ⟨q1f, 0, none⟩) 32 32) none none rfl rfl (fun w => sl_key w q1f)) <|
    oc (k_bs #[(0, .slice (some ⟨q1f, 0, none⟩) 32 32)] 4 (c := #[.slice (some ⟨q1f, 0, none⟩) 32 32]) (t0 := 24) (fun w => by kernel_rfl) rfl rfl) <|
    oc (k_cb 10 (fun q => #[.slice pa ln pc, .slice (some ⟨q, 0, none⟩) 1 1]) (.agg (ck (kq R1))) 4 20 (fun w q hk hq => cR1 w q1f q (KW.below (hk1f _ hk)) (hr1f _ hk) hq) rfl rfl (by simp) (fm := sl 0 1 1)) <|
    oc (k_al 5 alK rfl rfl) <|
    oc (k_st 5 0 (.agg (ck (kq R1))) (c := ck (fun _ => 0)) (n := ck (kq R1)) (stK (F := (kq R1)) (c := ck (fun _ => 0)) 23 (ck_size _)) rfl rfl) <|
    ok_nil
  clear h; intro β a w h
  refine sym_then ?_
  refine sym_seq ?_
  refine St.rg h [(22, .inl (.agg (ck (kq R1)))), (23, .inl (.agg (ck (kp (mt (nbv (kq R1) 32) gG))))), (9, .inr (6, pt 0))] [(ck (fun _ => 0), 23)] [(6, ck (kp (mt (nbv (kq R1) 32) gG)))] [eR 5, nn, eN 6, eS 6] ?_ ?_
  · exact oc (k_ld 5 0 (.agg (ck (kq R1))) (c := ck (kq R1)) (ldK (b := (kq R1)) 23) rfl rfl) <|
    oc (k_ca 9 #[.agg (ck (kq R1))] (.agg (ck (kp (mt (nbv (kq R1) 32) gG)))) (fun w => generator_d (kq_lt _) w) rfl rfl) <|
    oc (k_al 6 alK rfl rfl) <|
    oc (k_st 6 0 (.agg (ck (kp (mt (nbv (kq R1) 32) gG)))) (c := ck (fun _ => 0)) (n := ck (kp (mt (nbv (kq R1) 32) gG))) (stK (F := (kp (mt (nbv (kq R1) 32) gG))) (c := ck (fun _ => 0)) 23 (ck_size _)) rfl rfl) <|
    ok_nil
  clear h; intro β a w h
  refine sym_then ?_
  refine sym_seq ?_
  replace h := St.cs h (s' := [.inl (.agg (ck f)), .inl (.slice pa ln pc), .inr (0, pt 0), uu, .inr (1, pt 0), .inr (2, pt 0), .inl (.pointer (some ⟨q1f, 0, none⟩)), .inr (3, pt 0), .inr (5, pt 0), .inr (6, pt 0), uu, .inl (.tuple #[.agg (ck S), .agg (ck T)]), .inl (.agg (ck f)), .inl (.tuple #[.agg (ck S), .agg (ck T)]), .inl (.agg (ck S)), .inl (.agg (ck T)), .inl (.agg (ck S)), .inl (.agg (ck (kp (mt (nbv S 32) gG)))), .inl (.slice pa ln pc), .inl (.slice (some ⟨q1f, 0, none⟩) 32 32), .inr (4, sl 0 1 1), .inl (.agg (ck (kq R1))), .inl (.agg (ck (kq R1))), .inl (.agg (ck (kp (mt (nbv (kq R1) 32) gG)))), uu, uu, uu, uu, uu, uu, uu, uu, uu, uu, uu]) (m' := [(ck f, 23), (cw (fun _ => 0), 27), (ck S, 23), (ck (kp (mt (nbv S 32) gG)), 23), (#[.slice (some ⟨q1f, 0, none⟩) 32 32], 24), (ck (kq R1), 23), (ck (kp (mt (nbv (kq R1) 32) gG)), 23)]) (by kernel_rfl) (by kernel_rfl)
  obtain ⟨W2f, q2f, βf, hk2f, hr2f, h⟩ := St.fixed h 6 (c := ck (kp (mt (nbv (kq R1) 32) gG))) (t := 23)
  replace h := St.cs h (s' := [.inl (.agg (ck f)), .inl (.slice pa ln pc), .inr (0, pt 0), uu, .inr (1, pt 0), .inr (2, pt 0), .inl (.pointer (some ⟨q1f, 0, none⟩)), .inr (3, pt 0), .inr (5, pt 0), .inl (.pointer (some ⟨q2f, 0, none⟩)), uu, .inl (.tuple #[.agg (ck S), .agg (ck T)]), .inl (.agg (ck f)), .inl (.tuple #[.agg (ck S), .agg (ck T)]), .inl (.agg (ck S)), .inl (.agg (ck T)), .inl (.agg (ck S)), .inl (.agg (ck (kp (mt (nbv S 32) gG)))), .inl (.slice pa ln pc), .inl (.slice (some ⟨q1f, 0, none⟩) 32 32), .inr (4, sl 0 1 1), .inl (.agg (ck (kq R1))), .inl (.agg (ck (kq R1))), .inl (.agg (ck (kp (mt (nbv (kq R1) 32) gG)))), uu, uu, uu, uu, uu, uu, uu, uu, uu, uu, uu]) (m' := [(ck f, 23), (cw (fun _ => 0), 27), (ck S, 23), (ck (kp (mt (nbv S 32) gG)), 23), (#[.slice (some ⟨q1f, 0, none⟩) 32 32], 24), (ck (kq R1), 23)]) (by kernel_rfl) (by kernel_rfl)
  replace h := h.o0
  replace h := St.cs h (s' := [.inl (.agg (ck f)), .inl (.slice pa ln pc), .inr (0, pt 0), uu, .inr (1, pt 0), .inr (2, pt 0), .inl (.pointer (some ⟨q1f, 0, none⟩)), .inr (3, pt 0), .inr (5, pt 0), .inl (.pointer (some ⟨q2f, 0, none⟩)), uu, .inl (.tuple #[.agg (ck S), .agg (ck T)]), .inl (.agg (ck f)), .inl (.tuple #[.agg (ck S), .agg (ck T)]), .inl (.agg (ck S)), .inl (.agg (ck T)), .inl (.agg (ck S)), .inl (.agg (ck (kp (mt (nbv S 32) gG)))), .inl (.slice pa ln pc), .inl (.slice (some ⟨q1f, 0, none⟩) 32 32), .inr (4, sl 0 1 1), .inl (.agg (ck (kq R1))), .inl (.agg (ck (kq R1))), .inl (.agg (ck (kp (mt (nbv (kq R1) 32) gG)))), uu, uu, uu, uu, uu, uu, uu, uu, uu, uu, uu]) (m' := [(ck f, 23), (cw (fun _ => 0), 27), (ck S, 23), (ck (kp (mt (nbv S 32) gG)), 23), (#[.slice (some ⟨q1f, 0, none⟩) 32 32], 24), (ck (kq R1), 23)]) (by kernel_rfl) (by kernel_rfl)
  obtain ⟨W3f, q3f, βf, hk3f, hr3f, h⟩ := St.fixed h 3 (c := ck (kp (mt (nbv S 32) gG))) (t := 23)
  replace h := St.cs h (s' := [.inl (.agg (ck f)), .inl (.slice pa ln pc), .inr (0, pt 0), uu, .inr (1, pt 0), .inr (2, pt 0), .inl (.pointer (some ⟨q1f, 0, none⟩)), .inl (.pointer (some ⟨q3f, 0, none⟩)), .inr (4, pt 0), .inl (.pointer (some ⟨q2f, 0, none⟩)), uu, .inl (.tuple #[.agg (ck S), .agg (ck T)]), .inl (.agg (ck f)), .inl (.tuple #[.agg (ck S), .agg (ck T)]), .inl (.agg (ck S)), .inl (.agg (ck T)), .inl (.agg (ck S)), .inl (.agg (ck (kp (mt (nbv S 32) gG)))), .inl (.slice pa ln pc), .inl (.slice (some ⟨q1f, 0, none⟩) 32 32), .inr (3, sl 0 1 1), .inl (.agg (ck (kq R1))), .inl (.agg (ck (kq R1))), .inl (.agg (ck (kp (mt (nbv (kq R1) 32) gG)))), uu, uu, uu, uu, uu, uu, uu, uu, uu, uu, uu]) (m' := [(ck f, 23), (cw (fun _ => 0), 27), (ck S, 23), (#[.slice (some ⟨q1f, 0, none⟩) 32 32], 24), (ck (kq R1), 23)]) (by kernel_rfl) (by kernel_rfl)
  replace h := h.o0
  refine St.rg h [(24, .inl (.slice pa ln pc)), (25, .inl (.slice (some ⟨q2f, 0, none⟩) 32 32)), (26, .inl (.slice (some ⟨q3f, 0, none⟩) 32 32)), (27, .inr (5, sl 0 2 2)), (28, .inl (.agg (ck (kq R2)))), (10, .inr (6, pt 0))] [(#[.slice (some ⟨q2f, 0, none⟩) 32 32, .slice (some ⟨q3f, 0, none⟩) 32 32], 24), (ck (fun _ => 0), 23)] [(6, ck (kq R2))] [nn, nn, nn, eN 5, eR 5, eN 6, eS 6] ?_ ?_
  · exact oc (k_mv (.inl rfl) rfl) <|
    oc (k_sp (.pointer (some ⟨q2f, 0, none⟩)) (.slice (some ⟨q2f, 0, none⟩) 32 32) none none rfl rfl (fun w => sl_key w q2f)) <|
    oc (k_sp (.pointer (some ⟨q3f, 0, none⟩)) (.slice (some ⟨q3f, 0, none⟩) 32 32) none none rfl rfl (fun w => sl_key w q3f)) <|
    oc (k_bs #[(0, .slice (some ⟨q2f, 0, none⟩) 32 32), (1, .slice (some ⟨q3f, 0, none⟩) 32 32)] 5 (c := #[.slice (some ⟨q2f, 0, none⟩) 32 32, .slice (some ⟨q3f, 0, none⟩) 32 32]) (t0 := 24) (fun w => by kernel_rfl) rfl rfl) <|
    oc (k_cb 10 (fun q => #[.slice pa ln pc, .slice (some ⟨q, 0, none⟩) 2 2]) (.agg (ck (kq R2))) 5 27 (fun w q hk hq => cR2 w q2f q3f q (KW.below (hk1f _ (hk2f _ (hk3f _ hk)))) (hr2f _ (hk3f _ hk)) (hr3f _ hk) hq) rfl rfl (by simp) (fm := sl 0 2 2)) <|
    oc (k_al 6 alK rfl rfl) <|
    oc (k_st 6 0 (.agg (ck (kq R2))) (c := ck (fun _ => 0)) (n := ck (kq R2)) (stK (F := (kq R2)) (c := ck (fun _ => 0)) 23 (ck_size _)) rfl rfl) <|
    ok_nil
  clear h; intro β a w h
  refine sym_then ?_
  refine sym_seq ?_
  refine St.rg h [(29, .inl (.agg (ck (kp (mt (nbv (kq R1) 32) gG))))), (30, .inl (.agg (ck (kq R2)))), (31, .inl (.agg (ck S))), (32, .inl (.agg (ck (kq R1)))), (33, .inl (.agg (ck (kq ((nB (kq R2) 32 * nB S 32 + nB (kq R1) 32) % oL))))), (34, .inl (.agg (cw (jn (kp (mt (nbv (kq R1) 32) gG)) (kq ((nB (kq R2) 32 * nB S 32 + nB (kq R1) 32) % oL))))))] [] [(1, cw (jn (kp (mt (nbv (kq R1) 32) gG)) (kq ((nB (kq R2) 32 * nB S 32 + nB (kq R1) 32) % oL))))] [nn, eR 6, eR 2, eR 4, nn, nn, eS 1] ?_ ?_
  · exact oc (k_lf (.pointer (some ⟨q2f, 0, none⟩)) (.agg (ck (kp (mt (nbv (kq R1) 32) gG)))) (fun w hk => ldK (b := (kp (mt (nbv (kq R1) 32) gG))) 23 w q2f (hr2f _ (hk3f _ hk))) rfl rfl) <|
    oc (k_ld 6 0 (.agg (ck (kq R2))) (c := ck (kq R2)) (ldK (b := (kq R2)) 23) rfl rfl) <|
    oc (k_ld 2 0 (.agg (ck S)) (c := ck S) (ldK (b := S) 23) rfl rfl) <|
    oc (k_ld 4 0 (.agg (ck (kq R1))) (c := ck (kq R1)) (ldK (b := (kq R1)) 23) rfl rfl) <|
    oc (k_ca 12 #[.agg (ck (kq R2)), .agg (ck S), .agg (ck (kq R1))] (.agg (ck (kq ((nB (kq R2) 32 * nB S 32 + nB (kq R1) 32) % oL)))) (fun w => times_K (kq_lt _) hS (kq_lt _) w) rfl rfl) <|
    oc (k_ca 11 #[.agg (ck (kp (mt (nbv (kq R1) 32) gG))), .agg (ck (kq ((nB (kq R2) 32 * nB S 32 + nB (kq R1) 32) % oL)))] (.agg (cw (jn (kp (mt (nbv (kq R1) 32) gG)) (kq ((nB (kq R2) 32 * nB S 32 + nB (kq R1) 32) % oL))))) (fun w => join_d) rfl rfl) <|
    oc (k_st 1 0 (.agg (cw (jn (kp (mt (nbv (kq R1) 32) gG)) (kq ((nB (kq R2) 32 * nB S 32 + nB (kq R1) 32) % oL))))) (c := cw (fun _ => 0)) (n := cw (jn (kp (mt (nbv (kq R1) 32) gG)) (kq ((nB (kq R2) 32 * nB S 32 + nB (kq R1) 32) % oL)))) (stWd (F := (jn (kp (mt (nbv (kq R1) 32) gG)) (kq ((nB (kq R2) 32 * nB S 32 + nB (kq R1) 32) % oL)))) (c := cw (fun _ => 0)) 27 (ab_size _ _)) rfl rfl) <|
    ok_nil
  clear h; intro β a w h
  refine sym_then ?_
  refine wp_ret ?_
  exact s_rcW (b := 1) (t0 := 27) (c := cw (jn (kp (mt (nbv (kq R1) 32) gG)) (kq ((nB (kq R2) 32 * nB S 32 + nB (kq R1) 32) % oL)))) h Tryd.results5 Tryd.underlying27 (fun hb => ⟨rfl, KW.below (hk1f _ (hk2f _ (hk3f _ hb)))⟩) (cw_sz _)
end Go.Proofs.YtgojlikjcpnhjaaDoor

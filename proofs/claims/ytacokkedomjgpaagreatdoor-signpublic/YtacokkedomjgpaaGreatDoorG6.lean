/- Crv4, CurveAlive, Ref1, M3, Ref2, M4, M5, Ref3, M6, Ref4: laid together. -/
import Derived.Test.YtacokkedomjgpaaGreatDoorG5
import Derived.Test.YtacokkedomjgpaaGreatDoorG2
import Derived.Test.YtacokkedomjgpaaGreatDoorG4
namespace Go.Proofs.YtacokkedomjgpaaGreatDoor
open Go.RowKit

set_option maxHeartbeats 4000000 in
theorem pkey_e {x b : Nat} (hx : x < pp) (hb : b < pp) (hev : x % 2 = 0) (W0 : World) : Calls Tryz.prog 22 #[.agg (ces [x, b])] W0 fun e w' => e = .returned (.agg (ck (byt (dig (ad b 1))))) ∧ Below W0.heap.size W0 w' := by

  refine s_in Tryz.func22 Tryz.ntmps22 rfl [.inl (.agg (ces [x, b]))] ?_
  intro β a h
  refine sym_seq ?_
  refine St.rg h [(1, .inr (0, pt 0)), (2, .inr (1, pt 0))] [(ces [x, b], 48), (ck (fun _ => 0), 23)] [] [eN 0, eN 1] ?_ ?_
  · exact oc (k_bx 0 (.agg (ces [x, b])) (bxP (a := x) (b := b)) rfl rfl) <|
    oc (k_al 1 alK rfl rfl) <|
    ok_nil
  clear h; intro β a w h
  refine sym_then ?_
  refine sym_seq ?_
  refine St.rg h [(4, .inl (.agg (ces [x, b]))), (5, .inl (el (dig (ad b 1)))), (6, .inl (.agg (ck (byt (dig (ad b 1)))))), (3, .inr (2, pt 0))] [(ck (fun _ => 0), 23)] [(2, ck (byt (dig (ad b 1))))] [eR 0, nn, nn, eN 2, eS 2] ?_ ?_
  · exact oc (k_ld 0 0 (.agg (ces [x, b])) (c := ces [x, b]) (ldP (a := x) (b := b) 48) rfl rfl) <|
    oc (k_ca 51 #[.agg (ces [x, b])] (el (dig (ad b 1))) (fun w => y_r hb w) rfl rfl) <|
    oc (k_ca 36 #[el (dig (ad b 1))] (.agg (ck (byt (dig (ad b 1))))) (fun w => key_d (ad_lt _ _) w) rfl rfl) <|
    oc (k_al 2 alK rfl rfl) <|
    oc (k_st 2 0 (.agg (ck (byt (dig (ad b 1))))) (c := ck (fun _ => 0)) (n := ck (byt (dig (ad b 1)))) (stK (F := (byt (dig (ad b 1)))) (c := ck (fun _ => 0)) 23 (ck_size _)) rfl rfl) <|
    ok_nil
  clear h; intro β a w h
  refine sym_then ?_
  refine sym_seq ?_
  refine sym_seq ?_
  refine St.r0 h [(7, .inr (0, pt 0)), (8, .inl (el (dig x))), (9, .inl (.bool true)), (10, .inl (.bool false))] [nn, eR 0] ?_ ?_
  · exact oc (k_fa 0 0 0 rfl rfl) <|
    oc (k_ld 0 0 (el (dig x)) (c := ces [x, b]) (ld_ces (l := [x, b]) (k := 0) (n := x) 48 rfl) rfl rfl) <|
    oz (k_ca 52 #[el (dig x)] (.bool true) (fun w => even_b hx (decide_eq_true hev) w) rfl rfl) <|
    oz (k_nt true rfl rfl) <|
    ok_nil
  clear h; intro β a w h
  refine sym_then ?_
  refine s_cf h ?_
  refine wp_skip ?_
  refine sym_then ?_
  refine sym_seq ?_
  refine St.rg h [(15, .inl (.agg (ck (byt (dig (ad b 1))))))] [] [(1, ck (byt (dig (ad b 1))))] [eR 2, eS 1] ?_ ?_
  · exact oc (k_ld 2 0 (.agg (ck (byt (dig (ad b 1))))) (c := ck (byt (dig (ad b 1)))) (ldK (b := (byt (dig (ad b 1)))) 23) rfl rfl) <|
    oc (k_st 1 0 (.agg (ck (byt (dig (ad b 1))))) (c := ck (fun _ => 0)) (n := ck (byt (dig (ad b 1)))) (stK (F := (byt (dig (ad b 1)))) (c := ck (fun _ => 0)) 23 (ck_size _)) rfl rfl) <|
    ok_nil
  clear h; intro β a w h
  refine sym_then ?_
  refine wp_ret ?_
  exact s_rc (b := 1) (t0 := 23) (c := ck (byt (dig (ad b 1)))) h Tryz.results22 Tryz.underlying23 (fun hb => ⟨rfl, hb⟩) (by rw [ck_size]; kernel_rfl)

set_option maxHeartbeats 4000000 in
theorem pkey_o {x b : Nat} (hx : x < pp) (hb : b < pp) (hev : ¬ x % 2 = 0) (W0 : World) : Calls Tryz.prog 22 #[.agg (ces [x, b])] W0 fun e w' => e = .returned (.agg (ck (updN (byt (dig (ad b 1))) 31 (byt (dig (ad b 1)) 31 + 128)))) ∧ Below W0.heap.size W0 w' := by
  have g1 := byt_top (ad_lt b 1)
  refine s_in Tryz.func22 Tryz.ntmps22 rfl [.inl (.agg (ces [x, b]))] ?_
  intro β a h
  refine sym_seq ?_
  refine St.rg h [(1, .inr (0, pt 0)), (2, .inr (1, pt 0))] [(ces [x, b], 48), (ck (fun _ => 0), 23)] [] [eN 0, eN 1] ?_ ?_
  · exact oc (k_bx 0 (.agg (ces [x, b])) (bxP (a := x) (b := b)) rfl rfl) <|
    oc (k_al 1 alK rfl rfl) <|
    ok_nil
  clear h; intro β a w h
  refine sym_then ?_
  refine sym_seq ?_
  refine St.rg h [(4, .inl (.agg (ces [x, b]))), (5, .inl (el (dig (ad b 1)))), (6, .inl (.agg (ck (byt (dig (ad b 1)))))), (3, .inr (2, pt 0))] [(ck (fun _ => 0), 23)] [(2, ck (byt (dig (ad b 1))))] [eR 0, nn, nn, eN 2, eS 2] ?_ ?_
  · exact oc (k_ld 0 0 (.agg (ces [x, b])) (c := ces [x, b]) (ldP (a := x) (b := b) 48) rfl rfl) <|
    oc (k_ca 51 #[.agg (ces [x, b])] (el (dig (ad b 1))) (fun w => y_r hb w) rfl rfl) <|
    oc (k_ca 36 #[el (dig (ad b 1))] (.agg (ck (byt (dig (ad b 1))))) (fun w => key_d (ad_lt _ _) w) rfl rfl) <|
    oc (k_al 2 alK rfl rfl) <|
    oc (k_st 2 0 (.agg (ck (byt (dig (ad b 1))))) (c := ck (fun _ => 0)) (n := ck (byt (dig (ad b 1)))) (stK (F := (byt (dig (ad b 1)))) (c := ck (fun _ => 0)) 23 (ck_size _)) rfl rfl) <|
    ok_nil
  clear h; intro β a w h
  refine sym_then ?_
  refine sym_seq ?_
  refine sym_seq ?_
  refine St.r0 h [(7, .inr (0, pt 0)), (8, .inl (el (dig x))), (9, .inl (.bool false)), (10, .inl (.bool true))] [nn, eR 0] ?_ ?_
  · exact oc (k_fa 0 0 0 rfl rfl) <|
    oc (k_ld 0 0 (el (dig x)) (c := ces [x, b]) (ld_ces (l := [x, b]) (k := 0) (n := x) 48 rfl) rfl rfl) <|
    oz (k_ca 52 #[el (dig x)] (.bool false) (fun w => even_b hx (decide_eq_false hev) w) rfl rfl) <|
    oz (k_nt false rfl rfl) <|
    ok_nil
  clear h; intro β a w h
  refine sym_then ?_
  refine s_ct h ?_
  refine St.rg h [(11, .inr (2, pt 31)), (12, .inl (.int .u8 (((byt (dig (ad b 1))) 31) : Nat))), (13, .inl (.int .u8 ((((byt (dig (ad b 1))) 31) + 128) : Nat))), (14, .inr (2, pt 31))] [] [(2, ck (updN (byt (dig (ad b 1))) 31 (((byt (dig (ad b 1))) 31) + 128)))] [nn, eR 2, nn, nn, eS 2] ?_ ?_
  · exact oc (k_ia 2 0 31 (.int .i64 (31 : Nat)) (ixK (i := 31) (by omega)) rfl rfl) <|
    oc (k_ld 2 31 (.int .u8 (((byt (dig (ad b 1))) 31) : Nat)) (c := ck (byt (dig (ad b 1)))) (ld_k (F := (byt (dig (ad b 1)))) (i := 31) (t0 := 23) (by omega)) rfl rfl) <|
    oc (k_bi (.int .u8 (((byt (dig (ad b 1))) 31) : Nat)) (.int .u8 (128 : Nat)) (.int .u8 ((((byt (dig (ad b 1))) 31) + 128) : Nat)) (or_b (m := ((byt (dig (ad b 1))) 31)) (by omega)) rfl rfl) <|
    oc (k_ia 2 0 31 (.int .i64 (31 : Nat)) (ixK (i := 31) (by omega)) rfl rfl) <|
    oc (k_st 2 31 (.int .u8 ((((byt (dig (ad b 1))) 31) + 128) : Nat)) (c := ck (byt (dig (ad b 1)))) (n := ck (updN (byt (dig (ad b 1))) 31 (((byt (dig (ad b 1))) 31) + 128))) (st_k (F := (byt (dig (ad b 1)))) (i := 31) (v := (((byt (dig (ad b 1))) 31) + 128)) (t0 := 23) (by omega)) rfl rfl) <|
    ok_nil
  clear h; intro β a w h
  refine sym_then ?_
  refine sym_seq ?_
  refine St.rg h [(15, .inl (.agg (ck (updN (byt (dig (ad b 1))) 31 (((byt (dig (ad b 1))) 31) + 128)))))] [] [(1, ck (updN (byt (dig (ad b 1))) 31 (((byt (dig (ad b 1))) 31) + 128)))] [eR 2, eS 1] ?_ ?_
  · exact oc (k_ld 2 0 (.agg (ck (updN (byt (dig (ad b 1))) 31 (((byt (dig (ad b 1))) 31) + 128)))) (c := ck (updN (byt (dig (ad b 1))) 31 (((byt (dig (ad b 1))) 31) + 128))) (ldK (b := (updN (byt (dig (ad b 1))) 31 (((byt (dig (ad b 1))) 31) + 128))) 23) rfl rfl) <|
    oc (k_st 1 0 (.agg (ck (updN (byt (dig (ad b 1))) 31 (((byt (dig (ad b 1))) 31) + 128)))) (c := ck (fun _ => 0)) (n := ck (updN (byt (dig (ad b 1))) 31 (((byt (dig (ad b 1))) 31) + 128))) (stK (F := (updN (byt (dig (ad b 1))) 31 (((byt (dig (ad b 1))) 31) + 128))) (c := ck (fun _ => 0)) 23 (ck_size _)) rfl rfl) <|
    ok_nil
  clear h; intro β a w h
  refine sym_then ?_
  refine wp_ret ?_
  exact s_rc (b := 1) (t0 := 23) (c := ck (updN (byt (dig (ad b 1))) 31 (((byt (dig (ad b 1))) 31) + 128))) h Tryz.results22 Tryz.underlying23 (fun hb => ⟨rfl, hb⟩) (by rw [ck_size]; kernel_rfl)

set_option maxHeartbeats 4000000 in
theorem evenX_r {y r : Nat} {k : Bool} (hy : y < pp) (cR : ∀ w, Calls Tryz.prog 78 #[el (dig (mu (sb (mu y y) 1) (inv (ad (mu dN (mu y y)) 1))))] w fun e w' => e = .returned (.tuple #[el (dig r), .bool k]) ∧ Below w.heap.size w w') (W0 : World) : Calls Tryz.prog 37 #[el (dig y)] W0 fun e w' => e = .returned (.tuple #[el (dig r), .bool k]) ∧ Below W0.heap.size W0 w' := by
  refine s_in Tryz.func37 Tryz.ntmps37 rfl [.inl (el (dig y))] ?_
  intro β a h
  refine sym_seq ?_
  refine St.rg h [(1, .inr (0, pt 0)), (2, .inr (1, pt 0)), (3, .inl (.bool false))] [(ce y, 46), (ce 0, 46)] [] [eN 0, eN 1] ?_ ?_
  · exact oc (k_bx 0 (el (dig y)) (bxE (n := y)) rfl rfl) <|
    oc (k_al 1 alE rfl rfl) <|
    oz (k_mv (.inr rfl) rfl) <|
    ok_nil
  clear h; intro β a w h
  refine sym_then ?_
  refine sym_seq ?_
  refine St.rg h [(6, .inl (el (dig 1))), (4, .inr (2, pt 0))] [(ce 0, 46)] [(2, ce 1)] [nn, eN 2, eS 2] ?_ ?_
  · exact oc (k_ca 43 #[.int .i64 (1 : Nat)] (el (dig 1)) (fun w => int_m (m := 1) (by decide) w) rfl rfl) <|
    oc (k_al 2 alE rfl rfl) <|
    oc (k_st 2 0 (el (dig 1)) (c := ce 0) (n := ce 1) (stE (n := 1) (c := ce 0) 46 (ce_size _)) rfl rfl) <|
    ok_nil
  clear h; intro β a w h
  refine sym_then ?_
  refine sym_seq ?_
  refine St.rg h [(7, .inl (el (dig y))), (8, .inl (el (dig y))), (9, .inl (el (dig (mu y y)))), (5, .inr (3, pt 0))] [(ce 0, 46)] [(3, ce (mu y y))] [eR 0, eR 0, nn, eN 3, eS 3] ?_ ?_
  · exact oc (k_ld 0 0 (el (dig y)) (c := ce y) (ldE (n := y) 46) rfl rfl) <|
    oc (k_ld 0 0 (el (dig y)) (c := ce y) (ldE (n := y) 46) rfl rfl) <|
    oc (k_ca 75 #[el (dig y), el (dig y)] (el (dig (mu y y))) (fun w => times_m hy hy w) rfl rfl) <|
    oc (k_al 3 alE rfl rfl) <|
    oc (k_st 3 0 (el (dig (mu y y))) (c := ce 0) (n := ce (mu y y)) (stE (n := (mu y y)) (c := ce 0) 46 (ce_size _)) rfl rfl) <|
    ok_nil
  clear h; intro β a w h
  refine sym_then ?_
  refine sym_seq ?_
  refine St.rg h [(10, .inl (el (dig (mu y y)))), (11, .inl (el (dig 1))), (12, .inl (el (dig (sb (mu y y) 1)))), (13, .inl (el (dig dN))), (14, .inl (el (dig (mu y y)))), (15, .inl (el (dig (mu dN (mu y y))))), (16, .inl (el (dig 1))), (17, .inl (el (dig (ad (mu dN (mu y y)) 1)))), (18, .inl (el (dig (mu (sb (mu y y) 1) (inv (ad (mu dN (mu y y)) 1)))))), (19, .inl (.tuple #[el (dig r), .bool k])), (20, .inl (el (dig r))), (21, .inl (.bool k)), (3, .inl (.bool k))] [] [(1, ce r)] [eR 3, eR 2, nn, nn, eR 3, nn, eR 2, nn, nn, nn, nn, nn, eS 1] ?_ ?_
  · exact oc (k_ld 3 0 (el (dig (mu y y))) (c := ce (mu y y)) (ldE (n := (mu y y)) 46) rfl rfl) <|
    oc (k_ld 2 0 (el (dig 1)) (c := ce 1) (ldE (n := 1) 46) rfl rfl) <|
    oc (k_ca 39 #[el (dig (mu y y)), el (dig 1)] (el (dig (sb (mu y y) 1))) (fun w => minus_m (mu_lt _ _) one_ltp w) rfl rfl) <|
    oc (k_ca 76 #[] (el (dig dN)) cnum_r rfl rfl) <|
    oc (k_ld 3 0 (el (dig (mu y y))) (c := ce (mu y y)) (ldE (n := (mu y y)) 46) rfl rfl) <|
    oc (k_ca 75 #[el (dig dN), el (dig (mu y y))] (el (dig (mu dN (mu y y)))) (fun w => times_m dN_lt (mu_lt _ _) w) rfl rfl) <|
    oc (k_ld 2 0 (el (dig 1)) (c := ce 1) (ldE (n := 1) 46) rfl rfl) <|
    oc (k_ca 77 #[el (dig (mu dN (mu y y))), el (dig 1)] (el (dig (ad (mu dN (mu y y)) 1))) (fun w => plus_m (mu_lt _ _) one_ltp w) rfl rfl) <|
    oc (k_ca 44 #[el (dig (sb (mu y y) 1)), el (dig (ad (mu dN (mu y y)) 1))] (el (dig (mu (sb (mu y y) 1) (inv (ad (mu dN (mu y y)) 1))))) (fun w => over_m (sb_lt _ _) (ad_lt _ _) w) rfl rfl) <|
    oc (k_ca 78 #[el (dig (mu (sb (mu y y) 1) (inv (ad (mu dN (mu y y)) 1))))] (.tuple #[el (dig r), .bool k]) cR rfl rfl) <|
    oc (k_ex (.tuple #[el (dig r), .bool k]) (el (dig r)) rfl rfl) <|
    oc (k_ex (.tuple #[el (dig r), .bool k]) (.bool k) rfl rfl) <|
    oc (k_st 1 0 (el (dig r)) (c := ce 0) (n := ce r) (stE (n := r) (c := ce 0) 46 (ce_size _)) rfl rfl) <|
    oz (k_mv (.inr rfl) rfl) <|
    ok_nil
  clear h; intro β a w h
  refine sym_then ?_
  refine wp_ret ?_
  exact s_r2 (b := 1) (t0 := 46) (c := ce r) h Tryz.results37 Tryz.underlying46 (fun hb => ⟨rfl, hb⟩)

set_option maxHeartbeats 4000000 in
theorem of_o {b : Nat → Nat} (hb : ∀ i, b i < 256) {y r : Nat} (hy : y < pp) (cO : ∀ w, Calls Tryz.prog 35 #[.agg (ck (updN b 31 (b 31 % 128)))] w fun e w' => e = .returned (el (dig y)) ∧ Below w.heap.size w w') (hkey : ∀ i, i < 32 → byt (dig y) i = (updN b 31 (b 31 % 128)) i) (cE : ∀ w, Calls Tryz.prog 37 #[el (dig y)] w fun e w' => e = .returned (.tuple #[el (dig r), .bool true]) ∧ Below w.heap.size w w') (hr : r < pp) (hz : r ≠ 0) (hod : 128 ≤ b 31) (W0 : World) : Calls Tryz.prog 15 #[.agg (ck b)] W0 fun e w' => e = .returned (.tuple #[.agg (ces [sb 0 r, sb y 1]), .bool true]) ∧ Below W0.heap.size W0 w' := by
  have g1 := hb 31
  refine s_in Tryz.func15 Tryz.ntmps15 rfl [.inl (.agg (ck b))] ?_
  intro β a h
  refine sym_seq ?_
  refine St.rg h [(1, .inr (0, pt 0)), (2, .inr (1, pt 0)), (3, .inl (.bool false))] [(ck b, 23), (ces [0, 0], 48)] [] [eN 0, eN 1] ?_ ?_
  · exact oc (k_bx 0 (.agg (ck b)) (bxK (b := b)) rfl rfl) <|
    oc (k_al 1 alP rfl rfl) <|
    oz (k_mv (.inr rfl) rfl) <|
    ok_nil
  clear h; intro β a w h
  refine sym_then ?_
  refine sym_seq ?_
  refine St.r0 h [(8, .inr (0, pt 31)), (9, .inl (.int .u8 ((b 31) : Nat))), (10, .inl (.int .u8 (((b 31) / 128 * 128) : Nat))), (11, .inl (.bool true)), (4, .inl (.bool true))] [nn, eR 0] ?_ ?_
  · exact oc (k_ia 0 0 31 (.int .i64 (31 : Nat)) (ixK (i := 31) (by omega)) rfl rfl) <|
    oc (k_ld 0 31 (.int .u8 ((b 31) : Nat)) (c := ck b) (ld_k (F := b) (i := 31) (t0 := 23) (by omega)) rfl rfl) <|
    oz (k_bi (.int .u8 ((b 31) : Nat)) (.int .u8 (128 : Nat)) (.int .u8 (((b 31) / 128 * 128) : Nat)) (and_b (m := (b 31)) (by omega)) rfl rfl) <|
    oz (k_bi (.int .u8 (((b 31) / 128 * 128) : Nat)) (.int .u8 (0 : Nat)) (.bool true) (ne_b (m := ((b 31) / 128 * 128)) (n := 0) (decide_eq_true (by omega))) rfl rfl) <|
    oz (k_mv (.inr rfl) rfl) <|
    ok_nil
  clear h; intro β a w h
  refine sym_then ?_
  refine sym_seq ?_
  refine St.rg h [(12, .inr (0, pt 31)), (13, .inl (.int .u8 ((b 31) : Nat))), (14, .inl (.int .u8 (((b 31) % 128) : Nat))), (15, .inr (0, pt 31))] [] [(0, ck (updN b 31 ((b 31) % 128)))] [nn, eR 0, nn, nn, eS 0] ?_ ?_
  · exact oc (k_ia 0 0 31 (.int .i64 (31 : Nat)) (ixK (i := 31) (by omega)) rfl rfl) <|
    oc (k_ld 0 31 (.int .u8 ((b 31) : Nat)) (c := ck b) (ld_k (F := b) (i := 31) (t0 := 23) (by omega)) rfl rfl) <|
    oc (k_bi (.int .u8 ((b 31) : Nat)) (.int .u8 (128 : Nat)) (.int .u8 (((b 31) % 128) : Nat)) (an_b (m := (b 31)) (by omega)) rfl rfl) <|
    oc (k_ia 0 0 31 (.int .i64 (31 : Nat)) (ixK (i := 31) (by omega)) rfl rfl) <|
    oc (k_st 0 31 (.int .u8 (((b 31) % 128) : Nat)) (c := ck b) (n := ck (updN b 31 ((b 31) % 128))) (st_k (F := b) (i := 31) (v := ((b 31) % 128)) (t0 := 23) (by omega)) rfl rfl) <|
    ok_nil
  clear h; intro β a w h
  refine sym_then ?_
  refine sym_seq ?_
  refine St.rg h [(16, .inl (.agg (ck (updN b 31 ((b 31) % 128))))), (17, .inl (el (dig y))), (5, .inr (2, pt 0))] [(ce 0, 46)] [(2, ce y)] [eR 0, nn, eN 2, eS 2] ?_ ?_
  · exact oc (k_ld 0 0 (.agg (ck (updN b 31 ((b 31) % 128)))) (c := ck (updN b 31 ((b 31) % 128))) (ldK (b := (updN b 31 ((b 31) % 128))) 23) rfl rfl) <|
    oc (k_ca 35 #[.agg (ck (updN b 31 ((b 31) % 128)))] (el (dig y)) cO rfl rfl) <|
    oc (k_al 2 alE rfl rfl) <|
    oc (k_st 2 0 (el (dig y)) (c := ce 0) (n := ce y) (stE (n := y) (c := ce 0) 46 (ce_size _)) rfl rfl) <|
    ok_nil
  clear h; intro β a w h
  refine sym_then ?_
  refine sym_seq ?_
  refine sym_seq ?_
  refine St.r0 h [(18, .inl (el (dig y))), (19, .inl (.agg (ck (byt (dig y))))), (20, .inl (.agg (ck (updN b 31 ((b 31) % 128))))), (21, .inl (.bool false))] [eR 2, nn, eR 0] ?_ ?_
  · exact oc (k_ld 2 0 (el (dig y)) (c := ce y) (ldE (n := y) 46) rfl rfl) <|
    oc (k_ca 36 #[el (dig y)] (.agg (ck (byt (dig y)))) (fun w => key_d hy w) rfl rfl) <|
    oc (k_ld 0 0 (.agg (ck (updN b 31 ((b 31) % 128)))) (c := ck (updN b 31 ((b 31) % 128))) (ldK (b := (updN b 31 ((b 31) % 128))) 23) rfl rfl) <|
    oz (k_bi (.agg (ck (byt (dig y)))) (.agg (ck (updN b 31 ((b 31) % 128)))) (.bool false) (neK_f (F := (byt (dig y))) (G := (updN b 31 ((b 31) % 128))) hkey) rfl rfl) <|
    ok_nil
  clear h; intro β a w h
  refine sym_then ?_
  refine s_cf h ?_
  refine wp_skip ?_
  refine sym_then ?_
  refine sym_seq ?_
  refine St.rg h [(24, .inl (el (dig y))), (25, .inl (.tuple #[el (dig r), .bool true])), (23, .inl (.tuple #[el (dig r), .bool true])), (26, .inl (el (dig r))), (27, .inl (.bool true)), (6, .inr (3, pt 0)), (7, .inl (.bool true))] [(ce 0, 46)] [(3, ce r)] [eR 2, nn, nn, nn, nn, eN 3, eS 3] ?_ ?_
  · exact oc (k_ld 2 0 (el (dig y)) (c := ce y) (ldE (n := y) 46) rfl rfl) <|
    oc (k_ca 37 #[el (dig y)] (.tuple #[el (dig r), .bool true]) cE rfl rfl) <|
    oc (k_mv (.inl rfl) rfl) <|
    oc (k_ex (.tuple #[el (dig r), .bool true]) (el (dig r)) rfl rfl) <|
    oc (k_ex (.tuple #[el (dig r), .bool true]) (.bool true) rfl rfl) <|
    oc (k_al 3 alE rfl rfl) <|
    oc (k_st 3 0 (el (dig r)) (c := ce 0) (n := ce r) (stE (n := r) (c := ce 0) 46 (ce_size _)) rfl rfl) <|
    oz (k_mv (.inr rfl) rfl) <|
    ok_nil
  clear h; intro β a w h
  refine sym_then ?_
  refine sym_seq ?_
  refine sym_seq ?_
  refine St.r0 h [(28, .inl (.bool true)), (29, .inl (.bool false)), (30, .inl (.bool false)), (31, .inl (.bool true)), (32, .inl (.bool true)), (33, .inl (el (dig r))), (34, .inl (el (dig 0))), (35, .inl (.bool false)), (36, .inl (.bool false)), (37, .inl (.bool false))] [nn, nn, nn, nn, nn, eR 3] ?_ ?_
  · exact oc (k_mv (.inl rfl) rfl) <|
    oc (k_nt true rfl rfl) <|
    oc (k_mv (.inl rfl) rfl) <|
    oc (k_mv (.inl rfl) rfl) <|
    oc (k_mv (.inl rfl) rfl) <|
    oc (k_ld 3 0 (el (dig r)) (c := ce r) (ldE (n := r) 46) rfl rfl) <|
    oz (k_bu #[] (el (dig 0)) bdE rfl rfl) <|
    oz (k_ca 38 #[el (dig r), el (dig 0)] (.bool false) (fun w => is_f hr (by decide +kernel) hz w) rfl rfl) <|
    oz (k_pt rfl rfl) <|
    oz (k_pf rfl rfl) <|
    ok_nil
  clear h; intro β a w h
  refine sym_then ?_
  refine s_cf h ?_
  refine wp_skip ?_
  refine sym_then ?_
  refine sym_seq ?_
  refine sym_seq ?_
  refine St.r0 h [(39, .inl (.bool true))] [] ?_ ?_
  · exact oz (k_mv (.inl rfl) rfl) <|
    ok_nil
  clear h; intro β a w h
  refine sym_then ?_
  refine s_ct h ?_
  refine St.rg h [(40, .inl (el (dig 0))), (41, .inl (el (dig r))), (42, .inl (el (dig (sb 0 r))))] [] [(3, ce (sb 0 r))] [nn, eR 3, nn, eS 3] ?_ ?_
  · exact oc (k_bu #[] (el (dig 0)) bdE rfl rfl) <|
    oc (k_ld 3 0 (el (dig r)) (c := ce r) (ldE (n := r) 46) rfl rfl) <|
    oc (k_ca 39 #[el (dig 0), el (dig r)] (el (dig (sb 0 r))) (fun w => minus_m (by decide +kernel) hr w) rfl rfl) <|
    oc (k_st 3 0 (el (dig (sb 0 r))) (c := ce r) (n := ce (sb 0 r)) (stE (n := (sb 0 r)) (c := ce r) 46 (ce_size _)) rfl rfl) <|
    ok_nil
  clear h; intro β a w h
  refine sym_then ?_
  refine sym_seq ?_
  refine St.rg h [(43, .inl (el (dig (sb 0 r)))), (44, .inl (el (dig y))), (45, .inl (.agg (ces [(sb 0 r), (sb y 1)]))), (3, .inl (.bool true))] [] [(1, ces [(sb 0 r), (sb y 1)])] [eR 3, eR 2, nn, eS 1] ?_ ?_
  · exact oc (k_ld 3 0 (el (dig (sb 0 r))) (c := ce (sb 0 r)) (ldE (n := (sb 0 r)) 46) rfl rfl) <|
    oc (k_ld 2 0 (el (dig y)) (c := ce y) (ldE (n := y) 46) rfl rfl) <|
    oc (k_ca 40 #[el (dig (sb 0 r)), el (dig y)] (.agg (ces [(sb 0 r), (sb y 1)])) (fun w => at_r hy w) rfl rfl) <|
    oc (k_st 1 0 (.agg (ces [(sb 0 r), (sb y 1)])) (c := ces [0, 0]) (n := ces [(sb 0 r), (sb y 1)]) (stP (a := (sb 0 r)) (b := (sb y 1)) (c := ces [0, 0]) 48 (by rw [ces_size]; rfl)) rfl rfl) <|
    oz (k_mv (.inr rfl) rfl) <|
    ok_nil
  clear h; intro β a w h
  refine sym_then ?_
  refine wp_ret ?_
  exact s_r2 (b := 1) (t0 := 48) (c := ces [(sb 0 r), (sb y 1)]) h Tryz.results15 Tryz.underlying48 (fun hb => ⟨rfl, hb⟩) (by rw [ces_size]; kernel_rfl)

set_option maxHeartbeats 4000000 in
theorem of_e {b : Nat → Nat} (hb : ∀ i, b i < 256) {y r : Nat} (hy : y < pp) (cO : ∀ w, Calls Tryz.prog 35 #[.agg (ck (updN b 31 (b 31 % 128)))] w fun e w' => e = .returned (el (dig y)) ∧ Below w.heap.size w w') (hkey : ∀ i, i < 32 → byt (dig y) i = (updN b 31 (b 31 % 128)) i) (cE : ∀ w, Calls Tryz.prog 37 #[el (dig y)] w fun e w' => e = .returned (.tuple #[el (dig r), .bool true]) ∧ Below w.heap.size w w') (hod : b 31 < 128) (W0 : World) : Calls Tryz.prog 15 #[.agg (ck b)] W0 fun e w' => e = .returned (.tuple #[.agg (ces [r, sb y 1]), .bool true]) ∧ Below W0.heap.size W0 w' := by
  have g1 := hb 31
  refine s_in Tryz.func15 Tryz.ntmps15 rfl [.inl (.agg (ck b))] ?_
  intro β a h
  refine sym_seq ?_
  refine St.rg h [(1, .inr (0, pt 0)), (2, .inr (1, pt 0)), (3, .inl (.bool false))] [(ck b, 23), (ces [0, 0], 48)] [] [eN 0, eN 1] ?_ ?_
  · exact oc (k_bx 0 (.agg (ck b)) (bxK (b := b)) rfl rfl) <|
    oc (k_al 1 alP rfl rfl) <|
    oz (k_mv (.inr rfl) rfl) <|
    ok_nil
  clear h; intro β a w h
  refine sym_then ?_
  refine sym_seq ?_
  refine St.r0 h [(8, .inr (0, pt 31)), (9, .inl (.int .u8 ((b 31) : Nat))), (10, .inl (.int .u8 (((b 31) / 128 * 128) : Nat))), (11, .inl (.bool false)), (4, .inl (.bool false))] [nn, eR 0] ?_ ?_
  · exact oc (k_ia 0 0 31 (.int .i64 (31 : Nat)) (ixK (i := 31) (by omega)) rfl rfl) <|
    oc (k_ld 0 31 (.int .u8 ((b 31) : Nat)) (c := ck b) (ld_k (F := b) (i := 31) (t0 := 23) (by omega)) rfl rfl) <|
    oz (k_bi (.int .u8 ((b 31) : Nat)) (.int .u8 (128 : Nat)) (.int .u8 (((b 31) / 128 * 128) : Nat)) (and_b (m := (b 31)) (by omega)) rfl rfl) <|
    oz (k_bi (.int .u8 (((b 31) / 128 * 128) : Nat)) (.int .u8 (0 : Nat)) (.bool false) (ne_b (m := ((b 31) / 128 * 128)) (n := 0) (decide_eq_false (by omega))) rfl rfl) <|
    oz (k_mv (.inr rfl) rfl) <|
    ok_nil
  clear h; intro β a w h
  refine sym_then ?_
  refine sym_seq ?_
  refine St.rg h [(12, .inr (0, pt 31)), (13, .inl (.int .u8 ((b 31) : Nat))), (14, .inl (.int .u8 (((b 31) % 128) : Nat))), (15, .inr (0, pt 31))] [] [(0, ck (updN b 31 ((b 31) % 128)))] [nn, eR 0, nn, nn, eS 0] ?_ ?_
  · exact oc (k_ia 0 0 31 (.int .i64 (31 : Nat)) (ixK (i := 31) (by omega)) rfl rfl) <|
    oc (k_ld 0 31 (.int .u8 ((b 31) : Nat)) (c := ck b) (ld_k (F := b) (i := 31) (t0 := 23) (by omega)) rfl rfl) <|
    oc (k_bi (.int .u8 ((b 31) : Nat)) (.int .u8 (128 : Nat)) (.int .u8 (((b 31) % 128) : Nat)) (an_b (m := (b 31)) (by omega)) rfl rfl) <|
    oc (k_ia 0 0 31 (.int .i64 (31 : Nat)) (ixK (i := 31) (by omega)) rfl rfl) <|
    oc (k_st 0 31 (.int .u8 (((b 31) % 128) : Nat)) (c := ck b) (n := ck (updN b 31 ((b 31) % 128))) (st_k (F := b) (i := 31) (v := ((b 31) % 128)) (t0 := 23) (by omega)) rfl rfl) <|
    ok_nil
  clear h; intro β a w h
  refine sym_then ?_
  refine sym_seq ?_
  refine St.rg h [(16, .inl (.agg (ck (updN b 31 ((b 31) % 128))))), (17, .inl (el (dig y))), (5, .inr (2, pt 0))] [(ce 0, 46)] [(2, ce y)] [eR 0, nn, eN 2, eS 2] ?_ ?_
  · exact oc (k_ld 0 0 (.agg (ck (updN b 31 ((b 31) % 128)))) (c := ck (updN b 31 ((b 31) % 128))) (ldK (b := (updN b 31 ((b 31) % 128))) 23) rfl rfl) <|
    oc (k_ca 35 #[.agg (ck (updN b 31 ((b 31) % 128)))] (el (dig y)) cO rfl rfl) <|
    oc (k_al 2 alE rfl rfl) <|
    oc (k_st 2 0 (el (dig y)) (c := ce 0) (n := ce y) (stE (n := y) (c := ce 0) 46 (ce_size _)) rfl rfl) <|
    ok_nil
  clear h; intro β a w h
  refine sym_then ?_
  refine sym_seq ?_
  refine sym_seq ?_
  refine St.r0 h [(18, .inl (el (dig y))), (19, .inl (.agg (ck (byt (dig y))))), (20, .inl (.agg (ck (updN b 31 ((b 31) % 128))))), (21, .inl (.bool false))] [eR 2, nn, eR 0] ?_ ?_
  · exact oc (k_ld 2 0 (el (dig y)) (c := ce y) (ldE (n := y) 46) rfl rfl) <|
    oc (k_ca 36 #[el (dig y)] (.agg (ck (byt (dig y)))) (fun w => key_d hy w) rfl rfl) <|
    oc (k_ld 0 0 (.agg (ck (updN b 31 ((b 31) % 128)))) (c := ck (updN b 31 ((b 31) % 128))) (ldK (b := (updN b 31 ((b 31) % 128))) 23) rfl rfl) <|
    oz (k_bi (.agg (ck (byt (dig y)))) (.agg (ck (updN b 31 ((b 31) % 128)))) (.bool false) (neK_f (F := (byt (dig y))) (G := (updN b 31 ((b 31) % 128))) hkey) rfl rfl) <|
    ok_nil
  clear h; intro β a w h
  refine sym_then ?_
  refine s_cf h ?_
  refine wp_skip ?_
  refine sym_then ?_
  refine sym_seq ?_
  refine St.rg h [(24, .inl (el (dig y))), (25, .inl (.tuple #[el (dig r), .bool true])), (23, .inl (.tuple #[el (dig r), .bool true])), (26, .inl (el (dig r))), (27, .inl (.bool true)), (6, .inr (3, pt 0)), (7, .inl (.bool true))] [(ce 0, 46)] [(3, ce r)] [eR 2, nn, nn, nn, nn, eN 3, eS 3] ?_ ?_
  · exact oc (k_ld 2 0 (el (dig y)) (c := ce y) (ldE (n := y) 46) rfl rfl) <|
    oc (k_ca 37 #[el (dig y)] (.tuple #[el (dig r), .bool true]) cE rfl rfl) <|
    oc (k_mv (.inl rfl) rfl) <|
    oc (k_ex (.tuple #[el (dig r), .bool true]) (el (dig r)) rfl rfl) <|
    oc (k_ex (.tuple #[el (dig r), .bool true]) (.bool true) rfl rfl) <|
    oc (k_al 3 alE rfl rfl) <|
    oc (k_st 3 0 (el (dig r)) (c := ce 0) (n := ce r) (stE (n := r) (c := ce 0) 46 (ce_size _)) rfl rfl) <|
    oz (k_mv (.inr rfl) rfl) <|
    ok_nil
  clear h; intro β a w h
  refine sym_then ?_
  refine sym_seq ?_
  refine sym_seq ?_
  refine St.r0 h [(28, .inl (.bool true)), (29, .inl (.bool false)), (30, .inl (.bool false)), (31, .inl (.bool false)), (32, .inl (.bool false)), (36, .inl (.bool false)), (37, .inl (.bool false))] [] ?_ ?_
  · exact oz (k_mv (.inl rfl) rfl) <|
    oz (k_nt true rfl rfl) <|
    oz (k_mv (.inl rfl) rfl) <|
    oz (k_mv (.inl rfl) rfl) <|
    oz (k_mv (.inl rfl) rfl) <|
    oz (k_sk rfl) <|
    oz (k_sk rfl) <|
    oz (k_sk rfl) <|
    oz (k_pf rfl rfl) <|
    oz (k_pf rfl rfl) <|
    ok_nil
  clear h; intro β a w h
  refine sym_then ?_
  refine s_cf h ?_
  refine wp_skip ?_
  refine sym_then ?_
  refine sym_seq ?_
  refine sym_seq ?_
  refine St.r0 h [(39, .inl (.bool false))] [] ?_ ?_
  · exact oz (k_mv (.inl rfl) rfl) <|
    ok_nil
  clear h; intro β a w h
  refine sym_then ?_
  refine s_cf h ?_
  refine wp_skip ?_
  refine sym_then ?_
  refine sym_seq ?_
  refine St.rg h [(43, .inl (el (dig r))), (44, .inl (el (dig y))), (45, .inl (.agg (ces [r, (sb y 1)]))), (3, .inl (.bool true))] [] [(1, ces [r, (sb y 1)])] [eR 3, eR 2, nn, eS 1] ?_ ?_
  · exact oc (k_ld 3 0 (el (dig r)) (c := ce r) (ldE (n := r) 46) rfl rfl) <|
    oc (k_ld 2 0 (el (dig y)) (c := ce y) (ldE (n := y) 46) rfl rfl) <|
    oc (k_ca 40 #[el (dig r), el (dig y)] (.agg (ces [r, (sb y 1)])) (fun w => at_r hy w) rfl rfl) <|
    oc (k_st 1 0 (.agg (ces [r, (sb y 1)])) (c := ces [0, 0]) (n := ces [r, (sb y 1)]) (stP (a := r) (b := (sb y 1)) (c := ces [0, 0]) 48 (by rw [ces_size]; rfl)) rfl rfl) <|
    oz (k_mv (.inr rfl) rfl) <|
    ok_nil
  clear h; intro β a w h
  refine sym_then ?_
  refine wp_ret ?_
  exact s_r2 (b := 1) (t0 := 48) (c := ces [r, (sb y 1)]) h Tryz.results15 Tryz.underlying48 (fun hb => ⟨rfl, hb⟩) (by rw [ces_size]; kernel_rfl)

end Go.Proofs.YtacokkedomjgpaaGreatDoor

namespace Go.Proofs.YtacokkedomjgpaaGreatDoor
open Go.RowKit
def gB : Nat := 46316835694926478169428394003475163141307993866256225615783033603165251855959
theorem gB_eq : sb (mu 4 (inv 5)) 1 = gB := by decide +kernel
theorem gen_g (W0 : World) : Calls Tryz.prog 19 #[] W0 fun e w' => e = .returned (.agg (ces [gX, gB])) ∧ Below W0.heap.size W0 w' := by
  have := gen_r W0
  rwa [gB_eq] at this
end Go.Proofs.YtacokkedomjgpaaGreatDoor

namespace Go.Proofs.YtacokkedomjgpaaGreatDoor
open Go.RowKit

def dg (n i : Nat) : Nat := n / 4096 ^ i % 4096
theorem dg_lt (n i : Nat) : dg n i < 4096 := Nat.mod_lt _ (by omega)
def prF (k j : Nat) : Nat := if j < k then 4095 else 0
theorem prF_next (k : Nat) : ai 22 (updN (prF k) k 4095) = ai 22 (prF (k + 1)) := ai_congr fun i _ => by
  unfold updN prF
  by_cases h : i = k
  · subst h; simp
  · have : (i < k + 1) = (i < k) := by simp; omega
    simp [h, this]
theorem prF_end : ai 22 (updN (updN (prF 21) 0 4077) 21 7) = ai 22 (dg pp) := ai_congr (by decide +kernel)

set_option maxHeartbeats 1000000 in
theorem prime_r (W0 : World) : Calls Tryz.prog 67 #[] W0 fun e w' => e = .returned (.agg (ai 22 (dg pp))) ∧ Below W0.heap.size W0 w' := by
  rw [← prF_end]
  refine s_in Tryz.func67 Tryz.ntmps67 rfl [] ?_
  intro β a h
  refine sym_seq ?_
  refine St.rg h [(0, .inr (0, pt 0))] [(ai 22 (fun _ => 0), 36)] [] [eN 0] ?_ ?_
  · exact oc (k_al 0 al22 rfl rfl) <|
    ok_nil
  clear h; intro β a w h
  refine sym_then ?_
  refine sym_seq ?_
  refine St.rg h [(1, .inr (1, pt 0))] [(ai 22 (fun _ => 0), 36)] [] [eN 1] ?_ ?_
  · exact oc (k_al 1 al22 rfl rfl) <|
    ok_nil
  clear h; intro β a w h
  refine sym_then ?_
  refine sym_seq ?_
  refine sym_seq ?_
  refine St.r0 h [(2, .inl (.int .i64 (0 : Nat)))] [] ?_ ?_
  · exact oz (k_mv (.inr rfl) rfl) <|
    ok_nil
  clear h; intro β a w h
  refine sym_then ?_
  refine blk_in ?_
  replace h := St.sm h 1 (ai 22 (prF 0)) (c := ai 22 (fun _ => 0)) (t := 36) (ai_congr fun i _ => (by simp [prF]))
  replace h := St.cs h (s' := [.inr (0, pt 0), .inr (1, pt 0), .inl (.int .i64 (0 : Nat)), uu, uu, uu, uu, uu, uu, uu, uu, uu]) (m' := [(ai 22 (fun _ => 0), 36), (ai 22 (prF 0), 36)]) (by kernel_rfl) (by kernel_rfl)
  refine loop_up 21 (fun k a w => ∃ (x3 x4 x5 x6 x7 x8 : SV) (β : Nat → Nat), St (wd W0) [.inr (0, pt 0), .inr (1, pt 0), .inl (.int .i64 (k : Nat)), x3, x4, x5, x6, x7, x8, uu, uu, uu] [(ai 22 (fun _ => 0), 36), (ai 22 (prF k), 36)] β a w) ⟨_, _, _, _, _, _, β, h⟩ ?_
  clear h; rintro k a w hkk ⟨x3, x4, x5, x6, x7, x8, β, h⟩; replace h := h.o0
  rcases Nat.lt_or_ge k 21 with hltk | hgek
  · refine sym_seq ?_
    refine sym_seq ?_
    refine St.r0 h [(3, .inl (.int .i64 (k : Nat))), (4, .inl (.bool true))] [] ?_ ?_
    · exact oz (k_mv (.inl rfl) rfl) <|
      oz (k_bi (.int .i64 (k : Nat)) (.int .i64 (21 : Nat)) (.bool true) (lt_i (m := ((k : Nat) : Int)) (n := ((21 : Nat) : Int)) (decide_eq_true (by omega))) rfl rfl) <|
      ok_nil
    clear h; intro β a w h
    refine sym_then ?_
    refine s_ct h ?_
    refine wp_skip ?_
    refine sym_then ?_
    refine sym_seq ?_
    refine blk_in ?_
    refine St.rg h [(7, .inl (.int .i64 (k : Nat))), (8, .inr (1, pt k))] [] [(1, ai 22 (updN (prF k) k 4095))] [nn, nn, eS 1] ?_ ?_
    · exact oc (k_mv (.inl rfl) rfl) <|
      oc (k_ia 1 0 k (.int .i64 (k : Nat)) (ix22 (i := k) (by omega)) rfl rfl) <|
      oc (k_st 1 k (.int .i64 (4095 : Nat)) (c := ai 22 (prF k)) (n := ai 22 (updN (prF k) k 4095)) (st_at (n := 22) (F := (prF k)) (i := k) (v := 4095) (t0 := 36) (by omega)) rfl rfl) <|
      ok_nil
    clear h; intro β a w h
    refine blk_norm ?_
    refine sym_then ?_
    refine St.r0 h [(5, .inl (.int .i64 (k : Nat))), (6, .inl (.int .i64 ((k + 1) : Nat))), (2, .inl (.int .i64 ((k + 1) : Nat)))] [eO] ?_ ?_
    · exact oc (k_m0 rfl rfl) <|
      oz (k_bi (.int .i64 (k : Nat)) (.int .i64 (1 : Nat)) (.int .i64 ((k + 1) : Nat)) (ad_i (m := k) (n := 1) (by omega)) rfl rfl) <|
      oz (k_mv (.inr rfl) rfl) <|
      ok_nil
    clear h; intro β a w h
    replace h := St.sm h 1 (ai 22 (prF (k + 1))) (c := ai 22 (updN (prF k) k 4095)) (t := 36) (prF_next k)
    replace h := St.cs h (s' := [.inr (0, pt 0), .inr (1, pt 0), .inl (.int .i64 ((k + 1) : Nat)), .inl (.int .i64 (k : Nat)), .inl (.bool true), .inl (.int .i64 (k : Nat)), .inl (.int .i64 ((k + 1) : Nat)), .inl (.int .i64 (k : Nat)), .inr (1, pt k), uu, uu, uu]) (m' := [(ai 22 (fun _ => 0), 36), (ai 22 (prF (k + 1)), 36)]) (by kernel_rfl) (by kernel_rfl)
    exact ⟨hltk, _, _, _, _, _, _, _, h⟩
  · obtain rfl : k = 21 := by omega
    refine sym_seq ?_
    refine sym_seq ?_
    refine St.r0 h [(3, .inl (.int .i64 (21 : Nat))), (4, .inl (.bool false))] [] ?_ ?_
    · exact oz (k_mv (.inl rfl) rfl) <|
      oz (k_bi (.int .i64 (21 : Nat)) (.int .i64 (21 : Nat)) (.bool false) (lt_i (m := ((21 : Nat) : Int)) (n := ((21 : Nat) : Int)) (decide_eq_false (by omega))) rfl rfl) <|
      ok_nil
    clear h; intro β a w h
    refine sym_then ?_
    refine s_cf h ?_
    refine wp_exit ?_
    refine then_exit ?_
    refine then_exit ?_
    refine blk_exit ?_
    refine sym_then ?_
    refine sym_seq ?_
    refine St.rg h [(9, .inr (1, pt 0))] [] [(1, ai 22 (updN (prF 21) 0 4077))] [nn, eS 1] ?_ ?_
    · exact oc (k_ia 1 0 0 (.int .i64 (0 : Nat)) (ix22 (i := 0) (by omega)) rfl rfl) <|
      oc (k_st 1 0 (.int .i64 (4077 : Nat)) (c := ai 22 (prF 21)) (n := ai 22 (updN (prF 21) 0 4077)) (st_at (n := 22) (F := (prF 21)) (i := 0) (v := 4077) (t0 := 36) (by omega)) rfl rfl) <|
      ok_nil
    clear h; intro β a w h
    refine sym_then ?_
    refine sym_seq ?_
    refine St.rg h [(10, .inr (1, pt 21))] [] [(1, ai 22 (updN (updN (prF 21) 0 4077) 21 7))] [nn, eS 1] ?_ ?_
    · exact oc (k_ia 1 0 21 (.int .i64 (21 : Nat)) (ix22 (i := 21) (by omega)) rfl rfl) <|
      oc (k_st 1 21 (.int .i64 (7 : Nat)) (c := ai 22 (updN (prF 21) 0 4077)) (n := ai 22 (updN (updN (prF 21) 0 4077) 21 7)) (st_at (n := 22) (F := (updN (prF 21) 0 4077)) (i := 21) (v := 7) (t0 := 36) (by omega)) rfl rfl) <|
      ok_nil
    clear h; intro β a w h
    refine sym_then ?_
    refine sym_seq ?_
    refine St.rg h [(11, .inl (.agg (ai 22 (updN (updN (prF 21) 0 4077) 21 7))))] [] [(0, ai 22 (updN (updN (prF 21) 0 4077) 21 7))] [eR 1, eS 0] ?_ ?_
    · exact oc (k_ld 1 0 (.agg (ai 22 (updN (updN (prF 21) 0 4077) 21 7))) (c := ai 22 (updN (updN (prF 21) 0 4077) 21 7)) (ld22 (F := (updN (updN (prF 21) 0 4077) 21 7)) 36) rfl rfl) <|
      oc (k_st 0 0 (.agg (ai 22 (updN (updN (prF 21) 0 4077) 21 7))) (c := ai 22 (fun _ => 0)) (n := ai 22 (updN (updN (prF 21) 0 4077) 21 7)) (st22 (F := (updN (updN (prF 21) 0 4077) 21 7)) (c := ai 22 (fun _ => 0)) 36 (ai_size _ _)) rfl rfl) <|
      ok_nil
    clear h; intro β a w h
    refine sym_then ?_
    refine wp_ret ?_
    exact s_rc (b := 0) (t0 := 36) (c := ai 22 (updN (updN (prF 21) 0 4077) 21 7)) h Tryz.results67 Tryz.underlying36 (fun hb => ⟨rfl, hb⟩) (by rw [ai_size]; kernel_rfl)
end Go.Proofs.YtacokkedomjgpaaGreatDoor

namespace Go.Proofs.YtacokkedomjgpaaGreatDoor

def pv (F : Nat → Nat) : Nat → Nat
  | 0 => 0
  | k + 1 => pv F k + F k * 4096 ^ k

theorem p4 (k : Nat) : 0 < 4096 ^ k := Nat.pow_pos (by omega)
theorem div_step (n k : Nat) : n / 4096 ^ k = dg n k + 4096 * (n / 4096 ^ (k + 1)) := by
  unfold dg
  rw [Nat.pow_succ, ← Nat.div_div_eq_div_mul]
  omega
theorem mod_step (n k : Nat) : n % 4096 ^ (k + 1) = n % 4096 ^ k + dg n k * 4096 ^ k := by
  unfold dg
  rw [Nat.pow_succ, Nat.mod_mul, Nat.mul_comm]
theorem pv_dg (n : Nat) : ∀ k, pv (dg n) k = n % 4096 ^ k := by
  intro k
  induction k with
  | zero => simp [pv, Nat.mod_one]
  | succ k ih => rw [pv, ih, mod_step]
theorem pv_congr {F G : Nat → Nat} : ∀ k, (∀ i, i < k → F i = G i) → pv F k = pv G k := by
  intro k
  induction k with
  | zero => intro _; rfl
  | succ k ih => intro h; rw [pv, pv, ih (fun i hi => h i (by omega)), h k (by omega)]
theorem dg_big {n k : Nat} (h : n < 4096 ^ k) (i : Nat) (hi : k ≤ i) : dg n i = 0 := by
  unfold dg
  rw [Nat.div_eq_of_lt (Nat.lt_of_lt_of_le h (Nat.pow_le_pow_right (by omega) hi))]
theorem div_top {n k : Nat} (h : n < 4096 ^ (k + 1)) : dg n k = n / 4096 ^ k := by
  unfold dg
  refine Nat.mod_eq_of_lt (Nat.div_lt_of_lt_mul ?_)
  rw [← Nat.pow_succ]; exact h

theorem top_eq {m n k : Nat} (h : m / 4096 ^ (k + 1) = n / 4096 ^ (k + 1)) (hd : dg m k = dg n k) : m / 4096 ^ k = n / 4096 ^ k := by
  rw [div_step m k, div_step n k, h, hd]
theorem lt_of_div {m n d : Nat} (h : m / d < n / d) : m < n := by
  rcases Nat.lt_or_ge m n with h1 | h1
  · exact h1
  · exact absurd (Nat.div_le_div_right (c := d) h1) (by omega)
theorem top_lt {m n k : Nat} (h : m / 4096 ^ (k + 1) = n / 4096 ^ (k + 1)) (hd : dg m k < dg n k) : m < n := by
  refine lt_of_div (d := 4096 ^ k) ?_
  rw [div_step m k, div_step n k, h]; omega

def bo (m n k : Nat) : Nat := if m % 4096 ^ k < n % 4096 ^ k then 1 else 0
theorem bo_le (m n k : Nat) : bo m n k ≤ 1 := by unfold bo; split <;> omega
theorem bo_zero (m n : Nat) : bo m n 0 = 0 := by simp [bo, Nat.mod_one]
theorem bo_yes {m n k : Nat} (h : dg m k < dg n k + bo m n k) : bo m n (k + 1) = 1 := by
  unfold bo at *
  rw [if_pos]
  rw [mod_step m k, mod_step n k]
  have hm : m % 4096 ^ k < 4096 ^ k := Nat.mod_lt _ (p4 k)
  have hn : n % 4096 ^ k < 4096 ^ k := Nat.mod_lt _ (p4 k)
  split at h
  · have : dg m k * 4096 ^ k ≤ dg n k * 4096 ^ k := Nat.mul_le_mul_right _ (by omega)
    omega
  · have : (dg m k + 1) * 4096 ^ k ≤ dg n k * 4096 ^ k := Nat.mul_le_mul_right _ (by omega)
    rw [Nat.add_mul, Nat.one_mul] at this
    omega
theorem bo_no {m n k : Nat} (h : dg n k + bo m n k ≤ dg m k) : bo m n (k + 1) = 0 := by
  unfold bo at *
  rw [if_neg]
  rw [mod_step m k, mod_step n k]
  have hm : m % 4096 ^ k < 4096 ^ k := Nat.mod_lt _ (p4 k)
  have hn : n % 4096 ^ k < 4096 ^ k := Nat.mod_lt _ (p4 k)
  split at h
  · have : (dg n k + 1) * 4096 ^ k ≤ dg m k * 4096 ^ k := Nat.mul_le_mul_right _ (by omega)
    rw [Nat.add_mul, Nat.one_mul] at this
    omega
  · have : dg n k * 4096 ^ k ≤ dg m k * 4096 ^ k := Nat.mul_le_mul_right _ (by omega)
    omega
theorem sub_div {m n : Nat} (h : n ≤ m) : ∀ k, (m - n) / 4096 ^ k + n / 4096 ^ k + bo m n k = m / 4096 ^ k := by
  intro k
  have hp := p4 k
  have e1 : m = m / 4096 ^ k * 4096 ^ k + m % 4096 ^ k := (Nat.div_add_mod' m _).symm
  have e2 : n = n / 4096 ^ k * 4096 ^ k + n % 4096 ^ k := (Nat.div_add_mod' n _).symm
  have hm : m % 4096 ^ k < 4096 ^ k := Nat.mod_lt _ hp
  have hn : n % 4096 ^ k < 4096 ^ k := Nat.mod_lt _ hp
  unfold bo
  generalize 4096 ^ k = d at *
  generalize m / d = a at *
  generalize n / d = b at *
  generalize m % d = r at *
  generalize n % d = s at *
  have hab : b ≤ a := by
    rcases Nat.lt_or_ge a b with hlt | hge
    · exfalso
      have : (a + 1) * d ≤ b * d := Nat.mul_le_mul_right _ hlt
      rw [Nat.add_mul, Nat.one_mul] at this
      omega
    · exact hge
  obtain ⟨c, rfl⟩ : ∃ c, a = b + c := ⟨a - b, by omega⟩
  have e3 : (b + c) * d = b * d + c * d := Nat.add_mul _ _ _
  split
  · rename_i hlt
    have hc : 0 < c := by
      rcases Nat.eq_zero_or_pos c with h0 | h0
      · subst h0; rw [Nat.add_zero] at e1; omega
      · exact h0
    obtain ⟨c', rfl⟩ : ∃ c', c = c' + 1 := ⟨c - 1, by omega⟩
    have e4 : (c' + 1) * d = c' * d + d := by rw [Nat.add_mul, Nat.one_mul]
    have e5 : m - n = c' * d + (d + r - s) := by omega
    rw [e5, Nat.mul_comm, Nat.mul_add_div hp, Nat.div_eq_of_lt (by omega)]
    omega
  · have e5 : m - n = c * d + (r - s) := by omega
    rw [e5, Nat.mul_comm, Nat.mul_add_div hp, Nat.div_eq_of_lt (by omega)]
    omega
theorem sub_yes {m n k : Nat} (h : n ≤ m) (hb : dg m k < dg n k + bo m n k) : dg (m - n) k = dg m k + 4096 - (dg n k + bo m n k) := by
  have h1 := sub_div h k
  have h2 := sub_div h (k + 1)
  rw [bo_yes hb] at h2
  rw [div_step m k, div_step n k, div_step (m - n) k] at h1
  have := dg_lt (m - n) k; have := dg_lt m k; have := dg_lt n k
  omega
theorem sub_no {m n k : Nat} (h : n ≤ m) (hb : dg n k + bo m n k ≤ dg m k) : dg (m - n) k = dg m k - (dg n k + bo m n k) := by
  have h1 := sub_div h k
  have h2 := sub_div h (k + 1)
  rw [bo_no hb] at h2
  rw [div_step m k, div_step n k, div_step (m - n) k] at h1
  have := dg_lt (m - n) k; have := dg_lt m k; have := dg_lt n k
  omega
def suF (m n k j : Nat) : Nat := if j < k then dg (m - n) j else dg m j
theorem suF_at (m n k : Nat) : suF m n k k = dg m k := by simp [suF]
theorem suF_next {m n k v : Nat} (h : v = dg (m - n) k) : ai 22 (updN (suF m n k) k v) = ai 22 (suF m n (k + 1)) := ai_congr fun i _ => by
  unfold updN suF
  by_cases e : i = k
  · subst e; simp [h]
  · have : (i < k + 1) = (i < k) := by simp; omega
    simp [e, this]
theorem suF_zero (m n : Nat) : ai 22 (dg m) = ai 22 (suF m n 0) := ai_congr fun i _ => by simp [suF]
theorem suF_end (m n : Nat) : ai 22 (suF m n 22) = ai 22 (dg (m - n)) := ai_congr fun i hi => by simp [suF, hi]
end Go.Proofs.YtacokkedomjgpaaGreatDoor

namespace Go.Proofs.YtacokkedomjgpaaGreatDoor
open Go.RowKit
def dn (k : Nat) : Int := 21 - (k : Int)
theorem dn_ix {k : Nat} (h : k < 22) : dn k = ((21 - k : Nat) : Int) := by unfold dn; omega

theorem ix_dn {k : Nat} (h : k < 22) (w : World) (q : Nat) : (Instr.indexAt 36 (.pointer (some ⟨q, 0, none⟩)) (.int .i64 (dn k))).run Tryz.prog w = .ok (.pointer (some ⟨q, 21 - k, none⟩)) w := by
  rw [dn_ix h]; exact ix22 (by omega) w q
theorem sb_dn {x u : Operand} {k : Nat} (h : k < 22) (w : World) : (do eqGuard .sub 3 x u (.int .i64 (dn k)) (.int .i64 (1 : Nat)); binOp .sub 3 (.int .i64 (dn k)) (.int .i64 (1 : Nat))).run Tryz.prog w = .ok (.int .i64 (dn (k + 1))) w := by
  have := sb_z (x := x) (u := u) (m := dn k) (n := ((1 : Nat) : Int)) (by unfold dn; omega) (by unfold dn; omega) w
  rwa [show dn k - ((1 : Nat) : Int) = dn (k + 1) by unfold dn; omega] at this
theorem be_zero {m n : Nat} (hm : m < 4096 ^ 22) (hn : n < 4096 ^ 22) : m / 4096 ^ (22 - 0) = n / 4096 ^ (22 - 0) := by
  rw [Nat.div_eq_of_lt hm, Nat.div_eq_of_lt hn]
theorem top_next {m n k : Nat} (h : m / 4096 ^ (22 - k) = n / 4096 ^ (22 - k)) (hk : k < 22) (hd : dg m (21 - k) = dg n (21 - k)) : m / 4096 ^ (22 - (k + 1)) = n / 4096 ^ (22 - (k + 1)) := by
  rw [show 22 - (k + 1) = 21 - k by omega]
  rw [show 22 - k = (21 - k) + 1 by omega] at h
  exact top_eq h hd
theorem be_fin {m n : Nat} (h : m / 4096 ^ (22 - 22) = n / 4096 ^ (22 - 22)) : decide (m < n) = false := by
  simp at h; subst h; simp
theorem be_end {m n k : Nat} (h : m / 4096 ^ (22 - k) = n / 4096 ^ (22 - k)) (hk : k < 22) (hd : ¬ dg m (21 - k) = dg n (21 - k)) : decide (((dg m (21 - k) : Nat) : Int) < ((dg n (21 - k) : Nat) : Int)) = decide (m < n) := by
  rw [show 22 - k = (21 - k) + 1 by omega] at h
  rw [decide_eq_decide]
  constructor
  · intro h1; exact top_lt h (by omega)
  · intro h1
    rcases Nat.lt_or_ge (dg m (21 - k)) (dg n (21 - k)) with h2 | h2
    · omega
    · exact absurd (top_lt h.symm (by omega : dg n (21 - k) < dg m (21 - k))) (by omega)
set_option maxHeartbeats 1000000 in
theorem below_r {m n : Nat} (hm : m < 4096 ^ 22) (hn : n < 4096 ^ 22) (W0 : World) : Calls Tryz.prog 96 #[.agg (ai 22 (dg m)), .agg (ai 22 (dg n))] W0 fun e w' => e = .returned (.bool (decide (m < n))) ∧ Below W0.heap.size W0 w' := by
  refine s_in Tryz.func96 Tryz.ntmps96 rfl [.inl (.agg (ai 22 (dg m))), .inl (.agg (ai 22 (dg n)))] ?_
  intro β a h
  refine sym_seq ?_
  refine St.rg h [(2, .inr (0, pt 0)), (3, .inr (1, pt 0)), (4, .inl (.bool false))] [(ai 22 (dg m), 36), (ai 22 (dg n), 36)] [] [eN 0, eN 1] ?_ ?_
  · exact oc (k_bx 0 (.agg (ai 22 (dg m))) (bx22 (F := (dg m))) rfl rfl) <|
    oc (k_bx 1 (.agg (ai 22 (dg n))) (bx22 (F := (dg n))) rfl rfl) <|
    oz (k_mv (.inr rfl) rfl) <|
    ok_nil
  clear h; intro β a w h
  refine sym_then ?_
  refine sym_seq ?_
  refine sym_seq ?_
  refine St.r0 h [(5, .inl (.int .i64 (21 : Nat)))] [] ?_ ?_
  · exact oz (k_mv (.inr rfl) rfl) <|
    ok_nil
  clear h; intro β a w h
  refine sym_then ?_
  refine blk_in ?_
  replace h := St.ss h 5 (.int .i64 (dn 0)) (v := .int .i64 (21 : Nat)) rfl
  replace h := St.cs h (s' := [.inl (.agg (ai 22 (dg m))), .inl (.agg (ai 22 (dg n))), .inr (0, pt 0), .inr (1, pt 0), .inl (.bool false), .inl (.int .i64 (dn 0)), uu, uu, uu, uu, uu, uu, uu, uu, uu, uu, uu, uu, uu, uu, uu, uu, uu, uu]) (m' := [(ai 22 (dg m), 36), (ai 22 (dg n), 36)]) (by kernel_rfl) (by kernel_rfl)
  refine loop_up 22 (fun k a w => m / 4096 ^ (22 - k) = n / 4096 ^ (22 - k) ∧ ∃ (x4 x6 x7 x8 x9 x10 x11 x12 x13 x14 x15 x16 x17 x18 x19 x20 x21 x22 x23 : SV) (β : Nat → Nat), St (wd W0) [.inl (.agg (ai 22 (dg m))), .inl (.agg (ai 22 (dg n))), .inr (0, pt 0), .inr (1, pt 0), x4, .inl (.int .i64 (dn k)), x6, x7, x8, x9, x10, x11, x12, x13, x14, x15, x16, x17, x18, x19, x20, x21, x22, x23] [(ai 22 (dg m), 36), (ai 22 (dg n), 36)] β a w) ⟨be_zero hm hn, _, _, _, _, _, _, _, _, _, _, _, _, _, _, _, _, _, _, _, β, h⟩ ?_
  clear h; rintro k a w hkk ⟨hinv, x4, x6, x7, x8, x9, x10, x11, x12, x13, x14, x15, x16, x17, x18, x19, x20, x21, x22, x23, β, h⟩; replace h := h.o0
  rcases Nat.lt_or_ge k 22 with hltk | hgek
  · by_cases cd : dg m (21 - k) = dg n (21 - k)
    · have hn1 := top_next hinv hltk cd
      refine sym_seq ?_
      refine sym_seq ?_
      refine St.r0 h [(6, .inl (.int .i64 (dn k))), (7, .inl (.bool true))] [] ?_ ?_
      · exact oz (k_mv (.inl rfl) rfl) <|
        oz (k_bi (.int .i64 (dn k)) (.int .i64 (0 : Nat)) (.bool true) (ge_i (m := dn k) (n := ((0 : Nat) : Int)) (decide_eq_true (by unfold dn; omega))) rfl rfl) <|
        ok_nil
      clear h; intro β a w h
      refine sym_then ?_
      refine s_ct h ?_
      refine wp_skip ?_
      refine sym_then ?_
      refine sym_seq ?_
      refine blk_in ?_
      refine sym_seq ?_
      refine St.r0 h [(10, .inl (.int .i64 (dn k))), (11, .inr (0, pt (21 - k))), (12, .inl (.int .i64 (((dg m) (21 - k)) : Nat))), (13, .inl (.int .i64 (dn k))), (14, .inr (1, pt (21 - k))), (15, .inl (.int .i64 (((dg n) (21 - k)) : Nat))), (16, .inl (.bool false))] [nn, nn, eR 0, nn, nn, eR 1] ?_ ?_
      · exact oc (k_mv (.inl rfl) rfl) <|
        oc (k_ia 0 0 ((21 - k)) (.int .i64 (dn k)) (ix_dn (k := k) (by omega)) rfl rfl) <|
        oc (k_ld 0 ((21 - k)) (.int .i64 (((dg m) (21 - k)) : Nat)) (c := ai 22 (dg m)) (ld_at (n := 22) (F := (dg m)) (i := (21 - k)) (t0 := 36) (by omega)) rfl rfl) <|
        oc (k_mv (.inl rfl) rfl) <|
        oc (k_ia 1 0 ((21 - k)) (.int .i64 (dn k)) (ix_dn (k := k) (by omega)) rfl rfl) <|
        oc (k_ld 1 ((21 - k)) (.int .i64 (((dg n) (21 - k)) : Nat)) (c := ai 22 (dg n)) (ld_at (n := 22) (F := (dg n)) (i := (21 - k)) (t0 := 36) (by omega)) rfl rfl) <|
        oz (k_bi (.int .i64 (((dg m) (21 - k)) : Nat)) (.int .i64 (((dg n) (21 - k)) : Nat)) (.bool false) (ne_i (m := ((dg m (21 - k) : Nat) : Int)) (n := ((dg n (21 - k) : Nat) : Int)) (decide_eq_false (by omega))) rfl rfl) <|
        ok_nil
      clear h; intro β a w h
      refine sym_then ?_
      refine s_cf h ?_
      refine wp_skip ?_
      refine blk_norm ?_
      refine sym_then ?_
      refine St.r0 h [(8, .inl (.int .i64 (dn k))), (9, .inl (.int .i64 (dn (k + 1)))), (5, .inl (.int .i64 (dn (k + 1))))] [eO] ?_ ?_
      · exact oc (k_m0 rfl rfl) <|
        oz (k_bi (.int .i64 (dn k)) (.int .i64 (1 : Nat)) (.int .i64 (dn (k + 1))) (sb_dn (k := k) (by omega)) rfl rfl) <|
        oz (k_mv (.inr rfl) rfl) <|
        ok_nil
      clear h; intro β a w h
      replace h := St.cs h (s' := [.inl (.agg (ai 22 (dg m))), .inl (.agg (ai 22 (dg n))), .inr (0, pt 0), .inr (1, pt 0), x4, .inl (.int .i64 (dn (k + 1))), .inl (.int .i64 (dn k)), .inl (.bool true), .inl (.int .i64 (dn k)), .inl (.int .i64 (dn (k + 1))), .inl (.int .i64 (dn k)), .inr (0, pt (21 - k)), .inl (.int .i64 (((dg m) (21 - k)) : Nat)), .inl (.int .i64 (dn k)), .inr (1, pt (21 - k)), .inl (.int .i64 (((dg n) (21 - k)) : Nat)), .inl (.bool false), x17, x18, x19, x20, x21, x22, x23]) (m' := [(ai 22 (dg m), 36), (ai 22 (dg n), 36)]) (by kernel_rfl) (by kernel_rfl)
      exact ⟨hltk, hn1, _, _, _, _, _, _, _, _, _, _, _, _, _, _, _, _, _, _, _, _, h⟩
    · refine sym_seq ?_
      refine sym_seq ?_
      refine St.r0 h [(6, .inl (.int .i64 (dn k))), (7, .inl (.bool true))] [] ?_ ?_
      · exact oz (k_mv (.inl rfl) rfl) <|
        oz (k_bi (.int .i64 (dn k)) (.int .i64 (0 : Nat)) (.bool true) (ge_i (m := dn k) (n := ((0 : Nat) : Int)) (decide_eq_true (by unfold dn; omega))) rfl rfl) <|
        ok_nil
      clear h; intro β a w h
      refine sym_then ?_
      refine s_ct h ?_
      refine wp_skip ?_
      refine sym_then ?_
      refine sym_seq ?_
      refine blk_in ?_
      refine sym_seq ?_
      refine St.r0 h [(10, .inl (.int .i64 (dn k))), (11, .inr (0, pt (21 - k))), (12, .inl (.int .i64 (((dg m) (21 - k)) : Nat))), (13, .inl (.int .i64 (dn k))), (14, .inr (1, pt (21 - k))), (15, .inl (.int .i64 (((dg n) (21 - k)) : Nat))), (16, .inl (.bool true))] [nn, nn, eR 0, nn, nn, eR 1] ?_ ?_
      · exact oc (k_mv (.inl rfl) rfl) <|
        oc (k_ia 0 0 ((21 - k)) (.int .i64 (dn k)) (ix_dn (k := k) (by omega)) rfl rfl) <|
        oc (k_ld 0 ((21 - k)) (.int .i64 (((dg m) (21 - k)) : Nat)) (c := ai 22 (dg m)) (ld_at (n := 22) (F := (dg m)) (i := (21 - k)) (t0 := 36) (by omega)) rfl rfl) <|
        oc (k_mv (.inl rfl) rfl) <|
        oc (k_ia 1 0 ((21 - k)) (.int .i64 (dn k)) (ix_dn (k := k) (by omega)) rfl rfl) <|
        oc (k_ld 1 ((21 - k)) (.int .i64 (((dg n) (21 - k)) : Nat)) (c := ai 22 (dg n)) (ld_at (n := 22) (F := (dg n)) (i := (21 - k)) (t0 := 36) (by omega)) rfl rfl) <|
        oz (k_bi (.int .i64 (((dg m) (21 - k)) : Nat)) (.int .i64 (((dg n) (21 - k)) : Nat)) (.bool true) (ne_i (m := ((dg m (21 - k) : Nat) : Int)) (n := ((dg n (21 - k) : Nat) : Int)) (decide_eq_true (by omega))) rfl rfl) <|
        ok_nil
      clear h; intro β a w h
      refine sym_then ?_
      refine s_ct h ?_
      refine sym_seq ?_
      refine St.r0 h [(17, .inl (.int .i64 (dn k))), (18, .inr (0, pt (21 - k))), (19, .inl (.int .i64 (((dg m) (21 - k)) : Nat))), (20, .inl (.int .i64 (dn k))), (21, .inr (1, pt (21 - k))), (22, .inl (.int .i64 (((dg n) (21 - k)) : Nat))), (23, .inl (.bool (decide (m < n)))), (4, .inl (.bool (decide (m < n))))] [nn, nn, eR 0, nn, nn, eR 1] ?_ ?_
      · exact oc (k_mv (.inl rfl) rfl) <|
        oc (k_ia 0 0 ((21 - k)) (.int .i64 (dn k)) (ix_dn (k := k) (by omega)) rfl rfl) <|
        oc (k_ld 0 ((21 - k)) (.int .i64 (((dg m) (21 - k)) : Nat)) (c := ai 22 (dg m)) (ld_at (n := 22) (F := (dg m)) (i := (21 - k)) (t0 := 36) (by omega)) rfl rfl) <|
        oc (k_mv (.inl rfl) rfl) <|
        oc (k_ia 1 0 ((21 - k)) (.int .i64 (dn k)) (ix_dn (k := k) (by omega)) rfl rfl) <|
        oc (k_ld 1 ((21 - k)) (.int .i64 (((dg n) (21 - k)) : Nat)) (c := ai 22 (dg n)) (ld_at (n := 22) (F := (dg n)) (i := (21 - k)) (t0 := 36) (by omega)) rfl rfl) <|
        oz (k_bi (.int .i64 (((dg m) (21 - k)) : Nat)) (.int .i64 (((dg n) (21 - k)) : Nat)) (.bool (decide (m < n))) (lt_i (m := ((dg m (21 - k) : Nat) : Int)) (n := ((dg n (21 - k) : Nat) : Int)) (be_end hinv hltk cd)) rfl rfl) <|
        oz (k_mv (.inr rfl) rfl) <|
        ok_nil
      clear h; intro β a w h
      refine sym_then ?_
      refine wp_ret ?_
      refine blk_ret ?_
      refine then_ret ?_
      refine then_ret ?_
      refine blk_ret ?_
      refine then_ret ?_
      exact s_rt h Tryz.results96 (fun hb => ⟨rfl, hb⟩)
  · obtain rfl : k = 22 := by omega
    rw [be_fin hinv]
    refine sym_seq ?_
    refine sym_seq ?_
    refine St.r0 h [(6, .inl (.int .i64 (dn 22))), (7, .inl (.bool false))] [] ?_ ?_
    · exact oz (k_mv (.inl rfl) rfl) <|
      oz (k_bi (.int .i64 (dn 22)) (.int .i64 (0 : Nat)) (.bool false) (ge_i (m := dn 22) (n := ((0 : Nat) : Int)) (decide_eq_false (by unfold dn; omega))) rfl rfl) <|
      ok_nil
    clear h; intro β a w h
    refine sym_then ?_
    refine s_cf h ?_
    refine wp_exit ?_
    refine then_exit ?_
    refine then_exit ?_
    refine blk_exit ?_
    refine sym_then ?_
    refine sym_seq ?_
    refine St.r0 h [(4, .inl (.bool false))] [] ?_ ?_
    · exact oz (k_mv (.inr rfl) rfl) <|
      ok_nil
    clear h; intro β a w h
    refine sym_then ?_
    refine wp_ret ?_
    exact s_rt h Tryz.results96 (fun hb => ⟨rfl, hb⟩)

theorem ld_su {t0 : TypeId} {m n k : Nat} (hi : k < 22) (w : World) (q : Nat) (h : w.heap[q]? = some (.cells (ai 22 (suF m n k)) t0 (0, 0))) : (Instr.loadAt 3 (.pointer (some ⟨q, k, none⟩))).run Tryz.prog w = .ok (.int .i64 (dg m k : Nat)) w := by
  have := ld_at hi w q h
  rwa [suF_at] at this
set_option maxHeartbeats 2000000 in
theorem less_r {m n : Nat} (hle : n ≤ m) (W0 : World) : Calls Tryz.prog 66 #[.agg (ai 22 (dg m)), .agg (ai 22 (dg n))] W0 fun e w' => e = .returned (.agg (ai 22 (dg (m - n)))) ∧ Below W0.heap.size W0 w' := by
  rw [← suF_end]
  refine s_in Tryz.func66 Tryz.ntmps66 rfl [.inl (.agg (ai 22 (dg m))), .inl (.agg (ai 22 (dg n)))] ?_
  intro β a h
  refine sym_seq ?_
  refine St.rg h [(2, .inr (0, pt 0)), (3, .inr (1, pt 0)), (4, .inr (2, pt 0))] [(ai 22 (dg m), 36), (ai 22 (dg n), 36), (ai 22 (fun _ => 0), 36)] [] [eN 0, eN 1, eN 2] ?_ ?_
  · exact oc (k_bx 0 (.agg (ai 22 (dg m))) (bx22 (F := (dg m))) rfl rfl) <|
    oc (k_bx 1 (.agg (ai 22 (dg n))) (bx22 (F := (dg n))) rfl rfl) <|
    oc (k_al 2 al22 rfl rfl) <|
    ok_nil
  clear h; intro β a w h
  refine sym_then ?_
  refine sym_seq ?_
  refine St.r0 h [(5, .inl (.int .i64 (0 : Nat)))] [] ?_ ?_
  · exact oz (k_mv (.inr rfl) rfl) <|
    ok_nil
  clear h; intro β a w h
  refine sym_then ?_
  refine sym_seq ?_
  refine sym_seq ?_
  refine St.r0 h [(6, .inl (.int .i64 (0 : Nat)))] [] ?_ ?_
  · exact oz (k_mv (.inr rfl) rfl) <|
    ok_nil
  clear h; intro β a w h
  refine sym_then ?_
  refine blk_in ?_
  replace h := St.sm h 0 (ai 22 (suF m n 0)) (c := ai 22 (dg m)) (t := 36) (suF_zero m n)
  replace h := St.ss h 5 (.int .i64 ((bo m n 0) : Nat)) (v := .int .i64 (0 : Nat)) (by rw [bo_zero])
  replace h := St.cs h (s' := [.inl (.agg (ai 22 (dg m))), .inl (.agg (ai 22 (dg n))), .inr (0, pt 0), .inr (1, pt 0), .inr (2, pt 0), .inl (.int .i64 ((bo m n 0) : Nat)), .inl (.int .i64 (0 : Nat)), uu, uu, uu, uu, uu, uu, uu, uu, uu, uu, uu, uu, uu, uu, uu, uu, uu, uu, uu, uu, uu, uu]) (m' := [(ai 22 (suF m n 0), 36), (ai 22 (dg n), 36), (ai 22 (fun _ => 0), 36)]) (by kernel_rfl) (by kernel_rfl)
  refine loop_up 22 (fun k a w => ∃ (x7 x8 x9 x10 x11 x12 x13 x14 x15 x16 x17 x18 x19 x20 x21 x22 x23 x24 x25 x26 x27 : SV) (β : Nat → Nat), St (wd W0) [.inl (.agg (ai 22 (dg m))), .inl (.agg (ai 22 (dg n))), .inr (0, pt 0), .inr (1, pt 0), .inr (2, pt 0), .inl (.int .i64 ((bo m n k) : Nat)), .inl (.int .i64 (k : Nat)), x7, x8, x9, x10, x11, x12, x13, x14, x15, x16, x17, x18, x19, x20, x21, x22, x23, x24, x25, x26, x27, uu] [(ai 22 (suF m n k), 36), (ai 22 (dg n), 36), (ai 22 (fun _ => 0), 36)] β a w) ⟨_, _, _, _, _, _, _, _, _, _, _, _, _, _, _, _, _, _, _, _, _, β, h⟩ ?_
  clear h; rintro k a w hkk ⟨x7, x8, x9, x10, x11, x12, x13, x14, x15, x16, x17, x18, x19, x20, x21, x22, x23, x24, x25, x26, x27, β, h⟩; replace h := h.o0
  rcases Nat.lt_or_ge k 22 with hltk | hgek
  · rcases Nat.lt_or_ge (dg m k) (dg n k + bo m n k) with hb | hb; rotate_left
    · have f1 := dg_lt m k
      have f2 := dg_lt n k
      have f3 := dg_lt (m - n) k
      have f4 := bo_le m n k
      have f5 := sub_no hle hb
      refine sym_seq ?_
      refine sym_seq ?_
      refine St.r0 h [(8, .inl (.int .i64 (k : Nat))), (9, .inl (.bool true))] [] ?_ ?_
      · exact oz (k_mv (.inl rfl) rfl) <|
        oz (k_bi (.int .i64 (k : Nat)) (.int .i64 (22 : Nat)) (.bool true) (lt_i (m := ((k : Nat) : Int)) (n := ((22 : Nat) : Int)) (decide_eq_true (by omega))) rfl rfl) <|
        ok_nil
      clear h; intro β a w h
      refine sym_then ?_
      refine s_ct h ?_
      refine wp_skip ?_
      refine sym_then ?_
      refine sym_seq ?_
      refine blk_in ?_
      refine sym_seq ?_
      refine St.r0 h [(12, .inl (.int .i64 (k : Nat))), (13, .inr (0, pt k)), (14, .inl (.int .i64 ((dg m k) : Nat))), (15, .inl (.int .i64 (k : Nat))), (16, .inr (1, pt k)), (17, .inl (.int .i64 (((dg n) k) : Nat))), (18, .inl (.int .i64 (((dg m k : Nat) : Int) - ((dg n k : Nat) : Int)))), (19, .inl (.int .i64 ((bo m n k) : Nat))), (20, .inl (.int .i64 ((dg (m - n) k) : Nat))), (7, .inl (.int .i64 ((dg (m - n) k) : Nat)))] [nn, nn, eR 0, nn, nn, eR 1] ?_ ?_
      · exact oc (k_mv (.inl rfl) rfl) <|
        oc (k_ia 0 0 k (.int .i64 (k : Nat)) (ix22 (i := k) (by omega)) rfl rfl) <|
        oc (k_ld 0 k (.int .i64 ((dg m k) : Nat)) (c := ai 22 (suF m n k)) (ld_su (k := k) (t0 := 36) (by omega)) rfl rfl) <|
        oc (k_mv (.inl rfl) rfl) <|
        oc (k_ia 1 0 k (.int .i64 (k : Nat)) (ix22 (i := k) (by omega)) rfl rfl) <|
        oc (k_ld 1 k (.int .i64 (((dg n) k) : Nat)) (c := ai 22 (dg n)) (ld_at (n := 22) (F := (dg n)) (i := k) (t0 := 36) (by omega)) rfl rfl) <|
        oz (k_bi (.int .i64 ((dg m k) : Nat)) (.int .i64 (((dg n) k) : Nat)) (.int .i64 (((dg m k : Nat) : Int) - ((dg n k : Nat) : Int))) (sb_z (m := ((dg m k : Nat) : Int)) (n := ((dg n k : Nat) : Int)) (by omega) (by omega)) rfl rfl) <|
        oz (k_mv (.inl rfl) rfl) <|
        oz (k_bi (.int .i64 (((dg m k : Nat) : Int) - ((dg n k : Nat) : Int))) (.int .i64 ((bo m n k) : Nat)) (.int .i64 ((dg (m - n) k) : Nat)) (sb_zn (m := ((dg m k : Nat) : Int) - ((dg n k : Nat) : Int)) (n := ((bo m n k : Nat) : Int)) (k := (dg (m - n) k)) (by omega) (by omega)) rfl rfl) <|
        oz (k_mv (.inr rfl) rfl) <|
        ok_nil
      clear h; intro β a w h
      refine sym_then ?_
      refine sym_seq ?_
      refine St.r0 h [(5, .inl (.int .i64 (0 : Nat)))] [] ?_ ?_
      · exact oz (k_mv (.inr rfl) rfl) <|
        ok_nil
      clear h; intro β a w h
      refine sym_then ?_
      refine sym_seq ?_
      refine sym_seq ?_
      refine St.r0 h [(21, .inl (.int .i64 ((dg (m - n) k) : Nat))), (22, .inl (.bool false))] [] ?_ ?_
      · exact oz (k_mv (.inl rfl) rfl) <|
        oz (k_bi (.int .i64 ((dg (m - n) k) : Nat)) (.int .i64 (0 : Nat)) (.bool false) (lt_i (m := (((dg (m - n) k) : Nat) : Int)) (n := ((0 : Nat) : Int)) (decide_eq_false (by omega))) rfl rfl) <|
        ok_nil
      clear h; intro β a w h
      refine sym_then ?_
      refine s_cf h ?_
      refine wp_skip ?_
      refine sym_then ?_
      refine St.rg h [(25, .inl (.int .i64 (k : Nat))), (26, .inl (.int .i64 ((dg (m - n) k) : Nat))), (27, .inr (0, pt k))] [] [(0, ai 22 (updN (suF m n k) k (dg (m - n) k)))] [nn, nn, nn, eS 0] ?_ ?_
      · exact oc (k_mv (.inl rfl) rfl) <|
        oc (k_mv (.inl rfl) rfl) <|
        oc (k_ia 0 0 k (.int .i64 (k : Nat)) (ix22 (i := k) (by omega)) rfl rfl) <|
        oc (k_st 0 k (.int .i64 ((dg (m - n) k) : Nat)) (c := ai 22 (suF m n k)) (n := ai 22 (updN (suF m n k) k (dg (m - n) k))) (st_at (n := 22) (F := (suF m n k)) (i := k) (v := (dg (m - n) k)) (t0 := 36) (by omega)) rfl rfl) <|
        ok_nil
      clear h; intro β a w h
      refine blk_norm ?_
      refine sym_then ?_
      refine St.r0 h [(10, .inl (.int .i64 (k : Nat))), (11, .inl (.int .i64 ((k + 1) : Nat))), (6, .inl (.int .i64 ((k + 1) : Nat)))] [eO] ?_ ?_
      · exact oc (k_m0 rfl rfl) <|
        oz (k_bi (.int .i64 (k : Nat)) (.int .i64 (1 : Nat)) (.int .i64 ((k + 1) : Nat)) (ad_i (m := k) (n := 1) (by omega)) rfl rfl) <|
        oz (k_mv (.inr rfl) rfl) <|
        ok_nil
      clear h; intro β a w h
      replace h := St.sm h 0 (ai 22 (suF m n (k + 1))) (c := ai 22 (updN (suF m n k) k (dg (m - n) k))) (t := 36) (suF_next rfl)
      replace h := St.ss h 5 (.int .i64 ((bo m n (k + 1)) : Nat)) (v := .int .i64 (0 : Nat)) (by rw [bo_no hb])
      replace h := St.cs h (s' := [.inl (.agg (ai 22 (dg m))), .inl (.agg (ai 22 (dg n))), .inr (0, pt 0), .inr (1, pt 0), .inr (2, pt 0), .inl (.int .i64 ((bo m n (k + 1)) : Nat)), .inl (.int .i64 ((k + 1) : Nat)), .inl (.int .i64 ((dg (m - n) k) : Nat)), .inl (.int .i64 (k : Nat)), .inl (.bool true), .inl (.int .i64 (k : Nat)), .inl (.int .i64 ((k + 1) : Nat)), .inl (.int .i64 (k : Nat)), .inr (0, pt k), .inl (.int .i64 ((dg m k) : Nat)), .inl (.int .i64 (k : Nat)), .inr (1, pt k), .inl (.int .i64 (((dg n) k) : Nat)), .inl (.int .i64 (((dg m k : Nat) : Int) - ((dg n k : Nat) : Int))), .inl (.int .i64 ((bo m n k) : Nat)), .inl (.int .i64 ((dg (m - n) k) : Nat)), .inl (.int .i64 ((dg (m - n) k) : Nat)), .inl (.bool false), x23, x24, .inl (.int .i64 (k : Nat)), .inl (.int .i64 ((dg (m - n) k) : Nat)), .inr (0, pt k), uu]) (m' := [(ai 22 (suF m n (k + 1)), 36), (ai 22 (dg n), 36), (ai 22 (fun _ => 0), 36)]) (by kernel_rfl) (by kernel_rfl)
      exact ⟨hltk, _, _, _, _, _, _, _, _, _, _, _, _, _, _, _, _, _, _, _, _, _, _, h⟩
    · have f1 := dg_lt m k
      have f2 := dg_lt n k
      have f3 := dg_lt (m - n) k
      have f4 := bo_le m n k
      have f5 := sub_yes hle hb
      refine sym_seq ?_
      refine sym_seq ?_
      refine St.r0 h [(8, .inl (.int .i64 (k : Nat))), (9, .inl (.bool true))] [] ?_ ?_
      · exact oz (k_mv (.inl rfl) rfl) <|
        oz (k_bi (.int .i64 (k : Nat)) (.int .i64 (22 : Nat)) (.bool true) (lt_i (m := ((k : Nat) : Int)) (n := ((22 : Nat) : Int)) (decide_eq_true (by omega))) rfl rfl) <|
        ok_nil
      clear h; intro β a w h
      refine sym_then ?_
      refine s_ct h ?_
      refine wp_skip ?_
      refine sym_then ?_
      refine sym_seq ?_
      refine blk_in ?_
      refine sym_seq ?_
      refine St.r0 h [(12, .inl (.int .i64 (k : Nat))), (13, .inr (0, pt k)), (14, .inl (.int .i64 ((dg m k) : Nat))), (15, .inl (.int .i64 (k : Nat))), (16, .inr (1, pt k)), (17, .inl (.int .i64 (((dg n) k) : Nat))), (18, .inl (.int .i64 (((dg m k : Nat) : Int) - ((dg n k : Nat) : Int)))), (19, .inl (.int .i64 ((bo m n k) : Nat))), (20, .inl (.int .i64 (((dg m k : Nat) : Int) - ((dg n k : Nat) : Int) - ((bo m n k : Nat) : Int)))), (7, .inl (.int .i64 (((dg m k : Nat) : Int) - ((dg n k : Nat) : Int) - ((bo m n k : Nat) : Int))))] [nn, nn, eR 0, nn, nn, eR 1] ?_ ?_
      · exact oc (k_mv (.inl rfl) rfl) <|
        oc (k_ia 0 0 k (.int .i64 (k : Nat)) (ix22 (i := k) (by omega)) rfl rfl) <|
        oc (k_ld 0 k (.int .i64 ((dg m k) : Nat)) (c := ai 22 (suF m n k)) (ld_su (k := k) (t0 := 36) (by omega)) rfl rfl) <|
        oc (k_mv (.inl rfl) rfl) <|
        oc (k_ia 1 0 k (.int .i64 (k : Nat)) (ix22 (i := k) (by omega)) rfl rfl) <|
        oc (k_ld 1 k (.int .i64 (((dg n) k) : Nat)) (c := ai 22 (dg n)) (ld_at (n := 22) (F := (dg n)) (i := k) (t0 := 36) (by omega)) rfl rfl) <|
        oz (k_bi (.int .i64 ((dg m k) : Nat)) (.int .i64 (((dg n) k) : Nat)) (.int .i64 (((dg m k : Nat) : Int) - ((dg n k : Nat) : Int))) (sb_z (m := ((dg m k : Nat) : Int)) (n := ((dg n k : Nat) : Int)) (by omega) (by omega)) rfl rfl) <|
        oz (k_mv (.inl rfl) rfl) <|
        oz (k_bi (.int .i64 (((dg m k : Nat) : Int) - ((dg n k : Nat) : Int))) (.int .i64 ((bo m n k) : Nat)) (.int .i64 (((dg m k : Nat) : Int) - ((dg n k : Nat) : Int) - ((bo m n k : Nat) : Int))) (sb_z (m := ((dg m k : Nat) : Int) - ((dg n k : Nat) : Int)) (n := ((bo m n k : Nat) : Int)) (by omega) (by omega)) rfl rfl) <|
        oz (k_mv (.inr rfl) rfl) <|
        ok_nil
      clear h; intro β a w h
      refine sym_then ?_
      refine sym_seq ?_
      refine St.r0 h [(5, .inl (.int .i64 (0 : Nat)))] [] ?_ ?_
      · exact oz (k_mv (.inr rfl) rfl) <|
        ok_nil
      clear h; intro β a w h
      refine sym_then ?_
      refine sym_seq ?_
      refine sym_seq ?_
      refine St.r0 h [(21, .inl (.int .i64 (((dg m k : Nat) : Int) - ((dg n k : Nat) : Int) - ((bo m n k : Nat) : Int)))), (22, .inl (.bool true))] [] ?_ ?_
      · exact oz (k_mv (.inl rfl) rfl) <|
        oz (k_bi (.int .i64 (((dg m k : Nat) : Int) - ((dg n k : Nat) : Int) - ((bo m n k : Nat) : Int))) (.int .i64 (0 : Nat)) (.bool true) (lt_i (m := ((dg m k : Nat) : Int) - ((dg n k : Nat) : Int) - ((bo m n k : Nat) : Int)) (n := ((0 : Nat) : Int)) (decide_eq_true (by omega))) rfl rfl) <|
        ok_nil
      clear h; intro β a w h
      refine sym_then ?_
      refine s_ct h ?_
      refine sym_seq ?_
      refine St.r0 h [(23, .inl (.int .i64 (((dg m k : Nat) : Int) - ((dg n k : Nat) : Int) - ((bo m n k : Nat) : Int)))), (24, .inl (.int .i64 ((dg (m - n) k) : Nat))), (7, .inl (.int .i64 ((dg (m - n) k) : Nat)))] [eO] ?_ ?_
      · exact oc (k_m0 rfl rfl) <|
        oz (k_bi (.int .i64 (((dg m k : Nat) : Int) - ((dg n k : Nat) : Int) - ((bo m n k : Nat) : Int))) (.int .i64 (4096 : Nat)) (.int .i64 ((dg (m - n) k) : Nat)) (ad_zn (m := ((dg m k : Nat) : Int) - ((dg n k : Nat) : Int) - ((bo m n k : Nat) : Int)) (n := ((4096 : Nat) : Int)) (k := (dg (m - n) k)) (by omega) (by omega)) rfl rfl) <|
        oz (k_mv (.inr rfl) rfl) <|
        ok_nil
      clear h; intro β a w h
      refine sym_then ?_
      refine St.r0 h [(5, .inl (.int .i64 (1 : Nat)))] [] ?_ ?_
      · exact oz (k_mv (.inr rfl) rfl) <|
        ok_nil
      clear h; intro β a w h
      refine sym_then ?_
      refine St.rg h [(25, .inl (.int .i64 (k : Nat))), (26, .inl (.int .i64 ((dg (m - n) k) : Nat))), (27, .inr (0, pt k))] [] [(0, ai 22 (updN (suF m n k) k (dg (m - n) k)))] [nn, nn, nn, eS 0] ?_ ?_
      · exact oc (k_mv (.inl rfl) rfl) <|
        oc (k_mv (.inl rfl) rfl) <|
        oc (k_ia 0 0 k (.int .i64 (k : Nat)) (ix22 (i := k) (by omega)) rfl rfl) <|
        oc (k_st 0 k (.int .i64 ((dg (m - n) k) : Nat)) (c := ai 22 (suF m n k)) (n := ai 22 (updN (suF m n k) k (dg (m - n) k))) (st_at (n := 22) (F := (suF m n k)) (i := k) (v := (dg (m - n) k)) (t0 := 36) (by omega)) rfl rfl) <|
        ok_nil
      clear h; intro β a w h
      refine blk_norm ?_
      refine sym_then ?_
      refine St.r0 h [(10, .inl (.int .i64 (k : Nat))), (11, .inl (.int .i64 ((k + 1) : Nat))), (6, .inl (.int .i64 ((k + 1) : Nat)))] [eO] ?_ ?_
      · exact oc (k_m0 rfl rfl) <|
        oz (k_bi (.int .i64 (k : Nat)) (.int .i64 (1 : Nat)) (.int .i64 ((k + 1) : Nat)) (ad_i (m := k) (n := 1) (by omega)) rfl rfl) <|
        oz (k_mv (.inr rfl) rfl) <|
        ok_nil
      clear h; intro β a w h
      replace h := St.sm h 0 (ai 22 (suF m n (k + 1))) (c := ai 22 (updN (suF m n k) k (dg (m - n) k))) (t := 36) (suF_next rfl)
      replace h := St.ss h 5 (.int .i64 ((bo m n (k + 1)) : Nat)) (v := .int .i64 (1 : Nat)) (by rw [bo_yes hb])
      replace h := St.cs h (s' := [.inl (.agg (ai 22 (dg m))), .inl (.agg (ai 22 (dg n))), .inr (0, pt 0), .inr (1, pt 0), .inr (2, pt 0), .inl (.int .i64 ((bo m n (k + 1)) : Nat)), .inl (.int .i64 ((k + 1) : Nat)), .inl (.int .i64 ((dg (m - n) k) : Nat)), .inl (.int .i64 (k : Nat)), .inl (.bool true), .inl (.int .i64 (k : Nat)), .inl (.int .i64 ((k + 1) : Nat)), .inl (.int .i64 (k : Nat)), .inr (0, pt k), .inl (.int .i64 ((dg m k) : Nat)), .inl (.int .i64 (k : Nat)), .inr (1, pt k), .inl (.int .i64 (((dg n) k) : Nat)), .inl (.int .i64 (((dg m k : Nat) : Int) - ((dg n k : Nat) : Int))), .inl (.int .i64 ((bo m n k) : Nat)), .inl (.int .i64 (((dg m k : Nat) : Int) - ((dg n k : Nat) : Int) - ((bo m n k : Nat) : Int))), .inl (.int .i64 (((dg m k : Nat) : Int) - ((dg n k : Nat) : Int) - ((bo m n k : Nat) : Int))), .inl (.bool true), .inl (.int .i64 (((dg m k : Nat) : Int) - ((dg n k : Nat) : Int) - ((bo m n k : Nat) : Int))), .inl (.int .i64 ((dg (m - n) k) : Nat)), .inl (.int .i64 (k : Nat)), .inl (.int .i64 ((dg (m - n) k) : Nat)), .inr (0, pt k), uu]) (m' := [(ai 22 (suF m n (k + 1)), 36), (ai 22 (dg n), 36), (ai 22 (fun _ => 0), 36)]) (by kernel_rfl) (by kernel_rfl)
      exact ⟨hltk, _, _, _, _, _, _, _, _, _, _, _, _, _, _, _, _, _, _, _, _, _, _, h⟩
  · obtain rfl : k = 22 := by omega
    refine sym_seq ?_
    refine sym_seq ?_
    refine St.r0 h [(8, .inl (.int .i64 (22 : Nat))), (9, .inl (.bool false))] [] ?_ ?_
    · exact oz (k_mv (.inl rfl) rfl) <|
      oz (k_bi (.int .i64 (22 : Nat)) (.int .i64 (22 : Nat)) (.bool false) (lt_i (m := ((22 : Nat) : Int)) (n := ((22 : Nat) : Int)) (decide_eq_false (by omega))) rfl rfl) <|
      ok_nil
    clear h; intro β a w h
    refine sym_then ?_
    refine s_cf h ?_
    refine wp_exit ?_
    refine then_exit ?_
    refine then_exit ?_
    refine blk_exit ?_
    refine sym_then ?_
    refine sym_seq ?_
    refine St.rg h [(28, .inl (.agg (ai 22 (suF m n 22))))] [] [(2, ai 22 (suF m n 22))] [eR 0, eS 2] ?_ ?_
    · exact oc (k_ld 0 0 (.agg (ai 22 (suF m n 22))) (c := ai 22 (suF m n 22)) (ld22 (F := (suF m n 22)) 36) rfl rfl) <|
      oc (k_st 2 0 (.agg (ai 22 (suF m n 22))) (c := ai 22 (fun _ => 0)) (n := ai 22 (suF m n 22)) (st22 (F := (suF m n 22)) (c := ai 22 (fun _ => 0)) 36 (ai_size _ _)) rfl rfl) <|
      ok_nil
    clear h; intro β a w h
    refine sym_then ?_
    refine wp_ret ?_
    exact s_rc (b := 2) (t0 := 36) (c := ai 22 (suF m n 22)) h Tryz.results66 Tryz.underlying36 (fun hb => ⟨rfl, hb⟩) (by rw [ai_size]; kernel_rfl)
end Go.Proofs.YtacokkedomjgpaaGreatDoor

namespace Go.Proofs.YtacokkedomjgpaaGreatDoor

theorem ic {a b : Nat} (h : a = b) : Value.int .i64 (a : Nat) = Value.int .i64 (b : Nat) := by rw [h]
def cr (F : Nat → Nat) (k : Nat) : Nat := pv F k / 4096 ^ k
theorem cr_zero (F : Nat → Nat) : cr F 0 = 0 := by simp [cr, pv]
theorem cr_sum (F : Nat → Nat) (k : Nat) : F k + cr F k = pv F (k + 1) / 4096 ^ k := by
  unfold cr
  rw [pv, Nat.add_mul_div_right _ _ (p4 k), Nat.add_comm]
theorem cr_dig (F : Nat → Nat) (k : Nat) : (F k + cr F k) % 4096 = dg (pv F (k + 1)) k := by rw [cr_sum]; rfl
theorem cr_next (F : Nat → Nat) (k : Nat) : (F k + cr F k) / 4096 = cr F (k + 1) := by
  rw [cr_sum, Nat.div_div_eq_div_mul, ← Nat.pow_succ]; rfl
theorem pv_low (F : Nat → Nat) {k j : Nat} (h : j < k) : dg (pv F (k + 1)) j = dg (pv F k) j := by
  unfold dg
  obtain ⟨e, rfl⟩ : ∃ e, k = j + 1 + e := ⟨k - (j + 1), by omega⟩
  rw [pv]
  have h1 : F (j + 1 + e) * 4096 ^ (j + 1 + e) = F (j + 1 + e) * 4096 ^ e * 4096 * 4096 ^ j := by
    rw [show j + 1 + e = e + (1 + j) by omega, Nat.pow_add, Nat.pow_add, Nat.pow_one, Nat.mul_assoc, Nat.mul_assoc, ← Nat.mul_assoc (4096 ^ e)]
  rw [h1, Nat.add_mul_div_right _ _ (p4 j), Nat.add_mul_mod_self_right]
theorem pv_lt {F : Nat → Nat} {B : Nat} (h : ∀ i, F i < B) : ∀ k, pv F k < B * 4096 ^ k := by
  intro k
  have hB : 0 < B := Nat.lt_of_le_of_lt (Nat.zero_le _) (h 0)
  induction k with
  | zero => simpa [pv] using hB
  | succ k ih =>
    have h1 : F k * 4096 ^ k ≤ B * 4096 ^ k := Nat.mul_le_mul_right _ (Nat.le_of_lt (h k))
    have h2 : B * 4096 ^ (k + 1) = 4096 * (B * 4096 ^ k) := by rw [Nat.pow_succ, Nat.mul_comm 4096, Nat.mul_assoc]
    rw [pv, h2]; omega
theorem cr_lt {F : Nat → Nat} {B : Nat} (h : ∀ i, F i < B) (k : Nat) : cr F k < B := by
  unfold cr
  rw [Nat.div_lt_iff_lt_mul (p4 k)]
  exact pv_lt h k

def cyF (F : Nat → Nat) (k j : Nat) : Nat := if j < k then dg (pv F k) j else F j
theorem cyF_at (F : Nat → Nat) (k : Nat) : cyF F k k = F k := by simp [cyF]
theorem cyF_zero (F : Nat → Nat) : ai 44 F = ai 44 (cyF F 0) := ai_congr fun i _ => by simp [cyF]
theorem cyF_next (F : Nat → Nat) (k : Nat) : ai 44 (updN (cyF F k) k ((cyF F k k + cr F k) % 4096)) = ai 44 (cyF F (k + 1)) := ai_congr fun i _ => by
  rw [cyF_at, cr_dig]
  unfold updN cyF
  by_cases e : i = k
  · subst e; simp
  · by_cases h : i < k
    · have h1 : i < k + 1 := by omega
      rw [if_neg e, if_pos h, if_pos h1, pv_low F h]
    · have h1 : ¬ i < k + 1 := by omega
      rw [if_neg e, if_neg h, if_neg h1]
theorem cyF_end {F : Nat → Nat} {N : Nat} (h : pv F 44 = N) : ai 44 (cyF F 44) = ai 44 (dg N) := ai_congr fun i hi => by simp [cyF, hi, h]

def foF (V k j : Nat) : Nat := if j < k then dg V j + 9728 * dg V (j + 22) else if 22 ≤ j ∧ j < 22 + k then 0 else dg V j
theorem foF_a {V k : Nat} (h : k < 22) : foF V k k = dg V k := by
  unfold foF; rw [if_neg (by omega), if_neg (by omega)]
theorem foF_b (V k : Nat) : foF V k (k + 22) = dg V (k + 22) := by
  unfold foF; rw [if_neg (by omega), if_neg (by omega)]
theorem foF_zero (V : Nat) : ai 44 (dg V) = ai 44 (foF V 0) := ai_congr fun i _ => by
  unfold foF; rw [if_neg (by omega), if_neg (by omega)]
theorem foF_next {V k : Nat} (h : k < 22) : ai 44 (updN (updN (foF V k) k (foF V k k + 9728 * foF V k (k + 22))) (k + 22) 0) = ai 44 (foF V (k + 1)) := ai_congr fun i _ => by
  rw [foF_a h, foF_b V k]
  unfold updN
  by_cases e1 : i = k + 22
  · subst e1; rw [if_pos rfl]; unfold foF; rw [if_neg (by omega), if_pos (by omega)]
  · rw [if_neg e1]
    by_cases e2 : i = k
    · subst e2; rw [if_pos rfl]; unfold foF; rw [if_pos (by omega)]
    · rw [if_neg e2]; unfold foF
      by_cases h1 : i < k
      · rw [if_pos h1, if_pos (by omega)]
      · rw [if_neg h1, if_neg (show ¬ i < k + 1 by omega)]
        by_cases h2 : 22 ≤ i ∧ i < 22 + k
        · rw [if_pos h2, if_pos (by omega)]
        · rw [if_neg h2, if_neg (by omega)]
def FO (V j : Nat) : Nat := if j < 22 then dg V j + 9728 * dg V (j + 22) else 0
theorem FO_lt (V j : Nat) : FO V j < 1099511627776 := by
  unfold FO
  have := dg_lt V j; have := dg_lt V (j + 22)
  split <;> omega
theorem foF_end (V : Nat) : ai 44 (foF V 22) = ai 44 (FO V) := ai_congr fun i hi => by
  unfold foF FO
  by_cases h : i < 22
  · rw [if_pos h, if_pos h]
  · rw [if_neg h, if_neg h, if_pos (by omega)]

theorem dg_shift (V j : Nat) : dg V (j + 22) = dg (V / 4096 ^ 22) j := by
  unfold dg
  rw [Nat.div_div_eq_div_mul, ← Nat.pow_add, Nat.add_comm 22 j]
theorem pv_add (F G : Nat → Nat) (c : Nat) : ∀ k, pv (fun j => F j + c * G j) k = pv F k + c * pv G k := by
  intro k
  induction k with
  | zero => simp [pv]
  | succ k ih =>
    simp only [pv, ih]
    rw [Nat.add_mul, Nat.mul_add, Nat.mul_assoc]; omega
theorem pv_zero {F : Nat → Nat} {a : Nat} : ∀ b, (∀ j, a ≤ j → j < a + b → F j = 0) → pv F (a + b) = pv F a := by
  intro b
  induction b with
  | zero => intro _; rfl
  | succ b ih =>
    intro h
    rw [show a + (b + 1) = a + b + 1 from rfl, pv, h (a + b) (by omega) (by omega), ih (fun j h1 h2 => h j h1 (by omega))]
    simp
def TT (V : Nat) : Nat := V % 4096 ^ 22 + 9728 * (V / 4096 ^ 22)
theorem pv_FO {V : Nat} (h : V < 4096 ^ 44) : pv (FO V) 44 = TT V := by
  have h1 : pv (FO V) 44 = pv (FO V) 22 := pv_zero (a := 22) 22 (fun j h1 _ => by unfold FO; rw [if_neg (by omega)])
  have h2 : pv (FO V) 22 = pv (fun j => dg V j + 9728 * dg (V / 4096 ^ 22) j) 22 := pv_congr 22 fun i hi => by
    unfold FO; rw [if_pos hi, dg_shift]
  have h3 : V / 4096 ^ 22 % 4096 ^ 22 = V / 4096 ^ 22 := Nat.mod_eq_of_lt (Nat.div_lt_of_lt_mul (by rw [← Nat.pow_add]; exact h))
  rw [h1, h2, pv_add, pv_dg, pv_dg, h3]; rfl
theorem TT_mod (V : Nat) : TT V % pp = V % pp := by
  have h0 : 4096 ^ 22 % pp = 9728 := by decide +kernel
  have h1 : V = V % 4096 ^ 22 + 4096 ^ 22 * (V / 4096 ^ 22) := (Nat.mod_add_div _ _).symm
  have h2 : V % pp = (V % 4096 ^ 22 + 4096 ^ 22 * (V / 4096 ^ 22)) % pp := by rw [← h1]
  have h3 : 9728 % pp = 9728 := Nat.mod_eq_of_lt (by decide +kernel)
  unfold TT
  rw [h2, Nat.add_mod, Nat.mul_mod 9728, Nat.add_mod (V % 4096 ^ 22), Nat.mul_mod (4096 ^ 22), h0, h3]
def tV (N : Nat) : Nat → Nat
  | 0 => N
  | r + 1 => TT (tV N r)
theorem tV_mod (N : Nat) : ∀ r, tV N r % pp = N % pp := by
  intro r
  induction r with
  | zero => rfl
  | succ r ih => rw [tV, TT_mod, ih]
theorem TT_of_lt {V : Nat} (h : V < 4096 ^ 22) : TT V = V := by
  unfold TT; rw [Nat.mod_eq_of_lt h, Nat.div_eq_of_lt h]; omega
theorem tV_three {N : Nat} (h : N < 4096 ^ 44) : tV N 1 < 4096 ^ 44 ∧ tV N 2 < 4096 ^ 44 ∧ tV N 3 < 4096 ^ 22 := by
  have hX : (4096 : Nat) ^ 22 = 29642774844752946028434172162224104410437116074403984394101141506025761187823616 := by decide +kernel
  have hY : (4096 : Nat) ^ 44 = 29642774844752946028434172162224104410437116074403984394101141506025761187823616 * 29642774844752946028434172162224104410437116074403984394101141506025761187823616 := by decide +kernel
  have h1 : N / 4096 ^ 22 < 4096 ^ 22 := Nat.div_lt_of_lt_mul (by rw [← Nat.pow_add]; exact h)
  have g1 : N % 4096 ^ 22 < 4096 ^ 22 := Nat.mod_lt _ (p4 22)
  have b1 : tV N 1 < 9729 * 4096 ^ 22 := by
    show TT N < _
    unfold TT
    omega
  have h2 : tV N 1 / 4096 ^ 22 < 9729 := by rw [Nat.div_lt_iff_lt_mul (p4 22)]; exact b1
  have g2 : tV N 1 % 4096 ^ 22 < 4096 ^ 22 := Nat.mod_lt _ (p4 22)
  have b2 : tV N 2 < 4096 ^ 22 + 94643713 := by
    show TT (tV N 1) < _
    unfold TT
    omega
  refine ⟨by rw [hX] at b1; rw [hY]; omega, by rw [hX] at b2; rw [hY]; omega, ?_⟩
  show TT (tV N 2) < _
  by_cases hlt : tV N 2 < 4096 ^ 22
  · rw [TT_of_lt hlt]; exact hlt
  · have e1 : tV N 2 / 4096 ^ 22 = 1 := by
      refine Nat.div_eq_of_lt_le (by omega) ?_
      rw [hX] at b2 ⊢; omega
    have e2 : tV N 2 % 4096 ^ 22 = tV N 2 - 4096 ^ 22 := by
      have := Nat.mod_add_div (tV N 2) (4096 ^ 22)
      rw [e1] at this; omega
    unfold TT
    rw [e1, e2]
    rw [hX] at *; omega
theorem tV_lt {N : Nat} (h : N < 4096 ^ 44) : ∀ r, tV N r < 4096 ^ 44 ∧ (3 ≤ r → tV N r = tV N 3) := by
  have h3 := tV_three h
  have hXY : (4096 : Nat) ^ 22 < 4096 ^ 44 := by decide +kernel
  have k3 : ∀ d, tV N (3 + d) = tV N 3 := by
    intro d
    induction d with
    | zero => rfl
    | succ d ih => show TT (tV N (3 + d)) = _; rw [ih]; exact TT_of_lt h3.2.2
  intro r
  match r with
  | 0 => exact ⟨h, fun h => by omega⟩
  | 1 => exact ⟨h3.1, fun h => by omega⟩
  | 2 => exact ⟨h3.2.1, fun h => by omega⟩
  | r + 3 => rw [Nat.add_comm r 3, k3 r]; exact ⟨Nat.lt_trans h3.2.2 hXY, fun _ => rfl⟩
def oF (F : Nat → Nat) (N : Nat) : Nat → Nat → Nat
  | 0 => F
  | r + 1 => FO (tV N r)
theorem oF_lt {F : Nat → Nat} (hF : ∀ i, F i < 1099511627776) (N r i : Nat) : oF F N r i < 1099511627776 := by
  cases r with
  | zero => exact hF i
  | succ r => exact FO_lt _ _
theorem oF_pv {F : Nat → Nat} {N : Nat} (hN : pv F 44 = N) (hb : N < 4096 ^ 44) (r : Nat) : pv (oF F N r) 44 = tV N r := by
  cases r with
  | zero => exact hN
  | succ r => exact pv_FO (tV_lt hb r).1
theorem oF_end (F : Nat → Nat) {N : Nat} (hb : N < 4096 ^ 44) : ai 44 (oF F N 5) = ai 44 (dg (tV N 3)) := ai_congr fun i _ => by
  show FO (tV N 4) i = _
  rw [(tV_lt hb 4).2 (by omega)]
  have h3 := (tV_three hb).2.2
  unfold FO
  by_cases h : i < 22
  · rw [if_pos h, dg_big h3 (i + 22) (by omega)]; omega
  · rw [if_neg h, dg_big h3 i (by omega)]
end Go.Proofs.YtacokkedomjgpaaGreatDoor

namespace Go.Proofs.YtacokkedomjgpaaGreatDoor

def SS (U : Nat) : Nat := U % (8 * 4096 ^ 21) + 19 * (U / (8 * 4096 ^ 21))
def hF (U j : Nat) : Nat := if j = 0 then dg U 0 + 19 * (dg U 21 / 8) else if j = 21 then dg U 21 % 8 else dg U j
theorem hF_upd (U : Nat) : ∀ i, updN (updN (dg U) 21 (dg U 21 % 8)) 0 (updN (dg U) 21 (dg U 21 % 8) 0 + 19 * (dg U 21 / 8)) i = hF U i := by
  intro i
  unfold updN hF
  by_cases h : i = 0
  · subst h; simp
  · rw [if_neg h, if_neg h]
theorem hF_lt (U i : Nat) : hF U i < 1099511627776 := by
  unfold hF
  have := dg_lt U 0; have := dg_lt U 21; have := dg_lt U i
  split
  · omega
  · split <;> omega
theorem pv_upd (F : Nat → Nat) (i v : Nat) : ∀ k, i < k → pv (updN F i v) k + F i * 4096 ^ i = pv F k + v * 4096 ^ i := by
  intro k
  induction k with
  | zero => intro h; omega
  | succ k ih =>
    intro h
    by_cases e : i = k
    · subst e
      have h1 : pv (updN F i v) i = pv F i := pv_congr i fun j hj => by unfold updN; rw [if_neg (by omega)]
      have h2 : updN F i v i = v := by simp [updN]
      rw [pv, pv, h1, h2]; omega
    · have h1 := ih (by omega)
      have h2 : updN F i v k = F k := by unfold updN; rw [if_neg (by omega)]
      rw [pv, pv, h2]; omega
theorem hF_arith {P S U y z d D over m8 : Nat} (h1 : P + z = y + (z + 19 * over)) (h2 : y + d * D = U + m8 * D) (h5 : S + 8 * D * over = U) (hd : m8 + 8 * over = d) : P = S + 19 * over := by
  have e : (m8 + 8 * over) * D = m8 * D + 8 * D * over := by rw [Nat.add_mul, Nat.mul_assoc, Nat.mul_assoc, Nat.mul_comm over]
  rw [← hd, e] at h2
  omega
theorem pv_hF {U : Nat} (h : U < 4096 ^ 22) : pv (hF U) 22 = SS U := by
  have h0 : pv (hF U) 22 = pv (updN (updN (dg U) 21 (dg U 21 % 8)) 0 (updN (dg U) 21 (dg U 21 % 8) 0 + 19 * (dg U 21 / 8))) 22 := pv_congr 22 fun i _ => (hF_upd U i).symm
  have h1 := pv_upd (updN (dg U) 21 (dg U 21 % 8)) 0 (updN (dg U) 21 (dg U 21 % 8) 0 + 19 * (dg U 21 / 8)) 22 (by omega)
  have h2 := pv_upd (dg U) 21 (dg U 21 % 8) 22 (by omega)
  rw [pv_dg, Nat.mod_eq_of_lt h] at h2
  rw [← h0, Nat.pow_zero, Nat.mul_one, Nat.mul_one] at h1
  have h3 : dg U 21 = U / 4096 ^ 21 := div_top h
  have h4 : dg U 21 / 8 = U / (8 * 4096 ^ 21) := by rw [h3, Nat.div_div_eq_div_mul, Nat.mul_comm]
  have h5 := Nat.mod_add_div U (8 * 4096 ^ 21)
  rw [← h4] at h5
  have h7 := hF_arith h1 h2 h5 (Nat.mod_add_div _ _)
  rw [h7, h4]; rfl

def seF (H : Nat → Nat) (k j : Nat) : Nat := if j < k then dg (pv H k) j else if j = k then H k + cr H k else H j
theorem seF_at (H : Nat → Nat) (k : Nat) : seF H k k = H k + cr H k := by unfold seF; rw [if_neg (by omega), if_pos rfl]
theorem seF_nx (H : Nat → Nat) (k : Nat) : seF H k (k + 1) = H (k + 1) := by unfold seF; rw [if_neg (by omega), if_neg (by omega)]
theorem seF_zero {G H : Nat → Nat} (h : ∀ i, G i = H i) : ai 44 G = ai 44 (seF H 0) := ai_congr fun i _ => by
  unfold seF; rw [if_neg (by omega), h]
  split
  · rename_i e; subst e; rw [cr_zero]; rfl
  · rfl
theorem seF_next {H : Nat → Nat} {k : Nat} : ai 44 (updN (updN (seF H k) (k + 1) (seF H k (k + 1) + seF H k k / 4096)) k (updN (seF H k) (k + 1) (seF H k (k + 1) + seF H k k / 4096) k % 4096)) = ai 44 (seF H (k + 1)) := ai_congr fun i _ => by
  have e0 : updN (seF H k) (k + 1) (seF H k (k + 1) + seF H k k / 4096) k = seF H k k := by unfold updN; rw [if_neg (by omega)]
  rw [e0, seF_nx, seF_at, cr_next, cr_dig]
  unfold updN
  by_cases e1 : i = k
  · subst e1; rw [if_pos rfl]; unfold seF; rw [if_pos (by omega)]
  · rw [if_neg e1]
    by_cases e2 : i = k + 1
    · subst e2; rw [if_pos rfl]; unfold seF; rw [if_neg (by omega), if_pos rfl]
    · rw [if_neg e2]; unfold seF
      by_cases h1 : i < k
      · rw [if_pos h1, if_pos (by omega), pv_low H h1]
      · rw [if_neg h1, if_neg e1, if_neg (show ¬ i < k + 1 by omega), if_neg e2]
theorem SS_lt {U : Nat} (h : U < 4096 ^ 22) : SS U < 8 * 4096 ^ 21 + 9728 := by
  have h1 : U % (8 * 4096 ^ 21) < 8 * 4096 ^ 21 := Nat.mod_lt _ (by have := p4 21; omega)
  have h2 : U / (8 * 4096 ^ 21) < 512 := by
    rw [Nat.div_lt_iff_lt_mul (by have := p4 21; omega)]
    rw [show 512 * (8 * 4096 ^ 21) = 4096 ^ 22 by decide +kernel]; exact h
  unfold SS; omega
theorem SS_big {U : Nat} (h : U < 4096 ^ 22) : SS U < 4096 ^ 22 := Nat.lt_trans (SS_lt h) (by decide +kernel)
theorem SS_mod (V : Nat) : SS V % pp = V % pp := by
  have h0 : (8 * 4096 ^ 21) % pp = 19 := by decide +kernel
  have h1 : V = V % (8 * 4096 ^ 21) + (8 * 4096 ^ 21) * (V / (8 * 4096 ^ 21)) := (Nat.mod_add_div _ _).symm
  have h2 : V % pp = (V % (8 * 4096 ^ 21) + (8 * 4096 ^ 21) * (V / (8 * 4096 ^ 21))) % pp := by rw [← h1]
  have h3 : 19 % pp = 19 := Nat.mod_eq_of_lt (by decide +kernel)
  unfold SS
  rw [h2, Nat.add_mod, Nat.mul_mod 19, Nat.add_mod (V % (8 * 4096 ^ 21)), Nat.mul_mod (8 * 4096 ^ 21), h0, h3]
def uV (U : Nat) : Nat → Nat
  | 0 => U
  | r + 1 => SS (uV U r)
theorem uV_lt {U : Nat} (h : U < 4096 ^ 22) : ∀ r, uV U r < 4096 ^ 22 := by
  intro r
  induction r with
  | zero => exact h
  | succ r ih => exact SS_big ih
theorem seF_end {U : Nat} (h : U < 4096 ^ 22) : ai 44 (seF (hF U) 21) = ai 44 (dg (SS U)) := ai_congr fun i _ => by
  have hp := pv_hF h
  have hb := SS_big h
  unfold seF
  by_cases h1 : i < 21
  · rw [if_pos h1, ← hp, pv_low _ h1]
  · rw [if_neg h1]
    by_cases h2 : i = 21
    · subst h2; rw [if_pos rfl, cr_sum, hp, div_top hb]
    · rw [if_neg h2, dg_big hb i (by omega)]
      unfold hF
      rw [if_neg (by omega), if_neg h2, dg_big h i (by omega)]
def cpF (V k j : Nat) : Nat := if j < k then dg V j else 0
theorem cpF_zero (V : Nat) : ai 22 (fun _ => 0) = ai 22 (cpF V 0) := ai_congr fun i _ => by simp [cpF]
theorem cpF_next (V k : Nat) : ai 22 (updN (cpF V k) k (dg V k)) = ai 22 (cpF V (k + 1)) := ai_congr fun i _ => by
  unfold updN cpF
  by_cases e : i = k
  · subst e; simp
  · have : (i < k + 1) = (i < k) := by simp; omega
    simp [e, this]
theorem cpF_end (V : Nat) : ai 22 (cpF V 22) = ai 22 (dg (V - 0 * pp)) := ai_congr fun i hi => by simp [cpF, hi]
theorem q_lt {V k : Nat} (h : k < V / pp) : pp ≤ V - k * pp := by
  have h1 : (k + 1) * pp ≤ V / pp * pp := Nat.mul_le_mul_right _ h
  have h2 : V / pp * pp ≤ V := Nat.div_mul_le_self V pp
  rw [Nat.add_mul, Nat.one_mul] at h1
  omega
theorem q_end (V : Nat) : V - V / pp * pp = V % pp := by
  have := Nat.mod_add_div V pp
  rw [Nat.mul_comm] at this; omega
theorem q_next (V k : Nat) : V - k * pp - pp = V - (k + 1) * pp := by rw [Nat.add_mul, Nat.one_mul]; omega
theorem sub_big {V k : Nat} (h : V < 4096 ^ 22) : V - k * pp < 4096 ^ 22 := Nat.lt_of_le_of_lt (Nat.sub_le _ _) h
theorem pp_big : pp < 4096 ^ 22 := by decide +kernel
end Go.Proofs.YtacokkedomjgpaaGreatDoor

namespace Go.Proofs.YtacokkedomjgpaaGreatDoor
open Go.RowKit
theorem below_b {m n : Nat} {b : Bool} (hm : m < 4096 ^ 22) (hn : n < 4096 ^ 22) (h : decide (m < n) = b) (w : World) : Calls Tryz.prog 96 #[.agg (ai 22 (dg m)), .agg (ai 22 (dg n))] w fun e w' => e = .returned (.bool b) ∧ Below w.heap.size w w' := by
  rw [← h]; exact below_r hm hn w
set_option maxHeartbeats 8000000 in
theorem least_r {F : Nat → Nat} {N : Nat} (hFl : ∀ i, F i < 1099511627776) (hN : pv F 44 = N) (hb : N < 4096 ^ 44) (W0 : World) : Calls Tryz.prog 71 #[.agg (ai 44 F)] W0 fun e w' => e = .returned (.agg (ai 22 (dg (N % pp)))) ∧ Below W0.heap.size W0 w' := by
  obtain ⟨U, HU⟩ : ∃ U, Hid (U = tV N 3) := ⟨_, hide1 rfl⟩
  have hU : U < 4096 ^ 22 := by rw [HU.out]; exact (tV_three hb).2.2
  obtain ⟨V, HV⟩ : ∃ V, Hid (uV U 2 = V) := ⟨_, hide1 rfl⟩
  have hV : V < 4096 ^ 22 := by rw [← HV.out]; exact uV_lt hU 2
  have hend : N % pp = V - V / pp * pp := by
    rw [q_end, ← HV.out]; show _ = SS (SS U) % pp
    rw [SS_mod, SS_mod, HU.out, tV_mod]
  rw [hend]
  have oF_end' := oF_end F hb
  rw [← HU.out] at oF_end'
  refine s_in Tryz.func71 Tryz.ntmps71 rfl [.inl (.agg (ai 44 F))] ?_
  intro β a h
  refine sym_seq ?_
  refine St.rg h [(1, .inr (0, pt 0)), (2, .inr (1, pt 0))] [(ai 44 F, 106), (ai 22 (fun _ => 0), 36)] [] [eN 0, eN 1] ?_ ?_
  · exact oc (k_bx 0 (.agg (ai 44 F)) (bx44 (F := F)) rfl rfl) <|
    oc (k_al 1 al22 rfl rfl) <|
    ok_nil
  clear h; intro β a w h
  refine sym_then ?_
  refine sym_seq ?_
  refine sym_seq ?_
  refine St.r0 h [(3, .inl (.int .i64 (0 : Nat)))] [] ?_ ?_
  · exact oz (k_mv (.inr rfl) rfl) <|
    ok_nil
  clear h; intro β a w h
  refine sym_then ?_
  refine blk_in ?_
  replace h := St.sm h 0 (ai 44 (oF F N 0)) (c := ai 44 F) (t := 106) rfl
  replace h := St.cs h (s' := [.inl (.agg (ai 44 F)), .inr (0, pt 0), .inr (1, pt 0), .inl (.int .i64 (0 : Nat)), uu, uu, uu, uu, uu, uu, uu, uu, uu, uu, uu, uu, uu, uu, uu, uu, uu, uu, uu, uu, uu, uu, uu, uu, uu, uu, uu, uu, uu, uu, uu, uu, uu, uu, uu, uu, uu, uu, uu, uu, uu, uu, uu, uu, uu, uu, uu, uu, uu, uu, uu, uu, uu, uu, uu, uu, uu, uu, uu, uu, uu, uu, uu, uu, uu, uu, uu, uu, uu, uu, uu, uu, uu, uu, uu, uu, uu, uu, uu, uu, uu, uu, uu, uu, uu, uu, uu, uu, uu, uu, uu, uu, uu, uu, uu, uu, uu, uu, uu, uu, uu, uu]) (m' := [(ai 44 (oF F N 0), 106), (ai 22 (fun _ => 0), 36)]) (by kernel_rfl) (by kernel_rfl)
  refine loop_up 5 (fun r a w => ∃ (x4 x5 x6 x7 x13 x14 x15 x16 x17 x18 x19 x20 x21 x22 x23 x24 x25 x26 x27 x28 x29 x30 x31 x32 x33 x34 x35 x36 x37 x38 x39 x40 x41 x42 x43 x44 x45 x46 x47 x48 x49 : SV) (β : Nat → Nat), St (wd W0) [.inl (.agg (ai 44 F)), .inr (0, pt 0), .inr (1, pt 0), .inl (.int .i64 (r : Nat)), x4, x5, x6, x7, uu, uu, uu, uu, uu, x13, x14, x15, x16, x17, x18, x19, x20, x21, x22, x23, x24, x25, x26, x27, x28, x29, x30, x31, x32, x33, x34, x35, x36, x37, x38, x39, x40, x41, x42, x43, x44, x45, x46, x47, x48, x49, uu, uu, uu, uu, uu, uu, uu, uu, uu, uu, uu, uu, uu, uu, uu, uu, uu, uu, uu, uu, uu, uu, uu, uu, uu, uu, uu, uu, uu, uu, uu, uu, uu, uu, uu, uu, uu, uu, uu, uu, uu, uu, uu, uu, uu, uu, uu, uu, uu, uu, uu, uu, uu, uu, uu, uu] [(ai 44 (oF F N r), 106), (ai 22 (fun _ => 0), 36)] β a w) ⟨_, _, _, _, _, _, _, _, _, _, _, _, _, _, _, _, _, _, _, _, _, _, _, _, _, _, _, _, _, _, _, _, _, _, _, _, _, _, _, _, _, β, h⟩ ?_
  clear h; rintro r a w hkr ⟨x4, x5, x6, x7, x13, x14, x15, x16, x17, x18, x19, x20, x21, x22, x23, x24, x25, x26, x27, x28, x29, x30, x31, x32, x33, x34, x35, x36, x37, x38, x39, x40, x41, x42, x43, x44, x45, x46, x47, x48, x49, β, h⟩; replace h := h.o0
  rcases Nat.lt_or_ge r 5 with hltr | hger
  · refine sym_seq ?_
    refine sym_seq ?_
    refine St.r0 h [(13, .inl (.int .i64 (r : Nat))), (14, .inl (.bool true))] [] ?_ ?_
    · exact oz (k_mv (.inl rfl) rfl) <|
      oz (k_bi (.int .i64 (r : Nat)) (.int .i64 (5 : Nat)) (.bool true) (lt_i (m := ((r : Nat) : Int)) (n := ((5 : Nat) : Int)) (decide_eq_true (by omega))) rfl rfl) <|
      ok_nil
    clear h; intro β a w h
    refine sym_then ?_
    refine s_ct h ?_
    refine wp_skip ?_
    refine sym_then ?_
    refine sym_seq ?_
    refine blk_in ?_
    refine sym_seq ?_
    refine St.r0 h [(4, .inl (.int .i64 (0 : Nat)))] [] ?_ ?_
    · exact oz (k_mv (.inr rfl) rfl) <|
      ok_nil
    clear h; intro β a w h
    refine sym_then ?_
    refine sym_seq ?_
    refine sym_seq ?_
    refine St.r0 h [(5, .inl (.int .i64 (0 : Nat)))] [] ?_ ?_
    · exact oz (k_mv (.inr rfl) rfl) <|
      ok_nil
    clear h; intro β a w h
    refine sym_then ?_
    refine blk_in ?_
    replace h := St.sm h 0 (ai 44 (cyF (oF F N r) 0)) (c := ai 44 (oF F N r)) (t := 106) (cyF_zero _)
    replace h := St.ss h 4 (.int .i64 ((cr (oF F N r) 0) : Nat)) (v := .int .i64 (0 : Nat)) (ic (cr_zero _).symm)
    replace h := St.cs h (s' := [.inl (.agg (ai 44 F)), .inr (0, pt 0), .inr (1, pt 0), .inl (.int .i64 (r : Nat)), .inl (.int .i64 ((cr (oF F N r) 0) : Nat)), .inl (.int .i64 (0 : Nat)), x6, x7, uu, uu, uu, uu, uu, .inl (.int .i64 (r : Nat)), .inl (.bool true), x15, x16, x17, x18, x19, x20, x21, x22, x23, x24, x25, x26, x27, x28, x29, x30, x31, x32, x33, x34, x35, x36, x37, x38, x39, x40, x41, x42, x43, x44, x45, x46, x47, x48, x49, uu, uu, uu, uu, uu, uu, uu, uu, uu, uu, uu, uu, uu, uu, uu, uu, uu, uu, uu, uu, uu, uu, uu, uu, uu, uu, uu, uu, uu, uu, uu, uu, uu, uu, uu, uu, uu, uu, uu, uu, uu, uu, uu, uu, uu, uu, uu, uu, uu, uu, uu, uu, uu, uu, uu, uu]) (m' := [(ai 44 (cyF (oF F N r) 0), 106), (ai 22 (fun _ => 0), 36)]) (by kernel_rfl) (by kernel_rfl)
    refine loop_up 44 (fun c a w => ∃ (x6 x17 x18 x19 x20 x21 x22 x23 x24 x25 x26 x27 x28 x29 x30 x31 : SV) (β : Nat → Nat), St (wd W0) [.inl (.agg (ai 44 F)), .inr (0, pt 0), .inr (1, pt 0), .inl (.int .i64 (r : Nat)), .inl (.int .i64 ((cr (oF F N r) c) : Nat)), .inl (.int .i64 (c : Nat)), x6, x7, uu, uu, uu, uu, uu, .inl (.int .i64 (r : Nat)), .inl (.bool true), x15, x16, x17, x18, x19, x20, x21, x22, x23, x24, x25, x26, x27, x28, x29, x30, x31, x32, x33, x34, x35, x36, x37, x38, x39, x40, x41, x42, x43, x44, x45, x46, x47, x48, x49, uu, uu, uu, uu, uu, uu, uu, uu, uu, uu, uu, uu, uu, uu, uu, uu, uu, uu, uu, uu, uu, uu, uu, uu, uu, uu, uu, uu, uu, uu, uu, uu, uu, uu, uu, uu, uu, uu, uu, uu, uu, uu, uu, uu, uu, uu, uu, uu, uu, uu, uu, uu, uu, uu, uu, uu] [(ai 44 (cyF (oF F N r) c), 106), (ai 22 (fun _ => 0), 36)] β a w) ⟨_, _, _, _, _, _, _, _, _, _, _, _, _, _, _, _, β, h⟩ ?_
    clear h; rintro c a w hkc ⟨x6, x17, x18, x19, x20, x21, x22, x23, x24, x25, x26, x27, x28, x29, x30, x31, β, h⟩; replace h := h.o0
    have g1 := oF_lt hFl N r c
    have g2 := cr_lt (oF_lt hFl N r) c
    have g3 := cyF_at (oF F N r) c
    rcases Nat.lt_or_ge c 44 with hltc | hgec
    · refine sym_seq ?_
      refine sym_seq ?_
      refine St.r0 h [(17, .inl (.int .i64 (c : Nat))), (18, .inl (.bool true))] [] ?_ ?_
      · exact oz (k_mv (.inl rfl) rfl) <|
        oz (k_bi (.int .i64 (c : Nat)) (.int .i64 (44 : Nat)) (.bool true) (lt_i (m := ((c : Nat) : Int)) (n := ((44 : Nat) : Int)) (decide_eq_true (by omega))) rfl rfl) <|
        ok_nil
      clear h; intro β a w h
      refine sym_then ?_
      refine s_ct h ?_
      refine wp_skip ?_
      refine sym_then ?_
      refine sym_seq ?_
      refine blk_in ?_
      refine sym_seq ?_
      refine St.r0 h [(21, .inl (.int .i64 (c : Nat))), (22, .inr (0, pt c)), (23, .inl (.int .i64 (((cyF (oF F N r) c) c) : Nat))), (24, .inl (.int .i64 ((cr (oF F N r) c) : Nat))), (25, .inl (.int .i64 ((((cyF (oF F N r) c) c) + (cr (oF F N r) c)) : Nat))), (6, .inl (.int .i64 ((((cyF (oF F N r) c) c) + (cr (oF F N r) c)) : Nat)))] [nn, nn, eR 0] ?_ ?_
      · exact oc (k_mv (.inl rfl) rfl) <|
        oc (k_ia 0 0 c (.int .i64 (c : Nat)) (ix44 (i := c) (by omega)) rfl rfl) <|
        oc (k_ld 0 c (.int .i64 (((cyF (oF F N r) c) c) : Nat)) (c := ai 44 (cyF (oF F N r) c)) (ld_at (n := 44) (F := (cyF (oF F N r) c)) (i := c) (t0 := 106) (by omega)) rfl rfl) <|
        oz (k_mv (.inl rfl) rfl) <|
        oz (k_bi (.int .i64 (((cyF (oF F N r) c) c) : Nat)) (.int .i64 ((cr (oF F N r) c) : Nat)) (.int .i64 ((((cyF (oF F N r) c) c) + (cr (oF F N r) c)) : Nat)) (ad_i (m := ((cyF (oF F N r) c) c)) (n := (cr (oF F N r) c)) (by omega)) rfl rfl) <|
        oz (k_mv (.inr rfl) rfl) <|
        ok_nil
      clear h; intro β a w h
      refine sym_then ?_
      refine sym_seq ?_
      refine St.rg h [(26, .inl (.int .i64 (c : Nat))), (27, .inl (.int .i64 ((((cyF (oF F N r) c) c) + (cr (oF F N r) c)) : Nat))), (28, .inl (.int .i64 (((((cyF (oF F N r) c) c) + (cr (oF F N r) c)) % 4096) : Nat))), (29, .inr (0, pt c))] [] [(0, ai 44 (updN (cyF (oF F N r) c) c ((((cyF (oF F N r) c) c) + (cr (oF F N r) c)) % 4096)))] [nn, nn, nn, nn, eS 0] ?_ ?_
      · exact oc (k_mv (.inl rfl) rfl) <|
        oc (k_mv (.inl rfl) rfl) <|
        oc (k_bi (.int .i64 ((((cyF (oF F N r) c) c) + (cr (oF F N r) c)) : Nat)) (.int .i64 (4096 : Nat)) (.int .i64 (((((cyF (oF F N r) c) c) + (cr (oF F N r) c)) % 4096) : Nat)) (re_i (m := (((cyF (oF F N r) c) c) + (cr (oF F N r) c))) (n := 4096) (by decide)) rfl rfl) <|
        oc (k_ia 0 0 c (.int .i64 (c : Nat)) (ix44 (i := c) (by omega)) rfl rfl) <|
        oc (k_st 0 c (.int .i64 (((((cyF (oF F N r) c) c) + (cr (oF F N r) c)) % 4096) : Nat)) (c := ai 44 (cyF (oF F N r) c)) (n := ai 44 (updN (cyF (oF F N r) c) c ((((cyF (oF F N r) c) c) + (cr (oF F N r) c)) % 4096))) (st_at (n := 44) (F := (cyF (oF F N r) c)) (i := c) (v := ((((cyF (oF F N r) c) c) + (cr (oF F N r) c)) % 4096)) (t0 := 106) (by omega)) rfl rfl) <|
        ok_nil
      clear h; intro β a w h
      refine sym_then ?_
      refine St.r0 h [(30, .inl (.int .i64 ((((cyF (oF F N r) c) c) + (cr (oF F N r) c)) : Nat))), (31, .inl (.int .i64 (((((cyF (oF F N r) c) c) + (cr (oF F N r) c)) / 4096) : Nat))), (4, .inl (.int .i64 (((((cyF (oF F N r) c) c) + (cr (oF F N r) c)) / 4096) : Nat)))] [] ?_ ?_
      · exact oz (k_mv (.inl rfl) rfl) <|
        oz (k_bi (.int .i64 ((((cyF (oF F N r) c) c) + (cr (oF F N r) c)) : Nat)) (.int .i64 (4096 : Nat)) (.int .i64 (((((cyF (oF F N r) c) c) + (cr (oF F N r) c)) / 4096) : Nat)) (qu_i (m := (((cyF (oF F N r) c) c) + (cr (oF F N r) c))) (n := 4096) (by decide) (by omega)) rfl rfl) <|
        oz (k_mv (.inr rfl) rfl) <|
        ok_nil
      clear h; intro β a w h
      refine blk_norm ?_
      refine sym_then ?_
      refine St.r0 h [(19, .inl (.int .i64 (c : Nat))), (20, .inl (.int .i64 ((c + 1) : Nat))), (5, .inl (.int .i64 ((c + 1) : Nat)))] [eO] ?_ ?_
      · exact oc (k_m0 rfl rfl) <|
        oz (k_bi (.int .i64 (c : Nat)) (.int .i64 (1 : Nat)) (.int .i64 ((c + 1) : Nat)) (ad_i (m := c) (n := 1) (by omega)) rfl rfl) <|
        oz (k_mv (.inr rfl) rfl) <|
        ok_nil
      clear h; intro β a w h
      replace h := St.sm h 0 (ai 44 (cyF (oF F N r) (c + 1))) (c := ai 44 (updN (cyF (oF F N r) c) c ((((cyF (oF F N r) c) c) + (cr (oF F N r) c)) % 4096))) (t := 106) (cyF_next _ _)
      replace h := St.ss h 4 (.int .i64 ((cr (oF F N r) (c + 1)) : Nat)) (v := .int .i64 (((((cyF (oF F N r) c) c) + (cr (oF F N r) c)) / 4096) : Nat)) (ic (by rw [cyF_at]; exact cr_next _ _))
      replace h := St.cs h (s' := [.inl (.agg (ai 44 F)), .inr (0, pt 0), .inr (1, pt 0), .inl (.int .i64 (r : Nat)), .inl (.int .i64 ((cr (oF F N r) (c + 1)) : Nat)), .inl (.int .i64 ((c + 1) : Nat)), .inl (.int .i64 ((((cyF (oF F N r) c) c) + (cr (oF F N r) c)) : Nat)), x7, uu, uu, uu, uu, uu, .inl (.int .i64 (r : Nat)), .inl (.bool true), x15, x16, .inl (.int .i64 (c : Nat)), .inl (.bool true), .inl (.int .i64 (c : Nat)), .inl (.int .i64 ((c + 1) : Nat)), .inl (.int .i64 (c : Nat)), .inr (0, pt c), .inl (.int .i64 (((cyF (oF F N r) c) c) : Nat)), .inl (.int .i64 ((cr (oF F N r) c) : Nat)), .inl (.int .i64 ((((cyF (oF F N r) c) c) + (cr (oF F N r) c)) : Nat)), .inl (.int .i64 (c : Nat)), .inl (.int .i64 ((((cyF (oF F N r) c) c) + (cr (oF F N r) c)) : Nat)), .inl (.int .i64 (((((cyF (oF F N r) c) c) + (cr (oF F N r) c)) % 4096) : Nat)), .inr (0, pt c), .inl (.int .i64 ((((cyF (oF F N r) c) c) + (cr (oF F N r) c)) : Nat)), .inl (.int .i64 (((((cyF (oF F N r) c) c) + (cr (oF F N r) c)) / 4096) : Nat)), x32, x33, x34, x35, x36, x37, x38, x39, x40, x41, x42, x43, x44, x45, x46, x47, x48, x49, uu, uu, uu, uu, uu, uu, uu, uu, uu, uu, uu, uu, uu, uu, uu, uu, uu, uu, uu, uu, uu, uu, uu, uu, uu, uu, uu, uu, uu, uu, uu, uu, uu, uu, uu, uu, uu, uu, uu, uu, uu, uu, uu, uu, uu, uu, uu, uu, uu, uu, uu, uu, uu, uu, uu, uu]) (m' := [(ai 44 (cyF (oF F N r) (c + 1)), 106), (ai 22 (fun _ => 0), 36)]) (by kernel_rfl) (by kernel_rfl)
      exact ⟨hltc, _, _, _, _, _, _, _, _, _, _, _, _, _, _, _, _, _, h⟩
    · obtain rfl : c = 44 := by omega
      refine sym_seq ?_
      refine sym_seq ?_
      refine St.r0 h [(17, .inl (.int .i64 (44 : Nat))), (18, .inl (.bool false))] [] ?_ ?_
      · exact oz (k_mv (.inl rfl) rfl) <|
        oz (k_bi (.int .i64 (44 : Nat)) (.int .i64 (44 : Nat)) (.bool false) (lt_i (m := ((44 : Nat) : Int)) (n := ((44 : Nat) : Int)) (decide_eq_false (by omega))) rfl rfl) <|
        ok_nil
      clear h; intro β a w h
      refine sym_then ?_
      refine s_cf h ?_
      refine wp_exit ?_
      refine then_exit ?_
      refine then_exit ?_
      refine blk_exit ?_
      refine sym_then ?_
      refine sym_seq ?_
      refine St.r0 h [(7, .inl (.int .i64 (0 : Nat)))] [] ?_ ?_
      · exact oz (k_mv (.inr rfl) rfl) <|
        ok_nil
      clear h; intro β a w h
      refine sym_then ?_
      refine blk_in ?_
      replace h := St.sm h 0 (ai 44 (foF (tV N r) 0)) (c := ai 44 (cyF (oF F N r) 44)) (t := 106) ((cyF_end (oF_pv hN hb r)).trans (foF_zero _))
      replace h := St.cs h (s' := [.inl (.agg (ai 44 F)), .inr (0, pt 0), .inr (1, pt 0), .inl (.int .i64 (r : Nat)), .inl (.int .i64 ((cr (oF F N r) 44) : Nat)), .inl (.int .i64 (44 : Nat)), x6, .inl (.int .i64 (0 : Nat)), uu, uu, uu, uu, uu, .inl (.int .i64 (r : Nat)), .inl (.bool true), x15, x16, .inl (.int .i64 (44 : Nat)), .inl (.bool false), x19, x20, x21, x22, x23, x24, x25, x26, x27, x28, x29, x30, x31, x32, x33, x34, x35, x36, x37, x38, x39, x40, x41, x42, x43, x44, x45, x46, x47, x48, x49, uu, uu, uu, uu, uu, uu, uu, uu, uu, uu, uu, uu, uu, uu, uu, uu, uu, uu, uu, uu, uu, uu, uu, uu, uu, uu, uu, uu, uu, uu, uu, uu, uu, uu, uu, uu, uu, uu, uu, uu, uu, uu, uu, uu, uu, uu, uu, uu, uu, uu, uu, uu, uu, uu, uu, uu]) (m' := [(ai 44 (foF (tV N r) 0), 106), (ai 22 (fun _ => 0), 36)]) (by kernel_rfl) (by kernel_rfl)
      refine loop_up 22 (fun f a w => ∃ (x32 x33 x34 x35 x36 x37 x38 x39 x40 x41 x42 x43 x44 x45 x46 x47 x48 x49 : SV) (β : Nat → Nat), St (wd W0) [.inl (.agg (ai 44 F)), .inr (0, pt 0), .inr (1, pt 0), .inl (.int .i64 (r : Nat)), .inl (.int .i64 ((cr (oF F N r) 44) : Nat)), .inl (.int .i64 (44 : Nat)), x6, .inl (.int .i64 (f : Nat)), uu, uu, uu, uu, uu, .inl (.int .i64 (r : Nat)), .inl (.bool true), x15, x16, .inl (.int .i64 (44 : Nat)), .inl (.bool false), x19, x20, x21, x22, x23, x24, x25, x26, x27, x28, x29, x30, x31, x32, x33, x34, x35, x36, x37, x38, x39, x40, x41, x42, x43, x44, x45, x46, x47, x48, x49, uu, uu, uu, uu, uu, uu, uu, uu, uu, uu, uu, uu, uu, uu, uu, uu, uu, uu, uu, uu, uu, uu, uu, uu, uu, uu, uu, uu, uu, uu, uu, uu, uu, uu, uu, uu, uu, uu, uu, uu, uu, uu, uu, uu, uu, uu, uu, uu, uu, uu, uu, uu, uu, uu, uu, uu] [(ai 44 (foF (tV N r) f), 106), (ai 22 (fun _ => 0), 36)] β a w) ⟨_, _, _, _, _, _, _, _, _, _, _, _, _, _, _, _, _, _, β, h⟩ ?_
      clear h; rintro f a w hkf ⟨x32, x33, x34, x35, x36, x37, x38, x39, x40, x41, x42, x43, x44, x45, x46, x47, x48, x49, β, h⟩; replace h := h.o0
      have g1 := dg_lt (tV N r) f
      have g2 := dg_lt (tV N r) (f + 22)
      have g3 := fun h : f < 22 => foF_a (V := tV N r) h
      have g4 := foF_b (tV N r) f
      rcases Nat.lt_or_ge f 22 with hltf | hgef
      · refine sym_seq ?_
        refine sym_seq ?_
        refine St.r0 h [(32, .inl (.int .i64 (f : Nat))), (33, .inl (.bool true))] [] ?_ ?_
        · exact oz (k_mv (.inl rfl) rfl) <|
          oz (k_bi (.int .i64 (f : Nat)) (.int .i64 (22 : Nat)) (.bool true) (lt_i (m := ((f : Nat) : Int)) (n := ((22 : Nat) : Int)) (decide_eq_true (by omega))) rfl rfl) <|
          ok_nil
        clear h; intro β a w h
        refine sym_then ?_
        refine s_ct h ?_
        refine wp_skip ?_
        refine sym_then ?_
        refine sym_seq ?_
        refine blk_in ?_
        refine sym_seq ?_
        refine St.rg h [(36, .inl (.int .i64 (f : Nat))), (37, .inl (.int .i64 (f : Nat))), (38, .inr (0, pt f)), (39, .inl (.int .i64 (((foF (tV N r) f) f) : Nat))), (40, .inl (.int .i64 (f : Nat))), (41, .inl (.int .i64 ((f + 22) : Nat))), (42, .inr (0, pt (f + 22))), (43, .inl (.int .i64 (((foF (tV N r) f) (f + 22)) : Nat))), (44, .inl (.int .i64 ((9728 * ((foF (tV N r) f) (f + 22))) : Nat))), (45, .inl (.int .i64 ((((foF (tV N r) f) f) + (9728 * ((foF (tV N r) f) (f + 22)))) : Nat))), (46, .inr (0, pt f))] [] [(0, ai 44 (updN (foF (tV N r) f) f (((foF (tV N r) f) f) + (9728 * ((foF (tV N r) f) (f + 22))))))] [nn, nn, nn, eR 0, nn, nn, nn, eR 0, nn, nn, nn, eS 0] ?_ ?_
        · exact oc (k_mv (.inl rfl) rfl) <|
          oc (k_mv (.inl rfl) rfl) <|
          oc (k_ia 0 0 f (.int .i64 (f : Nat)) (ix44 (i := f) (by omega)) rfl rfl) <|
          oc (k_ld 0 f (.int .i64 (((foF (tV N r) f) f) : Nat)) (c := ai 44 (foF (tV N r) f)) (ld_at (n := 44) (F := (foF (tV N r) f)) (i := f) (t0 := 106) (by omega)) rfl rfl) <|
          oc (k_mv (.inl rfl) rfl) <|
          oc (k_bi (.int .i64 (f : Nat)) (.int .i64 (22 : Nat)) (.int .i64 ((f + 22) : Nat)) (ad_i (m := f) (n := 22) (by omega)) rfl rfl) <|
          oc (k_ia 0 0 ((f + 22)) (.int .i64 ((f + 22) : Nat)) (ix44 (i := (f + 22)) (by omega)) rfl rfl) <|
          oc (k_ld 0 ((f + 22)) (.int .i64 (((foF (tV N r) f) (f + 22)) : Nat)) (c := ai 44 (foF (tV N r) f)) (ld_at (n := 44) (F := (foF (tV N r) f)) (i := (f + 22)) (t0 := 106) (by omega)) rfl rfl) <|
          oc (k_bi (.int .i64 (9728 : Nat)) (.int .i64 (((foF (tV N r) f) (f + 22)) : Nat)) (.int .i64 ((9728 * ((foF (tV N r) f) (f + 22))) : Nat)) (mu_i (m := 9728) (n := ((foF (tV N r) f) (f + 22))) (by omega)) rfl rfl) <|
          oc (k_bi (.int .i64 (((foF (tV N r) f) f) : Nat)) (.int .i64 ((9728 * ((foF (tV N r) f) (f + 22))) : Nat)) (.int .i64 ((((foF (tV N r) f) f) + (9728 * ((foF (tV N r) f) (f + 22)))) : Nat)) (ad_i (m := ((foF (tV N r) f) f)) (n := (9728 * ((foF (tV N r) f) (f + 22)))) (by omega)) rfl rfl) <|
          oc (k_ia 0 0 f (.int .i64 (f : Nat)) (ix44 (i := f) (by omega)) rfl rfl) <|
          oc (k_st 0 f (.int .i64 ((((foF (tV N r) f) f) + (9728 * ((foF (tV N r) f) (f + 22)))) : Nat)) (c := ai 44 (foF (tV N r) f)) (n := ai 44 (updN (foF (tV N r) f) f (((foF (tV N r) f) f) + (9728 * ((foF (tV N r) f) (f + 22)))))) (st_at (n := 44) (F := (foF (tV N r) f)) (i := f) (v := (((foF (tV N r) f) f) + (9728 * ((foF (tV N r) f) (f + 22))))) (t0 := 106) (by omega)) rfl rfl) <|
          ok_nil
        clear h; intro β a w h
        refine sym_then ?_
        refine St.rg h [(47, .inl (.int .i64 (f : Nat))), (48, .inl (.int .i64 ((f + 22) : Nat))), (49, .inr (0, pt (f + 22)))] [] [(0, ai 44 (updN (updN (foF (tV N r) f) f (((foF (tV N r) f) f) + (9728 * ((foF (tV N r) f) (f + 22))))) (f + 22) 0))] [nn, nn, nn, eS 0] ?_ ?_
        · exact oc (k_mv (.inl rfl) rfl) <|
          oc (k_bi (.int .i64 (f : Nat)) (.int .i64 (22 : Nat)) (.int .i64 ((f + 22) : Nat)) (ad_i (m := f) (n := 22) (by omega)) rfl rfl) <|
          oc (k_ia 0 0 ((f + 22)) (.int .i64 ((f + 22) : Nat)) (ix44 (i := (f + 22)) (by omega)) rfl rfl) <|
          oc (k_st 0 ((f + 22)) (.int .i64 (0 : Nat)) (c := ai 44 (updN (foF (tV N r) f) f (((foF (tV N r) f) f) + (9728 * ((foF (tV N r) f) (f + 22)))))) (n := ai 44 (updN (updN (foF (tV N r) f) f (((foF (tV N r) f) f) + (9728 * ((foF (tV N r) f) (f + 22))))) (f + 22) 0)) (st_at (n := 44) (F := (updN (foF (tV N r) f) f (((foF (tV N r) f) f) + (9728 * ((foF (tV N r) f) (f + 22)))))) (i := (f + 22)) (v := 0) (t0 := 106) (by omega)) rfl rfl) <|
          ok_nil
        clear h; intro β a w h
        refine blk_norm ?_
        refine sym_then ?_
        refine St.r0 h [(34, .inl (.int .i64 (f : Nat))), (35, .inl (.int .i64 ((f + 1) : Nat))), (7, .inl (.int .i64 ((f + 1) : Nat)))] [eO] ?_ ?_
        · exact oc (k_m0 rfl rfl) <|
          oz (k_bi (.int .i64 (f : Nat)) (.int .i64 (1 : Nat)) (.int .i64 ((f + 1) : Nat)) (ad_i (m := f) (n := 1) (by omega)) rfl rfl) <|
          oz (k_mv (.inr rfl) rfl) <|
          ok_nil
        clear h; intro β a w h
        replace h := St.sm h 0 (ai 44 (foF (tV N r) (f + 1))) (c := ai 44 (updN (updN (foF (tV N r) f) f (((foF (tV N r) f) f) + (9728 * ((foF (tV N r) f) (f + 22))))) (f + 22) 0)) (t := 106) (foF_next hltf)
        replace h := St.cs h (s' := [.inl (.agg (ai 44 F)), .inr (0, pt 0), .inr (1, pt 0), .inl (.int .i64 (r : Nat)), .inl (.int .i64 ((cr (oF F N r) 44) : Nat)), .inl (.int .i64 (44 : Nat)), x6, .inl (.int .i64 ((f + 1) : Nat)), uu, uu, uu, uu, uu, .inl (.int .i64 (r : Nat)), .inl (.bool true), x15, x16, .inl (.int .i64 (44 : Nat)), .inl (.bool false), x19, x20, x21, x22, x23, x24, x25, x26, x27, x28, x29, x30, x31, .inl (.int .i64 (f : Nat)), .inl (.bool true), .inl (.int .i64 (f : Nat)), .inl (.int .i64 ((f + 1) : Nat)), .inl (.int .i64 (f : Nat)), .inl (.int .i64 (f : Nat)), .inr (0, pt f), .inl (.int .i64 (((foF (tV N r) f) f) : Nat)), .inl (.int .i64 (f : Nat)), .inl (.int .i64 ((f + 22) : Nat)), .inr (0, pt (f + 22)), .inl (.int .i64 (((foF (tV N r) f) (f + 22)) : Nat)), .inl (.int .i64 ((9728 * ((foF (tV N r) f) (f + 22))) : Nat)), .inl (.int .i64 ((((foF (tV N r) f) f) + (9728 * ((foF (tV N r) f) (f + 22)))) : Nat)), .inr (0, pt f), .inl (.int .i64 (f : Nat)), .inl (.int .i64 ((f + 22) : Nat)), .inr (0, pt (f + 22)), uu, uu, uu, uu, uu, uu, uu, uu, uu, uu, uu, uu, uu, uu, uu, uu, uu, uu, uu, uu, uu, uu, uu, uu, uu, uu, uu, uu, uu, uu, uu, uu, uu, uu, uu, uu, uu, uu, uu, uu, uu, uu, uu, uu, uu, uu, uu, uu, uu, uu, uu, uu, uu, uu, uu, uu]) (m' := [(ai 44 (foF (tV N r) (f + 1)), 106), (ai 22 (fun _ => 0), 36)]) (by kernel_rfl) (by kernel_rfl)
        exact ⟨hltf, _, _, _, _, _, _, _, _, _, _, _, _, _, _, _, _, _, _, _, h⟩
      · obtain rfl : f = 22 := by omega
        refine sym_seq ?_
        refine sym_seq ?_
        refine St.r0 h [(32, .inl (.int .i64 (22 : Nat))), (33, .inl (.bool false))] [] ?_ ?_
        · exact oz (k_mv (.inl rfl) rfl) <|
          oz (k_bi (.int .i64 (22 : Nat)) (.int .i64 (22 : Nat)) (.bool false) (lt_i (m := ((22 : Nat) : Int)) (n := ((22 : Nat) : Int)) (decide_eq_false (by omega))) rfl rfl) <|
          ok_nil
        clear h; intro β a w h
        refine sym_then ?_
        refine s_cf h ?_
        refine wp_exit ?_
        refine then_exit ?_
        refine then_exit ?_
        refine blk_exit ?_
        refine blk_norm ?_
        refine sym_then ?_
        refine St.r0 h [(15, .inl (.int .i64 (r : Nat))), (16, .inl (.int .i64 ((r + 1) : Nat))), (3, .inl (.int .i64 ((r + 1) : Nat)))] [eO] ?_ ?_
        · exact oc (k_m0 rfl rfl) <|
          oz (k_bi (.int .i64 (r : Nat)) (.int .i64 (1 : Nat)) (.int .i64 ((r + 1) : Nat)) (ad_i (m := r) (n := 1) (by omega)) rfl rfl) <|
          oz (k_mv (.inr rfl) rfl) <|
          ok_nil
        clear h; intro β a w h
        replace h := St.sm h 0 (ai 44 (oF F N (r + 1))) (c := ai 44 (foF (tV N r) 22)) (t := 106) (foF_end _)
        replace h := St.cs h (s' := [.inl (.agg (ai 44 F)), .inr (0, pt 0), .inr (1, pt 0), .inl (.int .i64 ((r + 1) : Nat)), .inl (.int .i64 ((cr (oF F N r) 44) : Nat)), .inl (.int .i64 (44 : Nat)), x6, .inl (.int .i64 (22 : Nat)), uu, uu, uu, uu, uu, .inl (.int .i64 (r : Nat)), .inl (.bool true), .inl (.int .i64 (r : Nat)), .inl (.int .i64 ((r + 1) : Nat)), .inl (.int .i64 (44 : Nat)), .inl (.bool false), x19, x20, x21, x22, x23, x24, x25, x26, x27, x28, x29, x30, x31, .inl (.int .i64 (22 : Nat)), .inl (.bool false), x34, x35, x36, x37, x38, x39, x40, x41, x42, x43, x44, x45, x46, x47, x48, x49, uu, uu, uu, uu, uu, uu, uu, uu, uu, uu, uu, uu, uu, uu, uu, uu, uu, uu, uu, uu, uu, uu, uu, uu, uu, uu, uu, uu, uu, uu, uu, uu, uu, uu, uu, uu, uu, uu, uu, uu, uu, uu, uu, uu, uu, uu, uu, uu, uu, uu, uu, uu, uu, uu, uu, uu]) (m' := [(ai 44 (oF F N (r + 1)), 106), (ai 22 (fun _ => 0), 36)]) (by kernel_rfl) (by kernel_rfl)
        exact ⟨hltr, _, _, _, _, _, _, _, _, _, _, _, _, _, _, _, _, _, _, _, _, _, _, _, _, _, _, _, _, _, _, _, _, _, _, _, _, _, _, _, _, _, _, h⟩
  · obtain rfl : r = 5 := by omega
    refine sym_seq ?_
    refine sym_seq ?_
    refine St.r0 h [(13, .inl (.int .i64 (5 : Nat))), (14, .inl (.bool false))] [] ?_ ?_
    · exact oz (k_mv (.inl rfl) rfl) <|
      oz (k_bi (.int .i64 (5 : Nat)) (.int .i64 (5 : Nat)) (.bool false) (lt_i (m := ((5 : Nat) : Int)) (n := ((5 : Nat) : Int)) (decide_eq_false (by omega))) rfl rfl) <|
      ok_nil
    clear h; intro β a w h
    refine sym_then ?_
    refine s_cf h ?_
    refine wp_exit ?_
    refine then_exit ?_
    refine then_exit ?_
    refine blk_exit ?_
    refine sym_then ?_
    refine sym_seq ?_
    refine sym_seq ?_
    refine St.r0 h [(8, .inl (.int .i64 (0 : Nat)))] [] ?_ ?_
    · exact oz (k_mv (.inr rfl) rfl) <|
      ok_nil
    clear h; intro β a w h
    refine sym_then ?_
    refine blk_in ?_
    replace h := St.sm h 0 (ai 44 (dg (uV U 0))) (c := ai 44 (oF F N 5)) (t := 106) oF_end'
    replace h := St.cs h (s' := [.inl (.agg (ai 44 F)), .inr (0, pt 0), .inr (1, pt 0), .inl (.int .i64 (5 : Nat)), x4, x5, x6, x7, .inl (.int .i64 (0 : Nat)), uu, uu, uu, uu, .inl (.int .i64 (5 : Nat)), .inl (.bool false), x15, x16, x17, x18, x19, x20, x21, x22, x23, x24, x25, x26, x27, x28, x29, x30, x31, x32, x33, x34, x35, x36, x37, x38, x39, x40, x41, x42, x43, x44, x45, x46, x47, x48, x49, uu, uu, uu, uu, uu, uu, uu, uu, uu, uu, uu, uu, uu, uu, uu, uu, uu, uu, uu, uu, uu, uu, uu, uu, uu, uu, uu, uu, uu, uu, uu, uu, uu, uu, uu, uu, uu, uu, uu, uu, uu, uu, uu, uu, uu, uu, uu, uu, uu, uu, uu, uu, uu, uu, uu, uu]) (m' := [(ai 44 (dg (uV U 0)), 106), (ai 22 (fun _ => 0), 36)]) (by kernel_rfl) (by kernel_rfl)
    refine loop_up 2 (fun q a w => ∃ (x9 x10 x50 x51 x52 x53 x54 x55 x56 x57 x58 x59 x60 x61 x62 x63 x64 x65 x66 x67 x68 x69 x70 x71 x72 x73 x74 x75 x76 x77 x78 x79 x80 x81 x82 x83 x84 x85 x86 x87 x88 : SV) (β : Nat → Nat), St (wd W0) [.inl (.agg (ai 44 F)), .inr (0, pt 0), .inr (1, pt 0), .inl (.int .i64 (5 : Nat)), x4, x5, x6, x7, .inl (.int .i64 (q : Nat)), x9, x10, uu, uu, .inl (.int .i64 (5 : Nat)), .inl (.bool false), x15, x16, x17, x18, x19, x20, x21, x22, x23, x24, x25, x26, x27, x28, x29, x30, x31, x32, x33, x34, x35, x36, x37, x38, x39, x40, x41, x42, x43, x44, x45, x46, x47, x48, x49, x50, x51, x52, x53, x54, x55, x56, x57, x58, x59, x60, x61, x62, x63, x64, x65, x66, x67, x68, x69, x70, x71, x72, x73, x74, x75, x76, x77, x78, x79, x80, x81, x82, x83, x84, x85, x86, x87, x88, uu, uu, uu, uu, uu, uu, uu, uu, uu, uu, uu, uu, uu, uu, uu, uu, uu] [(ai 44 (dg (uV U q)), 106), (ai 22 (fun _ => 0), 36)] β a w) ⟨_, _, _, _, _, _, _, _, _, _, _, _, _, _, _, _, _, _, _, _, _, _, _, _, _, _, _, _, _, _, _, _, _, _, _, _, _, _, _, _, _, β, h⟩ ?_
    clear h; rintro q a w hkq ⟨x9, x10, x50, x51, x52, x53, x54, x55, x56, x57, x58, x59, x60, x61, x62, x63, x64, x65, x66, x67, x68, x69, x70, x71, x72, x73, x74, x75, x76, x77, x78, x79, x80, x81, x82, x83, x84, x85, x86, x87, x88, β, h⟩; replace h := h.o0
    have g1 := dg_lt (uV U q) 21
    have g2 := dg_lt (uV U q) 0
    have g3 : updN (dg (uV U q)) 21 (dg (uV U q) 21 % 8) 0 = dg (uV U q) 0 := by simp [updN]
    rcases Nat.lt_or_ge q 2 with hltq | hgeq
    · refine sym_seq ?_
      refine sym_seq ?_
      refine St.r0 h [(50, .inl (.int .i64 (q : Nat))), (51, .inl (.bool true))] [] ?_ ?_
      · exact oz (k_mv (.inl rfl) rfl) <|
        oz (k_bi (.int .i64 (q : Nat)) (.int .i64 (2 : Nat)) (.bool true) (lt_i (m := ((q : Nat) : Int)) (n := ((2 : Nat) : Int)) (decide_eq_true (by omega))) rfl rfl) <|
        ok_nil
      clear h; intro β a w h
      refine sym_then ?_
      refine s_ct h ?_
      refine wp_skip ?_
      refine sym_then ?_
      refine sym_seq ?_
      refine blk_in ?_
      refine sym_seq ?_
      refine St.r0 h [(54, .inr (0, pt 21)), (55, .inl (.int .i64 (((dg (uV U q)) 21) : Nat))), (56, .inl (.int .i64 ((((dg (uV U q)) 21) / 8) : Nat))), (9, .inl (.int .i64 ((((dg (uV U q)) 21) / 8) : Nat)))] [nn, eR 0] ?_ ?_
      · exact oc (k_ia 0 0 21 (.int .i64 (21 : Nat)) (ix44 (i := 21) (by omega)) rfl rfl) <|
        oc (k_ld 0 21 (.int .i64 (((dg (uV U q)) 21) : Nat)) (c := ai 44 (dg (uV U q))) (ld_at (n := 44) (F := (dg (uV U q))) (i := 21) (t0 := 106) (by omega)) rfl rfl) <|
        oz (k_bi (.int .i64 (((dg (uV U q)) 21) : Nat)) (.int .i64 (8 : Nat)) (.int .i64 ((((dg (uV U q)) 21) / 8) : Nat)) (qu_i (m := ((dg (uV U q)) 21)) (n := 8) (by decide) (by omega)) rfl rfl) <|
        oz (k_mv (.inr rfl) rfl) <|
        ok_nil
      clear h; intro β a w h
      refine sym_then ?_
      refine sym_seq ?_
      refine St.rg h [(57, .inr (0, pt 21)), (58, .inl (.int .i64 (((dg (uV U q)) 21) : Nat))), (59, .inl (.int .i64 ((((dg (uV U q)) 21) % 8) : Nat))), (60, .inr (0, pt 21))] [] [(0, ai 44 (updN (dg (uV U q)) 21 (((dg (uV U q)) 21) % 8)))] [nn, eR 0, nn, nn, eS 0] ?_ ?_
      · exact oc (k_ia 0 0 21 (.int .i64 (21 : Nat)) (ix44 (i := 21) (by omega)) rfl rfl) <|
        oc (k_ld 0 21 (.int .i64 (((dg (uV U q)) 21) : Nat)) (c := ai 44 (dg (uV U q))) (ld_at (n := 44) (F := (dg (uV U q))) (i := 21) (t0 := 106) (by omega)) rfl rfl) <|
        oc (k_bi (.int .i64 (((dg (uV U q)) 21) : Nat)) (.int .i64 (8 : Nat)) (.int .i64 ((((dg (uV U q)) 21) % 8) : Nat)) (re_i (m := ((dg (uV U q)) 21)) (n := 8) (by decide)) rfl rfl) <|
        oc (k_ia 0 0 21 (.int .i64 (21 : Nat)) (ix44 (i := 21) (by omega)) rfl rfl) <|
        oc (k_st 0 21 (.int .i64 ((((dg (uV U q)) 21) % 8) : Nat)) (c := ai 44 (dg (uV U q))) (n := ai 44 (updN (dg (uV U q)) 21 (((dg (uV U q)) 21) % 8))) (st_at (n := 44) (F := (dg (uV U q))) (i := 21) (v := (((dg (uV U q)) 21) % 8)) (t0 := 106) (by omega)) rfl rfl) <|
        ok_nil
      clear h; intro β a w h
      refine sym_then ?_
      refine sym_seq ?_
      refine St.rg h [(61, .inr (0, pt 0)), (62, .inl (.int .i64 ((((updN (dg (uV U q)) 21 (((dg (uV U q)) 21) % 8)) 0) : Nat) : Int))), (63, .inl (.int .i64 ((((dg (uV U q)) 21) / 8) : Nat))), (64, .inl (.int .i64 ((19 * (((dg (uV U q)) 21) / 8)) : Nat))), (65, .inl (.int .i64 (((((updN (dg (uV U q)) 21 (((dg (uV U q)) 21) % 8)) 0) + (19 * (((dg (uV U q)) 21) / 8))) : Nat) : Int))), (66, .inr (0, pt 0))] [] [(0, ai 44 (updN (updN (dg (uV U q)) 21 (((dg (uV U q)) 21) % 8)) 0 (((updN (dg (uV U q)) 21 (((dg (uV U q)) 21) % 8)) 0) + (19 * (((dg (uV U q)) 21) / 8)))))] [nn, eR 0, nn, nn, nn, nn, eS 0] ?_ ?_
      · exact oc (k_ia 0 0 0 (.int .i64 (0 : Nat)) (ix44 (i := 0) (by omega)) rfl rfl) <|
        oc (k_ld 0 0 (.int .i64 ((((updN (dg (uV U q)) 21 (((dg (uV U q)) 21) % 8)) 0) : Nat) : Int)) (c := ai 44 (updN (dg (uV U q)) 21 (((dg (uV U q)) 21) % 8))) (ld_at (n := 44) (F := (updN (dg (uV U q)) 21 (((dg (uV U q)) 21) % 8))) (i := 0) (t0 := 106) (by omega)) rfl rfl) <|
        oc (k_mv (.inl rfl) rfl) <|
        oc (k_bi (.int .i64 (19 : Nat)) (.int .i64 ((((dg (uV U q)) 21) / 8) : Nat)) (.int .i64 ((19 * (((dg (uV U q)) 21) / 8)) : Nat)) (mu_i (m := 19) (n := (((dg (uV U q)) 21) / 8)) (by omega)) rfl rfl) <|
        oc (k_bi (.int .i64 ((((updN (dg (uV U q)) 21 (((dg (uV U q)) 21) % 8)) 0) : Nat) : Int)) (.int .i64 ((19 * (((dg (uV U q)) 21) / 8)) : Nat)) (.int .i64 (((((updN (dg (uV U q)) 21 (((dg (uV U q)) 21) % 8)) 0) + (19 * (((dg (uV U q)) 21) / 8))) : Nat) : Int)) (ad_i (m := ((updN (dg (uV U q)) 21 (((dg (uV U q)) 21) % 8)) 0)) (n := (19 * (((dg (uV U q)) 21) / 8))) (by omega)) rfl rfl) <|
        oc (k_ia 0 0 0 (.int .i64 (0 : Nat)) (ix44 (i := 0) (by omega)) rfl rfl) <|
        oc (k_st 0 0 (.int .i64 (((((updN (dg (uV U q)) 21 (((dg (uV U q)) 21) % 8)) 0) + (19 * (((dg (uV U q)) 21) / 8))) : Nat) : Int)) (c := ai 44 (updN (dg (uV U q)) 21 (((dg (uV U q)) 21) % 8))) (n := ai 44 (updN (updN (dg (uV U q)) 21 (((dg (uV U q)) 21) % 8)) 0 (((updN (dg (uV U q)) 21 (((dg (uV U q)) 21) % 8)) 0) + (19 * (((dg (uV U q)) 21) / 8))))) (st_at (n := 44) (F := (updN (dg (uV U q)) 21 (((dg (uV U q)) 21) % 8))) (i := 0) (v := (((updN (dg (uV U q)) 21 (((dg (uV U q)) 21) % 8)) 0) + (19 * (((dg (uV U q)) 21) / 8)))) (t0 := 106) (by omega)) rfl rfl) <|
        ok_nil
      clear h; intro β a w h
      refine sym_then ?_
      refine sym_seq ?_
      refine St.r0 h [(10, .inl (.int .i64 (0 : Nat)))] [] ?_ ?_
      · exact oz (k_mv (.inr rfl) rfl) <|
        ok_nil
      clear h; intro β a w h
      refine sym_then ?_
      refine blk_in ?_
      replace h := St.sm h 0 (ai 44 (seF (hF (uV U q)) 0)) (c := ai 44 (updN (updN (dg (uV U q)) 21 (((dg (uV U q)) 21) % 8)) 0 (((updN (dg (uV U q)) 21 (((dg (uV U q)) 21) % 8)) 0) + (19 * (((dg (uV U q)) 21) / 8))))) (t := 106) (seF_zero (hF_upd _))
      replace h := St.cs h (s' := [.inl (.agg (ai 44 F)), .inr (0, pt 0), .inr (1, pt 0), .inl (.int .i64 (5 : Nat)), x4, x5, x6, x7, .inl (.int .i64 (q : Nat)), .inl (.int .i64 ((((dg (uV U q)) 21) / 8) : Nat)), .inl (.int .i64 (0 : Nat)), uu, uu, .inl (.int .i64 (5 : Nat)), .inl (.bool false), x15, x16, x17, x18, x19, x20, x21, x22, x23, x24, x25, x26, x27, x28, x29, x30, x31, x32, x33, x34, x35, x36, x37, x38, x39, x40, x41, x42, x43, x44, x45, x46, x47, x48, x49, .inl (.int .i64 (q : Nat)), .inl (.bool true), x52, x53, .inr (0, pt 21), .inl (.int .i64 (((dg (uV U q)) 21) : Nat)), .inl (.int .i64 ((((dg (uV U q)) 21) / 8) : Nat)), .inr (0, pt 21), .inl (.int .i64 (((dg (uV U q)) 21) : Nat)), .inl (.int .i64 ((((dg (uV U q)) 21) % 8) : Nat)), .inr (0, pt 21), .inr (0, pt 0), .inl (.int .i64 ((((updN (dg (uV U q)) 21 (((dg (uV U q)) 21) % 8)) 0) : Nat) : Int)), .inl (.int .i64 ((((dg (uV U q)) 21) / 8) : Nat)), .inl (.int .i64 ((19 * (((dg (uV U q)) 21) / 8)) : Nat)), .inl (.int .i64 (((((updN (dg (uV U q)) 21 (((dg (uV U q)) 21) % 8)) 0) + (19 * (((dg (uV U q)) 21) / 8))) : Nat) : Int)), .inr (0, pt 0), x67, x68, x69, x70, x71, x72, x73, x74, x75, x76, x77, x78, x79, x80, x81, x82, x83, x84, x85, x86, x87, x88, uu, uu, uu, uu, uu, uu, uu, uu, uu, uu, uu, uu, uu, uu, uu, uu, uu]) (m' := [(ai 44 (seF (hF (uV U q)) 0), 106), (ai 22 (fun _ => 0), 36)]) (by kernel_rfl) (by kernel_rfl)
      refine loop_up 21 (fun s a w => ∃ (x67 x68 x69 x70 x71 x72 x73 x74 x75 x76 x77 x78 x79 x80 x81 x82 x83 x84 x85 x86 x87 x88 : SV) (β : Nat → Nat), St (wd W0) [.inl (.agg (ai 44 F)), .inr (0, pt 0), .inr (1, pt 0), .inl (.int .i64 (5 : Nat)), x4, x5, x6, x7, .inl (.int .i64 (q : Nat)), .inl (.int .i64 ((((dg (uV U q)) 21) / 8) : Nat)), .inl (.int .i64 (s : Nat)), uu, uu, .inl (.int .i64 (5 : Nat)), .inl (.bool false), x15, x16, x17, x18, x19, x20, x21, x22, x23, x24, x25, x26, x27, x28, x29, x30, x31, x32, x33, x34, x35, x36, x37, x38, x39, x40, x41, x42, x43, x44, x45, x46, x47, x48, x49, .inl (.int .i64 (q : Nat)), .inl (.bool true), x52, x53, .inr (0, pt 21), .inl (.int .i64 (((dg (uV U q)) 21) : Nat)), .inl (.int .i64 ((((dg (uV U q)) 21) / 8) : Nat)), .inr (0, pt 21), .inl (.int .i64 (((dg (uV U q)) 21) : Nat)), .inl (.int .i64 ((((dg (uV U q)) 21) % 8) : Nat)), .inr (0, pt 21), .inr (0, pt 0), .inl (.int .i64 ((((updN (dg (uV U q)) 21 (((dg (uV U q)) 21) % 8)) 0) : Nat) : Int)), .inl (.int .i64 ((((dg (uV U q)) 21) / 8) : Nat)), .inl (.int .i64 ((19 * (((dg (uV U q)) 21) / 8)) : Nat)), .inl (.int .i64 (((((updN (dg (uV U q)) 21 (((dg (uV U q)) 21) % 8)) 0) + (19 * (((dg (uV U q)) 21) / 8))) : Nat) : Int)), .inr (0, pt 0), x67, x68, x69, x70, x71, x72, x73, x74, x75, x76, x77, x78, x79, x80, x81, x82, x83, x84, x85, x86, x87, x88, uu, uu, uu, uu, uu, uu, uu, uu, uu, uu, uu, uu, uu, uu, uu, uu, uu] [(ai 44 (seF (hF (uV U q)) s), 106), (ai 22 (fun _ => 0), 36)] β a w) ⟨_, _, _, _, _, _, _, _, _, _, _, _, _, _, _, _, _, _, _, _, _, _, β, h⟩ ?_
      clear h; rintro s a w hks ⟨x67, x68, x69, x70, x71, x72, x73, x74, x75, x76, x77, x78, x79, x80, x81, x82, x83, x84, x85, x86, x87, x88, β, h⟩; replace h := h.o0
      have k1 := hF_lt (uV U q) s
      have k2 := hF_lt (uV U q) (s + 1)
      have k3 := cr_lt (hF_lt (uV U q)) s
      have k4 := seF_at (hF (uV U q)) s
      have k5 := seF_nx (hF (uV U q)) s
      rcases Nat.lt_or_ge s 21 with hlts | hges
      · refine sym_seq ?_
        refine sym_seq ?_
        refine St.r0 h [(67, .inl (.int .i64 (s : Nat))), (68, .inl (.bool true))] [] ?_ ?_
        · exact oz (k_mv (.inl rfl) rfl) <|
          oz (k_bi (.int .i64 (s : Nat)) (.int .i64 (21 : Nat)) (.bool true) (lt_i (m := ((s : Nat) : Int)) (n := ((21 : Nat) : Int)) (decide_eq_true (by omega))) rfl rfl) <|
          ok_nil
        clear h; intro β a w h
        refine sym_then ?_
        refine s_ct h ?_
        refine wp_skip ?_
        refine sym_then ?_
        refine sym_seq ?_
        refine blk_in ?_
        refine sym_seq ?_
        refine St.rg h [(71, .inl (.int .i64 (s : Nat))), (72, .inl (.int .i64 ((s + 1) : Nat))), (73, .inl (.int .i64 (s : Nat))), (74, .inl (.int .i64 ((s + 1) : Nat))), (75, .inr (0, pt (s + 1))), (76, .inl (.int .i64 (((seF (hF (uV U q)) s) (s + 1)) : Nat))), (77, .inl (.int .i64 (s : Nat))), (78, .inr (0, pt s)), (79, .inl (.int .i64 (((seF (hF (uV U q)) s) s) : Nat))), (80, .inl (.int .i64 ((((seF (hF (uV U q)) s) s) / 4096) : Nat))), (81, .inl (.int .i64 (((((seF (hF (uV U q)) s) (s + 1)) + (((seF (hF (uV U q)) s) s) / 4096)) : Nat) : Int))), (82, .inr (0, pt (s + 1)))] [] [(0, ai 44 (updN (seF (hF (uV U q)) s) (s + 1) (((seF (hF (uV U q)) s) (s + 1)) + (((seF (hF (uV U q)) s) s) / 4096))))] [nn, nn, nn, nn, nn, eR 0, nn, nn, eR 0, nn, nn, nn, eS 0] ?_ ?_
        · exact oc (k_mv (.inl rfl) rfl) <|
          oc (k_bi (.int .i64 (s : Nat)) (.int .i64 (1 : Nat)) (.int .i64 ((s + 1) : Nat)) (ad_i (m := s) (n := 1) (by omega)) rfl rfl) <|
          oc (k_mv (.inl rfl) rfl) <|
          oc (k_bi (.int .i64 (s : Nat)) (.int .i64 (1 : Nat)) (.int .i64 ((s + 1) : Nat)) (ad_i (m := s) (n := 1) (by omega)) rfl rfl) <|
          oc (k_ia 0 0 ((s + 1)) (.int .i64 ((s + 1) : Nat)) (ix44 (i := (s + 1)) (by omega)) rfl rfl) <|
          oc (k_ld 0 ((s + 1)) (.int .i64 (((seF (hF (uV U q)) s) (s + 1)) : Nat)) (c := ai 44 (seF (hF (uV U q)) s)) (ld_at (n := 44) (F := (seF (hF (uV U q)) s)) (i := (s + 1)) (t0 := 106) (by omega)) rfl rfl) <|
          oc (k_mv (.inl rfl) rfl) <|
          oc (k_ia 0 0 s (.int .i64 (s : Nat)) (ix44 (i := s) (by omega)) rfl rfl) <|
          oc (k_ld 0 s (.int .i64 (((seF (hF (uV U q)) s) s) : Nat)) (c := ai 44 (seF (hF (uV U q)) s)) (ld_at (n := 44) (F := (seF (hF (uV U q)) s)) (i := s) (t0 := 106) (by omega)) rfl rfl) <|
          oc (k_bi (.int .i64 (((seF (hF (uV U q)) s) s) : Nat)) (.int .i64 (4096 : Nat)) (.int .i64 ((((seF (hF (uV U q)) s) s) / 4096) : Nat)) (qu_i (m := ((seF (hF (uV U q)) s) s)) (n := 4096) (by decide) (by omega)) rfl rfl) <|
          oc (k_bi (.int .i64 (((seF (hF (uV U q)) s) (s + 1)) : Nat)) (.int .i64 ((((seF (hF (uV U q)) s) s) / 4096) : Nat)) (.int .i64 (((((seF (hF (uV U q)) s) (s + 1)) + (((seF (hF (uV U q)) s) s) / 4096)) : Nat) : Int)) (ad_i (m := ((seF (hF (uV U q)) s) (s + 1))) (n := (((seF (hF (uV U q)) s) s) / 4096)) (by omega)) rfl rfl) <|
          oc (k_ia 0 0 ((s + 1)) (.int .i64 ((s + 1) : Nat)) (ix44 (i := (s + 1)) (by omega)) rfl rfl) <|
          oc (k_st 0 ((s + 1)) (.int .i64 (((((seF (hF (uV U q)) s) (s + 1)) + (((seF (hF (uV U q)) s) s) / 4096)) : Nat) : Int)) (c := ai 44 (seF (hF (uV U q)) s)) (n := ai 44 (updN (seF (hF (uV U q)) s) (s + 1) (((seF (hF (uV U q)) s) (s + 1)) + (((seF (hF (uV U q)) s) s) / 4096)))) (st_at (n := 44) (F := (seF (hF (uV U q)) s)) (i := (s + 1)) (v := (((seF (hF (uV U q)) s) (s + 1)) + (((seF (hF (uV U q)) s) s) / 4096))) (t0 := 106) (by omega)) rfl rfl) <|
          ok_nil
        clear h; intro β a w h
        refine sym_then ?_
        refine St.rg h [(83, .inl (.int .i64 (s : Nat))), (84, .inl (.int .i64 (s : Nat))), (85, .inr (0, pt s)), (86, .inl (.int .i64 ((((updN (seF (hF (uV U q)) s) (s + 1) (((seF (hF (uV U q)) s) (s + 1)) + (((seF (hF (uV U q)) s) s) / 4096))) s) : Nat) : Int))), (87, .inl (.int .i64 (((((updN (seF (hF (uV U q)) s) (s + 1) (((seF (hF (uV U q)) s) (s + 1)) + (((seF (hF (uV U q)) s) s) / 4096))) s) % 4096) : Nat) : Int))), (88, .inr (0, pt s))] [] [(0, ai 44 (updN (updN (seF (hF (uV U q)) s) (s + 1) (((seF (hF (uV U q)) s) (s + 1)) + (((seF (hF (uV U q)) s) s) / 4096))) s (((updN (seF (hF (uV U q)) s) (s + 1) (((seF (hF (uV U q)) s) (s + 1)) + (((seF (hF (uV U q)) s) s) / 4096))) s) % 4096)))] [nn, nn, nn, eR 0, nn, nn, eS 0] ?_ ?_
        · exact oc (k_mv (.inl rfl) rfl) <|
          oc (k_mv (.inl rfl) rfl) <|
          oc (k_ia 0 0 s (.int .i64 (s : Nat)) (ix44 (i := s) (by omega)) rfl rfl) <|
          oc (k_ld 0 s (.int .i64 ((((updN (seF (hF (uV U q)) s) (s + 1) (((seF (hF (uV U q)) s) (s + 1)) + (((seF (hF (uV U q)) s) s) / 4096))) s) : Nat) : Int)) (c := ai 44 (updN (seF (hF (uV U q)) s) (s + 1) (((seF (hF (uV U q)) s) (s + 1)) + (((seF (hF (uV U q)) s) s) / 4096)))) (ld_at (n := 44) (F := (updN (seF (hF (uV U q)) s) (s + 1) (((seF (hF (uV U q)) s) (s + 1)) + (((seF (hF (uV U q)) s) s) / 4096)))) (i := s) (t0 := 106) (by omega)) rfl rfl) <|
          oc (k_bi (.int .i64 ((((updN (seF (hF (uV U q)) s) (s + 1) (((seF (hF (uV U q)) s) (s + 1)) + (((seF (hF (uV U q)) s) s) / 4096))) s) : Nat) : Int)) (.int .i64 (4096 : Nat)) (.int .i64 (((((updN (seF (hF (uV U q)) s) (s + 1) (((seF (hF (uV U q)) s) (s + 1)) + (((seF (hF (uV U q)) s) s) / 4096))) s) % 4096) : Nat) : Int)) (re_i (m := ((updN (seF (hF (uV U q)) s) (s + 1) (((seF (hF (uV U q)) s) (s + 1)) + (((seF (hF (uV U q)) s) s) / 4096))) s)) (n := 4096) (by decide)) rfl rfl) <|
          oc (k_ia 0 0 s (.int .i64 (s : Nat)) (ix44 (i := s) (by omega)) rfl rfl) <|
          oc (k_st 0 s (.int .i64 (((((updN (seF (hF (uV U q)) s) (s + 1) (((seF (hF (uV U q)) s) (s + 1)) + (((seF (hF (uV U q)) s) s) / 4096))) s) % 4096) : Nat) : Int)) (c := ai 44 (updN (seF (hF (uV U q)) s) (s + 1) (((seF (hF (uV U q)) s) (s + 1)) + (((seF (hF (uV U q)) s) s) / 4096)))) (n := ai 44 (updN (updN (seF (hF (uV U q)) s) (s + 1) (((seF (hF (uV U q)) s) (s + 1)) + (((seF (hF (uV U q)) s) s) / 4096))) s (((updN (seF (hF (uV U q)) s) (s + 1) (((seF (hF (uV U q)) s) (s + 1)) + (((seF (hF (uV U q)) s) s) / 4096))) s) % 4096))) (st_at (n := 44) (F := (updN (seF (hF (uV U q)) s) (s + 1) (((seF (hF (uV U q)) s) (s + 1)) + (((seF (hF (uV U q)) s) s) / 4096)))) (i := s) (v := (((updN (seF (hF (uV U q)) s) (s + 1) (((seF (hF (uV U q)) s) (s + 1)) + (((seF (hF (uV U q)) s) s) / 4096))) s) % 4096)) (t0 := 106) (by omega)) rfl rfl) <|
          ok_nil
        clear h; intro β a w h
        refine blk_norm ?_
        refine sym_then ?_
        refine St.r0 h [(69, .inl (.int .i64 (s : Nat))), (70, .inl (.int .i64 ((s + 1) : Nat))), (10, .inl (.int .i64 ((s + 1) : Nat)))] [eO] ?_ ?_
        · exact oc (k_m0 rfl rfl) <|
          oz (k_bi (.int .i64 (s : Nat)) (.int .i64 (1 : Nat)) (.int .i64 ((s + 1) : Nat)) (ad_i (m := s) (n := 1) (by omega)) rfl rfl) <|
          oz (k_mv (.inr rfl) rfl) <|
          ok_nil
        clear h; intro β a w h
        replace h := St.sm h 0 (ai 44 (seF (hF (uV U q)) (s + 1))) (c := ai 44 (updN (updN (seF (hF (uV U q)) s) (s + 1) (((seF (hF (uV U q)) s) (s + 1)) + (((seF (hF (uV U q)) s) s) / 4096))) s (((updN (seF (hF (uV U q)) s) (s + 1) (((seF (hF (uV U q)) s) (s + 1)) + (((seF (hF (uV U q)) s) s) / 4096))) s) % 4096))) (t := 106) seF_next
        replace h := St.cs h (s' := [.inl (.agg (ai 44 F)), .inr (0, pt 0), .inr (1, pt 0), .inl (.int .i64 (5 : Nat)), x4, x5, x6, x7, .inl (.int .i64 (q : Nat)), .inl (.int .i64 ((((dg (uV U q)) 21) / 8) : Nat)), .inl (.int .i64 ((s + 1) : Nat)), uu, uu, .inl (.int .i64 (5 : Nat)), .inl (.bool false), x15, x16, x17, x18, x19, x20, x21, x22, x23, x24, x25, x26, x27, x28, x29, x30, x31, x32, x33, x34, x35, x36, x37, x38, x39, x40, x41, x42, x43, x44, x45, x46, x47, x48, x49, .inl (.int .i64 (q : Nat)), .inl (.bool true), x52, x53, .inr (0, pt 21), .inl (.int .i64 (((dg (uV U q)) 21) : Nat)), .inl (.int .i64 ((((dg (uV U q)) 21) / 8) : Nat)), .inr (0, pt 21), .inl (.int .i64 (((dg (uV U q)) 21) : Nat)), .inl (.int .i64 ((((dg (uV U q)) 21) % 8) : Nat)), .inr (0, pt 21), .inr (0, pt 0), .inl (.int .i64 ((((updN (dg (uV U q)) 21 (((dg (uV U q)) 21) % 8)) 0) : Nat) : Int)), .inl (.int .i64 ((((dg (uV U q)) 21) / 8) : Nat)), .inl (.int .i64 ((19 * (((dg (uV U q)) 21) / 8)) : Nat)), .inl (.int .i64 (((((updN (dg (uV U q)) 21 (((dg (uV U q)) 21) % 8)) 0) + (19 * (((dg (uV U q)) 21) / 8))) : Nat) : Int)), .inr (0, pt 0), .inl (.int .i64 (s : Nat)), .inl (.bool true), .inl (.int .i64 (s : Nat)), .inl (.int .i64 ((s + 1) : Nat)), .inl (.int .i64 (s : Nat)), .inl (.int .i64 ((s + 1) : Nat)), .inl (.int .i64 (s : Nat)), .inl (.int .i64 ((s + 1) : Nat)), .inr (0, pt (s + 1)), .inl (.int .i64 (((seF (hF (uV U q)) s) (s + 1)) : Nat)), .inl (.int .i64 (s : Nat)), .inr (0, pt s), .inl (.int .i64 (((seF (hF (uV U q)) s) s) : Nat)), .inl (.int .i64 ((((seF (hF (uV U q)) s) s) / 4096) : Nat)), .inl (.int .i64 (((((seF (hF (uV U q)) s) (s + 1)) + (((seF (hF (uV U q)) s) s) / 4096)) : Nat) : Int)), .inr (0, pt (s + 1)), .inl (.int .i64 (s : Nat)), .inl (.int .i64 (s : Nat)), .inr (0, pt s), .inl (.int .i64 ((((updN (seF (hF (uV U q)) s) (s + 1) (((seF (hF (uV U q)) s) (s + 1)) + (((seF (hF (uV U q)) s) s) / 4096))) s) : Nat) : Int)), .inl (.int .i64 (((((updN (seF (hF (uV U q)) s) (s + 1) (((seF (hF (uV U q)) s) (s + 1)) + (((seF (hF (uV U q)) s) s) / 4096))) s) % 4096) : Nat) : Int)), .inr (0, pt s), uu, uu, uu, uu, uu, uu, uu, uu, uu, uu, uu, uu, uu, uu, uu, uu, uu]) (m' := [(ai 44 (seF (hF (uV U q)) (s + 1)), 106), (ai 22 (fun _ => 0), 36)]) (by kernel_rfl) (by kernel_rfl)
        exact ⟨hlts, _, _, _, _, _, _, _, _, _, _, _, _, _, _, _, _, _, _, _, _, _, _, _, h⟩
      · obtain rfl : s = 21 := by omega
        refine sym_seq ?_
        refine sym_seq ?_
        refine St.r0 h [(67, .inl (.int .i64 (21 : Nat))), (68, .inl (.bool false))] [] ?_ ?_
        · exact oz (k_mv (.inl rfl) rfl) <|
          oz (k_bi (.int .i64 (21 : Nat)) (.int .i64 (21 : Nat)) (.bool false) (lt_i (m := ((21 : Nat) : Int)) (n := ((21 : Nat) : Int)) (decide_eq_false (by omega))) rfl rfl) <|
          ok_nil
        clear h; intro β a w h
        refine sym_then ?_
        refine s_cf h ?_
        refine wp_exit ?_
        refine then_exit ?_
        refine then_exit ?_
        refine blk_exit ?_
        refine blk_norm ?_
        refine sym_then ?_
        refine St.r0 h [(52, .inl (.int .i64 (q : Nat))), (53, .inl (.int .i64 ((q + 1) : Nat))), (8, .inl (.int .i64 ((q + 1) : Nat)))] [eO] ?_ ?_
        · exact oc (k_m0 rfl rfl) <|
          oz (k_bi (.int .i64 (q : Nat)) (.int .i64 (1 : Nat)) (.int .i64 ((q + 1) : Nat)) (ad_i (m := q) (n := 1) (by omega)) rfl rfl) <|
          oz (k_mv (.inr rfl) rfl) <|
          ok_nil
        clear h; intro β a w h
        replace h := St.sm h 0 (ai 44 (dg (uV U (q + 1)))) (c := ai 44 (seF (hF (uV U q)) 21)) (t := 106) (seF_end (uV_lt hU q))
        replace h := St.cs h (s' := [.inl (.agg (ai 44 F)), .inr (0, pt 0), .inr (1, pt 0), .inl (.int .i64 (5 : Nat)), x4, x5, x6, x7, .inl (.int .i64 ((q + 1) : Nat)), .inl (.int .i64 ((((dg (uV U q)) 21) / 8) : Nat)), .inl (.int .i64 (21 : Nat)), uu, uu, .inl (.int .i64 (5 : Nat)), .inl (.bool false), x15, x16, x17, x18, x19, x20, x21, x22, x23, x24, x25, x26, x27, x28, x29, x30, x31, x32, x33, x34, x35, x36, x37, x38, x39, x40, x41, x42, x43, x44, x45, x46, x47, x48, x49, .inl (.int .i64 (q : Nat)), .inl (.bool true), .inl (.int .i64 (q : Nat)), .inl (.int .i64 ((q + 1) : Nat)), .inr (0, pt 21), .inl (.int .i64 (((dg (uV U q)) 21) : Nat)), .inl (.int .i64 ((((dg (uV U q)) 21) / 8) : Nat)), .inr (0, pt 21), .inl (.int .i64 (((dg (uV U q)) 21) : Nat)), .inl (.int .i64 ((((dg (uV U q)) 21) % 8) : Nat)), .inr (0, pt 21), .inr (0, pt 0), .inl (.int .i64 ((((updN (dg (uV U q)) 21 (((dg (uV U q)) 21) % 8)) 0) : Nat) : Int)), .inl (.int .i64 ((((dg (uV U q)) 21) / 8) : Nat)), .inl (.int .i64 ((19 * (((dg (uV U q)) 21) / 8)) : Nat)), .inl (.int .i64 (((((updN (dg (uV U q)) 21 (((dg (uV U q)) 21) % 8)) 0) + (19 * (((dg (uV U q)) 21) / 8))) : Nat) : Int)), .inr (0, pt 0), .inl (.int .i64 (21 : Nat)), .inl (.bool false), x69, x70, x71, x72, x73, x74, x75, x76, x77, x78, x79, x80, x81, x82, x83, x84, x85, x86, x87, x88, uu, uu, uu, uu, uu, uu, uu, uu, uu, uu, uu, uu, uu, uu, uu, uu, uu]) (m' := [(ai 44 (dg (uV U (q + 1))), 106), (ai 22 (fun _ => 0), 36)]) (by kernel_rfl) (by kernel_rfl)
        exact ⟨hltq, _, _, _, _, _, _, _, _, _, _, _, _, _, _, _, _, _, _, _, _, _, _, _, _, _, _, _, _, _, _, _, _, _, _, _, _, _, _, _, _, _, _, h⟩
    · obtain rfl : q = 2 := by omega
      refine sym_seq ?_
      refine sym_seq ?_
      refine St.r0 h [(50, .inl (.int .i64 (2 : Nat))), (51, .inl (.bool false))] [] ?_ ?_
      · exact oz (k_mv (.inl rfl) rfl) <|
        oz (k_bi (.int .i64 (2 : Nat)) (.int .i64 (2 : Nat)) (.bool false) (lt_i (m := ((2 : Nat) : Int)) (n := ((2 : Nat) : Int)) (decide_eq_false (by omega))) rfl rfl) <|
        ok_nil
      clear h; intro β a w h
      refine sym_then ?_
      refine s_cf h ?_
      refine wp_exit ?_
      refine then_exit ?_
      refine then_exit ?_
      refine blk_exit ?_
      refine sym_then ?_
      refine sym_seq ?_
      refine St.rg h [(11, .inr (2, pt 0))] [(ai 22 (fun _ => 0), 36)] [] [eN 2] ?_ ?_
      · exact oc (k_al 2 al22 rfl rfl) <|
        ok_nil
      clear h; intro β a w h
      refine sym_then ?_
      refine sym_seq ?_
      refine sym_seq ?_
      refine St.r0 h [(12, .inl (.int .i64 (0 : Nat)))] [] ?_ ?_
      · exact oz (k_mv (.inr rfl) rfl) <|
        ok_nil
      clear h; intro β a w h
      refine sym_then ?_
      refine blk_in ?_
      replace h := St.sm h 2 (ai 22 (cpF V 0)) (c := ai 22 (fun _ => 0)) (t := 36) (cpF_zero _)
      replace h := St.sm h 0 (ai 44 (dg V)) (c := ai 44 (dg (uV U 2))) (t := 106) (by rw [HV.out])
      replace h := St.cs h (s' := [.inl (.agg (ai 44 F)), .inr (0, pt 0), .inr (1, pt 0), .inl (.int .i64 (5 : Nat)), x4, x5, x6, x7, .inl (.int .i64 (2 : Nat)), x9, x10, .inr (2, pt 0), .inl (.int .i64 (0 : Nat)), .inl (.int .i64 (5 : Nat)), .inl (.bool false), x15, x16, x17, x18, x19, x20, x21, x22, x23, x24, x25, x26, x27, x28, x29, x30, x31, x32, x33, x34, x35, x36, x37, x38, x39, x40, x41, x42, x43, x44, x45, x46, x47, x48, x49, .inl (.int .i64 (2 : Nat)), .inl (.bool false), x52, x53, x54, x55, x56, x57, x58, x59, x60, x61, x62, x63, x64, x65, x66, x67, x68, x69, x70, x71, x72, x73, x74, x75, x76, x77, x78, x79, x80, x81, x82, x83, x84, x85, x86, x87, x88, uu, uu, uu, uu, uu, uu, uu, uu, uu, uu, uu, uu, uu, uu, uu, uu, uu]) (m' := [(ai 44 (dg V), 106), (ai 22 (fun _ => 0), 36), (ai 22 (cpF V 0), 36)]) (by kernel_rfl) (by kernel_rfl)
      refine loop_up 22 (fun p a w => ∃ (x89 x90 x91 x92 x93 x94 x95 x96 x97 : SV) (β : Nat → Nat), St (wd W0) [.inl (.agg (ai 44 F)), .inr (0, pt 0), .inr (1, pt 0), .inl (.int .i64 (5 : Nat)), x4, x5, x6, x7, .inl (.int .i64 (2 : Nat)), x9, x10, .inr (2, pt 0), .inl (.int .i64 (p : Nat)), .inl (.int .i64 (5 : Nat)), .inl (.bool false), x15, x16, x17, x18, x19, x20, x21, x22, x23, x24, x25, x26, x27, x28, x29, x30, x31, x32, x33, x34, x35, x36, x37, x38, x39, x40, x41, x42, x43, x44, x45, x46, x47, x48, x49, .inl (.int .i64 (2 : Nat)), .inl (.bool false), x52, x53, x54, x55, x56, x57, x58, x59, x60, x61, x62, x63, x64, x65, x66, x67, x68, x69, x70, x71, x72, x73, x74, x75, x76, x77, x78, x79, x80, x81, x82, x83, x84, x85, x86, x87, x88, x89, x90, x91, x92, x93, x94, x95, x96, x97, uu, uu, uu, uu, uu, uu, uu, uu] [(ai 44 (dg V), 106), (ai 22 (fun _ => 0), 36), (ai 22 (cpF V p), 36)] β a w) ⟨_, _, _, _, _, _, _, _, _, β, h⟩ ?_
      clear h; rintro p a w hkp ⟨x89, x90, x91, x92, x93, x94, x95, x96, x97, β, h⟩; replace h := h.o0
      rcases Nat.lt_or_ge p 22 with hltp | hgep
      · refine sym_seq ?_
        refine sym_seq ?_
        refine St.r0 h [(89, .inl (.int .i64 (p : Nat))), (90, .inl (.bool true))] [] ?_ ?_
        · exact oz (k_mv (.inl rfl) rfl) <|
          oz (k_bi (.int .i64 (p : Nat)) (.int .i64 (22 : Nat)) (.bool true) (lt_i (m := ((p : Nat) : Int)) (n := ((22 : Nat) : Int)) (decide_eq_true (by omega))) rfl rfl) <|
          ok_nil
        clear h; intro β a w h
        refine sym_then ?_
        refine s_ct h ?_
        refine wp_skip ?_
        refine sym_then ?_
        refine sym_seq ?_
        refine blk_in ?_
        refine St.rg h [(93, .inl (.int .i64 (p : Nat))), (94, .inl (.int .i64 (p : Nat))), (95, .inr (0, pt p)), (96, .inl (.int .i64 (((dg V) p) : Nat))), (97, .inr (2, pt p))] [] [(2, ai 22 (updN (cpF V p) p ((dg V) p)))] [nn, nn, nn, eR 0, nn, eS 2] ?_ ?_
        · exact oc (k_mv (.inl rfl) rfl) <|
          oc (k_mv (.inl rfl) rfl) <|
          oc (k_ia 0 0 p (.int .i64 (p : Nat)) (ix44 (i := p) (by omega)) rfl rfl) <|
          oc (k_ld 0 p (.int .i64 (((dg V) p) : Nat)) (c := ai 44 (dg V)) (ld_at (n := 44) (F := (dg V)) (i := p) (t0 := 106) (by omega)) rfl rfl) <|
          oc (k_ia 2 0 p (.int .i64 (p : Nat)) (ix22 (i := p) (by omega)) rfl rfl) <|
          oc (k_st 2 p (.int .i64 (((dg V) p) : Nat)) (c := ai 22 (cpF V p)) (n := ai 22 (updN (cpF V p) p ((dg V) p))) (st_at (n := 22) (F := (cpF V p)) (i := p) (v := ((dg V) p)) (t0 := 36) (by omega)) rfl rfl) <|
          ok_nil
        clear h; intro β a w h
        refine blk_norm ?_
        refine sym_then ?_
        refine St.r0 h [(91, .inl (.int .i64 (p : Nat))), (92, .inl (.int .i64 ((p + 1) : Nat))), (12, .inl (.int .i64 ((p + 1) : Nat)))] [eO] ?_ ?_
        · exact oc (k_m0 rfl rfl) <|
          oz (k_bi (.int .i64 (p : Nat)) (.int .i64 (1 : Nat)) (.int .i64 ((p + 1) : Nat)) (ad_i (m := p) (n := 1) (by omega)) rfl rfl) <|
          oz (k_mv (.inr rfl) rfl) <|
          ok_nil
        clear h; intro β a w h
        replace h := St.sm h 2 (ai 22 (cpF V (p + 1))) (c := ai 22 (updN (cpF V p) p ((dg V) p))) (t := 36) (cpF_next _ _)
        replace h := St.cs h (s' := [.inl (.agg (ai 44 F)), .inr (0, pt 0), .inr (1, pt 0), .inl (.int .i64 (5 : Nat)), x4, x5, x6, x7, .inl (.int .i64 (2 : Nat)), x9, x10, .inr (2, pt 0), .inl (.int .i64 ((p + 1) : Nat)), .inl (.int .i64 (5 : Nat)), .inl (.bool false), x15, x16, x17, x18, x19, x20, x21, x22, x23, x24, x25, x26, x27, x28, x29, x30, x31, x32, x33, x34, x35, x36, x37, x38, x39, x40, x41, x42, x43, x44, x45, x46, x47, x48, x49, .inl (.int .i64 (2 : Nat)), .inl (.bool false), x52, x53, x54, x55, x56, x57, x58, x59, x60, x61, x62, x63, x64, x65, x66, x67, x68, x69, x70, x71, x72, x73, x74, x75, x76, x77, x78, x79, x80, x81, x82, x83, x84, x85, x86, x87, x88, .inl (.int .i64 (p : Nat)), .inl (.bool true), .inl (.int .i64 (p : Nat)), .inl (.int .i64 ((p + 1) : Nat)), .inl (.int .i64 (p : Nat)), .inl (.int .i64 (p : Nat)), .inr (0, pt p), .inl (.int .i64 (((dg V) p) : Nat)), .inr (2, pt p), uu, uu, uu, uu, uu, uu, uu, uu]) (m' := [(ai 44 (dg V), 106), (ai 22 (fun _ => 0), 36), (ai 22 (cpF V (p + 1)), 36)]) (by kernel_rfl) (by kernel_rfl)
        exact ⟨hltp, _, _, _, _, _, _, _, _, _, _, h⟩
      · obtain rfl : p = 22 := by omega
        refine sym_seq ?_
        refine sym_seq ?_
        refine St.r0 h [(89, .inl (.int .i64 (22 : Nat))), (90, .inl (.bool false))] [] ?_ ?_
        · exact oz (k_mv (.inl rfl) rfl) <|
          oz (k_bi (.int .i64 (22 : Nat)) (.int .i64 (22 : Nat)) (.bool false) (lt_i (m := ((22 : Nat) : Int)) (n := ((22 : Nat) : Int)) (decide_eq_false (by omega))) rfl rfl) <|
          ok_nil
        clear h; intro β a w h
        refine sym_then ?_
        refine s_cf h ?_
        refine wp_exit ?_
        refine then_exit ?_
        refine then_exit ?_
        refine blk_exit ?_
        refine sym_then ?_
        refine sym_seq ?_
        refine blk_in ?_
        replace h := St.sm h 2 (ai 22 (dg (V - 0 * pp))) (c := ai 22 (cpF V 22)) (t := 36) (cpF_end _)
        replace h := St.cs h (s' := [.inl (.agg (ai 44 F)), .inr (0, pt 0), .inr (1, pt 0), .inl (.int .i64 (5 : Nat)), x4, x5, x6, x7, .inl (.int .i64 (2 : Nat)), x9, x10, .inr (2, pt 0), .inl (.int .i64 (22 : Nat)), .inl (.int .i64 (5 : Nat)), .inl (.bool false), x15, x16, x17, x18, x19, x20, x21, x22, x23, x24, x25, x26, x27, x28, x29, x30, x31, x32, x33, x34, x35, x36, x37, x38, x39, x40, x41, x42, x43, x44, x45, x46, x47, x48, x49, .inl (.int .i64 (2 : Nat)), .inl (.bool false), x52, x53, x54, x55, x56, x57, x58, x59, x60, x61, x62, x63, x64, x65, x66, x67, x68, x69, x70, x71, x72, x73, x74, x75, x76, x77, x78, x79, x80, x81, x82, x83, x84, x85, x86, x87, x88, .inl (.int .i64 (22 : Nat)), .inl (.bool false), x91, x92, x93, x94, x95, x96, x97, uu, uu, uu, uu, uu, uu, uu, uu]) (m' := [(ai 44 (dg V), 106), (ai 22 (fun _ => 0), 36), (ai 22 (dg (V - 0 * pp)), 36)]) (by kernel_rfl) (by kernel_rfl)
        refine loop_up (V / pp) (fun e a w => ∃ (x98 x99 x100 x101 x102 x103 x104 : SV) (β : Nat → Nat), St (wd W0) [.inl (.agg (ai 44 F)), .inr (0, pt 0), .inr (1, pt 0), .inl (.int .i64 (5 : Nat)), x4, x5, x6, x7, .inl (.int .i64 (2 : Nat)), x9, x10, .inr (2, pt 0), .inl (.int .i64 (22 : Nat)), .inl (.int .i64 (5 : Nat)), .inl (.bool false), x15, x16, x17, x18, x19, x20, x21, x22, x23, x24, x25, x26, x27, x28, x29, x30, x31, x32, x33, x34, x35, x36, x37, x38, x39, x40, x41, x42, x43, x44, x45, x46, x47, x48, x49, .inl (.int .i64 (2 : Nat)), .inl (.bool false), x52, x53, x54, x55, x56, x57, x58, x59, x60, x61, x62, x63, x64, x65, x66, x67, x68, x69, x70, x71, x72, x73, x74, x75, x76, x77, x78, x79, x80, x81, x82, x83, x84, x85, x86, x87, x88, .inl (.int .i64 (22 : Nat)), .inl (.bool false), x91, x92, x93, x94, x95, x96, x97, x98, x99, x100, x101, x102, x103, x104, uu] [(ai 44 (dg V), 106), (ai 22 (fun _ => 0), 36), (ai 22 (dg (V - e * pp)), 36)] β a w) ⟨_, _, _, _, _, _, _, β, h⟩ ?_
        clear h; rintro e a w hke ⟨x98, x99, x100, x101, x102, x103, x104, β, h⟩; replace h := h.o0
        rcases Nat.lt_or_ge e (V / pp) with hlte | hgee
        · refine sym_seq ?_
          refine sym_seq ?_
          refine St.r0 h [(98, .inl (.agg (ai 22 (dg (V - e * pp))))), (99, .inl (.agg (ai 22 (dg pp)))), (100, .inl (.bool false)), (101, .inl (.bool true))] [eR 2] ?_ ?_
          · exact oc (k_ld 2 0 (.agg (ai 22 (dg (V - e * pp)))) (c := ai 22 (dg (V - e * pp))) (ld22 (F := (dg (V - e * pp))) 36) rfl rfl) <|
            oz (k_ca 67 #[] (.agg (ai 22 (dg pp))) prime_r rfl rfl) <|
            oz (k_ca 96 #[.agg (ai 22 (dg (V - e * pp))), .agg (ai 22 (dg pp))] (.bool false) (fun w => below_b (sub_big hV) pp_big (decide_eq_false (Nat.not_lt.2 (q_lt hlte))) w) rfl rfl) <|
            oz (k_nt false rfl rfl) <|
            ok_nil
          clear h; intro β a w h
          refine sym_then ?_
          refine s_ct h ?_
          refine wp_skip ?_
          refine sym_then ?_
          refine blk_in ?_
          refine St.rg h [(102, .inl (.agg (ai 22 (dg (V - e * pp))))), (103, .inl (.agg (ai 22 (dg pp)))), (104, .inl (.agg (ai 22 (dg ((V - e * pp) - pp)))))] [] [(2, ai 22 (dg ((V - e * pp) - pp)))] [eR 2, nn, nn, eS 2] ?_ ?_
          · exact oc (k_ld 2 0 (.agg (ai 22 (dg (V - e * pp)))) (c := ai 22 (dg (V - e * pp))) (ld22 (F := (dg (V - e * pp))) 36) rfl rfl) <|
            oc (k_ca 67 #[] (.agg (ai 22 (dg pp))) prime_r rfl rfl) <|
            oc (k_ca 66 #[.agg (ai 22 (dg (V - e * pp))), .agg (ai 22 (dg pp))] (.agg (ai 22 (dg ((V - e * pp) - pp)))) (fun w => less_r (m := V - e * pp) (n := pp) (q_lt hlte) w) rfl rfl) <|
            oc (k_st 2 0 (.agg (ai 22 (dg ((V - e * pp) - pp)))) (c := ai 22 (dg (V - e * pp))) (n := ai 22 (dg ((V - e * pp) - pp))) (st22 (F := (dg ((V - e * pp) - pp))) (c := ai 22 (dg (V - e * pp))) 36 (ai_size _ _)) rfl rfl) <|
            ok_nil
          clear h; intro β a w h
          refine blk_norm ?_
          replace h := St.sm h 2 (ai 22 (dg (V - (e + 1) * pp))) (c := ai 22 (dg ((V - e * pp) - pp))) (t := 36) (by rw [q_next])
          replace h := St.cs h (s' := [.inl (.agg (ai 44 F)), .inr (0, pt 0), .inr (1, pt 0), .inl (.int .i64 (5 : Nat)), x4, x5, x6, x7, .inl (.int .i64 (2 : Nat)), x9, x10, .inr (2, pt 0), .inl (.int .i64 (22 : Nat)), .inl (.int .i64 (5 : Nat)), .inl (.bool false), x15, x16, x17, x18, x19, x20, x21, x22, x23, x24, x25, x26, x27, x28, x29, x30, x31, x32, x33, x34, x35, x36, x37, x38, x39, x40, x41, x42, x43, x44, x45, x46, x47, x48, x49, .inl (.int .i64 (2 : Nat)), .inl (.bool false), x52, x53, x54, x55, x56, x57, x58, x59, x60, x61, x62, x63, x64, x65, x66, x67, x68, x69, x70, x71, x72, x73, x74, x75, x76, x77, x78, x79, x80, x81, x82, x83, x84, x85, x86, x87, x88, .inl (.int .i64 (22 : Nat)), .inl (.bool false), x91, x92, x93, x94, x95, x96, x97, .inl (.agg (ai 22 (dg (V - e * pp)))), .inl (.agg (ai 22 (dg pp))), .inl (.bool false), .inl (.bool true), .inl (.agg (ai 22 (dg (V - e * pp)))), .inl (.agg (ai 22 (dg pp))), .inl (.agg (ai 22 (dg ((V - e * pp) - pp)))), uu]) (m' := [(ai 44 (dg V), 106), (ai 22 (fun _ => 0), 36), (ai 22 (dg (V - (e + 1) * pp)), 36)]) (by kernel_rfl) (by kernel_rfl)
          exact ⟨hlte, _, _, _, _, _, _, _, _, h⟩
        · obtain rfl : (V / pp) = e := by omega
          refine sym_seq ?_
          refine sym_seq ?_
          refine St.r0 h [(98, .inl (.agg (ai 22 (dg (V - (V / pp) * pp))))), (99, .inl (.agg (ai 22 (dg pp)))), (100, .inl (.bool true)), (101, .inl (.bool false))] [eR 2] ?_ ?_
          · exact oc (k_ld 2 0 (.agg (ai 22 (dg (V - (V / pp) * pp)))) (c := ai 22 (dg (V - (V / pp) * pp))) (ld22 (F := (dg (V - (V / pp) * pp))) 36) rfl rfl) <|
            oz (k_ca 67 #[] (.agg (ai 22 (dg pp))) prime_r rfl rfl) <|
            oz (k_ca 96 #[.agg (ai 22 (dg (V - (V / pp) * pp))), .agg (ai 22 (dg pp))] (.bool true) (fun w => below_b (sub_big hV) pp_big (decide_eq_true (by rw [q_end]; exact mod_pp _)) w) rfl rfl) <|
            oz (k_nt true rfl rfl) <|
            ok_nil
          clear h; intro β a w h
          refine sym_then ?_
          refine s_cf h ?_
          refine wp_exit ?_
          refine then_exit ?_
          refine then_exit ?_
          refine blk_exit ?_
          refine sym_then ?_
          refine sym_seq ?_
          refine St.rg h [(105, .inl (.agg (ai 22 (dg (V - (V / pp) * pp)))))] [] [(1, ai 22 (dg (V - (V / pp) * pp)))] [eR 2, eS 1] ?_ ?_
          · exact oc (k_ld 2 0 (.agg (ai 22 (dg (V - (V / pp) * pp)))) (c := ai 22 (dg (V - (V / pp) * pp))) (ld22 (F := (dg (V - (V / pp) * pp))) 36) rfl rfl) <|
            oc (k_st 1 0 (.agg (ai 22 (dg (V - (V / pp) * pp)))) (c := ai 22 (fun _ => 0)) (n := ai 22 (dg (V - (V / pp) * pp))) (st22 (F := (dg (V - (V / pp) * pp))) (c := ai 22 (fun _ => 0)) 36 (ai_size _ _)) rfl rfl) <|
            ok_nil
          clear h; intro β a w h
          refine sym_then ?_
          refine wp_ret ?_
          exact s_rc (b := 1) (t0 := 36) (c := ai 22 (dg (V - (V / pp) * pp))) h Tryz.results71 Tryz.underlying36 (fun hb => ⟨rfl, hb⟩) (by rw [ai_size]; kernel_rfl)
end Go.Proofs.YtacokkedomjgpaaGreatDoor

namespace Go.Proofs.YtacokkedomjgpaaGreatDoor

def plF (m n k j : Nat) : Nat := if j < k then dg m j + dg n j else 0
theorem plF_zero (m n : Nat) : ai 44 (fun _ => 0) = ai 44 (plF m n 0) := ai_congr fun i _ => by simp [plF]
theorem plF_next (m n k : Nat) : ai 44 (updN (plF m n k) k (dg m k + dg n k)) = ai 44 (plF m n (k + 1)) := ai_congr fun i _ => by
  unfold updN plF
  by_cases e : i = k
  · subst e; simp
  · have : (i < k + 1) = (i < k) := by simp; omega
    simp [e, this]
theorem plF_lt (m n k i : Nat) : plF m n k i < 1099511627776 := by
  unfold plF
  have := dg_lt m i; have := dg_lt n i
  split <;> omega
theorem plF_pv {m n : Nat} (hm : m < 4096 ^ 22) (hn : n < 4096 ^ 22) : pv (plF m n 22) 44 = m + n := by
  have h1 : pv (plF m n 22) 44 = pv (plF m n 22) 22 := pv_zero (a := 22) 22 (fun j h1 _ => by unfold plF; rw [if_neg (by omega)])
  have h2 : pv (plF m n 22) 22 = pv (fun j => dg m j + 1 * dg n j) 22 := pv_congr 22 fun i hi => by unfold plF; rw [if_pos hi, Nat.one_mul]
  rw [h1, h2, pv_add, pv_dg, pv_dg, Nat.mod_eq_of_lt hm, Nat.mod_eq_of_lt hn, Nat.one_mul]
theorem plF_big {m n : Nat} (hm : m < 4096 ^ 22) (hn : n < 4096 ^ 22) : m + n < 4096 ^ 44 := by
  have : 4096 ^ 22 + 4096 ^ 22 < 4096 ^ 44 := by decide +kernel
  omega

theorem dm_le (m n i j : Nat) : dg m i * dg n j ≤ 16769025 := Nat.mul_le_mul (Nat.le_of_lt_succ (dg_lt m i)) (Nat.le_of_lt_succ (dg_lt n j))
def roF (G : Nat → Nat) (i a n k j : Nat) : Nat := if i ≤ j ∧ j < i + k then G j + a * dg n (j - i) else G j
theorem roF_zero (G : Nat → Nat) (i a n : Nat) : ai 44 G = ai 44 (roF G i a n 0) := ai_congr fun j _ => by unfold roF; rw [if_neg (by omega)]
theorem roF_at (G : Nat → Nat) (i a n k : Nat) : roF G i a n k (i + k) = G (i + k) := by unfold roF; rw [if_neg (by omega)]
theorem roF_next (G : Nat → Nat) (i a n k : Nat) : ai 44 (updN (roF G i a n k) (i + k) (roF G i a n k (i + k) + a * dg n k)) = ai 44 (roF G i a n (k + 1)) := ai_congr fun j _ => by
  rw [roF_at]
  unfold updN
  by_cases e : j = i + k
  · subst e; rw [if_pos rfl]; unfold roF; rw [if_pos (by omega), show i + k - i = k by omega]
  · rw [if_neg e]; unfold roF
    by_cases h : i ≤ j ∧ j < i + k
    · rw [if_pos h, if_pos (by omega)]
    · rw [if_neg h, if_neg (by omega)]
def tmF (m n : Nat) : Nat → Nat → Nat
  | 0 => fun _ => 0
  | i + 1 => roF (tmF m n i) i (dg m i) n 22
theorem tmF_lt (m n : Nat) : ∀ i j, tmF m n i j ≤ i * 16769025 := by
  intro i
  induction i with
  | zero => intro j; simp [tmF]
  | succ i ih =>
    intro j
    show roF (tmF m n i) i (dg m i) n 22 j ≤ _
    have h1 := ih j
    have h2 := dm_le m n i (j - i)
    rw [Nat.succ_mul]
    generalize i * 16769025 = y at *
    generalize dg m i * dg n (j - i) = x at *
    unfold roF
    split
    · generalize tmF m n i j = t at *
      show t + dg m i * dg n (j - i) ≤ _
      have h2 := dm_le m n i (j - i)
      omega
    · omega
theorem pv_roF (G : Nat → Nat) {i K : Nat} (n a : Nat) : ∀ k, i + k ≤ K → pv (roF G i a n k) K = pv G K + a * (n % 4096 ^ k) * 4096 ^ i := by
  intro k
  induction k with
  | zero =>
    intro _
    rw [pv_congr (G := G) K (fun j _ => by unfold roF; rw [if_neg (by omega)]), Nat.pow_zero, Nat.mod_one]; simp
  | succ k ih =>
    intro hk
    have ih := ih (by omega)
    have h1 : pv (roF G i a n (k + 1)) K = pv (updN (roF G i a n k) (i + k) (roF G i a n k (i + k) + a * dg n k)) K := pv_congr K fun j _ => by
      rw [roF_at]
      unfold updN
      by_cases e : j = i + k
      · subst e; rw [if_pos rfl]; unfold roF; rw [if_pos (by omega), show i + k - i = k by omega]
      · rw [if_neg e]; unfold roF
        by_cases h : i ≤ j ∧ j < i + k
        · rw [if_pos h, if_pos (by omega)]
        · rw [if_neg h, if_neg (by omega)]
    have h2 := pv_upd (roF G i a n k) (i + k) (roF G i a n k (i + k) + a * dg n k) K (by omega)
    rw [← h1, ih, Nat.add_mul] at h2
    have h3 : a * (n % 4096 ^ (k + 1)) * 4096 ^ i = a * (n % 4096 ^ k) * 4096 ^ i + a * dg n k * 4096 ^ (i + k) := by
      rw [mod_step, Nat.mul_add, Nat.add_mul, Nat.pow_add, Nat.mul_assoc a (dg n k), Nat.mul_comm (4096 ^ i) (4096 ^ k)]
      simp only [Nat.mul_assoc]
    omega
theorem pv_tmF {m n : Nat} (hn : n < 4096 ^ 22) : ∀ i, i ≤ 22 → pv (tmF m n i) 44 = (m % 4096 ^ i) * n := by
  intro i
  induction i with
  | zero =>
    intro _
    rw [Nat.pow_zero, Nat.mod_one, Nat.zero_mul]
    have h : ∀ k, pv (tmF m n 0) k = 0 := by
      intro k
      induction k with
      | zero => rfl
      | succ k ih => rw [pv, ih]; simp [tmF]
    exact h 44
  | succ i ih =>
    intro hi
    show pv (roF (tmF m n i) i (dg m i) n 22) 44 = _
    rw [pv_roF _ _ _ 22 (by omega), ih (by omega), Nat.mod_eq_of_lt hn, mod_step, Nat.add_mul]
    congr 1
    rw [Nat.mul_assoc, Nat.mul_comm n, ← Nat.mul_assoc]
theorem tmF_pv {m n : Nat} (hm : m < 4096 ^ 22) (hn : n < 4096 ^ 22) : pv (tmF m n 22) 44 = m * n := by
  rw [pv_tmF hn 22 (by omega), Nat.mod_eq_of_lt hm]
theorem tmF_big {m n : Nat} (hm : m < 4096 ^ 22) (hn : n < 4096 ^ 22) : m * n < 4096 ^ 44 := by
  rw [show 4096 ^ 44 = 4096 ^ 22 * 4096 ^ 22 from by decide +kernel]
  exact Nat.mul_lt_mul_of_lt_of_lt hm hn
theorem tmF_fl (m n i j : Nat) (hi : i ≤ 22) : tmF m n i j < 1099511627776 := by
  have := tmF_lt m n i j
  have : i * 16769025 ≤ 22 * 16769025 := Nat.mul_le_mul_right _ hi
  omega
end Go.Proofs.YtacokkedomjgpaaGreatDoor

namespace Go.Proofs.YtacokkedomjgpaaGreatDoor
open Go.RowKit
set_option maxHeartbeats 2000000 in
theorem plus_r {m n : Nat} (hm : m < 4096 ^ 22) (hn : n < 4096 ^ 22) (W0 : World) : Calls Tryz.prog 69 #[.agg (ai 22 (dg m)), .agg (ai 22 (dg n))] W0 fun e w' => e = .returned (.agg (ai 22 (dg ((m + n) % pp)))) ∧ Below W0.heap.size W0 w' := by
  refine s_in Tryz.func69 Tryz.ntmps69 rfl [.inl (.agg (ai 22 (dg m))), .inl (.agg (ai 22 (dg n)))] ?_
  intro β a h
  refine sym_seq ?_
  refine St.rg h [(2, .inr (0, pt 0)), (3, .inr (1, pt 0)), (4, .inr (2, pt 0))] [(ai 22 (dg m), 36), (ai 22 (dg n), 36), (ai 22 (fun _ => 0), 36)] [] [eN 0, eN 1, eN 2] ?_ ?_
  · exact oc (k_bx 0 (.agg (ai 22 (dg m))) (bx22 (F := (dg m))) rfl rfl) <|
    oc (k_bx 1 (.agg (ai 22 (dg n))) (bx22 (F := (dg n))) rfl rfl) <|
    oc (k_al 2 al22 rfl rfl) <|
    ok_nil
  clear h; intro β a w h
  refine sym_then ?_
  refine sym_seq ?_
  refine St.rg h [(5, .inr (3, pt 0))] [(ai 44 (fun _ => 0), 106)] [] [eN 3] ?_ ?_
  · exact oc (k_al 3 al44 rfl rfl) <|
    ok_nil
  clear h; intro β a w h
  refine sym_then ?_
  refine sym_seq ?_
  refine sym_seq ?_
  refine St.r0 h [(6, .inl (.int .i64 (0 : Nat)))] [] ?_ ?_
  · exact oz (k_mv (.inr rfl) rfl) <|
    ok_nil
  clear h; intro β a w h
  refine sym_then ?_
  refine blk_in ?_
  replace h := St.sm h 3 (ai 44 (plF m n 0)) (c := ai 44 (fun _ => 0)) (t := 106) (plF_zero m n)
  replace h := St.cs h (s' := [.inl (.agg (ai 22 (dg m))), .inl (.agg (ai 22 (dg n))), .inr (0, pt 0), .inr (1, pt 0), .inr (2, pt 0), .inr (3, pt 0), .inl (.int .i64 (0 : Nat)), uu, uu, uu, uu, uu, uu, uu, uu, uu, uu, uu, uu, uu, uu, uu]) (m' := [(ai 22 (dg m), 36), (ai 22 (dg n), 36), (ai 22 (fun _ => 0), 36), (ai 44 (plF m n 0), 106)]) (by kernel_rfl) (by kernel_rfl)
  refine loop_up 22 (fun k a w => ∃ (x7 x8 x9 x10 x11 x12 x13 x14 x15 x16 x17 x18 x19 : SV) (β : Nat → Nat), St (wd W0) [.inl (.agg (ai 22 (dg m))), .inl (.agg (ai 22 (dg n))), .inr (0, pt 0), .inr (1, pt 0), .inr (2, pt 0), .inr (3, pt 0), .inl (.int .i64 (k : Nat)), x7, x8, x9, x10, x11, x12, x13, x14, x15, x16, x17, x18, x19, uu, uu] [(ai 22 (dg m), 36), (ai 22 (dg n), 36), (ai 22 (fun _ => 0), 36), (ai 44 (plF m n k), 106)] β a w) ⟨_, _, _, _, _, _, _, _, _, _, _, _, _, β, h⟩ ?_
  clear h; rintro k a w hkk ⟨x7, x8, x9, x10, x11, x12, x13, x14, x15, x16, x17, x18, x19, β, h⟩; replace h := h.o0
  have g1 := dg_lt m k
  have g2 := dg_lt n k
  rcases Nat.lt_or_ge k 22 with hltk | hgek
  · refine sym_seq ?_
    refine sym_seq ?_
    refine St.r0 h [(7, .inl (.int .i64 (k : Nat))), (8, .inl (.bool true))] [] ?_ ?_
    · exact oz (k_mv (.inl rfl) rfl) <|
      oz (k_bi (.int .i64 (k : Nat)) (.int .i64 (22 : Nat)) (.bool true) (lt_i (m := ((k : Nat) : Int)) (n := ((22 : Nat) : Int)) (decide_eq_true (by omega))) rfl rfl) <|
      ok_nil
    clear h; intro β a w h
    refine sym_then ?_
    refine s_ct h ?_
    refine wp_skip ?_
    refine sym_then ?_
    refine sym_seq ?_
    refine blk_in ?_
    refine St.rg h [(11, .inl (.int .i64 (k : Nat))), (12, .inl (.int .i64 (k : Nat))), (13, .inr (0, pt k)), (14, .inl (.int .i64 (((dg m) k) : Nat))), (15, .inl (.int .i64 (k : Nat))), (16, .inr (1, pt k)), (17, .inl (.int .i64 (((dg n) k) : Nat))), (18, .inl (.int .i64 ((((dg m) k) + ((dg n) k)) : Nat))), (19, .inr (3, pt k))] [] [(3, ai 44 (updN (plF m n k) k (((dg m) k) + ((dg n) k))))] [nn, nn, nn, eR 0, nn, nn, eR 1, nn, nn, eS 3] ?_ ?_
    · exact oc (k_mv (.inl rfl) rfl) <|
      oc (k_mv (.inl rfl) rfl) <|
      oc (k_ia 0 0 k (.int .i64 (k : Nat)) (ix22 (i := k) (by omega)) rfl rfl) <|
      oc (k_ld 0 k (.int .i64 (((dg m) k) : Nat)) (c := ai 22 (dg m)) (ld_at (n := 22) (F := (dg m)) (i := k) (t0 := 36) (by omega)) rfl rfl) <|
      oc (k_mv (.inl rfl) rfl) <|
      oc (k_ia 1 0 k (.int .i64 (k : Nat)) (ix22 (i := k) (by omega)) rfl rfl) <|
      oc (k_ld 1 k (.int .i64 (((dg n) k) : Nat)) (c := ai 22 (dg n)) (ld_at (n := 22) (F := (dg n)) (i := k) (t0 := 36) (by omega)) rfl rfl) <|
      oc (k_bi (.int .i64 (((dg m) k) : Nat)) (.int .i64 (((dg n) k) : Nat)) (.int .i64 ((((dg m) k) + ((dg n) k)) : Nat)) (ad_i (m := ((dg m) k)) (n := ((dg n) k)) (by omega)) rfl rfl) <|
      oc (k_ia 3 0 k (.int .i64 (k : Nat)) (ix44 (i := k) (by omega)) rfl rfl) <|
      oc (k_st 3 k (.int .i64 ((((dg m) k) + ((dg n) k)) : Nat)) (c := ai 44 (plF m n k)) (n := ai 44 (updN (plF m n k) k (((dg m) k) + ((dg n) k)))) (st_at (n := 44) (F := (plF m n k)) (i := k) (v := (((dg m) k) + ((dg n) k))) (t0 := 106) (by omega)) rfl rfl) <|
      ok_nil
    clear h; intro β a w h
    refine blk_norm ?_
    refine sym_then ?_
    refine St.r0 h [(9, .inl (.int .i64 (k : Nat))), (10, .inl (.int .i64 ((k + 1) : Nat))), (6, .inl (.int .i64 ((k + 1) : Nat)))] [eO] ?_ ?_
    · exact oc (k_m0 rfl rfl) <|
      oz (k_bi (.int .i64 (k : Nat)) (.int .i64 (1 : Nat)) (.int .i64 ((k + 1) : Nat)) (ad_i (m := k) (n := 1) (by omega)) rfl rfl) <|
      oz (k_mv (.inr rfl) rfl) <|
      ok_nil
    clear h; intro β a w h
    replace h := St.sm h 3 (ai 44 (plF m n (k + 1))) (c := ai 44 (updN (plF m n k) k (((dg m) k) + ((dg n) k)))) (t := 106) (plF_next m n k)
    replace h := St.cs h (s' := [.inl (.agg (ai 22 (dg m))), .inl (.agg (ai 22 (dg n))), .inr (0, pt 0), .inr (1, pt 0), .inr (2, pt 0), .inr (3, pt 0), .inl (.int .i64 ((k + 1) : Nat)), .inl (.int .i64 (k : Nat)), .inl (.bool true), .inl (.int .i64 (k : Nat)), .inl (.int .i64 ((k + 1) : Nat)), .inl (.int .i64 (k : Nat)), .inl (.int .i64 (k : Nat)), .inr (0, pt k), .inl (.int .i64 (((dg m) k) : Nat)), .inl (.int .i64 (k : Nat)), .inr (1, pt k), .inl (.int .i64 (((dg n) k) : Nat)), .inl (.int .i64 ((((dg m) k) + ((dg n) k)) : Nat)), .inr (3, pt k), uu, uu]) (m' := [(ai 22 (dg m), 36), (ai 22 (dg n), 36), (ai 22 (fun _ => 0), 36), (ai 44 (plF m n (k + 1)), 106)]) (by kernel_rfl) (by kernel_rfl)
    exact ⟨hltk, _, _, _, _, _, _, _, _, _, _, _, _, _, _, h⟩
  · obtain rfl : k = 22 := by omega
    refine sym_seq ?_
    refine sym_seq ?_
    refine St.r0 h [(7, .inl (.int .i64 (22 : Nat))), (8, .inl (.bool false))] [] ?_ ?_
    · exact oz (k_mv (.inl rfl) rfl) <|
      oz (k_bi (.int .i64 (22 : Nat)) (.int .i64 (22 : Nat)) (.bool false) (lt_i (m := ((22 : Nat) : Int)) (n := ((22 : Nat) : Int)) (decide_eq_false (by omega))) rfl rfl) <|
      ok_nil
    clear h; intro β a w h
    refine sym_then ?_
    refine s_cf h ?_
    refine wp_exit ?_
    refine then_exit ?_
    refine then_exit ?_
    refine blk_exit ?_
    refine sym_then ?_
    refine sym_seq ?_
    refine St.rg h [(20, .inl (.agg (ai 44 (plF m n 22)))), (21, .inl (.agg (ai 22 (dg ((m + n) % pp)))))] [] [(2, ai 22 (dg ((m + n) % pp)))] [eR 3, nn, eS 2] ?_ ?_
    · exact oc (k_ld 3 0 (.agg (ai 44 (plF m n 22))) (c := ai 44 (plF m n 22)) (ld44 (F := (plF m n 22)) 106) rfl rfl) <|
      oc (k_ca 71 #[.agg (ai 44 (plF m n 22))] (.agg (ai 22 (dg ((m + n) % pp)))) (fun w => least_r (plF_lt m n 22) (plF_pv hm hn) (plF_big hm hn) w) rfl rfl) <|
      oc (k_st 2 0 (.agg (ai 22 (dg ((m + n) % pp)))) (c := ai 22 (fun _ => 0)) (n := ai 22 (dg ((m + n) % pp))) (st22 (F := (dg ((m + n) % pp))) (c := ai 22 (fun _ => 0)) 36 (ai_size _ _)) rfl rfl) <|
      ok_nil
    clear h; intro β a w h
    refine sym_then ?_
    refine wp_ret ?_
    exact s_rc (b := 2) (t0 := 36) (c := ai 22 (dg ((m + n) % pp))) h Tryz.results69 Tryz.underlying36 (fun hb => ⟨rfl, hb⟩) (by rw [ai_size]; kernel_rfl)
set_option maxHeartbeats 2000000 in
theorem minus_r {m n : Nat} (hm : m < 4096 ^ 22) (hn : n ≤ pp) (W0 : World) : Calls Tryz.prog 70 #[.agg (ai 22 (dg m)), .agg (ai 22 (dg n))] W0 fun e w' => e = .returned (.agg (ai 22 (dg ((m + (pp - n)) % pp)))) ∧ Below W0.heap.size W0 w' := by
  have hpn : pp - n < 4096 ^ 22 := Nat.lt_of_le_of_lt (Nat.sub_le _ _) pp_big
  refine s_in Tryz.func70 Tryz.ntmps70 rfl [.inl (.agg (ai 22 (dg m))), .inl (.agg (ai 22 (dg n)))] ?_
  intro β a h
  refine sym_seq ?_
  refine St.rg h [(2, .inr (0, pt 0)), (3, .inr (1, pt 0)), (4, .inr (2, pt 0))] [(ai 22 (dg m), 36), (ai 22 (dg n), 36), (ai 22 (fun _ => 0), 36)] [] [eN 0, eN 1, eN 2] ?_ ?_
  · exact oc (k_bx 0 (.agg (ai 22 (dg m))) (bx22 (F := (dg m))) rfl rfl) <|
    oc (k_bx 1 (.agg (ai 22 (dg n))) (bx22 (F := (dg n))) rfl rfl) <|
    oc (k_al 2 al22 rfl rfl) <|
    ok_nil
  clear h; intro β a w h
  refine sym_then ?_
  refine sym_seq ?_
  refine St.rg h [(5, .inl (.agg (ai 22 (dg m)))), (6, .inl (.agg (ai 22 (dg pp)))), (7, .inl (.agg (ai 22 (dg n)))), (8, .inl (.agg (ai 22 (dg (pp - n))))), (9, .inl (.agg (ai 22 (dg ((m + (pp - n)) % pp)))))] [] [(2, ai 22 (dg ((m + (pp - n)) % pp)))] [eR 0, nn, eR 1, nn, nn, eS 2] ?_ ?_
  · exact oc (k_ld 0 0 (.agg (ai 22 (dg m))) (c := ai 22 (dg m)) (ld22 (F := (dg m)) 36) rfl rfl) <|
    oc (k_ca 67 #[] (.agg (ai 22 (dg pp))) prime_r rfl rfl) <|
    oc (k_ld 1 0 (.agg (ai 22 (dg n))) (c := ai 22 (dg n)) (ld22 (F := (dg n)) 36) rfl rfl) <|
    oc (k_ca 66 #[.agg (ai 22 (dg pp)), .agg (ai 22 (dg n))] (.agg (ai 22 (dg (pp - n)))) (fun w => less_r hn w) rfl rfl) <|
    oc (k_ca 69 #[.agg (ai 22 (dg m)), .agg (ai 22 (dg (pp - n)))] (.agg (ai 22 (dg ((m + (pp - n)) % pp)))) (fun w => plus_r hm hpn w) rfl rfl) <|
    oc (k_st 2 0 (.agg (ai 22 (dg ((m + (pp - n)) % pp)))) (c := ai 22 (fun _ => 0)) (n := ai 22 (dg ((m + (pp - n)) % pp))) (st22 (F := (dg ((m + (pp - n)) % pp))) (c := ai 22 (fun _ => 0)) 36 (ai_size _ _)) rfl rfl) <|
    ok_nil
  clear h; intro β a w h
  refine sym_then ?_
  refine wp_ret ?_
  exact s_rc (b := 2) (t0 := 36) (c := ai 22 (dg ((m + (pp - n)) % pp))) h Tryz.results70 Tryz.underlying36 (fun hb => ⟨rfl, hb⟩) (by rw [ai_size]; kernel_rfl)
set_option maxHeartbeats 2000000 in
theorem times_r {m n : Nat} (hm : m < 4096 ^ 22) (hn : n < 4096 ^ 22) (W0 : World) : Calls Tryz.prog 34 #[.agg (ai 22 (dg m)), .agg (ai 22 (dg n))] W0 fun e w' => e = .returned (.agg (ai 22 (dg (m * n % pp)))) ∧ Below W0.heap.size W0 w' := by
  refine s_in Tryz.func34 Tryz.ntmps34 rfl [.inl (.agg (ai 22 (dg m))), .inl (.agg (ai 22 (dg n)))] ?_
  intro β a h
  refine sym_seq ?_
  refine St.rg h [(2, .inr (0, pt 0)), (3, .inr (1, pt 0)), (4, .inr (2, pt 0))] [(ai 22 (dg m), 36), (ai 22 (dg n), 36), (ai 22 (fun _ => 0), 36)] [] [eN 0, eN 1, eN 2] ?_ ?_
  · exact oc (k_bx 0 (.agg (ai 22 (dg m))) (bx22 (F := (dg m))) rfl rfl) <|
    oc (k_bx 1 (.agg (ai 22 (dg n))) (bx22 (F := (dg n))) rfl rfl) <|
    oc (k_al 2 al22 rfl rfl) <|
    ok_nil
  clear h; intro β a w h
  refine sym_then ?_
  refine sym_seq ?_
  refine St.rg h [(5, .inr (3, pt 0))] [(ai 44 (fun _ => 0), 106)] [] [eN 3] ?_ ?_
  · exact oc (k_al 3 al44 rfl rfl) <|
    ok_nil
  clear h; intro β a w h
  refine sym_then ?_
  refine sym_seq ?_
  refine sym_seq ?_
  refine St.r0 h [(6, .inl (.int .i64 (0 : Nat)))] [] ?_ ?_
  · exact oz (k_mv (.inr rfl) rfl) <|
    ok_nil
  clear h; intro β a w h
  refine sym_then ?_
  refine blk_in ?_
  replace h := St.sm h 3 (ai 44 (tmF m n 0)) (c := ai 44 (fun _ => 0)) (t := 106) rfl
  replace h := St.cs h (s' := [.inl (.agg (ai 22 (dg m))), .inl (.agg (ai 22 (dg n))), .inr (0, pt 0), .inr (1, pt 0), .inr (2, pt 0), .inr (3, pt 0), .inl (.int .i64 (0 : Nat)), uu, uu, uu, uu, uu, uu, uu, uu, uu, uu, uu, uu, uu, uu, uu, uu, uu, uu, uu, uu, uu, uu, uu, uu, uu, uu, uu, uu]) (m' := [(ai 22 (dg m), 36), (ai 22 (dg n), 36), (ai 22 (fun _ => 0), 36), (ai 44 (tmF m n 0), 106)]) (by kernel_rfl) (by kernel_rfl)
  refine loop_up 22 (fun i a w => ∃ (x7 x8 x9 x10 x11 x12 x13 x14 x15 x16 x17 x18 x19 x20 x21 x22 x23 x24 x25 x26 x27 x28 x29 x30 x31 x32 : SV) (β : Nat → Nat), St (wd W0) [.inl (.agg (ai 22 (dg m))), .inl (.agg (ai 22 (dg n))), .inr (0, pt 0), .inr (1, pt 0), .inr (2, pt 0), .inr (3, pt 0), .inl (.int .i64 (i : Nat)), x7, x8, x9, x10, x11, x12, x13, x14, x15, x16, x17, x18, x19, x20, x21, x22, x23, x24, x25, x26, x27, x28, x29, x30, x31, x32, uu, uu] [(ai 22 (dg m), 36), (ai 22 (dg n), 36), (ai 22 (fun _ => 0), 36), (ai 44 (tmF m n i), 106)] β a w) ⟨_, _, _, _, _, _, _, _, _, _, _, _, _, _, _, _, _, _, _, _, _, _, _, _, _, _, β, h⟩ ?_
  clear h; rintro i a w hki ⟨x7, x8, x9, x10, x11, x12, x13, x14, x15, x16, x17, x18, x19, x20, x21, x22, x23, x24, x25, x26, x27, x28, x29, x30, x31, x32, β, h⟩; replace h := h.o0
  rcases Nat.lt_or_ge i 22 with hlti | hgei
  · refine sym_seq ?_
    refine sym_seq ?_
    refine St.r0 h [(8, .inl (.int .i64 (i : Nat))), (9, .inl (.bool true))] [] ?_ ?_
    · exact oz (k_mv (.inl rfl) rfl) <|
      oz (k_bi (.int .i64 (i : Nat)) (.int .i64 (22 : Nat)) (.bool true) (lt_i (m := ((i : Nat) : Int)) (n := ((22 : Nat) : Int)) (decide_eq_true (by omega))) rfl rfl) <|
      ok_nil
    clear h; intro β a w h
    refine sym_then ?_
    refine s_ct h ?_
    refine wp_skip ?_
    refine sym_then ?_
    refine sym_seq ?_
    refine blk_in ?_
    refine sym_seq ?_
    refine St.r0 h [(7, .inl (.int .i64 (0 : Nat)))] [] ?_ ?_
    · exact oz (k_mv (.inr rfl) rfl) <|
      ok_nil
    clear h; intro β a w h
    refine sym_then ?_
    refine blk_in ?_
    replace h := St.sm h 3 (ai 44 (roF (tmF m n i) i (dg m i) n 0)) (c := ai 44 (tmF m n i)) (t := 106) (roF_zero _ _ _ _)
    replace h := St.cs h (s' := [.inl (.agg (ai 22 (dg m))), .inl (.agg (ai 22 (dg n))), .inr (0, pt 0), .inr (1, pt 0), .inr (2, pt 0), .inr (3, pt 0), .inl (.int .i64 (i : Nat)), .inl (.int .i64 (0 : Nat)), .inl (.int .i64 (i : Nat)), .inl (.bool true), x10, x11, x12, x13, x14, x15, x16, x17, x18, x19, x20, x21, x22, x23, x24, x25, x26, x27, x28, x29, x30, x31, x32, uu, uu]) (m' := [(ai 22 (dg m), 36), (ai 22 (dg n), 36), (ai 22 (fun _ => 0), 36), (ai 44 (roF (tmF m n i) i (dg m i) n 0), 106)]) (by kernel_rfl) (by kernel_rfl)
    refine loop_up 22 (fun k a w => ∃ (x12 x13 x14 x15 x16 x17 x18 x19 x20 x21 x22 x23 x24 x25 x26 x27 x28 x29 x30 x31 x32 : SV) (β : Nat → Nat), St (wd W0) [.inl (.agg (ai 22 (dg m))), .inl (.agg (ai 22 (dg n))), .inr (0, pt 0), .inr (1, pt 0), .inr (2, pt 0), .inr (3, pt 0), .inl (.int .i64 (i : Nat)), .inl (.int .i64 (k : Nat)), .inl (.int .i64 (i : Nat)), .inl (.bool true), x10, x11, x12, x13, x14, x15, x16, x17, x18, x19, x20, x21, x22, x23, x24, x25, x26, x27, x28, x29, x30, x31, x32, uu, uu] [(ai 22 (dg m), 36), (ai 22 (dg n), 36), (ai 22 (fun _ => 0), 36), (ai 44 (roF (tmF m n i) i (dg m i) n k), 106)] β a w) ⟨_, _, _, _, _, _, _, _, _, _, _, _, _, _, _, _, _, _, _, _, _, β, h⟩ ?_
    clear h; rintro k a w hkk ⟨x12, x13, x14, x15, x16, x17, x18, x19, x20, x21, x22, x23, x24, x25, x26, x27, x28, x29, x30, x31, x32, β, h⟩; replace h := h.o0
    have g1 := roF_at (tmF m n i) i (dg m i) n k
    have g2 := tmF_fl m n i (i + k) (by omega)
    have g3 := dm_le m n i k
    rcases Nat.lt_or_ge k 22 with hltk | hgek
    · refine sym_seq ?_
      refine sym_seq ?_
      refine St.r0 h [(12, .inl (.int .i64 (k : Nat))), (13, .inl (.bool true))] [] ?_ ?_
      · exact oz (k_mv (.inl rfl) rfl) <|
        oz (k_bi (.int .i64 (k : Nat)) (.int .i64 (22 : Nat)) (.bool true) (lt_i (m := ((k : Nat) : Int)) (n := ((22 : Nat) : Int)) (decide_eq_true (by omega))) rfl rfl) <|
        ok_nil
      clear h; intro β a w h
      refine sym_then ?_
      refine s_ct h ?_
      refine wp_skip ?_
      refine sym_then ?_
      refine sym_seq ?_
      refine blk_in ?_
      refine St.rg h [(16, .inl (.int .i64 (i : Nat))), (17, .inl (.int .i64 (k : Nat))), (18, .inl (.int .i64 ((i + k) : Nat))), (19, .inl (.int .i64 (i : Nat))), (20, .inl (.int .i64 (k : Nat))), (21, .inl (.int .i64 ((i + k) : Nat))), (22, .inr (3, pt (i + k))), (23, .inl (.int .i64 (((roF (tmF m n i) i (dg m i) n k) (i + k)) : Nat))), (24, .inl (.int .i64 (i : Nat))), (25, .inr (0, pt i)), (26, .inl (.int .i64 (((dg m) i) : Nat))), (27, .inl (.int .i64 (k : Nat))), (28, .inr (1, pt k)), (29, .inl (.int .i64 (((dg n) k) : Nat))), (30, .inl (.int .i64 ((((dg m) i) * ((dg n) k)) : Nat))), (31, .inl (.int .i64 ((((roF (tmF m n i) i (dg m i) n k) (i + k)) + (((dg m) i) * ((dg n) k))) : Nat))), (32, .inr (3, pt (i + k)))] [] [(3, ai 44 (updN (roF (tmF m n i) i (dg m i) n k) (i + k) (((roF (tmF m n i) i (dg m i) n k) (i + k)) + (((dg m) i) * ((dg n) k)))))] [nn, nn, nn, nn, nn, nn, nn, eR 3, nn, nn, eR 0, nn, nn, eR 1, nn, nn, nn, eS 3] ?_ ?_
      · exact oc (k_mv (.inl rfl) rfl) <|
        oc (k_mv (.inl rfl) rfl) <|
        oc (k_bi (.int .i64 (i : Nat)) (.int .i64 (k : Nat)) (.int .i64 ((i + k) : Nat)) (ad_i (m := i) (n := k) (by omega)) rfl rfl) <|
        oc (k_mv (.inl rfl) rfl) <|
        oc (k_mv (.inl rfl) rfl) <|
        oc (k_bi (.int .i64 (i : Nat)) (.int .i64 (k : Nat)) (.int .i64 ((i + k) : Nat)) (ad_i (m := i) (n := k) (by omega)) rfl rfl) <|
        oc (k_ia 3 0 ((i + k)) (.int .i64 ((i + k) : Nat)) (ix44 (i := (i + k)) (by omega)) rfl rfl) <|
        oc (k_ld 3 ((i + k)) (.int .i64 (((roF (tmF m n i) i (dg m i) n k) (i + k)) : Nat)) (c := ai 44 (roF (tmF m n i) i (dg m i) n k)) (ld_at (n := 44) (F := (roF (tmF m n i) i (dg m i) n k)) (i := (i + k)) (t0 := 106) (by omega)) rfl rfl) <|
        oc (k_mv (.inl rfl) rfl) <|
        oc (k_ia 0 0 i (.int .i64 (i : Nat)) (ix22 (i := i) (by omega)) rfl rfl) <|
        oc (k_ld 0 i (.int .i64 (((dg m) i) : Nat)) (c := ai 22 (dg m)) (ld_at (n := 22) (F := (dg m)) (i := i) (t0 := 36) (by omega)) rfl rfl) <|
        oc (k_mv (.inl rfl) rfl) <|
        oc (k_ia 1 0 k (.int .i64 (k : Nat)) (ix22 (i := k) (by omega)) rfl rfl) <|
        oc (k_ld 1 k (.int .i64 (((dg n) k) : Nat)) (c := ai 22 (dg n)) (ld_at (n := 22) (F := (dg n)) (i := k) (t0 := 36) (by omega)) rfl rfl) <|
        oc (k_bi (.int .i64 (((dg m) i) : Nat)) (.int .i64 (((dg n) k) : Nat)) (.int .i64 ((((dg m) i) * ((dg n) k)) : Nat)) (mu_i (m := ((dg m) i)) (n := ((dg n) k)) (by omega)) rfl rfl) <|
        oc (k_bi (.int .i64 (((roF (tmF m n i) i (dg m i) n k) (i + k)) : Nat)) (.int .i64 ((((dg m) i) * ((dg n) k)) : Nat)) (.int .i64 ((((roF (tmF m n i) i (dg m i) n k) (i + k)) + (((dg m) i) * ((dg n) k))) : Nat)) (ad_i (m := ((roF (tmF m n i) i (dg m i) n k) (i + k))) (n := (((dg m) i) * ((dg n) k))) (by omega)) rfl rfl) <|
        oc (k_ia 3 0 ((i + k)) (.int .i64 ((i + k) : Nat)) (ix44 (i := (i + k)) (by omega)) rfl rfl) <|
        oc (k_st 3 ((i + k)) (.int .i64 ((((roF (tmF m n i) i (dg m i) n k) (i + k)) + (((dg m) i) * ((dg n) k))) : Nat)) (c := ai 44 (roF (tmF m n i) i (dg m i) n k)) (n := ai 44 (updN (roF (tmF m n i) i (dg m i) n k) (i + k) (((roF (tmF m n i) i (dg m i) n k) (i + k)) + (((dg m) i) * ((dg n) k))))) (st_at (n := 44) (F := (roF (tmF m n i) i (dg m i) n k)) (i := (i + k)) (v := (((roF (tmF m n i) i (dg m i) n k) (i + k)) + (((dg m) i) * ((dg n) k)))) (t0 := 106) (by omega)) rfl rfl) <|
        ok_nil
      clear h; intro β a w h
      refine blk_norm ?_
      refine sym_then ?_
      refine St.r0 h [(14, .inl (.int .i64 (k : Nat))), (15, .inl (.int .i64 ((k + 1) : Nat))), (7, .inl (.int .i64 ((k + 1) : Nat)))] [eO] ?_ ?_
      · exact oc (k_m0 rfl rfl) <|
        oz (k_bi (.int .i64 (k : Nat)) (.int .i64 (1 : Nat)) (.int .i64 ((k + 1) : Nat)) (ad_i (m := k) (n := 1) (by omega)) rfl rfl) <|
        oz (k_mv (.inr rfl) rfl) <|
        ok_nil
      clear h; intro β a w h
      replace h := St.sm h 3 (ai 44 (roF (tmF m n i) i (dg m i) n (k + 1))) (c := ai 44 (updN (roF (tmF m n i) i (dg m i) n k) (i + k) (((roF (tmF m n i) i (dg m i) n k) (i + k)) + (((dg m) i) * ((dg n) k))))) (t := 106) (roF_next _ _ _ _ _)
      replace h := St.cs h (s' := [.inl (.agg (ai 22 (dg m))), .inl (.agg (ai 22 (dg n))), .inr (0, pt 0), .inr (1, pt 0), .inr (2, pt 0), .inr (3, pt 0), .inl (.int .i64 (i : Nat)), .inl (.int .i64 ((k + 1) : Nat)), .inl (.int .i64 (i : Nat)), .inl (.bool true), x10, x11, .inl (.int .i64 (k : Nat)), .inl (.bool true), .inl (.int .i64 (k : Nat)), .inl (.int .i64 ((k + 1) : Nat)), .inl (.int .i64 (i : Nat)), .inl (.int .i64 (k : Nat)), .inl (.int .i64 ((i + k) : Nat)), .inl (.int .i64 (i : Nat)), .inl (.int .i64 (k : Nat)), .inl (.int .i64 ((i + k) : Nat)), .inr (3, pt (i + k)), .inl (.int .i64 (((roF (tmF m n i) i (dg m i) n k) (i + k)) : Nat)), .inl (.int .i64 (i : Nat)), .inr (0, pt i), .inl (.int .i64 (((dg m) i) : Nat)), .inl (.int .i64 (k : Nat)), .inr (1, pt k), .inl (.int .i64 (((dg n) k) : Nat)), .inl (.int .i64 ((((dg m) i) * ((dg n) k)) : Nat)), .inl (.int .i64 ((((roF (tmF m n i) i (dg m i) n k) (i + k)) + (((dg m) i) * ((dg n) k))) : Nat)), .inr (3, pt (i + k)), uu, uu]) (m' := [(ai 22 (dg m), 36), (ai 22 (dg n), 36), (ai 22 (fun _ => 0), 36), (ai 44 (roF (tmF m n i) i (dg m i) n (k + 1)), 106)]) (by kernel_rfl) (by kernel_rfl)
      exact ⟨hltk, _, _, _, _, _, _, _, _, _, _, _, _, _, _, _, _, _, _, _, _, _, _, h⟩
    · obtain rfl : k = 22 := by omega
      refine sym_seq ?_
      refine sym_seq ?_
      refine St.r0 h [(12, .inl (.int .i64 (22 : Nat))), (13, .inl (.bool false))] [] ?_ ?_
      · exact oz (k_mv (.inl rfl) rfl) <|
        oz (k_bi (.int .i64 (22 : Nat)) (.int .i64 (22 : Nat)) (.bool false) (lt_i (m := ((22 : Nat) : Int)) (n := ((22 : Nat) : Int)) (decide_eq_false (by omega))) rfl rfl) <|
        ok_nil
      clear h; intro β a w h
      refine sym_then ?_
      refine s_cf h ?_
      refine wp_exit ?_
      refine then_exit ?_
      refine then_exit ?_
      refine blk_exit ?_
      refine blk_norm ?_
      refine sym_then ?_
      refine St.r0 h [(10, .inl (.int .i64 (i : Nat))), (11, .inl (.int .i64 ((i + 1) : Nat))), (6, .inl (.int .i64 ((i + 1) : Nat)))] [eO] ?_ ?_
      · exact oc (k_m0 rfl rfl) <|
        oz (k_bi (.int .i64 (i : Nat)) (.int .i64 (1 : Nat)) (.int .i64 ((i + 1) : Nat)) (ad_i (m := i) (n := 1) (by omega)) rfl rfl) <|
        oz (k_mv (.inr rfl) rfl) <|
        ok_nil
      clear h; intro β a w h
      replace h := St.sm h 3 (ai 44 (tmF m n (i + 1))) (c := ai 44 (roF (tmF m n i) i (dg m i) n 22)) (t := 106) rfl
      replace h := St.cs h (s' := [.inl (.agg (ai 22 (dg m))), .inl (.agg (ai 22 (dg n))), .inr (0, pt 0), .inr (1, pt 0), .inr (2, pt 0), .inr (3, pt 0), .inl (.int .i64 ((i + 1) : Nat)), .inl (.int .i64 (22 : Nat)), .inl (.int .i64 (i : Nat)), .inl (.bool true), .inl (.int .i64 (i : Nat)), .inl (.int .i64 ((i + 1) : Nat)), .inl (.int .i64 (22 : Nat)), .inl (.bool false), x14, x15, x16, x17, x18, x19, x20, x21, x22, x23, x24, x25, x26, x27, x28, x29, x30, x31, x32, uu, uu]) (m' := [(ai 22 (dg m), 36), (ai 22 (dg n), 36), (ai 22 (fun _ => 0), 36), (ai 44 (tmF m n (i + 1)), 106)]) (by kernel_rfl) (by kernel_rfl)
      exact ⟨hlti, _, _, _, _, _, _, _, _, _, _, _, _, _, _, _, _, _, _, _, _, _, _, _, _, _, _, _, h⟩
  · obtain rfl : i = 22 := by omega
    refine sym_seq ?_
    refine sym_seq ?_
    refine St.r0 h [(8, .inl (.int .i64 (22 : Nat))), (9, .inl (.bool false))] [] ?_ ?_
    · exact oz (k_mv (.inl rfl) rfl) <|
      oz (k_bi (.int .i64 (22 : Nat)) (.int .i64 (22 : Nat)) (.bool false) (lt_i (m := ((22 : Nat) : Int)) (n := ((22 : Nat) : Int)) (decide_eq_false (by omega))) rfl rfl) <|
      ok_nil
    clear h; intro β a w h
    refine sym_then ?_
    refine s_cf h ?_
    refine wp_exit ?_
    refine then_exit ?_
    refine then_exit ?_
    refine blk_exit ?_
    refine sym_then ?_
    refine sym_seq ?_
    refine St.rg h [(33, .inl (.agg (ai 44 (tmF m n 22)))), (34, .inl (.agg (ai 22 (dg (m * n % pp)))))] [] [(2, ai 22 (dg (m * n % pp)))] [eR 3, nn, eS 2] ?_ ?_
    · exact oc (k_ld 3 0 (.agg (ai 44 (tmF m n 22))) (c := ai 44 (tmF m n 22)) (ld44 (F := (tmF m n 22)) 106) rfl rfl) <|
      oc (k_ca 71 #[.agg (ai 44 (tmF m n 22))] (.agg (ai 22 (dg (m * n % pp)))) (fun w => least_r (fun j => tmF_fl m n 22 j (by omega)) (tmF_pv hm hn) (tmF_big hm hn) w) rfl rfl) <|
      oc (k_st 2 0 (.agg (ai 22 (dg (m * n % pp)))) (c := ai 22 (fun _ => 0)) (n := ai 22 (dg (m * n % pp))) (st22 (F := (dg (m * n % pp))) (c := ai 22 (fun _ => 0)) 36 (ai_size _ _)) rfl rfl) <|
      ok_nil
    clear h; intro β a w h
    refine sym_then ?_
    refine wp_ret ?_
    exact s_rc (b := 2) (t0 := 36) (c := ai 22 (dg (m * n % pp))) h Tryz.results34 Tryz.underlying36 (fun hb => ⟨rfl, hb⟩) (by rw [ai_size]; kernel_rfl)
end Go.Proofs.YtacokkedomjgpaaGreatDoor

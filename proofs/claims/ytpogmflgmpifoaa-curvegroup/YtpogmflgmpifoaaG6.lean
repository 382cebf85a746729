/- Crv6, Root2, PtsMath, PtsOf, P7, E1, Q1, Q2, Q3, E2, ManyS, Pcon, E3, ManyR, Z1: laid together. -/
import Derived.Deep.OwnRows
import Derived.Laws.CopyOwn
import Derived.RangeFuncNested
import Derived.RangeFuncBound
import Derived.RangeFuncCalls
import Derived.RangeFuncLeaves
import Derived.Shelf.Abstract
import Derived.Shelf.RegionOpen
import Derived.WalkKit
import Derived.OwnWalkIn
import Derived.TacticsInMore
import Derived.LoopNIn
import Derived.LoopIn
import Derived.Laws.Rows
import Derived.Test.YtpogmflgmpifoaaG5
import Derived.Test.YtpogmflgmpifoaaG3
import Derived.Test.YtpogmflgmpifoaaG1
import Derived.Test.YtpogmflgmpifoaaG2
namespace Go.Proofs.Ytpogmflgmpifoaa
open Go.RowKit

set_option maxHeartbeats 4000000 in
theorem rof_n {b : Nat → Nat} (hb : ∀ i, b i < 256) {y : Nat} (hy : y < pp) (cO : ∀ w, Calls Try.prog 31 #[.agg (ck (updN b 31 (b 31 % 128)))] w fun e w' => e = .returned (.agg (ai 22 (dg y))) ∧ Below w.heap.size w w') (hkey : ¬ ∀ i, i < 32 → kb y i = (updN b 31 (b 31 % 128)) i) (W0 : World) : Calls Try.prog 10 #[.agg (ck b)] W0 fun e w' => e = .returned (.tuple #[.agg (cis [0, 1, 1, 0]), .bool false]) ∧ Below W0.heap.size W0 w' := by
  have g1 := hb 31
  refine s_in Try.func10 Try.ntmps10 rfl [.inl (.agg (ck b))] ?_
  intro β a h
  refine sym_seq ?_
  refine St.rg h [(1, .inr (0, pt 0)), (2, .inr (1, pt 0)), (3, .inl (.bool false))] [(ck b, 23), (cis [0, 0, 0, 0], 37)] [] [eN 0, eN 1] ?_ ?_
  · exact oc (k_bx 0 (.agg (ck b)) (bxK (b := b)) rfl rfl) <|
    oc (k_al 1 alR rfl rfl) <|
    oz (k_mv (.inr rfl) rfl) <|
    ok_nil
  clear h; intro β a w h
  refine sym_then ?_
  refine sym_seq ?_
  refine St.r0 h [(10, .inr (0, pt 31)), (11, .inl (.int .u8 (((b 31) : Nat) : Int))), (12, .inl (.int .u8 ((((b 31) / 128) : Nat) : Int))), (4, .inl (.int .u8 ((((b 31) / 128) : Nat) : Int)))] [nn, eR 0] ?_ ?_
  · exact oc (k_ia 0 0 31 (.int .i64 ((31 : Nat) : Int)) (ixK (i := 31) (by omega)) rfl rfl) <|
    oc (k_ld 0 31 (.int .u8 (((b 31) : Nat) : Int)) (c := ck b) (ld_k (F := b) (i := 31) (t0 := 23) (by omega)) rfl rfl) <|
    oz (k_bi (.int .u8 (((b 31) : Nat) : Int)) (.int .u8 ((128 : Nat) : Int)) (.int .u8 ((((b 31) / 128) : Nat) : Int)) (qu_b (m := (b 31)) (by omega)) rfl rfl) <|
    oz (k_mv (.inr rfl) rfl) <|
    ok_nil
  clear h; intro β a w h
  refine sym_then ?_
  refine sym_seq ?_
  refine St.rg h [(13, .inr (0, pt 31)), (14, .inl (.int .u8 (((b 31) : Nat) : Int))), (15, .inl (.int .u8 ((((b 31) % 128) : Nat) : Int))), (16, .inr (0, pt 31))] [] [(0, ck (updN b 31 ((b 31) % 128)))] [nn, eR 0, nn, nn, eS 0] ?_ ?_
  · exact oc (k_ia 0 0 31 (.int .i64 ((31 : Nat) : Int)) (ixK (i := 31) (by omega)) rfl rfl) <|
    oc (k_ld 0 31 (.int .u8 (((b 31) : Nat) : Int)) (c := ck b) (ld_k (F := b) (i := 31) (t0 := 23) (by omega)) rfl rfl) <|
    oc (k_bi (.int .u8 (((b 31) : Nat) : Int)) (.int .u8 ((128 : Nat) : Int)) (.int .u8 ((((b 31) % 128) : Nat) : Int)) (re_b (m := (b 31))) rfl rfl) <|
    oc (k_ia 0 0 31 (.int .i64 ((31 : Nat) : Int)) (ixK (i := 31) (by omega)) rfl rfl) <|
    oc (k_st 0 31 (.int .u8 ((((b 31) % 128) : Nat) : Int)) (c := ck b) (n := ck (updN b 31 ((b 31) % 128))) (st_k (F := b) (i := 31) (v := ((b 31) % 128)) (t0 := 23) (by omega)) rfl rfl) <|
    ok_nil
  clear h; intro β a w h
  refine sym_then ?_
  refine sym_seq ?_
  refine St.rg h [(17, .inl (.agg (ck (updN b 31 ((b 31) % 128))))), (18, .inl (.agg (ai 22 (dg y)))), (5, .inr (2, pt 0))] [(ai 22 (fun _ => 0), 35)] [(2, ai 22 (dg y))] [eR 0, nn, eN 2, eS 2] ?_ ?_
  · exact oc (k_ld 0 0 (.agg (ck (updN b 31 ((b 31) % 128)))) (c := ck (updN b 31 ((b 31) % 128))) (ldK (b := (updN b 31 ((b 31) % 128))) 23) rfl rfl) <|
    oc (k_ca 31 #[.agg (ck (updN b 31 ((b 31) % 128)))] (.agg (ai 22 (dg y))) cO rfl rfl) <|
    oc (k_al 2 al22 rfl rfl) <|
    oc (k_st 2 0 (.agg (ai 22 (dg y))) (c := ai 22 (fun _ => 0)) (n := ai 22 (dg y)) (st22 (F := (dg y)) (c := ai 22 (fun _ => 0)) 35 (ai_size _ _)) rfl rfl) <|
    ok_nil
  clear h; intro β a w h
  refine sym_then ?_
  refine sym_seq ?_
  refine sym_seq ?_
  refine St.r0 h [(19, .inl (.agg (ai 22 (dg y)))), (20, .inl (.agg (ck (kb y)))), (21, .inl (.agg (ck (updN b 31 ((b 31) % 128))))), (22, .inl (.bool true))] [eR 2, nn, eR 0] ?_ ?_
  · exact oc (k_ld 2 0 (.agg (ai 22 (dg y))) (c := ai 22 (dg y)) (ld22 (F := (dg y)) 35) rfl rfl) <|
    oc (k_ca 32 #[.agg (ai 22 (dg y))] (.agg (ck (kb y))) (fun w => key_rm hy w) rfl rfl) <|
    oc (k_ld 0 0 (.agg (ck (updN b 31 ((b 31) % 128)))) (c := ck (updN b 31 ((b 31) % 128))) (ldK (b := (updN b 31 ((b 31) % 128))) 23) rfl rfl) <|
    oz (k_bi (.agg (ck (kb y))) (.agg (ck (updN b 31 ((b 31) % 128)))) (.bool true) (neK_t (F := (kb y)) (G := (updN b 31 ((b 31) % 128))) hkey) rfl rfl) <|
    ok_nil
  clear h; intro β a w h
  refine sym_then ?_
  refine s_ct h ?_
  refine sym_seq ?_
  refine St.rg h [(23, .inl (.agg (cis [0, 1, 1, 0])))] [] [(1, cis [0, 1, 1, 0])] [nn, eS 1] ?_ ?_
  · exact oc (k_ca 33 #[] (.agg (cis [0, 1, 1, 0])) origin_r rfl rfl) <|
    oc (k_st 1 0 (.agg (cis [0, 1, 1, 0])) (c := cis [0, 0, 0, 0]) (n := cis [0, 1, 1, 0]) (stR (a := 0) (b := 1) (c := 1) (d := 0) (e := cis [0, 0, 0, 0]) 37 (by rw [cis_size]; rfl)) rfl rfl) <|
    oz (k_mv (.inr rfl) rfl) <|
    ok_nil
  clear h; intro β a w h
  refine sym_then ?_
  refine wp_ret ?_
  refine then_ret ?_
  exact s_r2 (b := 1) (t0 := 37) (c := cis [0, 1, 1, 0]) h Try.results10 Try.underlying37 (fun hb => ⟨rfl, hb⟩) (by rw [cis_size]; kernel_rfl)

set_option maxHeartbeats 4000000 in
theorem rof_x {b : Nat → Nat} (hb : ∀ i, b i < 256) {y r : Nat} (hy : y < pp) (cO : ∀ w, Calls Try.prog 31 #[.agg (ck (updN b 31 (b 31 % 128)))] w fun e w' => e = .returned (.agg (ai 22 (dg y))) ∧ Below w.heap.size w w') (hkey : ∀ i, i < 32 → kb y i = (updN b 31 (b 31 % 128)) i) (cR : ∀ w, Calls Try.prog 36 #[.agg (ai 22 (dg (mu (sb (mu y y) 1) (inv (ad (mu dN (mu y y)) 1)))))] w fun e w' => e = .returned (.tuple #[.agg (ai 22 (dg r)), .bool false]) ∧ Below w.heap.size w w') (W0 : World) : Calls Try.prog 10 #[.agg (ck b)] W0 fun e w' => e = .returned (.tuple #[.agg (cis [0, 1, 1, 0]), .bool false]) ∧ Below W0.heap.size W0 w' := by
  have g1 := hb 31
  refine s_in Try.func10 Try.ntmps10 rfl [.inl (.agg (ck b))] ?_
  intro β a h
  refine sym_seq ?_
  refine St.rg h [(1, .inr (0, pt 0)), (2, .inr (1, pt 0)), (3, .inl (.bool false))] [(ck b, 23), (cis [0, 0, 0, 0], 37)] [] [eN 0, eN 1] ?_ ?_
  · exact oc (k_bx 0 (.agg (ck b)) (bxK (b := b)) rfl rfl) <|
    oc (k_al 1 alR rfl rfl) <|
    oz (k_mv (.inr rfl) rfl) <|
    ok_nil
  clear h; intro β a w h
  refine sym_then ?_
  refine sym_seq ?_
  refine St.r0 h [(10, .inr (0, pt 31)), (11, .inl (.int .u8 (((b 31) : Nat) : Int))), (12, .inl (.int .u8 ((((b 31) / 128) : Nat) : Int))), (4, .inl (.int .u8 ((((b 31) / 128) : Nat) : Int)))] [nn, eR 0] ?_ ?_
  · exact oc (k_ia 0 0 31 (.int .i64 ((31 : Nat) : Int)) (ixK (i := 31) (by omega)) rfl rfl) <|
    oc (k_ld 0 31 (.int .u8 (((b 31) : Nat) : Int)) (c := ck b) (ld_k (F := b) (i := 31) (t0 := 23) (by omega)) rfl rfl) <|
    oz (k_bi (.int .u8 (((b 31) : Nat) : Int)) (.int .u8 ((128 : Nat) : Int)) (.int .u8 ((((b 31) / 128) : Nat) : Int)) (qu_b (m := (b 31)) (by omega)) rfl rfl) <|
    oz (k_mv (.inr rfl) rfl) <|
    ok_nil
  clear h; intro β a w h
  refine sym_then ?_
  refine sym_seq ?_
  refine St.rg h [(13, .inr (0, pt 31)), (14, .inl (.int .u8 (((b 31) : Nat) : Int))), (15, .inl (.int .u8 ((((b 31) % 128) : Nat) : Int))), (16, .inr (0, pt 31))] [] [(0, ck (updN b 31 ((b 31) % 128)))] [nn, eR 0, nn, nn, eS 0] ?_ ?_
  · exact oc (k_ia 0 0 31 (.int .i64 ((31 : Nat) : Int)) (ixK (i := 31) (by omega)) rfl rfl) <|
    oc (k_ld 0 31 (.int .u8 (((b 31) : Nat) : Int)) (c := ck b) (ld_k (F := b) (i := 31) (t0 := 23) (by omega)) rfl rfl) <|
    oc (k_bi (.int .u8 (((b 31) : Nat) : Int)) (.int .u8 ((128 : Nat) : Int)) (.int .u8 ((((b 31) % 128) : Nat) : Int)) (re_b (m := (b 31))) rfl rfl) <|
    oc (k_ia 0 0 31 (.int .i64 ((31 : Nat) : Int)) (ixK (i := 31) (by omega)) rfl rfl) <|
    oc (k_st 0 31 (.int .u8 ((((b 31) % 128) : Nat) : Int)) (c := ck b) (n := ck (updN b 31 ((b 31) % 128))) (st_k (F := b) (i := 31) (v := ((b 31) % 128)) (t0 := 23) (by omega)) rfl rfl) <|
    ok_nil
  clear h; intro β a w h
  refine sym_then ?_
  refine sym_seq ?_
  refine St.rg h [(17, .inl (.agg (ck (updN b 31 ((b 31) % 128))))), (18, .inl (.agg (ai 22 (dg y)))), (5, .inr (2, pt 0))] [(ai 22 (fun _ => 0), 35)] [(2, ai 22 (dg y))] [eR 0, nn, eN 2, eS 2] ?_ ?_
  · exact oc (k_ld 0 0 (.agg (ck (updN b 31 ((b 31) % 128)))) (c := ck (updN b 31 ((b 31) % 128))) (ldK (b := (updN b 31 ((b 31) % 128))) 23) rfl rfl) <|
    oc (k_ca 31 #[.agg (ck (updN b 31 ((b 31) % 128)))] (.agg (ai 22 (dg y))) cO rfl rfl) <|
    oc (k_al 2 al22 rfl rfl) <|
    oc (k_st 2 0 (.agg (ai 22 (dg y))) (c := ai 22 (fun _ => 0)) (n := ai 22 (dg y)) (st22 (F := (dg y)) (c := ai 22 (fun _ => 0)) 35 (ai_size _ _)) rfl rfl) <|
    ok_nil
  clear h; intro β a w h
  refine sym_then ?_
  refine sym_seq ?_
  refine sym_seq ?_
  refine St.r0 h [(19, .inl (.agg (ai 22 (dg y)))), (20, .inl (.agg (ck (kb y)))), (21, .inl (.agg (ck (updN b 31 ((b 31) % 128))))), (22, .inl (.bool false))] [eR 2, nn, eR 0] ?_ ?_
  · exact oc (k_ld 2 0 (.agg (ai 22 (dg y))) (c := ai 22 (dg y)) (ld22 (F := (dg y)) 35) rfl rfl) <|
    oc (k_ca 32 #[.agg (ai 22 (dg y))] (.agg (ck (kb y))) (fun w => key_rm hy w) rfl rfl) <|
    oc (k_ld 0 0 (.agg (ck (updN b 31 ((b 31) % 128)))) (c := ck (updN b 31 ((b 31) % 128))) (ldK (b := (updN b 31 ((b 31) % 128))) 23) rfl rfl) <|
    oz (k_bi (.agg (ck (kb y))) (.agg (ck (updN b 31 ((b 31) % 128)))) (.bool false) (neK_f (F := (kb y)) (G := (updN b 31 ((b 31) % 128))) hkey) rfl rfl) <|
    ok_nil
  clear h; intro β a w h
  refine sym_then ?_
  refine s_cf h ?_
  refine wp_skip ?_
  refine sym_then ?_
  refine sym_seq ?_
  refine St.rg h [(24, .inl (.agg (ai 22 (dg 1)))), (6, .inr (3, pt 0))] [(ai 22 (fun _ => 0), 35)] [(3, ai 22 (dg 1))] [nn, eN 3, eS 3] ?_ ?_
  · exact oc (k_ca 34 #[.int .i64 ((1 : Nat) : Int)] (.agg (ai 22 (dg 1))) (fun w => int_r (N := 1) (by decide) w) rfl rfl) <|
    oc (k_al 3 al22 rfl rfl) <|
    oc (k_st 3 0 (.agg (ai 22 (dg 1))) (c := ai 22 (fun _ => 0)) (n := ai 22 (dg 1)) (st22 (F := (dg 1)) (c := ai 22 (fun _ => 0)) 35 (ai_size _ _)) rfl rfl) <|
    ok_nil
  clear h; intro β a w h
  refine sym_then ?_
  refine sym_seq ?_
  refine St.rg h [(25, .inl (.agg (ai 22 (dg y)))), (26, .inl (.agg (ai 22 (dg y)))), (27, .inl (.agg (ai 22 (dg (mu y y))))), (7, .inr (4, pt 0))] [(ai 22 (fun _ => 0), 35)] [(4, ai 22 (dg (mu y y)))] [eR 2, eR 2, nn, eN 4, eS 4] ?_ ?_
  · exact oc (k_ld 2 0 (.agg (ai 22 (dg y))) (c := ai 22 (dg y)) (ld22 (F := (dg y)) 35) rfl rfl) <|
    oc (k_ld 2 0 (.agg (ai 22 (dg y))) (c := ai 22 (dg y)) (ld22 (F := (dg y)) 35) rfl rfl) <|
    oc (k_ca 35 #[.agg (ai 22 (dg y)), .agg (ai 22 (dg y))] (.agg (ai 22 (dg (mu y y)))) (fun w => times_rm hy hy w) rfl rfl) <|
    oc (k_al 4 al22 rfl rfl) <|
    oc (k_st 4 0 (.agg (ai 22 (dg (mu y y)))) (c := ai 22 (fun _ => 0)) (n := ai 22 (dg (mu y y))) (st22 (F := (dg (mu y y))) (c := ai 22 (fun _ => 0)) 35 (ai_size _ _)) rfl rfl) <|
    ok_nil
  clear h; intro β a w h
  refine sym_then ?_
  refine sym_seq ?_
  refine St.rg h [(29, .inl (.agg (ai 22 (dg (mu y y))))), (30, .inl (.agg (ai 22 (dg 1)))), (31, .inl (.agg (ai 22 (dg (sb (mu y y) 1))))), (32, .inl (.agg (ai 22 (dg dN)))), (33, .inl (.agg (ai 22 (dg (mu y y))))), (34, .inl (.agg (ai 22 (dg (mu dN (mu y y)))))), (35, .inl (.agg (ai 22 (dg 1)))), (36, .inl (.agg (ai 22 (dg (ad (mu dN (mu y y)) 1))))), (37, .inl (.agg (ai 22 (dg (mu (sb (mu y y) 1) (inv (ad (mu dN (mu y y)) 1))))))), (38, .inl (.tuple #[.agg (ai 22 (dg r)), .bool false])), (28, .inl (.tuple #[.agg (ai 22 (dg r)), .bool false])), (39, .inl (.agg (ai 22 (dg r)))), (40, .inl (.bool false)), (8, .inr (5, pt 0)), (9, .inl (.bool false))] [(ai 22 (fun _ => 0), 35)] [(5, ai 22 (dg r))] [eR 4, eR 3, nn, nn, eR 4, nn, eR 3, nn, nn, nn, nn, nn, nn, eN 5, eS 5] ?_ ?_
  · exact oc (k_ld 4 0 (.agg (ai 22 (dg (mu y y)))) (c := ai 22 (dg (mu y y))) (ld22 (F := (dg (mu y y))) 35) rfl rfl) <|
    oc (k_ld 3 0 (.agg (ai 22 (dg 1))) (c := ai 22 (dg 1)) (ld22 (F := (dg 1)) 35) rfl rfl) <|
    oc (k_ca 38 #[.agg (ai 22 (dg (mu y y))), .agg (ai 22 (dg 1))] (.agg (ai 22 (dg (sb (mu y y) 1)))) (fun w => minus_rm (mu_lt _ _) one_ltp w) rfl rfl) <|
    oc (k_ca 40 #[] (.agg (ai 22 (dg dN))) slope_r rfl rfl) <|
    oc (k_ld 4 0 (.agg (ai 22 (dg (mu y y)))) (c := ai 22 (dg (mu y y))) (ld22 (F := (dg (mu y y))) 35) rfl rfl) <|
    oc (k_ca 35 #[.agg (ai 22 (dg dN)), .agg (ai 22 (dg (mu y y)))] (.agg (ai 22 (dg (mu dN (mu y y))))) (fun w => times_rm dN_lt (mu_lt _ _) w) rfl rfl) <|
    oc (k_ld 3 0 (.agg (ai 22 (dg 1))) (c := ai 22 (dg 1)) (ld22 (F := (dg 1)) 35) rfl rfl) <|
    oc (k_ca 39 #[.agg (ai 22 (dg (mu dN (mu y y)))), .agg (ai 22 (dg 1))] (.agg (ai 22 (dg (ad (mu dN (mu y y)) 1)))) (fun w => plus_rm (mu_lt _ _) one_ltp w) rfl rfl) <|
    oc (k_ca 37 #[.agg (ai 22 (dg (sb (mu y y) 1))), .agg (ai 22 (dg (ad (mu dN (mu y y)) 1)))] (.agg (ai 22 (dg (mu (sb (mu y y) 1) (inv (ad (mu dN (mu y y)) 1)))))) (fun w => over_rm (sb_lt _ _) (ad_lt _ _) w) rfl rfl) <|
    oc (k_ca 36 #[.agg (ai 22 (dg (mu (sb (mu y y) 1) (inv (ad (mu dN (mu y y)) 1)))))] (.tuple #[.agg (ai 22 (dg r)), .bool false]) cR rfl rfl) <|
    oc (k_mv (.inl rfl) rfl) <|
    oc (k_ex (.tuple #[.agg (ai 22 (dg r)), .bool false]) (.agg (ai 22 (dg r))) rfl rfl) <|
    oc (k_ex (.tuple #[.agg (ai 22 (dg r)), .bool false]) (.bool false) rfl rfl) <|
    oc (k_al 5 al22 rfl rfl) <|
    oc (k_st 5 0 (.agg (ai 22 (dg r))) (c := ai 22 (fun _ => 0)) (n := ai 22 (dg r)) (st22 (F := (dg r)) (c := ai 22 (fun _ => 0)) 35 (ai_size _ _)) rfl rfl) <|
    oz (k_mv (.inr rfl) rfl) <|
    ok_nil
  clear h; intro β a w h
  refine sym_then ?_
  refine sym_seq ?_
  refine sym_seq ?_
  refine St.r0 h [(41, .inl (.bool false)), (42, .inl (.bool true)), (43, .inl (.bool true)), (51, .inl (.bool true))] [] ?_ ?_
  · exact oz (k_mv (.inl rfl) rfl) <|
    oz (k_nt false rfl rfl) <|
    oz (k_mv (.inl rfl) rfl) <|
    oz (k_sk rfl) <|
    oz (k_sk rfl) <|
    oz (k_sk rfl) <|
    oz (k_sk rfl) <|
    oz (k_sk rfl) <|
    oz (k_sk rfl) <|
    oz (k_sk rfl) <|
    oz (k_pt rfl rfl) <|
    ok_nil
  clear h; intro β a w h
  refine sym_then ?_
  refine s_ct h ?_
  refine sym_seq ?_
  refine St.rg h [(52, .inl (.agg (cis [0, 1, 1, 0])))] [] [(1, cis [0, 1, 1, 0])] [nn, eS 1] ?_ ?_
  · exact oc (k_ca 33 #[] (.agg (cis [0, 1, 1, 0])) origin_r rfl rfl) <|
    oc (k_st 1 0 (.agg (cis [0, 1, 1, 0])) (c := cis [0, 0, 0, 0]) (n := cis [0, 1, 1, 0]) (stR (a := 0) (b := 1) (c := 1) (d := 0) (e := cis [0, 0, 0, 0]) 37 (by rw [cis_size]; rfl)) rfl rfl) <|
    oz (k_mv (.inr rfl) rfl) <|
    ok_nil
  clear h; intro β a w h
  refine sym_then ?_
  refine wp_ret ?_
  refine then_ret ?_
  exact s_r2 (b := 1) (t0 := 37) (c := cis [0, 1, 1, 0]) h Try.results10 Try.underlying37 (fun hb => ⟨rfl, hb⟩) (by rw [cis_size]; kernel_rfl)

set_option maxHeartbeats 4000000 in
theorem rof_z {b : Nat → Nat} (hb : ∀ i, b i < 256) {y r : Nat} (hy : y < pp) (cO : ∀ w, Calls Try.prog 31 #[.agg (ck (updN b 31 (b 31 % 128)))] w fun e w' => e = .returned (.agg (ai 22 (dg y))) ∧ Below w.heap.size w w') (hkey : ∀ i, i < 32 → kb y i = (updN b 31 (b 31 % 128)) i) (cR : ∀ w, Calls Try.prog 36 #[.agg (ai 22 (dg (mu (sb (mu y y) 1) (inv (ad (mu dN (mu y y)) 1)))))] w fun e w' => e = .returned (.tuple #[.agg (ai 22 (dg r)), .bool true]) ∧ Below w.heap.size w w') (hz : r = 0) (hod : 128 ≤ b 31) (W0 : World) : Calls Try.prog 10 #[.agg (ck b)] W0 fun e w' => e = .returned (.tuple #[.agg (cis [0, 1, 1, 0]), .bool false]) ∧ Below W0.heap.size W0 w' := by
  have g1 := hb 31
  refine s_in Try.func10 Try.ntmps10 rfl [.inl (.agg (ck b))] ?_
  intro β a h
  refine sym_seq ?_
  refine St.rg h [(1, .inr (0, pt 0)), (2, .inr (1, pt 0)), (3, .inl (.bool false))] [(ck b, 23), (cis [0, 0, 0, 0], 37)] [] [eN 0, eN 1] ?_ ?_
  · exact oc (k_bx 0 (.agg (ck b)) (bxK (b := b)) rfl rfl) <|
    oc (k_al 1 alR rfl rfl) <|
    oz (k_mv (.inr rfl) rfl) <|
    ok_nil
  clear h; intro β a w h
  refine sym_then ?_
  refine sym_seq ?_
  refine St.r0 h [(10, .inr (0, pt 31)), (11, .inl (.int .u8 (((b 31) : Nat) : Int))), (12, .inl (.int .u8 ((((b 31) / 128) : Nat) : Int))), (4, .inl (.int .u8 ((((b 31) / 128) : Nat) : Int)))] [nn, eR 0] ?_ ?_
  · exact oc (k_ia 0 0 31 (.int .i64 ((31 : Nat) : Int)) (ixK (i := 31) (by omega)) rfl rfl) <|
    oc (k_ld 0 31 (.int .u8 (((b 31) : Nat) : Int)) (c := ck b) (ld_k (F := b) (i := 31) (t0 := 23) (by omega)) rfl rfl) <|
    oz (k_bi (.int .u8 (((b 31) : Nat) : Int)) (.int .u8 ((128 : Nat) : Int)) (.int .u8 ((((b 31) / 128) : Nat) : Int)) (qu_b (m := (b 31)) (by omega)) rfl rfl) <|
    oz (k_mv (.inr rfl) rfl) <|
    ok_nil
  clear h; intro β a w h
  refine sym_then ?_
  refine sym_seq ?_
  refine St.rg h [(13, .inr (0, pt 31)), (14, .inl (.int .u8 (((b 31) : Nat) : Int))), (15, .inl (.int .u8 ((((b 31) % 128) : Nat) : Int))), (16, .inr (0, pt 31))] [] [(0, ck (updN b 31 ((b 31) % 128)))] [nn, eR 0, nn, nn, eS 0] ?_ ?_
  · exact oc (k_ia 0 0 31 (.int .i64 ((31 : Nat) : Int)) (ixK (i := 31) (by omega)) rfl rfl) <|
    oc (k_ld 0 31 (.int .u8 (((b 31) : Nat) : Int)) (c := ck b) (ld_k (F := b) (i := 31) (t0 := 23) (by omega)) rfl rfl) <|
    oc (k_bi (.int .u8 (((b 31) : Nat) : Int)) (.int .u8 ((128 : Nat) : Int)) (.int .u8 ((((b 31) % 128) : Nat) : Int)) (re_b (m := (b 31))) rfl rfl) <|
    oc (k_ia 0 0 31 (.int .i64 ((31 : Nat) : Int)) (ixK (i := 31) (by omega)) rfl rfl) <|
    oc (k_st 0 31 (.int .u8 ((((b 31) % 128) : Nat) : Int)) (c := ck b) (n := ck (updN b 31 ((b 31) % 128))) (st_k (F := b) (i := 31) (v := ((b 31) % 128)) (t0 := 23) (by omega)) rfl rfl) <|
    ok_nil
  clear h; intro β a w h
  refine sym_then ?_
  refine sym_seq ?_
  refine St.rg h [(17, .inl (.agg (ck (updN b 31 ((b 31) % 128))))), (18, .inl (.agg (ai 22 (dg y)))), (5, .inr (2, pt 0))] [(ai 22 (fun _ => 0), 35)] [(2, ai 22 (dg y))] [eR 0, nn, eN 2, eS 2] ?_ ?_
  · exact oc (k_ld 0 0 (.agg (ck (updN b 31 ((b 31) % 128)))) (c := ck (updN b 31 ((b 31) % 128))) (ldK (b := (updN b 31 ((b 31) % 128))) 23) rfl rfl) <|
    oc (k_ca 31 #[.agg (ck (updN b 31 ((b 31) % 128)))] (.agg (ai 22 (dg y))) cO rfl rfl) <|
    oc (k_al 2 al22 rfl rfl) <|
    oc (k_st 2 0 (.agg (ai 22 (dg y))) (c := ai 22 (fun _ => 0)) (n := ai 22 (dg y)) (st22 (F := (dg y)) (c := ai 22 (fun _ => 0)) 35 (ai_size _ _)) rfl rfl) <|
    ok_nil
  clear h; intro β a w h
  refine sym_then ?_
  refine sym_seq ?_
  refine sym_seq ?_
  refine St.r0 h [(19, .inl (.agg (ai 22 (dg y)))), (20, .inl (.agg (ck (kb y)))), (21, .inl (.agg (ck (updN b 31 ((b 31) % 128))))), (22, .inl (.bool false))] [eR 2, nn, eR 0] ?_ ?_
  · exact oc (k_ld 2 0 (.agg (ai 22 (dg y))) (c := ai 22 (dg y)) (ld22 (F := (dg y)) 35) rfl rfl) <|
    oc (k_ca 32 #[.agg (ai 22 (dg y))] (.agg (ck (kb y))) (fun w => key_rm hy w) rfl rfl) <|
    oc (k_ld 0 0 (.agg (ck (updN b 31 ((b 31) % 128)))) (c := ck (updN b 31 ((b 31) % 128))) (ldK (b := (updN b 31 ((b 31) % 128))) 23) rfl rfl) <|
    oz (k_bi (.agg (ck (kb y))) (.agg (ck (updN b 31 ((b 31) % 128)))) (.bool false) (neK_f (F := (kb y)) (G := (updN b 31 ((b 31) % 128))) hkey) rfl rfl) <|
    ok_nil
  clear h; intro β a w h
  refine sym_then ?_
  refine s_cf h ?_
  refine wp_skip ?_
  refine sym_then ?_
  refine sym_seq ?_
  refine St.rg h [(24, .inl (.agg (ai 22 (dg 1)))), (6, .inr (3, pt 0))] [(ai 22 (fun _ => 0), 35)] [(3, ai 22 (dg 1))] [nn, eN 3, eS 3] ?_ ?_
  · exact oc (k_ca 34 #[.int .i64 ((1 : Nat) : Int)] (.agg (ai 22 (dg 1))) (fun w => int_r (N := 1) (by decide) w) rfl rfl) <|
    oc (k_al 3 al22 rfl rfl) <|
    oc (k_st 3 0 (.agg (ai 22 (dg 1))) (c := ai 22 (fun _ => 0)) (n := ai 22 (dg 1)) (st22 (F := (dg 1)) (c := ai 22 (fun _ => 0)) 35 (ai_size _ _)) rfl rfl) <|
    ok_nil
  clear h; intro β a w h
  refine sym_then ?_
  refine sym_seq ?_
  refine St.rg h [(25, .inl (.agg (ai 22 (dg y)))), (26, .inl (.agg (ai 22 (dg y)))), (27, .inl (.agg (ai 22 (dg (mu y y))))), (7, .inr (4, pt 0))] [(ai 22 (fun _ => 0), 35)] [(4, ai 22 (dg (mu y y)))] [eR 2, eR 2, nn, eN 4, eS 4] ?_ ?_
  · exact oc (k_ld 2 0 (.agg (ai 22 (dg y))) (c := ai 22 (dg y)) (ld22 (F := (dg y)) 35) rfl rfl) <|
    oc (k_ld 2 0 (.agg (ai 22 (dg y))) (c := ai 22 (dg y)) (ld22 (F := (dg y)) 35) rfl rfl) <|
    oc (k_ca 35 #[.agg (ai 22 (dg y)), .agg (ai 22 (dg y))] (.agg (ai 22 (dg (mu y y)))) (fun w => times_rm hy hy w) rfl rfl) <|
    oc (k_al 4 al22 rfl rfl) <|
    oc (k_st 4 0 (.agg (ai 22 (dg (mu y y)))) (c := ai 22 (fun _ => 0)) (n := ai 22 (dg (mu y y))) (st22 (F := (dg (mu y y))) (c := ai 22 (fun _ => 0)) 35 (ai_size _ _)) rfl rfl) <|
    ok_nil
  clear h; intro β a w h
  refine sym_then ?_
  refine sym_seq ?_
  refine St.rg h [(29, .inl (.agg (ai 22 (dg (mu y y))))), (30, .inl (.agg (ai 22 (dg 1)))), (31, .inl (.agg (ai 22 (dg (sb (mu y y) 1))))), (32, .inl (.agg (ai 22 (dg dN)))), (33, .inl (.agg (ai 22 (dg (mu y y))))), (34, .inl (.agg (ai 22 (dg (mu dN (mu y y)))))), (35, .inl (.agg (ai 22 (dg 1)))), (36, .inl (.agg (ai 22 (dg (ad (mu dN (mu y y)) 1))))), (37, .inl (.agg (ai 22 (dg (mu (sb (mu y y) 1) (inv (ad (mu dN (mu y y)) 1))))))), (38, .inl (.tuple #[.agg (ai 22 (dg r)), .bool true])), (28, .inl (.tuple #[.agg (ai 22 (dg r)), .bool true])), (39, .inl (.agg (ai 22 (dg r)))), (40, .inl (.bool true)), (8, .inr (5, pt 0)), (9, .inl (.bool true))] [(ai 22 (fun _ => 0), 35)] [(5, ai 22 (dg r))] [eR 4, eR 3, nn, nn, eR 4, nn, eR 3, nn, nn, nn, nn, nn, nn, eN 5, eS 5] ?_ ?_
  · exact oc (k_ld 4 0 (.agg (ai 22 (dg (mu y y)))) (c := ai 22 (dg (mu y y))) (ld22 (F := (dg (mu y y))) 35) rfl rfl) <|
    oc (k_ld 3 0 (.agg (ai 22 (dg 1))) (c := ai 22 (dg 1)) (ld22 (F := (dg 1)) 35) rfl rfl) <|
    oc (k_ca 38 #[.agg (ai 22 (dg (mu y y))), .agg (ai 22 (dg 1))] (.agg (ai 22 (dg (sb (mu y y) 1)))) (fun w => minus_rm (mu_lt _ _) one_ltp w) rfl rfl) <|
    oc (k_ca 40 #[] (.agg (ai 22 (dg dN))) slope_r rfl rfl) <|
    oc (k_ld 4 0 (.agg (ai 22 (dg (mu y y)))) (c := ai 22 (dg (mu y y))) (ld22 (F := (dg (mu y y))) 35) rfl rfl) <|
    oc (k_ca 35 #[.agg (ai 22 (dg dN)), .agg (ai 22 (dg (mu y y)))] (.agg (ai 22 (dg (mu dN (mu y y))))) (fun w => times_rm dN_lt (mu_lt _ _) w) rfl rfl) <|
    oc (k_ld 3 0 (.agg (ai 22 (dg 1))) (c := ai 22 (dg 1)) (ld22 (F := (dg 1)) 35) rfl rfl) <|
    oc (k_ca 39 #[.agg (ai 22 (dg (mu dN (mu y y)))), .agg (ai 22 (dg 1))] (.agg (ai 22 (dg (ad (mu dN (mu y y)) 1)))) (fun w => plus_rm (mu_lt _ _) one_ltp w) rfl rfl) <|
    oc (k_ca 37 #[.agg (ai 22 (dg (sb (mu y y) 1))), .agg (ai 22 (dg (ad (mu dN (mu y y)) 1)))] (.agg (ai 22 (dg (mu (sb (mu y y) 1) (inv (ad (mu dN (mu y y)) 1)))))) (fun w => over_rm (sb_lt _ _) (ad_lt _ _) w) rfl rfl) <|
    oc (k_ca 36 #[.agg (ai 22 (dg (mu (sb (mu y y) 1) (inv (ad (mu dN (mu y y)) 1)))))] (.tuple #[.agg (ai 22 (dg r)), .bool true]) cR rfl rfl) <|
    oc (k_mv (.inl rfl) rfl) <|
    oc (k_ex (.tuple #[.agg (ai 22 (dg r)), .bool true]) (.agg (ai 22 (dg r))) rfl rfl) <|
    oc (k_ex (.tuple #[.agg (ai 22 (dg r)), .bool true]) (.bool true) rfl rfl) <|
    oc (k_al 5 al22 rfl rfl) <|
    oc (k_st 5 0 (.agg (ai 22 (dg r))) (c := ai 22 (fun _ => 0)) (n := ai 22 (dg r)) (st22 (F := (dg r)) (c := ai 22 (fun _ => 0)) 35 (ai_size _ _)) rfl rfl) <|
    oz (k_mv (.inr rfl) rfl) <|
    ok_nil
  clear h; intro β a w h
  refine sym_then ?_
  refine sym_seq ?_
  refine sym_seq ?_
  refine St.r0 h [(41, .inl (.bool true)), (42, .inl (.bool false)), (43, .inl (.bool false)), (44, .inl (.int .u8 ((((b 31) / 128) : Nat) : Int))), (45, .inl (.bool true)), (46, .inl (.bool true)), (47, .inl (.agg (ai 22 (dg r)))), (48, .inl (.agg (ai 22 (dg 0)))), (49, .inl (.bool true)), (50, .inl (.bool true)), (51, .inl (.bool true))] [nn, nn, nn, nn, nn, nn, eR 5] ?_ ?_
  · exact oc (k_mv (.inl rfl) rfl) <|
    oc (k_nt true rfl rfl) <|
    oc (k_mv (.inl rfl) rfl) <|
    oc (k_mv (.inl rfl) rfl) <|
    oc (k_bi (.int .u8 ((((b 31) / 128) : Nat) : Int)) (.int .u8 ((1 : Nat) : Int)) (.bool true) (eq_b (m := ((b 31) / 128)) (n := 1) (decide_eq_true (by omega))) rfl rfl) <|
    oc (k_mv (.inl rfl) rfl) <|
    oc (k_ld 5 0 (.agg (ai 22 (dg r))) (c := ai 22 (dg r)) (ld22 (F := (dg r)) 35) rfl rfl) <|
    oz (k_bu #[] (.agg (ai 22 (dg 0))) bd22 rfl rfl) <|
    oz (k_bi (.agg (ai 22 (dg r))) (.agg (ai 22 (dg 0))) (.bool true) (fun w => by rw [hz]; exact eq22_t 0 w) rfl rfl) <|
    oz (k_pt rfl rfl) <|
    oz (k_pf rfl rfl) <|
    ok_nil
  clear h; intro β a w h
  refine sym_then ?_
  refine s_ct h ?_
  refine sym_seq ?_
  refine St.rg h [(52, .inl (.agg (cis [0, 1, 1, 0])))] [] [(1, cis [0, 1, 1, 0])] [nn, eS 1] ?_ ?_
  · exact oc (k_ca 33 #[] (.agg (cis [0, 1, 1, 0])) origin_r rfl rfl) <|
    oc (k_st 1 0 (.agg (cis [0, 1, 1, 0])) (c := cis [0, 0, 0, 0]) (n := cis [0, 1, 1, 0]) (stR (a := 0) (b := 1) (c := 1) (d := 0) (e := cis [0, 0, 0, 0]) 37 (by rw [cis_size]; rfl)) rfl rfl) <|
    oz (k_mv (.inr rfl) rfl) <|
    ok_nil
  clear h; intro β a w h
  refine sym_then ?_
  refine wp_ret ?_
  refine then_ret ?_
  exact s_r2 (b := 1) (t0 := 37) (c := cis [0, 1, 1, 0]) h Try.results10 Try.underlying37 (fun hb => ⟨rfl, hb⟩) (by rw [cis_size]; kernel_rfl)

set_option maxHeartbeats 4000000 in
theorem rof_o {b : Nat → Nat} (hb : ∀ i, b i < 256) {y r : Nat} (hy : y < pp) (cO : ∀ w, Calls Try.prog 31 #[.agg (ck (updN b 31 (b 31 % 128)))] w fun e w' => e = .returned (.agg (ai 22 (dg y))) ∧ Below w.heap.size w w') (hkey : ∀ i, i < 32 → kb y i = (updN b 31 (b 31 % 128)) i) (cR : ∀ w, Calls Try.prog 36 #[.agg (ai 22 (dg (mu (sb (mu y y) 1) (inv (ad (mu dN (mu y y)) 1)))))] w fun e w' => e = .returned (.tuple #[.agg (ai 22 (dg r)), .bool true]) ∧ Below w.heap.size w w') (hr : r < pp) (hz : r ≠ 0) (hod : 128 ≤ b 31) (W0 : World) : Calls Try.prog 10 #[.agg (ck b)] W0 fun e w' => e = .returned (.tuple #[.agg (cis [sb 0 r, y, 1, mu (sb 0 r) y]), .bool true]) ∧ Below W0.heap.size W0 w' := by
  have g1 := hb 31
  refine s_in Try.func10 Try.ntmps10 rfl [.inl (.agg (ck b))] ?_
  intro β a h
  refine sym_seq ?_
  refine St.rg h [(1, .inr (0, pt 0)), (2, .inr (1, pt 0)), (3, .inl (.bool false))] [(ck b, 23), (cis [0, 0, 0, 0], 37)] [] [eN 0, eN 1] ?_ ?_
  · exact oc (k_bx 0 (.agg (ck b)) (bxK (b := b)) rfl rfl) <|
    oc (k_al 1 alR rfl rfl) <|
    oz (k_mv (.inr rfl) rfl) <|
    ok_nil
  clear h; intro β a w h
  refine sym_then ?_
  refine sym_seq ?_
  refine St.r0 h [(10, .inr (0, pt 31)), (11, .inl (.int .u8 (((b 31) : Nat) : Int))), (12, .inl (.int .u8 ((((b 31) / 128) : Nat) : Int))), (4, .inl (.int .u8 ((((b 31) / 128) : Nat) : Int)))] [nn, eR 0] ?_ ?_
  · exact oc (k_ia 0 0 31 (.int .i64 ((31 : Nat) : Int)) (ixK (i := 31) (by omega)) rfl rfl) <|
    oc (k_ld 0 31 (.int .u8 (((b 31) : Nat) : Int)) (c := ck b) (ld_k (F := b) (i := 31) (t0 := 23) (by omega)) rfl rfl) <|
    oz (k_bi (.int .u8 (((b 31) : Nat) : Int)) (.int .u8 ((128 : Nat) : Int)) (.int .u8 ((((b 31) / 128) : Nat) : Int)) (qu_b (m := (b 31)) (by omega)) rfl rfl) <|
    oz (k_mv (.inr rfl) rfl) <|
    ok_nil
  clear h; intro β a w h
  refine sym_then ?_
  refine sym_seq ?_
  refine St.rg h [(13, .inr (0, pt 31)), (14, .inl (.int .u8 (((b 31) : Nat) : Int))), (15, .inl (.int .u8 ((((b 31) % 128) : Nat) : Int))), (16, .inr (0, pt 31))] [] [(0, ck (updN b 31 ((b 31) % 128)))] [nn, eR 0, nn, nn, eS 0] ?_ ?_
  · exact oc (k_ia 0 0 31 (.int .i64 ((31 : Nat) : Int)) (ixK (i := 31) (by omega)) rfl rfl) <|
    oc (k_ld 0 31 (.int .u8 (((b 31) : Nat) : Int)) (c := ck b) (ld_k (F := b) (i := 31) (t0 := 23) (by omega)) rfl rfl) <|
    oc (k_bi (.int .u8 (((b 31) : Nat) : Int)) (.int .u8 ((128 : Nat) : Int)) (.int .u8 ((((b 31) % 128) : Nat) : Int)) (re_b (m := (b 31))) rfl rfl) <|
    oc (k_ia 0 0 31 (.int .i64 ((31 : Nat) : Int)) (ixK (i := 31) (by omega)) rfl rfl) <|
    oc (k_st 0 31 (.int .u8 ((((b 31) % 128) : Nat) : Int)) (c := ck b) (n := ck (updN b 31 ((b 31) % 128))) (st_k (F := b) (i := 31) (v := ((b 31) % 128)) (t0 := 23) (by omega)) rfl rfl) <|
    ok_nil
  clear h; intro β a w h
  refine sym_then ?_
  refine sym_seq ?_
  refine St.rg h [(17, .inl (.agg (ck (updN b 31 ((b 31) % 128))))), (18, .inl (.agg (ai 22 (dg y)))), (5, .inr (2, pt 0))] [(ai 22 (fun _ => 0), 35)] [(2, ai 22 (dg y))] [eR 0, nn, eN 2, eS 2] ?_ ?_
  · exact oc (k_ld 0 0 (.agg (ck (updN b 31 ((b 31) % 128)))) (c := ck (updN b 31 ((b 31) % 128))) (ldK (b := (updN b 31 ((b 31) % 128))) 23) rfl rfl) <|
    oc (k_ca 31 #[.agg (ck (updN b 31 ((b 31) % 128)))] (.agg (ai 22 (dg y))) cO rfl rfl) <|
    oc (k_al 2 al22 rfl rfl) <|
    oc (k_st 2 0 (.agg (ai 22 (dg y))) (c := ai 22 (fun _ => 0)) (n := ai 22 (dg y)) (st22 (F := (dg y)) (c := ai 22 (fun _ => 0)) 35 (ai_size _ _)) rfl rfl) <|
    ok_nil
  clear h; intro β a w h
  refine sym_then ?_
  refine sym_seq ?_
  refine sym_seq ?_
  refine St.r0 h [(19, .inl (.agg (ai 22 (dg y)))), (20, .inl (.agg (ck (kb y)))), (21, .inl (.agg (ck (updN b 31 ((b 31) % 128))))), (22, .inl (.bool false))] [eR 2, nn, eR 0] ?_ ?_
  · exact oc (k_ld 2 0 (.agg (ai 22 (dg y))) (c := ai 22 (dg y)) (ld22 (F := (dg y)) 35) rfl rfl) <|
    oc (k_ca 32 #[.agg (ai 22 (dg y))] (.agg (ck (kb y))) (fun w => key_rm hy w) rfl rfl) <|
    oc (k_ld 0 0 (.agg (ck (updN b 31 ((b 31) % 128)))) (c := ck (updN b 31 ((b 31) % 128))) (ldK (b := (updN b 31 ((b 31) % 128))) 23) rfl rfl) <|
    oz (k_bi (.agg (ck (kb y))) (.agg (ck (updN b 31 ((b 31) % 128)))) (.bool false) (neK_f (F := (kb y)) (G := (updN b 31 ((b 31) % 128))) hkey) rfl rfl) <|
    ok_nil
  clear h; intro β a w h
  refine sym_then ?_
  refine s_cf h ?_
  refine wp_skip ?_
  refine sym_then ?_
  refine sym_seq ?_
  refine St.rg h [(24, .inl (.agg (ai 22 (dg 1)))), (6, .inr (3, pt 0))] [(ai 22 (fun _ => 0), 35)] [(3, ai 22 (dg 1))] [nn, eN 3, eS 3] ?_ ?_
  · exact oc (k_ca 34 #[.int .i64 ((1 : Nat) : Int)] (.agg (ai 22 (dg 1))) (fun w => int_r (N := 1) (by decide) w) rfl rfl) <|
    oc (k_al 3 al22 rfl rfl) <|
    oc (k_st 3 0 (.agg (ai 22 (dg 1))) (c := ai 22 (fun _ => 0)) (n := ai 22 (dg 1)) (st22 (F := (dg 1)) (c := ai 22 (fun _ => 0)) 35 (ai_size _ _)) rfl rfl) <|
    ok_nil
  clear h; intro β a w h
  refine sym_then ?_
  refine sym_seq ?_
  refine St.rg h [(25, .inl (.agg (ai 22 (dg y)))), (26, .inl (.agg (ai 22 (dg y)))), (27, .inl (.agg (ai 22 (dg (mu y y))))), (7, .inr (4, pt 0))] [(ai 22 (fun _ => 0), 35)] [(4, ai 22 (dg (mu y y)))] [eR 2, eR 2, nn, eN 4, eS 4] ?_ ?_
  · exact oc (k_ld 2 0 (.agg (ai 22 (dg y))) (c := ai 22 (dg y)) (ld22 (F := (dg y)) 35) rfl rfl) <|
    oc (k_ld 2 0 (.agg (ai 22 (dg y))) (c := ai 22 (dg y)) (ld22 (F := (dg y)) 35) rfl rfl) <|
    oc (k_ca 35 #[.agg (ai 22 (dg y)), .agg (ai 22 (dg y))] (.agg (ai 22 (dg (mu y y)))) (fun w => times_rm hy hy w) rfl rfl) <|
    oc (k_al 4 al22 rfl rfl) <|
    oc (k_st 4 0 (.agg (ai 22 (dg (mu y y)))) (c := ai 22 (fun _ => 0)) (n := ai 22 (dg (mu y y))) (st22 (F := (dg (mu y y))) (c := ai 22 (fun _ => 0)) 35 (ai_size _ _)) rfl rfl) <|
    ok_nil
  clear h; intro β a w h
  refine sym_then ?_
  refine sym_seq ?_
  refine St.rg h [(29, .inl (.agg (ai 22 (dg (mu y y))))), (30, .inl (.agg (ai 22 (dg 1)))), (31, .inl (.agg (ai 22 (dg (sb (mu y y) 1))))), (32, .inl (.agg (ai 22 (dg dN)))), (33, .inl (.agg (ai 22 (dg (mu y y))))), (34, .inl (.agg (ai 22 (dg (mu dN (mu y y)))))), (35, .inl (.agg (ai 22 (dg 1)))), (36, .inl (.agg (ai 22 (dg (ad (mu dN (mu y y)) 1))))), (37, .inl (.agg (ai 22 (dg (mu (sb (mu y y) 1) (inv (ad (mu dN (mu y y)) 1))))))), (38, .inl (.tuple #[.agg (ai 22 (dg r)), .bool true])), (28, .inl (.tuple #[.agg (ai 22 (dg r)), .bool true])), (39, .inl (.agg (ai 22 (dg r)))), (40, .inl (.bool true)), (8, .inr (5, pt 0)), (9, .inl (.bool true))] [(ai 22 (fun _ => 0), 35)] [(5, ai 22 (dg r))] [eR 4, eR 3, nn, nn, eR 4, nn, eR 3, nn, nn, nn, nn, nn, nn, eN 5, eS 5] ?_ ?_
  · exact oc (k_ld 4 0 (.agg (ai 22 (dg (mu y y)))) (c := ai 22 (dg (mu y y))) (ld22 (F := (dg (mu y y))) 35) rfl rfl) <|
    oc (k_ld 3 0 (.agg (ai 22 (dg 1))) (c := ai 22 (dg 1)) (ld22 (F := (dg 1)) 35) rfl rfl) <|
    oc (k_ca 38 #[.agg (ai 22 (dg (mu y y))), .agg (ai 22 (dg 1))] (.agg (ai 22 (dg (sb (mu y y) 1)))) (fun w => minus_rm (mu_lt _ _) one_ltp w) rfl rfl) <|
    oc (k_ca 40 #[] (.agg (ai 22 (dg dN))) slope_r rfl rfl) <|
    oc (k_ld 4 0 (.agg (ai 22 (dg (mu y y)))) (c := ai 22 (dg (mu y y))) (ld22 (F := (dg (mu y y))) 35) rfl rfl) <|
    oc (k_ca 35 #[.agg (ai 22 (dg dN)), .agg (ai 22 (dg (mu y y)))] (.agg (ai 22 (dg (mu dN (mu y y))))) (fun w => times_rm dN_lt (mu_lt _ _) w) rfl rfl) <|
    oc (k_ld 3 0 (.agg (ai 22 (dg 1))) (c := ai 22 (dg 1)) (ld22 (F := (dg 1)) 35) rfl rfl) <|
    oc (k_ca 39 #[.agg (ai 22 (dg (mu dN (mu y y)))), .agg (ai 22 (dg 1))] (.agg (ai 22 (dg (ad (mu dN (mu y y)) 1)))) (fun w => plus_rm (mu_lt _ _) one_ltp w) rfl rfl) <|
    oc (k_ca 37 #[.agg (ai 22 (dg (sb (mu y y) 1))), .agg (ai 22 (dg (ad (mu dN (mu y y)) 1)))] (.agg (ai 22 (dg (mu (sb (mu y y) 1) (inv (ad (mu dN (mu y y)) 1)))))) (fun w => over_rm (sb_lt _ _) (ad_lt _ _) w) rfl rfl) <|
    oc (k_ca 36 #[.agg (ai 22 (dg (mu (sb (mu y y) 1) (inv (ad (mu dN (mu y y)) 1)))))] (.tuple #[.agg (ai 22 (dg r)), .bool true]) cR rfl rfl) <|
    oc (k_mv (.inl rfl) rfl) <|
    oc (k_ex (.tuple #[.agg (ai 22 (dg r)), .bool true]) (.agg (ai 22 (dg r))) rfl rfl) <|
    oc (k_ex (.tuple #[.agg (ai 22 (dg r)), .bool true]) (.bool true) rfl rfl) <|
    oc (k_al 5 al22 rfl rfl) <|
    oc (k_st 5 0 (.agg (ai 22 (dg r))) (c := ai 22 (fun _ => 0)) (n := ai 22 (dg r)) (st22 (F := (dg r)) (c := ai 22 (fun _ => 0)) 35 (ai_size _ _)) rfl rfl) <|
    oz (k_mv (.inr rfl) rfl) <|
    ok_nil
  clear h; intro β a w h
  refine sym_then ?_
  refine sym_seq ?_
  refine sym_seq ?_
  refine St.r0 h [(41, .inl (.bool true)), (42, .inl (.bool false)), (43, .inl (.bool false)), (44, .inl (.int .u8 ((((b 31) / 128) : Nat) : Int))), (45, .inl (.bool true)), (46, .inl (.bool true)), (47, .inl (.agg (ai 22 (dg r)))), (48, .inl (.agg (ai 22 (dg 0)))), (49, .inl (.bool false)), (50, .inl (.bool false)), (51, .inl (.bool false))] [nn, nn, nn, nn, nn, nn, eR 5] ?_ ?_
  · exact oc (k_mv (.inl rfl) rfl) <|
    oc (k_nt true rfl rfl) <|
    oc (k_mv (.inl rfl) rfl) <|
    oc (k_mv (.inl rfl) rfl) <|
    oc (k_bi (.int .u8 ((((b 31) / 128) : Nat) : Int)) (.int .u8 ((1 : Nat) : Int)) (.bool true) (eq_b (m := ((b 31) / 128)) (n := 1) (decide_eq_true (by omega))) rfl rfl) <|
    oc (k_mv (.inl rfl) rfl) <|
    oc (k_ld 5 0 (.agg (ai 22 (dg r))) (c := ai 22 (dg r)) (ld22 (F := (dg r)) 35) rfl rfl) <|
    oz (k_bu #[] (.agg (ai 22 (dg 0))) bd22 rfl rfl) <|
    oz (k_bi (.agg (ai 22 (dg r))) (.agg (ai 22 (dg 0))) (.bool false) (eq22_f (lt_big hr) (lt_big pp_pos) hz) rfl rfl) <|
    oz (k_pt rfl rfl) <|
    oz (k_pf rfl rfl) <|
    ok_nil
  clear h; intro β a w h
  refine sym_then ?_
  refine s_cf h ?_
  refine wp_skip ?_
  refine sym_then ?_
  refine sym_seq ?_
  refine sym_seq ?_
  refine St.r0 h [(53, .inl (.int .u8 ((((b 31) / 128) : Nat) : Int))), (54, .inl (.bool true))] [] ?_ ?_
  · exact oz (k_mv (.inl rfl) rfl) <|
    oz (k_bi (.int .u8 ((((b 31) / 128) : Nat) : Int)) (.int .u8 ((1 : Nat) : Int)) (.bool true) (eq_b (m := ((b 31) / 128)) (n := 1) (decide_eq_true (by omega))) rfl rfl) <|
    ok_nil
  clear h; intro β a w h
  refine sym_then ?_
  refine s_ct h ?_
  refine St.rg h [(55, .inl (.agg (ai 22 (dg 0)))), (56, .inl (.agg (ai 22 (dg r)))), (57, .inl (.agg (ai 22 (dg (sb 0 r)))))] [] [(5, ai 22 (dg (sb 0 r)))] [nn, eR 5, nn, eS 5] ?_ ?_
  · exact oc (k_bu #[] (.agg (ai 22 (dg 0))) bd22 rfl rfl) <|
    oc (k_ld 5 0 (.agg (ai 22 (dg r))) (c := ai 22 (dg r)) (ld22 (F := (dg r)) 35) rfl rfl) <|
    oc (k_ca 38 #[.agg (ai 22 (dg 0)), .agg (ai 22 (dg r))] (.agg (ai 22 (dg (sb 0 r)))) (fun w => minus_rm zero_ltp hr w) rfl rfl) <|
    oc (k_st 5 0 (.agg (ai 22 (dg (sb 0 r)))) (c := ai 22 (dg r)) (n := ai 22 (dg (sb 0 r))) (st22 (F := (dg (sb 0 r))) (c := ai 22 (dg r)) 35 (ai_size _ _)) rfl rfl) <|
    ok_nil
  clear h; intro β a w h
  refine sym_then ?_
  refine sym_seq ?_
  refine St.rg h [(58, .inl (.agg (ai 22 (dg (sb 0 r))))), (59, .inl (.agg (ai 22 (dg y)))), (60, .inl (.agg (ai 22 (dg 1)))), (61, .inl (.agg (ai 22 (dg (sb 0 r))))), (62, .inl (.agg (ai 22 (dg y)))), (63, .inl (.agg (ai 22 (dg (mu (sb 0 r) y))))), (64, .inl (.agg (cis [(sb 0 r), y, 1, (mu (sb 0 r) y)]))), (3, .inl (.bool true))] [] [(1, cis [(sb 0 r), y, 1, (mu (sb 0 r) y)])] [eR 5, eR 2, eR 3, eR 5, eR 2, nn, nn, eS 1] ?_ ?_
  · exact oc (k_ld 5 0 (.agg (ai 22 (dg (sb 0 r)))) (c := ai 22 (dg (sb 0 r))) (ld22 (F := (dg (sb 0 r))) 35) rfl rfl) <|
    oc (k_ld 2 0 (.agg (ai 22 (dg y))) (c := ai 22 (dg y)) (ld22 (F := (dg y)) 35) rfl rfl) <|
    oc (k_ld 3 0 (.agg (ai 22 (dg 1))) (c := ai 22 (dg 1)) (ld22 (F := (dg 1)) 35) rfl rfl) <|
    oc (k_ld 5 0 (.agg (ai 22 (dg (sb 0 r)))) (c := ai 22 (dg (sb 0 r))) (ld22 (F := (dg (sb 0 r))) 35) rfl rfl) <|
    oc (k_ld 2 0 (.agg (ai 22 (dg y))) (c := ai 22 (dg y)) (ld22 (F := (dg y)) 35) rfl rfl) <|
    oc (k_ca 35 #[.agg (ai 22 (dg (sb 0 r))), .agg (ai 22 (dg y))] (.agg (ai 22 (dg (mu (sb 0 r) y)))) (fun w => times_rm (sb_lt _ _) hy w) rfl rfl) <|
    oc (k_bu #[(0, .agg (ai 22 (dg (sb 0 r)))), (1, .agg (ai 22 (dg y))), (2, .agg (ai 22 (dg 1))), (3, .agg (ai 22 (dg (mu (sb 0 r) y))))] (.agg (cis [(sb 0 r), y, 1, (mu (sb 0 r) y)])) (bdR (a := (sb 0 r)) (b := y) (c := 1) (d := (mu (sb 0 r) y))) rfl rfl) <|
    oc (k_st 1 0 (.agg (cis [(sb 0 r), y, 1, (mu (sb 0 r) y)])) (c := cis [0, 0, 0, 0]) (n := cis [(sb 0 r), y, 1, (mu (sb 0 r) y)]) (stR (a := (sb 0 r)) (b := y) (c := 1) (d := (mu (sb 0 r) y)) (e := cis [0, 0, 0, 0]) 37 (by rw [cis_size]; rfl)) rfl rfl) <|
    oz (k_mv (.inr rfl) rfl) <|
    ok_nil
  clear h; intro β a w h
  refine sym_then ?_
  refine wp_ret ?_
  exact s_r2 (b := 1) (t0 := 37) (c := cis [(sb 0 r), y, 1, (mu (sb 0 r) y)]) h Try.results10 Try.underlying37 (fun hb => ⟨rfl, hb⟩) (by rw [cis_size]; kernel_rfl)

set_option maxHeartbeats 4000000 in
theorem rof_e {b : Nat → Nat} (hb : ∀ i, b i < 256) {y r : Nat} (hy : y < pp) (cO : ∀ w, Calls Try.prog 31 #[.agg (ck (updN b 31 (b 31 % 128)))] w fun e w' => e = .returned (.agg (ai 22 (dg y))) ∧ Below w.heap.size w w') (hkey : ∀ i, i < 32 → kb y i = (updN b 31 (b 31 % 128)) i) (cR : ∀ w, Calls Try.prog 36 #[.agg (ai 22 (dg (mu (sb (mu y y) 1) (inv (ad (mu dN (mu y y)) 1)))))] w fun e w' => e = .returned (.tuple #[.agg (ai 22 (dg r)), .bool true]) ∧ Below w.heap.size w w') (hr : r < pp) (hod : b 31 < 128) (W0 : World) : Calls Try.prog 10 #[.agg (ck b)] W0 fun e w' => e = .returned (.tuple #[.agg (cis [r, y, 1, mu r y]), .bool true]) ∧ Below W0.heap.size W0 w' := by
  have g1 := hb 31
  refine s_in Try.func10 Try.ntmps10 rfl [.inl (.agg (ck b))] ?_
  intro β a h
  refine sym_seq ?_
  refine St.rg h [(1, .inr (0, pt 0)), (2, .inr (1, pt 0)), (3, .inl (.bool false))] [(ck b, 23), (cis [0, 0, 0, 0], 37)] [] [eN 0, eN 1] ?_ ?_
  · exact oc (k_bx 0 (.agg (ck b)) (bxK (b := b)) rfl rfl) <|
    oc (k_al 1 alR rfl rfl) <|
    oz (k_mv (.inr rfl) rfl) <|
    ok_nil
  clear h; intro β a w h
  refine sym_then ?_
  refine sym_seq ?_
  refine St.r0 h [(10, .inr (0, pt 31)), (11, .inl (.int .u8 (((b 31) : Nat) : Int))), (12, .inl (.int .u8 ((((b 31) / 128) : Nat) : Int))), (4, .inl (.int .u8 ((((b 31) / 128) : Nat) : Int)))] [nn, eR 0] ?_ ?_
  · exact oc (k_ia 0 0 31 (.int .i64 ((31 : Nat) : Int)) (ixK (i := 31) (by omega)) rfl rfl) <|
    oc (k_ld 0 31 (.int .u8 (((b 31) : Nat) : Int)) (c := ck b) (ld_k (F := b) (i := 31) (t0 := 23) (by omega)) rfl rfl) <|
    oz (k_bi (.int .u8 (((b 31) : Nat) : Int)) (.int .u8 ((128 : Nat) : Int)) (.int .u8 ((((b 31) / 128) : Nat) : Int)) (qu_b (m := (b 31)) (by omega)) rfl rfl) <|
    oz (k_mv (.inr rfl) rfl) <|
    ok_nil
  clear h; intro β a w h
  refine sym_then ?_
  refine sym_seq ?_
  refine St.rg h [(13, .inr (0, pt 31)), (14, .inl (.int .u8 (((b 31) : Nat) : Int))), (15, .inl (.int .u8 ((((b 31) % 128) : Nat) : Int))), (16, .inr (0, pt 31))] [] [(0, ck (updN b 31 ((b 31) % 128)))] [nn, eR 0, nn, nn, eS 0] ?_ ?_
  · exact oc (k_ia 0 0 31 (.int .i64 ((31 : Nat) : Int)) (ixK (i := 31) (by omega)) rfl rfl) <|
    oc (k_ld 0 31 (.int .u8 (((b 31) : Nat) : Int)) (c := ck b) (ld_k (F := b) (i := 31) (t0 := 23) (by omega)) rfl rfl) <|
    oc (k_bi (.int .u8 (((b 31) : Nat) : Int)) (.int .u8 ((128 : Nat) : Int)) (.int .u8 ((((b 31) % 128) : Nat) : Int)) (re_b (m := (b 31))) rfl rfl) <|
    oc (k_ia 0 0 31 (.int .i64 ((31 : Nat) : Int)) (ixK (i := 31) (by omega)) rfl rfl) <|
    oc (k_st 0 31 (.int .u8 ((((b 31) % 128) : Nat) : Int)) (c := ck b) (n := ck (updN b 31 ((b 31) % 128))) (st_k (F := b) (i := 31) (v := ((b 31) % 128)) (t0 := 23) (by omega)) rfl rfl) <|
    ok_nil
  clear h; intro β a w h
  refine sym_then ?_
  refine sym_seq ?_
  refine St.rg h [(17, .inl (.agg (ck (updN b 31 ((b 31) % 128))))), (18, .inl (.agg (ai 22 (dg y)))), (5, .inr (2, pt 0))] [(ai 22 (fun _ => 0), 35)] [(2, ai 22 (dg y))] [eR 0, nn, eN 2, eS 2] ?_ ?_
  · exact oc (k_ld 0 0 (.agg (ck (updN b 31 ((b 31) % 128)))) (c := ck (updN b 31 ((b 31) % 128))) (ldK (b := (updN b 31 ((b 31) % 128))) 23) rfl rfl) <|
    oc (k_ca 31 #[.agg (ck (updN b 31 ((b 31) % 128)))] (.agg (ai 22 (dg y))) cO rfl rfl) <|
    oc (k_al 2 al22 rfl rfl) <|
    oc (k_st 2 0 (.agg (ai 22 (dg y))) (c := ai 22 (fun _ => 0)) (n := ai 22 (dg y)) (st22 (F := (dg y)) (c := ai 22 (fun _ => 0)) 35 (ai_size _ _)) rfl rfl) <|
    ok_nil
  clear h; intro β a w h
  refine sym_then ?_
  refine sym_seq ?_
  refine sym_seq ?_
  refine St.r0 h [(19, .inl (.agg (ai 22 (dg y)))), (20, .inl (.agg (ck (kb y)))), (21, .inl (.agg (ck (updN b 31 ((b 31) % 128))))), (22, .inl (.bool false))] [eR 2, nn, eR 0] ?_ ?_
  · exact oc (k_ld 2 0 (.agg (ai 22 (dg y))) (c := ai 22 (dg y)) (ld22 (F := (dg y)) 35) rfl rfl) <|
    oc (k_ca 32 #[.agg (ai 22 (dg y))] (.agg (ck (kb y))) (fun w => key_rm hy w) rfl rfl) <|
    oc (k_ld 0 0 (.agg (ck (updN b 31 ((b 31) % 128)))) (c := ck (updN b 31 ((b 31) % 128))) (ldK (b := (updN b 31 ((b 31) % 128))) 23) rfl rfl) <|
    oz (k_bi (.agg (ck (kb y))) (.agg (ck (updN b 31 ((b 31) % 128)))) (.bool false) (neK_f (F := (kb y)) (G := (updN b 31 ((b 31) % 128))) hkey) rfl rfl) <|
    ok_nil
  clear h; intro β a w h
  refine sym_then ?_
  refine s_cf h ?_
  refine wp_skip ?_
  refine sym_then ?_
  refine sym_seq ?_
  refine St.rg h [(24, .inl (.agg (ai 22 (dg 1)))), (6, .inr (3, pt 0))] [(ai 22 (fun _ => 0), 35)] [(3, ai 22 (dg 1))] [nn, eN 3, eS 3] ?_ ?_
  · exact oc (k_ca 34 #[.int .i64 ((1 : Nat) : Int)] (.agg (ai 22 (dg 1))) (fun w => int_r (N := 1) (by decide) w) rfl rfl) <|
    oc (k_al 3 al22 rfl rfl) <|
    oc (k_st 3 0 (.agg (ai 22 (dg 1))) (c := ai 22 (fun _ => 0)) (n := ai 22 (dg 1)) (st22 (F := (dg 1)) (c := ai 22 (fun _ => 0)) 35 (ai_size _ _)) rfl rfl) <|
    ok_nil
  clear h; intro β a w h
  refine sym_then ?_
  refine sym_seq ?_
  refine St.rg h [(25, .inl (.agg (ai 22 (dg y)))), (26, .inl (.agg (ai 22 (dg y)))), (27, .inl (.agg (ai 22 (dg (mu y y))))), (7, .inr (4, pt 0))] [(ai 22 (fun _ => 0), 35)] [(4, ai 22 (dg (mu y y)))] [eR 2, eR 2, nn, eN 4, eS 4] ?_ ?_
  · exact oc (k_ld 2 0 (.agg (ai 22 (dg y))) (c := ai 22 (dg y)) (ld22 (F := (dg y)) 35) rfl rfl) <|
    oc (k_ld 2 0 (.agg (ai 22 (dg y))) (c := ai 22 (dg y)) (ld22 (F := (dg y)) 35) rfl rfl) <|
    oc (k_ca 35 #[.agg (ai 22 (dg y)), .agg (ai 22 (dg y))] (.agg (ai 22 (dg (mu y y)))) (fun w => times_rm hy hy w) rfl rfl) <|
    oc (k_al 4 al22 rfl rfl) <|
    oc (k_st 4 0 (.agg (ai 22 (dg (mu y y)))) (c := ai 22 (fun _ => 0)) (n := ai 22 (dg (mu y y))) (st22 (F := (dg (mu y y))) (c := ai 22 (fun _ => 0)) 35 (ai_size _ _)) rfl rfl) <|
    ok_nil
  clear h; intro β a w h
  refine sym_then ?_
  refine sym_seq ?_
  refine St.rg h [(29, .inl (.agg (ai 22 (dg (mu y y))))), (30, .inl (.agg (ai 22 (dg 1)))), (31, .inl (.agg (ai 22 (dg (sb (mu y y) 1))))), (32, .inl (.agg (ai 22 (dg dN)))), (33, .inl (.agg (ai 22 (dg (mu y y))))), (34, .inl (.agg (ai 22 (dg (mu dN (mu y y)))))), (35, .inl (.agg (ai 22 (dg 1)))), (36, .inl (.agg (ai 22 (dg (ad (mu dN (mu y y)) 1))))), (37, .inl (.agg (ai 22 (dg (mu (sb (mu y y) 1) (inv (ad (mu dN (mu y y)) 1))))))), (38, .inl (.tuple #[.agg (ai 22 (dg r)), .bool true])), (28, .inl (.tuple #[.agg (ai 22 (dg r)), .bool true])), (39, .inl (.agg (ai 22 (dg r)))), (40, .inl (.bool true)), (8, .inr (5, pt 0)), (9, .inl (.bool true))] [(ai 22 (fun _ => 0), 35)] [(5, ai 22 (dg r))] [eR 4, eR 3, nn, nn, eR 4, nn, eR 3, nn, nn, nn, nn, nn, nn, eN 5, eS 5] ?_ ?_
  · exact oc (k_ld 4 0 (.agg (ai 22 (dg (mu y y)))) (c := ai 22 (dg (mu y y))) (ld22 (F := (dg (mu y y))) 35) rfl rfl) <|
    oc (k_ld 3 0 (.agg (ai 22 (dg 1))) (c := ai 22 (dg 1)) (ld22 (F := (dg 1)) 35) rfl rfl) <|
    oc (k_ca 38 #[.agg (ai 22 (dg (mu y y))), .agg (ai 22 (dg 1))] (.agg (ai 22 (dg (sb (mu y y) 1)))) (fun w => minus_rm (mu_lt _ _) one_ltp w) rfl rfl) <|
    oc (k_ca 40 #[] (.agg (ai 22 (dg dN))) slope_r rfl rfl) <|
    oc (k_ld 4 0 (.agg (ai 22 (dg (mu y y)))) (c := ai 22 (dg (mu y y))) (ld22 (F := (dg (mu y y))) 35) rfl rfl) <|
    oc (k_ca 35 #[.agg (ai 22 (dg dN)), .agg (ai 22 (dg (mu y y)))] (.agg (ai 22 (dg (mu dN (mu y y))))) (fun w => times_rm dN_lt (mu_lt _ _) w) rfl rfl) <|
    oc (k_ld 3 0 (.agg (ai 22 (dg 1))) (c := ai 22 (dg 1)) (ld22 (F := (dg 1)) 35) rfl rfl) <|
    oc (k_ca 39 #[.agg (ai 22 (dg (mu dN (mu y y)))), .agg (ai 22 (dg 1))] (.agg (ai 22 (dg (ad (mu dN (mu y y)) 1)))) (fun w => plus_rm (mu_lt _ _) one_ltp w) rfl rfl) <|
    oc (k_ca 37 #[.agg (ai 22 (dg (sb (mu y y) 1))), .agg (ai 22 (dg (ad (mu dN (mu y y)) 1)))] (.agg (ai 22 (dg (mu (sb (mu y y) 1) (inv (ad (mu dN (mu y y)) 1)))))) (fun w => over_rm (sb_lt _ _) (ad_lt _ _) w) rfl rfl) <|
    oc (k_ca 36 #[.agg (ai 22 (dg (mu (sb (mu y y) 1) (inv (ad (mu dN (mu y y)) 1)))))] (.tuple #[.agg (ai 22 (dg r)), .bool true]) cR rfl rfl) <|
    oc (k_mv (.inl rfl) rfl) <|
    oc (k_ex (.tuple #[.agg (ai 22 (dg r)), .bool true]) (.agg (ai 22 (dg r))) rfl rfl) <|
    oc (k_ex (.tuple #[.agg (ai 22 (dg r)), .bool true]) (.bool true) rfl rfl) <|
    oc (k_al 5 al22 rfl rfl) <|
    oc (k_st 5 0 (.agg (ai 22 (dg r))) (c := ai 22 (fun _ => 0)) (n := ai 22 (dg r)) (st22 (F := (dg r)) (c := ai 22 (fun _ => 0)) 35 (ai_size _ _)) rfl rfl) <|
    oz (k_mv (.inr rfl) rfl) <|
    ok_nil
  clear h; intro β a w h
  refine sym_then ?_
  refine sym_seq ?_
  refine sym_seq ?_
  refine St.r0 h [(41, .inl (.bool true)), (42, .inl (.bool false)), (43, .inl (.bool false)), (44, .inl (.int .u8 ((((b 31) / 128) : Nat) : Int))), (45, .inl (.bool false)), (46, .inl (.bool false)), (50, .inl (.bool false)), (51, .inl (.bool false))] [] ?_ ?_
  · exact oz (k_mv (.inl rfl) rfl) <|
    oz (k_nt true rfl rfl) <|
    oz (k_mv (.inl rfl) rfl) <|
    oz (k_mv (.inl rfl) rfl) <|
    oz (k_bi (.int .u8 ((((b 31) / 128) : Nat) : Int)) (.int .u8 ((1 : Nat) : Int)) (.bool false) (eq_b (m := ((b 31) / 128)) (n := 1) (decide_eq_false (by omega))) rfl rfl) <|
    oz (k_mv (.inl rfl) rfl) <|
    oz (k_sk rfl) <|
    oz (k_sk rfl) <|
    oz (k_sk rfl) <|
    oz (k_pf rfl rfl) <|
    oz (k_pf rfl rfl) <|
    ok_nil
  clear h; intro β a w h
  refine sym_then ?_
  refine s_cf h ?_
  refine wp_skip ?_
  refine sym_then ?_
  refine sym_seq ?_
  refine sym_seq ?_
  refine St.r0 h [(53, .inl (.int .u8 ((((b 31) / 128) : Nat) : Int))), (54, .inl (.bool false))] [] ?_ ?_
  · exact oz (k_mv (.inl rfl) rfl) <|
    oz (k_bi (.int .u8 ((((b 31) / 128) : Nat) : Int)) (.int .u8 ((1 : Nat) : Int)) (.bool false) (eq_b (m := ((b 31) / 128)) (n := 1) (decide_eq_false (by omega))) rfl rfl) <|
    ok_nil
  clear h; intro β a w h
  refine sym_then ?_
  refine s_cf h ?_
  refine wp_skip ?_
  refine sym_then ?_
  refine sym_seq ?_
  refine St.rg h [(58, .inl (.agg (ai 22 (dg r)))), (59, .inl (.agg (ai 22 (dg y)))), (60, .inl (.agg (ai 22 (dg 1)))), (61, .inl (.agg (ai 22 (dg r)))), (62, .inl (.agg (ai 22 (dg y)))), (63, .inl (.agg (ai 22 (dg (mu r y))))), (64, .inl (.agg (cis [r, y, 1, (mu r y)]))), (3, .inl (.bool true))] [] [(1, cis [r, y, 1, (mu r y)])] [eR 5, eR 2, eR 3, eR 5, eR 2, nn, nn, eS 1] ?_ ?_
  · exact oc (k_ld 5 0 (.agg (ai 22 (dg r))) (c := ai 22 (dg r)) (ld22 (F := (dg r)) 35) rfl rfl) <|
    oc (k_ld 2 0 (.agg (ai 22 (dg y))) (c := ai 22 (dg y)) (ld22 (F := (dg y)) 35) rfl rfl) <|
    oc (k_ld 3 0 (.agg (ai 22 (dg 1))) (c := ai 22 (dg 1)) (ld22 (F := (dg 1)) 35) rfl rfl) <|
    oc (k_ld 5 0 (.agg (ai 22 (dg r))) (c := ai 22 (dg r)) (ld22 (F := (dg r)) 35) rfl rfl) <|
    oc (k_ld 2 0 (.agg (ai 22 (dg y))) (c := ai 22 (dg y)) (ld22 (F := (dg y)) 35) rfl rfl) <|
    oc (k_ca 35 #[.agg (ai 22 (dg r)), .agg (ai 22 (dg y))] (.agg (ai 22 (dg (mu r y)))) (fun w => times_rm hr hy w) rfl rfl) <|
    oc (k_bu #[(0, .agg (ai 22 (dg r))), (1, .agg (ai 22 (dg y))), (2, .agg (ai 22 (dg 1))), (3, .agg (ai 22 (dg (mu r y))))] (.agg (cis [r, y, 1, (mu r y)])) (bdR (a := r) (b := y) (c := 1) (d := (mu r y))) rfl rfl) <|
    oc (k_st 1 0 (.agg (cis [r, y, 1, (mu r y)])) (c := cis [0, 0, 0, 0]) (n := cis [r, y, 1, (mu r y)]) (stR (a := r) (b := y) (c := 1) (d := (mu r y)) (e := cis [0, 0, 0, 0]) 37 (by rw [cis_size]; rfl)) rfl rfl) <|
    oz (k_mv (.inr rfl) rfl) <|
    ok_nil
  clear h; intro β a w h
  refine sym_then ?_
  refine wp_ret ?_
  exact s_r2 (b := 1) (t0 := 37) (c := cis [r, y, 1, (mu r y)]) h Try.results10 Try.underlying37 (fun hb => ⟨rfl, hb⟩) (by rw [cis_size]; kernel_rfl)

end Go.Proofs.Ytpogmflgmpifoaa

namespace Go.Proofs.Ytpogmflgmpifoaa
open Go.RowKit
/-- Both roots: the program's and the document's. -/
theorem root_b2 {m : Nat} (hm : m < pp) : ∃ (r : Nat) (b : Bool), r < pp ∧ (b = true → r % 2 = 0 ∧ r * r % pp = m) ∧ (∀ w, Calls Try.prog 61 #[el (dig m)] w fun e w' => e = .returned (.tuple #[el (dig r), .bool b]) ∧ Below w.heap.size w w') ∧ (∀ w, Calls Try.prog 36 #[.agg (ai 22 (dg m))] w fun e w' => e = .returned (.tuple #[.agg (ai 22 (dg r)), .bool b]) ∧ Below w.heap.size w w') := by
  obtain ⟨k, hk, c⟩ := anyRoot_d hm
  have hE : ai 22 (updN (dg pp) 0 (dg pp 0 + 3)) = ai 22 (dg (pp + 3)) := ai_congr (by decide +kernel)
  have b0 : pp + 3 < 4096 ^ 22 := by decide +kernel
  have b1 : (pp + 3) / 2 < 4096 ^ 22 := by decide +kernel
  have b2 : (pp + 3) / 2 / 2 < 4096 ^ 22 := by decide +kernel
  have ek : (pp + 3) / 2 / 2 / 2 = k := by rw [hk.out]; decide +kernel
  have hk2 : k < 2 ^ 255 := by rw [← ek]; decide +kernel
  have k1 := half_r b0
  have k2 := half_r b1
  have k3 := half_r b2
  rw [ek] at k3
  have cP := power_r hm hk2
  have hR : m ^ k % pp < pp := mod_pp _
  have d0 : pp - 1 < 4096 ^ 22 := by decide +kernel
  have d1 : (pp - 1) / 2 < 4096 ^ 22 := by decide +kernel
  have cF := less_r (m := pp) (n := 1) (Nat.le_of_lt one_lt)
  have k4 := half_r d0
  have k5 := half_r d1
  obtain ⟨f2, hf2⟩ : ∃ f2, (pp - 1) / 2 / 2 = f2 := ⟨_, rfl⟩
  have hf255 : f2 < 2 ^ 255 := by rw [← hf2]; decide +kernel
  rw [hf2] at k5
  have cJ := power_r two_lt hf255
  rw [i_pow f2 hf2.symm] at cJ
  have hJ := iRt_lt
  have at1 : ∀ R m : Nat, R * R % pp = m → aRt R m = R := fun _ _ h => aRt_t h
  have at2 : ∀ R m : Nat, ¬ R * R % pp = m → aRt R m = R * iRt % pp := fun _ _ h => aRt_f h
  generalize m ^ k % pp = R at *
  generalize iRt = J at *
  clear hf2 ek hk hk2 hf255
  by_cases h1 : R * R % pp = m
  · rw [at1 R m h1, decide_eq_true h1] at c
    rcases (show R % 2 = 0 ∨ R % 2 = 1 by omega) with hp | hp
    · exact ⟨R, true, hR, fun _ => ⟨hp, h1⟩, root_ev hR (decide_eq_true hp) c, rr_1e hR hE k1 k2 k3 cP h1 hp⟩
    · have := root_od hR (decide_eq_false (by omega)) c
      rw [odd_neg hR hp] at this
      exact ⟨pp - R, true, by omega, fun _ => ⟨by have := pp_odd; omega, by rw [sq_neg (Nat.le_of_lt hR)]; exact h1⟩, this, rr_1o hR hE k1 k2 k3 cP h1 hp⟩
  · rw [at2 R m h1] at c
    have hy : R * J % pp < pp := mod_pp _
    by_cases h2 : (R * J % pp) * (R * J % pp) % pp = m
    · rw [decide_eq_true h2] at c
      rcases (show (R * J % pp) % 2 = 0 ∨ (R * J % pp) % 2 = 1 by omega) with hp | hp
      · exact ⟨_, true, hy, fun _ => ⟨hp, h2⟩, root_ev hy (decide_eq_true hp) c, rr_2e hm hR hE k1 k2 k3 cP hJ cF k4 k5 cJ h1 h2 hp⟩
      · have := root_od hy (decide_eq_false (by omega)) c
        rw [odd_neg hy hp] at this
        exact ⟨pp - R * J % pp, true, by omega, fun _ => ⟨by have := pp_odd; omega, by rw [sq_neg (Nat.le_of_lt hy)]; exact h2⟩, this, rr_2o hm hR hE k1 k2 k3 cP hJ cF k4 k5 cJ h1 h2 hp⟩
    · rw [decide_eq_false h2] at c
      exact ⟨0, false, pp_pos, fun h => (by cases h), root_no c, rr_2n hm hR hE k1 k2 k3 cP hJ cF k4 k5 cJ h1 h2⟩
end Go.Proofs.Ytpogmflgmpifoaa

namespace Go.Proofs.Ytpogmflgmpifoaa
open Go.RowKit
theorem inv_1 : inv 1 = 1 := by decide +kernel
theorem mu_1 {m : Nat} (h : m < pp) : mu m (inv 1) = m := by rw [inv_1]; unfold mu; rw [Nat.mul_one, Nat.mod_eq_of_lt h]
theorem ad_sb {y : Nat} (h : y < pp) : ad (sb y 1) 1 = y := by
  unfold ad sb
  have := one_ltp
  rw [Nat.mod_add_mod, show y + (pp - 1) + 1 = y + pp by omega, Nat.add_mod_right, Nat.mod_eq_of_lt h]
theorem sb_odd {r : Nat} (hr : r < pp) (h0 : r ≠ 0) (he : r % 2 = 0) : sb 0 r % 2 = 1 := by
  have e : sb 0 r = pp - r := by
    unfold sb
    rw [Nat.zero_add]; exact Nat.mod_eq_of_lt (by omega)
  rw [e]
  have := pp_odd
  omega
theorem ring_x {R : Type} [Lean.Grind.CommRing R] (x1 y1 x2 y2 d o t : R) : ((y1 + x1) * (y2 + x2) - (y1 - x1) * (y2 - x2)) * ((o * o + o * o) - (t * d + t * d)) = ((x1 * y2 + y1 * x2) * (o * o - d * t) + (x1 * y2 + y1 * x2) * (o * o - d * t)) + ((x1 * y2 + y1 * x2) * (o * o - d * t) + (x1 * y2 + y1 * x2) * (o * o - d * t)) := by grind
theorem ring_y {R : Type} [Lean.Grind.CommRing R] (x1 y1 x2 y2 d o t : R) : ((y1 + x1) * (y2 + x2) + (y1 - x1) * (y2 - x2)) * ((o * o + o * o) + (t * d + t * d)) = ((o * o + d * t) * (y1 * y2 + x1 * x2) + (o * o + d * t) * (y1 * y2 + x1 * x2)) + ((o * o + d * t) * (y1 * y2 + x1 * x2) + (o * o + d * t) * (y1 * y2 + x1 * x2)) := by grind
theorem ring_z {R : Type} [Lean.Grind.CommRing R] (d o t : R) : ((o * o + o * o) + (t * d + t * d)) * ((o * o + o * o) - (t * d + t * d)) = ((o * o - d * t) * (o * o + d * t) + (o * o - d * t) * (o * o + d * t)) + ((o * o - d * t) * (o * o + d * t) + (o * o - d * t) * (o * o + d * t)) := by grind
theorem ring_q {R : Type} [Lean.Grind.CommRing R] (f g o x w : R) (h1 : f * g = o) (h2 : o * (x * w) = x * w) : f * x * (o * (g * w)) = x * w := by grind
theorem ring_n {R : Type} [Lean.Grind.CommRing R] (z x y : R) (h : z * y = z) : z - x * y = (z - x) * y := by grind
instance : NeZero pp := ⟨by decide +kernel⟩
def cf (n : Nat) : Fin pp := Fin.ofNat pp n
theorem cf_mu (m n : Nat) : cf (mu m n) = cf m * cf n := by
  apply Fin.ext
  simp only [cf, mu, Fin.ofNat, Fin.val_mul]
  rw [Nat.mod_mod, Nat.mul_mod]
theorem cf_ad (m n : Nat) : cf (ad m n) = cf m + cf n := by
  apply Fin.ext
  simp only [cf, ad, Fin.ofNat, Fin.val_add]
  rw [Nat.mod_mod, Nat.add_mod]
theorem cf_sb {m n : Nat} (h : n < pp) : cf (sb m n) = cf m - cf n := by
  apply Fin.ext
  simp only [cf, sb, Fin.ofNat, Fin.sub_def]
  rw [Nat.mod_mod, Nat.mod_eq_of_lt h, Nat.add_mod_mod, Nat.add_comm]
theorem cf_inj {m n : Nat} (hm : m < pp) (hn : n < pp) (h : cf m = cf n) : m = n := by
  have := congrArg Fin.val h
  simp only [cf, Fin.ofNat] at this
  rwa [Nat.mod_eq_of_lt hm, Nat.mod_eq_of_lt hn] at this
def qd (n : Nat) : Nat := ad (ad n n) (ad n n)
theorem qd_mu (n : Nat) : qd n = mu 4 n := by
  unfold qd ad mu
  rw [← Nat.add_mod]
  exact congrArg (· % pp) (by omega)
theorem inv_mu (m n : Nat) : inv (mu m n) = mu (inv m) (inv n) := by
  obtain ⟨k, hk⟩ : ∃ k : Nat, k = 57896044618658097711785492504343953926634992332820282019728792003956564819947 := ⟨_, rfl⟩
  rw [← inv_pow_eq hk, ← inv_pow_eq hk, ← inv_pow_eq hk]
  exact mul_pow_mod
theorem one_mu {n : Nat} (h : n < pp) : mu 1 n = n := by unfold mu; rw [Nat.one_mul, Nat.mod_eq_of_lt h]
theorem four_inv : mu 4 (inv 4) = 1 := by decide +kernel
theorem quo {x z : Nat} : mu (qd x) (mu 1 (inv (qd z))) = mu x (inv z) := by
  rw [qd_mu, qd_mu, inv_mu]
  refine cf_inj (mu_lt _ _) (mu_lt _ _) ?_
  have h1 := congrArg cf four_inv
  have h2 := congrArg cf (one_mu (mu_lt x (inv z)))
  simp only [cf_mu] at h1 h2 ⊢
  exact ring_q _ _ _ _ _ h1 h2
theorem neg_mu {x y : Nat} (hx : x < pp) : sb 0 (mu x y) = mu (sb 0 x) y := by
  refine cf_inj (sb_lt _ _) (mu_lt _ _) ?_
  have h : mu 0 y = 0 := by unfold mu; rw [Nat.zero_mul, Nat.zero_mod]
  have h1 := congrArg cf h
  rw [cf_sb (mu_lt _ _), cf_mu, cf_mu, cf_sb hx]
  rw [cf_mu] at h1
  exact ring_n _ _ _ h1
def rX (x1 y1 x2 y2 t : Nat) : Nat := mu (ad (mu x1 y2) (mu y1 x2)) (sb (mu 1 1) (mu dN t))
def rY (x1 y1 x2 y2 t : Nat) : Nat := mu (ad (mu 1 1) (mu dN t)) (ad (mu y1 y2) (mu x1 x2))
def rZ (t : Nat) : Nat := mu (sb (mu 1 1) (mu dN t)) (ad (mu 1 1) (mu dN t))
theorem pX_eq {x1 y1 x2 y2 : Nat} (hx1 : x1 < pp) (hy1 : y1 < pp) (hx2 : x2 < pp) (hy2 : y2 < pp) : pX x1 (sb y1 1) x2 (sb y2 1) = qd (rX x1 y1 x2 y2 (mu (mu x1 y1) (mu x2 y2))) := by
  unfold pX rX
  rw [ad_sb hy1, ad_sb hy2]
  generalize ht : mu (mu x1 y1) (mu x2 y2) = t
  refine cf_inj (mu_lt _ _) (ad_lt _ _) ?_
  unfold qd
  rw [cf_mu, cf_sb (mu_lt _ _), cf_mu, cf_ad, cf_ad, cf_mu, cf_sb hx1, cf_sb hx2, cf_sb (ad_lt _ _), cf_ad, cf_ad, cf_ad, cf_ad, cf_mu, cf_mu, cf_mu, cf_ad, cf_mu, cf_mu, cf_sb (mu_lt _ _), cf_mu, cf_mu]
  exact ring_x _ _ _ _ _ _ _
theorem pY_eq {x1 y1 x2 y2 : Nat} (hx1 : x1 < pp) (hy1 : y1 < pp) (hx2 : x2 < pp) (hy2 : y2 < pp) : pY x1 (sb y1 1) x2 (sb y2 1) = qd (rY x1 y1 x2 y2 (mu (mu x1 y1) (mu x2 y2))) := by
  unfold pY rY
  rw [ad_sb hy1, ad_sb hy2]
  generalize ht : mu (mu x1 y1) (mu x2 y2) = t
  refine cf_inj (mu_lt _ _) (ad_lt _ _) ?_
  unfold qd
  simp only [cf_mu, cf_ad, cf_sb hx1, cf_sb hx2]
  exact ring_y _ _ _ _ _ _ _
theorem pZ_eq {x1 y1 x2 y2 : Nat} (hy1 : y1 < pp) (hy2 : y2 < pp) : pZ x1 (sb y1 1) x2 (sb y2 1) = qd (rZ (mu (mu x1 y1) (mu x2 y2))) := by
  unfold pZ rZ
  rw [ad_sb hy1, ad_sb hy2]
  generalize ht : mu (mu x1 y1) (mu x2 y2) = t
  refine cf_inj (mu_lt _ _) (ad_lt _ _) ?_
  unfold qd
  simp only [cf_mu, cf_ad, cf_sb (ad_lt _ _), cf_sb (mu_lt _ _)]
  exact ring_z _ _ _
theorem sx_eq {x1 y1 x2 y2 : Nat} (hx1 : x1 < pp) (hy1 : y1 < pp) (hx2 : x2 < pp) (hy2 : y2 < pp) : sx x1 (sb y1 1) x2 (sb y2 1) = mu (rX x1 y1 x2 y2 (mu (mu x1 y1) (mu x2 y2))) (inv (rZ (mu (mu x1 y1) (mu x2 y2)))) := by
  unfold sx
  rw [pX_eq hx1 hy1 hx2 hy2, pZ_eq hy1 hy2, quo]
theorem sy_eq {x1 y1 x2 y2 : Nat} (hx1 : x1 < pp) (hy1 : y1 < pp) (hx2 : x2 < pp) (hy2 : y2 < pp) : sy x1 (sb y1 1) x2 (sb y2 1) = mu (rY x1 y1 x2 y2 (mu (mu x1 y1) (mu x2 y2))) (inv (rZ (mu (mu x1 y1) (mu x2 y2)))) := by
  unfold sy
  rw [pY_eq hx1 hy1 hx2 hy2, pZ_eq hy1 hy2, quo]
/-- A point's text. -/
def tk (x y : Nat) : Nat → Nat := if x % 2 = 0 then kb y else updN (kb y) 31 (kb y 31 + 128)
theorem pk {x b : Nat} (hx : x < pp) (hb : b < pp) (W0 : World) : Calls Try.prog 12 #[.agg (ces [x, b])] W0 fun e w' => e = .returned (.agg (ck (tk x (ad b 1)))) ∧ Below W0.heap.size W0 w' := by
  unfold tk
  by_cases h : x % 2 = 0
  · have := pkey_e hx hb h W0
    rw [ck_congr (byt_kb _)] at this
    rw [if_pos h]; exact this
  · have := pkey_o hx hb h W0
    rw [ck_congr (G := updN (kb (ad b 1)) 31 (kb (ad b 1) 31 + 128)) (fun i hi => by
      unfold updN
      split
      · rw [byt_kb _ 31 (by omega)]
      · exact byt_kb _ i hi)] at this
    rw [if_neg h]; exact this
theorem rk {x1 y1 z1 t1 : Nat} (hx1 : x1 < pp) (hy1 : y1 < pp) (hz1 : z1 < pp) (W0 : World) : Calls Try.prog 13 #[.agg (cis [x1, y1, z1, t1])] W0 fun e w' => e = .returned (.agg (ck (tk (mu x1 (inv z1)) (mu y1 (inv z1))))) ∧ Below W0.heap.size W0 w' := by
  unfold tk
  by_cases h : mu x1 (inv z1) % 2 = 0
  · rw [if_pos h]; exact rkey_e hx1 hy1 hz1 h W0
  · rw [if_neg h]; exact rkey_o hx1 hy1 hz1 (by omega) W0
theorem kb_mod {m n : Nat} : ∀ k, (∀ i, i < k → kb m i = kb n i) → m % 256 ^ k = n % 256 ^ k
  | 0, _ => by rw [Nat.pow_zero, Nat.mod_one, Nat.mod_one]
  | k + 1, h => by
    rw [Nat.pow_succ, Nat.mod_mul, Nat.mod_mul, kb_mod k fun i hi => h i (by omega)]
    have := h k (by omega)
    unfold kb at this
    rw [this]
theorem kb_inj {m n : Nat} (hm : m < pp) (hn : n < pp) (h : ∀ i, i < 32 → kb m i = kb n i) : m = n := by
  have := kb_mod 32 h
  rwa [Nat.mod_eq_of_lt (pp_256 hm), Nat.mod_eq_of_lt (pp_256 hn)] at this
theorem tk_inj {x1 y1 x2 y2 : Nat} (hy1 : y1 < pp) (hy2 : y2 < pp) (h : ∀ i, i < 32 → tk x1 y1 i = tk x2 y2 i) : y1 = y2 ∧ x1 % 2 = x2 % 2 := by
  have t1 := kb_top hy1
  have t2 := kb_top hy2
  have e31 : ∀ x y, tk x y 31 = if x % 2 = 0 then kb y 31 else kb y 31 + 128 := by
    intro x y; unfold tk; split
    · rfl
    · unfold updN; rw [if_pos rfl]
  have eo : ∀ x y i, i ≠ 31 → tk x y i = kb y i := by
    intro x y i hi; unfold tk; split
    · rfl
    · unfold updN; rw [if_neg hi]
  have h31 := h 31 (by omega)
  rw [e31, e31] at h31
  have hp : x1 % 2 = x2 % 2 ∧ kb y1 31 = kb y2 31 := by
    split at h31 <;> split at h31 <;> omega
  refine ⟨kb_inj hy1 hy2 fun i hi => ?_, hp.1⟩
  by_cases e : i = 31
  · subst e; exact hp.2
  · have := h i hi
    rwa [eo _ _ _ e, eo _ _ _ e] at this
def uY (y : Nat) : Nat := mu (sb (mu y y) 1) (inv (ad (mu dN (mu y y)) 1))
theorem same_x {x1 x2 y : Nat} (hx1 : x1 < pp) (hx2 : x2 < pp) (h1 : mu x1 x1 = uY y) (h2 : mu x2 x2 = uY y) (hp : x1 % 2 = x2 % 2) : x1 = x2 := by
  rcases sq_eq hx1 hx2 (h1.trans h2.symm) with h | h
  · exact h
  · have := pp_odd
    omega
end Go.Proofs.Ytpogmflgmpifoaa

namespace Go.Proofs.Ytpogmflgmpifoaa
open Go.RowKit
theorem mu_zero (n : Nat) : mu 0 n = 0 := by unfold mu; rw [Nat.zero_mul, Nat.zero_mod]
theorem sb_11 : sb 1 1 = 0 := by decide +kernel
theorem uY_1 : uY 1 = 0 := by decide +kernel
theorem neg_sq {r : Nat} (hr : r < pp) (h0 : r ≠ 0) : mu (sb 0 r) (sb 0 r) = mu r r := by
  have e : sb 0 r = pp - r := by
    unfold sb
    rw [Nat.zero_add]; exact Nat.mod_eq_of_lt (by omega)
  rw [e]; unfold mu
  exact sq_neg (Nat.le_of_lt hr)
theorem both_of (b : Nat → Nat) (hb : ∀ i, b i < 256) : ∃ (x y : Nat) (k : Bool), x < pp ∧ y < pp ∧ mu x x = uY y ∧ (∀ w, Calls Try.prog 9 #[.agg (ck b)] w fun e w' => e = .returned (.tuple #[.agg (ces [x, sb y 1]), .bool k]) ∧ Below w.heap.size w w') ∧ (∀ w, Calls Try.prog 10 #[.agg (ck b)] w fun e w' => e = .returned (.tuple #[.agg (cis [x, y, 1, mu x y]), .bool k]) ∧ Below w.heap.size w w') := by
  have hc : ∀ i, (updN b 31 (b 31 % 128)) i < 256 := by
    intro i
    unfold updN
    split
    · exact Nat.lt_trans (Nat.mod_lt _ (by omega)) (by omega)
    · exact hb i
  have cO := fun w => of_k hc w
  have cO' := fun w => of_r hc w
  have hy := ofb_lt (updN b 31 (b 31 % 128))
  generalize ofb (updN b 31 (b 31 % 128)) = y at *
  obtain ⟨r, k, hr, hs, cU, cV⟩ := root_b2 (mu_lt (sb (mu y y) 1) (inv (ad (mu dN (mu y y)) 1)))
  have cE := fun w => evenX_r hy cU w
  have orig : (∀ w, Calls Try.prog 9 #[.agg (ck b)] w fun e w' => e = .returned (.tuple #[.agg (ces [0, 0]), .bool false]) ∧ Below w.heap.size w w') → (∀ w, Calls Try.prog 10 #[.agg (ck b)] w fun e w' => e = .returned (.tuple #[.agg (cis [0, 1, 1, 0]), .bool false]) ∧ Below w.heap.size w w') → ∃ (x y : Nat) (k : Bool), x < pp ∧ y < pp ∧ mu x x = uY y ∧ (∀ w, Calls Try.prog 9 #[.agg (ck b)] w fun e w' => e = .returned (.tuple #[.agg (ces [x, sb y 1]), .bool k]) ∧ Below w.heap.size w w') ∧ (∀ w, Calls Try.prog 10 #[.agg (ck b)] w fun e w' => e = .returned (.tuple #[.agg (cis [x, y, 1, mu x y]), .bool k]) ∧ Below w.heap.size w w') := by
    intro h1 h2
    refine ⟨0, 1, false, zero_ltp, one_ltp, by rw [uY_1, mu_zero], ?_, ?_⟩
    · rw [sb_11]; exact h1
    · rw [mu_zero]; exact h2
  by_cases hkey : ∀ i, i < 32 → byt (dig y) i = (updN b 31 (b 31 % 128)) i
  · have hkey' : ∀ i, i < 32 → kb y i = (updN b 31 (b 31 % 128)) i := fun i hi => by rw [← byt_kb y i hi]; exact hkey i hi
    cases k with
    | false =>
      refine orig (fun w => ?_) (fun w => rof_x hb hy cO' hkey' cV w)
      rcases Nat.lt_or_ge (b 31) 128 with hod | hod
      · exact of_xe hb hy cO hkey cE hod w
      · exact of_xo hb hy cO hkey cE hod w
    | true =>
      obtain ⟨-, hsq⟩ := hs rfl
      rcases Nat.lt_or_ge (b 31) 128 with hod | hod
      · exact ⟨r, y, true, hr, hy, hsq, fun w => of_e hb hy cO hkey cE hod w, fun w => rof_e hb hy cO' hkey' cV hr hod w⟩
      · by_cases hz : r = 0
        · exact orig (fun w => of_z hb hy cO hkey cE hr hz hod w) (fun w => rof_z hb hy cO' hkey' cV hz hod w)
        · exact ⟨sb 0 r, y, true, sb_lt _ _, hy, (neg_sq hr hz).trans hsq, fun w => of_o hb hy cO hkey cE hr hz hod w, fun w => rof_o hb hy cO' hkey' cV hr hz hod w⟩
  · have hkey' : ¬ ∀ i, i < 32 → kb y i = (updN b 31 (b 31 % 128)) i := fun h => hkey fun i hi => by rw [byt_kb y i hi]; exact h i hi
    refine orig (fun w => ?_) (fun w => rof_n hb hy cO' hkey' w)
    rcases Nat.lt_or_ge (b 31) 128 with hod | hod
    · exact of_ne hb hy cO hkey hod w
    · exact of_no hb hy cO hkey hod w
end Go.Proofs.Ytpogmflgmpifoaa

namespace Go.Proofs.Ytpogmflgmpifoaa
theorem no_den {R : Type} [Lean.Grind.CommRing R] (d i : R) (nzd : ∀ a b : R, a * b = 0 → a = 0 ∨ b = 0) (h20 : ∀ a : R, a + a = 0 → a = 0) (h10 : (1 : R) ≠ 0) (ns : ∀ a b : R, d * (b * b) = a * a → b = 0) (hi : i * i = -1) {x1 y1 x2 y2 e : R} (he : e * e = 1) (h1 : y1 * y1 - x1 * x1 = 1 + d * (x1 * x1 * y1 * y1)) (h2 : y2 * y2 - x2 * x2 = 1 + d * (x2 * x2 * y2 * y2)) (h : d * (x1 * x2 * y1 * y2) = e) : False := by
  have a1 := ns (y1 + i * e * x1) (x1 * y1 * (y2 + i * x2)) (by have := den_e d x1 y1 x2 y2 i e hi he h1 h2 h; grind)
  have a2 := ns (y1 + -i * e * x1) (x1 * y1 * (y2 + -i * x2)) (by have := den_e d x1 y1 x2 y2 (-i) e (by grind) he h1 h2 h; grind)
  have nxy : x1 * y1 ≠ 0 := by
    intro z
    have : e = 0 := by grind
    apply h10; grind
  have b1 : y2 + i * x2 = 0 := (nzd _ _ a1).resolve_left nxy
  have b2 : y2 + -i * x2 = 0 := (nzd _ _ a2).resolve_left nxy
  have c : y2 = 0 := h20 _ (by grind)
  apply h10
  grind
/-- A text's y gives no denominator 0 either. -/
theorem no_den1 {R : Type} [Lean.Grind.CommRing R] (d i : R) (h10 : (1 : R) ≠ 0) (ns : ∀ a b : R, d * (b * b) = a * a → b = 0) (hi : i * i = -1) {y : R} (h : d * (y * y) + 1 = 0) : False := by
  have a1 := ns i y (by grind)
  apply h10
  grind
theorem fin_nzd (a b : Fin pp) (h : a * b = 0) : a = 0 ∨ b = 0 := by
  by_cases ha : a.val = 0
  · exact Or.inl (Fin.ext ha)
  · by_cases hb : b.val = 0
    · exact Or.inr (Fin.ext hb)
    · exact absurd (by have := congrArg Fin.val h; rw [Fin.val_mul] at this; exact this) (mul_ne a.isLt b.isLt ha hb)
theorem fin_20 (a : Fin pp) (h : a + a = 0) : a = 0 := by
  have := congrArg Fin.val h
  rw [Fin.val_add] at this
  apply Fin.ext
  have hl := a.isLt
  have ho := pp_odd
  change (a.val + a.val) % pp = 0 at this
  show a.val = 0
  rcases Nat.lt_or_ge (a.val + a.val) pp with c | c
  · rw [Nat.mod_eq_of_lt c] at this; omega
  · rw [Nat.mod_eq_sub_mod c, Nat.mod_eq_of_lt (by omega)] at this; omega
theorem fin_10 : (1 : Fin pp) ≠ 0 := by
  intro h
  have := congrArg Fin.val h
  exact absurd this (by decide +kernel)
theorem d_pow {k : Nat} (hk : k = 28948022309329048855892746252171976963317496166410141009864396001978282409974) : dN ^ k % pp = pp - 1 := by
  have h : k < 2 ^ 255 := by rw [hk]; decide +kernel
  rw [← pmod_eq dN pp 255 k h, hk]
  decide +kernel
theorem ring_d {R : Type} [Lean.Grind.CommRing R] (d a b c o : R) (h : d * (b * b) = a * a) (h1 : b * c = o) (h2 : o * d = d) : a * c * (a * c) = d := by grind
theorem d_nosq {a b : Nat} (hb : b < pp) (h0 : b ≠ 0) (h : mu dN (mu b b) = mu a a) : False := by
  obtain ⟨k, hk⟩ : ∃ k : Nat, k = 28948022309329048855892746252171976963317496166410141009864396001978282409974 := ⟨_, rfl⟩
  have hh : 2 * k + 1 = pp := by rw [hk]; unfold pp; omega
  have e : mu (mu a (inv b)) (mu a (inv b)) = dN := by
    refine cf_inj (mu_lt _ _) dN_lt ?_
    have h1 := congrArg cf h
    have h2 : cf (mu b (inv b)) = cf 1 := congrArg cf (inv_mul hb h0)
    have h3 := congrArg cf (one_mu dN_lt)
    simp only [cf_mu] at h1 h2 h3 ⊢
    exact ring_d _ _ _ _ _ h1 h2 h3
  have e1 := one_of_root hh (by decide +kernel) e
  rw [d_pow hk] at e1
  exact absurd e1 (by decide +kernel)
theorem cf_val (a : Fin pp) : cf a.val = a := Fin.ext (Nat.mod_eq_of_lt a.isLt)
theorem fin_ns (a b : Fin pp) (h : cf dN * (b * b) = a * a) : b = 0 := by
  by_cases hb : b.val = 0
  · exact Fin.ext hb
  · refine (d_nosq (a := a.val) b.isLt hb ?_).elim
    refine cf_inj (mu_lt _ _) (mu_lt _ _) ?_
    rw [cf_mu, cf_mu, cf_mu, cf_val, cf_val]; exact h
theorem fin_i : cf iRt * cf iRt = -(1 : Fin pp) := by
  have h : mu iRt iRt = sb 0 1 := by decide +kernel
  rw [← cf_mu, h]
  apply Fin.ext
  decide +kernel
/-- The sum's denominators are not 0. -/
theorem fin_den {x1 y1 x2 y2 e : Fin pp} (he : e * e = 1) (h1 : y1 * y1 - x1 * x1 = 1 + cf dN * (x1 * x1 * y1 * y1)) (h2 : y2 * y2 - x2 * x2 = 1 + cf dN * (x2 * x2 * y2 * y2)) (h : cf dN * (x1 * x2 * y1 * y2) = e) : False :=
  no_den (cf dN) (cf iRt) fin_nzd fin_20 fin_10 fin_ns fin_i he h1 h2 h
theorem fin_den1 {y : Fin pp} (h : cf dN * (y * y) + 1 = 0) : False :=
  no_den1 (cf dN) (cf iRt) fin_10 fin_ns fin_i h
end Go.Proofs.Ytpogmflgmpifoaa

namespace Go.Proofs.Ytpogmflgmpifoaa

section
variable {R : Type} [Lean.Grind.CommRing R]
theorem g_close (d N1 N2 A B a b : R) (hA : A * a = 1) (hB : B * b = 1) (h : N2 ^ 2 * A ^ 2 - N1 ^ 2 * B ^ 2 = B ^ 2 * A ^ 2 + d * (N1 ^ 2 * N2 ^ 2)) : N2 * b * (N2 * b) - N1 * a * (N1 * a) = 1 + d * (N1 * a * (N1 * a) * (N2 * b) * (N2 * b)) := by grind
theorem g_ax (d x1 y1 x3 y3 N1 N2 M1 M2 A B C E a b c e : R) (hA : A * a = 1) (hB : B * b = 1) (hC : C * c = 1) (hE : E * e = 1)
    (h : (N1 * B * y3 + N2 * A * x3) * (C * E + d * (M1 * M2) * (x1 * y1)) = (x1 * M2 * C + y1 * M1 * E) * (A * B + d * (N1 * N2) * (x3 * y3))) :
    (N1 * a * y3 + N2 * b * x3) * (1 + d * (x1 * (M1 * c) * y1 * (M2 * e))) = (x1 * (M2 * e) + y1 * (M1 * c)) * (1 + d * (N1 * a * x3 * (N2 * b) * y3)) := by
  have e1 : (N1 * a * y3 + N2 * b * x3) * (1 + d * (x1 * (M1 * c) * y1 * (M2 * e))) = (N1 * B * y3 + N2 * A * x3) * (C * E + d * (M1 * M2) * (x1 * y1)) * (a * b * c * e) := by grind
  have e2 : (x1 * (M2 * e) + y1 * (M1 * c)) * (1 + d * (N1 * a * x3 * (N2 * b) * y3)) = (x1 * M2 * C + y1 * M1 * E) * (A * B + d * (N1 * N2) * (x3 * y3)) * (a * b * c * e) := by grind
  rw [e1, e2, h]
theorem g_ay (d x1 y1 x3 y3 N1 N2 M1 M2 A B C E a b c e : R) (hA : A * a = 1) (hB : B * b = 1) (hC : C * c = 1) (hE : E * e = 1)
    (h : (N2 * A * y3 + N1 * B * x3) * (C * E - d * (M1 * M2) * (x1 * y1)) = (y1 * M2 * C + x1 * M1 * E) * (A * B - d * (N1 * N2) * (x3 * y3))) :
    (N2 * b * y3 + N1 * a * x3) * (1 - d * (x1 * (M1 * c) * y1 * (M2 * e))) = (y1 * (M2 * e) + x1 * (M1 * c)) * (1 - d * (N1 * a * x3 * (N2 * b) * y3)) := by
  have e1 : (N2 * b * y3 + N1 * a * x3) * (1 - d * (x1 * (M1 * c) * y1 * (M2 * e))) = (N2 * A * y3 + N1 * B * x3) * (C * E - d * (M1 * M2) * (x1 * y1)) * (a * b * c * e) := by grind
  have e2 : (y1 * (M2 * e) + x1 * (M1 * c)) * (1 - d * (N1 * a * x3 * (N2 * b) * y3)) = (y1 * M2 * C + x1 * M1 * E) * (A * B - d * (N1 * N2) * (x3 * y3)) * (a * b * c * e) := by grind
  rw [e1, e2, h]
theorem g_10 : (1 : R) + 0 = 1 := by grind
theorem g_m0 : (1 : R) - 0 = 1 := by grind
theorem g_div (u v P Q p q : R) (hP : P * p = 1) (hQ : Q * q = 1) (h : u * Q = v * P) : u * p = v * q := by grind
end

abbrev Fp := Fin pp
def fi (a : Fp) : Fp := cf (inv a.val)
theorem cf_one : cf 1 = 1 := rfl
theorem fi_mul {a : Fp} (h : a ≠ 0) : a * fi a = 1 := by
  have h1 := inv_mul a.isLt (fun e => h (Fin.ext e))
  have h2 : cf (mu a.val (inv a.val)) = cf 1 := congrArg cf h1
  rw [cf_mu, cf_val] at h2
  exact h2
theorem fi_one : fi 1 = 1 := by have := fi_mul fin_10; grind
def dF : Fp := cf dN
def OC (p : Fp × Fp) : Prop := p.2 * p.2 - p.1 * p.1 = 1 + dF * (p.1 * p.1 * p.2 * p.2)
def pd (p q : Fp × Fp) : Fp := dF * (p.1 * q.1 * p.2 * q.2)
def pa (p q : Fp × Fp) : Fp × Fp := ((p.1 * q.2 + p.2 * q.1) * fi (1 + pd p q), (p.2 * q.2 + p.1 * q.1) * fi (1 - pd p q))
def pO : Fp × Fp := (0, 1)
def pn (p : Fp × Fp) : Fp × Fp := (-p.1, p.2)
theorem oc_O : OC pO := by unfold OC pO; grind
theorem oc_n {p : Fp × Fp} (h : OC p) : OC (pn p) := by unfold OC pn at *; grind
theorem pd_n1 {p q : Fp × Fp} (hp : OC p) (hq : OC q) : 1 + pd p q ≠ 0 := fun h => fin_den (e := -1) (by grind) hp hq (by unfold pd dF at h; grind)
theorem pd_n2 {p q : Fp × Fp} (hp : OC p) (hq : OC q) : 1 - pd p q ≠ 0 := fun h => fin_den (e := 1) (by grind) hp hq (by unfold pd dF at h; grind)
theorem pa_oc {p q : Fp × Fp} (hp : OC p) (hq : OC q) : OC (pa p q) := by
  have h := closure_e dF p.1 p.2 q.1 q.2 hp hq
  exact g_close dF _ _ _ _ _ _ (fi_mul (pd_n1 hp hq)) (fi_mul (pd_n2 hp hq)) h
theorem pa_comm (p q : Fp × Fp) : pa p q = pa q p := by
  have e : pd p q = pd q p := by unfold pd; grind
  unfold pa
  rw [e]
  refine Prod.ext ?_ ?_
  · show _ * fi _ = _ * fi _
    congr 1; grind
  · show _ * fi _ = _ * fi _
    congr 1; grind
theorem pa_assoc {p q r : Fp × Fp} (hp : OC p) (hq : OC q) (hr : OC r) : pa (pa p q) r = pa p (pa q r) := by
  have A := fi_mul (pd_n1 hp hq)
  have B := fi_mul (pd_n2 hp hq)
  have C := fi_mul (pd_n1 hq hr)
  have E := fi_mul (pd_n2 hq hr)
  have P1 := fi_mul (pd_n1 (pa_oc hp hq) hr)
  have P2 := fi_mul (pd_n2 (pa_oc hp hq) hr)
  have Q1 := fi_mul (pd_n1 hp (pa_oc hq hr))
  have Q2 := fi_mul (pd_n2 hp (pa_oc hq hr))
  refine Prod.ext ?_ ?_
  · exact g_div _ _ _ _ _ _ P1 Q1 (g_ax dF p.1 p.2 r.1 r.2 _ _ _ _ _ _ _ _ _ _ _ _ A B C E (assoc_x dF p.1 p.2 q.1 q.2 r.1 r.2 hp hq hr))
  · exact g_div _ _ _ _ _ _ P2 Q2 (g_ay dF p.1 p.2 r.1 r.2 _ _ _ _ _ _ _ _ _ _ _ _ A B C E (assoc_y dF p.1 p.2 q.1 q.2 r.1 r.2 hp hq hr))
theorem pa_O (p : Fp × Fp) : pa p pO = p := by
  have e : pd p pO = 0 := by unfold pd pO; grind
  unfold pa
  rw [e]
  refine Prod.ext ?_ ?_
  · show (p.1 * 1 + p.2 * 0) * fi (1 + 0) = p.1
    rw [g_10 (R := Fp), fi_one]; grind
  · show (p.2 * 1 + p.1 * 0) * fi (1 - 0) = p.2
    rw [g_m0 (R := Fp), fi_one]; grind
theorem pa_n {p : Fp × Fp} (hp : OC p) : pa p (pn p) = pO := by
  have B := fi_mul (pd_n2 hp (oc_n hp))
  have h := hp
  unfold OC at h
  refine Prod.ext ?_ ?_
  · show (p.1 * p.2 + p.2 * -p.1) * fi _ = 0
    grind
  · show (p.2 * p.2 + p.1 * -p.1) * fi (1 - pd p (pn p)) = 1
    have e : p.2 * p.2 + p.1 * -p.1 = 1 - pd p (pn p) := by unfold pd pn; grind
    rw [e]; exact B

/-- So many times a point. -/
def mt : Nat → Fp × Fp → Fp × Fp
  | 0, _ => pO
  | k + 1, p => pa (mt k p) p
theorem mt_oc {p : Fp × Fp} (hp : OC p) : ∀ k, OC (mt k p)
  | 0 => oc_O
  | k + 1 => pa_oc (mt_oc hp k) hp
theorem mt_add {p : Fp × Fp} (hp : OC p) (j : Nat) : ∀ k, pa (mt j p) (mt k p) = mt (j + k) p
  | 0 => pa_O _
  | k + 1 => by
    show pa (mt j p) (pa (mt k p) p) = pa (mt (j + k) p) p
    rw [← pa_assoc (mt_oc hp j) (mt_oc hp k) hp, mt_add hp j k]
theorem mt_mul {p : Fp × Fp} (hp : OC p) (k : Nat) : ∀ j, mt j (mt k p) = mt (j * k) p
  | 0 => by rw [Nat.zero_mul]; rfl
  | j + 1 => by
    show pa (mt j (mt k p)) (mt k p) = _
    rw [mt_mul hp k j, mt_add hp, Nat.succ_mul]

/-- A point by four numbers: X = x Z, Y = y Z, T = x y Z. -/
def Pj (v : Nat × Nat × Nat × Nat) (p : Fp × Fp) : Prop := cf v.2.2.1 ≠ 0 ∧ cf v.1 = p.1 * cf v.2.2.1 ∧ cf v.2.1 = p.2 * cf v.2.2.1 ∧ cf v.2.2.2 = p.1 * p.2 * cf v.2.2.1
def Gd (v : Nat × Nat × Nat × Nat) : Prop := v.1 < pp ∧ v.2.1 < pp ∧ v.2.2.1 < pp ∧ v.2.2.2 < pp
section
variable {R : Type} [Lean.Grind.CommRing R]
/-- The program's sum. -/
theorem g_sX (d x1 y1 z1 x2 y2 z2 A B a : R) (hA : A * a = 1) (eA : A = 1 + d * (x1 * x2 * y1 * y2)) (_eB : B = 1 - d * (x1 * x2 * y1 * y2)) :
    ((y1 * z1 + x1 * z1) * (y2 * z2 + x2 * z2) - (y1 * z1 - x1 * z1) * (y2 * z2 - x2 * z2)) * ((z1 * z2 + z1 * z2) - (x1 * y1 * z1 * (x2 * y2 * z2) * d + x1 * y1 * z1 * (x2 * y2 * z2) * d)) =
    (x1 * y2 + y1 * x2) * a * (((z1 * z2 + z1 * z2) + (x1 * y1 * z1 * (x2 * y2 * z2) * d + x1 * y1 * z1 * (x2 * y2 * z2) * d)) * ((z1 * z2 + z1 * z2) - (x1 * y1 * z1 * (x2 * y2 * z2) * d + x1 * y1 * z1 * (x2 * y2 * z2) * d))) := by
  have e1 : (z1 * z2 + z1 * z2) + (x1 * y1 * z1 * (x2 * y2 * z2) * d + x1 * y1 * z1 * (x2 * y2 * z2) * d) = (z1 * z2 + z1 * z2) * A := by grind
  rw [e1]; grind
theorem g_sY (d x1 y1 z1 x2 y2 z2 A B b : R) (hB : B * b = 1) (_eA : A = 1 + d * (x1 * x2 * y1 * y2)) (eB : B = 1 - d * (x1 * x2 * y1 * y2)) :
    ((y1 * z1 + x1 * z1) * (y2 * z2 + x2 * z2) + (y1 * z1 - x1 * z1) * (y2 * z2 - x2 * z2)) * ((z1 * z2 + z1 * z2) + (x1 * y1 * z1 * (x2 * y2 * z2) * d + x1 * y1 * z1 * (x2 * y2 * z2) * d)) =
    (y1 * y2 + x1 * x2) * b * (((z1 * z2 + z1 * z2) + (x1 * y1 * z1 * (x2 * y2 * z2) * d + x1 * y1 * z1 * (x2 * y2 * z2) * d)) * ((z1 * z2 + z1 * z2) - (x1 * y1 * z1 * (x2 * y2 * z2) * d + x1 * y1 * z1 * (x2 * y2 * z2) * d))) := by
  have e1 : (z1 * z2 + z1 * z2) - (x1 * y1 * z1 * (x2 * y2 * z2) * d + x1 * y1 * z1 * (x2 * y2 * z2) * d) = (z1 * z2 + z1 * z2) * B := by grind
  rw [e1]; grind
theorem g_sT (d x1 y1 z1 x2 y2 z2 A B a b : R) (hA : A * a = 1) (hB : B * b = 1) (eA : A = 1 + d * (x1 * x2 * y1 * y2)) (eB : B = 1 - d * (x1 * x2 * y1 * y2)) :
    ((y1 * z1 + x1 * z1) * (y2 * z2 + x2 * z2) - (y1 * z1 - x1 * z1) * (y2 * z2 - x2 * z2)) * ((y1 * z1 + x1 * z1) * (y2 * z2 + x2 * z2) + (y1 * z1 - x1 * z1) * (y2 * z2 - x2 * z2)) =
    (x1 * y2 + y1 * x2) * a * ((y1 * y2 + x1 * x2) * b) * (((z1 * z2 + z1 * z2) + (x1 * y1 * z1 * (x2 * y2 * z2) * d + x1 * y1 * z1 * (x2 * y2 * z2) * d)) * ((z1 * z2 + z1 * z2) - (x1 * y1 * z1 * (x2 * y2 * z2) * d + x1 * y1 * z1 * (x2 * y2 * z2) * d))) := by
  have e1 : (z1 * z2 + z1 * z2) + (x1 * y1 * z1 * (x2 * y2 * z2) * d + x1 * y1 * z1 * (x2 * y2 * z2) * d) = (z1 * z2 + z1 * z2) * A := by grind
  have e2 : (z1 * z2 + z1 * z2) - (x1 * y1 * z1 * (x2 * y2 * z2) * d + x1 * y1 * z1 * (x2 * y2 * z2) * d) = (z1 * z2 + z1 * z2) * B := by grind
  rw [e1, e2]
  have e3 : (x1 * y2 + y1 * x2) * a * ((y1 * y2 + x1 * x2) * b) * ((z1 * z2 + z1 * z2) * A * ((z1 * z2 + z1 * z2) * B)) = (x1 * y2 + y1 * x2) * (y1 * y2 + x1 * x2) * ((z1 * z2 + z1 * z2) * (z1 * z2 + z1 * z2)) * ((A * a) * (B * b)) := by grind
  rw [e3, hA, hB]; grind
/-- The reference's sum. -/
theorem g_rX (d x1 y1 z1 x2 y2 z2 A B a : R) (hA : A * a = 1) (eA : A = 1 + d * (x1 * x2 * y1 * y2)) (_eB : B = 1 - d * (x1 * x2 * y1 * y2)) :
    (x1 * z1 * (y2 * z2) + y1 * z1 * (x2 * z2)) * (z1 * z2 - d * (x1 * y1 * z1 * (x2 * y2 * z2))) = (x1 * y2 + y1 * x2) * a * ((z1 * z2 - d * (x1 * y1 * z1 * (x2 * y2 * z2))) * (z1 * z2 + d * (x1 * y1 * z1 * (x2 * y2 * z2)))) := by
  have e1 : z1 * z2 + d * (x1 * y1 * z1 * (x2 * y2 * z2)) = z1 * z2 * A := by grind
  rw [e1]; grind
theorem g_rY (d x1 y1 z1 x2 y2 z2 A B b : R) (hB : B * b = 1) (_eA : A = 1 + d * (x1 * x2 * y1 * y2)) (eB : B = 1 - d * (x1 * x2 * y1 * y2)) :
    (z1 * z2 + d * (x1 * y1 * z1 * (x2 * y2 * z2))) * (y1 * z1 * (y2 * z2) + x1 * z1 * (x2 * z2)) = (y1 * y2 + x1 * x2) * b * ((z1 * z2 - d * (x1 * y1 * z1 * (x2 * y2 * z2))) * (z1 * z2 + d * (x1 * y1 * z1 * (x2 * y2 * z2)))) := by
  have e1 : z1 * z2 - d * (x1 * y1 * z1 * (x2 * y2 * z2)) = z1 * z2 * B := by grind
  rw [e1]; grind
theorem g_rT (d x1 y1 z1 x2 y2 z2 A B a b : R) (hA : A * a = 1) (hB : B * b = 1) (eA : A = 1 + d * (x1 * x2 * y1 * y2)) (eB : B = 1 - d * (x1 * x2 * y1 * y2)) :
    (x1 * z1 * (y2 * z2) + y1 * z1 * (x2 * z2)) * (y1 * z1 * (y2 * z2) + x1 * z1 * (x2 * z2)) = (x1 * y2 + y1 * x2) * a * ((y1 * y2 + x1 * x2) * b) * ((z1 * z2 - d * (x1 * y1 * z1 * (x2 * y2 * z2))) * (z1 * z2 + d * (x1 * y1 * z1 * (x2 * y2 * z2)))) := by
  have e1 : z1 * z2 + d * (x1 * y1 * z1 * (x2 * y2 * z2)) = z1 * z2 * A := by grind
  have e2 : z1 * z2 - d * (x1 * y1 * z1 * (x2 * y2 * z2)) = z1 * z2 * B := by grind
  rw [e1, e2]
  have e3 : (x1 * y2 + y1 * x2) * a * ((y1 * y2 + x1 * x2) * b) * (z1 * z2 * B * (z1 * z2 * A)) = (x1 * y2 + y1 * x2) * (y1 * y2 + x1 * x2) * (z1 * z2 * (z1 * z2)) * ((A * a) * (B * b)) := by grind
  rw [e3, hA, hB]; grind
theorem g_z1 (d x1 y1 z1 x2 y2 z2 : R) : (z1 * z2 + z1 * z2) + (x1 * y1 * z1 * (x2 * y2 * z2) * d + x1 * y1 * z1 * (x2 * y2 * z2) * d) = (1 + d * (x1 * x2 * y1 * y2)) * (z1 * z2 + z1 * z2) := by grind
theorem g_z2 (d x1 y1 z1 x2 y2 z2 : R) : (z1 * z2 + z1 * z2) - (x1 * y1 * z1 * (x2 * y2 * z2) * d + x1 * y1 * z1 * (x2 * y2 * z2) * d) = (1 - d * (x1 * x2 * y1 * y2)) * (z1 * z2 + z1 * z2) := by grind
theorem g_z3 (d x1 y1 z1 x2 y2 z2 : R) : z1 * z2 + d * (x1 * y1 * z1 * (x2 * y2 * z2)) = (1 + d * (x1 * x2 * y1 * y2)) * (z1 * z2) := by grind
theorem g_z4 (d x1 y1 z1 x2 y2 z2 : R) : z1 * z2 - d * (x1 * y1 * z1 * (x2 * y2 * z2)) = (1 - d * (x1 * x2 * y1 * y2)) * (z1 * z2) := by grind
end
theorem fin_mul_ne {a b : Fp} (ha : a ≠ 0) (hb : b ≠ 0) : a * b ≠ 0 := fun h => (fin_nzd a b h).elim ha hb
def sumS (v u : Nat × Nat × Nat × Nat) : Nat × Nat × Nat × Nat :=
  (mu (sb (mu (ad v.2.1 v.1) (ad u.2.1 u.1)) (mu (sb v.2.1 v.1) (sb u.2.1 u.1))) (sb (ad (mu v.2.2.1 u.2.2.1) (mu v.2.2.1 u.2.2.1)) (ad (mu (mu v.2.2.2 u.2.2.2) dN) (mu (mu v.2.2.2 u.2.2.2) dN))),
   mu (ad (mu (ad v.2.1 v.1) (ad u.2.1 u.1)) (mu (sb v.2.1 v.1) (sb u.2.1 u.1))) (ad (ad (mu v.2.2.1 u.2.2.1) (mu v.2.2.1 u.2.2.1)) (ad (mu (mu v.2.2.2 u.2.2.2) dN) (mu (mu v.2.2.2 u.2.2.2) dN))),
   mu (ad (ad (mu v.2.2.1 u.2.2.1) (mu v.2.2.1 u.2.2.1)) (ad (mu (mu v.2.2.2 u.2.2.2) dN) (mu (mu v.2.2.2 u.2.2.2) dN))) (sb (ad (mu v.2.2.1 u.2.2.1) (mu v.2.2.1 u.2.2.1)) (ad (mu (mu v.2.2.2 u.2.2.2) dN) (mu (mu v.2.2.2 u.2.2.2) dN))),
   mu (sb (mu (ad v.2.1 v.1) (ad u.2.1 u.1)) (mu (sb v.2.1 v.1) (sb u.2.1 u.1))) (ad (mu (ad v.2.1 v.1) (ad u.2.1 u.1)) (mu (sb v.2.1 v.1) (sb u.2.1 u.1))))
theorem sumS_gd (v u : Nat × Nat × Nat × Nat) : Gd (sumS v u) := ⟨mu_lt _ _, mu_lt _ _, mu_lt _ _, mu_lt _ _⟩
theorem sumS_pj {v u : Nat × Nat × Nat × Nat} {p q : Fp × Fp} (gv : Gd v) (gu : Gd u) (hp : OC p) (hq : OC q) (hv : Pj v p) (hu : Pj u q) : Pj (sumS v u) (pa p q) := by
  obtain ⟨nz1, e1, e2, e3⟩ := hv
  obtain ⟨nz2, e4, e5, e6⟩ := hu
  have A := fi_mul (pd_n1 hp hq)
  have B := fi_mul (pd_n2 hp hq)
  have two : cf v.2.2.1 * cf u.2.2.1 + cf v.2.2.1 * cf u.2.2.1 ≠ 0 := fun h => fin_mul_ne nz1 nz2 (fin_20 _ h)
  unfold Pj sumS
  simp only [cf_mu, cf_ad, cf_sb gv.1, cf_sb gu.1, cf_sb (mu_lt _ _), cf_sb (ad_lt _ _), e1, e2, e3, e4, e5, e6]
  refine ⟨?_, ?_, ?_, ?_⟩
  · rw [g_z1, g_z2]
    exact fin_mul_ne (fin_mul_ne (pd_n1 hp hq) two) (fin_mul_ne (pd_n2 hp hq) two)
  · exact g_sX (cf dN) p.1 p.2 _ q.1 q.2 _ _ _ _ A rfl rfl
  · exact g_sY (cf dN) p.1 p.2 _ q.1 q.2 _ _ _ _ B rfl rfl
  · exact g_sT (cf dN) p.1 p.2 _ q.1 q.2 _ _ _ _ _ A B rfl rfl
def sumR (v u : Nat × Nat × Nat × Nat) : Nat × Nat × Nat × Nat :=
  (mu (ad (mu v.1 u.2.1) (mu v.2.1 u.1)) (sb (mu v.2.2.1 u.2.2.1) (mu dN (mu v.2.2.2 u.2.2.2))),
   mu (ad (mu v.2.2.1 u.2.2.1) (mu dN (mu v.2.2.2 u.2.2.2))) (ad (mu v.2.1 u.2.1) (mu v.1 u.1)),
   mu (sb (mu v.2.2.1 u.2.2.1) (mu dN (mu v.2.2.2 u.2.2.2))) (ad (mu v.2.2.1 u.2.2.1) (mu dN (mu v.2.2.2 u.2.2.2))),
   mu (ad (mu v.1 u.2.1) (mu v.2.1 u.1)) (ad (mu v.2.1 u.2.1) (mu v.1 u.1)))
theorem sumR_gd (v u : Nat × Nat × Nat × Nat) : Gd (sumR v u) := ⟨mu_lt _ _, mu_lt _ _, mu_lt _ _, mu_lt _ _⟩
theorem sumR_pj {v u : Nat × Nat × Nat × Nat} {p q : Fp × Fp} (hp : OC p) (hq : OC q) (hv : Pj v p) (hu : Pj u q) : Pj (sumR v u) (pa p q) := by
  obtain ⟨nz1, e1, e2, e3⟩ := hv
  obtain ⟨nz2, e4, e5, e6⟩ := hu
  have A := fi_mul (pd_n1 hp hq)
  have B := fi_mul (pd_n2 hp hq)
  have two := fin_mul_ne nz1 nz2
  unfold Pj sumR
  simp only [cf_mu, cf_ad, cf_sb (mu_lt _ _), e1, e2, e3, e4, e5, e6]
  refine ⟨?_, ?_, ?_, ?_⟩
  · rw [g_z3, g_z4]
    exact fin_mul_ne (fin_mul_ne (pd_n2 hp hq) two) (fin_mul_ne (pd_n1 hp hq) two)
  · exact g_rX (cf dN) p.1 p.2 _ q.1 q.2 _ _ _ _ A rfl rfl
  · exact g_rY (cf dN) p.1 p.2 _ q.1 q.2 _ _ _ _ B rfl rfl
  · exact g_rT (cf dN) p.1 p.2 _ q.1 q.2 _ _ _ _ _ A B rfl rfl
end Go.Proofs.Ytpogmflgmpifoaa

namespace Go.Proofs.Ytpogmflgmpifoaa
open Go.RowKit

/-- A slice of bytes that reads so. -/
def Bs (w : World) (a : Option Addr) (len : Nat) (f : Nat → Nat) : Prop :=
  (∀ i, f i < 256) ∧ (0 < len → ∃ b off, a = some ⟨b, off, none⟩ ∧ ∀ i, i < len → w.cell? ⟨b, off + i, none⟩ = some (.int .u8 ((f i : Nat) : Int)))
theorem cell_lt {w : World} {p : Addr} {v : Value} (h : w.cell? p = some v) : p.block < w.heap.size := by
  unfold World.cell? at h
  rcases Nat.lt_or_ge p.block w.heap.size with h1 | h1
  · exact h1
  · rw [Array.getElem?_eq_none h1] at h; cases h
theorem cell_later {w w' : World} {p : Addr} {v : Value} (hb : Below w.heap.size w w') (h : w.cell? p = some v) : w'.cell? p = some v := (hb.cell (cell_lt h)).trans h
theorem Bs.later {w w' : World} {a : Option Addr} {len : Nat} {f : Nat → Nat} (h : Bs w a len f) (hb : Below w.heap.size w w') : Bs w' a len f :=
  ⟨h.1, fun hl => by
    obtain ⟨b, off, e, hc⟩ := h.2 hl
    exact ⟨b, off, e, fun i hi => cell_later hb (hc i hi)⟩⟩
theorem bs_key {w : World} {q : Nat} {f : Nat → Nat} {t : TypeId} {fr : Nat × Nat} (hf : ∀ i, f i < 256) (h : w.heap[q]? = some (.cells (ck f) t fr)) : Bs w (some ⟨q, 0, none⟩) 32 f :=
  ⟨hf, fun _ => ⟨q, 0, rfl, fun i hi => by rw [Nat.zero_add, cell_of_row _ _ _ _ _ _ h]; exact arr_get _ _ _ hi⟩⟩

theorem info_u8 : (Try.prog.info? 5).map (fun i => (i.zero, i.size, i.bytes)) = some (some (.int .u8 0), 1, 1) := by kernel_rfl

/-- The cells that are copied. -/
def bvs (len : Nat) (f : Nat → Nat) : List Value := (List.range len).map fun i => .int .u8 ((f i : Nat) : Int)
theorem bvs_len (len : Nat) (f : Nat → Nat) : (bvs len f).length = len := by simp [bvs]
theorem bvs_get {len i : Nat} (f : Nat → Nat) (h : i < len) : (bvs len f)[i]? = some (.int .u8 ((f i : Nat) : Int)) := by simp [bvs, h]
theorem bvs_one (len : Nat) (f : Nat → Nat) : ∀ v ∈ bvs len f, v.oneCell' = true := by
  intro v hv
  simp only [bvs, List.mem_map] at hv
  obtain ⟨i, _, rfl⟩ := hv
  rfl

set_option maxRecDepth 100000 in
set_option maxHeartbeats 1000000 in
theorem figures_d (a : Option Addr) (len cap : Nat) (f : Nat → Nat) (w : World) (hb : Bs w a len f) (hm : len ≤ 1000) :
    Calls Try.prog 70 #[.slice a len cap] w fun e w' => ∃ p g, e = .returned (.func (.func 82) #[] #[.pointer (some ⟨p, 0, none⟩)]) ∧ w.heap.size ≤ p ∧ w.heap.size ≤ g ∧ w'.cell? ⟨p, 0, none⟩ = some (.slice (some ⟨g, 0, none⟩) len len) ∧
      (∃ c, w'.heap[g]? = some c ∧ c.isCells = true) ∧ (∀ i, i < len → w'.cell? ⟨g, i, none⟩ = some (.int .u8 ((f i : Nat) : Int))) ∧ Below w.heap.size w w' := by
  obtain ⟨cur, hcur⟩ : ∃ cur : List Value, Hid (cur.toArray = madeCells #[.int .u8 0] len ∧ cur.length = len) := ⟨(madeCells #[.int .u8 0] len).toList, hide1 ⟨by simp, by simp [madeCells]⟩⟩
  obtain ⟨cs, hcs⟩ : ∃ cs, Hid (cs = bvs len f) := ⟨_, hide1 rfl⟩
  have hcl : cs.length = len := by rw [hcs.out, bvs_len]
  have hmk := run_make_row' (P := Try.prog) 50 5 (.int .u8 0) 1 Try.underlying50 info_u8 rfl .i64 .i64 len (by omega) (by omega) w
  rw [← hcur.out.1] at hmk
  obtain ⟨w1, hw1⟩ : ∃ w1, Hid (w1 = (w.alloc (.cells cur.toArray 5)).alloc (.cells #[.slice (some ⟨w.heap.size, 0, none⟩) len len] 50)) := ⟨_, hide1 rfl⟩
  have hg1 : w1.heap[w.heap.size]? = some (.cells cur.toArray 5 (0, 0)) := by rw [hw1.out]; exact (Below.heap_alloc _ _ _ (by simp)).trans (World.alloc_heap_new w _)
  have hbl : Below w.heap.size w w1 := by rw [hw1.out]; exact ((Below.refl _ w).alloc (Nat.le_refl _) _).alloc (by simp) _
  have hcp : (Builtin.copy_ #[50, 50] 3 #[.slice (some ⟨w.heap.size, 0, none⟩) len len, .slice a len cap]).run Try.prog w1 = .ok (.int .i64 (len : Int)) (w1.setRow w.heap.size cs.toArray) := by
    rcases Nat.eq_zero_or_pos len with h0 | h0
    · subst h0
      have h1 := run_copy_none (P := Try.prog) w1 50 50 3 5 (some ⟨w.heap.size, 0, none⟩) a 0 0 0 cap Try.underlying50 (by kernel_rfl) rfl
      obtain rfl : cs = [] := List.eq_nil_of_length_eq_zero hcl
      obtain rfl : cur = [] := List.eq_nil_of_length_eq_zero hcur.out.2
      rw [setRow_self _ _ _ _ _ hg1]
      exact h1
    · obtain ⟨b, off, rfl, hc⟩ := hb.2 h0
      have h1 := run_copy_row (P := Try.prog) w1 50 50 3 5 w.heap.size 0 len len ⟨b, off, none⟩ len cap cur.toArray 5 cs Try.underlying50 (by kernel_rfl) hg1 (by rw [hcl]; exact (Nat.min_self _).symm) (fun j v hj => by
        rw [hcs.out] at hj
        have hjl : j < len := by have := (List.getElem?_eq_some_iff.1 hj).1; rwa [bvs_len] at this
        rw [bvs_get f hjl] at hj
        cases hj
        have h1 := cell_later hbl (hc j hjl)
        simpa [Addr.add_lit] using h1) (by simp [hcl, hcur.out.2]) (by rw [hcs.out]; exact bvs_one _ _)
      have e1 : (cur.toArray.toList.take 0 ++ cs ++ cur.toArray.toList.drop (0 + cs.length)) = cs := by
        rw [List.take_zero, List.nil_append, Nat.zero_add, List.drop_eq_nil_of_le (by simp [hcur.out.2, hcl]), List.append_nil]
      rw [e1, hcl] at h1
      exact h1
  rw [hw1.out] at hcp
  go_enter Try.func70, Try.ntmps70
  go_wp2
  go_ret
  rw [← hw1.out]
  have hg3 : (w1.setRow w.heap.size cs.toArray).heap[w.heap.size]? = some (.cells cs.toArray 5 (0, 0)) := setRow_heap _ _ _ _ _ _ hg1
  refine ⟨w.heap.size + 1, w.heap.size, rfl, by omega, Nat.le_refl _, ?_, ⟨_, hg3, rfl⟩, fun i hi => ?_, below_setRow hbl (Nat.le_refl _) _⟩
  · rw [World.cell?_of_block (setRow_other w1 w.heap.size (w.heap.size + 1) cs.toArray (by simp)), hw1.out]
    simp
  · rw [cell_of_row _ _ _ _ _ _ hg3, hcs.out]
    simpa using bvs_get f hi
end Go.Proofs.Ytpogmflgmpifoaa

namespace Go.Proofs.Ytpogmflgmpifoaa
open Go.RowKit Go.Shelf
attribute [local go_sem] Oper.semAt_some

/-- Figure number i of bytes. -/
def fg (f : Nat → Nat) (i : Nat) : Nat := f (i / 8) / 2 ^ (i % 8) % 2
/-- The first k figures, from the highest on, of n in all. -/
def tops (f : Nat → Nat) (n k : Nat) : List Nat := (List.range k).map fun j => fg f (n - 1 - j)
theorem tops_succ (f : Nat → Nat) (n k : Nat) : tops f n (k + 1) = tops f n k ++ [fg f (n - 1 - k)] := by simp [tops, List.range_succ]
theorem tops_length (f : Nat → Nat) (n k : Nat) : (tops f n k).length = k := by simp [tops]

theorem fg_bit {f : Nat → Nat} (hf : ∀ i, f i < 256) (j : Nat) : bits .and .u8 (((f (j / 8) : Nat) : Int) / 2 ^ (j % 8)) 1 = ((fg f j : Nat) : Int) := by
  have h1 : ∀ k, k < 256 → bits .and .u8 ((k : Nat) : Int) 1 = ((k % 2 : Nat) : Int) := by decide +kernel
  have h2 : ((f (j / 8) : Nat) : Int) / 2 ^ (j % 8) = ((f (j / 8) / 2 ^ (j % 8) : Nat) : Int) := by
    rw [Int.natCast_ediv]; simp
  rw [h2, h1 _ (Nat.lt_of_le_of_lt (Nat.div_le_self _ _) (hf _))]
  rfl
/-- What a round must keep: two blocks. -/
def Two (p g : Nat) (A B : World) : Prop := B.heap[p]? = A.heap[p]? ∧ B.heap[g]? = A.heap[g]?

set_option maxRecDepth 100000 in
set_option maxHeartbeats 4000000 in
theorem figs_in (l p g len : Nat) (f : Nat → Nat) (hf : ∀ i, f i < 256) (hm : len ≤ 1000) (J Jx : List Nat → World → Prop)
    (hY : ∀ pre x W, J pre W → pre.length < 8 * len → YieldAt Fence.wide 3 Try.prog l #[.int .u8 ((x : Nat) : Int)] W fun e W' =>
      (e = .returned (.bool true) ∧ J (pre ++ [x]) W' ∧ Two p g W W') ∨ (e = .returned (.bool false) ∧ Jx (pre ++ [x]) W'))
    (W : World) (hp : W.cell? ⟨p, 0, none⟩ = some (.slice (some ⟨g, 0, none⟩) len len)) (hg : ∀ i, i < len → W.cell? ⟨g, i, none⟩ = some (.int .u8 ((f i : Nat) : Int))) (h0 : J [] W) :
    CallsIn Fence.wide 4 Try.prog 82 #[.func (.yield l) #[] #[], .pointer (some ⟨p, 0, none⟩)] W fun e W' => (∃ v, e = .returned v) ∧
      ((∃ ys, ys = tops f (8 * len) (8 * len) ∧ J ys W') ∨ (∃ pre, (∃ k, k ≤ 8 * len ∧ pre = tops f (8 * len) k) ∧ Jx pre W')) := by
  refine callsIn_of_wp Try.func82 rfl trivial ?_ rfl
  simp only [Try.ntmps82, List.size_toArray, List.length_cons, List.length_nil, Nat.reduceAdd, Nat.reduceSub, Array.replicate_succ, Array.replicate_zero, List.push_toArray, List.append_toArray, List.nil_append, List.cons_append]
  gi_wp2
  gi_loopw [3] (fun i wr => ∃ k : Nat, k ≤ 8 * len ∧ i = .int .i64 (8 * (len : Int) - 1 - (k : Int)) ∧ J (tops f (8 * len) k) wr ∧ wr.cell? ⟨p, 0, none⟩ = some (.slice (some ⟨g, 0, none⟩) len len) ∧ ∀ i, i < len → wr.cell? ⟨g, i, none⟩ = some (.int .u8 ((f i : Nat) : Int)))
    (fun i _ => (intOf i + 1).toNat)
  case atStart => exact ⟨0, Nat.zero_le _, by simp, h0, hp, hg⟩
  case round =>
    obtain ⟨k, hk, rfl, hJs, hp', hg'⟩ := hrel
    by_cases hlt : k < 8 * len
    · obtain ⟨j, hj⟩ : ∃ j : Nat, Hid (j + 1 + k = 8 * len) := ⟨8 * len - 1 - k, hide1 (by omega)⟩
      have ej : 8 * (len : Int) - 1 - (k : Int) = (j : Int) := by have := hj.out; omega
      rw [ej]
      obtain ⟨fn, tmps, assign, body, hy, hR⟩ := hY _ (fg f j) wr hJs (by rw [tops_length]; exact hlt)
      have hcx := hg' (j / 8) (by have := hj.out; omega)
      have hbt := fg_bit hf j
      have hjs : J (tops f (8 * len) k ++ [fg f j]) = J (tops f (8 * len) (k + 1)) := by rw [tops_succ, show 8 * len - 1 - k = j by have := hj.out; omega]
      have hjx : Jx (tops f (8 * len) k ++ [fg f j]) = Jx (tops f (8 * len) (k + 1)) := by rw [tops_succ, show 8 * len - 1 - k = j by have := hj.out; omega]
      gi_wp2
      refine hR.mono ?_
      rintro e W3 (⟨rfl, hJ3, hk3⟩ | ⟨rfl, hJx3⟩)
      · rw [hjs] at hJ3
        gi_wp2
        go_roundw
        case rel => exact ⟨k + 1, by omega, by have := hj.out; congr 1; omega, hJ3, (World.cell?_of_block hk3.1).trans hp', fun i hi => (World.cell?_of_block hk3.2).trans (hg' i hi)⟩
        case measure => simp [intOf]
      · rw [hjx] at hJx3
        gi_wp2
        refine bodyPost_ret (results_none rfl _ _ _) rfl ?_
        exact ⟨⟨_, rfl⟩, .inr ⟨_, ⟨k + 1, by omega, rfl⟩, hJx3⟩⟩
    · obtain rfl : k = 8 * len := by omega
      gi_wp2
      go_end0
      exact ⟨⟨_, rfl⟩, .inl ⟨_, rfl, hJs⟩⟩

/-- The iterator, whatever loop goes over it. -/
theorem figs_stops (p g len : Nat) (f : Nat → Nat) (hf : ∀ i, f i < 256) (hm : len ≤ 1000) (w : World) (hp : w.cell? ⟨p, 0, none⟩ = some (.slice (some ⟨g, 0, none⟩) len len)) (hg : ∀ i, i < len → w.cell? ⟨g, i, none⟩ = some (.int .u8 ((f i : Nat) : Int))) :
    SeqStopsK Fence.wide 4 Try.prog 82 #[.pointer (some ⟨p, 0, none⟩)] (fun x : Nat => #[Value.int .u8 ((x : Nat) : Int)]) (Two p g) (fun ys => ys = tops f (8 * len) (8 * len)) (fun pre => ∃ k, k ≤ 8 * len ∧ pre = tops f (8 * len) k) (8 * len) w :=
  fun l J Jx W hW _ _ hY h0 => figs_in l p g len f hf hm J Jx hY W (cell_later hW hp) (fun i hi => cell_later hW (hg i hi)) h0
end Go.Proofs.Ytpogmflgmpifoaa

namespace Go.Proofs.Ytpogmflgmpifoaa
open Go.RowKit Go.Shelf

/-- All of a world but some blocks. -/
def rw0 (w : World) (β : Nat → Nat) (k : Nat) : Wd := ⟨w, fun x => x < w.heap.size ∧ ∀ b, b < k → x ≠ β b, fun _ h => h.1⟩

section
variable {P : Program} {W : Wd} {W0 : World} {s : List SV} {m : List Blk} {β : Nat → Nat} {a : Act} {w : World} {Q : Exit → Act → World → Prop}
theorem St.round (h : St W s m β a w) (s' : List SV) (hl : liveB s' m.length = true) : St (rw0 w β m.length) s' m β { tmps := (s'.map (den β)).toArray, defers := [] } w :=
  ⟨rfl, ⟨rfl, rfl, rfl, Nat.le_refl _, fun _ _ => rfl⟩, h.row, fun b hb hs => hs.2 b hb rfl, h.inj, live_of hl⟩
theorem St.back {s2 : List SV} {m2 : List Blk} {β2 : Nat → Nat} {a2 : Act} {w2 : World} {k : Nat} (h : St (wd W0) s m β a w) (h2 : St (rw0 w β k) s2 m2 β2 a2 w2) (eb : ∀ c, c < k → β2 c = β c) (hk : m.length = k) (hl : m2.length = k) :
    St (wd W0) s m2 β a w2 ∧ KeepsOthers w w2 ∧ ∀ x, x < w.heap.size → (∀ b, b < k → x ≠ β b) → w2.heap[x]? = w.heap[x]? := by
  have h3 : ∀ x, x < w.heap.size → (∀ b, b < k → x ≠ β b) → w2.heap[x]? = w.heap[x]? := fun x h1 h4 => h2.bel.block x ⟨h1, h4⟩
  refine ⟨⟨h.tm, ⟨h2.bel.os.trans h.bel.os, h2.bel.tape.trans h.bel.tape, h2.bel.output.trans h.bel.output, Nat.le_trans h.bel.size h2.bel.size, fun x hx => ?_⟩, fun b c hc => ?_, fun b hb => h.old b (by omega), fun b c hb hc => h.inj b c (by omega) (by omega), fun t p ht hs => by have := h.live t p ht hs; omega⟩, ⟨h2.bel.size, fun x o hx ho => ?_⟩, h3⟩
  · rw [h3 x (Nat.lt_of_lt_of_le hx h.bel.size) (fun b hb e => h.old b (by omega) (e ▸ hx))]
    exact h.bel.block x hx
  · have hb : b < k := by have := (List.getElem?_eq_some_iff.1 hc).1; omega
    rw [← eb b hb]; exact h2.row b c hc
  · rw [h3 x (Array.getElem?_eq_some_iff.1 hx).1 (fun b hb e => ?_)]
    · exact hx
    · have hb' : b < m.length := by omega
      have h5 := h.row b m[b] (by simp [hb'])
      rw [← e, hx] at h5
      cases h5; cases ho
theorem eb_trans {k : Nat} {β0 β1 β2 : Nat → Nat} (e : ∀ c, c < k → β2 c = β1 c) (eb : ∀ c, c < k → β1 c = β0 c) : ∀ c, c < k → β2 c = β0 c := fun c hc => (e c hc).trans (eb c hc)
theorem St.after {w' : World} (h : St W s m β a w) (hb : Below w.heap.size w w') (s' : List SV) (hl : liveB s' m.length = true) : St W s' m β { tmps := (s'.map (den β)).toArray, defers := [] } w' := by
  refine ⟨rfl, h.bel.quiet hb, fun b c hc => ?_, h.old, h.inj, live_of hl⟩
  have h1 := h.row b c hc
  rw [hb.block _ (Array.getElem?_eq_some_iff.1 h1).1]; exact h1

/-- Entering where a range over a function stands. -/
theorem s_im {f : FuncId} {fn : Func} {c : Code} {args : Array Value} {R : Ending → World → Prop} {n : Nat} (hf : P.funcs[f]? = some fn) (hn : fn.ntmps = n) (hb : fn.body = some c) (s : List SV) (h : ∀ β a, St (wd W0) (ov (s ++ List.replicate (n - s.length) uu) []) [] β a W0 → c.wp P (bodyPostM Fence.wide 5 P fn R) a W0)
    (hs : (args ++ Array.replicate (n - args.size) undef) = ((s ++ List.replicate (n - s.length) uu).map (den fun _ => 0)).toArray := by kernel_rfl) (hl : (s ++ List.replicate (n - s.length) uu).all (fun v => match v with | .inl _ => true | .inr _ => false) = true := by kernel_rfl) : Calls P f args W0 R := by
  refine (callsIn_wide (n := 5)).1 (callsIn_of_wp_marks hf hb trivial (wpIn_wide.2 ?_) rfl)
  rw [hn, hs]
  refine h (fun _ => 0) _ (St.o0 ⟨rfl, kw_of (Below.refl _ _), fun b c h => by simp at h, fun b h => by simp at h, fun b c h => by simp at h, fun t p ht h => ?_⟩)
  have := List.all_eq_true.1 hl (slot (s ++ List.replicate (n - s.length) uu) t) (by unfold slot; rw [List.getD_eq_getElem?_getD, List.getElem?_eq_getElem ht]; exact List.getElem_mem ht)
  rw [h] at this; simp at this

/-- A region: a slot is moved, and a function called with it. -/
theorem rg_call2 {id f t d1 d2 : Nat} {tys : Array TypeId} {o1 o2 : Oper} {v : Value} (hv : a.eval (.tmp t) = v) (h1 : o1.op = .move (.tmp t)) (e1 : o1.dst = some d1) (g1 : o1.guard = none) (h2 : o2.op = .call { callee := .value (.func f), args := #[.tmp d1], argTypes := tys }) (e2 : o2.dst = some d2) (g2 : o2.guard = none)
    (hsz : d1 < a.tmps.size) (he : ∀ w, (callFunc f #[v]).run P w = .ok (.enter f #[v]) w) (h : Calls P f #[v] w fun e w' => ∃ R, e = .returned R ∧ Q .normal ((a.put (some d1) v).put (some d2) R) w') : (Code.region id [o1, o2].toArray false).wp P Q a w := by
  refine wp_region_lit (wpList_plain g1 fun K hK => ?_)
  unfold Oper.wp
  simp only [execOp, h1, hv, Sem.run_pure, Oper.upon_value, e1]
  refine hK _ _ (wpList_plain g2 fun K' hK' => ?_)
  have hev : (a.put (some d1) v).eval (.tmp d1) = v := by simp [Act.put, Act.eval, Array.getD, hsz]
  have hf : (a.put (some d1) v).eval (.func f) = .func (.func f) #[] #[] := rfl
  unfold Oper.wp execOp
  simp only [h2, resolve, invoke, Sem.run_bind, List.map_toArray, List.map_cons, List.map_nil, hev, hf, Deferred.ofValue, Sem.run_pure, Result.andThen_ok, Array.append_empty, Array.empty_append, he, Oper.upon_enter]
  refine h.mono ?_
  rintro e w' ⟨R, rfl, hq⟩
  exact hK' _ _ (by rw [e2]; exact hq)
/-- A region: a slot is named anew, within a round. -/
theorem rg_as {F : Fence} {n id t d : Nat} {o : Oper} {v : Value} (hv : a.eval (.tmp t) = v) (h1 : o.op = .assign (.tmp t)) (e1 : o.dst = some d) (g1 : o.guard = none) (h : Q .normal (a.put (some d) v) w) : (Code.region id [o].toArray false).wpIn F n P Q a w := by
  refine wpIn_region_lit (wpListIn_step fun K hK => ?_)
  simp only [Region.wanted, g1, if_true]
  refine ⟨fun f hf => by simp [Oper.about, h1] at hf, ?_⟩
  rw [Oper.semAt_eq _ _ _ (by simp [h1])]
  simp only [execOp, h1, hv, Sem.run_pure, Oper.uponIn_value, e1]
  exact hK _ _ h
/-- A region: a block is read, and written into another. -/
theorem rg_ls {id t p d q g g2 : Nat} {t0 t2 : TypeId} {o1 o2 : Oper} {c c2 : Array Value} {ds : TypeDesc} (hp : a.eval (.tmp p) = .pointer (some ⟨g, 0, none⟩)) (hq : a.eval (.tmp q) = .pointer (some ⟨g2, 0, none⟩)) (h1 : o1.op = .load t (.tmp p)) (e1 : o1.dst = some d) (g1' : o1.guard = none) (h2 : o2.op = .store t (.tmp q) (.tmp d)) (e2 : o2.dst = none) (g2' : o2.guard = none)
    (hne : d ≠ q) (hsz : d < a.tmps.size) (hr1 : w.heap[g]? = some (.cells c t0 (0, 0))) (hr2 : w.heap[g2]? = some (.cells c2 t2 (0, 0))) (hu : P.underlying t = some ds) (hds : (match ds with | .struct _ | .array _ _ => true | _ => false) = true) (hi : (P.info? t).map (·.size) = some c.size) (hc2 : c2.size = c.size) (hone : c.all (·.oneCell') = true)
    (h : Q .normal (a.put (some d) (.agg c)) (w.setRow g2 c)) : (Code.region id [o1, o2].toArray false).wp P Q a w := by
  refine wp_region_lit (wpList_plain g1' fun K hK => ?_)
  have l1 := ld_row (P := P) (t := t) (t0 := t0) (c := c) hu hds hi w g hr1
  have s1 := st_row (P := P) (t := t) (t0 := t2) (c := c2) (n := c) hi hc2 hone w g2 hr2
  unfold Oper.wp
  simp only [execOp, h1, hp, Sem.run_bind, l1, Result.andThen_ok, Sem.run_pure, Oper.upon_value, e1]
  refine hK _ _ (wpList_plain g2' fun K' hK' => ?_)
  have ev1 : (a.put (some d) (.agg c)).eval (.tmp d) = .agg c := by simp [Act.put, Act.eval, Array.getD, hsz]
  have ev2 : (a.put (some d) (.agg c)).eval (.tmp q) = .pointer (some ⟨g2, 0, none⟩) := by
    rw [← hq]
    simp [Act.put, Act.eval, hne]
  unfold Oper.wp
  simp only [execOp, h2, ev1, ev2, Sem.run_bind, s1, Result.andThen_ok, Sem.run_pure, Oper.upon_skip, e2]
  exact hK' _ _ h
/-- Leaving with what a block holds, where a range over a function stood. -/
theorem mark_ret {fn : Func} {R : Ending → World → Prop} {t D g : Nat} {ty t0 : TypeId} {c : Array Value} {d : TypeDesc} (hd : a.defers = [{ target := .collected D, args := #[] }]) (hK : w.heap[D]? = some (.deferred (some []))) (hr : fn.results = #[.cell t ty]) (ht : a.tmps.getD t undef = .pointer (some ⟨g, 0, none⟩)) (hg : w.heap[g]? = some (.cells c t0 (0, 0)))
    (hu : P.underlying ty = some d) (hds : (match d with | .struct _ | .array _ _ => true | _ => false) = true) (hi : (P.info? ty).map (·.size) = some c.size) (hR : R (.returned (.agg c)) (w.putObj D (.deferred none))) : bodyPostM Fence.wide 5 P fn R .ret a w := by
  show LeavesInM Fence.wide 5 P fn a.tmps R a.defers .returning w
  rw [hd]
  refine ⟨by simp, .inl ⟨D, _, rfl, run_takeDeferred hK, ?_⟩⟩
  have hne : g ≠ D := fun e => by rw [e, hK] at hg; cases hg
  exact ⟨.agg c, results_cell_row hr _ _ g t0 c (0, 0) d ht ((World.putObj_heap_other hne).trans hg) hu hds hi, hR⟩
end
theorem two_t {p g : Nat} {A B C : World} (h : Two p g A B) (k : Two p g B C) : Two p g A C := ⟨k.1.trans h.1, k.2.trans h.2⟩
theorem two_b {p g : Nat} {w : World} (hp : p < w.heap.size) (hg : g < w.heap.size) (W : World) (l : Nat) (o o' : Obj) (hl : w.heap.size ≤ l) (_ : W.heap[l]? = some o) (_ : o.isCells = false) (_ : o.isWalk = false) : Two p g W (W.putObj l o') :=
  ⟨World.putObj_heap_other (by omega), World.putObj_heap_other (by omega)⟩

/-- So many times one: figure by figure. -/
def stepM {α : Type} (add : α → α → α) (one s : α) (x : Nat) : α := if x = 1 then add (add s s) one else add s s
def fldM {α : Type} (add : α → α → α) (no one : α) (l : List Nat) : α := l.foldl (stepM add one) no
theorem fldM_1 {α : Type} (add : α → α → α) (no one : α) (l : List Nat) : fldM add no one (l ++ [1]) = add (add (fldM add no one l) (fldM add no one l)) one := by simp [fldM, stepM]
theorem fldM_0 {α : Type} (add : α → α → α) (no one : α) (l : List Nat) {x : Nat} (hx : x ≠ 1) : fldM add no one (l ++ [x]) = add (fldM add no one l) (fldM add no one l) := by simp [fldM, stepM, hx]
theorem fldM_good {α : Type} {G : α → Prop} {add : α → α → α} {no one : α} (hG : ∀ x y, G x → G y → G (add x y)) (h0 : G no) (h1 : G one) (l : List Nat) : G (fldM add no one l) := by
  suffices h : ∀ (l : List Nat) (s : α), G s → G (l.foldl (stepM add one) s) from h l no h0
  intro l
  induction l with
  | nil => intro s h; exact h
  | cons x r ih =>
    intro s h
    refine ih _ ?_
    unfold stepM
    split
    · exact hG _ _ (hG _ _ h h) h1
    · exact hG _ _ h h
end Go.Proofs.Ytpogmflgmpifoaa

namespace Go.Proofs.Ytpogmflgmpifoaa
open Go.RowKit

/-- The number that bytes tell, the lowest first. -/
def nbv (f : Nat → Nat) : Nat → Nat
  | 0 => 0
  | k + 1 => nbv f k + f k * 256 ^ k
theorem nbv_lt {f : Nat → Nat} (hf : ∀ i, f i < 256) : ∀ k, nbv f k < 256 ^ k
  | 0 => by show 0 < 1; omega
  | k + 1 => by
    have h1 := nbv_lt hf k
    have h2 := hf k
    have h3 : f k * 256 ^ k ≤ 255 * 256 ^ k := Nat.mul_le_mul_right _ (by omega)
    show nbv f k + f k * 256 ^ k < 256 ^ (k + 1)
    rw [Nat.pow_succ]; omega
theorem nbv_byte {f : Nat → Nat} (hf : ∀ i, f i < 256) : ∀ k i, i < k → nbv f k / 256 ^ i % 256 = f i
  | 0, _, h => by omega
  | k + 1, i, h => by
    show (nbv f k + f k * 256 ^ k) / 256 ^ i % 256 = f i
    have h1 := nbv_lt hf k
    have hp : 0 < 256 ^ i := Nat.pow_pos (by omega)
    by_cases e : i = k
    · subst e
      rw [Nat.add_mul_div_right _ _ hp, Nat.div_eq_of_lt h1, Nat.zero_add, Nat.mod_eq_of_lt (hf i)]
    · have e2 : f k * 256 ^ k = f k * 256 ^ (k - i - 1) * 256 * 256 ^ i := by
        rw [Nat.mul_assoc, Nat.mul_assoc, Nat.mul_comm 256, ← Nat.pow_succ, ← Nat.pow_add, show k - i - 1 + (i + 1) = k by omega]
      rw [e2, Nat.add_mul_div_right _ _ hp, Nat.add_mul_mod_self_right]
      exact nbv_byte hf k i (by omega)
theorem fg_nb {f : Nat → Nat} (hf : ∀ i, f i < 256) (k j : Nat) (h : j < 8 * k) : fg f j = nbv f k / 2 ^ j % 2 := by
  unfold fg
  rw [← nbv_byte hf k (j / 8) (by omega)]
  have e : 2 ^ j = 256 ^ (j / 8) * 2 ^ (j % 8) := by
    rw [show (256 : Nat) = 2 ^ 8 from rfl, ← Nat.pow_mul, ← Nat.pow_add]; congr 1; omega
  rw [e, ← Nat.div_div_eq_div_mul]
  generalize nbv f k / 256 ^ (j / 8) = m
  have hr : j % 8 < 8 := Nat.mod_lt _ (by omega)
  generalize j % 8 = r at hr
  obtain rfl | rfl | rfl | rfl | rfl | rfl | rfl | rfl : r = 0 ∨ r = 1 ∨ r = 2 ∨ r = 3 ∨ r = 4 ∨ r = 5 ∨ r = 6 ∨ r = 7 := by omega
  all_goals omega
def stN (s x : Nat) : Nat := if x = 1 then s + s + 1 else s + s
theorem tops_nb {f : Nat → Nat} (hf : ∀ i, f i < 256) (n : Nat) : ∀ k, k ≤ 8 * n → (tops f (8 * n) k).foldl stN 0 = nbv f n / 2 ^ (8 * n - k)
  | 0, _ => by
    have h := nbv_lt hf n
    rw [show (256 : Nat) = 2 ^ 8 from rfl, ← Nat.pow_mul] at h
    show 0 = _
    rw [Nat.sub_zero, Nat.div_eq_of_lt h]
  | k + 1, h => by
    rw [tops_succ, List.foldl_append, tops_nb hf n k (by omega), fg_nb hf n _ (by omega)]
    show stN _ _ = _
    have e : 8 * n - k = (8 * n - 1 - k) + 1 := by omega
    have e2 : 8 * n - (k + 1) = 8 * n - 1 - k := by omega
    rw [e, e2, Nat.pow_succ, ← Nat.div_div_eq_div_mul]
    generalize nbv f n / 2 ^ (8 * n - 1 - k) = m
    unfold stN
    split <;> omega
theorem tops_all {f : Nat → Nat} (hf : ∀ i, f i < 256) (n : Nat) : (tops f (8 * n) (8 * n)).foldl stN 0 = nbv f n := by
  rw [tops_nb hf n _ (Nat.le_refl _), Nat.sub_self]; simp
/-- A fold that adds, told by what it stands for. -/
theorem fldM_rel {α : Type} {add : α → α → α} {no one : α} {p : Fp × Fp} (hp : OC p) {Rl : α → Fp × Fp → Prop} (ha : ∀ u v q r, OC q → OC r → Rl u q → Rl v r → Rl (add u v) (pa q r)) (h0 : Rl no pO) (h1 : Rl one p) (l : List Nat) : Rl (fldM add no one l) (mt (l.foldl stN 0) p) := by
  suffices h : ∀ (l : List Nat) (s : α) (k : Nat), Rl s (mt k p) → Rl (l.foldl (stepM add one) s) (mt (l.foldl stN k) p) from h l no 0 h0
  intro l
  induction l with
  | nil => intro s k h; exact h
  | cons x r ih =>
    intro s k h
    have hk := mt_oc hp k
    have h2 := ha s s _ _ hk hk h h
    rw [mt_add hp] at h2
    refine ih _ _ ?_
    unfold stepM stN
    split
    · exact ha _ _ _ _ (mt_oc hp _) hp h2 h1
    · exact h2
end Go.Proofs.Ytpogmflgmpifoaa

namespace Go.Proofs.Ytpogmflgmpifoaa
open Go.RowKit Go.Shelf
theorem eq_u8s {x u : Operand} {m n : Nat} {b : Bool} (h : decide (m = n) = b) (w : World) : (do eqGuard .eql 5 x u (.int .u8 ((m : Nat) : Int)) (.int .u8 ((n : Nat) : Int)); binOp .eql 5 (.int .u8 ((m : Nat) : Int)) (.int .u8 ((n : Nat) : Int))).run Try.prog w = .ok (.bool b) w := by
  have h1 : decide (((m : Nat) : Int) = ((n : Nat) : Int)) = b := by rw [← h]; congr 1; exact propext Int.natCast_inj
  subst h1; simp [eqGuard, binOp, go_sem]; rfl
theorem ld_fnsh (w : World) (q : Nat) (h : w.heap[q]? = some (.cells #[.func (.func 44) #[.agg (ces [dN])] #[]] 76 (0, 0))) : (Instr.loadAt 76 (.pointer (some ⟨q, 0, none⟩))).run Try.prog w = .ok (.func (.func 44) #[.agg (ces [dN])] #[]) w := by
  have h1 : w.cell? ⟨q, 0, none⟩ = some (.func (.func 44) #[.agg (ces [dN])] #[]) := by rw [cell_of_row _ _ _ _ _ _ h]; rfl
  simp [Instr.loadAt, Instr.sureAddr, go_sem, h1]
theorem bx_fnsh (w : World) : (Instr.box 76 (.func (.func 44) #[.agg (ces [dN])] #[])).run Try.prog w = .ok (.pointer (some ⟨w.heap.size, 0, none⟩)) (w.alloc (.cells #[.func (.func 44) #[.agg (ces [dN])] #[]] 76)) := by
  simp [Instr.box, go_sem]
set_option maxRecDepth 100000 in
set_option maxHeartbeats 4000000 in
theorem many_sh {α : Type} {Vl : α → Array Value} {G : α → Prop} {add : α → α → α} {zc0 : Array Value} (hsz : ∀ x, (Try.prog.info? 73).map (·.size) = some (Vl x).size) (hss : ∀ x y, (Vl x).size = (Vl y).size) (hzs : ∀ y, zc0.size = (Vl y).size) (hone : ∀ x, (Vl x).all (·.oneCell') = true)
    (hal : ∀ w : World, (Instr.alloc 73 true (.tuple #[])).run Try.prog w = .ok (.pointer (some ⟨w.heap.size, 0, none⟩)) (w.alloc (.cells zc0 73))) (hG : ∀ x y, G x → G y → G (add x y)) (hplus : ∀ x y, G x → G y → ∀ w, Calls Try.prog 44 #[.agg (ces [dN]), .agg (Vl x), .agg (Vl y)] w fun e w' => e = .returned (.agg (Vl (add x y))) ∧ Below w.heap.size w w')
    {no one : α} (h0 : G no) (h1 : G one) {aa : Option Addr} {len cap : Nat} {f : Nat → Nat} (hm : len ≤ 1000) (W0 : World) (hb : Bs W0 aa len f) :
    Calls Try.prog 41 #[.slice aa len cap, .agg (Vl no), .agg (Vl one), .func (.func 44) #[.agg (ces [dN])] #[]] W0 fun e w' => e = .returned (.agg (Vl (fldM add no one (tops f (8 * len) (8 * len))))) ∧ Below W0.heap.size W0 w' := by
  refine s_im Try.func41 Try.ntmps41 rfl [.inl (.slice aa len cap), .inl (.agg (Vl no)), .inl (.agg (Vl one)), .inl (.func (.func 44) #[.agg (ces [dN])] #[])] ?_
  intro β a h
  refine sym_seq ?_
  refine St.rg h [(5, .inr (0, pt 0)), (6, .inr (1, pt 0)), (7, .inr (2, pt 0)), (8, .inr (3, pt 0))] [(Vl no, 73), (Vl one, 73), (#[.func (.func 44) #[.agg (ces [dN])] #[]], 76), (zc0, 73)] [] [eN 0, eN 1, eN 2, eN 3] ?_ ?_
  · exact oc (k_bx 0 (.agg (Vl no)) bx_agg rfl rfl) <|
    oc (k_bx 1 (.agg (Vl one)) bx_agg rfl rfl) <|
    oc (k_bx 2 (.func (.func 44) #[.agg (ces [dN])] #[]) bx_fnsh rfl rfl) <|
    oc (k_al 3 hal rfl rfl) <|
    ok_nil
  clear h; intro β a w h
  refine sym_then ?_
  refine sym_seq ?_
  refine St.rg h [(11, .inl (.agg (Vl no))), (9, .inr (4, pt 0))] [(zc0, 73)] [(4, Vl no)] [eR 0, eN 4, eS 4] ?_ ?_
  · exact oc (k_ld 0 0 (.agg (Vl no)) (c := Vl no) (ld_row (t0 := 73) Try.underlying73 rfl (hsz no)) rfl rfl) <|
    oc (k_al 4 hal rfl rfl) <|
    oc (k_st 4 0 (.agg (Vl no)) (c := zc0) (n := Vl no) (st_row (t0 := 73) (hsz no) (hzs _) (hone no)) rfl rfl) <|
    ok_nil
  clear h; intro β a w h
  refine sym_then ?_
  replace h := St.cs h (s' := [.inl (.slice aa len cap), .inl (.agg (Vl no)), .inl (.agg (Vl one)), .inl (.func (.func 44) #[.agg (ces [dN])] #[]), uu, .inr (0, pt 0), .inr (1, pt 0), .inr (2, pt 0), .inr (3, pt 0), .inr (4, pt 0), uu, .inl (.agg (Vl no)), uu, uu, uu, uu, uu, uu, uu, uu, uu, uu, uu, uu, uu, uu]) (m' := [(Vl no, 73), (Vl one, 73), (#[.func (.func 44) #[.agg (ces [dN])] #[]], 76), (zc0, 73), (Vl no, 73)]) (by kernel_rfl) (by kernel_rfl)
  have hS : ∀ pre, G (fldM add no one pre) := fldM_good hG h0 h1
  refine sym_seq ?_
  refine sym_seq ?_
  refine rg_call2 (t := 0) (d1 := 12) (d2 := 13) (f := 70) (v := .slice aa len cap) (h.eval (by kernel_rfl) (by kernel_rfl)) rfl rfl rfl rfl rfl rfl (by rw [h.tm]; simp) (fun w => by kernel_rfl) ((figures_d aa len cap f _ (hb.later h.bel.below) hm).mono ?_)
  rintro e w2 ⟨p, g, rfl, hp1, hg1, hpc, ⟨og, hgo, hgc⟩, hgi, hb2⟩
  refine ⟨_, rfl, ?_⟩
  have h2 := h.after hb2 [.inl (.slice aa len cap), .inl (.agg (Vl no)), .inl (.agg (Vl one)), .inl (.func (.func 44) #[.agg (ces [dN])] #[]), uu, .inr (0, pt 0), .inr (1, pt 0), .inr (2, pt 0), .inr (3, pt 0), .inr (4, pt 0), uu, .inl (.agg (Vl no)), .inl (.slice aa len cap), .inl (.func (.func 82) #[] #[.pointer (some ⟨p, 0, none⟩)]), uu, uu, uu, uu, uu, uu, uu, uu, uu, uu, uu, uu] (by kernel_rfl)
  have ea : ((a.put (some 12) (.slice aa len cap)).put (some 13) (.func (.func 82) #[] #[.pointer (some ⟨p, 0, none⟩)])) = { tmps := ([.inl (.slice aa len cap), .inl (.agg (Vl no)), .inl (.agg (Vl one)), .inl (.func (.func 44) #[.agg (ces [dN])] #[]), uu, .inr (0, pt 0), .inr (1, pt 0), .inr (2, pt 0), .inr (3, pt 0), .inr (4, pt 0), uu, .inl (.agg (Vl no)), .inl (.slice aa len cap), .inl (.func (.func 82) #[] #[.pointer (some ⟨p, 0, none⟩)]), uu, uu, uu, uu, uu, uu, uu, uu, uu, uu, uu, uu].map (den β)).toArray, defers := [] } := by rw [h.tm]; kernel_rfl
  rw [ea]
  have hpl : p < w2.heap.size := cell_lt hpc
  have hgl : g < w2.heap.size := (Array.getElem?_eq_some_iff.1 hgo).1
  have hbl : ∀ b, b < 5 → β b < w.heap.size := fun b hb' => by
    have h5 := h.row b _ (List.getElem?_eq_getElem (by simpa using hb'))
    exact (Array.getElem?_eq_some_iff.1 h5).1
  have hne : ∀ x, w.heap.size ≤ x → ∀ b, b < 5 → x ≠ β b := fun x hx b hb' => by have := hbl b hb'; omega
  clear ea
  refine sym_then ?_
  refine wp_block ((wpIn_wide (n := 5)).1 ?_)
  refine wpIn_rangeFunc_ownF (F := Fence.wide) (n := 5) rfl (by decide) (gf := 82) (lb := #[.pointer (some ⟨p, 0, none⟩)]) (by kernel_rfl) trivial (enters_of Try.func82 (by kernel_rfl) rfl) (figs_stops p g len f hb.1 hm w2 hpc hgi) two_t (two_b hpl hgl) (Below.refl _ _) (fun _ => rfl)
    (fun pre v => St (wd W0) [.inl (.slice aa len cap), .inl (.agg (Vl no)), .inl (.agg (Vl one)), .inl (.func (.func 44) #[.agg (ces [dN])] #[]), uu, .inr (0, pt 0), .inr (1, pt 0), .inr (2, pt 0), .inr (3, pt 0), .inr (4, pt 0), uu, .inl (.agg (Vl no)), .inl (.slice aa len cap), .inl (.func (.func 82) #[] #[.pointer (some ⟨p, 0, none⟩)]), uu, uu, uu, uu, uu, uu, uu, uu, uu, uu, uu, uu] [(Vl no, 73), (Vl one, 73), (#[.func (.func 44) #[.agg (ces [dN])] #[]], 76), (zc0, 73), (Vl (fldM add no one pre), 73)] β { tmps := ([.inl (.slice aa len cap), .inl (.agg (Vl no)), .inl (.agg (Vl one)), .inl (.func (.func 44) #[.agg (ces [dN])] #[]), uu, .inr (0, pt 0), .inr (1, pt 0), .inr (2, pt 0), .inr (3, pt 0), .inr (4, pt 0), uu, .inl (.agg (Vl no)), .inl (.slice aa len cap), .inl (.func (.func 82) #[] #[.pointer (some ⟨p, 0, none⟩)]), uu, uu, uu, uu, uu, uu, uu, uu, uu, uu, uu, uu].map (den β)).toArray, defers := [] } v ∧ w2.heap.size ≤ v.heap.size) (fun _ _ _ => False)
    (OwnFrom.and (St.own (mm := fun pre => [(Vl no, 73), (Vl one, 73), (#[.func (.func 44) #[.agg (ces [dN])] #[]], 76), (zc0, 73), (Vl (fldM add no one pre), 73)]) (fun k hk => Nat.lt_of_lt_of_le hk h2.bel.size)) (fun _ _ _ _ hs hg _ => Nat.le_trans hs hg.size)) (fun _ _ _ _ _ hs _ _ => hs) ⟨h2, Nat.le_refl _⟩ (fun x => { tmps := ([.inl (.slice aa len cap), .inl (.agg (Vl no)), .inl (.agg (Vl one)), .inl (.func (.func 44) #[.agg (ces [dN])] #[]), uu, .inr (0, pt 0), .inr (1, pt 0), .inr (2, pt 0), .inr (3, pt 0), .inr (4, pt 0), .inl (.int .u8 ((x : Nat) : Int)), .inl (.agg (Vl no)), .inl (.slice aa len cap), .inl (.func (.func 82) #[] #[.pointer (some ⟨p, 0, none⟩)]), .inl (.int .u8 ((x : Nat) : Int)), uu, uu, uu, uu, uu, uu, uu, uu, uu, uu, uu].map (den β)).toArray, defers := [] }) ?assign ?body ?done ?stop
  case assign =>
    intro l x v K hK
    refine rg_as (t := 14) (d := 10) (v := .int .u8 ((x : Nat) : Int)) (by kernel_rfl) rfl rfl rfl ?_
    have e : ∀ z : Act, z = { tmps := ([.inl (.slice aa len cap), .inl (.agg (Vl no)), .inl (.agg (Vl one)), .inl (.func (.func 44) #[.agg (ces [dN])] #[]), uu, .inr (0, pt 0), .inr (1, pt 0), .inr (2, pt 0), .inr (3, pt 0), .inr (4, pt 0), .inl (.int .u8 ((x : Nat) : Int)), .inl (.agg (Vl no)), .inl (.slice aa len cap), .inl (.func (.func 82) #[] #[.pointer (some ⟨p, 0, none⟩)]), .inl (.int .u8 ((x : Nat) : Int)), uu, uu, uu, uu, uu, uu, uu, uu, uu, uu, uu].map (den β)).toArray, defers := [] } → K z v := fun z h => h ▸ hK
    exact e _ (by kernel_rfl)
  case body =>
    rintro l pre x v ⟨hI, hvs⟩ hlt
    have hS := hS pre
    generalize hSe : fldM add no one pre = S at hI hS
    have h := hI.round [.inl (.slice aa len cap), .inl (.agg (Vl no)), .inl (.agg (Vl one)), .inl (.func (.func 44) #[.agg (ces [dN])] #[]), uu, .inr (0, pt 0), .inr (1, pt 0), .inr (2, pt 0), .inr (3, pt 0), .inr (4, pt 0), .inl (.int .u8 ((x : Nat) : Int)), .inl (.agg (Vl no)), .inl (.slice aa len cap), .inl (.func (.func 82) #[] #[.pointer (some ⟨p, 0, none⟩)]), .inl (.int .u8 ((x : Nat) : Int)), uu, uu, uu, uu, uu, uu, uu, uu, uu, uu, uu] (by kernel_rfl)
    have eb : ∀ c, c < 5 → β c = β c := fun _ _ => rfl
    replace h := h.o0
    by_cases hx : x = 1
    · refine wpIn_block ?_
      refine wpIn_seq ?_
      refine St.rgR h [(15, .inl (.func (.func 44) #[.agg (ces [dN])] #[])), (16, .inl (.agg (Vl S))), (17, .inl (.agg (Vl S))), (18, .inl (.agg (Vl (add S S))))] [] [(4, Vl (add S S))] [eR 2, eR 4, eR 4, nn, eS 4] ?_ ?_
      · exact oc (k_ld 2 0 (.func (.func 44) #[.agg (ces [dN])] #[]) (c := #[.func (.func 44) #[.agg (ces [dN])] #[]]) ld_fnsh rfl rfl) <|
        oc (k_ld 4 0 (.agg (Vl S)) (c := Vl S) (ld_row (t0 := 73) Try.underlying73 rfl (hsz S)) rfl rfl) <|
        oc (k_ld 4 0 (.agg (Vl S)) (c := Vl S) (ld_row (t0 := 73) Try.underlying73 rfl (hsz S)) rfl rfl) <|
        oc (k_cv #[.agg (ces [dN])] #[.agg (Vl S), .agg (Vl S)] #[.agg (ces [dN]), .agg (Vl S), .agg (Vl S)] (.agg (Vl (add S S))) (hplus _ _ hS hS) rfl rfl) <|
        oc (k_st 4 0 (.agg (Vl (add S S))) (c := Vl S) (n := Vl (add S S)) (st_row (t0 := 73) (hsz (add S S)) (hss _ _) (hone (add S S))) rfl rfl) <|
        ok_nil
      clear h; intro β' a w e h; replace eb := eb_trans (k := 5) e eb; clear e
      refine thenR ?_
      refine wpIn_seq ?_
      refine St.rgR h [(19, .inl (.int .u8 ((x : Nat) : Int))), (20, .inl (.bool true))] [] [] [] ?_ ?_
      · exact oz (k_mv (.inl rfl) rfl) <|
        oz (k_bi (.int .u8 ((x : Nat) : Int)) (.int .u8 ((1 : Nat) : Int)) (.bool true) (eq_u8s (m := x) (n := 1) (decide_eq_true (by omega))) rfl rfl) <|
        ok_nil
      clear h; intro β' a w e h; replace eb := eb_trans (k := 5) e eb; clear e
      refine thenR ?_
      refine s_ctR h ?_
      refine St.rgR h [(21, .inl (.func (.func 44) #[.agg (ces [dN])] #[])), (22, .inl (.agg (Vl (add S S)))), (23, .inl (.agg (Vl one))), (24, .inl (.agg (Vl (add (add S S) one))))] [] [(4, Vl (add (add S S) one))] [eR 2, eR 4, eR 1, nn, eS 4] ?_ ?_
      · exact oc (k_ld 2 0 (.func (.func 44) #[.agg (ces [dN])] #[]) (c := #[.func (.func 44) #[.agg (ces [dN])] #[]]) ld_fnsh rfl rfl) <|
        oc (k_ld 4 0 (.agg (Vl (add S S))) (c := Vl (add S S)) (ld_row (t0 := 73) Try.underlying73 rfl (hsz (add S S))) rfl rfl) <|
        oc (k_ld 1 0 (.agg (Vl one)) (c := Vl one) (ld_row (t0 := 73) Try.underlying73 rfl (hsz one)) rfl rfl) <|
        oc (k_cv #[.agg (ces [dN])] #[.agg (Vl (add S S)), .agg (Vl one)] #[.agg (ces [dN]), .agg (Vl (add S S)), .agg (Vl one)] (.agg (Vl (add (add S S) one))) (hplus _ _ (hG _ _ hS hS) h1) rfl rfl) <|
        oc (k_st 4 0 (.agg (Vl (add (add S S) one))) (c := Vl (add S S)) (n := Vl (add (add S S) one)) (st_row (t0 := 73) (hsz (add (add S S) one)) (hss _ _) (hone (add (add S S) one))) rfl rfl) <|
        ok_nil
      clear h; intro β' a w e h; replace eb := eb_trans (k := 5) e eb; clear e
      refine blk_norm ?_
      obtain ⟨q1, q2, q3⟩ := hI.back h eb rfl (by kernel_rfl)
      exact ⟨q2, ⟨q3 p (Nat.lt_of_lt_of_le hpl hvs) (hne p hp1), q3 g (Nat.lt_of_lt_of_le hgl hvs) (hne g hg1)⟩, by rw [hx, fldM_1, hSe]; exact q1, Nat.le_trans hvs q2.size⟩
    · refine wpIn_block ?_
      refine wpIn_seq ?_
      refine St.rgR h [(15, .inl (.func (.func 44) #[.agg (ces [dN])] #[])), (16, .inl (.agg (Vl S))), (17, .inl (.agg (Vl S))), (18, .inl (.agg (Vl (add S S))))] [] [(4, Vl (add S S))] [eR 2, eR 4, eR 4, nn, eS 4] ?_ ?_
      · exact oc (k_ld 2 0 (.func (.func 44) #[.agg (ces [dN])] #[]) (c := #[.func (.func 44) #[.agg (ces [dN])] #[]]) ld_fnsh rfl rfl) <|
        oc (k_ld 4 0 (.agg (Vl S)) (c := Vl S) (ld_row (t0 := 73) Try.underlying73 rfl (hsz S)) rfl rfl) <|
        oc (k_ld 4 0 (.agg (Vl S)) (c := Vl S) (ld_row (t0 := 73) Try.underlying73 rfl (hsz S)) rfl rfl) <|
        oc (k_cv #[.agg (ces [dN])] #[.agg (Vl S), .agg (Vl S)] #[.agg (ces [dN]), .agg (Vl S), .agg (Vl S)] (.agg (Vl (add S S))) (hplus _ _ hS hS) rfl rfl) <|
        oc (k_st 4 0 (.agg (Vl (add S S))) (c := Vl S) (n := Vl (add S S)) (st_row (t0 := 73) (hsz (add S S)) (hss _ _) (hone (add S S))) rfl rfl) <|
        ok_nil
      clear h; intro β' a w e h; replace eb := eb_trans (k := 5) e eb; clear e
      refine thenR ?_
      refine wpIn_seq ?_
      refine St.rgR h [(19, .inl (.int .u8 ((x : Nat) : Int))), (20, .inl (.bool false))] [] [] [] ?_ ?_
      · exact oz (k_mv (.inl rfl) rfl) <|
        oz (k_bi (.int .u8 ((x : Nat) : Int)) (.int .u8 ((1 : Nat) : Int)) (.bool false) (eq_u8s (m := x) (n := 1) (decide_eq_false (by omega))) rfl rfl) <|
        ok_nil
      clear h; intro β' a w e h; replace eb := eb_trans (k := 5) e eb; clear e
      refine thenR ?_
      refine s_cfR h ?_
      refine wpIn_skip ?_
      refine blk_norm ?_
      obtain ⟨q1, q2, q3⟩ := hI.back h eb rfl (by kernel_rfl)
      exact ⟨q2, ⟨q3 p (Nat.lt_of_lt_of_le hpl hvs) (hne p hp1), q3 g (Nat.lt_of_lt_of_le hgl hvs) (hne g hg1)⟩, by rw [fldM_0 _ _ _ _ hx, hSe]; exact q1, Nat.le_trans hvs q2.size⟩
  case done =>
    rintro D xs v hD rfl ⟨hI, hvs⟩ hK
    refine blk_norm ?_
    refine sym_then ?_
    refine sym_seq ?_
    have r1 := hI.row 4 _ rfl
    have r2 := hI.row 3 _ rfl
    have hD3 : D ≠ β 3 := fun e => by rw [e, r2] at hK; cases hK
    have hB := hI.bel.below
    have o3 := Nat.le_of_not_lt (hI.old 3 (by simp))
    refine rg_ls (p := 9) (d := 25) (q := 8) (t := 73) (by kernel_rfl) (by kernel_rfl) rfl rfl rfl rfl rfl rfl (by decide) (by simp) r1 r2 Try.underlying73 rfl (hsz _) (hzs _) (hone _) ?_
    refine sym_then ?_
    refine wp_ret ?_
    refine mark_ret (D := D) (g := β 3) rfl ((setRow_other _ _ _ _ hD3).trans hK) Try.results41 (by kernel_rfl) (setRow_heap _ _ _ _ _ _ r2) Try.underlying73 rfl (hsz _) ⟨rfl, ?_⟩
    refine (below_setRow hB o3 _).trans (belowK_b (w := w2) h2.bel.size _ D _ _ hD ((setRow_other _ _ _ _ hD3).trans hK) rfl rfl)
  case stop =>
    rintro D c pre v _ _ h _
    exact h.elim
end Go.Proofs.Ytpogmflgmpifoaa

namespace Go.Proofs.Ytpogmflgmpifoaa
open Go.RowKit Go.Shelf
theorem sl_key (w : World) (q : Nat) : (Instr.sliceAt 23 (.pointer (some ⟨q, 0, none⟩)) none none none).run Try.prog w = .ok (.slice (some ⟨q, 0, none⟩) 32 32) w := by kernel_rfl
def vS (v : Nat × Nat × Nat × Nat) : Array Value := ces [v.1, v.2.1, v.2.2.1, v.2.2.2]
theorem manyS_r {f : Nat → Nat} (hf : ∀ i, f i < 256) {n1 n2 : Nat × Nat × Nat × Nat} (h0 : Gd n1) (h1 : Gd n2) (w : World) (q : Nat) (hq : w.heap[q]? = some (.cells (ck f) 23 (0, 0))) :
    Calls Try.prog 41 #[.slice (some ⟨q, 0, none⟩) 32 32, .agg (vS n1), .agg (vS n2), .func (.func 44) #[.agg (ces [dN])] #[]] w fun e w' => e = .returned (.agg (vS (fldM sumS n1 n2 (tops f (8 * 32) (8 * 32))))) ∧ Below w.heap.size w w' :=
  many_sh (Vl := vS) (G := Gd) (add := sumS) (zc0 := ces [0, 0, 0, 0]) (fun v => by unfold vS; rw [ces_size]; kernel_rfl) (fun v u => by unfold vS; rw [ces_size, ces_size]; rfl) (fun v => by unfold vS; rw [ces_size, ces_size]; rfl) (fun v => ces_one _) alS (fun _ _ _ _ => sumS_gd _ _)
    (fun v u hv hu w => sum_r dN_lt hv.1 hv.2.1 hv.2.2.1 hv.2.2.2 hu.1 hu.2.1 hu.2.2.1 hu.2.2.2 w) h0 h1 (by omega) w (bs_key hf hq)
set_option maxHeartbeats 4000000 in
theorem many_q {x b X Y Z T : Nat} {f : Nat → Nat} (hx : x < pp) (hb : b < pp) (hX : X < pp) (hY : Y < pp) (hZ : Z < pp) (cM : ∀ (w : World) (q : Nat), w.heap[q]? = some (.cells (ck f) 23 (0, 0)) → Calls Try.prog 41 #[.slice (some ⟨q, 0, none⟩) 32 32, .agg (ces [0, (ad 0 1), 1, (mu 0 (ad 0 1))]), .agg (ces [x, (ad b 1), 1, (mu x (ad b 1))]), .func (.func 44) #[.agg (ces [dN])] #[]] w fun e w' => e = .returned (.agg (ces [X, Y, Z, T])) ∧ Below w.heap.size w w') (W0 : World) :
    Calls Try.prog 11 #[.agg (ces [x, b]), .agg (ck f)] W0 fun e w' => e = .returned (.agg (ces [mu X (mu 1 (inv Z)), sb (mu Y (mu 1 (inv Z))) 1])) ∧ Below W0.heap.size W0 w' := by
  refine s_in Try.func11 Try.ntmps11 rfl [.inl (.agg (ces [x, b])), .inl (.agg (ck f))] ?_
  intro β a h
  refine sym_seq ?_
  refine St.rg h [(2, .inr (0, pt 0)), (3, .inr (1, pt 0)), (4, .inr (2, pt 0))] [(ces [x, b], 31), (ck f, 23), (ces [0, 0], 31)] [] [eN 0, eN 1, eN 2] ?_ ?_
  · exact oc (k_bx 0 (.agg (ces [x, b])) (bxP (a := x) (b := b)) rfl rfl) <|
    oc (k_bx 1 (.agg (ck f)) (bxK (b := f)) rfl rfl) <|
    oc (k_al 2 alP rfl rfl) <|
    ok_nil
  clear h; intro β a w h
  refine sym_then ?_
  refine sym_seq ?_
  refine St.rg h [(5, .inr (1, sl 0 32 32)), (6, .inl (.agg (ces [0, 0]))), (7, .inl (.agg (ces [0, (ad 0 1), 1, (mu 0 (ad 0 1))]))), (8, .inl (.agg (ces [x, b]))), (9, .inl (.agg (ces [x, (ad b 1), 1, (mu x (ad b 1))]))), (10, .inl (.agg (ces [dN]))), (11, .inl (.func (.func 44) #[.agg (ces [dN])] #[])), (12, .inl (.agg (ces [X, Y, Z, T]))), (13, .inl (.agg (ces [(mu X (mu 1 (inv Z))), (sb (mu Y (mu 1 (inv Z))) 1)])))] [] [(2, ces [(mu X (mu 1 (inv Z))), (sb (mu Y (mu 1 (inv Z))) 1)])] [nn, nn, nn, eR 0, nn, nn, nn, eR 1, nn, eS 2] ?_ ?_
  · exact oc (k_sl 1 32 rfl rfl sl_key) <|
    oc (k_bu #[] (.agg (ces [0, 0])) bdP0 rfl rfl) <|
    oc (k_ca 42 #[.agg (ces [0, 0])] (.agg (ces [0, (ad 0 1), 1, (mu 0 (ad 0 1))])) (fun w => shared_r zero_ltp zero_ltp w) rfl rfl) <|
    oc (k_ld 0 0 (.agg (ces [x, b])) (c := ces [x, b]) (ldP (a := x) (b := b) 31) rfl rfl) <|
    oc (k_ca 42 #[.agg (ces [x, b])] (.agg (ces [x, (ad b 1), 1, (mu x (ad b 1))])) (fun w => shared_r hx hb w) rfl rfl) <|
    oc (k_ca 43 #[] (.agg (ces [dN])) law_r rfl rfl) <|
    oc (k_mf #[.agg (ces [dN])] rfl rfl) <|
    oc (k_cb 41 (fun q => #[.slice (some ⟨q, 0, none⟩) 32 32, .agg (ces [0, (ad 0 1), 1, (mu 0 (ad 0 1))]), .agg (ces [x, (ad b 1), 1, (mu x (ad b 1))]), .func (.func 44) #[.agg (ces [dN])] #[]]) (.agg (ces [X, Y, Z, T])) 1 5 (fun w q _ hq => cM w q hq) rfl rfl (by simp) (fm := sl 0 32 32)) <|
    oc (k_ca 45 #[.agg (ces [X, Y, Z, T])] (.agg (ces [(mu X (mu 1 (inv Z))), (sb (mu Y (mu 1 (inv Z))) 1)])) (fun w => point_r hX hY hZ w) rfl rfl) <|
    oc (k_st 2 0 (.agg (ces [(mu X (mu 1 (inv Z))), (sb (mu Y (mu 1 (inv Z))) 1)])) (c := ces [0, 0]) (n := ces [(mu X (mu 1 (inv Z))), (sb (mu Y (mu 1 (inv Z))) 1)]) (stP (a := (mu X (mu 1 (inv Z)))) (b := (sb (mu Y (mu 1 (inv Z))) 1)) (c := ces [0, 0]) 31 (by rw [ces_size]; rfl)) rfl rfl) <|
    ok_nil
  clear h; intro β a w h
  refine sym_then ?_
  refine wp_ret ?_
  exact s_rc (b := 2) (t0 := 31) (c := ces [(mu X (mu 1 (inv Z))), (sb (mu Y (mu 1 (inv Z))) 1)]) h Try.results11 Try.underlying31 (fun hb => ⟨rfl, hb⟩) (by rw [ces_size]; kernel_rfl)

/-- A point as the program has it. -/
def pvt (p : Fp × Fp) : Array Value := ces [p.1.val, sb p.2.val 1]
theorem ad_v (p : Fp × Fp) : ad (sb p.2.val 1) 1 = p.2.val := ad_sb p.2.isLt
theorem cf_sv {n : Nat} (h : n < pp) : (cf n).val = n := Nat.mod_eq_of_lt h
theorem sh_pj (p : Fp × Fp) : Pj (p.1.val, ad (sb p.2.val 1) 1, 1, mu p.1.val (ad (sb p.2.val 1) 1)) p := by
  rw [ad_v]
  unfold Pj
  simp only [cf_mu, cf_val, cf_one]
  exact ⟨fin_10, by grind, by grind, by grind⟩
theorem sh_gd (p : Fp × Fp) : Gd (p.1.val, ad (sb p.2.val 1) 1, 1, mu p.1.val (ad (sb p.2.val 1) 1)) := ⟨p.1.isLt, ad_lt _ _, one_ltp, mu_lt _ _⟩
theorem g_pt {R : Type} [Lean.Grind.CommRing R] (x z i : R) (h : z * i = 1) : x * z * (1 * i) = x := by grind
theorem pt_pj {v : Nat × Nat × Nat × Nat} {p : Fp × Fp} (g : Gd v) (h : Pj v p) : ces [mu v.1 (mu 1 (inv v.2.2.1)), sb (mu v.2.1 (mu 1 (inv v.2.2.1))) 1] = pvt p := by
  obtain ⟨nz, e1, e2, -⟩ := h
  have hi : cf v.2.2.1 * cf (inv v.2.2.1) = 1 := by
    have := fi_mul nz
    unfold fi at this
    rwa [cf_sv g.2.2.1] at this
  have hx : mu v.1 (mu 1 (inv v.2.2.1)) = p.1.val := by
    refine cf_inj (mu_lt _ _) p.1.isLt ?_
    rw [cf_mu, cf_mu, cf_one, e1, cf_val]; exact g_pt _ _ _ hi
  have hy : mu v.2.1 (mu 1 (inv v.2.2.1)) = p.2.val := by
    refine cf_inj (mu_lt _ _) p.2.isLt ?_
    rw [cf_mu, cf_mu, cf_one, e2, cf_val]; exact g_pt _ _ _ hi
  unfold pvt
  rw [hx, hy]
theorem o_sh : sb pO.2.val 1 = 0 := by decide +kernel
theorem o_x : pO.1.val = 0 := rfl
theorem pv_O : pvt pO = ces [0, 0] := by unfold pvt; rw [o_sh]; rfl
theorem many_pv {p : Fp × Fp} (hp : OC p) {f : Nat → Nat} (hf : ∀ i, f i < 256) (W0 : World) : Calls Try.prog 11 #[.agg (pvt p), .agg (ck f)] W0 fun e w' => e = .returned (.agg (pvt (mt (nbv f 32) p))) ∧ Below W0.heap.size W0 w' := by
  have g0 := sh_gd pO
  have j0 := sh_pj pO
  rw [o_sh, o_x] at g0 j0
  have h := many_q (x := p.1.val) (b := sb p.2.val 1) (f := f) p.1.isLt (sb_lt _ _) (X := (fldM sumS _ _ (tops f (8 * 32) (8 * 32))).1) (Y := (fldM sumS _ _ (tops f (8 * 32) (8 * 32))).2.1) (Z := (fldM sumS _ _ (tops f (8 * 32) (8 * 32))).2.2.1) (T := (fldM sumS _ _ (tops f (8 * 32) (8 * 32))).2.2.2)
    (fldM_good (fun _ _ _ _ => sumS_gd _ _) g0 (sh_gd p) _).1 (fldM_good (fun _ _ _ _ => sumS_gd _ _) g0 (sh_gd p) _).2.1 (fldM_good (fun _ _ _ _ => sumS_gd _ _) g0 (sh_gd p) _).2.2.1 (fun w q hq => manyS_r hf g0 (sh_gd p) w q hq) W0
  have hr := fldM_rel (add := sumS) (no := (0, ad 0 1, 1, mu 0 (ad 0 1))) (one := (p.1.val, ad (sb p.2.val 1) 1, 1, mu p.1.val (ad (sb p.2.val 1) 1))) hp (Rl := fun v q => Gd v ∧ Pj v q) (fun u v q r hq hr h1 h2 => ⟨sumS_gd _ _, sumS_pj h1.1 h2.1 hq hr h1.2 h2.2⟩) ⟨g0, j0⟩ ⟨sh_gd p, sh_pj p⟩ (tops f (8 * 32) (8 * 32))
  rw [tops_all hf] at hr
  rw [pt_pj hr.1 hr.2] at h
  exact h
theorem sum_pj {p q : Fp × Fp} (hp : OC p) (hq : OC q) : ces [sx p.1.val (sb p.2.val 1) q.1.val (sb q.2.val 1), sb (sy p.1.val (sb p.2.val 1) q.1.val (sb q.2.val 1)) 1] = pvt (pa p q) := by
  have h := pt_pj (sumS_gd _ _) (sumS_pj (sh_gd p) (sh_gd q) hp hq (sh_pj p) (sh_pj q))
  unfold sumS at h
  unfold sx sy pX pY pZ
  exact h
theorem plus_pv {p q : Fp × Fp} (hp : OC p) (hq : OC q) (W0 : World) : Calls Try.prog 17 #[.agg (pvt p), .agg (pvt q)] W0 fun e w' => e = .returned (.agg (pvt (pa p q))) ∧ Below W0.heap.size W0 w' := by
  have h := plus_p p.1.isLt (sb_lt p.2.val 1) q.1.isLt (sb_lt q.2.val 1) W0
  rw [sum_pj hp hq] at h
  exact h
theorem neg_v (a : Fp) : sb 0 a.val = (-a).val := by
  refine cf_inj (sb_lt _ _) (-a).isLt ?_
  rw [cf_sb a.isLt, cf_val, cf_val]
  have : cf 0 = 0 := rfl
  rw [this]; grind
theorem minus_pv {p q : Fp × Fp} (hp : OC p) (hq : OC q) (W0 : World) : Calls Try.prog 18 #[.agg (pvt p), .agg (pvt q)] W0 fun e w' => e = .returned (.agg (pvt (pa p (pn q)))) ∧ Below W0.heap.size W0 w' := by
  have h := minus_p p.1.isLt (sb_lt p.2.val 1) q.1.isLt (sb_lt q.2.val 1) W0
  rw [neg_v] at h
  have e := sum_pj hp (oc_n hq)
  have e1 : (pn q).1 = -q.1 := rfl
  have e2 : (pn q).2 = q.2 := rfl
  rw [e1, e2] at e
  rw [e] at h
  exact h
theorem is_pv (p : Fp × Fp) (W0 : World) : Calls Try.prog 16 #[.agg (pvt p), .agg (pvt p)] W0 fun e w' => e = .returned (.bool true) ∧ Below W0.heap.size W0 w' := is_ptt p.1.isLt p.1.isLt rfl (sb_lt _ _) (sb_lt _ _) rfl W0
/-- A point's text. -/
def kp (p : Fp × Fp) : Nat → Nat := tk p.1.val p.2.val
theorem key_pv (p : Fp × Fp) (W0 : World) : Calls Try.prog 12 #[.agg (pvt p)] W0 fun e w' => e = .returned (.agg (ck (kp p))) ∧ Below W0.heap.size W0 w' := by
  have h := pk p.1.isLt (sb_lt p.2.val 1) W0
  rw [ad_v] at h
  exact h
end Go.Proofs.Ytpogmflgmpifoaa

namespace Go.Proofs.Ytpogmflgmpifoaa
open Go.RowKit

theorem nb_kb {f : Nat → Nat} {y : Nat} : ∀ k, (∀ i, i < k → f i = kb y i) → nb f k = y % 256 ^ k
  | 0, _ => by rw [Nat.pow_zero, Nat.mod_one]; rfl
  | k + 1, h => by
    show nb f k + f k * 256 ^ k = _
    rw [nb_kb k fun i hi => h i (by omega), h k (by omega), Nat.pow_succ, Nat.mod_mul]
    unfold kb
    rw [Nat.mul_comm]
theorem kb_lt (y i : Nat) : kb y i < 256 := Nat.mod_lt _ (by omega)
theorem tk_lt {x y : Nat} (hy : y < pp) (i : Nat) : tk x y i < 256 := by
  have h := kb_top hy
  unfold tk updN
  split
  · exact kb_lt _ _
  · dsimp only
    split
    · omega
    · exact kb_lt _ _
theorem kp_lt (p : Fp × Fp) (i : Nat) : kp p i < 256 := tk_lt p.2.isLt i
theorem tk_low {x y : Nat} (hy : y < pp) (i : Nat) : updN (tk x y) 31 (tk x y 31 % 128) i = kb y i := by
  have h := kb_top hy
  unfold updN
  by_cases e : i = 31
  · subst e
    rw [if_pos rfl]
    unfold tk
    split
    · exact Nat.mod_eq_of_lt h
    · show (if (31 : Nat) = 31 then kb y 31 + 128 else kb y 31) % 128 = _
      rw [if_pos rfl]; omega
  · rw [if_neg e]
    unfold tk
    split
    · rfl
    · exact if_neg e
theorem tk_31 {x y : Nat} (hy : y < pp) : (x % 2 = 0 → tk x y 31 < 128) ∧ (x % 2 ≠ 0 → 128 ≤ tk x y 31) := by
  have h := kb_top hy
  unfold tk
  constructor
  · intro e; rw [if_pos e]; exact h
  · intro e; rw [if_neg e]
    show 128 ≤ if (31 : Nat) = 31 then kb y 31 + 128 else kb y 31
    rw [if_pos rfl]; omega
theorem g_uy {R : Type} [Lean.Grind.CommRing R] (d x y i : R) (h : y * y - x * x = 1 + d * (x * x * y * y)) (hi : (d * (y * y) + 1) * i = 1) : x * x = (y * y - 1) * i := by grind
theorem oc_uY {p : Fp × Fp} (hp : OC p) : mu p.1.val p.1.val = uY p.2.val := by
  refine cf_inj (mu_lt _ _) (mu_lt _ _) ?_
  have hz : cf (ad (mu dN (mu p.2.val p.2.val)) 1) ≠ 0 := by
    rw [cf_ad, cf_mu, cf_mu, cf_val, cf_one]
    exact fun h => fin_den1 h
  have hi := fi_mul hz
  unfold fi at hi
  rw [cf_sv (ad_lt _ _)] at hi
  unfold uY
  rw [cf_mu, cf_mu, cf_sb one_ltp, cf_mu, cf_val, cf_val, cf_one]
  rw [cf_ad, cf_mu, cf_mu, cf_val, cf_one] at hi
  exact g_uy dF _ _ _ hp hi
theorem of_pv {p : Fp × Fp} (hp : OC p) (W0 : World) : Calls Try.prog 9 #[.agg (ck (kp p))] W0 fun e w' => e = .returned (.tuple #[.agg (pvt p), .bool true]) ∧ Below W0.heap.size W0 w' := by
  have hu := oc_uY hp
  have hx := p.1.isLt
  have hy := p.2.isLt
  have hb : ∀ i, kp p i < 256 := kp_lt p
  unfold kp at hb ⊢
  unfold pvt
  generalize p.1.val = x at *
  generalize p.2.val = y at *
  have hc : ∀ i, updN (tk x y) 31 (tk x y 31 % 128) i < 256 := fun i => by rw [tk_low hy]; exact kb_lt _ _
  have cO := fun w => of_k hc w
  have eO : ofb (updN (tk x y) 31 (tk x y 31 % 128)) = y := by
    unfold ofb
    have h255 : y < 57896044618658097711785492504343953926634992332820282019728792003956564819968 := Nat.lt_trans hy (by decide +kernel)
    rw [nb_kb 32 fun i _ => tk_low hy i, Nat.mod_eq_of_lt (pp_256 hy), Nat.mod_eq_of_lt h255, Nat.mod_eq_of_lt hy]
  rw [eO] at cO
  have hkey : ∀ i, i < 32 → byt (dig y) i = updN (tk x y) 31 (tk x y 31 % 128) i := fun i hi => by rw [tk_low hy, byt_kb y i hi]
  obtain ⟨r, k, hr, ht, hf, cU⟩ := root_d (m := uY y) (mu_lt _ _)
  cases k with
  | false => exact absurd hu ((hf rfl).2 x)
  | true =>
    obtain ⟨hsq, hev⟩ := ht rfl
    have cE := fun w => evenX_r hy cU w
    by_cases h2 : x % 2 = 0
    · have e := same_x hx hr hu hsq (by omega)
      rw [e]
      have := of_e hb hy cO hkey cE ((tk_31 hy).1 h2) W0
      rwa [e] at this
    · have hz : r ≠ 0 := by
        intro e
        rw [e] at hsq
        have h0 : mu x x = 0 := hu.trans (by rw [← hsq, Nat.zero_mul, Nat.zero_mod])
        exact mul_ne hx hx (by omega) (by omega) h0
      have h1 := of_o hb hy cO hkey cE hr hz ((tk_31 hy).2 h2) W0
      have e := same_x hx (sb_lt 0 r) hu ((neg_sq hr hz).trans hsq) (by have := sb_odd hr hz hev; omega)
      rw [← e] at h1
      exact h1

/-- The generator. -/
def gG : Fp × Fp := (cf gX, cf (ad gB 1))
theorem gG_oc : OC gG := by
  have h : sb (mu (ad gB 1) (ad gB 1)) (mu gX gX) = ad 1 (mu dN (mu (mu (mu gX gX) (ad gB 1)) (ad gB 1))) := by decide +kernel
  have h2 := congrArg cf h
  rw [cf_sb (mu_lt _ _), cf_ad, cf_mu, cf_mu, cf_mu, cf_mu, cf_mu, cf_one] at h2
  exact h2
theorem pvt_G : pvt gG = ces [gX, gB] := by
  have h1 : gG.1.val = gX := cf_sv gX_lt
  have h2 : sb gG.2.val 1 = gB := by
    have : gG.2.val = ad gB 1 := cf_sv (ad_lt _ _)
    rw [this]; decide +kernel
  unfold pvt
  rw [h1, h2]
theorem gen_pv (W0 : World) : Calls Try.prog 15 #[] W0 fun e w' => e = .returned (.agg (pvt gG)) ∧ Below W0.heap.size W0 w' := by
  rw [pvt_G]; exact gen_g W0
theorem is_pe {p q : Fp × Fp} (h : p = q) (W0 : World) : Calls Try.prog 16 #[.agg (pvt p), .agg (pvt q)] W0 fun e w' => e = .returned (.bool true) ∧ Below W0.heap.size W0 w' := by
  subst h; exact is_pv p W0
/-- Points in blocks. -/
theorem pvt_size (p : Fp × Fp) : (pvt p).size = 8 := by unfold pvt; rw [ces_size]; rfl
theorem ldPt {p : Fp × Fp} (t0 : TypeId) (w : World) (q : Nat) (h : w.heap[q]? = some (.cells (pvt p) t0 (0, 0))) : (Instr.loadAt 31 (.pointer (some ⟨q, 0, none⟩))).run Try.prog w = .ok (.agg (pvt p)) w :=
  ld_row (c := pvt p) Try.underlying31 rfl (by rw [pvt_size]; kernel_rfl) w q h
theorem stPt {p : Fp × Fp} {c : Array Value} (t0 : TypeId) (hc : c.size = 8) (w : World) (q : Nat) (h : w.heap[q]? = some (.cells c t0 (0, 0))) : (Instr.storeAt 31 (.pointer (some ⟨q, 0, none⟩)) (.agg (pvt p))).run Try.prog w = .ok () (w.setRow q (pvt p)) :=
  st_row (n := pvt p) (by rw [pvt_size]; kernel_rfl) (by rw [hc, pvt_size]) (ces_one _) w q h
theorem alPt (w : World) : (Instr.alloc 31 true (.tuple #[])).run Try.prog w = .ok (.pointer (some ⟨w.heap.size, 0, none⟩)) (w.alloc (.cells (pvt pO) 31)) := by
  rw [pv_O]; exact alP w
theorem bdPt (w : World) : (Instr.build 31 #[]).run Try.prog w = .ok (.agg (pvt pO)) w := by
  rw [pv_O]; exact bdP0 w
theorem cv_ib {n : Nat} (w : World) : (convert 3 5 (.int .i64 ((n : Nat) : Int))).run Try.prog w = .ok (.int .u8 ((n % 256 : Nat) : Int)) w := by
  have h1 : IntKind.u8.wrap (n : Int) = ((n % 256 : Nat) : Int) := by rw [IntKind.wrap_u8]; omega
  simp [convert, go_sem, h1]
theorem nbv_1 (a : Nat) : nbv (kl [a]) 32 = a := by simp [nbv, kl]
theorem nbv_2 (a b : Nat) : nbv (kl [a, b]) 32 = a + b * 256 := by simp [nbv, kl]
theorem kl_1 {a : Nat} (h : a < 256) (i : Nat) : kl [a] i < 256 := by
  unfold kl
  rcases i with _ | i
  · exact h
  · simp
theorem kl_2 {a b : Nat} (h : a < 256) (h2 : b < 256) (i : Nat) : kl [a, b] i < 256 := by
  unfold kl
  rcases i with _ | i
  · exact h
  · rcases i with _ | i
    · exact h2
    · simp
theorem u8_nat {a : Int} (h : (Lit.int .u8 a).wf = true) : ∃ n : Nat, n < 256 ∧ a = (n : Int) := by
  simp only [Lit.wf, Bool.and_eq_true, decide_eq_true_eq] at h
  have e1 : IntKind.u8.min = 0 := rfl
  have e2 : IntKind.u8.max = 255 := rfl
  exact ⟨a.toNat, by omega, by omega⟩
end Go.Proofs.Ytpogmflgmpifoaa

namespace Go.Proofs.Ytpogmflgmpifoaa
open Go.RowKit Go.Shelf
theorem eq_u8 {x u : Operand} {m n : Nat} {b : Bool} (h : decide (m = n) = b) (w : World) : (do eqGuard .eql 5 x u (.int .u8 ((m : Nat) : Int)) (.int .u8 ((n : Nat) : Int)); binOp .eql 5 (.int .u8 ((m : Nat) : Int)) (.int .u8 ((n : Nat) : Int))).run Try.prog w = .ok (.bool b) w := by
  have h1 : decide (((m : Nat) : Int) = ((n : Nat) : Int)) = b := by rw [← h]; congr 1; exact propext Int.natCast_inj
  subst h1; simp [eqGuard, binOp, go_sem]; rfl
theorem ld_fnres (w : World) (q : Nat) (h : w.heap[q]? = some (.cells #[.func (.func 52) #[] #[]] 102 (0, 0))) : (Instr.loadAt 102 (.pointer (some ⟨q, 0, none⟩))).run Try.prog w = .ok (.func (.func 52) #[] #[]) w := by
  have h1 : w.cell? ⟨q, 0, none⟩ = some (.func (.func 52) #[] #[]) := by rw [cell_of_row _ _ _ _ _ _ h]; rfl
  simp [Instr.loadAt, Instr.sureAddr, go_sem, h1]
theorem bx_fnres (w : World) : (Instr.box 102 (.func (.func 52) #[] #[])).run Try.prog w = .ok (.pointer (some ⟨w.heap.size, 0, none⟩)) (w.alloc (.cells #[.func (.func 52) #[] #[]] 102)) := by
  simp [Instr.box, go_sem]
set_option maxRecDepth 100000 in
set_option maxHeartbeats 4000000 in
theorem many_res {α : Type} {Vl : α → Array Value} {G : α → Prop} {add : α → α → α} {zc0 : Array Value} (hsz : ∀ x, (Try.prog.info? 83).map (·.size) = some (Vl x).size) (hss : ∀ x y, (Vl x).size = (Vl y).size) (hzs : ∀ y, zc0.size = (Vl y).size) (hone : ∀ x, (Vl x).all (·.oneCell') = true)
    (hal : ∀ w : World, (Instr.alloc 83 true (.tuple #[])).run Try.prog w = .ok (.pointer (some ⟨w.heap.size, 0, none⟩)) (w.alloc (.cells zc0 83))) (hG : ∀ x y, G x → G y → G (add x y)) (hplus : ∀ x y, G x → G y → ∀ w, Calls Try.prog 52 #[.agg (Vl x), .agg (Vl y)] w fun e w' => e = .returned (.agg (Vl (add x y))) ∧ Below w.heap.size w w')
    {no one : α} (h0 : G no) (h1 : G one) {aa : Option Addr} {len cap : Nat} {f : Nat → Nat} (hm : len ≤ 1000) (W0 : World) (hb : Bs W0 aa len f) :
    Calls Try.prog 73 #[.slice aa len cap, .agg (Vl no), .agg (Vl one), .func (.func 52) #[] #[]] W0 fun e w' => e = .returned (.agg (Vl (fldM add no one (tops f (8 * len) (8 * len))))) ∧ Below W0.heap.size W0 w' := by
  refine s_im Try.func73 Try.ntmps73 rfl [.inl (.slice aa len cap), .inl (.agg (Vl no)), .inl (.agg (Vl one)), .inl (.func (.func 52) #[] #[])] ?_
  intro β a h
  refine sym_seq ?_
  refine St.rg h [(5, .inr (0, pt 0)), (6, .inr (1, pt 0)), (7, .inr (2, pt 0)), (8, .inr (3, pt 0))] [(Vl no, 83), (Vl one, 83), (#[.func (.func 52) #[] #[]], 102), (zc0, 83)] [] [eN 0, eN 1, eN 2, eN 3] ?_ ?_
  · exact oc (k_bx 0 (.agg (Vl no)) bx_agg rfl rfl) <|
    oc (k_bx 1 (.agg (Vl one)) bx_agg rfl rfl) <|
    oc (k_bx 2 (.func (.func 52) #[] #[]) bx_fnres rfl rfl) <|
    oc (k_al 3 hal rfl rfl) <|
    ok_nil
  clear h; intro β a w h
  refine sym_then ?_
  refine sym_seq ?_
  refine St.rg h [(11, .inl (.agg (Vl no))), (9, .inr (4, pt 0))] [(zc0, 83)] [(4, Vl no)] [eR 0, eN 4, eS 4] ?_ ?_
  · exact oc (k_ld 0 0 (.agg (Vl no)) (c := Vl no) (ld_row (t0 := 83) Try.underlying83 rfl (hsz no)) rfl rfl) <|
    oc (k_al 4 hal rfl rfl) <|
    oc (k_st 4 0 (.agg (Vl no)) (c := zc0) (n := Vl no) (st_row (t0 := 83) (hsz no) (hzs _) (hone no)) rfl rfl) <|
    ok_nil
  clear h; intro β a w h
  refine sym_then ?_
  replace h := St.cs h (s' := [.inl (.slice aa len cap), .inl (.agg (Vl no)), .inl (.agg (Vl one)), .inl (.func (.func 52) #[] #[]), uu, .inr (0, pt 0), .inr (1, pt 0), .inr (2, pt 0), .inr (3, pt 0), .inr (4, pt 0), uu, .inl (.agg (Vl no)), uu, uu, uu, uu, uu, uu, uu, uu, uu, uu, uu, uu, uu, uu]) (m' := [(Vl no, 83), (Vl one, 83), (#[.func (.func 52) #[] #[]], 102), (zc0, 83), (Vl no, 83)]) (by kernel_rfl) (by kernel_rfl)
  have hS : ∀ pre, G (fldM add no one pre) := fldM_good hG h0 h1
  refine sym_seq ?_
  refine sym_seq ?_
  refine rg_call2 (t := 0) (d1 := 12) (d2 := 13) (f := 70) (v := .slice aa len cap) (h.eval (by kernel_rfl) (by kernel_rfl)) rfl rfl rfl rfl rfl rfl (by rw [h.tm]; simp) (fun w => by kernel_rfl) ((figures_d aa len cap f _ (hb.later h.bel.below) hm).mono ?_)
  rintro e w2 ⟨p, g, rfl, hp1, hg1, hpc, ⟨og, hgo, hgc⟩, hgi, hb2⟩
  refine ⟨_, rfl, ?_⟩
  have h2 := h.after hb2 [.inl (.slice aa len cap), .inl (.agg (Vl no)), .inl (.agg (Vl one)), .inl (.func (.func 52) #[] #[]), uu, .inr (0, pt 0), .inr (1, pt 0), .inr (2, pt 0), .inr (3, pt 0), .inr (4, pt 0), uu, .inl (.agg (Vl no)), .inl (.slice aa len cap), .inl (.func (.func 82) #[] #[.pointer (some ⟨p, 0, none⟩)]), uu, uu, uu, uu, uu, uu, uu, uu, uu, uu, uu, uu] (by kernel_rfl)
  have ea : ((a.put (some 12) (.slice aa len cap)).put (some 13) (.func (.func 82) #[] #[.pointer (some ⟨p, 0, none⟩)])) = { tmps := ([.inl (.slice aa len cap), .inl (.agg (Vl no)), .inl (.agg (Vl one)), .inl (.func (.func 52) #[] #[]), uu, .inr (0, pt 0), .inr (1, pt 0), .inr (2, pt 0), .inr (3, pt 0), .inr (4, pt 0), uu, .inl (.agg (Vl no)), .inl (.slice aa len cap), .inl (.func (.func 82) #[] #[.pointer (some ⟨p, 0, none⟩)]), uu, uu, uu, uu, uu, uu, uu, uu, uu, uu, uu, uu].map (den β)).toArray, defers := [] } := by rw [h.tm]; kernel_rfl
  rw [ea]
  have hpl : p < w2.heap.size := cell_lt hpc
  have hgl : g < w2.heap.size := (Array.getElem?_eq_some_iff.1 hgo).1
  have hbl : ∀ b, b < 5 → β b < w.heap.size := fun b hb' => by
    have h5 := h.row b _ (List.getElem?_eq_getElem (by simpa using hb'))
    exact (Array.getElem?_eq_some_iff.1 h5).1
  have hne : ∀ x, w.heap.size ≤ x → ∀ b, b < 5 → x ≠ β b := fun x hx b hb' => by have := hbl b hb'; omega
  clear ea
  refine sym_then ?_
  refine wp_block ((wpIn_wide (n := 5)).1 ?_)
  refine wpIn_rangeFunc_ownF (F := Fence.wide) (n := 5) rfl (by decide) (gf := 82) (lb := #[.pointer (some ⟨p, 0, none⟩)]) (by kernel_rfl) trivial (enters_of Try.func82 (by kernel_rfl) rfl) (figs_stops p g len f hb.1 hm w2 hpc hgi) two_t (two_b hpl hgl) (Below.refl _ _) (fun _ => rfl)
    (fun pre v => St (wd W0) [.inl (.slice aa len cap), .inl (.agg (Vl no)), .inl (.agg (Vl one)), .inl (.func (.func 52) #[] #[]), uu, .inr (0, pt 0), .inr (1, pt 0), .inr (2, pt 0), .inr (3, pt 0), .inr (4, pt 0), uu, .inl (.agg (Vl no)), .inl (.slice aa len cap), .inl (.func (.func 82) #[] #[.pointer (some ⟨p, 0, none⟩)]), uu, uu, uu, uu, uu, uu, uu, uu, uu, uu, uu, uu] [(Vl no, 83), (Vl one, 83), (#[.func (.func 52) #[] #[]], 102), (zc0, 83), (Vl (fldM add no one pre), 83)] β { tmps := ([.inl (.slice aa len cap), .inl (.agg (Vl no)), .inl (.agg (Vl one)), .inl (.func (.func 52) #[] #[]), uu, .inr (0, pt 0), .inr (1, pt 0), .inr (2, pt 0), .inr (3, pt 0), .inr (4, pt 0), uu, .inl (.agg (Vl no)), .inl (.slice aa len cap), .inl (.func (.func 82) #[] #[.pointer (some ⟨p, 0, none⟩)]), uu, uu, uu, uu, uu, uu, uu, uu, uu, uu, uu, uu].map (den β)).toArray, defers := [] } v ∧ w2.heap.size ≤ v.heap.size) (fun _ _ _ => False)
    (OwnFrom.and (St.own (mm := fun pre => [(Vl no, 83), (Vl one, 83), (#[.func (.func 52) #[] #[]], 102), (zc0, 83), (Vl (fldM add no one pre), 83)]) (fun k hk => Nat.lt_of_lt_of_le hk h2.bel.size)) (fun _ _ _ _ hs hg _ => Nat.le_trans hs hg.size)) (fun _ _ _ _ _ hs _ _ => hs) ⟨h2, Nat.le_refl _⟩ (fun x => { tmps := ([.inl (.slice aa len cap), .inl (.agg (Vl no)), .inl (.agg (Vl one)), .inl (.func (.func 52) #[] #[]), uu, .inr (0, pt 0), .inr (1, pt 0), .inr (2, pt 0), .inr (3, pt 0), .inr (4, pt 0), .inl (.int .u8 ((x : Nat) : Int)), .inl (.agg (Vl no)), .inl (.slice aa len cap), .inl (.func (.func 82) #[] #[.pointer (some ⟨p, 0, none⟩)]), .inl (.int .u8 ((x : Nat) : Int)), uu, uu, uu, uu, uu, uu, uu, uu, uu, uu, uu].map (den β)).toArray, defers := [] }) ?assign ?body ?done ?stop
  case assign =>
    intro l x v K hK
    refine rg_as (t := 14) (d := 10) (v := .int .u8 ((x : Nat) : Int)) (by kernel_rfl) rfl rfl rfl ?_
    have e : ∀ z : Act, z = { tmps := ([.inl (.slice aa len cap), .inl (.agg (Vl no)), .inl (.agg (Vl one)), .inl (.func (.func 52) #[] #[]), uu, .inr (0, pt 0), .inr (1, pt 0), .inr (2, pt 0), .inr (3, pt 0), .inr (4, pt 0), .inl (.int .u8 ((x : Nat) : Int)), .inl (.agg (Vl no)), .inl (.slice aa len cap), .inl (.func (.func 82) #[] #[.pointer (some ⟨p, 0, none⟩)]), .inl (.int .u8 ((x : Nat) : Int)), uu, uu, uu, uu, uu, uu, uu, uu, uu, uu, uu].map (den β)).toArray, defers := [] } → K z v := fun z h => h ▸ hK
    exact e _ (by kernel_rfl)
  case body =>
    rintro l pre x v ⟨hI, hvs⟩ hlt
    have hS := hS pre
    generalize hSe : fldM add no one pre = S at hI hS
    have h := hI.round [.inl (.slice aa len cap), .inl (.agg (Vl no)), .inl (.agg (Vl one)), .inl (.func (.func 52) #[] #[]), uu, .inr (0, pt 0), .inr (1, pt 0), .inr (2, pt 0), .inr (3, pt 0), .inr (4, pt 0), .inl (.int .u8 ((x : Nat) : Int)), .inl (.agg (Vl no)), .inl (.slice aa len cap), .inl (.func (.func 82) #[] #[.pointer (some ⟨p, 0, none⟩)]), .inl (.int .u8 ((x : Nat) : Int)), uu, uu, uu, uu, uu, uu, uu, uu, uu, uu, uu] (by kernel_rfl)
    have eb : ∀ c, c < 5 → β c = β c := fun _ _ => rfl
    replace h := h.o0
    by_cases hx : x = 1
    · refine wpIn_block ?_
      refine wpIn_seq ?_
      refine St.rgR h [(15, .inl (.func (.func 52) #[] #[])), (16, .inl (.agg (Vl S))), (17, .inl (.agg (Vl S))), (18, .inl (.agg (Vl (add S S))))] [] [(4, Vl (add S S))] [eR 2, eR 4, eR 4, nn, eS 4] ?_ ?_
      · exact oc (k_ld 2 0 (.func (.func 52) #[] #[]) (c := #[.func (.func 52) #[] #[]]) ld_fnres rfl rfl) <|
        oc (k_ld 4 0 (.agg (Vl S)) (c := Vl S) (ld_row (t0 := 83) Try.underlying83 rfl (hsz S)) rfl rfl) <|
        oc (k_ld 4 0 (.agg (Vl S)) (c := Vl S) (ld_row (t0 := 83) Try.underlying83 rfl (hsz S)) rfl rfl) <|
        oc (k_cv #[] #[.agg (Vl S), .agg (Vl S)] #[.agg (Vl S), .agg (Vl S)] (.agg (Vl (add S S))) (hplus _ _ hS hS) rfl rfl) <|
        oc (k_st 4 0 (.agg (Vl (add S S))) (c := Vl S) (n := Vl (add S S)) (st_row (t0 := 83) (hsz (add S S)) (hss _ _) (hone (add S S))) rfl rfl) <|
        ok_nil
      clear h; intro β' a w e h; replace eb := eb_trans (k := 5) e eb; clear e
      refine thenR ?_
      refine wpIn_seq ?_
      refine St.rgR h [(19, .inl (.int .u8 ((x : Nat) : Int))), (20, .inl (.bool true))] [] [] [] ?_ ?_
      · exact oz (k_mv (.inl rfl) rfl) <|
        oz (k_bi (.int .u8 ((x : Nat) : Int)) (.int .u8 ((1 : Nat) : Int)) (.bool true) (eq_u8 (m := x) (n := 1) (decide_eq_true (by omega))) rfl rfl) <|
        ok_nil
      clear h; intro β' a w e h; replace eb := eb_trans (k := 5) e eb; clear e
      refine thenR ?_
      refine s_ctR h ?_
      refine St.rgR h [(21, .inl (.func (.func 52) #[] #[])), (22, .inl (.agg (Vl (add S S)))), (23, .inl (.agg (Vl one))), (24, .inl (.agg (Vl (add (add S S) one))))] [] [(4, Vl (add (add S S) one))] [eR 2, eR 4, eR 1, nn, eS 4] ?_ ?_
      · exact oc (k_ld 2 0 (.func (.func 52) #[] #[]) (c := #[.func (.func 52) #[] #[]]) ld_fnres rfl rfl) <|
        oc (k_ld 4 0 (.agg (Vl (add S S))) (c := Vl (add S S)) (ld_row (t0 := 83) Try.underlying83 rfl (hsz (add S S))) rfl rfl) <|
        oc (k_ld 1 0 (.agg (Vl one)) (c := Vl one) (ld_row (t0 := 83) Try.underlying83 rfl (hsz one)) rfl rfl) <|
        oc (k_cv #[] #[.agg (Vl (add S S)), .agg (Vl one)] #[.agg (Vl (add S S)), .agg (Vl one)] (.agg (Vl (add (add S S) one))) (hplus _ _ (hG _ _ hS hS) h1) rfl rfl) <|
        oc (k_st 4 0 (.agg (Vl (add (add S S) one))) (c := Vl (add S S)) (n := Vl (add (add S S) one)) (st_row (t0 := 83) (hsz (add (add S S) one)) (hss _ _) (hone (add (add S S) one))) rfl rfl) <|
        ok_nil
      clear h; intro β' a w e h; replace eb := eb_trans (k := 5) e eb; clear e
      refine blk_norm ?_
      obtain ⟨q1, q2, q3⟩ := hI.back h eb rfl (by kernel_rfl)
      exact ⟨q2, ⟨q3 p (Nat.lt_of_lt_of_le hpl hvs) (hne p hp1), q3 g (Nat.lt_of_lt_of_le hgl hvs) (hne g hg1)⟩, by rw [hx, fldM_1, hSe]; exact q1, Nat.le_trans hvs q2.size⟩
    · refine wpIn_block ?_
      refine wpIn_seq ?_
      refine St.rgR h [(15, .inl (.func (.func 52) #[] #[])), (16, .inl (.agg (Vl S))), (17, .inl (.agg (Vl S))), (18, .inl (.agg (Vl (add S S))))] [] [(4, Vl (add S S))] [eR 2, eR 4, eR 4, nn, eS 4] ?_ ?_
      · exact oc (k_ld 2 0 (.func (.func 52) #[] #[]) (c := #[.func (.func 52) #[] #[]]) ld_fnres rfl rfl) <|
        oc (k_ld 4 0 (.agg (Vl S)) (c := Vl S) (ld_row (t0 := 83) Try.underlying83 rfl (hsz S)) rfl rfl) <|
        oc (k_ld 4 0 (.agg (Vl S)) (c := Vl S) (ld_row (t0 := 83) Try.underlying83 rfl (hsz S)) rfl rfl) <|
        oc (k_cv #[] #[.agg (Vl S), .agg (Vl S)] #[.agg (Vl S), .agg (Vl S)] (.agg (Vl (add S S))) (hplus _ _ hS hS) rfl rfl) <|
        oc (k_st 4 0 (.agg (Vl (add S S))) (c := Vl S) (n := Vl (add S S)) (st_row (t0 := 83) (hsz (add S S)) (hss _ _) (hone (add S S))) rfl rfl) <|
        ok_nil
      clear h; intro β' a w e h; replace eb := eb_trans (k := 5) e eb; clear e
      refine thenR ?_
      refine wpIn_seq ?_
      refine St.rgR h [(19, .inl (.int .u8 ((x : Nat) : Int))), (20, .inl (.bool false))] [] [] [] ?_ ?_
      · exact oz (k_mv (.inl rfl) rfl) <|
        oz (k_bi (.int .u8 ((x : Nat) : Int)) (.int .u8 ((1 : Nat) : Int)) (.bool false) (eq_u8 (m := x) (n := 1) (decide_eq_false (by omega))) rfl rfl) <|
        ok_nil
      clear h; intro β' a w e h; replace eb := eb_trans (k := 5) e eb; clear e
      refine thenR ?_
      refine s_cfR h ?_
      refine wpIn_skip ?_
      refine blk_norm ?_
      obtain ⟨q1, q2, q3⟩ := hI.back h eb rfl (by kernel_rfl)
      exact ⟨q2, ⟨q3 p (Nat.lt_of_lt_of_le hpl hvs) (hne p hp1), q3 g (Nat.lt_of_lt_of_le hgl hvs) (hne g hg1)⟩, by rw [fldM_0 _ _ _ _ hx, hSe]; exact q1, Nat.le_trans hvs q2.size⟩
  case done =>
    rintro D xs v hD rfl ⟨hI, hvs⟩ hK
    refine blk_norm ?_
    refine sym_then ?_
    refine sym_seq ?_
    have r1 := hI.row 4 _ rfl
    have r2 := hI.row 3 _ rfl
    have hD3 : D ≠ β 3 := fun e => by rw [e, r2] at hK; cases hK
    have hB := hI.bel.below
    have o3 := Nat.le_of_not_lt (hI.old 3 (by simp))
    refine rg_ls (p := 9) (d := 25) (q := 8) (t := 83) (by kernel_rfl) (by kernel_rfl) rfl rfl rfl rfl rfl rfl (by decide) (by simp) r1 r2 Try.underlying83 rfl (hsz _) (hzs _) (hone _) ?_
    refine sym_then ?_
    refine wp_ret ?_
    refine mark_ret (D := D) (g := β 3) rfl ((setRow_other _ _ _ _ hD3).trans hK) Try.results73 (by kernel_rfl) (setRow_heap _ _ _ _ _ _ r2) Try.underlying83 rfl (hsz _) ⟨rfl, ?_⟩
    refine (below_setRow hB o3 _).trans (belowK_b (w := w2) h2.bel.size _ D _ _ hD ((setRow_other _ _ _ _ hD3).trans hK) rfl rfl)
  case stop =>
    rintro D c pre v _ _ h _
    exact h.elim
end Go.Proofs.Ytpogmflgmpifoaa

namespace Go.Proofs.Ytpogmflgmpifoaa
open Go.RowKit Go.Shelf

theorem rounds_1 {P : Program} {a : Act} {w : World} {Q : Exit → Act → World → Prop} {c : Code} {n : Nat} (h : c.wp P (Exit.then (Code.rounds P c Q n) Q) a w) : Code.rounds P c Q (n + 1) a w := by rw [rounds_succ]; exact h
/-- An operation on slots that the region turns later, read as they stood. -/
theorem k_b0 {P : Program} {W : Wd} {ops : Array Oper} {s0 s1 : List SV} {z : List Blk} {y : List (Array Value)} {o : Oper} {p : BinOp} {t t' : TypeId} {x u : Operand} {d : Tmp} (x1 u1 v : Value) (hr : ∀ w, (do eqGuard p t x u x1 u1; binOp p t x1 u1).run P w = .ok v w) (ho : o.op = .binOp p t x u t') (hd : o.dst = some d) (hw : wantF ops s1 o = true := by kernel_rfl) (hpx : plainB s0 x = true := by kernel_rfl) (hx1 : evS s0 x = x1 := by kernel_rfl) (hpu : plainB s0 u = true := by kernel_rfl) (hu1 : evS s0 u = u1 := by kernel_rfl) (hs : slot s1 d = .inl v := by kernel_rfl) : Ok1 P W ops s0 s1 z y o ⟨none, none, none, true⟩ := by
  refine Or.inl ⟨hw, ⟨?_, fun b h => by simp at h, fun b _ h => by simp at h, ?_⟩⟩
  · rintro b (h | h | ⟨_, d', off, h1, h2⟩)
    · simp at h
    · simp at h
    · rw [hd] at h1; cases h1; rw [hs] at h2; cases h2
  · intro β a w ha hb hr' K Q hK
    have h1 : a.eval x = x1 := by rw [← hx1]; exact ev_plain ha (by rw [ho]; simp [Op.operands]) hpx
    have h2 : a.eval u = u1 := by rw [← hu1]; exact ev_plain ha (by rw [ho]; simp [Op.operands]) hpu
    have h3 := hr w
    unfold Oper.wp
    simp only [execOp, ho, h1, h2, Sem.run_bind, h3, Result.andThen_ok, Sem.run_pure, Oper.upon_value]
    exact hK _ _ ⟨fun d' h => by rw [hd] at h; cases h; rw [hs]; rfl, Below.refl _ _⟩
/-- Four words. -/
def w4 (a b c d : Nat) : Array Value := #[.int .u64 ((a : Nat) : Int), .int .u64 ((b : Nat) : Int), .int .u64 ((c : Nat) : Int), .int .u64 ((d : Nat) : Int)]
theorem ld_w {c : Array Value} {i v : Nat} (t0 : TypeId) (hi : c[i]? = some (.int .u64 ((v : Nat) : Int))) (w : World) (q : Nat) (h : w.heap[q]? = some (.cells c t0 (0, 0))) : (Instr.loadAt 25 (.pointer (some ⟨q, i, none⟩))).run Try.prog w = .ok (.int .u64 ((v : Nat) : Int)) w := by
  have h1 : w.cell? ⟨q, i, none⟩ = some (.int .u64 ((v : Nat) : Int)) := by rw [cell_of_row _ _ _ _ _ _ h]; exact hi
  simp [Instr.loadAt, Instr.sureAddr, go_sem, h1]
theorem st_w {c n : Array Value} {i v : Nat} (t0 : TypeId) {u : Value} (hi : c[i]? = some u) (hs : c.setIfInBounds i (.int .u64 ((v : Nat) : Int)) = n) (w : World) (q : Nat) (h : w.heap[q]? = some (.cells c t0 (0, 0))) : (Instr.storeAt 25 (.pointer (some ⟨q, i, none⟩)) (.int .u64 ((v : Nat) : Int))).run Try.prog w = .ok () (w.setRow q n) := by
  have h1 : w.cell? ⟨q, i, none⟩ = some u := by rw [cell_of_row _ _ _ _ _ _ h]; exact hi
  have h2 : w.setCell ⟨q, i, none⟩ (.int .u64 ((v : Nat) : Int)) = w.setRow q n := by rw [set_row h, hs]
  have h3 : w.frozen? ⟨q, i, none⟩ = false := by simp [World.frozen?, h]
  simp [Instr.storeAt, Instr.sureAddr, go_sem, h1, h2, h3]
theorem w4_one (a b c d : Nat) : (w4 a b c d).all (·.oneCell') = true := by simp [w4, Value.oneCell']
theorem ldW {a b c d : Nat} (t0 : TypeId) (w : World) (q : Nat) (h : w.heap[q]? = some (.cells (w4 a b c d) t0 (0, 0))) : (Instr.loadAt 83 (.pointer (some ⟨q, 0, none⟩))).run Try.prog w = .ok (.agg (w4 a b c d)) w :=
  ld_row (c := w4 a b c d) Try.underlying83 rfl (by kernel_rfl) w q h
theorem stW {a b c d : Nat} {e : Array Value} (t0 : TypeId) (he : e.size = 4) (w : World) (q : Nat) (h : w.heap[q]? = some (.cells e t0 (0, 0))) : (Instr.storeAt 83 (.pointer (some ⟨q, 0, none⟩)) (.agg (w4 a b c d))).run Try.prog w = .ok () (w.setRow q (w4 a b c d)) :=
  st_row (n := w4 a b c d) (by kernel_rfl) he (w4_one _ _ _ _) w q h
theorem alW (w : World) : (Instr.alloc 83 true (.tuple #[])).run Try.prog w = .ok (.pointer (some ⟨w.heap.size, 0, none⟩)) (w.alloc (.cells (w4 0 0 0 0) 83)) := by
  simp [Instr.alloc, go_sem]
  rfl
theorem bxW {a b c d : Nat} (w : World) : (Instr.box 83 (.agg (w4 a b c d))).run Try.prog w = .ok (.pointer (some ⟨w.heap.size, 0, none⟩)) (w.alloc (.cells (w4 a b c d) 83)) := bx_agg w
theorem eq_u64 {x u : Operand} {m n : Nat} {b : Bool} (h : decide (m = n) = b) (w : World) : (do eqGuard .eql 25 x u (.int .u64 ((m : Nat) : Int)) (.int .u64 ((n : Nat) : Int)); binOp .eql 25 (.int .u64 ((m : Nat) : Int)) (.int .u64 ((n : Nat) : Int))).run Try.prog w = .ok (.bool b) w := by
  have h1 : (((m : Nat) : Int) == ((n : Nat) : Int)) = b := by rw [← h, Bool.eq_iff_iff]; simp; omega
  simp [eqGuard, binOp, go_sem, h1]

theorem ad_k {x u : Operand} {m n k : Nat} (h : m + n = k) (hk : k < 9223372036854775808) (w : World) : (do eqGuard .add 3 x u (.int .i64 ((m : Nat) : Int)) (.int .i64 ((n : Nat) : Int)); binOp .add 3 (.int .i64 ((m : Nat) : Int)) (.int .i64 ((n : Nat) : Int))).run Try.prog w = .ok (.int .i64 ((k : Nat) : Int)) w := by
  subst h; exact ad_i hk w
/-- The order. -/
def oL : Nat := 7237005577332262213973186563042994240857116359379907606001950938285454250989
/-- A number's words. -/
def rs (n : Nat) : Array Value := w4 (n % 18446744073709551616) (n / 18446744073709551616 % 18446744073709551616) (n / 340282366920938463463374607431768211456 % 18446744073709551616) (n / 6277101735386680763835789423207666416102355444464034512896 % 18446744073709551616)
theorem rs_of {a b c d n : Nat} (ha : a < 18446744073709551616) (hb : b < 18446744073709551616) (hc : c < 18446744073709551616) (hd : d < 18446744073709551616) (h : n = a + 18446744073709551616 * b + 340282366920938463463374607431768211456 * c + 6277101735386680763835789423207666416102355444464034512896 * d) : w4 a b c d = rs n := by
  unfold rs
  have e1 : n % 18446744073709551616 = a := by omega
  have e2 : n / 18446744073709551616 % 18446744073709551616 = b := by omega
  have e3 : n / 340282366920938463463374607431768211456 % 18446744073709551616 = c := by omega
  have e4 : n / 6277101735386680763835789423207666416102355444464034512896 % 18446744073709551616 = d := by omega
  rw [e1, e2, e3, e4]
end Go.Proofs.Ytpogmflgmpifoaa

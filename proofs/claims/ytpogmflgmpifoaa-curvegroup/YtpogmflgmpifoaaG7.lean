/- Res1, Z2, Res2, E4, CurveGroupWalk: laid together. -/
import Derived.Test.YtpogmflgmpifoaaG6
namespace Go.Proofs.Ytpogmflgmpifoaa
open Go.RowKit Go.Shelf

theorem order_r (W0 : World) : Calls Try.prog 74 #[] W0 fun e w' => e = .returned (.agg (w4 6346243789798364141 1503914060200516822 0 1152921504606846976)) ∧ Below W0.heap.size W0 w' := by
  refine s_in Try.func74 Try.ntmps74 rfl [] ?_
  intro β a h
  refine sym_seq ?_
  refine St.rg h [(0, .inr (0, pt 0))] [(w4 0 0 0 0, 83)] [] [eN 0] ?_ ?_
  · exact oc (k_al 0 alW rfl rfl) <|
    ok_nil
  clear h; intro β a w h
  refine sym_then ?_
  refine sym_seq ?_
  refine St.rg h [(1, .inl (.agg (w4 6346243789798364141 1503914060200516822 0 1152921504606846976)))] [] [(0, w4 6346243789798364141 1503914060200516822 0 1152921504606846976)] [nn, eS 0] ?_ ?_
  · exact oc (k_bu #[(0, .int .u64 ((6346243789798364141 : Nat) : Int)), (1, .int .u64 ((1503914060200516822 : Nat) : Int)), (2, .int .u64 ((0 : Nat) : Int)), (3, .int .u64 ((1152921504606846976 : Nat) : Int))] (.agg (w4 6346243789798364141 1503914060200516822 0 1152921504606846976)) (fun w => by kernel_rfl) rfl rfl) <|
    oc (k_st 0 0 (.agg (w4 6346243789798364141 1503914060200516822 0 1152921504606846976)) (c := w4 0 0 0 0) (n := w4 6346243789798364141 1503914060200516822 0 1152921504606846976) (stW 83 rfl) rfl rfl) <|
    ok_nil
  clear h; intro β a w h
  refine sym_then ?_
  refine wp_ret ?_
  exact s_rc (b := 0) (t0 := 83) (c := w4 6346243789798364141 1503914060200516822 0 1152921504606846976) h Try.results74 Try.underlying83 (fun hb => ⟨rfl, hb⟩) (by kernel_rfl)

set_option maxHeartbeats 4000000 in
theorem pls_s {a0 a1 a2 a3 b0 b1 b2 b3 s0 s1 s2 s3 k0 k1 k2 k3 r0 r1 r2 r3 e0 e1 e2 e3 : Nat} (ca0 : (∀ w, (callFunc 75 #[.int .u64 ((a0 : Nat) : Int), .int .u64 ((b0 : Nat) : Int), .int .u64 ((0 : Nat) : Int)]).run Try.prog w = .ok (.value (.tuple #[.int .u64 ((s0 : Nat) : Int), .int .u64 ((k0 : Nat) : Int)])) w)) (ca1 : (∀ w, (callFunc 75 #[.int .u64 ((a1 : Nat) : Int), .int .u64 ((b1 : Nat) : Int), .int .u64 ((k0 : Nat) : Int)]).run Try.prog w = .ok (.value (.tuple #[.int .u64 ((s1 : Nat) : Int), .int .u64 ((k1 : Nat) : Int)])) w)) (ca2 : (∀ w, (callFunc 75 #[.int .u64 ((a2 : Nat) : Int), .int .u64 ((b2 : Nat) : Int), .int .u64 ((k1 : Nat) : Int)]).run Try.prog w = .ok (.value (.tuple #[.int .u64 ((s2 : Nat) : Int), .int .u64 ((k2 : Nat) : Int)])) w)) (ca3 : (∀ w, (callFunc 75 #[.int .u64 ((a3 : Nat) : Int), .int .u64 ((b3 : Nat) : Int), .int .u64 ((k2 : Nat) : Int)]).run Try.prog w = .ok (.value (.tuple #[.int .u64 ((s3 : Nat) : Int), .int .u64 ((k3 : Nat) : Int)])) w))
    (cs0 : (∀ w, (callFunc 76 #[.int .u64 ((s0 : Nat) : Int), .int .u64 ((6346243789798364141 : Nat) : Int), .int .u64 ((0 : Nat) : Int)]).run Try.prog w = .ok (.value (.tuple #[.int .u64 ((r0 : Nat) : Int), .int .u64 ((e0 : Nat) : Int)])) w)) (cs1 : (∀ w, (callFunc 76 #[.int .u64 ((s1 : Nat) : Int), .int .u64 ((1503914060200516822 : Nat) : Int), .int .u64 ((e0 : Nat) : Int)]).run Try.prog w = .ok (.value (.tuple #[.int .u64 ((r1 : Nat) : Int), .int .u64 ((e1 : Nat) : Int)])) w)) (cs2 : (∀ w, (callFunc 76 #[.int .u64 ((s2 : Nat) : Int), .int .u64 ((0 : Nat) : Int), .int .u64 ((e1 : Nat) : Int)]).run Try.prog w = .ok (.value (.tuple #[.int .u64 ((r2 : Nat) : Int), .int .u64 ((e2 : Nat) : Int)])) w)) (cs3 : (∀ w, (callFunc 76 #[.int .u64 ((s3 : Nat) : Int), .int .u64 ((1152921504606846976 : Nat) : Int), .int .u64 ((e2 : Nat) : Int)]).run Try.prog w = .ok (.value (.tuple #[.int .u64 ((r3 : Nat) : Int), .int .u64 ((e3 : Nat) : Int)])) w))
    (hb : e3 = 1) (W0 : World) : Calls Try.prog 52 #[.agg (w4 a0 a1 a2 a3), .agg (w4 b0 b1 b2 b3)] W0 fun e w' => e = .returned (.agg (w4 s0 s1 s2 s3)) ∧ Below W0.heap.size W0 w' := by
  refine s_in Try.func52 Try.ntmps52 rfl [.inl (.agg (w4 a0 a1 a2 a3)), .inl (.agg (w4 b0 b1 b2 b3))] ?_
  intro β a h
  refine sym_seq ?_
  refine St.rg h [(2, .inr (0, pt 0)), (3, .inr (1, pt 0)), (4, .inr (2, pt 0))] [(w4 a0 a1 a2 a3, 83), (w4 b0 b1 b2 b3, 83), (w4 0 0 0 0, 83)] [] [eN 0, eN 1, eN 2] ?_ ?_
  · exact oc (k_bx 0 (.agg (w4 a0 a1 a2 a3)) bxW rfl rfl) <|
    oc (k_bx 1 (.agg (w4 b0 b1 b2 b3)) bxW rfl rfl) <|
    oc (k_al 2 alW rfl rfl) <|
    ok_nil
  clear h; intro β a w h
  refine sym_then ?_
  refine sym_seq ?_
  refine St.rg h [(5, .inr (3, pt 0)), (6, .inr (4, pt 0))] [(w4 0 0 0 0, 83), (w4 0 0 0 0, 83)] [] [eN 3, eN 4] ?_ ?_
  · exact oc (k_al 3 alW rfl rfl) <|
    oc (k_al 4 alW rfl rfl) <|
    ok_nil
  clear h; intro β a w h
  refine sym_then ?_
  refine sym_seq ?_
  refine St.r0 h [(7, .inl (.int .u64 ((0 : Nat) : Int))), (8, .inl (.int .u64 ((0 : Nat) : Int)))] [] ?_ ?_
  · exact oz (k_mv (.inr rfl) rfl) <|
    oz (k_mv (.inr rfl) rfl) <|
    ok_nil
  clear h; intro β a w h
  refine sym_then ?_
  refine sym_seq ?_
  refine sym_seq ?_
  refine St.r0 h [(11, .inl (.agg (w4 6346243789798364141 1503914060200516822 0 1152921504606846976))), (12, .inl (.int .i64 ((0 : Nat) : Int)))] [] ?_ ?_
  · exact oz (k_ca 74 #[] (.agg (w4 6346243789798364141 1503914060200516822 0 1152921504606846976)) order_r rfl rfl) <|
    oz (k_mv (.inl rfl) rfl) <|
    ok_nil
  clear h; intro β a w h
  refine sym_then ?_
  refine blk_in ?_
  refine wp_loop_rounds 5 ?_
  refine rounds_1 ?_
  refine sym_seq ?_
  refine St.r0 h [(13, .inl (.bool true))] [] ?_ ?_
  · exact oz (k_bi (.int .i64 ((0 : Nat) : Int)) (.int .i64 ((4 : Nat) : Int)) (.bool true) (lt_i (m := ((0 : Nat) : Int)) (n := ((4 : Nat) : Int)) (by decide)) rfl rfl) <|
    ok_nil
  clear h; intro β a w h
  refine sym_then ?_
  refine sym_seq ?_
  refine s_ct h ?_
  refine wp_skip ?_
  refine sym_then ?_
  refine sym_seq ?_
  refine blk_in ?_
  refine sym_seq ?_
  refine St.r0 h [(14, .inl (.int .i64 ((0 : Nat) : Int))), (15, .inl (.int .u64 ((6346243789798364141 : Nat) : Int))), (9, .inl (.int .i64 ((0 : Nat) : Int))), (10, .inl (.int .u64 ((6346243789798364141 : Nat) : Int)))] [] ?_ ?_
  · exact oz (k_mv (.inl rfl) rfl) <|
    oz (k_ix (.agg (w4 6346243789798364141 1503914060200516822 0 1152921504606846976)) (.int .i64 ((0 : Nat) : Int)) (.int .u64 ((6346243789798364141 : Nat) : Int)) (fun w => by kernel_rfl) rfl rfl) <|
    oz (k_mv (.inr rfl) rfl) <|
    oz (k_mv (.inr rfl) rfl) <|
    ok_nil
  clear h; intro β a w h
  refine sym_then ?_
  refine sym_seq ?_
  refine St.rg h [(17, .inl (.int .i64 ((0 : Nat) : Int))), (18, .inl (.int .i64 ((0 : Nat) : Int))), (19, .inr (0, pt 0)), (20, .inl (.int .u64 ((a0 : Nat) : Int))), (21, .inl (.int .i64 ((0 : Nat) : Int))), (22, .inr (1, pt 0)), (23, .inl (.int .u64 ((b0 : Nat) : Int))), (24, .inl (.int .u64 ((0 : Nat) : Int))), (25, .inl (.tuple #[.int .u64 ((s0 : Nat) : Int), .int .u64 ((k0 : Nat) : Int)])), (16, .inl (.tuple #[.int .u64 ((s0 : Nat) : Int), .int .u64 ((k0 : Nat) : Int)])), (26, .inl (.int .u64 ((s0 : Nat) : Int))), (27, .inl (.int .u64 ((k0 : Nat) : Int))), (28, .inr (3, pt 0)), (7, .inl (.int .u64 ((k0 : Nat) : Int)))] [] [(3, w4 s0 0 0 0)] [nn, nn, nn, eR 0, nn, nn, eR 1, eO, nn, nn, nn, nn, nn, eS 3] ?_ ?_
  · exact oc (k_mv (.inl rfl) rfl) <|
    oc (k_mv (.inl rfl) rfl) <|
    oc (k_ia 0 0 0 (.int .i64 ((0 : Nat) : Int)) (fun w q => by kernel_rfl) rfl rfl) <|
    oc (k_ld 0 0 (.int .u64 ((a0 : Nat) : Int)) (c := w4 a0 a1 a2 a3) (ld_w (i := 0) (v := a0) 83 rfl) rfl rfl) <|
    oc (k_mv (.inl rfl) rfl) <|
    oc (k_ia 1 0 0 (.int .i64 ((0 : Nat) : Int)) (fun w q => by kernel_rfl) rfl rfl) <|
    oc (k_ld 1 0 (.int .u64 ((b0 : Nat) : Int)) (c := w4 b0 b1 b2 b3) (ld_w (i := 0) (v := b0) 83 rfl) rfl rfl) <|
    oc (k_m0 rfl rfl) <|
    oc (k_cx 75 #[.int .u64 ((a0 : Nat) : Int), .int .u64 ((b0 : Nat) : Int), .int .u64 ((0 : Nat) : Int)] (.tuple #[.int .u64 ((s0 : Nat) : Int), .int .u64 ((k0 : Nat) : Int)]) ca0 rfl rfl) <|
    oc (k_mv (.inl rfl) rfl) <|
    oc (k_ex (.tuple #[.int .u64 ((s0 : Nat) : Int), .int .u64 ((k0 : Nat) : Int)]) (.int .u64 ((s0 : Nat) : Int)) rfl rfl) <|
    oc (k_ex (.tuple #[.int .u64 ((s0 : Nat) : Int), .int .u64 ((k0 : Nat) : Int)]) (.int .u64 ((k0 : Nat) : Int)) rfl rfl) <|
    oc (k_ia 3 0 0 (.int .i64 ((0 : Nat) : Int)) (fun w q => by kernel_rfl) rfl rfl) <|
    oc (k_st 3 0 (.int .u64 ((s0 : Nat) : Int)) (c := w4 0 0 0 0) (n := w4 s0 0 0 0) (st_w (i := 0) (v := s0) (n := w4 s0 0 0 0) 83 rfl rfl) rfl rfl) <|
    oz (k_mv (.inr rfl) rfl) <|
    ok_nil
  clear h; intro β a w h
  refine sym_then ?_
  refine St.rg h [(30, .inl (.int .i64 ((0 : Nat) : Int))), (31, .inl (.int .i64 ((0 : Nat) : Int))), (32, .inr (3, pt 0)), (33, .inl (.int .u64 ((s0 : Nat) : Int))), (34, .inl (.int .u64 ((6346243789798364141 : Nat) : Int))), (35, .inl (.int .u64 ((0 : Nat) : Int))), (36, .inl (.tuple #[.int .u64 ((r0 : Nat) : Int), .int .u64 ((e0 : Nat) : Int)])), (29, .inl (.tuple #[.int .u64 ((r0 : Nat) : Int), .int .u64 ((e0 : Nat) : Int)])), (37, .inl (.int .u64 ((r0 : Nat) : Int))), (38, .inl (.int .u64 ((e0 : Nat) : Int))), (39, .inr (4, pt 0)), (8, .inl (.int .u64 ((e0 : Nat) : Int)))] [] [(4, w4 r0 0 0 0)] [nn, nn, nn, eR 3, nn, eO, nn, nn, nn, nn, nn, eS 4] ?_ ?_
  · exact oc (k_mv (.inl rfl) rfl) <|
    oc (k_mv (.inl rfl) rfl) <|
    oc (k_ia 3 0 0 (.int .i64 ((0 : Nat) : Int)) (fun w q => by kernel_rfl) rfl rfl) <|
    oc (k_ld 3 0 (.int .u64 ((s0 : Nat) : Int)) (c := w4 s0 0 0 0) (ld_w (i := 0) (v := s0) 83 rfl) rfl rfl) <|
    oc (k_mv (.inl rfl) rfl) <|
    oc (k_m0 rfl rfl) <|
    oc (k_cx 76 #[.int .u64 ((s0 : Nat) : Int), .int .u64 ((6346243789798364141 : Nat) : Int), .int .u64 ((0 : Nat) : Int)] (.tuple #[.int .u64 ((r0 : Nat) : Int), .int .u64 ((e0 : Nat) : Int)]) cs0 rfl rfl) <|
    oc (k_mv (.inl rfl) rfl) <|
    oc (k_ex (.tuple #[.int .u64 ((r0 : Nat) : Int), .int .u64 ((e0 : Nat) : Int)]) (.int .u64 ((r0 : Nat) : Int)) rfl rfl) <|
    oc (k_ex (.tuple #[.int .u64 ((r0 : Nat) : Int), .int .u64 ((e0 : Nat) : Int)]) (.int .u64 ((e0 : Nat) : Int)) rfl rfl) <|
    oc (k_ia 4 0 0 (.int .i64 ((0 : Nat) : Int)) (fun w q => by kernel_rfl) rfl rfl) <|
    oc (k_st 4 0 (.int .u64 ((r0 : Nat) : Int)) (c := w4 0 0 0 0) (n := w4 r0 0 0 0) (st_w (i := 0) (v := r0) (n := w4 r0 0 0 0) 83 rfl rfl) rfl rfl) <|
    oz (k_mv (.inr rfl) rfl) <|
    ok_nil
  clear h; intro β a w h
  refine blk_norm ?_
  refine sym_then ?_
  refine St.r0 h [(40, .inl (.int .i64 ((1 : Nat) : Int))), (12, .inl (.int .i64 ((1 : Nat) : Int)))] [eO] ?_ ?_
  · exact oc (k_b0 (.int .i64 ((0 : Nat) : Int)) (.int .i64 ((1 : Nat) : Int)) (.int .i64 ((1 : Nat) : Int)) (ad_k (m := 0) (n := 1) rfl (by decide)) rfl rfl) <|
    oz (k_mv (.inl rfl) rfl) <|
    ok_nil
  clear h; intro β a w h
  refine then_norm ?_
  replace h := St.cs h (s' := [.inl (.agg (w4 a0 a1 a2 a3)), .inl (.agg (w4 b0 b1 b2 b3)), .inr (0, pt 0), .inr (1, pt 0), .inr (2, pt 0), .inr (3, pt 0), .inr (4, pt 0), .inl (.int .u64 ((k0 : Nat) : Int)), .inl (.int .u64 ((e0 : Nat) : Int)), .inl (.int .i64 ((0 : Nat) : Int)), .inl (.int .u64 ((6346243789798364141 : Nat) : Int)), .inl (.agg (w4 6346243789798364141 1503914060200516822 0 1152921504606846976)), .inl (.int .i64 ((1 : Nat) : Int)), .inl (.bool true), .inl (.int .i64 ((0 : Nat) : Int)), .inl (.int .u64 ((6346243789798364141 : Nat) : Int)), .inl (.tuple #[.int .u64 ((s0 : Nat) : Int), .int .u64 ((k0 : Nat) : Int)]), .inl (.int .i64 ((0 : Nat) : Int)), .inl (.int .i64 ((0 : Nat) : Int)), .inr (0, pt 0), .inl (.int .u64 ((a0 : Nat) : Int)), .inl (.int .i64 ((0 : Nat) : Int)), .inr (1, pt 0), .inl (.int .u64 ((b0 : Nat) : Int)), .inl (.int .u64 ((0 : Nat) : Int)), .inl (.tuple #[.int .u64 ((s0 : Nat) : Int), .int .u64 ((k0 : Nat) : Int)]), .inl (.int .u64 ((s0 : Nat) : Int)), .inl (.int .u64 ((k0 : Nat) : Int)), .inr (3, pt 0), .inl (.tuple #[.int .u64 ((r0 : Nat) : Int), .int .u64 ((e0 : Nat) : Int)]), .inl (.int .i64 ((0 : Nat) : Int)), .inl (.int .i64 ((0 : Nat) : Int)), .inr (3, pt 0), .inl (.int .u64 ((s0 : Nat) : Int)), .inl (.int .u64 ((6346243789798364141 : Nat) : Int)), .inl (.int .u64 ((0 : Nat) : Int)), .inl (.tuple #[.int .u64 ((r0 : Nat) : Int), .int .u64 ((e0 : Nat) : Int)]), .inl (.int .u64 ((r0 : Nat) : Int)), .inl (.int .u64 ((e0 : Nat) : Int)), .inr (4, pt 0), .inl (.int .i64 ((1 : Nat) : Int)), uu, uu, uu, uu]) (m' := [(w4 a0 a1 a2 a3, 83), (w4 b0 b1 b2 b3, 83), (w4 0 0 0 0, 83), (w4 s0 0 0 0, 83), (w4 r0 0 0 0, 83)]) (by kernel_rfl) (by kernel_rfl)
  replace h := h.o0
  refine rounds_1 ?_
  refine sym_seq ?_
  refine St.r0 h [] [] ?_ ?_
  · exact oz (k_bi (.int .i64 ((1 : Nat) : Int)) (.int .i64 ((4 : Nat) : Int)) (.bool true) (lt_i (m := ((1 : Nat) : Int)) (n := ((4 : Nat) : Int)) (by decide)) rfl rfl) <|
    ok_nil
  clear h; intro β a w h
  refine sym_then ?_
  refine sym_seq ?_
  refine s_ct h ?_
  refine wp_skip ?_
  refine sym_then ?_
  refine sym_seq ?_
  refine blk_in ?_
  refine sym_seq ?_
  refine St.r0 h [(14, .inl (.int .i64 ((1 : Nat) : Int))), (15, .inl (.int .u64 ((1503914060200516822 : Nat) : Int))), (9, .inl (.int .i64 ((1 : Nat) : Int))), (10, .inl (.int .u64 ((1503914060200516822 : Nat) : Int)))] [] ?_ ?_
  · exact oz (k_mv (.inl rfl) rfl) <|
    oz (k_ix (.agg (w4 6346243789798364141 1503914060200516822 0 1152921504606846976)) (.int .i64 ((1 : Nat) : Int)) (.int .u64 ((1503914060200516822 : Nat) : Int)) (fun w => by kernel_rfl) rfl rfl) <|
    oz (k_mv (.inr rfl) rfl) <|
    oz (k_mv (.inr rfl) rfl) <|
    ok_nil
  clear h; intro β a w h
  refine sym_then ?_
  refine sym_seq ?_
  refine St.rg h [(17, .inl (.int .i64 ((1 : Nat) : Int))), (18, .inl (.int .i64 ((1 : Nat) : Int))), (19, .inr (0, pt 1)), (20, .inl (.int .u64 ((a1 : Nat) : Int))), (21, .inl (.int .i64 ((1 : Nat) : Int))), (22, .inr (1, pt 1)), (23, .inl (.int .u64 ((b1 : Nat) : Int))), (24, .inl (.int .u64 ((k0 : Nat) : Int))), (25, .inl (.tuple #[.int .u64 ((s1 : Nat) : Int), .int .u64 ((k1 : Nat) : Int)])), (16, .inl (.tuple #[.int .u64 ((s1 : Nat) : Int), .int .u64 ((k1 : Nat) : Int)])), (26, .inl (.int .u64 ((s1 : Nat) : Int))), (27, .inl (.int .u64 ((k1 : Nat) : Int))), (28, .inr (3, pt 1)), (7, .inl (.int .u64 ((k1 : Nat) : Int)))] [] [(3, w4 s0 s1 0 0)] [nn, nn, nn, eR 0, nn, nn, eR 1, eO, nn, nn, nn, nn, nn, eS 3] ?_ ?_
  · exact oc (k_mv (.inl rfl) rfl) <|
    oc (k_mv (.inl rfl) rfl) <|
    oc (k_ia 0 0 1 (.int .i64 ((1 : Nat) : Int)) (fun w q => by kernel_rfl) rfl rfl) <|
    oc (k_ld 0 1 (.int .u64 ((a1 : Nat) : Int)) (c := w4 a0 a1 a2 a3) (ld_w (i := 1) (v := a1) 83 rfl) rfl rfl) <|
    oc (k_mv (.inl rfl) rfl) <|
    oc (k_ia 1 0 1 (.int .i64 ((1 : Nat) : Int)) (fun w q => by kernel_rfl) rfl rfl) <|
    oc (k_ld 1 1 (.int .u64 ((b1 : Nat) : Int)) (c := w4 b0 b1 b2 b3) (ld_w (i := 1) (v := b1) 83 rfl) rfl rfl) <|
    oc (k_m0 rfl rfl) <|
    oc (k_cx 75 #[.int .u64 ((a1 : Nat) : Int), .int .u64 ((b1 : Nat) : Int), .int .u64 ((k0 : Nat) : Int)] (.tuple #[.int .u64 ((s1 : Nat) : Int), .int .u64 ((k1 : Nat) : Int)]) ca1 rfl rfl) <|
    oc (k_mv (.inl rfl) rfl) <|
    oc (k_ex (.tuple #[.int .u64 ((s1 : Nat) : Int), .int .u64 ((k1 : Nat) : Int)]) (.int .u64 ((s1 : Nat) : Int)) rfl rfl) <|
    oc (k_ex (.tuple #[.int .u64 ((s1 : Nat) : Int), .int .u64 ((k1 : Nat) : Int)]) (.int .u64 ((k1 : Nat) : Int)) rfl rfl) <|
    oc (k_ia 3 0 1 (.int .i64 ((1 : Nat) : Int)) (fun w q => by kernel_rfl) rfl rfl) <|
    oc (k_st 3 1 (.int .u64 ((s1 : Nat) : Int)) (c := w4 s0 0 0 0) (n := w4 s0 s1 0 0) (st_w (i := 1) (v := s1) (n := w4 s0 s1 0 0) 83 rfl rfl) rfl rfl) <|
    oz (k_mv (.inr rfl) rfl) <|
    ok_nil
  clear h; intro β a w h
  refine sym_then ?_
  refine St.rg h [(30, .inl (.int .i64 ((1 : Nat) : Int))), (31, .inl (.int .i64 ((1 : Nat) : Int))), (32, .inr (3, pt 1)), (33, .inl (.int .u64 ((s1 : Nat) : Int))), (34, .inl (.int .u64 ((1503914060200516822 : Nat) : Int))), (35, .inl (.int .u64 ((e0 : Nat) : Int))), (36, .inl (.tuple #[.int .u64 ((r1 : Nat) : Int), .int .u64 ((e1 : Nat) : Int)])), (29, .inl (.tuple #[.int .u64 ((r1 : Nat) : Int), .int .u64 ((e1 : Nat) : Int)])), (37, .inl (.int .u64 ((r1 : Nat) : Int))), (38, .inl (.int .u64 ((e1 : Nat) : Int))), (39, .inr (4, pt 1)), (8, .inl (.int .u64 ((e1 : Nat) : Int)))] [] [(4, w4 r0 r1 0 0)] [nn, nn, nn, eR 3, nn, eO, nn, nn, nn, nn, nn, eS 4] ?_ ?_
  · exact oc (k_mv (.inl rfl) rfl) <|
    oc (k_mv (.inl rfl) rfl) <|
    oc (k_ia 3 0 1 (.int .i64 ((1 : Nat) : Int)) (fun w q => by kernel_rfl) rfl rfl) <|
    oc (k_ld 3 1 (.int .u64 ((s1 : Nat) : Int)) (c := w4 s0 s1 0 0) (ld_w (i := 1) (v := s1) 83 rfl) rfl rfl) <|
    oc (k_mv (.inl rfl) rfl) <|
    oc (k_m0 rfl rfl) <|
    oc (k_cx 76 #[.int .u64 ((s1 : Nat) : Int), .int .u64 ((1503914060200516822 : Nat) : Int), .int .u64 ((e0 : Nat) : Int)] (.tuple #[.int .u64 ((r1 : Nat) : Int), .int .u64 ((e1 : Nat) : Int)]) cs1 rfl rfl) <|
    oc (k_mv (.inl rfl) rfl) <|
    oc (k_ex (.tuple #[.int .u64 ((r1 : Nat) : Int), .int .u64 ((e1 : Nat) : Int)]) (.int .u64 ((r1 : Nat) : Int)) rfl rfl) <|
    oc (k_ex (.tuple #[.int .u64 ((r1 : Nat) : Int), .int .u64 ((e1 : Nat) : Int)]) (.int .u64 ((e1 : Nat) : Int)) rfl rfl) <|
    oc (k_ia 4 0 1 (.int .i64 ((1 : Nat) : Int)) (fun w q => by kernel_rfl) rfl rfl) <|
    oc (k_st 4 1 (.int .u64 ((r1 : Nat) : Int)) (c := w4 r0 0 0 0) (n := w4 r0 r1 0 0) (st_w (i := 1) (v := r1) (n := w4 r0 r1 0 0) 83 rfl rfl) rfl rfl) <|
    oz (k_mv (.inr rfl) rfl) <|
    ok_nil
  clear h; intro β a w h
  refine blk_norm ?_
  refine sym_then ?_
  refine St.r0 h [(40, .inl (.int .i64 ((2 : Nat) : Int))), (12, .inl (.int .i64 ((2 : Nat) : Int)))] [eO] ?_ ?_
  · exact oc (k_b0 (.int .i64 ((1 : Nat) : Int)) (.int .i64 ((1 : Nat) : Int)) (.int .i64 ((2 : Nat) : Int)) (ad_k (m := 1) (n := 1) rfl (by decide)) rfl rfl) <|
    oz (k_mv (.inl rfl) rfl) <|
    ok_nil
  clear h; intro β a w h
  refine then_norm ?_
  replace h := St.cs h (s' := [.inl (.agg (w4 a0 a1 a2 a3)), .inl (.agg (w4 b0 b1 b2 b3)), .inr (0, pt 0), .inr (1, pt 0), .inr (2, pt 0), .inr (3, pt 0), .inr (4, pt 0), .inl (.int .u64 ((k1 : Nat) : Int)), .inl (.int .u64 ((e1 : Nat) : Int)), .inl (.int .i64 ((1 : Nat) : Int)), .inl (.int .u64 ((1503914060200516822 : Nat) : Int)), .inl (.agg (w4 6346243789798364141 1503914060200516822 0 1152921504606846976)), .inl (.int .i64 ((2 : Nat) : Int)), .inl (.bool true), .inl (.int .i64 ((1 : Nat) : Int)), .inl (.int .u64 ((1503914060200516822 : Nat) : Int)), .inl (.tuple #[.int .u64 ((s1 : Nat) : Int), .int .u64 ((k1 : Nat) : Int)]), .inl (.int .i64 ((1 : Nat) : Int)), .inl (.int .i64 ((1 : Nat) : Int)), .inr (0, pt 1), .inl (.int .u64 ((a1 : Nat) : Int)), .inl (.int .i64 ((1 : Nat) : Int)), .inr (1, pt 1), .inl (.int .u64 ((b1 : Nat) : Int)), .inl (.int .u64 ((k0 : Nat) : Int)), .inl (.tuple #[.int .u64 ((s1 : Nat) : Int), .int .u64 ((k1 : Nat) : Int)]), .inl (.int .u64 ((s1 : Nat) : Int)), .inl (.int .u64 ((k1 : Nat) : Int)), .inr (3, pt 1), .inl (.tuple #[.int .u64 ((r1 : Nat) : Int), .int .u64 ((e1 : Nat) : Int)]), .inl (.int .i64 ((1 : Nat) : Int)), .inl (.int .i64 ((1 : Nat) : Int)), .inr (3, pt 1), .inl (.int .u64 ((s1 : Nat) : Int)), .inl (.int .u64 ((1503914060200516822 : Nat) : Int)), .inl (.int .u64 ((e0 : Nat) : Int)), .inl (.tuple #[.int .u64 ((r1 : Nat) : Int), .int .u64 ((e1 : Nat) : Int)]), .inl (.int .u64 ((r1 : Nat) : Int)), .inl (.int .u64 ((e1 : Nat) : Int)), .inr (4, pt 1), .inl (.int .i64 ((2 : Nat) : Int)), uu, uu, uu, uu]) (m' := [(w4 a0 a1 a2 a3, 83), (w4 b0 b1 b2 b3, 83), (w4 0 0 0 0, 83), (w4 s0 s1 0 0, 83), (w4 r0 r1 0 0, 83)]) (by kernel_rfl) (by kernel_rfl)
  replace h := h.o0
  refine rounds_1 ?_
  refine sym_seq ?_
  refine St.r0 h [] [] ?_ ?_
  · exact oz (k_bi (.int .i64 ((2 : Nat) : Int)) (.int .i64 ((4 : Nat) : Int)) (.bool true) (lt_i (m := ((2 : Nat) : Int)) (n := ((4 : Nat) : Int)) (by decide)) rfl rfl) <|
    ok_nil
  clear h; intro β a w h
  refine sym_then ?_
  refine sym_seq ?_
  refine s_ct h ?_
  refine wp_skip ?_
  refine sym_then ?_
  refine sym_seq ?_
  refine blk_in ?_
  refine sym_seq ?_
  refine St.r0 h [(14, .inl (.int .i64 ((2 : Nat) : Int))), (15, .inl (.int .u64 ((0 : Nat) : Int))), (9, .inl (.int .i64 ((2 : Nat) : Int))), (10, .inl (.int .u64 ((0 : Nat) : Int)))] [] ?_ ?_
  · exact oz (k_mv (.inl rfl) rfl) <|
    oz (k_ix (.agg (w4 6346243789798364141 1503914060200516822 0 1152921504606846976)) (.int .i64 ((2 : Nat) : Int)) (.int .u64 ((0 : Nat) : Int)) (fun w => by kernel_rfl) rfl rfl) <|
    oz (k_mv (.inr rfl) rfl) <|
    oz (k_mv (.inr rfl) rfl) <|
    ok_nil
  clear h; intro β a w h
  refine sym_then ?_
  refine sym_seq ?_
  refine St.rg h [(17, .inl (.int .i64 ((2 : Nat) : Int))), (18, .inl (.int .i64 ((2 : Nat) : Int))), (19, .inr (0, pt 2)), (20, .inl (.int .u64 ((a2 : Nat) : Int))), (21, .inl (.int .i64 ((2 : Nat) : Int))), (22, .inr (1, pt 2)), (23, .inl (.int .u64 ((b2 : Nat) : Int))), (24, .inl (.int .u64 ((k1 : Nat) : Int))), (25, .inl (.tuple #[.int .u64 ((s2 : Nat) : Int), .int .u64 ((k2 : Nat) : Int)])), (16, .inl (.tuple #[.int .u64 ((s2 : Nat) : Int), .int .u64 ((k2 : Nat) : Int)])), (26, .inl (.int .u64 ((s2 : Nat) : Int))), (27, .inl (.int .u64 ((k2 : Nat) : Int))), (28, .inr (3, pt 2)), (7, .inl (.int .u64 ((k2 : Nat) : Int)))] [] [(3, w4 s0 s1 s2 0)] [nn, nn, nn, eR 0, nn, nn, eR 1, eO, nn, nn, nn, nn, nn, eS 3] ?_ ?_
  · exact oc (k_mv (.inl rfl) rfl) <|
    oc (k_mv (.inl rfl) rfl) <|
    oc (k_ia 0 0 2 (.int .i64 ((2 : Nat) : Int)) (fun w q => by kernel_rfl) rfl rfl) <|
    oc (k_ld 0 2 (.int .u64 ((a2 : Nat) : Int)) (c := w4 a0 a1 a2 a3) (ld_w (i := 2) (v := a2) 83 rfl) rfl rfl) <|
    oc (k_mv (.inl rfl) rfl) <|
    oc (k_ia 1 0 2 (.int .i64 ((2 : Nat) : Int)) (fun w q => by kernel_rfl) rfl rfl) <|
    oc (k_ld 1 2 (.int .u64 ((b2 : Nat) : Int)) (c := w4 b0 b1 b2 b3) (ld_w (i := 2) (v := b2) 83 rfl) rfl rfl) <|
    oc (k_m0 rfl rfl) <|
    oc (k_cx 75 #[.int .u64 ((a2 : Nat) : Int), .int .u64 ((b2 : Nat) : Int), .int .u64 ((k1 : Nat) : Int)] (.tuple #[.int .u64 ((s2 : Nat) : Int), .int .u64 ((k2 : Nat) : Int)]) ca2 rfl rfl) <|
    oc (k_mv (.inl rfl) rfl) <|
    oc (k_ex (.tuple #[.int .u64 ((s2 : Nat) : Int), .int .u64 ((k2 : Nat) : Int)]) (.int .u64 ((s2 : Nat) : Int)) rfl rfl) <|
    oc (k_ex (.tuple #[.int .u64 ((s2 : Nat) : Int), .int .u64 ((k2 : Nat) : Int)]) (.int .u64 ((k2 : Nat) : Int)) rfl rfl) <|
    oc (k_ia 3 0 2 (.int .i64 ((2 : Nat) : Int)) (fun w q => by kernel_rfl) rfl rfl) <|
    oc (k_st 3 2 (.int .u64 ((s2 : Nat) : Int)) (c := w4 s0 s1 0 0) (n := w4 s0 s1 s2 0) (st_w (i := 2) (v := s2) (n := w4 s0 s1 s2 0) 83 rfl rfl) rfl rfl) <|
    oz (k_mv (.inr rfl) rfl) <|
    ok_nil
  clear h; intro β a w h
  refine sym_then ?_
  refine St.rg h [(30, .inl (.int .i64 ((2 : Nat) : Int))), (31, .inl (.int .i64 ((2 : Nat) : Int))), (32, .inr (3, pt 2)), (33, .inl (.int .u64 ((s2 : Nat) : Int))), (34, .inl (.int .u64 ((0 : Nat) : Int))), (35, .inl (.int .u64 ((e1 : Nat) : Int))), (36, .inl (.tuple #[.int .u64 ((r2 : Nat) : Int), .int .u64 ((e2 : Nat) : Int)])), (29, .inl (.tuple #[.int .u64 ((r2 : Nat) : Int), .int .u64 ((e2 : Nat) : Int)])), (37, .inl (.int .u64 ((r2 : Nat) : Int))), (38, .inl (.int .u64 ((e2 : Nat) : Int))), (39, .inr (4, pt 2)), (8, .inl (.int .u64 ((e2 : Nat) : Int)))] [] [(4, w4 r0 r1 r2 0)] [nn, nn, nn, eR 3, nn, eO, nn, nn, nn, nn, nn, eS 4] ?_ ?_
  · exact oc (k_mv (.inl rfl) rfl) <|
    oc (k_mv (.inl rfl) rfl) <|
    oc (k_ia 3 0 2 (.int .i64 ((2 : Nat) : Int)) (fun w q => by kernel_rfl) rfl rfl) <|
    oc (k_ld 3 2 (.int .u64 ((s2 : Nat) : Int)) (c := w4 s0 s1 s2 0) (ld_w (i := 2) (v := s2) 83 rfl) rfl rfl) <|
    oc (k_mv (.inl rfl) rfl) <|
    oc (k_m0 rfl rfl) <|
    oc (k_cx 76 #[.int .u64 ((s2 : Nat) : Int), .int .u64 ((0 : Nat) : Int), .int .u64 ((e1 : Nat) : Int)] (.tuple #[.int .u64 ((r2 : Nat) : Int), .int .u64 ((e2 : Nat) : Int)]) cs2 rfl rfl) <|
    oc (k_mv (.inl rfl) rfl) <|
    oc (k_ex (.tuple #[.int .u64 ((r2 : Nat) : Int), .int .u64 ((e2 : Nat) : Int)]) (.int .u64 ((r2 : Nat) : Int)) rfl rfl) <|
    oc (k_ex (.tuple #[.int .u64 ((r2 : Nat) : Int), .int .u64 ((e2 : Nat) : Int)]) (.int .u64 ((e2 : Nat) : Int)) rfl rfl) <|
    oc (k_ia 4 0 2 (.int .i64 ((2 : Nat) : Int)) (fun w q => by kernel_rfl) rfl rfl) <|
    oc (k_st 4 2 (.int .u64 ((r2 : Nat) : Int)) (c := w4 r0 r1 0 0) (n := w4 r0 r1 r2 0) (st_w (i := 2) (v := r2) (n := w4 r0 r1 r2 0) 83 rfl rfl) rfl rfl) <|
    oz (k_mv (.inr rfl) rfl) <|
    ok_nil
  clear h; intro β a w h
  refine blk_norm ?_
  refine sym_then ?_
  refine St.r0 h [(40, .inl (.int .i64 ((3 : Nat) : Int))), (12, .inl (.int .i64 ((3 : Nat) : Int)))] [eO] ?_ ?_
  · exact oc (k_b0 (.int .i64 ((2 : Nat) : Int)) (.int .i64 ((1 : Nat) : Int)) (.int .i64 ((3 : Nat) : Int)) (ad_k (m := 2) (n := 1) rfl (by decide)) rfl rfl) <|
    oz (k_mv (.inl rfl) rfl) <|
    ok_nil
  clear h; intro β a w h
  refine then_norm ?_
  replace h := St.cs h (s' := [.inl (.agg (w4 a0 a1 a2 a3)), .inl (.agg (w4 b0 b1 b2 b3)), .inr (0, pt 0), .inr (1, pt 0), .inr (2, pt 0), .inr (3, pt 0), .inr (4, pt 0), .inl (.int .u64 ((k2 : Nat) : Int)), .inl (.int .u64 ((e2 : Nat) : Int)), .inl (.int .i64 ((2 : Nat) : Int)), .inl (.int .u64 ((0 : Nat) : Int)), .inl (.agg (w4 6346243789798364141 1503914060200516822 0 1152921504606846976)), .inl (.int .i64 ((3 : Nat) : Int)), .inl (.bool true), .inl (.int .i64 ((2 : Nat) : Int)), .inl (.int .u64 ((0 : Nat) : Int)), .inl (.tuple #[.int .u64 ((s2 : Nat) : Int), .int .u64 ((k2 : Nat) : Int)]), .inl (.int .i64 ((2 : Nat) : Int)), .inl (.int .i64 ((2 : Nat) : Int)), .inr (0, pt 2), .inl (.int .u64 ((a2 : Nat) : Int)), .inl (.int .i64 ((2 : Nat) : Int)), .inr (1, pt 2), .inl (.int .u64 ((b2 : Nat) : Int)), .inl (.int .u64 ((k1 : Nat) : Int)), .inl (.tuple #[.int .u64 ((s2 : Nat) : Int), .int .u64 ((k2 : Nat) : Int)]), .inl (.int .u64 ((s2 : Nat) : Int)), .inl (.int .u64 ((k2 : Nat) : Int)), .inr (3, pt 2), .inl (.tuple #[.int .u64 ((r2 : Nat) : Int), .int .u64 ((e2 : Nat) : Int)]), .inl (.int .i64 ((2 : Nat) : Int)), .inl (.int .i64 ((2 : Nat) : Int)), .inr (3, pt 2), .inl (.int .u64 ((s2 : Nat) : Int)), .inl (.int .u64 ((0 : Nat) : Int)), .inl (.int .u64 ((e1 : Nat) : Int)), .inl (.tuple #[.int .u64 ((r2 : Nat) : Int), .int .u64 ((e2 : Nat) : Int)]), .inl (.int .u64 ((r2 : Nat) : Int)), .inl (.int .u64 ((e2 : Nat) : Int)), .inr (4, pt 2), .inl (.int .i64 ((3 : Nat) : Int)), uu, uu, uu, uu]) (m' := [(w4 a0 a1 a2 a3, 83), (w4 b0 b1 b2 b3, 83), (w4 0 0 0 0, 83), (w4 s0 s1 s2 0, 83), (w4 r0 r1 r2 0, 83)]) (by kernel_rfl) (by kernel_rfl)
  replace h := h.o0
  refine rounds_1 ?_
  refine sym_seq ?_
  refine St.r0 h [] [] ?_ ?_
  · exact oz (k_bi (.int .i64 ((3 : Nat) : Int)) (.int .i64 ((4 : Nat) : Int)) (.bool true) (lt_i (m := ((3 : Nat) : Int)) (n := ((4 : Nat) : Int)) (by decide)) rfl rfl) <|
    ok_nil
  clear h; intro β a w h
  refine sym_then ?_
  refine sym_seq ?_
  refine s_ct h ?_
  refine wp_skip ?_
  refine sym_then ?_
  refine sym_seq ?_
  refine blk_in ?_
  refine sym_seq ?_
  refine St.r0 h [(14, .inl (.int .i64 ((3 : Nat) : Int))), (15, .inl (.int .u64 ((1152921504606846976 : Nat) : Int))), (9, .inl (.int .i64 ((3 : Nat) : Int))), (10, .inl (.int .u64 ((1152921504606846976 : Nat) : Int)))] [] ?_ ?_
  · exact oz (k_mv (.inl rfl) rfl) <|
    oz (k_ix (.agg (w4 6346243789798364141 1503914060200516822 0 1152921504606846976)) (.int .i64 ((3 : Nat) : Int)) (.int .u64 ((1152921504606846976 : Nat) : Int)) (fun w => by kernel_rfl) rfl rfl) <|
    oz (k_mv (.inr rfl) rfl) <|
    oz (k_mv (.inr rfl) rfl) <|
    ok_nil
  clear h; intro β a w h
  refine sym_then ?_
  refine sym_seq ?_
  refine St.rg h [(17, .inl (.int .i64 ((3 : Nat) : Int))), (18, .inl (.int .i64 ((3 : Nat) : Int))), (19, .inr (0, pt 3)), (20, .inl (.int .u64 ((a3 : Nat) : Int))), (21, .inl (.int .i64 ((3 : Nat) : Int))), (22, .inr (1, pt 3)), (23, .inl (.int .u64 ((b3 : Nat) : Int))), (24, .inl (.int .u64 ((k2 : Nat) : Int))), (25, .inl (.tuple #[.int .u64 ((s3 : Nat) : Int), .int .u64 ((k3 : Nat) : Int)])), (16, .inl (.tuple #[.int .u64 ((s3 : Nat) : Int), .int .u64 ((k3 : Nat) : Int)])), (26, .inl (.int .u64 ((s3 : Nat) : Int))), (27, .inl (.int .u64 ((k3 : Nat) : Int))), (28, .inr (3, pt 3)), (7, .inl (.int .u64 ((k3 : Nat) : Int)))] [] [(3, w4 s0 s1 s2 s3)] [nn, nn, nn, eR 0, nn, nn, eR 1, eO, nn, nn, nn, nn, nn, eS 3] ?_ ?_
  · exact oc (k_mv (.inl rfl) rfl) <|
    oc (k_mv (.inl rfl) rfl) <|
    oc (k_ia 0 0 3 (.int .i64 ((3 : Nat) : Int)) (fun w q => by kernel_rfl) rfl rfl) <|
    oc (k_ld 0 3 (.int .u64 ((a3 : Nat) : Int)) (c := w4 a0 a1 a2 a3) (ld_w (i := 3) (v := a3) 83 rfl) rfl rfl) <|
    oc (k_mv (.inl rfl) rfl) <|
    oc (k_ia 1 0 3 (.int .i64 ((3 : Nat) : Int)) (fun w q => by kernel_rfl) rfl rfl) <|
    oc (k_ld 1 3 (.int .u64 ((b3 : Nat) : Int)) (c := w4 b0 b1 b2 b3) (ld_w (i := 3) (v := b3) 83 rfl) rfl rfl) <|
    oc (k_m0 rfl rfl) <|
    oc (k_cx 75 #[.int .u64 ((a3 : Nat) : Int), .int .u64 ((b3 : Nat) : Int), .int .u64 ((k2 : Nat) : Int)] (.tuple #[.int .u64 ((s3 : Nat) : Int), .int .u64 ((k3 : Nat) : Int)]) ca3 rfl rfl) <|
    oc (k_mv (.inl rfl) rfl) <|
    oc (k_ex (.tuple #[.int .u64 ((s3 : Nat) : Int), .int .u64 ((k3 : Nat) : Int)]) (.int .u64 ((s3 : Nat) : Int)) rfl rfl) <|
    oc (k_ex (.tuple #[.int .u64 ((s3 : Nat) : Int), .int .u64 ((k3 : Nat) : Int)]) (.int .u64 ((k3 : Nat) : Int)) rfl rfl) <|
    oc (k_ia 3 0 3 (.int .i64 ((3 : Nat) : Int)) (fun w q => by kernel_rfl) rfl rfl) <|
    oc (k_st 3 3 (.int .u64 ((s3 : Nat) : Int)) (c := w4 s0 s1 s2 0) (n := w4 s0 s1 s2 s3) (st_w (i := 3) (v := s3) (n := w4 s0 s1 s2 s3) 83 rfl rfl) rfl rfl) <|
    oz (k_mv (.inr rfl) rfl) <|
    ok_nil
  clear h; intro β a w h
  refine sym_then ?_
  refine St.rg h [(30, .inl (.int .i64 ((3 : Nat) : Int))), (31, .inl (.int .i64 ((3 : Nat) : Int))), (32, .inr (3, pt 3)), (33, .inl (.int .u64 ((s3 : Nat) : Int))), (34, .inl (.int .u64 ((1152921504606846976 : Nat) : Int))), (35, .inl (.int .u64 ((e2 : Nat) : Int))), (36, .inl (.tuple #[.int .u64 ((r3 : Nat) : Int), .int .u64 ((e3 : Nat) : Int)])), (29, .inl (.tuple #[.int .u64 ((r3 : Nat) : Int), .int .u64 ((e3 : Nat) : Int)])), (37, .inl (.int .u64 ((r3 : Nat) : Int))), (38, .inl (.int .u64 ((e3 : Nat) : Int))), (39, .inr (4, pt 3)), (8, .inl (.int .u64 ((e3 : Nat) : Int)))] [] [(4, w4 r0 r1 r2 r3)] [nn, nn, nn, eR 3, nn, eO, nn, nn, nn, nn, nn, eS 4] ?_ ?_
  · exact oc (k_mv (.inl rfl) rfl) <|
    oc (k_mv (.inl rfl) rfl) <|
    oc (k_ia 3 0 3 (.int .i64 ((3 : Nat) : Int)) (fun w q => by kernel_rfl) rfl rfl) <|
    oc (k_ld 3 3 (.int .u64 ((s3 : Nat) : Int)) (c := w4 s0 s1 s2 s3) (ld_w (i := 3) (v := s3) 83 rfl) rfl rfl) <|
    oc (k_mv (.inl rfl) rfl) <|
    oc (k_m0 rfl rfl) <|
    oc (k_cx 76 #[.int .u64 ((s3 : Nat) : Int), .int .u64 ((1152921504606846976 : Nat) : Int), .int .u64 ((e2 : Nat) : Int)] (.tuple #[.int .u64 ((r3 : Nat) : Int), .int .u64 ((e3 : Nat) : Int)]) cs3 rfl rfl) <|
    oc (k_mv (.inl rfl) rfl) <|
    oc (k_ex (.tuple #[.int .u64 ((r3 : Nat) : Int), .int .u64 ((e3 : Nat) : Int)]) (.int .u64 ((r3 : Nat) : Int)) rfl rfl) <|
    oc (k_ex (.tuple #[.int .u64 ((r3 : Nat) : Int), .int .u64 ((e3 : Nat) : Int)]) (.int .u64 ((e3 : Nat) : Int)) rfl rfl) <|
    oc (k_ia 4 0 3 (.int .i64 ((3 : Nat) : Int)) (fun w q => by kernel_rfl) rfl rfl) <|
    oc (k_st 4 3 (.int .u64 ((r3 : Nat) : Int)) (c := w4 r0 r1 r2 0) (n := w4 r0 r1 r2 r3) (st_w (i := 3) (v := r3) (n := w4 r0 r1 r2 r3) 83 rfl rfl) rfl rfl) <|
    oz (k_mv (.inr rfl) rfl) <|
    ok_nil
  clear h; intro β a w h
  refine blk_norm ?_
  refine sym_then ?_
  refine St.r0 h [(40, .inl (.int .i64 ((4 : Nat) : Int))), (12, .inl (.int .i64 ((4 : Nat) : Int)))] [eO] ?_ ?_
  · exact oc (k_b0 (.int .i64 ((3 : Nat) : Int)) (.int .i64 ((1 : Nat) : Int)) (.int .i64 ((4 : Nat) : Int)) (ad_k (m := 3) (n := 1) rfl (by decide)) rfl rfl) <|
    oz (k_mv (.inl rfl) rfl) <|
    ok_nil
  clear h; intro β a w h
  refine then_norm ?_
  replace h := St.cs h (s' := [.inl (.agg (w4 a0 a1 a2 a3)), .inl (.agg (w4 b0 b1 b2 b3)), .inr (0, pt 0), .inr (1, pt 0), .inr (2, pt 0), .inr (3, pt 0), .inr (4, pt 0), .inl (.int .u64 ((k3 : Nat) : Int)), .inl (.int .u64 ((e3 : Nat) : Int)), .inl (.int .i64 ((3 : Nat) : Int)), .inl (.int .u64 ((1152921504606846976 : Nat) : Int)), .inl (.agg (w4 6346243789798364141 1503914060200516822 0 1152921504606846976)), .inl (.int .i64 ((4 : Nat) : Int)), .inl (.bool true), .inl (.int .i64 ((3 : Nat) : Int)), .inl (.int .u64 ((1152921504606846976 : Nat) : Int)), .inl (.tuple #[.int .u64 ((s3 : Nat) : Int), .int .u64 ((k3 : Nat) : Int)]), .inl (.int .i64 ((3 : Nat) : Int)), .inl (.int .i64 ((3 : Nat) : Int)), .inr (0, pt 3), .inl (.int .u64 ((a3 : Nat) : Int)), .inl (.int .i64 ((3 : Nat) : Int)), .inr (1, pt 3), .inl (.int .u64 ((b3 : Nat) : Int)), .inl (.int .u64 ((k2 : Nat) : Int)), .inl (.tuple #[.int .u64 ((s3 : Nat) : Int), .int .u64 ((k3 : Nat) : Int)]), .inl (.int .u64 ((s3 : Nat) : Int)), .inl (.int .u64 ((k3 : Nat) : Int)), .inr (3, pt 3), .inl (.tuple #[.int .u64 ((r3 : Nat) : Int), .int .u64 ((e3 : Nat) : Int)]), .inl (.int .i64 ((3 : Nat) : Int)), .inl (.int .i64 ((3 : Nat) : Int)), .inr (3, pt 3), .inl (.int .u64 ((s3 : Nat) : Int)), .inl (.int .u64 ((1152921504606846976 : Nat) : Int)), .inl (.int .u64 ((e2 : Nat) : Int)), .inl (.tuple #[.int .u64 ((r3 : Nat) : Int), .int .u64 ((e3 : Nat) : Int)]), .inl (.int .u64 ((r3 : Nat) : Int)), .inl (.int .u64 ((e3 : Nat) : Int)), .inr (4, pt 3), .inl (.int .i64 ((4 : Nat) : Int)), uu, uu, uu, uu]) (m' := [(w4 a0 a1 a2 a3, 83), (w4 b0 b1 b2 b3, 83), (w4 0 0 0 0, 83), (w4 s0 s1 s2 s3, 83), (w4 r0 r1 r2 r3, 83)]) (by kernel_rfl) (by kernel_rfl)
  replace h := h.o0
  refine rounds_1 ?_
  refine sym_seq ?_
  refine St.r0 h [(13, .inl (.bool false))] [] ?_ ?_
  · exact oz (k_bi (.int .i64 ((4 : Nat) : Int)) (.int .i64 ((4 : Nat) : Int)) (.bool false) (lt_i (m := ((4 : Nat) : Int)) (n := ((4 : Nat) : Int)) (by decide)) rfl rfl) <|
    ok_nil
  clear h; intro β a w h
  refine sym_then ?_
  refine sym_seq ?_
  refine s_cf h ?_
  refine wp_exit ?_
  refine then_exit ?_
  refine then_exit ?_
  refine blk_exit ?_
  refine sym_then ?_
  refine sym_seq ?_
  refine sym_seq ?_
  refine St.r0 h [(41, .inl (.int .u64 ((e3 : Nat) : Int))), (42, .inl (.bool true))] [] ?_ ?_
  · exact oz (k_mv (.inl rfl) rfl) <|
    oz (k_bi (.int .u64 ((e3 : Nat) : Int)) (.int .u64 ((1 : Nat) : Int)) (.bool true) (eq_u64 (m := e3) (n := 1) (decide_eq_true hb)) rfl rfl) <|
    ok_nil
  clear h; intro β a w h
  refine sym_then ?_
  refine s_ct h ?_
  refine sym_seq ?_
  refine St.rg h [(43, .inl (.agg (w4 s0 s1 s2 s3)))] [] [(2, w4 s0 s1 s2 s3)] [eR 3, eS 2] ?_ ?_
  · exact oc (k_ld 3 0 (.agg (w4 s0 s1 s2 s3)) (c := w4 s0 s1 s2 s3) (ldW 83) rfl rfl) <|
    oc (k_st 2 0 (.agg (w4 s0 s1 s2 s3)) (c := w4 0 0 0 0) (n := w4 s0 s1 s2 s3) (stW 83 rfl) rfl rfl) <|
    ok_nil
  clear h; intro β a w h
  refine sym_then ?_
  refine wp_ret ?_
  refine then_ret ?_
  exact s_rc (b := 2) (t0 := 83) (c := w4 s0 s1 s2 s3) h Try.results52 Try.underlying83 (fun hb => ⟨rfl, hb⟩) (by kernel_rfl)

set_option maxHeartbeats 4000000 in
theorem pls_r {a0 a1 a2 a3 b0 b1 b2 b3 s0 s1 s2 s3 k0 k1 k2 k3 r0 r1 r2 r3 e0 e1 e2 e3 : Nat} (ca0 : (∀ w, (callFunc 75 #[.int .u64 ((a0 : Nat) : Int), .int .u64 ((b0 : Nat) : Int), .int .u64 ((0 : Nat) : Int)]).run Try.prog w = .ok (.value (.tuple #[.int .u64 ((s0 : Nat) : Int), .int .u64 ((k0 : Nat) : Int)])) w)) (ca1 : (∀ w, (callFunc 75 #[.int .u64 ((a1 : Nat) : Int), .int .u64 ((b1 : Nat) : Int), .int .u64 ((k0 : Nat) : Int)]).run Try.prog w = .ok (.value (.tuple #[.int .u64 ((s1 : Nat) : Int), .int .u64 ((k1 : Nat) : Int)])) w)) (ca2 : (∀ w, (callFunc 75 #[.int .u64 ((a2 : Nat) : Int), .int .u64 ((b2 : Nat) : Int), .int .u64 ((k1 : Nat) : Int)]).run Try.prog w = .ok (.value (.tuple #[.int .u64 ((s2 : Nat) : Int), .int .u64 ((k2 : Nat) : Int)])) w)) (ca3 : (∀ w, (callFunc 75 #[.int .u64 ((a3 : Nat) : Int), .int .u64 ((b3 : Nat) : Int), .int .u64 ((k2 : Nat) : Int)]).run Try.prog w = .ok (.value (.tuple #[.int .u64 ((s3 : Nat) : Int), .int .u64 ((k3 : Nat) : Int)])) w))
    (cs0 : (∀ w, (callFunc 76 #[.int .u64 ((s0 : Nat) : Int), .int .u64 ((6346243789798364141 : Nat) : Int), .int .u64 ((0 : Nat) : Int)]).run Try.prog w = .ok (.value (.tuple #[.int .u64 ((r0 : Nat) : Int), .int .u64 ((e0 : Nat) : Int)])) w)) (cs1 : (∀ w, (callFunc 76 #[.int .u64 ((s1 : Nat) : Int), .int .u64 ((1503914060200516822 : Nat) : Int), .int .u64 ((e0 : Nat) : Int)]).run Try.prog w = .ok (.value (.tuple #[.int .u64 ((r1 : Nat) : Int), .int .u64 ((e1 : Nat) : Int)])) w)) (cs2 : (∀ w, (callFunc 76 #[.int .u64 ((s2 : Nat) : Int), .int .u64 ((0 : Nat) : Int), .int .u64 ((e1 : Nat) : Int)]).run Try.prog w = .ok (.value (.tuple #[.int .u64 ((r2 : Nat) : Int), .int .u64 ((e2 : Nat) : Int)])) w)) (cs3 : (∀ w, (callFunc 76 #[.int .u64 ((s3 : Nat) : Int), .int .u64 ((1152921504606846976 : Nat) : Int), .int .u64 ((e2 : Nat) : Int)]).run Try.prog w = .ok (.value (.tuple #[.int .u64 ((r3 : Nat) : Int), .int .u64 ((e3 : Nat) : Int)])) w))
    (hb : ¬ e3 = 1) (W0 : World) : Calls Try.prog 52 #[.agg (w4 a0 a1 a2 a3), .agg (w4 b0 b1 b2 b3)] W0 fun e w' => e = .returned (.agg (w4 r0 r1 r2 r3)) ∧ Below W0.heap.size W0 w' := by
  refine s_in Try.func52 Try.ntmps52 rfl [.inl (.agg (w4 a0 a1 a2 a3)), .inl (.agg (w4 b0 b1 b2 b3))] ?_
  intro β a h
  refine sym_seq ?_
  refine St.rg h [(2, .inr (0, pt 0)), (3, .inr (1, pt 0)), (4, .inr (2, pt 0))] [(w4 a0 a1 a2 a3, 83), (w4 b0 b1 b2 b3, 83), (w4 0 0 0 0, 83)] [] [eN 0, eN 1, eN 2] ?_ ?_
  · exact oc (k_bx 0 (.agg (w4 a0 a1 a2 a3)) bxW rfl rfl) <|
    oc (k_bx 1 (.agg (w4 b0 b1 b2 b3)) bxW rfl rfl) <|
    oc (k_al 2 alW rfl rfl) <|
    ok_nil
  clear h; intro β a w h
  refine sym_then ?_
  refine sym_seq ?_
  refine St.rg h [(5, .inr (3, pt 0)), (6, .inr (4, pt 0))] [(w4 0 0 0 0, 83), (w4 0 0 0 0, 83)] [] [eN 3, eN 4] ?_ ?_
  · exact oc (k_al 3 alW rfl rfl) <|
    oc (k_al 4 alW rfl rfl) <|
    ok_nil
  clear h; intro β a w h
  refine sym_then ?_
  refine sym_seq ?_
  refine St.r0 h [(7, .inl (.int .u64 ((0 : Nat) : Int))), (8, .inl (.int .u64 ((0 : Nat) : Int)))] [] ?_ ?_
  · exact oz (k_mv (.inr rfl) rfl) <|
    oz (k_mv (.inr rfl) rfl) <|
    ok_nil
  clear h; intro β a w h
  refine sym_then ?_
  refine sym_seq ?_
  refine sym_seq ?_
  refine St.r0 h [(11, .inl (.agg (w4 6346243789798364141 1503914060200516822 0 1152921504606846976))), (12, .inl (.int .i64 ((0 : Nat) : Int)))] [] ?_ ?_
  · exact oz (k_ca 74 #[] (.agg (w4 6346243789798364141 1503914060200516822 0 1152921504606846976)) order_r rfl rfl) <|
    oz (k_mv (.inl rfl) rfl) <|
    ok_nil
  clear h; intro β a w h
  refine sym_then ?_
  refine blk_in ?_
  refine wp_loop_rounds 5 ?_
  refine rounds_1 ?_
  refine sym_seq ?_
  refine St.r0 h [(13, .inl (.bool true))] [] ?_ ?_
  · exact oz (k_bi (.int .i64 ((0 : Nat) : Int)) (.int .i64 ((4 : Nat) : Int)) (.bool true) (lt_i (m := ((0 : Nat) : Int)) (n := ((4 : Nat) : Int)) (by decide)) rfl rfl) <|
    ok_nil
  clear h; intro β a w h
  refine sym_then ?_
  refine sym_seq ?_
  refine s_ct h ?_
  refine wp_skip ?_
  refine sym_then ?_
  refine sym_seq ?_
  refine blk_in ?_
  refine sym_seq ?_
  refine St.r0 h [(14, .inl (.int .i64 ((0 : Nat) : Int))), (15, .inl (.int .u64 ((6346243789798364141 : Nat) : Int))), (9, .inl (.int .i64 ((0 : Nat) : Int))), (10, .inl (.int .u64 ((6346243789798364141 : Nat) : Int)))] [] ?_ ?_
  · exact oz (k_mv (.inl rfl) rfl) <|
    oz (k_ix (.agg (w4 6346243789798364141 1503914060200516822 0 1152921504606846976)) (.int .i64 ((0 : Nat) : Int)) (.int .u64 ((6346243789798364141 : Nat) : Int)) (fun w => by kernel_rfl) rfl rfl) <|
    oz (k_mv (.inr rfl) rfl) <|
    oz (k_mv (.inr rfl) rfl) <|
    ok_nil
  clear h; intro β a w h
  refine sym_then ?_
  refine sym_seq ?_
  refine St.rg h [(17, .inl (.int .i64 ((0 : Nat) : Int))), (18, .inl (.int .i64 ((0 : Nat) : Int))), (19, .inr (0, pt 0)), (20, .inl (.int .u64 ((a0 : Nat) : Int))), (21, .inl (.int .i64 ((0 : Nat) : Int))), (22, .inr (1, pt 0)), (23, .inl (.int .u64 ((b0 : Nat) : Int))), (24, .inl (.int .u64 ((0 : Nat) : Int))), (25, .inl (.tuple #[.int .u64 ((s0 : Nat) : Int), .int .u64 ((k0 : Nat) : Int)])), (16, .inl (.tuple #[.int .u64 ((s0 : Nat) : Int), .int .u64 ((k0 : Nat) : Int)])), (26, .inl (.int .u64 ((s0 : Nat) : Int))), (27, .inl (.int .u64 ((k0 : Nat) : Int))), (28, .inr (3, pt 0)), (7, .inl (.int .u64 ((k0 : Nat) : Int)))] [] [(3, w4 s0 0 0 0)] [nn, nn, nn, eR 0, nn, nn, eR 1, eO, nn, nn, nn, nn, nn, eS 3] ?_ ?_
  · exact oc (k_mv (.inl rfl) rfl) <|
    oc (k_mv (.inl rfl) rfl) <|
    oc (k_ia 0 0 0 (.int .i64 ((0 : Nat) : Int)) (fun w q => by kernel_rfl) rfl rfl) <|
    oc (k_ld 0 0 (.int .u64 ((a0 : Nat) : Int)) (c := w4 a0 a1 a2 a3) (ld_w (i := 0) (v := a0) 83 rfl) rfl rfl) <|
    oc (k_mv (.inl rfl) rfl) <|
    oc (k_ia 1 0 0 (.int .i64 ((0 : Nat) : Int)) (fun w q => by kernel_rfl) rfl rfl) <|
    oc (k_ld 1 0 (.int .u64 ((b0 : Nat) : Int)) (c := w4 b0 b1 b2 b3) (ld_w (i := 0) (v := b0) 83 rfl) rfl rfl) <|
    oc (k_m0 rfl rfl) <|
    oc (k_cx 75 #[.int .u64 ((a0 : Nat) : Int), .int .u64 ((b0 : Nat) : Int), .int .u64 ((0 : Nat) : Int)] (.tuple #[.int .u64 ((s0 : Nat) : Int), .int .u64 ((k0 : Nat) : Int)]) ca0 rfl rfl) <|
    oc (k_mv (.inl rfl) rfl) <|
    oc (k_ex (.tuple #[.int .u64 ((s0 : Nat) : Int), .int .u64 ((k0 : Nat) : Int)]) (.int .u64 ((s0 : Nat) : Int)) rfl rfl) <|
    oc (k_ex (.tuple #[.int .u64 ((s0 : Nat) : Int), .int .u64 ((k0 : Nat) : Int)]) (.int .u64 ((k0 : Nat) : Int)) rfl rfl) <|
    oc (k_ia 3 0 0 (.int .i64 ((0 : Nat) : Int)) (fun w q => by kernel_rfl) rfl rfl) <|
    oc (k_st 3 0 (.int .u64 ((s0 : Nat) : Int)) (c := w4 0 0 0 0) (n := w4 s0 0 0 0) (st_w (i := 0) (v := s0) (n := w4 s0 0 0 0) 83 rfl rfl) rfl rfl) <|
    oz (k_mv (.inr rfl) rfl) <|
    ok_nil
  clear h; intro β a w h
  refine sym_then ?_
  refine St.rg h [(30, .inl (.int .i64 ((0 : Nat) : Int))), (31, .inl (.int .i64 ((0 : Nat) : Int))), (32, .inr (3, pt 0)), (33, .inl (.int .u64 ((s0 : Nat) : Int))), (34, .inl (.int .u64 ((6346243789798364141 : Nat) : Int))), (35, .inl (.int .u64 ((0 : Nat) : Int))), (36, .inl (.tuple #[.int .u64 ((r0 : Nat) : Int), .int .u64 ((e0 : Nat) : Int)])), (29, .inl (.tuple #[.int .u64 ((r0 : Nat) : Int), .int .u64 ((e0 : Nat) : Int)])), (37, .inl (.int .u64 ((r0 : Nat) : Int))), (38, .inl (.int .u64 ((e0 : Nat) : Int))), (39, .inr (4, pt 0)), (8, .inl (.int .u64 ((e0 : Nat) : Int)))] [] [(4, w4 r0 0 0 0)] [nn, nn, nn, eR 3, nn, eO, nn, nn, nn, nn, nn, eS 4] ?_ ?_
  · exact oc (k_mv (.inl rfl) rfl) <|
    oc (k_mv (.inl rfl) rfl) <|
    oc (k_ia 3 0 0 (.int .i64 ((0 : Nat) : Int)) (fun w q => by kernel_rfl) rfl rfl) <|
    oc (k_ld 3 0 (.int .u64 ((s0 : Nat) : Int)) (c := w4 s0 0 0 0) (ld_w (i := 0) (v := s0) 83 rfl) rfl rfl) <|
    oc (k_mv (.inl rfl) rfl) <|
    oc (k_m0 rfl rfl) <|
    oc (k_cx 76 #[.int .u64 ((s0 : Nat) : Int), .int .u64 ((6346243789798364141 : Nat) : Int), .int .u64 ((0 : Nat) : Int)] (.tuple #[.int .u64 ((r0 : Nat) : Int), .int .u64 ((e0 : Nat) : Int)]) cs0 rfl rfl) <|
    oc (k_mv (.inl rfl) rfl) <|
    oc (k_ex (.tuple #[.int .u64 ((r0 : Nat) : Int), .int .u64 ((e0 : Nat) : Int)]) (.int .u64 ((r0 : Nat) : Int)) rfl rfl) <|
    oc (k_ex (.tuple #[.int .u64 ((r0 : Nat) : Int), .int .u64 ((e0 : Nat) : Int)]) (.int .u64 ((e0 : Nat) : Int)) rfl rfl) <|
    oc (k_ia 4 0 0 (.int .i64 ((0 : Nat) : Int)) (fun w q => by kernel_rfl) rfl rfl) <|
    oc (k_st 4 0 (.int .u64 ((r0 : Nat) : Int)) (c := w4 0 0 0 0) (n := w4 r0 0 0 0) (st_w (i := 0) (v := r0) (n := w4 r0 0 0 0) 83 rfl rfl) rfl rfl) <|
    oz (k_mv (.inr rfl) rfl) <|
    ok_nil
  clear h; intro β a w h
  refine blk_norm ?_
  refine sym_then ?_
  refine St.r0 h [(40, .inl (.int .i64 ((1 : Nat) : Int))), (12, .inl (.int .i64 ((1 : Nat) : Int)))] [eO] ?_ ?_
  · exact oc (k_b0 (.int .i64 ((0 : Nat) : Int)) (.int .i64 ((1 : Nat) : Int)) (.int .i64 ((1 : Nat) : Int)) (ad_k (m := 0) (n := 1) rfl (by decide)) rfl rfl) <|
    oz (k_mv (.inl rfl) rfl) <|
    ok_nil
  clear h; intro β a w h
  refine then_norm ?_
  replace h := St.cs h (s' := [.inl (.agg (w4 a0 a1 a2 a3)), .inl (.agg (w4 b0 b1 b2 b3)), .inr (0, pt 0), .inr (1, pt 0), .inr (2, pt 0), .inr (3, pt 0), .inr (4, pt 0), .inl (.int .u64 ((k0 : Nat) : Int)), .inl (.int .u64 ((e0 : Nat) : Int)), .inl (.int .i64 ((0 : Nat) : Int)), .inl (.int .u64 ((6346243789798364141 : Nat) : Int)), .inl (.agg (w4 6346243789798364141 1503914060200516822 0 1152921504606846976)), .inl (.int .i64 ((1 : Nat) : Int)), .inl (.bool true), .inl (.int .i64 ((0 : Nat) : Int)), .inl (.int .u64 ((6346243789798364141 : Nat) : Int)), .inl (.tuple #[.int .u64 ((s0 : Nat) : Int), .int .u64 ((k0 : Nat) : Int)]), .inl (.int .i64 ((0 : Nat) : Int)), .inl (.int .i64 ((0 : Nat) : Int)), .inr (0, pt 0), .inl (.int .u64 ((a0 : Nat) : Int)), .inl (.int .i64 ((0 : Nat) : Int)), .inr (1, pt 0), .inl (.int .u64 ((b0 : Nat) : Int)), .inl (.int .u64 ((0 : Nat) : Int)), .inl (.tuple #[.int .u64 ((s0 : Nat) : Int), .int .u64 ((k0 : Nat) : Int)]), .inl (.int .u64 ((s0 : Nat) : Int)), .inl (.int .u64 ((k0 : Nat) : Int)), .inr (3, pt 0), .inl (.tuple #[.int .u64 ((r0 : Nat) : Int), .int .u64 ((e0 : Nat) : Int)]), .inl (.int .i64 ((0 : Nat) : Int)), .inl (.int .i64 ((0 : Nat) : Int)), .inr (3, pt 0), .inl (.int .u64 ((s0 : Nat) : Int)), .inl (.int .u64 ((6346243789798364141 : Nat) : Int)), .inl (.int .u64 ((0 : Nat) : Int)), .inl (.tuple #[.int .u64 ((r0 : Nat) : Int), .int .u64 ((e0 : Nat) : Int)]), .inl (.int .u64 ((r0 : Nat) : Int)), .inl (.int .u64 ((e0 : Nat) : Int)), .inr (4, pt 0), .inl (.int .i64 ((1 : Nat) : Int)), uu, uu, uu, uu]) (m' := [(w4 a0 a1 a2 a3, 83), (w4 b0 b1 b2 b3, 83), (w4 0 0 0 0, 83), (w4 s0 0 0 0, 83), (w4 r0 0 0 0, 83)]) (by kernel_rfl) (by kernel_rfl)
  replace h := h.o0
  refine rounds_1 ?_
  refine sym_seq ?_
  refine St.r0 h [] [] ?_ ?_
  · exact oz (k_bi (.int .i64 ((1 : Nat) : Int)) (.int .i64 ((4 : Nat) : Int)) (.bool true) (lt_i (m := ((1 : Nat) : Int)) (n := ((4 : Nat) : Int)) (by decide)) rfl rfl) <|
    ok_nil
  clear h; intro β a w h
  refine sym_then ?_
  refine sym_seq ?_
  refine s_ct h ?_
  refine wp_skip ?_
  refine sym_then ?_
  refine sym_seq ?_
  refine blk_in ?_
  refine sym_seq ?_
  refine St.r0 h [(14, .inl (.int .i64 ((1 : Nat) : Int))), (15, .inl (.int .u64 ((1503914060200516822 : Nat) : Int))), (9, .inl (.int .i64 ((1 : Nat) : Int))), (10, .inl (.int .u64 ((1503914060200516822 : Nat) : Int)))] [] ?_ ?_
  · exact oz (k_mv (.inl rfl) rfl) <|
    oz (k_ix (.agg (w4 6346243789798364141 1503914060200516822 0 1152921504606846976)) (.int .i64 ((1 : Nat) : Int)) (.int .u64 ((1503914060200516822 : Nat) : Int)) (fun w => by kernel_rfl) rfl rfl) <|
    oz (k_mv (.inr rfl) rfl) <|
    oz (k_mv (.inr rfl) rfl) <|
    ok_nil
  clear h; intro β a w h
  refine sym_then ?_
  refine sym_seq ?_
  refine St.rg h [(17, .inl (.int .i64 ((1 : Nat) : Int))), (18, .inl (.int .i64 ((1 : Nat) : Int))), (19, .inr (0, pt 1)), (20, .inl (.int .u64 ((a1 : Nat) : Int))), (21, .inl (.int .i64 ((1 : Nat) : Int))), (22, .inr (1, pt 1)), (23, .inl (.int .u64 ((b1 : Nat) : Int))), (24, .inl (.int .u64 ((k0 : Nat) : Int))), (25, .inl (.tuple #[.int .u64 ((s1 : Nat) : Int), .int .u64 ((k1 : Nat) : Int)])), (16, .inl (.tuple #[.int .u64 ((s1 : Nat) : Int), .int .u64 ((k1 : Nat) : Int)])), (26, .inl (.int .u64 ((s1 : Nat) : Int))), (27, .inl (.int .u64 ((k1 : Nat) : Int))), (28, .inr (3, pt 1)), (7, .inl (.int .u64 ((k1 : Nat) : Int)))] [] [(3, w4 s0 s1 0 0)] [nn, nn, nn, eR 0, nn, nn, eR 1, eO, nn, nn, nn, nn, nn, eS 3] ?_ ?_
  · exact oc (k_mv (.inl rfl) rfl) <|
    oc (k_mv (.inl rfl) rfl) <|
    oc (k_ia 0 0 1 (.int .i64 ((1 : Nat) : Int)) (fun w q => by kernel_rfl) rfl rfl) <|
    oc (k_ld 0 1 (.int .u64 ((a1 : Nat) : Int)) (c := w4 a0 a1 a2 a3) (ld_w (i := 1) (v := a1) 83 rfl) rfl rfl) <|
    oc (k_mv (.inl rfl) rfl) <|
    oc (k_ia 1 0 1 (.int .i64 ((1 : Nat) : Int)) (fun w q => by kernel_rfl) rfl rfl) <|
    oc (k_ld 1 1 (.int .u64 ((b1 : Nat) : Int)) (c := w4 b0 b1 b2 b3) (ld_w (i := 1) (v := b1) 83 rfl) rfl rfl) <|
    oc (k_m0 rfl rfl) <|
    oc (k_cx 75 #[.int .u64 ((a1 : Nat) : Int), .int .u64 ((b1 : Nat) : Int), .int .u64 ((k0 : Nat) : Int)] (.tuple #[.int .u64 ((s1 : Nat) : Int), .int .u64 ((k1 : Nat) : Int)]) ca1 rfl rfl) <|
    oc (k_mv (.inl rfl) rfl) <|
    oc (k_ex (.tuple #[.int .u64 ((s1 : Nat) : Int), .int .u64 ((k1 : Nat) : Int)]) (.int .u64 ((s1 : Nat) : Int)) rfl rfl) <|
    oc (k_ex (.tuple #[.int .u64 ((s1 : Nat) : Int), .int .u64 ((k1 : Nat) : Int)]) (.int .u64 ((k1 : Nat) : Int)) rfl rfl) <|
    oc (k_ia 3 0 1 (.int .i64 ((1 : Nat) : Int)) (fun w q => by kernel_rfl) rfl rfl) <|
    oc (k_st 3 1 (.int .u64 ((s1 : Nat) : Int)) (c := w4 s0 0 0 0) (n := w4 s0 s1 0 0) (st_w (i := 1) (v := s1) (n := w4 s0 s1 0 0) 83 rfl rfl) rfl rfl) <|
    oz (k_mv (.inr rfl) rfl) <|
    ok_nil
  clear h; intro β a w h
  refine sym_then ?_
  refine St.rg h [(30, .inl (.int .i64 ((1 : Nat) : Int))), (31, .inl (.int .i64 ((1 : Nat) : Int))), (32, .inr (3, pt 1)), (33, .inl (.int .u64 ((s1 : Nat) : Int))), (34, .inl (.int .u64 ((1503914060200516822 : Nat) : Int))), (35, .inl (.int .u64 ((e0 : Nat) : Int))), (36, .inl (.tuple #[.int .u64 ((r1 : Nat) : Int), .int .u64 ((e1 : Nat) : Int)])), (29, .inl (.tuple #[.int .u64 ((r1 : Nat) : Int), .int .u64 ((e1 : Nat) : Int)])), (37, .inl (.int .u64 ((r1 : Nat) : Int))), (38, .inl (.int .u64 ((e1 : Nat) : Int))), (39, .inr (4, pt 1)), (8, .inl (.int .u64 ((e1 : Nat) : Int)))] [] [(4, w4 r0 r1 0 0)] [nn, nn, nn, eR 3, nn, eO, nn, nn, nn, nn, nn, eS 4] ?_ ?_
  · exact oc (k_mv (.inl rfl) rfl) <|
    oc (k_mv (.inl rfl) rfl) <|
    oc (k_ia 3 0 1 (.int .i64 ((1 : Nat) : Int)) (fun w q => by kernel_rfl) rfl rfl) <|
    oc (k_ld 3 1 (.int .u64 ((s1 : Nat) : Int)) (c := w4 s0 s1 0 0) (ld_w (i := 1) (v := s1) 83 rfl) rfl rfl) <|
    oc (k_mv (.inl rfl) rfl) <|
    oc (k_m0 rfl rfl) <|
    oc (k_cx 76 #[.int .u64 ((s1 : Nat) : Int), .int .u64 ((1503914060200516822 : Nat) : Int), .int .u64 ((e0 : Nat) : Int)] (.tuple #[.int .u64 ((r1 : Nat) : Int), .int .u64 ((e1 : Nat) : Int)]) cs1 rfl rfl) <|
    oc (k_mv (.inl rfl) rfl) <|
    oc (k_ex (.tuple #[.int .u64 ((r1 : Nat) : Int), .int .u64 ((e1 : Nat) : Int)]) (.int .u64 ((r1 : Nat) : Int)) rfl rfl) <|
    oc (k_ex (.tuple #[.int .u64 ((r1 : Nat) : Int), .int .u64 ((e1 : Nat) : Int)]) (.int .u64 ((e1 : Nat) : Int)) rfl rfl) <|
    oc (k_ia 4 0 1 (.int .i64 ((1 : Nat) : Int)) (fun w q => by kernel_rfl) rfl rfl) <|
    oc (k_st 4 1 (.int .u64 ((r1 : Nat) : Int)) (c := w4 r0 0 0 0) (n := w4 r0 r1 0 0) (st_w (i := 1) (v := r1) (n := w4 r0 r1 0 0) 83 rfl rfl) rfl rfl) <|
    oz (k_mv (.inr rfl) rfl) <|
    ok_nil
  clear h; intro β a w h
  refine blk_norm ?_
  refine sym_then ?_
  refine St.r0 h [(40, .inl (.int .i64 ((2 : Nat) : Int))), (12, .inl (.int .i64 ((2 : Nat) : Int)))] [eO] ?_ ?_
  · exact oc (k_b0 (.int .i64 ((1 : Nat) : Int)) (.int .i64 ((1 : Nat) : Int)) (.int .i64 ((2 : Nat) : Int)) (ad_k (m := 1) (n := 1) rfl (by decide)) rfl rfl) <|
    oz (k_mv (.inl rfl) rfl) <|
    ok_nil
  clear h; intro β a w h
  refine then_norm ?_
  replace h := St.cs h (s' := [.inl (.agg (w4 a0 a1 a2 a3)), .inl (.agg (w4 b0 b1 b2 b3)), .inr (0, pt 0), .inr (1, pt 0), .inr (2, pt 0), .inr (3, pt 0), .inr (4, pt 0), .inl (.int .u64 ((k1 : Nat) : Int)), .inl (.int .u64 ((e1 : Nat) : Int)), .inl (.int .i64 ((1 : Nat) : Int)), .inl (.int .u64 ((1503914060200516822 : Nat) : Int)), .inl (.agg (w4 6346243789798364141 1503914060200516822 0 1152921504606846976)), .inl (.int .i64 ((2 : Nat) : Int)), .inl (.bool true), .inl (.int .i64 ((1 : Nat) : Int)), .inl (.int .u64 ((1503914060200516822 : Nat) : Int)), .inl (.tuple #[.int .u64 ((s1 : Nat) : Int), .int .u64 ((k1 : Nat) : Int)]), .inl (.int .i64 ((1 : Nat) : Int)), .inl (.int .i64 ((1 : Nat) : Int)), .inr (0, pt 1), .inl (.int .u64 ((a1 : Nat) : Int)), .inl (.int .i64 ((1 : Nat) : Int)), .inr (1, pt 1), .inl (.int .u64 ((b1 : Nat) : Int)), .inl (.int .u64 ((k0 : Nat) : Int)), .inl (.tuple #[.int .u64 ((s1 : Nat) : Int), .int .u64 ((k1 : Nat) : Int)]), .inl (.int .u64 ((s1 : Nat) : Int)), .inl (.int .u64 ((k1 : Nat) : Int)), .inr (3, pt 1), .inl (.tuple #[.int .u64 ((r1 : Nat) : Int), .int .u64 ((e1 : Nat) : Int)]), .inl (.int .i64 ((1 : Nat) : Int)), .inl (.int .i64 ((1 : Nat) : Int)), .inr (3, pt 1), .inl (.int .u64 ((s1 : Nat) : Int)), .inl (.int .u64 ((1503914060200516822 : Nat) : Int)), .inl (.int .u64 ((e0 : Nat) : Int)), .inl (.tuple #[.int .u64 ((r1 : Nat) : Int), .int .u64 ((e1 : Nat) : Int)]), .inl (.int .u64 ((r1 : Nat) : Int)), .inl (.int .u64 ((e1 : Nat) : Int)), .inr (4, pt 1), .inl (.int .i64 ((2 : Nat) : Int)), uu, uu, uu, uu]) (m' := [(w4 a0 a1 a2 a3, 83), (w4 b0 b1 b2 b3, 83), (w4 0 0 0 0, 83), (w4 s0 s1 0 0, 83), (w4 r0 r1 0 0, 83)]) (by kernel_rfl) (by kernel_rfl)
  replace h := h.o0
  refine rounds_1 ?_
  refine sym_seq ?_
  refine St.r0 h [] [] ?_ ?_
  · exact oz (k_bi (.int .i64 ((2 : Nat) : Int)) (.int .i64 ((4 : Nat) : Int)) (.bool true) (lt_i (m := ((2 : Nat) : Int)) (n := ((4 : Nat) : Int)) (by decide)) rfl rfl) <|
    ok_nil
  clear h; intro β a w h
  refine sym_then ?_
  refine sym_seq ?_
  refine s_ct h ?_
  refine wp_skip ?_
  refine sym_then ?_
  refine sym_seq ?_
  refine blk_in ?_
  refine sym_seq ?_
  refine St.r0 h [(14, .inl (.int .i64 ((2 : Nat) : Int))), (15, .inl (.int .u64 ((0 : Nat) : Int))), (9, .inl (.int .i64 ((2 : Nat) : Int))), (10, .inl (.int .u64 ((0 : Nat) : Int)))] [] ?_ ?_
  · exact oz (k_mv (.inl rfl) rfl) <|
    oz (k_ix (.agg (w4 6346243789798364141 1503914060200516822 0 1152921504606846976)) (.int .i64 ((2 : Nat) : Int)) (.int .u64 ((0 : Nat) : Int)) (fun w => by kernel_rfl) rfl rfl) <|
    oz (k_mv (.inr rfl) rfl) <|
    oz (k_mv (.inr rfl) rfl) <|
    ok_nil
  clear h; intro β a w h
  refine sym_then ?_
  refine sym_seq ?_
  refine St.rg h [(17, .inl (.int .i64 ((2 : Nat) : Int))), (18, .inl (.int .i64 ((2 : Nat) : Int))), (19, .inr (0, pt 2)), (20, .inl (.int .u64 ((a2 : Nat) : Int))), (21, .inl (.int .i64 ((2 : Nat) : Int))), (22, .inr (1, pt 2)), (23, .inl (.int .u64 ((b2 : Nat) : Int))), (24, .inl (.int .u64 ((k1 : Nat) : Int))), (25, .inl (.tuple #[.int .u64 ((s2 : Nat) : Int), .int .u64 ((k2 : Nat) : Int)])), (16, .inl (.tuple #[.int .u64 ((s2 : Nat) : Int), .int .u64 ((k2 : Nat) : Int)])), (26, .inl (.int .u64 ((s2 : Nat) : Int))), (27, .inl (.int .u64 ((k2 : Nat) : Int))), (28, .inr (3, pt 2)), (7, .inl (.int .u64 ((k2 : Nat) : Int)))] [] [(3, w4 s0 s1 s2 0)] [nn, nn, nn, eR 0, nn, nn, eR 1, eO, nn, nn, nn, nn, nn, eS 3] ?_ ?_
  · exact oc (k_mv (.inl rfl) rfl) <|
    oc (k_mv (.inl rfl) rfl) <|
    oc (k_ia 0 0 2 (.int .i64 ((2 : Nat) : Int)) (fun w q => by kernel_rfl) rfl rfl) <|
    oc (k_ld 0 2 (.int .u64 ((a2 : Nat) : Int)) (c := w4 a0 a1 a2 a3) (ld_w (i := 2) (v := a2) 83 rfl) rfl rfl) <|
    oc (k_mv (.inl rfl) rfl) <|
    oc (k_ia 1 0 2 (.int .i64 ((2 : Nat) : Int)) (fun w q => by kernel_rfl) rfl rfl) <|
    oc (k_ld 1 2 (.int .u64 ((b2 : Nat) : Int)) (c := w4 b0 b1 b2 b3) (ld_w (i := 2) (v := b2) 83 rfl) rfl rfl) <|
    oc (k_m0 rfl rfl) <|
    oc (k_cx 75 #[.int .u64 ((a2 : Nat) : Int), .int .u64 ((b2 : Nat) : Int), .int .u64 ((k1 : Nat) : Int)] (.tuple #[.int .u64 ((s2 : Nat) : Int), .int .u64 ((k2 : Nat) : Int)]) ca2 rfl rfl) <|
    oc (k_mv (.inl rfl) rfl) <|
    oc (k_ex (.tuple #[.int .u64 ((s2 : Nat) : Int), .int .u64 ((k2 : Nat) : Int)]) (.int .u64 ((s2 : Nat) : Int)) rfl rfl) <|
    oc (k_ex (.tuple #[.int .u64 ((s2 : Nat) : Int), .int .u64 ((k2 : Nat) : Int)]) (.int .u64 ((k2 : Nat) : Int)) rfl rfl) <|
    oc (k_ia 3 0 2 (.int .i64 ((2 : Nat) : Int)) (fun w q => by kernel_rfl) rfl rfl) <|
    oc (k_st 3 2 (.int .u64 ((s2 : Nat) : Int)) (c := w4 s0 s1 0 0) (n := w4 s0 s1 s2 0) (st_w (i := 2) (v := s2) (n := w4 s0 s1 s2 0) 83 rfl rfl) rfl rfl) <|
    oz (k_mv (.inr rfl) rfl) <|
    ok_nil
  clear h; intro β a w h
  refine sym_then ?_
  refine St.rg h [(30, .inl (.int .i64 ((2 : Nat) : Int))), (31, .inl (.int .i64 ((2 : Nat) : Int))), (32, .inr (3, pt 2)), (33, .inl (.int .u64 ((s2 : Nat) : Int))), (34, .inl (.int .u64 ((0 : Nat) : Int))), (35, .inl (.int .u64 ((e1 : Nat) : Int))), (36, .inl (.tuple #[.int .u64 ((r2 : Nat) : Int), .int .u64 ((e2 : Nat) : Int)])), (29, .inl (.tuple #[.int .u64 ((r2 : Nat) : Int), .int .u64 ((e2 : Nat) : Int)])), (37, .inl (.int .u64 ((r2 : Nat) : Int))), (38, .inl (.int .u64 ((e2 : Nat) : Int))), (39, .inr (4, pt 2)), (8, .inl (.int .u64 ((e2 : Nat) : Int)))] [] [(4, w4 r0 r1 r2 0)] [nn, nn, nn, eR 3, nn, eO, nn, nn, nn, nn, nn, eS 4] ?_ ?_
  · exact oc (k_mv (.inl rfl) rfl) <|
    oc (k_mv (.inl rfl) rfl) <|
    oc (k_ia 3 0 2 (.int .i64 ((2 : Nat) : Int)) (fun w q => by kernel_rfl) rfl rfl) <|
    oc (k_ld 3 2 (.int .u64 ((s2 : Nat) : Int)) (c := w4 s0 s1 s2 0) (ld_w (i := 2) (v := s2) 83 rfl) rfl rfl) <|
    oc (k_mv (.inl rfl) rfl) <|
    oc (k_m0 rfl rfl) <|
    oc (k_cx 76 #[.int .u64 ((s2 : Nat) : Int), .int .u64 ((0 : Nat) : Int), .int .u64 ((e1 : Nat) : Int)] (.tuple #[.int .u64 ((r2 : Nat) : Int), .int .u64 ((e2 : Nat) : Int)]) cs2 rfl rfl) <|
    oc (k_mv (.inl rfl) rfl) <|
    oc (k_ex (.tuple #[.int .u64 ((r2 : Nat) : Int), .int .u64 ((e2 : Nat) : Int)]) (.int .u64 ((r2 : Nat) : Int)) rfl rfl) <|
    oc (k_ex (.tuple #[.int .u64 ((r2 : Nat) : Int), .int .u64 ((e2 : Nat) : Int)]) (.int .u64 ((e2 : Nat) : Int)) rfl rfl) <|
    oc (k_ia 4 0 2 (.int .i64 ((2 : Nat) : Int)) (fun w q => by kernel_rfl) rfl rfl) <|
    oc (k_st 4 2 (.int .u64 ((r2 : Nat) : Int)) (c := w4 r0 r1 0 0) (n := w4 r0 r1 r2 0) (st_w (i := 2) (v := r2) (n := w4 r0 r1 r2 0) 83 rfl rfl) rfl rfl) <|
    oz (k_mv (.inr rfl) rfl) <|
    ok_nil
  clear h; intro β a w h
  refine blk_norm ?_
  refine sym_then ?_
  refine St.r0 h [(40, .inl (.int .i64 ((3 : Nat) : Int))), (12, .inl (.int .i64 ((3 : Nat) : Int)))] [eO] ?_ ?_
  · exact oc (k_b0 (.int .i64 ((2 : Nat) : Int)) (.int .i64 ((1 : Nat) : Int)) (.int .i64 ((3 : Nat) : Int)) (ad_k (m := 2) (n := 1) rfl (by decide)) rfl rfl) <|
    oz (k_mv (.inl rfl) rfl) <|
    ok_nil
  clear h; intro β a w h
  refine then_norm ?_
  replace h := St.cs h (s' := [.inl (.agg (w4 a0 a1 a2 a3)), .inl (.agg (w4 b0 b1 b2 b3)), .inr (0, pt 0), .inr (1, pt 0), .inr (2, pt 0), .inr (3, pt 0), .inr (4, pt 0), .inl (.int .u64 ((k2 : Nat) : Int)), .inl (.int .u64 ((e2 : Nat) : Int)), .inl (.int .i64 ((2 : Nat) : Int)), .inl (.int .u64 ((0 : Nat) : Int)), .inl (.agg (w4 6346243789798364141 1503914060200516822 0 1152921504606846976)), .inl (.int .i64 ((3 : Nat) : Int)), .inl (.bool true), .inl (.int .i64 ((2 : Nat) : Int)), .inl (.int .u64 ((0 : Nat) : Int)), .inl (.tuple #[.int .u64 ((s2 : Nat) : Int), .int .u64 ((k2 : Nat) : Int)]), .inl (.int .i64 ((2 : Nat) : Int)), .inl (.int .i64 ((2 : Nat) : Int)), .inr (0, pt 2), .inl (.int .u64 ((a2 : Nat) : Int)), .inl (.int .i64 ((2 : Nat) : Int)), .inr (1, pt 2), .inl (.int .u64 ((b2 : Nat) : Int)), .inl (.int .u64 ((k1 : Nat) : Int)), .inl (.tuple #[.int .u64 ((s2 : Nat) : Int), .int .u64 ((k2 : Nat) : Int)]), .inl (.int .u64 ((s2 : Nat) : Int)), .inl (.int .u64 ((k2 : Nat) : Int)), .inr (3, pt 2), .inl (.tuple #[.int .u64 ((r2 : Nat) : Int), .int .u64 ((e2 : Nat) : Int)]), .inl (.int .i64 ((2 : Nat) : Int)), .inl (.int .i64 ((2 : Nat) : Int)), .inr (3, pt 2), .inl (.int .u64 ((s2 : Nat) : Int)), .inl (.int .u64 ((0 : Nat) : Int)), .inl (.int .u64 ((e1 : Nat) : Int)), .inl (.tuple #[.int .u64 ((r2 : Nat) : Int), .int .u64 ((e2 : Nat) : Int)]), .inl (.int .u64 ((r2 : Nat) : Int)), .inl (.int .u64 ((e2 : Nat) : Int)), .inr (4, pt 2), .inl (.int .i64 ((3 : Nat) : Int)), uu, uu, uu, uu]) (m' := [(w4 a0 a1 a2 a3, 83), (w4 b0 b1 b2 b3, 83), (w4 0 0 0 0, 83), (w4 s0 s1 s2 0, 83), (w4 r0 r1 r2 0, 83)]) (by kernel_rfl) (by kernel_rfl)
  replace h := h.o0
  refine rounds_1 ?_
  refine sym_seq ?_
  refine St.r0 h [] [] ?_ ?_
  · exact oz (k_bi (.int .i64 ((3 : Nat) : Int)) (.int .i64 ((4 : Nat) : Int)) (.bool true) (lt_i (m := ((3 : Nat) : Int)) (n := ((4 : Nat) : Int)) (by decide)) rfl rfl) <|
    ok_nil
  clear h; intro β a w h
  refine sym_then ?_
  refine sym_seq ?_
  refine s_ct h ?_
  refine wp_skip ?_
  refine sym_then ?_
  refine sym_seq ?_
  refine blk_in ?_
  refine sym_seq ?_
  refine St.r0 h [(14, .inl (.int .i64 ((3 : Nat) : Int))), (15, .inl (.int .u64 ((1152921504606846976 : Nat) : Int))), (9, .inl (.int .i64 ((3 : Nat) : Int))), (10, .inl (.int .u64 ((1152921504606846976 : Nat) : Int)))] [] ?_ ?_
  · exact oz (k_mv (.inl rfl) rfl) <|
    oz (k_ix (.agg (w4 6346243789798364141 1503914060200516822 0 1152921504606846976)) (.int .i64 ((3 : Nat) : Int)) (.int .u64 ((1152921504606846976 : Nat) : Int)) (fun w => by kernel_rfl) rfl rfl) <|
    oz (k_mv (.inr rfl) rfl) <|
    oz (k_mv (.inr rfl) rfl) <|
    ok_nil
  clear h; intro β a w h
  refine sym_then ?_
  refine sym_seq ?_
  refine St.rg h [(17, .inl (.int .i64 ((3 : Nat) : Int))), (18, .inl (.int .i64 ((3 : Nat) : Int))), (19, .inr (0, pt 3)), (20, .inl (.int .u64 ((a3 : Nat) : Int))), (21, .inl (.int .i64 ((3 : Nat) : Int))), (22, .inr (1, pt 3)), (23, .inl (.int .u64 ((b3 : Nat) : Int))), (24, .inl (.int .u64 ((k2 : Nat) : Int))), (25, .inl (.tuple #[.int .u64 ((s3 : Nat) : Int), .int .u64 ((k3 : Nat) : Int)])), (16, .inl (.tuple #[.int .u64 ((s3 : Nat) : Int), .int .u64 ((k3 : Nat) : Int)])), (26, .inl (.int .u64 ((s3 : Nat) : Int))), (27, .inl (.int .u64 ((k3 : Nat) : Int))), (28, .inr (3, pt 3)), (7, .inl (.int .u64 ((k3 : Nat) : Int)))] [] [(3, w4 s0 s1 s2 s3)] [nn, nn, nn, eR 0, nn, nn, eR 1, eO, nn, nn, nn, nn, nn, eS 3] ?_ ?_
  · exact oc (k_mv (.inl rfl) rfl) <|
    oc (k_mv (.inl rfl) rfl) <|
    oc (k_ia 0 0 3 (.int .i64 ((3 : Nat) : Int)) (fun w q => by kernel_rfl) rfl rfl) <|
    oc (k_ld 0 3 (.int .u64 ((a3 : Nat) : Int)) (c := w4 a0 a1 a2 a3) (ld_w (i := 3) (v := a3) 83 rfl) rfl rfl) <|
    oc (k_mv (.inl rfl) rfl) <|
    oc (k_ia 1 0 3 (.int .i64 ((3 : Nat) : Int)) (fun w q => by kernel_rfl) rfl rfl) <|
    oc (k_ld 1 3 (.int .u64 ((b3 : Nat) : Int)) (c := w4 b0 b1 b2 b3) (ld_w (i := 3) (v := b3) 83 rfl) rfl rfl) <|
    oc (k_m0 rfl rfl) <|
    oc (k_cx 75 #[.int .u64 ((a3 : Nat) : Int), .int .u64 ((b3 : Nat) : Int), .int .u64 ((k2 : Nat) : Int)] (.tuple #[.int .u64 ((s3 : Nat) : Int), .int .u64 ((k3 : Nat) : Int)]) ca3 rfl rfl) <|
    oc (k_mv (.inl rfl) rfl) <|
    oc (k_ex (.tuple #[.int .u64 ((s3 : Nat) : Int), .int .u64 ((k3 : Nat) : Int)]) (.int .u64 ((s3 : Nat) : Int)) rfl rfl) <|
    oc (k_ex (.tuple #[.int .u64 ((s3 : Nat) : Int), .int .u64 ((k3 : Nat) : Int)]) (.int .u64 ((k3 : Nat) : Int)) rfl rfl) <|
    oc (k_ia 3 0 3 (.int .i64 ((3 : Nat) : Int)) (fun w q => by kernel_rfl) rfl rfl) <|
    oc (k_st 3 3 (.int .u64 ((s3 : Nat) : Int)) (c := w4 s0 s1 s2 0) (n := w4 s0 s1 s2 s3) (st_w (i := 3) (v := s3) (n := w4 s0 s1 s2 s3) 83 rfl rfl) rfl rfl) <|
    oz (k_mv (.inr rfl) rfl) <|
    ok_nil
  clear h; intro β a w h
  refine sym_then ?_
  refine St.rg h [(30, .inl (.int .i64 ((3 : Nat) : Int))), (31, .inl (.int .i64 ((3 : Nat) : Int))), (32, .inr (3, pt 3)), (33, .inl (.int .u64 ((s3 : Nat) : Int))), (34, .inl (.int .u64 ((1152921504606846976 : Nat) : Int))), (35, .inl (.int .u64 ((e2 : Nat) : Int))), (36, .inl (.tuple #[.int .u64 ((r3 : Nat) : Int), .int .u64 ((e3 : Nat) : Int)])), (29, .inl (.tuple #[.int .u64 ((r3 : Nat) : Int), .int .u64 ((e3 : Nat) : Int)])), (37, .inl (.int .u64 ((r3 : Nat) : Int))), (38, .inl (.int .u64 ((e3 : Nat) : Int))), (39, .inr (4, pt 3)), (8, .inl (.int .u64 ((e3 : Nat) : Int)))] [] [(4, w4 r0 r1 r2 r3)] [nn, nn, nn, eR 3, nn, eO, nn, nn, nn, nn, nn, eS 4] ?_ ?_
  · exact oc (k_mv (.inl rfl) rfl) <|
    oc (k_mv (.inl rfl) rfl) <|
    oc (k_ia 3 0 3 (.int .i64 ((3 : Nat) : Int)) (fun w q => by kernel_rfl) rfl rfl) <|
    oc (k_ld 3 3 (.int .u64 ((s3 : Nat) : Int)) (c := w4 s0 s1 s2 s3) (ld_w (i := 3) (v := s3) 83 rfl) rfl rfl) <|
    oc (k_mv (.inl rfl) rfl) <|
    oc (k_m0 rfl rfl) <|
    oc (k_cx 76 #[.int .u64 ((s3 : Nat) : Int), .int .u64 ((1152921504606846976 : Nat) : Int), .int .u64 ((e2 : Nat) : Int)] (.tuple #[.int .u64 ((r3 : Nat) : Int), .int .u64 ((e3 : Nat) : Int)]) cs3 rfl rfl) <|
    oc (k_mv (.inl rfl) rfl) <|
    oc (k_ex (.tuple #[.int .u64 ((r3 : Nat) : Int), .int .u64 ((e3 : Nat) : Int)]) (.int .u64 ((r3 : Nat) : Int)) rfl rfl) <|
    oc (k_ex (.tuple #[.int .u64 ((r3 : Nat) : Int), .int .u64 ((e3 : Nat) : Int)]) (.int .u64 ((e3 : Nat) : Int)) rfl rfl) <|
    oc (k_ia 4 0 3 (.int .i64 ((3 : Nat) : Int)) (fun w q => by kernel_rfl) rfl rfl) <|
    oc (k_st 4 3 (.int .u64 ((r3 : Nat) : Int)) (c := w4 r0 r1 r2 0) (n := w4 r0 r1 r2 r3) (st_w (i := 3) (v := r3) (n := w4 r0 r1 r2 r3) 83 rfl rfl) rfl rfl) <|
    oz (k_mv (.inr rfl) rfl) <|
    ok_nil
  clear h; intro β a w h
  refine blk_norm ?_
  refine sym_then ?_
  refine St.r0 h [(40, .inl (.int .i64 ((4 : Nat) : Int))), (12, .inl (.int .i64 ((4 : Nat) : Int)))] [eO] ?_ ?_
  · exact oc (k_b0 (.int .i64 ((3 : Nat) : Int)) (.int .i64 ((1 : Nat) : Int)) (.int .i64 ((4 : Nat) : Int)) (ad_k (m := 3) (n := 1) rfl (by decide)) rfl rfl) <|
    oz (k_mv (.inl rfl) rfl) <|
    ok_nil
  clear h; intro β a w h
  refine then_norm ?_
  replace h := St.cs h (s' := [.inl (.agg (w4 a0 a1 a2 a3)), .inl (.agg (w4 b0 b1 b2 b3)), .inr (0, pt 0), .inr (1, pt 0), .inr (2, pt 0), .inr (3, pt 0), .inr (4, pt 0), .inl (.int .u64 ((k3 : Nat) : Int)), .inl (.int .u64 ((e3 : Nat) : Int)), .inl (.int .i64 ((3 : Nat) : Int)), .inl (.int .u64 ((1152921504606846976 : Nat) : Int)), .inl (.agg (w4 6346243789798364141 1503914060200516822 0 1152921504606846976)), .inl (.int .i64 ((4 : Nat) : Int)), .inl (.bool true), .inl (.int .i64 ((3 : Nat) : Int)), .inl (.int .u64 ((1152921504606846976 : Nat) : Int)), .inl (.tuple #[.int .u64 ((s3 : Nat) : Int), .int .u64 ((k3 : Nat) : Int)]), .inl (.int .i64 ((3 : Nat) : Int)), .inl (.int .i64 ((3 : Nat) : Int)), .inr (0, pt 3), .inl (.int .u64 ((a3 : Nat) : Int)), .inl (.int .i64 ((3 : Nat) : Int)), .inr (1, pt 3), .inl (.int .u64 ((b3 : Nat) : Int)), .inl (.int .u64 ((k2 : Nat) : Int)), .inl (.tuple #[.int .u64 ((s3 : Nat) : Int), .int .u64 ((k3 : Nat) : Int)]), .inl (.int .u64 ((s3 : Nat) : Int)), .inl (.int .u64 ((k3 : Nat) : Int)), .inr (3, pt 3), .inl (.tuple #[.int .u64 ((r3 : Nat) : Int), .int .u64 ((e3 : Nat) : Int)]), .inl (.int .i64 ((3 : Nat) : Int)), .inl (.int .i64 ((3 : Nat) : Int)), .inr (3, pt 3), .inl (.int .u64 ((s3 : Nat) : Int)), .inl (.int .u64 ((1152921504606846976 : Nat) : Int)), .inl (.int .u64 ((e2 : Nat) : Int)), .inl (.tuple #[.int .u64 ((r3 : Nat) : Int), .int .u64 ((e3 : Nat) : Int)]), .inl (.int .u64 ((r3 : Nat) : Int)), .inl (.int .u64 ((e3 : Nat) : Int)), .inr (4, pt 3), .inl (.int .i64 ((4 : Nat) : Int)), uu, uu, uu, uu]) (m' := [(w4 a0 a1 a2 a3, 83), (w4 b0 b1 b2 b3, 83), (w4 0 0 0 0, 83), (w4 s0 s1 s2 s3, 83), (w4 r0 r1 r2 r3, 83)]) (by kernel_rfl) (by kernel_rfl)
  replace h := h.o0
  refine rounds_1 ?_
  refine sym_seq ?_
  refine St.r0 h [(13, .inl (.bool false))] [] ?_ ?_
  · exact oz (k_bi (.int .i64 ((4 : Nat) : Int)) (.int .i64 ((4 : Nat) : Int)) (.bool false) (lt_i (m := ((4 : Nat) : Int)) (n := ((4 : Nat) : Int)) (by decide)) rfl rfl) <|
    ok_nil
  clear h; intro β a w h
  refine sym_then ?_
  refine sym_seq ?_
  refine s_cf h ?_
  refine wp_exit ?_
  refine then_exit ?_
  refine then_exit ?_
  refine blk_exit ?_
  refine sym_then ?_
  refine sym_seq ?_
  refine sym_seq ?_
  refine St.r0 h [(41, .inl (.int .u64 ((e3 : Nat) : Int))), (42, .inl (.bool false))] [] ?_ ?_
  · exact oz (k_mv (.inl rfl) rfl) <|
    oz (k_bi (.int .u64 ((e3 : Nat) : Int)) (.int .u64 ((1 : Nat) : Int)) (.bool false) (eq_u64 (m := e3) (n := 1) (decide_eq_false hb)) rfl rfl) <|
    ok_nil
  clear h; intro β a w h
  refine sym_then ?_
  refine s_cf h ?_
  refine wp_skip ?_
  refine sym_then ?_
  refine sym_seq ?_
  refine St.rg h [(44, .inl (.agg (w4 r0 r1 r2 r3)))] [] [(2, w4 r0 r1 r2 r3)] [eR 4, eS 2] ?_ ?_
  · exact oc (k_ld 4 0 (.agg (w4 r0 r1 r2 r3)) (c := w4 r0 r1 r2 r3) (ldW 83) rfl rfl) <|
    oc (k_st 2 0 (.agg (w4 r0 r1 r2 r3)) (c := w4 0 0 0 0) (n := w4 r0 r1 r2 r3) (stW 83 rfl) rfl rfl) <|
    ok_nil
  clear h; intro β a w h
  refine sym_then ?_
  refine wp_ret ?_
  exact s_rc (b := 2) (t0 := 83) (c := w4 r0 r1 r2 r3) h Try.results52 Try.underlying83 (fun hb => ⟨rfl, hb⟩) (by kernel_rfl)

theorem split4 (n : Nat) (h : n < 115792089237316195423570985008687907853269984665640564039457584007913129639936) : ∃ a0 a1 a2 a3 : Nat, a0 < 18446744073709551616 ∧ a1 < 18446744073709551616 ∧ a2 < 18446744073709551616 ∧ a3 < 18446744073709551616 ∧ n = a0 + 18446744073709551616 * a1 + 340282366920938463463374607431768211456 * a2 + 6277101735386680763835789423207666416102355444464034512896 * a3 := by
  have h1 := Nat.div_add_mod n 18446744073709551616
  have h2 := Nat.div_add_mod (n / 18446744073709551616) 18446744073709551616
  have h3 := Nat.div_add_mod (n / 18446744073709551616 / 18446744073709551616) 18446744073709551616
  have l1 := Nat.mod_lt n (y := 18446744073709551616) (by decide)
  have l2 := Nat.mod_lt (n / 18446744073709551616) (y := 18446744073709551616) (by decide)
  have l3 := Nat.mod_lt (n / 18446744073709551616 / 18446744073709551616) (y := 18446744073709551616) (by decide)
  have l4 : n / 18446744073709551616 / 18446744073709551616 / 18446744073709551616 < 18446744073709551616 := by rw [Nat.div_div_eq_div_mul, Nat.div_div_eq_div_mul]; exact Nat.div_lt_of_lt_mul h
  refine ⟨n % 18446744073709551616, n / 18446744073709551616 % 18446744073709551616, n / 18446744073709551616 / 18446744073709551616 % 18446744073709551616, n / 18446744073709551616 / 18446744073709551616 / 18446744073709551616, l1, l2, l3, l4, ?_⟩
  generalize n % 18446744073709551616 = r0 at *
  generalize n / 18446744073709551616 % 18446744073709551616 = r1 at *
  generalize n / 18446744073709551616 / 18446744073709551616 % 18446744073709551616 = r2 at *
  generalize n / 18446744073709551616 / 18446744073709551616 / 18446744073709551616 = q3 at *
  generalize n / 18446744073709551616 / 18446744073709551616 = q2 at *
  generalize n / 18446744073709551616 = q1 at *
  clear l1 l2 l3 l4 h
  omega
theorem sum_eq {m n a0 a1 a2 a3 b0 b1 b2 b3 s0 s1 s2 s3 k0 k1 k2 k3 : Nat} (em : m = a0 + 18446744073709551616 * a1 + 340282366920938463463374607431768211456 * a2 + 6277101735386680763835789423207666416102355444464034512896 * a3) (en : n = b0 + 18446744073709551616 * b1 + 340282366920938463463374607431768211456 * b2 + 6277101735386680763835789423207666416102355444464034512896 * b3) (x0 : s0 + 18446744073709551616 * k0 = a0 + b0 + 0) (x1 : s1 + 18446744073709551616 * k1 = a1 + b1 + k0) (x2 : s2 + 18446744073709551616 * k2 = a2 + b2 + k1) (x3 : s3 + 18446744073709551616 * k3 = a3 + b3 + k2) : s0 + 18446744073709551616 * s1 + 340282366920938463463374607431768211456 * s2 + 6277101735386680763835789423207666416102355444464034512896 * s3 + 115792089237316195423570985008687907853269984665640564039457584007913129639936 * k3 = m + n := by omega
theorem dif_eq {s0 s1 s2 s3 r0 r1 r2 r3 e0 e1 e2 e3 : Nat} (y0 : r0 + 6346243789798364141 + 0 = s0 + 18446744073709551616 * e0) (y1 : r1 + 1503914060200516822 + e0 = s1 + 18446744073709551616 * e1) (y2 : r2 + 0 + e1 = s2 + 18446744073709551616 * e2) (y3 : r3 + 1152921504606846976 + e2 = s3 + 18446744073709551616 * e3) : r0 + 18446744073709551616 * r1 + 340282366920938463463374607431768211456 * r2 + 6277101735386680763835789423207666416102355444464034512896 * r3 + 7237005577332262213973186563042994240857116359379907606001950938285454250989 = s0 + 18446744073709551616 * s1 + 340282366920938463463374607431768211456 * s2 + 6277101735386680763835789423207666416102355444464034512896 * s3 + 115792089237316195423570985008687907853269984665640564039457584007913129639936 * e3 := by omega
theorem four_lt {a b c d : Nat} (ha : a < 18446744073709551616) (hb : b < 18446744073709551616) (hc : c < 18446744073709551616) (hd : d < 18446744073709551616) : a + 18446744073709551616 * b + 340282366920938463463374607431768211456 * c + 6277101735386680763835789423207666416102355444464034512896 * d < 115792089237316195423570985008687907853269984665640564039457584007913129639936 := by omega
theorem only_S {m n S k : Nat} (hm : m < 7237005577332262213973186563042994240857116359379907606001950938285454250989) (hn : n < 7237005577332262213973186563042994240857116359379907606001950938285454250989) (hS : S < 115792089237316195423570985008687907853269984665640564039457584007913129639936) (h : S + 115792089237316195423570985008687907853269984665640564039457584007913129639936 * k = m + n) : S = m + n := by omega
theorem bor_S {m n S R e : Nat} (hR : R < 115792089237316195423570985008687907853269984665640564039457584007913129639936) (h : R + 7237005577332262213973186563042994240857116359379907606001950938285454250989 = S + 115792089237316195423570985008687907853269984665640564039457584007913129639936 * e) (he : e = 1) (hS : S = m + n) : m + n < 7237005577332262213973186563042994240857116359379907606001950938285454250989 := by omega
theorem nob_R {m n S R e : Nat} (hm : m < 7237005577332262213973186563042994240857116359379907606001950938285454250989) (hn : n < 7237005577332262213973186563042994240857116359379907606001950938285454250989) (h : R + 7237005577332262213973186563042994240857116359379907606001950938285454250989 = S + 115792089237316195423570985008687907853269984665640564039457584007913129639936 * e) (he : e ≤ 1) (hb : ¬ e = 1) (hS : S = m + n) : (m + n) % 7237005577332262213973186563042994240857116359379907606001950938285454250989 = R := by
  have h1 : R + 7237005577332262213973186563042994240857116359379907606001950938285454250989 = m + n := by omega
  rw [← h1, Nat.add_mod_right, Nat.mod_eq_of_lt (by omega)]
/-- A sum of residues. -/
def sumL (m n : Nat) : Nat := (m + n) % oL
theorem plus_res {m n : Nat} (hm : m < oL) (hn : n < oL) (W0 : World) : Calls Try.prog 52 #[.agg (rs m), .agg (rs n)] W0 fun e w' => e = .returned (.agg (rs (sumL m n))) ∧ Below W0.heap.size W0 w' := by
  unfold sumL
  have hl : oL = 7237005577332262213973186563042994240857116359379907606001950938285454250989 := rfl
  rw [hl] at hm hn ⊢
  clear hl
  obtain ⟨a0, a1, a2, a3, p0, p1, p2, p3, em⟩ := split4 m (by omega)
  obtain ⟨b0, b1, b2, b3, q0, q1, q2, q3, en⟩ := split4 n (by omega)
  obtain ⟨s0, k0, s0l, k0l, x0, ca0⟩ := add64_ex a0 b0 0 p0 q0 (by omega)
  obtain ⟨s1, k1, s1l, k1l, x1, ca1⟩ := add64_ex a1 b1 k0 p1 q1 k0l
  obtain ⟨s2, k2, s2l, k2l, x2, ca2⟩ := add64_ex a2 b2 k1 p2 q2 k1l
  obtain ⟨s3, k3, s3l, k3l, x3, ca3⟩ := add64_ex a3 b3 k2 p3 q3 k2l
  obtain ⟨r0, e0, r0l, e0l, y0, cs0⟩ := sub64_ex s0 6346243789798364141 0 s0l (by decide) (by decide)
  obtain ⟨r1, e1, r1l, e1l, y1, cs1⟩ := sub64_ex s1 1503914060200516822 e0 s1l (by decide) e0l
  obtain ⟨r2, e2, r2l, e2l, y2, cs2⟩ := sub64_ex s2 0 e1 s2l (by decide) e1l
  obtain ⟨r3, e3, r3l, e3l, y3, cs3⟩ := sub64_ex s3 1152921504606846976 e2 s3l (by decide) e2l
  have hS := sum_eq em en x0.out x1.out x2.out x3.out
  have hR := dif_eq y0.out y1.out y2.out y3.out
  have hSl := four_lt s0l s1l s2l s3l
  have hRl := four_lt r0l r1l r2l r3l
  obtain ⟨S, eS⟩ : ∃ S, S = s0 + 18446744073709551616 * s1 + 340282366920938463463374607431768211456 * s2 + 6277101735386680763835789423207666416102355444464034512896 * s3 := ⟨_, rfl⟩
  obtain ⟨R, eR⟩ : ∃ R, R = r0 + 18446744073709551616 * r1 + 340282366920938463463374607431768211456 * r2 + 6277101735386680763835789423207666416102355444464034512896 * r3 := ⟨_, rfl⟩
  rw [← eS] at hS hR hSl
  rw [← eR] at hR hRl
  have hk : S = m + n := only_S hm hn hSl hS
  rw [← rs_of p0 p1 p2 p3 em, ← rs_of q0 q1 q2 q3 en]
  by_cases hb : e3 = 1
  · rw [← rs_of s0l s1l s2l s3l (n := (m + n) % 7237005577332262213973186563042994240857116359379907606001950938285454250989) (by rw [Nat.mod_eq_of_lt (bor_S hRl hR hb hk), ← hk, eS])]
    exact pls_s ca0 ca1 ca2 ca3 cs0 cs1 cs2 cs3 hb W0
  · rw [← rs_of r0l r1l r2l r3l (n := (m + n) % 7237005577332262213973186563042994240857116359379907606001950938285454250989) (by rw [nob_R hm hn hR e3l hb hk, eR])]
    exact pls_r ca0 ca1 ca2 ca3 cs0 cs1 cs2 cs3 hb W0
theorem sumL_lt (m n : Nat) : sumL m n < oL := Nat.mod_lt _ (by decide +kernel)
end Go.Proofs.Ytpogmflgmpifoaa

namespace Go.Proofs.Ytpogmflgmpifoaa
open Go.RowKit Go.Shelf

/-- The number that bytes tell, the lowest first. -/
def nB (f : Nat → Nat) : Nat → Nat
  | 0 => 0
  | k + 1 => nB f k + f k * 256 ^ k
theorem nB_lt {f : Nat → Nat} (hf : ∀ i, f i < 256) : ∀ k, nB f k < 256 ^ k
  | 0 => by show 0 < 1; omega
  | k + 1 => by
    have h1 := nB_lt hf k
    have h2 := hf k
    have h3 : f k * 256 ^ k ≤ 255 * 256 ^ k := Nat.mul_le_mul_right _ (by omega)
    show nB f k + f k * 256 ^ k < 256 ^ (k + 1)
    rw [Nat.pow_succ]; omega
theorem nB_byte {f : Nat → Nat} (hf : ∀ i, f i < 256) : ∀ k i, i < k → nB f k / 256 ^ i % 256 = f i
  | 0, _, h => by omega
  | k + 1, i, h => by
    show (nB f k + f k * 256 ^ k) / 256 ^ i % 256 = f i
    have h1 := nB_lt hf k
    have hp : 0 < 256 ^ i := Nat.pow_pos (by omega)
    by_cases e : i = k
    · subst e
      rw [Nat.add_mul_div_right _ _ hp, Nat.div_eq_of_lt h1, Nat.zero_add, Nat.mod_eq_of_lt (hf i)]
    · have e2 : f k * 256 ^ k = f k * 256 ^ (k - i - 1) * 256 * 256 ^ i := by
        rw [Nat.mul_assoc, Nat.mul_assoc, Nat.mul_comm 256, ← Nat.pow_succ, ← Nat.pow_add, show k - i - 1 + (i + 1) = k by omega]
      rw [e2, Nat.add_mul_div_right _ _ hp, Nat.add_mul_mod_self_right]
      exact nB_byte hf k i (by omega)
theorem fg_nB {f : Nat → Nat} (hf : ∀ i, f i < 256) (k j : Nat) (h : j < 8 * k) : fg f j = nB f k / 2 ^ j % 2 := by
  unfold fg
  rw [← nB_byte hf k (j / 8) (by omega)]
  have e : 2 ^ j = 256 ^ (j / 8) * 2 ^ (j % 8) := by
    rw [show (256 : Nat) = 2 ^ 8 from rfl, ← Nat.pow_mul, ← Nat.pow_add]; congr 1; omega
  rw [e, ← Nat.div_div_eq_div_mul]
  generalize nB f k / 256 ^ (j / 8) = m
  have hr : j % 8 < 8 := Nat.mod_lt _ (by omega)
  generalize j % 8 = r at hr
  obtain rfl | rfl | rfl | rfl | rfl | rfl | rfl | rfl : r = 0 ∨ r = 1 ∨ r = 2 ∨ r = 3 ∨ r = 4 ∨ r = 5 ∨ r = 6 ∨ r = 7 := by omega
  all_goals omega
/-- So many times a residue. -/
theorem fldL {f : Nat → Nat} (hf : ∀ i, f i < 256) {a : Nat} (n : Nat) : ∀ k, k ≤ 8 * n → fldM sumL 0 a (tops f (8 * n) k) = nB f n / 2 ^ (8 * n - k) * a % oL
  | 0, _ => by
    have h := nB_lt hf n
    rw [show (256 : Nat) = 2 ^ 8 from rfl, ← Nat.pow_mul] at h
    show 0 = _
    rw [Nat.sub_zero, Nat.div_eq_of_lt h, Nat.zero_mul, Nat.zero_mod]
  | k + 1, h => by
    have ih := fldL hf (a := a) n k (by omega)
    have e : 8 * n - k = (8 * n - 1 - k) + 1 := by omega
    have e2 : 8 * n - (k + 1) = 8 * n - 1 - k := by omega
    rw [e, Nat.pow_succ, ← Nat.div_div_eq_div_mul] at ih
    rw [tops_succ, e2]
    have hb := fg_nB hf n (8 * n - 1 - k) (by omega)
    generalize nB f n / 2 ^ (8 * n - 1 - k) = m at *
    rcases Nat.mod_two_eq_zero_or_one m with h2 | h2
    · rw [h2] at hb
      rw [fldM_0 _ _ _ _ (by omega), ih]
      unfold sumL
      rw [← Nat.add_mod, ← Nat.add_mul, show m / 2 + m / 2 = m by omega]
    · rw [h2] at hb
      rw [hb, fldM_1, ih]
      unfold sumL
      rw [← Nat.add_mod, ← Nat.add_mul, Nat.mod_add_mod]
      congr 1
      have : m = m / 2 + m / 2 + 1 := by omega
      rw [this, Nat.add_mul (m / 2 + m / 2) 1, Nat.one_mul]
      congr 2 <;> omega
theorem fldL_all {f : Nat → Nat} (hf : ∀ i, f i < 256) {a : Nat} (n : Nat) : fldM sumL 0 a (tops f (8 * n) (8 * n)) = nB f n * a % oL := by
  rw [fldL hf n _ (Nat.le_refl _), Nat.sub_self, Nat.pow_zero, Nat.div_one]

theorem rs_size (n : Nat) : (rs n).size = 4 := rfl
theorem rs_one (n : Nat) : (rs n).all (·.oneCell') = true := w4_one _ _ _ _
theorem ldN {n : Nat} (t0 : TypeId) (w : World) (q : Nat) (h : w.heap[q]? = some (.cells (rs n) t0 (0, 0))) : (Instr.loadAt 83 (.pointer (some ⟨q, 0, none⟩))).run Try.prog w = .ok (.agg (rs n)) w := ldW t0 w q h
theorem stN' {n : Nat} {e : Array Value} (t0 : TypeId) (he : e.size = 4) (w : World) (q : Nat) (h : w.heap[q]? = some (.cells e t0 (0, 0))) : (Instr.storeAt 83 (.pointer (some ⟨q, 0, none⟩)) (.agg (rs n))).run Try.prog w = .ok () (w.setRow q (rs n)) := stW t0 he w q h
theorem alN (w : World) : (Instr.alloc 83 true (.tuple #[])).run Try.prog w = .ok (.pointer (some ⟨w.heap.size, 0, none⟩)) (w.alloc (.cells (rs 0) 83)) := alW w
theorem bxN {n : Nat} (w : World) : (Instr.box 83 (.agg (rs n))).run Try.prog w = .ok (.pointer (some ⟨w.heap.size, 0, none⟩)) (w.alloc (.cells (rs n) 83)) := bx_agg w
theorem bdN0 (w : World) : (Instr.build 83 #[]).run Try.prog w = .ok (.agg (rs 0)) w := by kernel_rfl
theorem bdN1 (w : World) : (Instr.build 83 #[(0, .int .u64 ((1 : Nat) : Int))]).run Try.prog w = .ok (.agg (rs 1)) w := by kernel_rfl
theorem many_L {a : Nat} (ha : a < oL) {aa : Option Addr} {len cap : Nat} {f : Nat → Nat} (hm : len ≤ 1000) (W0 : World) (hb : Bs W0 aa len f) :
    Calls Try.prog 73 #[.slice aa len cap, .agg (rs 0), .agg (rs a), .func (.func 52) #[] #[]] W0 fun e w' => e = .returned (.agg (rs (nB f len * a % oL))) ∧ Below W0.heap.size W0 w' := by
  have h := many_res (Vl := rs) (G := fun n => n < oL) (add := sumL) (zc0 := rs 0) (fun n => by rw [rs_size]; kernel_rfl) (fun _ _ => rfl) (fun _ => rfl) rs_one alN (fun _ _ _ _ => sumL_lt _ _) (fun m n h1 h2 w => plus_res h1 h2 w) (no := 0) (one := a) (by decide +kernel) ha (aa := aa) (len := len) (cap := cap) (f := f) hm W0 hb
  rwa [fldL_all hb.1] at h
theorem gt_i {x u : Operand} {m n : Int} {b : Bool} (h : decide (n < m) = b) (w : World) : (do eqGuard .gtr 3 x u (.int .i64 m) (.int .i64 n); binOp .gtr 3 (.int .i64 m) (.int .i64 n)).run Try.prog w = .ok (.bool b) w := by
  subst h; simp [eqGuard, binOp, go_sem]
theorem len_run {aa : Option Addr} {n c : Nat} (ty : TypeId) (w : World) : (Builtin.len_ #[50] ty #[.slice aa n c]).run Try.prog w = .ok (.int .i64 ((n : Nat) : Int)) w := by
  simp [Builtin.len_, go_sem]
theorem sl_k (w : World) (q : Nat) : (Instr.sliceAt 23 (.pointer (some ⟨q, 0, none⟩)) none none none).run Try.prog w = .ok (.slice (some ⟨q, 0, none⟩) 32 32) w := by kernel_rfl
/-- Word number i, byte number i of a number. -/
def wq (n i : Nat) : Nat := n / 18446744073709551616 ^ i % 18446744073709551616
def kq (n i : Nat) : Nat := n / 256 ^ i % 256
theorem rs_get {n i : Nat} (h : i < 4) : (rs n)[i]? = some (.int .u64 ((wq n i : Nat) : Int)) := by
  obtain rfl | rfl | rfl | rfl : i = 0 ∨ i = 1 ∨ i = 2 ∨ i = 3 := by omega
  · simp [rs, w4, wq]
  · simp [rs, w4, wq]
  · rfl
  · rfl
theorem ixN {i : Nat} (hi : i < 4) (w : World) (q : Nat) : (Instr.indexAt 83 (.pointer (some ⟨q, 0, none⟩)) (.int .i64 ((i : Nat) : Int))).run Try.prog w = .ok (.pointer (some ⟨q, i, none⟩)) w := by
  simp [Instr.indexAt, go_sem, hi, addr_add]
theorem sr_q {x u : Operand} {m r : Nat} (hr : r < 64) (w : World) : (do eqGuard .shr 25 x u (.int .u64 ((m : Nat) : Int)) (.int .i64 ((r : Nat) : Int)); binOp .shr 25 (.int .u64 ((m : Nat) : Int)) (.int .i64 ((r : Nat) : Int))).run Try.prog w = .ok (.int .u64 ((m / 2 ^ r : Nat) : Int)) w := by
  simp [eqGuard, binOp, go_sem]
theorem cv_qb {n : Nat} (w : World) : (convert 25 5 (.int .u64 ((n : Nat) : Int))).run Try.prog w = .ok (.int .u8 ((n % 256 : Nat) : Int)) w := by
  have h1 : IntKind.u8.wrap (n : Int) = ((n % 256 : Nat) : Int) := by rw [IntKind.wrap_u8]; omega
  simp [convert, go_sem, h1]
theorem key_byte (n i : Nat) : wq n (i / 8) / 2 ^ (i % 8 * 8) % 256 = kq n i := by
  unfold wq kq
  have e : 256 ^ i = 18446744073709551616 ^ (i / 8) * 2 ^ (i % 8 * 8) := by
    rw [show (256 : Nat) = 2 ^ 8 from rfl, show (18446744073709551616 : Nat) = 2 ^ 64 from rfl, ← Nat.pow_mul, ← Nat.pow_mul, ← Nat.pow_add]
    congr 1; omega
  rw [e, ← Nat.div_div_eq_div_mul]
  generalize n / 18446744073709551616 ^ (i / 8) = m
  have hr : i % 8 < 8 := Nat.mod_lt _ (by omega)
  generalize i % 8 = r at hr
  obtain rfl | rfl | rfl | rfl | rfl | rfl | rfl | rfl : r = 0 ∨ r = 1 ∨ r = 2 ∨ r = 3 ∨ r = 4 ∨ r = 5 ∨ r = 6 ∨ r = 7 := by omega
  all_goals omega
def kF (n k i : Nat) : Nat := if i < k then kq n i else 0
theorem kF_next (n k : Nat) : ck (updN (kF n k) k (wq n (k / 8) / 2 ^ (k % 8 * 8) % 256)) = ck (kF n (k + 1)) := by
  rw [key_byte]
  refine ck_congr fun i _ => ?_
  unfold updN kF
  by_cases h : i = k
  · subst h; simp
  · have : (i < k + 1) = (i < k) := by simp; omega
    simp [h, this]
theorem kF_0 (n : Nat) : ck (fun _ => 0) = ck (kF n 0) := ck_congr fun i _ => by simp [kF]
theorem kF_end (n : Nat) : ck (kF n 32) = ck (kq n) := ck_congr fun i h => by simp [kF, h]
theorem kq_lt (n i : Nat) : kq n i < 256 := Nat.mod_lt _ (by omega)
end Go.Proofs.Ytpogmflgmpifoaa

namespace Go.Proofs.Ytpogmflgmpifoaa
open Go.RowKit Go.Shelf
theorem bdK0 (w : World) : (Instr.build 23 #[]).run Try.prog w = .ok (.agg (ck (fun _ => 0))) w := by rw [ck_zero]; kernel_rfl

set_option maxHeartbeats 4000000 in
theorem times_L {g : Nat} (ha : g < oL) {aa : Option Addr} {len cap : Nat} {f : Nat → Nat} (hm : len ≤ 1000) (W0 : World) (hb : Bs W0 aa len f) : Calls Try.prog 51 #[.slice aa len cap, .agg (rs g)] W0 fun e w' => e = .returned (.agg (rs (nB f len * g % oL))) ∧ Below W0.heap.size W0 w' := by
  refine s_in Try.func51 Try.ntmps51 rfl [.inl (.slice aa len cap), .inl (.agg (rs g))] ?_
  intro β a h
  refine sym_seq ?_
  refine St.rg h [(3, .inr (0, pt 0)), (4, .inr (1, pt 0))] [(rs g, 83), (rs 0, 83)] [] [eN 0, eN 1] ?_ ?_
  · exact oc (k_bx 0 (.agg (rs g)) (bxN (n := g)) rfl rfl) <|
    oc (k_al 1 alN rfl rfl) <|
    ok_nil
  clear h; intro β a w h
  refine sym_then ?_
  refine sym_seq ?_
  refine St.rg h [(5, .inl (.slice aa len cap)), (6, .inl (.agg (rs 0))), (7, .inl (.agg (rs g))), (8, .inl (.agg (rs (nB f len * g % oL))))] [] [(1, rs (nB f len * g % oL))] [nn, nn, eR 0, nn, eS 1] ?_ ?_
  · exact oc (k_mv (.inl rfl) rfl) <|
    oc (k_bu #[] (.agg (rs 0)) bdN0 rfl rfl) <|
    oc (k_ld 0 0 (.agg (rs g)) (c := rs g) (ldN (n := g) 83) rfl rfl) <|
    oc (k_cw 73 #[.slice aa len cap, .agg (rs 0), .agg (rs g), .func (.func 52) #[] #[]] (.agg (rs (nB f len * g % oL))) (fun w hw => many_L ha hm w (hb.later hw.below)) rfl rfl) <|
    oc (k_st 1 0 (.agg (rs (nB f len * g % oL))) (c := rs 0) (n := rs (nB f len * g % oL)) (stN' (n := (nB f len * g % oL)) 83 rfl) rfl rfl) <|
    ok_nil
  clear h; intro β a w h
  refine sym_then ?_
  refine wp_ret ?_
  exact s_rc (b := 1) (t0 := 83) (c := rs (nB f len * g % oL)) h Try.results51 Try.underlying83 (fun hb => ⟨rfl, hb⟩) (by rw [rs_size]; kernel_rfl)

set_option maxHeartbeats 4000000 in
theorem rkey_L (g : Nat) (W0 : World) : Calls Try.prog 53 #[.agg (rs g)] W0 fun e w' => e = .returned (.agg (ck (kq g))) ∧ Below W0.heap.size W0 w' := by
  rw [← kF_end]
  refine s_in Try.func53 Try.ntmps53 rfl [.inl (.agg (rs g))] ?_
  intro β a h
  refine sym_seq ?_
  refine St.rg h [(1, .inr (0, pt 0)), (2, .inr (1, pt 0))] [(rs g, 83), (ck (fun _ => 0), 23)] [] [eN 0, eN 1] ?_ ?_
  · exact oc (k_bx 0 (.agg (rs g)) (bxN (n := g)) rfl rfl) <|
    oc (k_al 1 alK rfl rfl) <|
    ok_nil
  clear h; intro β a w h
  refine sym_then ?_
  refine sym_seq ?_
  refine St.rg h [(3, .inr (2, pt 0))] [(ck (fun _ => 0), 23)] [] [eN 2] ?_ ?_
  · exact oc (k_al 2 alK rfl rfl) <|
    ok_nil
  clear h; intro β a w h
  refine sym_then ?_
  refine sym_seq ?_
  refine sym_seq ?_
  refine St.r0 h [(5, .inl (.int .i64 ((0 : Nat) : Int)))] [] ?_ ?_
  · exact oz (k_mv (.inl rfl) rfl) <|
    ok_nil
  clear h; intro β a w h
  refine sym_then ?_
  refine blk_in ?_
  replace h := St.sm h 2 (ck (kF g 0)) (c := ck (fun _ => 0)) (t := 23) (kF_0 g)
  replace h := St.cs h (s' := [.inl (.agg (rs g)), .inr (0, pt 0), .inr (1, pt 0), .inr (2, pt 0), uu, .inl (.int .i64 ((0 : Nat) : Int)), uu, uu, uu, uu, uu, uu, uu, uu, uu, uu, uu, uu, uu, uu, uu]) (m' := [(rs g, 83), (ck (fun _ => 0), 23), (ck (kF g 0), 23)]) (by kernel_rfl) (by kernel_rfl)
  refine loop_up 32 (fun k a w => ∃ (x4 x6 x7 x8 x9 x10 x11 x12 x13 x14 x15 x16 x17 x18 x19 : SV) (β : Nat → Nat), St (wd W0) [.inl (.agg (rs g)), .inr (0, pt 0), .inr (1, pt 0), .inr (2, pt 0), x4, .inl (.int .i64 ((k : Nat) : Int)), x6, x7, x8, x9, x10, x11, x12, x13, x14, x15, x16, x17, x18, x19, uu] [(rs g, 83), (ck (fun _ => 0), 23), (ck (kF g k), 23)] β a w) ⟨_, _, _, _, _, _, _, _, _, _, _, _, _, _, _, β, h⟩ ?_
  clear h; rintro k a w hkk ⟨x4, x6, x7, x8, x9, x10, x11, x12, x13, x14, x15, x16, x17, x18, x19, β, h⟩; replace h := h.o0
  rcases Nat.lt_or_ge k 32 with hltk | hgek
  · refine sym_seq ?_
    refine St.r0 h [(6, .inl (.bool true))] [] ?_ ?_
    · exact oz (k_bi (.int .i64 ((k : Nat) : Int)) (.int .i64 ((32 : Nat) : Int)) (.bool true) (lt_i (m := ((k : Nat) : Int)) (n := ((32 : Nat) : Int)) (decide_eq_true (by omega))) rfl rfl) <|
      ok_nil
    clear h; intro β a w h
    refine sym_then ?_
    refine sym_seq ?_
    refine s_ct h ?_
    refine wp_skip ?_
    refine sym_then ?_
    refine sym_seq ?_
    refine blk_in ?_
    refine sym_seq ?_
    refine St.r0 h [(7, .inl (.int .i64 ((k : Nat) : Int))), (4, .inl (.int .i64 ((k : Nat) : Int)))] [] ?_ ?_
    · exact oz (k_mv (.inl rfl) rfl) <|
      oz (k_mv (.inr rfl) rfl) <|
      ok_nil
    clear h; intro β a w h
    refine sym_then ?_
    refine St.rg h [(8, .inl (.int .i64 ((k : Nat) : Int))), (9, .inl (.int .i64 ((k : Nat) : Int))), (10, .inl (.int .i64 (((k / 8) : Nat) : Int))), (11, .inr (0, pt (k / 8))), (12, .inl (.int .u64 (((wq g (k / 8)) : Nat) : Int))), (13, .inl (.int .i64 ((k : Nat) : Int))), (14, .inl (.int .i64 (((k % 8) : Nat) : Int))), (15, .inl (.int .i64 ((((k % 8) * 8) : Nat) : Int))), (16, .inl (.int .u64 ((((wq g (k / 8)) / 2 ^ ((k % 8) * 8)) : Nat) : Int))), (17, .inl (.int .u8 (((((wq g (k / 8)) / 2 ^ ((k % 8) * 8)) % 256) : Nat) : Int))), (18, .inr (2, pt k))] [] [(2, ck (updN (kF g k) k (((wq g (k / 8)) / 2 ^ ((k % 8) * 8)) % 256)))] [nn, nn, nn, nn, eR 0, nn, nn, nn, nn, nn, nn, eS 2] ?_ ?_
    · exact oc (k_mv (.inl rfl) rfl) <|
      oc (k_mv (.inl rfl) rfl) <|
      oc (k_bi (.int .i64 ((k : Nat) : Int)) (.int .i64 ((8 : Nat) : Int)) (.int .i64 (((k / 8) : Nat) : Int)) (qu_i (m := k) (n := 8) (by decide) (by omega)) rfl rfl) <|
      oc (k_ia 0 0 ((k / 8)) (.int .i64 (((k / 8) : Nat) : Int)) (ixN (i := (k / 8)) (by omega)) rfl rfl) <|
      oc (k_ld 0 ((k / 8)) (.int .u64 (((wq g (k / 8)) : Nat) : Int)) (c := rs g) (ld_w (i := (k / 8)) (v := wq g (k / 8)) 83 (rs_get (by omega))) rfl rfl) <|
      oc (k_mv (.inl rfl) rfl) <|
      oc (k_bi (.int .i64 ((k : Nat) : Int)) (.int .i64 ((8 : Nat) : Int)) (.int .i64 (((k % 8) : Nat) : Int)) (re_i (m := k) (n := 8) (by decide)) rfl rfl) <|
      oc (k_bi (.int .i64 (((k % 8) : Nat) : Int)) (.int .i64 ((8 : Nat) : Int)) (.int .i64 ((((k % 8) * 8) : Nat) : Int)) (mu_i (m := (k % 8)) (n := 8) (by omega)) rfl rfl) <|
      oc (k_bi (.int .u64 (((wq g (k / 8)) : Nat) : Int)) (.int .i64 ((((k % 8) * 8) : Nat) : Int)) (.int .u64 ((((wq g (k / 8)) / 2 ^ ((k % 8) * 8)) : Nat) : Int)) (sr_q (m := (wq g (k / 8))) (r := ((k % 8) * 8)) (by omega)) rfl rfl) <|
      oc (k_co (.int .u64 ((((wq g (k / 8)) / 2 ^ ((k % 8) * 8)) : Nat) : Int)) (.int .u8 (((((wq g (k / 8)) / 2 ^ ((k % 8) * 8)) % 256) : Nat) : Int)) (cv_qb (n := ((wq g (k / 8)) / 2 ^ ((k % 8) * 8)))) rfl rfl) <|
      oc (k_ia 2 0 k (.int .i64 ((k : Nat) : Int)) (ixK (i := k) (by omega)) rfl rfl) <|
      oc (k_st 2 k (.int .u8 (((((wq g (k / 8)) / 2 ^ ((k % 8) * 8)) % 256) : Nat) : Int)) (c := ck (kF g k)) (n := ck (updN (kF g k) k (((wq g (k / 8)) / 2 ^ ((k % 8) * 8)) % 256))) (st_k (F := (kF g k)) (i := k) (v := (((wq g (k / 8)) / 2 ^ ((k % 8) * 8)) % 256)) (t0 := 23) (by omega)) rfl rfl) <|
      ok_nil
    clear h; intro β a w h
    refine blk_norm ?_
    refine sym_then ?_
    refine St.r0 h [(19, .inl (.int .i64 (((k + 1) : Nat) : Int))), (5, .inl (.int .i64 (((k + 1) : Nat) : Int)))] [eO] ?_ ?_
    · exact oc (k_b0 (.int .i64 ((k : Nat) : Int)) (.int .i64 ((1 : Nat) : Int)) (.int .i64 (((k + 1) : Nat) : Int)) (ad_i (m := k) (n := 1) (by omega)) rfl rfl) <|
      oz (k_mv (.inl rfl) rfl) <|
      ok_nil
    clear h; intro β a w h
    replace h := St.sm h 2 (ck (kF g (k + 1))) (c := ck (updN (kF g k) k (((wq g (k / 8)) / 2 ^ ((k % 8) * 8)) % 256))) (t := 23) (kF_next g k)
    replace h := St.cs h (s' := [.inl (.agg (rs g)), .inr (0, pt 0), .inr (1, pt 0), .inr (2, pt 0), .inl (.int .i64 ((k : Nat) : Int)), .inl (.int .i64 (((k + 1) : Nat) : Int)), .inl (.bool true), .inl (.int .i64 ((k : Nat) : Int)), .inl (.int .i64 ((k : Nat) : Int)), .inl (.int .i64 ((k : Nat) : Int)), .inl (.int .i64 (((k / 8) : Nat) : Int)), .inr (0, pt (k / 8)), .inl (.int .u64 (((wq g (k / 8)) : Nat) : Int)), .inl (.int .i64 ((k : Nat) : Int)), .inl (.int .i64 (((k % 8) : Nat) : Int)), .inl (.int .i64 ((((k % 8) * 8) : Nat) : Int)), .inl (.int .u64 ((((wq g (k / 8)) / 2 ^ ((k % 8) * 8)) : Nat) : Int)), .inl (.int .u8 (((((wq g (k / 8)) / 2 ^ ((k % 8) * 8)) % 256) : Nat) : Int)), .inr (2, pt k), .inl (.int .i64 (((k + 1) : Nat) : Int)), uu]) (m' := [(rs g, 83), (ck (fun _ => 0), 23), (ck (kF g (k + 1)), 23)]) (by kernel_rfl) (by kernel_rfl)
    exact ⟨hltk, _, _, _, _, _, _, _, _, _, _, _, _, _, _, _, _, h⟩
  · obtain rfl : k = 32 := by omega
    refine sym_seq ?_
    refine St.r0 h [(6, .inl (.bool false))] [] ?_ ?_
    · exact oz (k_bi (.int .i64 ((32 : Nat) : Int)) (.int .i64 ((32 : Nat) : Int)) (.bool false) (lt_i (m := ((32 : Nat) : Int)) (n := ((32 : Nat) : Int)) (decide_eq_false (by omega))) rfl rfl) <|
      ok_nil
    clear h; intro β a w h
    refine sym_then ?_
    refine sym_seq ?_
    refine s_cf h ?_
    refine wp_exit ?_
    refine then_exit ?_
    refine then_exit ?_
    refine blk_exit ?_
    refine sym_then ?_
    refine sym_seq ?_
    refine St.rg h [(20, .inl (.agg (ck (kF g 32))))] [] [(1, ck (kF g 32))] [eR 2, eS 1] ?_ ?_
    · exact oc (k_ld 2 0 (.agg (ck (kF g 32))) (c := ck (kF g 32)) (ldK (b := (kF g 32)) 23) rfl rfl) <|
      oc (k_st 1 0 (.agg (ck (kF g 32))) (c := ck (fun _ => 0)) (n := ck (kF g 32)) (stK (F := (kF g 32)) (c := ck (fun _ => 0)) 23 (ck_size _)) rfl rfl) <|
      ok_nil
    clear h; intro β a w h
    refine sym_then ?_
    refine wp_ret ?_
    exact s_rc (b := 1) (t0 := 23) (c := ck (kF g 32)) h Try.results53 Try.underlying23 (fun hb => ⟨rfl, hb⟩) (by rw [ck_size]; kernel_rfl)

theorem one_oL : 1 < oL := by decide +kernel
set_option maxHeartbeats 4000000 in
theorem residue_t {aa : Option Addr} {len cap : Nat} (hl : 64 < len) (W0 : World) : Calls Try.prog 21 #[.slice aa len cap] W0 fun e w' => e = .returned (.tuple #[.agg (ck (fun _ => 0)), .bool false]) ∧ Below W0.heap.size W0 w' := by
  refine s_in Try.func21 Try.ntmps21 rfl [.inl (.slice aa len cap)] ?_
  intro β a h
  refine sym_seq ?_
  refine St.rg h [(2, .inr (0, pt 0)), (3, .inl (.bool false))] [(ck (fun _ => 0), 23)] [] [eN 0] ?_ ?_
  · exact oc (k_al 0 alK rfl rfl) <|
    oz (k_mv (.inr rfl) rfl) <|
    ok_nil
  clear h; intro β a w h
  refine sym_then ?_
  refine sym_seq ?_
  refine sym_seq ?_
  refine St.r0 h [(4, .inl (.slice aa len cap)), (5, .inl (.int .i64 ((len : Nat) : Int))), (6, .inl (.bool true))] [] ?_ ?_
  · exact oz (k_mv (.inl rfl) rfl) <|
    oz (k_ln len cap rfl rfl (fun w => len_run _ w) (ad := aa)) <|
    oz (k_bi (.int .i64 ((len : Nat) : Int)) (.int .i64 ((64 : Nat) : Int)) (.bool true) (gt_i (m := ((len : Nat) : Int)) (n := ((64 : Nat) : Int)) (decide_eq_true (by omega))) rfl rfl) <|
    ok_nil
  clear h; intro β a w h
  refine sym_then ?_
  refine s_ct h ?_
  refine sym_seq ?_
  refine St.rg h [(7, .inl (.agg (ck (fun _ => 0))))] [] [(0, ck (fun _ => 0))] [nn, eS 0] ?_ ?_
  · exact oc (k_bu #[] (.agg (ck (fun _ => 0))) bdK0 rfl rfl) <|
    oc (k_st 0 0 (.agg (ck (fun _ => 0))) (c := ck (fun _ => 0)) (n := ck (fun _ => 0)) (stK (F := (fun _ => 0)) (c := ck (fun _ => 0)) 23 (ck_size _)) rfl rfl) <|
    oz (k_mv (.inr rfl) rfl) <|
    ok_nil
  clear h; intro β a w h
  refine sym_then ?_
  refine wp_ret ?_
  refine then_ret ?_
  exact s_r2 (b := 0) (t0 := 23) (c := ck (fun _ => 0)) h Try.results21 Try.underlying23 (fun hb => ⟨rfl, hb⟩) (by rw [ck_size]; kernel_rfl)

set_option maxHeartbeats 4000000 in
theorem residue_f {aa : Option Addr} {len cap : Nat} {f : Nat → Nat} (hl : len ≤ 64) (W0 : World) (hb : Bs W0 aa len f) : Calls Try.prog 21 #[.slice aa len cap] W0 fun e w' => e = .returned (.tuple #[.agg (ck (kq (nB f len * 1 % oL))), .bool true]) ∧ Below W0.heap.size W0 w' := by
  refine s_in Try.func21 Try.ntmps21 rfl [.inl (.slice aa len cap)] ?_
  intro β a h
  refine sym_seq ?_
  refine St.rg h [(2, .inr (0, pt 0)), (3, .inl (.bool false))] [(ck (fun _ => 0), 23)] [] [eN 0] ?_ ?_
  · exact oc (k_al 0 alK rfl rfl) <|
    oz (k_mv (.inr rfl) rfl) <|
    ok_nil
  clear h; intro β a w h
  refine sym_then ?_
  refine sym_seq ?_
  refine sym_seq ?_
  refine St.r0 h [(4, .inl (.slice aa len cap)), (5, .inl (.int .i64 ((len : Nat) : Int))), (6, .inl (.bool false))] [] ?_ ?_
  · exact oz (k_mv (.inl rfl) rfl) <|
    oz (k_ln len cap rfl rfl (fun w => len_run _ w) (ad := aa)) <|
    oz (k_bi (.int .i64 ((len : Nat) : Int)) (.int .i64 ((64 : Nat) : Int)) (.bool false) (gt_i (m := ((len : Nat) : Int)) (n := ((64 : Nat) : Int)) (decide_eq_false (by omega))) rfl rfl) <|
    ok_nil
  clear h; intro β a w h
  refine sym_then ?_
  refine s_cf h ?_
  refine wp_skip ?_
  refine sym_then ?_
  refine sym_seq ?_
  refine St.rg h [(8, .inl (.slice aa len cap)), (9, .inl (.agg (rs 1))), (10, .inl (.agg (rs (nB f len * 1 % oL)))), (11, .inl (.agg (ck (kq (nB f len * 1 % oL))))), (3, .inl (.bool true))] [] [(0, ck (kq (nB f len * 1 % oL)))] [nn, nn, nn, nn, eS 0] ?_ ?_
  · exact oc (k_mv (.inl rfl) rfl) <|
    oc (k_bu #[(0, .int .u64 ((1 : Nat) : Int))] (.agg (rs 1)) bdN1 rfl rfl) <|
    oc (k_cw 51 #[.slice aa len cap, .agg (rs 1)] (.agg (rs (nB f len * 1 % oL))) (fun w hw => times_L one_oL (by omega) w (hb.later hw.below)) rfl rfl) <|
    oc (k_ca 53 #[.agg (rs (nB f len * 1 % oL))] (.agg (ck (kq (nB f len * 1 % oL)))) (fun w => rkey_L _ w) rfl rfl) <|
    oc (k_st 0 0 (.agg (ck (kq (nB f len * 1 % oL)))) (c := ck (fun _ => 0)) (n := ck (kq (nB f len * 1 % oL))) (stK (F := (kq (nB f len * 1 % oL))) (c := ck (fun _ => 0)) 23 (ck_size _)) rfl rfl) <|
    oz (k_mv (.inr rfl) rfl) <|
    ok_nil
  clear h; intro β a w h
  refine sym_then ?_
  refine wp_ret ?_
  exact s_r2 (b := 0) (t0 := 23) (c := ck (kq (nB f len * 1 % oL))) h Try.results21 Try.underlying23 (fun hb => ⟨rfl, hb⟩) (by rw [ck_size]; kernel_rfl)
theorem residue_L {aa : Option Addr} {len cap : Nat} {f : Nat → Nat} (hl : len ≤ 64) (W0 : World) (hb : Bs W0 aa len f) : Calls Try.prog 21 #[.slice aa len cap] W0 fun e w' => e = .returned (.tuple #[.agg (ck (kq (nB f len % oL))), .bool true]) ∧ Below W0.heap.size W0 w' := by
  have := residue_f (cap := cap) hl W0 hb
  rwa [Nat.mul_one] at this

theorem oL_pos : 0 < oL := by decide +kernel
set_option maxHeartbeats 4000000 in
theorem times_w {f0 f1 f2 : Nat → Nat} (hf0 : ∀ i, f0 i < 256) (hf1 : ∀ i, f1 i < 256) (hf2 : ∀ i, f2 i < 256) (W0 : World) : Calls Try.prog 19 #[.agg (ck f0), .agg (ck f1), .agg (ck f2)] W0 fun e w' => e = .returned (.agg (ck (kq (sumL (nB f0 32 * (nB f1 32 * 1 % oL) % oL) (nB f2 32 * 1 % oL))))) ∧ Below W0.heap.size W0 w' := by
  refine s_in Try.func19 Try.ntmps19 rfl [.inl (.agg (ck f0)), .inl (.agg (ck f1)), .inl (.agg (ck f2))] ?_
  intro β a h
  refine sym_seq ?_
  refine St.rg h [(3, .inr (0, pt 0)), (4, .inr (1, pt 0)), (5, .inr (2, pt 0)), (6, .inr (3, pt 0))] [(ck f0, 23), (ck f1, 23), (ck f2, 23), (ck (fun _ => 0), 23)] [] [eN 0, eN 1, eN 2, eN 3] ?_ ?_
  · exact oc (k_bx 0 (.agg (ck f0)) (bxK (b := f0)) rfl rfl) <|
    oc (k_bx 1 (.agg (ck f1)) (bxK (b := f1)) rfl rfl) <|
    oc (k_bx 2 (.agg (ck f2)) (bxK (b := f2)) rfl rfl) <|
    oc (k_al 3 alK rfl rfl) <|
    ok_nil
  clear h; intro β a w h
  refine sym_then ?_
  refine sym_seq ?_
  refine St.rg h [(9, .inl (.agg (rs 1))), (7, .inr (4, pt 0))] [(rs 0, 83)] [(4, rs 1)] [nn, eN 4, eS 4] ?_ ?_
  · exact oc (k_bu #[(0, .int .u64 ((1 : Nat) : Int))] (.agg (rs 1)) bdN1 rfl rfl) <|
    oc (k_al 4 alN rfl rfl) <|
    oc (k_st 4 0 (.agg (rs 1)) (c := rs 0) (n := rs 1) (stN' (n := 1) 83 rfl) rfl rfl) <|
    ok_nil
  clear h; intro β a w h
  refine sym_then ?_
  refine sym_seq ?_
  refine St.rg h [(10, .inr (0, sl 0 32 32)), (11, .inr (1, sl 0 32 32)), (12, .inl (.agg (rs 1))), (13, .inl (.agg (rs (nB f1 32 * 1 % oL)))), (14, .inl (.agg (rs (nB f0 32 * (nB f1 32 * 1 % oL) % oL)))), (8, .inr (5, pt 0))] [(rs 0, 83)] [(5, rs (nB f0 32 * (nB f1 32 * 1 % oL) % oL))] [nn, nn, eR 4, eR 1, eR 0, eN 5, eS 5] ?_ ?_
  · exact oc (k_sl 0 32 rfl rfl sl_k) <|
    oc (k_sl 1 32 rfl rfl sl_k) <|
    oc (k_ld 4 0 (.agg (rs 1)) (c := rs 1) (ldN (n := 1) 83) rfl rfl) <|
    oc (k_cb 51 (fun q => #[.slice (some ⟨q, 0, none⟩) 32 32, .agg (rs 1)]) (.agg (rs (nB f1 32 * 1 % oL))) 1 11 (fun w q _ hq => times_L one_oL (by omega) w (bs_key hf1 hq)) rfl rfl (by simp) (fm := sl 0 32 32) (t0 := 23)) <|
    oc (k_cb 51 (fun q => #[.slice (some ⟨q, 0, none⟩) 32 32, .agg (rs (nB f1 32 * 1 % oL))]) (.agg (rs (nB f0 32 * (nB f1 32 * 1 % oL) % oL))) 0 10 (fun w q _ hq => times_L (Nat.mod_lt _ oL_pos) (by omega) w (bs_key hf0 hq)) rfl rfl (by simp) (fm := sl 0 32 32) (t0 := 23)) <|
    oc (k_al 5 alN rfl rfl) <|
    oc (k_st 5 0 (.agg (rs (nB f0 32 * (nB f1 32 * 1 % oL) % oL))) (c := rs 0) (n := rs (nB f0 32 * (nB f1 32 * 1 % oL) % oL)) (stN' (n := (nB f0 32 * (nB f1 32 * 1 % oL) % oL)) 83 rfl) rfl rfl) <|
    ok_nil
  clear h; intro β a w h
  refine sym_then ?_
  refine sym_seq ?_
  refine St.rg h [(15, .inl (.agg (rs (nB f0 32 * (nB f1 32 * 1 % oL) % oL)))), (16, .inr (2, sl 0 32 32)), (17, .inl (.agg (rs 1))), (18, .inl (.agg (rs (nB f2 32 * 1 % oL)))), (19, .inl (.agg (rs (sumL (nB f0 32 * (nB f1 32 * 1 % oL) % oL) (nB f2 32 * 1 % oL))))), (20, .inl (.agg (ck (kq (sumL (nB f0 32 * (nB f1 32 * 1 % oL) % oL) (nB f2 32 * 1 % oL))))))] [] [(3, ck (kq (sumL (nB f0 32 * (nB f1 32 * 1 % oL) % oL) (nB f2 32 * 1 % oL))))] [eR 5, nn, eR 4, eR 2, nn, nn, eS 3] ?_ ?_
  · exact oc (k_ld 5 0 (.agg (rs (nB f0 32 * (nB f1 32 * 1 % oL) % oL))) (c := rs (nB f0 32 * (nB f1 32 * 1 % oL) % oL)) (ldN (n := (nB f0 32 * (nB f1 32 * 1 % oL) % oL)) 83) rfl rfl) <|
    oc (k_sl 2 32 rfl rfl sl_k) <|
    oc (k_ld 4 0 (.agg (rs 1)) (c := rs 1) (ldN (n := 1) 83) rfl rfl) <|
    oc (k_cb 51 (fun q => #[.slice (some ⟨q, 0, none⟩) 32 32, .agg (rs 1)]) (.agg (rs (nB f2 32 * 1 % oL))) 2 16 (fun w q _ hq => times_L one_oL (by omega) w (bs_key hf2 hq)) rfl rfl (by simp) (fm := sl 0 32 32) (t0 := 23)) <|
    oc (k_ca 52 #[.agg (rs (nB f0 32 * (nB f1 32 * 1 % oL) % oL)), .agg (rs (nB f2 32 * 1 % oL))] (.agg (rs (sumL (nB f0 32 * (nB f1 32 * 1 % oL) % oL) (nB f2 32 * 1 % oL)))) (fun w => plus_res (Nat.mod_lt _ oL_pos) (Nat.mod_lt _ oL_pos) w) rfl rfl) <|
    oc (k_ca 53 #[.agg (rs (sumL (nB f0 32 * (nB f1 32 * 1 % oL) % oL) (nB f2 32 * 1 % oL)))] (.agg (ck (kq (sumL (nB f0 32 * (nB f1 32 * 1 % oL) % oL) (nB f2 32 * 1 % oL))))) (fun w => rkey_L _ w) rfl rfl) <|
    oc (k_st 3 0 (.agg (ck (kq (sumL (nB f0 32 * (nB f1 32 * 1 % oL) % oL) (nB f2 32 * 1 % oL))))) (c := ck (fun _ => 0)) (n := ck (kq (sumL (nB f0 32 * (nB f1 32 * 1 % oL) % oL) (nB f2 32 * 1 % oL)))) (stK (F := (kq (sumL (nB f0 32 * (nB f1 32 * 1 % oL) % oL) (nB f2 32 * 1 % oL)))) (c := ck (fun _ => 0)) 23 (ck_size _)) rfl rfl) <|
    ok_nil
  clear h; intro β a w h
  refine sym_then ?_
  refine wp_ret ?_
  exact s_rc (b := 3) (t0 := 23) (c := ck (kq (sumL (nB f0 32 * (nB f1 32 * 1 % oL) % oL) (nB f2 32 * 1 % oL)))) h Try.results19 Try.underlying23 (fun hb => ⟨rfl, hb⟩) (by rw [ck_size]; kernel_rfl)
theorem times_K {f0 f1 f2 : Nat → Nat} (hf0 : ∀ i, f0 i < 256) (hf1 : ∀ i, f1 i < 256) (hf2 : ∀ i, f2 i < 256) (W0 : World) : Calls Try.prog 19 #[.agg (ck f0), .agg (ck f1), .agg (ck f2)] W0 fun e w' => e = .returned (.agg (ck (kq ((nB f0 32 * nB f1 32 + nB f2 32) % oL)))) ∧ Below W0.heap.size W0 w' := by
  have h := times_w hf0 hf1 hf2 W0
  have e : sumL (nB f0 32 * (nB f1 32 * 1 % oL) % oL) (nB f2 32 * 1 % oL) = (nB f0 32 * nB f1 32 + nB f2 32) % oL := by
    unfold sumL
    rw [Nat.mul_one, Nat.mul_one, Nat.mul_mod_mod, ← Nat.add_mod]
  rwa [e] at h

set_option maxRecDepth 100000 in
theorem eqK_f2 {x u : Operand} {F G : Nat → Nat} (h : ¬ ∀ i, i < 32 → F i = G i) (w : World) : (do eqGuard .eql 23 x u (.agg (ck F)) (.agg (ck G)); binOp .eql 23 (.agg (ck F)) (.agg (ck G))).run Try.prog w = .ok (.bool false) w := by
  have h1 := eq_ints (P := Try.prog) (t := 23) (e := 5) (n := 32) (k := .u8) (k' := .u8) Try.underlying23 (inf := _) rfl (by kernel_rfl) Try.underlying5 (fun _ => by kernel_rfl) (ck F) (ck G) (fun i => (F i : Int)) (fun i => (G i : Int)) (fun i hi => arr_get _ _ _ hi) (fun i hi => arr_get _ _ _ hi) w
  rw [decide_eq_false (fun hh => h fun i hi => by have := hh i hi; omega)] at h1
  simp [eqGuard, binOp, go_sem, Op.equal, Op.maxDepth, h1]

set_option maxHeartbeats 4000000 in
theorem least_t {f : Nat → Nat} (hf : ∀ i, f i < 256) (hk : ∀ i, i < 32 → kq (nB f 32 % oL) i = f i) (W0 : World) : Calls Try.prog 23 #[.agg (ck f)] W0 fun e w' => e = .returned (.bool true) ∧ Below W0.heap.size W0 w' := by
  refine s_in Try.func23 Try.ntmps23 rfl [.inl (.agg (ck f))] ?_
  intro β a h
  refine sym_seq ?_
  refine St.rg h [(1, .inr (0, pt 0)), (2, .inl (.bool false))] [(ck f, 23)] [] [eN 0] ?_ ?_
  · exact oc (k_bx 0 (.agg (ck f)) (bxK (b := f)) rfl rfl) <|
    oz (k_mv (.inr rfl) rfl) <|
    ok_nil
  clear h; intro β a w h
  refine sym_then ?_
  refine sym_seq ?_
  refine St.rg h [(6, .inr (0, sl 0 32 32)), (7, .inl (.tuple #[.agg (ck (kq (nB f 32 % oL))), .bool true])), (5, .inl (.tuple #[.agg (ck (kq (nB f 32 % oL))), .bool true])), (8, .inl (.agg (ck (kq (nB f 32 % oL))))), (9, .inl (.bool true)), (3, .inr (1, pt 0)), (4, .inl (.bool true))] [(ck (fun _ => 0), 23)] [(1, ck (kq (nB f 32 % oL)))] [nn, eR 0, nn, nn, nn, eN 1, eS 1] ?_ ?_
  · exact oc (k_sl 0 32 rfl rfl sl_k) <|
    oc (k_cb 21 (fun q => #[.slice (some ⟨q, 0, none⟩) 32 32]) (.tuple #[.agg (ck (kq (nB f 32 % oL))), .bool true]) 0 6 (fun w q _ hq => residue_L (by omega) w (bs_key hf hq)) rfl rfl (by simp) (fm := sl 0 32 32) (t0 := 23)) <|
    oc (k_mv (.inl rfl) rfl) <|
    oc (k_ex (.tuple #[.agg (ck (kq (nB f 32 % oL))), .bool true]) (.agg (ck (kq (nB f 32 % oL)))) rfl rfl) <|
    oc (k_ex (.tuple #[.agg (ck (kq (nB f 32 % oL))), .bool true]) (.bool true) rfl rfl) <|
    oc (k_al 1 alK rfl rfl) <|
    oc (k_st 1 0 (.agg (ck (kq (nB f 32 % oL)))) (c := ck (fun _ => 0)) (n := ck (kq (nB f 32 % oL))) (stK (F := (kq (nB f 32 % oL))) (c := ck (fun _ => 0)) 23 (ck_size _)) rfl rfl) <|
    oz (k_mv (.inr rfl) rfl) <|
    ok_nil
  clear h; intro β a w h
  refine sym_then ?_
  refine sym_seq ?_
  refine St.r0 h [(10, .inl (.agg (ck (kq (nB f 32 % oL))))), (11, .inl (.agg (ck f))), (12, .inl (.bool true)), (2, .inl (.bool true))] [eR 1, eR 0] ?_ ?_
  · exact oc (k_ld 1 0 (.agg (ck (kq (nB f 32 % oL)))) (c := ck (kq (nB f 32 % oL))) (ldK (b := (kq (nB f 32 % oL))) 23) rfl rfl) <|
    oc (k_ld 0 0 (.agg (ck f)) (c := ck f) (ldK (b := f) 23) rfl rfl) <|
    oz (k_bi (.agg (ck (kq (nB f 32 % oL)))) (.agg (ck f)) (.bool true) (eqK_t (F := (kq (nB f 32 % oL))) (G := f) hk) rfl rfl) <|
    oz (k_mv (.inr rfl) rfl) <|
    ok_nil
  clear h; intro β a w h
  refine sym_then ?_
  refine wp_ret ?_
  exact s_rt h Try.results23 (fun hb => ⟨rfl, hb⟩)

set_option maxHeartbeats 4000000 in
theorem least_f {f : Nat → Nat} (hf : ∀ i, f i < 256) (hk : ¬ ∀ i, i < 32 → kq (nB f 32 % oL) i = f i) (W0 : World) : Calls Try.prog 23 #[.agg (ck f)] W0 fun e w' => e = .returned (.bool false) ∧ Below W0.heap.size W0 w' := by
  refine s_in Try.func23 Try.ntmps23 rfl [.inl (.agg (ck f))] ?_
  intro β a h
  refine sym_seq ?_
  refine St.rg h [(1, .inr (0, pt 0)), (2, .inl (.bool false))] [(ck f, 23)] [] [eN 0] ?_ ?_
  · exact oc (k_bx 0 (.agg (ck f)) (bxK (b := f)) rfl rfl) <|
    oz (k_mv (.inr rfl) rfl) <|
    ok_nil
  clear h; intro β a w h
  refine sym_then ?_
  refine sym_seq ?_
  refine St.rg h [(6, .inr (0, sl 0 32 32)), (7, .inl (.tuple #[.agg (ck (kq (nB f 32 % oL))), .bool true])), (5, .inl (.tuple #[.agg (ck (kq (nB f 32 % oL))), .bool true])), (8, .inl (.agg (ck (kq (nB f 32 % oL))))), (9, .inl (.bool true)), (3, .inr (1, pt 0)), (4, .inl (.bool true))] [(ck (fun _ => 0), 23)] [(1, ck (kq (nB f 32 % oL)))] [nn, eR 0, nn, nn, nn, eN 1, eS 1] ?_ ?_
  · exact oc (k_sl 0 32 rfl rfl sl_k) <|
    oc (k_cb 21 (fun q => #[.slice (some ⟨q, 0, none⟩) 32 32]) (.tuple #[.agg (ck (kq (nB f 32 % oL))), .bool true]) 0 6 (fun w q _ hq => residue_L (by omega) w (bs_key hf hq)) rfl rfl (by simp) (fm := sl 0 32 32) (t0 := 23)) <|
    oc (k_mv (.inl rfl) rfl) <|
    oc (k_ex (.tuple #[.agg (ck (kq (nB f 32 % oL))), .bool true]) (.agg (ck (kq (nB f 32 % oL)))) rfl rfl) <|
    oc (k_ex (.tuple #[.agg (ck (kq (nB f 32 % oL))), .bool true]) (.bool true) rfl rfl) <|
    oc (k_al 1 alK rfl rfl) <|
    oc (k_st 1 0 (.agg (ck (kq (nB f 32 % oL)))) (c := ck (fun _ => 0)) (n := ck (kq (nB f 32 % oL))) (stK (F := (kq (nB f 32 % oL))) (c := ck (fun _ => 0)) 23 (ck_size _)) rfl rfl) <|
    oz (k_mv (.inr rfl) rfl) <|
    ok_nil
  clear h; intro β a w h
  refine sym_then ?_
  refine sym_seq ?_
  refine St.r0 h [(10, .inl (.agg (ck (kq (nB f 32 % oL))))), (11, .inl (.agg (ck f))), (12, .inl (.bool false))] [eR 1, eR 0] ?_ ?_
  · exact oc (k_ld 1 0 (.agg (ck (kq (nB f 32 % oL)))) (c := ck (kq (nB f 32 % oL))) (ldK (b := (kq (nB f 32 % oL))) 23) rfl rfl) <|
    oc (k_ld 0 0 (.agg (ck f)) (c := ck f) (ldK (b := f) 23) rfl rfl) <|
    oz (k_bi (.agg (ck (kq (nB f 32 % oL)))) (.agg (ck f)) (.bool false) (eqK_f2 (F := (kq (nB f 32 % oL))) (G := f) hk) rfl rfl) <|
    oz (k_mv (.inr rfl) rfl) <|
    ok_nil
  clear h; intro β a w h
  refine sym_then ?_
  refine wp_ret ?_
  exact s_rt h Try.results23 (fun hb => ⟨rfl, hb⟩)

end Go.Proofs.Ytpogmflgmpifoaa

namespace Go.Proofs.Ytpogmflgmpifoaa
open Go.RowKit

def ordL : List Nat := [237, 211, 245, 92, 26, 99, 18, 88, 214, 156, 247, 162, 222, 249, 222, 20, 0, 0, 0, 0, 0, 0, 0, 0, 0, 0, 0, 0, 0, 0, 0, 16]
theorem ord_lt : ∀ i, kl ordL i < 256 := kl_lt (by decide)
theorem ord_n : nbv (kl ordL) 32 = oL := by decide +kernel
theorem ord_v : (fldM sumS (0, ad 0 1, 1, mu 0 (ad 0 1)) (gX, ad gB 1, 1, mu gX (ad gB 1)) (tops (kl ordL) (8 * 32) (8 * 32))).1 = 0 ∧ (fldM sumS (0, ad 0 1, 1, mu 0 (ad 0 1)) (gX, ad gB 1, 1, mu gX (ad gB 1)) (tops (kl ordL) (8 * 32) (8 * 32))).2.1 = (fldM sumS (0, ad 0 1, 1, mu 0 (ad 0 1)) (gX, ad gB 1, 1, mu gX (ad gB 1)) (tops (kl ordL) (8 * 32) (8 * 32))).2.2.1 := by decide +kernel

theorem pj_zero {v : Nat × Nat × Nat × Nat} {p : Fp × Fp} (h : Pj v p) (h0 : v.1 = 0) (h1 : v.2.1 = v.2.2.1) : p = pO := by
  obtain ⟨nz, e1, e2, -⟩ := h
  have hi := fi_mul nz
  have c0 : cf 0 = 0 := rfl
  rw [h0, c0] at e1
  rw [h1] at e2
  generalize cf v.2.2.1 = z at *
  refine Prod.ext ?_ ?_
  · show p.1 = 0
    grind
  · show p.2 = 1
    grind
theorem G_sh : Pj (gX, ad gB 1, 1, mu gX (ad gB 1)) gG := by
  have h := sh_pj gG
  have h1 : gG.1.val = gX := cf_sv gX_lt
  have h2 : gG.2.val = ad gB 1 := cf_sv (ad_lt _ _)
  rw [ad_v, h1, h2] at h
  exact h
theorem O_sh : Pj (0, ad 0 1, 1, mu 0 (ad 0 1)) pO := by
  have h := sh_pj pO
  rw [o_sh, o_x] at h
  exact h
/-- The generator, as many times as the order, is the origin. -/
theorem ord_G : mt oL gG = pO := by
  have gO : Gd (0, ad 0 1, 1, mu 0 (ad 0 1)) := ⟨zero_ltp, ad_lt _ _, one_ltp, mu_lt _ _⟩
  have gg : Gd (gX, ad gB 1, 1, mu gX (ad gB 1)) := ⟨gX_lt, ad_lt _ _, one_ltp, mu_lt _ _⟩
  have hr := fldM_rel (add := sumS) (no := (0, ad 0 1, 1, mu 0 (ad 0 1))) (one := (gX, ad gB 1, 1, mu gX (ad gB 1))) gG_oc (Rl := fun v q => Gd v ∧ Pj v q) (fun u v q r hq hr h1 h2 => ⟨sumS_gd _ _, sumS_pj h1.1 h2.1 hq hr h1.2 h2.2⟩) ⟨gO, O_sh⟩ ⟨gg, G_sh⟩ (tops (kl ordL) (8 * 32) (8 * 32))
  rw [tops_all ord_lt, ord_n] at hr
  exact pj_zero hr.2 ord_v.1 ord_v.2
theorem mt_O : ∀ j, mt j pO = pO
  | 0 => rfl
  | j + 1 => by show pa (mt j pO) pO = pO; rw [mt_O j, pa_O]
theorem mt_mod (n : Nat) : mt (n % oL) gG = mt n gG := by
  have h := mt_add gG_oc (n / oL * oL) (n % oL)
  rw [← mt_mul gG_oc oL, ord_G, mt_O, pa_comm, pa_O, Nat.mul_comm, Nat.div_add_mod] at h
  exact h
theorem nB_nbv (f : Nat → Nat) : ∀ k, nB f k = nbv f k
  | 0 => rfl
  | k + 1 => by show nB f k + _ = nbv f k + _; rw [nB_nbv f k]
theorem nbv_kq {n : Nat} : ∀ k, nbv (kq n) k = n % 256 ^ k
  | 0 => by rw [Nat.pow_zero, Nat.mod_one]; rfl
  | k + 1 => by
    show nbv (kq n) k + kq n k * 256 ^ k = _
    rw [nbv_kq k, Nat.pow_succ, Nat.mod_mul]
    unfold kq
    rw [Nat.mul_comm]
theorem oL_256 {n : Nat} (h : n < oL) : nbv (kq n) 32 = n := by
  rw [nbv_kq, Nat.mod_eq_of_lt]
  exact Nat.lt_trans h (by decide +kernel)
end Go.Proofs.Ytpogmflgmpifoaa

namespace Go.Proofs.Ytpogmflgmpifoaa
open Go.RowKit
theorem rord_r (W0 : World) : Calls Try.prog 20 #[] W0 fun e w' => e = .returned (.agg (ck (kl ordL))) ∧ Below W0.heap.size W0 w' := by
  show Calls Try.prog 20 #[] W0 fun e w' => e = .returned (.agg (ck (kl [237, 211, 245, 92, 26, 99, 18, 88, 214, 156, 247, 162, 222, 249, 222, 20, 0, 0, 0, 0, 0, 0, 0, 0, 0, 0, 0, 0, 0, 0, 0, 16]))) ∧ Below W0.heap.size W0 w'
  refine s_in Try.func20 Try.ntmps20 rfl [] ?_
  intro β a h
  refine sym_seq ?_
  refine St.rg h [(0, .inr (0, pt 0))] [(ck (fun _ => 0), 23)] [] [eN 0] ?_ ?_
  · exact oc (k_al 0 alK rfl rfl) <|
    ok_nil
  clear h; intro β a w h
  refine sym_then ?_
  refine sym_seq ?_
  refine St.rg h [(1, .inl (.agg (ck (kl [237, 211, 245, 92, 26, 99, 18, 88, 214, 156, 247, 162, 222, 249, 222, 20, 0, 0, 0, 0, 0, 0, 0, 0, 0, 0, 0, 0, 0, 0, 0, 16]))))] [] [(0, ck (kl [237, 211, 245, 92, 26, 99, 18, 88, 214, 156, 247, 162, 222, 249, 222, 20, 0, 0, 0, 0, 0, 0, 0, 0, 0, 0, 0, 0, 0, 0, 0, 16]))] [nn, eS 0] ?_ ?_
  · exact oc (k_bu #[(0, .int .u8 ((237 : Nat) : Int)), (1, .int .u8 ((211 : Nat) : Int)), (2, .int .u8 ((245 : Nat) : Int)), (3, .int .u8 ((92 : Nat) : Int)), (4, .int .u8 ((26 : Nat) : Int)), (5, .int .u8 ((99 : Nat) : Int)), (6, .int .u8 ((18 : Nat) : Int)), (7, .int .u8 ((88 : Nat) : Int)), (8, .int .u8 ((214 : Nat) : Int)), (9, .int .u8 ((156 : Nat) : Int)), (10, .int .u8 ((247 : Nat) : Int)), (11, .int .u8 ((162 : Nat) : Int)), (12, .int .u8 ((222 : Nat) : Int)), (13, .int .u8 ((249 : Nat) : Int)), (14, .int .u8 ((222 : Nat) : Int)), (15, .int .u8 ((20 : Nat) : Int)), (16, .int .u8 ((0 : Nat) : Int)), (17, .int .u8 ((0 : Nat) : Int)), (18, .int .u8 ((0 : Nat) : Int)), (19, .int .u8 ((0 : Nat) : Int)), (20, .int .u8 ((0 : Nat) : Int)), (21, .int .u8 ((0 : Nat) : Int)), (22, .int .u8 ((0 : Nat) : Int)), (23, .int .u8 ((0 : Nat) : Int)), (24, .int .u8 ((0 : Nat) : Int)), (25, .int .u8 ((0 : Nat) : Int)), (26, .int .u8 ((0 : Nat) : Int)), (27, .int .u8 ((0 : Nat) : Int)), (28, .int .u8 ((0 : Nat) : Int)), (29, .int .u8 ((0 : Nat) : Int)), (30, .int .u8 ((0 : Nat) : Int)), (31, .int .u8 ((16 : Nat) : Int))] (.agg (ck (kl [237, 211, 245, 92, 26, 99, 18, 88, 214, 156, 247, 162, 222, 249, 222, 20, 0, 0, 0, 0, 0, 0, 0, 0, 0, 0, 0, 0, 0, 0, 0, 16]))) (fun w => by kernel_rfl) rfl rfl) <|
    oc (k_st 0 0 (.agg (ck (kl [237, 211, 245, 92, 26, 99, 18, 88, 214, 156, 247, 162, 222, 249, 222, 20, 0, 0, 0, 0, 0, 0, 0, 0, 0, 0, 0, 0, 0, 0, 0, 16]))) (c := ck (fun _ => 0)) (n := ck (kl [237, 211, 245, 92, 26, 99, 18, 88, 214, 156, 247, 162, 222, 249, 222, 20, 0, 0, 0, 0, 0, 0, 0, 0, 0, 0, 0, 0, 0, 0, 0, 16])) (stK (F := (kl [237, 211, 245, 92, 26, 99, 18, 88, 214, 156, 247, 162, 222, 249, 222, 20, 0, 0, 0, 0, 0, 0, 0, 0, 0, 0, 0, 0, 0, 0, 0, 16])) (c := ck (fun _ => 0)) 23 (ck_size _)) rfl rfl) <|
    ok_nil
  clear h; intro β a w h
  refine sym_then ?_
  refine wp_ret ?_
  exact s_rc (b := 0) (t0 := 23) (c := ck (kl [237, 211, 245, 92, 26, 99, 18, 88, 214, 156, 247, 162, 222, 249, 222, 20, 0, 0, 0, 0, 0, 0, 0, 0, 0, 0, 0, 0, 0, 0, 0, 16])) h Try.results20 Try.underlying23 (fun hb => ⟨rfl, hb⟩) (by rw [ck_size]; kernel_rfl)
set_option maxHeartbeats 4000000 in
theorem curveGroup_t {g0 g1 g2 F F1 F2 : Nat → Nat} {G P Q R M1 M2 PQ QP A1 QR A2 PO PM O : Fp × Fp} (cG : (∀ w, Calls Try.prog 15 #[] w fun e w' => e = .returned (.agg (pvt G)) ∧ Below w.heap.size w w')) (c0 : (∀ w, Calls Try.prog 11 #[.agg (pvt G), .agg (ck g0)] w fun e w' => e = .returned (.agg (pvt P)) ∧ Below w.heap.size w w')) (c1 : (∀ w, Calls Try.prog 11 #[.agg (pvt G), .agg (ck g1)] w fun e w' => e = .returned (.agg (pvt Q)) ∧ Below w.heap.size w w')) (c2 : (∀ w, Calls Try.prog 11 #[.agg (pvt G), .agg (ck g2)] w fun e w' => e = .returned (.agg (pvt R)) ∧ Below w.heap.size w w')) (c3 : (∀ w, Calls Try.prog 11 #[.agg (pvt G), .agg (ck F1)] w fun e w' => e = .returned (.agg (pvt M1)) ∧ Below w.heap.size w w')) (c4 : (∀ w, Calls Try.prog 11 #[.agg (pvt G), .agg (ck F2)] w fun e w' => e = .returned (.agg (pvt M2)) ∧ Below w.heap.size w w'))
    (d0 : (∀ w, Calls Try.prog 17 #[.agg (pvt P), .agg (pvt Q)] w fun e w' => e = .returned (.agg (pvt PQ)) ∧ Below w.heap.size w w')) (d1 : (∀ w, Calls Try.prog 17 #[.agg (pvt Q), .agg (pvt P)] w fun e w' => e = .returned (.agg (pvt QP)) ∧ Below w.heap.size w w')) (d2 : (∀ w, Calls Try.prog 17 #[.agg (pvt PQ), .agg (pvt R)] w fun e w' => e = .returned (.agg (pvt A1)) ∧ Below w.heap.size w w')) (d3 : (∀ w, Calls Try.prog 17 #[.agg (pvt Q), .agg (pvt R)] w fun e w' => e = .returned (.agg (pvt QR)) ∧ Below w.heap.size w w')) (d4 : (∀ w, Calls Try.prog 17 #[.agg (pvt P), .agg (pvt QR)] w fun e w' => e = .returned (.agg (pvt A2)) ∧ Below w.heap.size w w')) (d5 : (∀ w, Calls Try.prog 17 #[.agg (pvt P), .agg (pvt O)] w fun e w' => e = .returned (.agg (pvt PO)) ∧ Below w.heap.size w w')) (d6 : (∀ w, Calls Try.prog 18 #[.agg (pvt PQ), .agg (pvt Q)] w fun e w' => e = .returned (.agg (pvt PM)) ∧ Below w.heap.size w w'))
    (cK : (∀ w, Calls Try.prog 12 #[.agg (pvt P)] w fun e w' => e = .returned (.agg (ck F)) ∧ Below w.heap.size w w')) (cO : (∀ w, Calls Try.prog 9 #[.agg (ck F)] w fun e w' => e = .returned (.tuple #[.agg (pvt P), .bool true]) ∧ Below w.heap.size w w')) (cT : (∀ w, Calls Try.prog 19 #[.agg (ck g0), .agg (ck (kl [1])), .agg (ck g1)] w fun e w' => e = .returned (.agg (ck F1)) ∧ Below w.heap.size w w')) (cR : (∀ w, Calls Try.prog 20 #[] w fun e w' => e = .returned (.agg (ck F2)) ∧ Below w.heap.size w w')) (e1 : PQ = QP) (e2 : A1 = A2) (e3 : PO = P) (e4 : PM = P) (e5 : M1 = PQ) (e6 : M2 = O)
    (al0 : ∀ w : World, (Instr.alloc 31 true (.tuple #[])).run Try.prog w = .ok (.pointer (some ⟨w.heap.size, 0, none⟩)) (w.alloc (.cells (pvt O) 31))) (bd0 : ∀ w : World, (Instr.build 31 #[]).run Try.prog w = .ok (.agg (pvt O)) w) (W0 : World) : Calls Try.prog 4 #[.agg (ck g0), .agg (ck g1), .agg (ck g2)] W0 fun e w' => e = .returned (.bool true) ∧ Below W0.heap.size W0 w' := by
  refine s_in Try.func4 Try.ntmps4 rfl [.inl (.agg (ck g0)), .inl (.agg (ck g1)), .inl (.agg (ck g2))] ?_
  intro β a h
  refine sym_seq ?_
  refine St.rg h [(3, .inr (0, pt 0)), (4, .inr (1, pt 0)), (5, .inr (2, pt 0)), (6, .inl (.bool false))] [(ck g0, 23), (ck g1, 23), (ck g2, 23)] [] [eN 0, eN 1, eN 2] ?_ ?_
  · exact oc (k_bx 0 (.agg (ck g0)) (bxK (b := g0)) rfl rfl) <|
    oc (k_bx 1 (.agg (ck g1)) (bxK (b := g1)) rfl rfl) <|
    oc (k_bx 2 (.agg (ck g2)) (bxK (b := g2)) rfl rfl) <|
    oz (k_mv (.inr rfl) rfl) <|
    ok_nil
  clear h; intro β a w h
  refine sym_then ?_
  refine sym_seq ?_
  refine sym_seq ?_
  refine St.r0 h [(13, .inl (.bool true)), (14, .inl (.bool false))] [] ?_ ?_
  · exact oz (k_ca 8 #[] (.bool true) alive_c rfl rfl) <|
    oz (k_nt true rfl rfl) <|
    ok_nil
  clear h; intro β a w h
  refine sym_then ?_
  refine s_cf h ?_
  refine wp_skip ?_
  refine sym_then ?_
  refine sym_seq ?_
  refine St.rg h [(15, .inl (.agg (pvt G))), (7, .inr (3, pt 0))] [(pvt O, 31)] [(3, pvt G)] [nn, eN 3, eS 3] ?_ ?_
  · exact oc (k_ca 15 #[] (.agg (pvt G)) cG rfl rfl) <|
    oc (k_al 3 al0 rfl rfl) <|
    oc (k_st 3 0 (.agg (pvt G)) (c := pvt O) (n := pvt G) (stPt (p := G) (c := pvt O) 31 (pvt_size _)) rfl rfl) <|
    ok_nil
  clear h; intro β a w h
  refine sym_then ?_
  refine sym_seq ?_
  refine St.rg h [(16, .inl (.agg (pvt G))), (17, .inl (.agg (ck g0))), (18, .inl (.agg (pvt P))), (19, .inl (.agg (pvt G))), (20, .inl (.agg (ck g1))), (21, .inl (.agg (pvt Q))), (22, .inl (.agg (pvt G))), (23, .inl (.agg (ck g2))), (24, .inl (.agg (pvt R))), (8, .inr (4, pt 0)), (9, .inr (5, pt 0)), (10, .inr (6, pt 0))] [(pvt O, 31), (pvt O, 31), (pvt O, 31)] [(4, pvt P), (5, pvt Q), (6, pvt R)] [eR 3, eR 0, nn, eR 3, eR 1, nn, eR 3, eR 2, nn, eN 4, eN 5, eN 6, eS 4, eS 5, eS 6] ?_ ?_
  · exact oc (k_ld 3 0 (.agg (pvt G)) (c := pvt G) (ldPt (p := G) 31) rfl rfl) <|
    oc (k_ld 0 0 (.agg (ck g0)) (c := ck g0) (ldK (b := g0) 23) rfl rfl) <|
    oc (k_ca 11 #[.agg (pvt G), .agg (ck g0)] (.agg (pvt P)) c0 rfl rfl) <|
    oc (k_ld 3 0 (.agg (pvt G)) (c := pvt G) (ldPt (p := G) 31) rfl rfl) <|
    oc (k_ld 1 0 (.agg (ck g1)) (c := ck g1) (ldK (b := g1) 23) rfl rfl) <|
    oc (k_ca 11 #[.agg (pvt G), .agg (ck g1)] (.agg (pvt Q)) c1 rfl rfl) <|
    oc (k_ld 3 0 (.agg (pvt G)) (c := pvt G) (ldPt (p := G) 31) rfl rfl) <|
    oc (k_ld 2 0 (.agg (ck g2)) (c := ck g2) (ldK (b := g2) 23) rfl rfl) <|
    oc (k_ca 11 #[.agg (pvt G), .agg (ck g2)] (.agg (pvt R)) c2 rfl rfl) <|
    oc (k_al 4 al0 rfl rfl) <|
    oc (k_al 5 al0 rfl rfl) <|
    oc (k_al 6 al0 rfl rfl) <|
    oc (k_st 4 0 (.agg (pvt P)) (c := pvt O) (n := pvt P) (stPt (p := P) (c := pvt O) 31 (pvt_size _)) rfl rfl) <|
    oc (k_st 5 0 (.agg (pvt Q)) (c := pvt O) (n := pvt Q) (stPt (p := Q) (c := pvt O) 31 (pvt_size _)) rfl rfl) <|
    oc (k_st 6 0 (.agg (pvt R)) (c := pvt O) (n := pvt R) (stPt (p := R) (c := pvt O) 31 (pvt_size _)) rfl rfl) <|
    ok_nil
  clear h; intro β a w h
  refine sym_then ?_
  refine sym_seq ?_
  refine St.rg h [(26, .inl (.agg (pvt P))), (27, .inl (.agg (ck F))), (28, .inl (.tuple #[.agg (pvt P), .bool true])), (25, .inl (.tuple #[.agg (pvt P), .bool true])), (29, .inl (.agg (pvt P))), (30, .inl (.bool true)), (11, .inr (7, pt 0)), (12, .inl (.bool true))] [(pvt O, 31)] [(7, pvt P)] [eR 4, nn, nn, nn, nn, nn, eN 7, eS 7] ?_ ?_
  · exact oc (k_ld 4 0 (.agg (pvt P)) (c := pvt P) (ldPt (p := P) 31) rfl rfl) <|
    oc (k_ca 12 #[.agg (pvt P)] (.agg (ck F)) cK rfl rfl) <|
    oc (k_ca 9 #[.agg (ck F)] (.tuple #[.agg (pvt P), .bool true]) cO rfl rfl) <|
    oc (k_mv (.inl rfl) rfl) <|
    oc (k_ex (.tuple #[.agg (pvt P), .bool true]) (.agg (pvt P)) rfl rfl) <|
    oc (k_ex (.tuple #[.agg (pvt P), .bool true]) (.bool true) rfl rfl) <|
    oc (k_al 7 al0 rfl rfl) <|
    oc (k_st 7 0 (.agg (pvt P)) (c := pvt O) (n := pvt P) (stPt (p := P) (c := pvt O) 31 (pvt_size _)) rfl rfl) <|
    oz (k_mv (.inr rfl) rfl) <|
    ok_nil
  clear h; intro β a w h
  refine sym_then ?_
  refine sym_seq ?_
  refine sym_seq ?_
  refine St.r0 h [(31, .inl (.bool true)), (32, .inl (.bool false)), (33, .inl (.bool false)), (34, .inl (.agg (pvt P))), (35, .inl (.agg (pvt P))), (36, .inl (.bool true)), (37, .inl (.bool false)), (38, .inl (.bool false)), (39, .inl (.bool false)), (40, .inl (.agg (pvt P))), (41, .inl (.agg (pvt Q))), (42, .inl (.agg (pvt PQ))), (43, .inl (.agg (pvt Q))), (44, .inl (.agg (pvt P))), (45, .inl (.agg (pvt QP))), (46, .inl (.bool true)), (47, .inl (.bool false)), (48, .inl (.bool false)), (49, .inl (.bool false)), (50, .inl (.agg (pvt P))), (51, .inl (.agg (pvt Q))), (52, .inl (.agg (pvt PQ))), (53, .inl (.agg (pvt R))), (54, .inl (.agg (pvt A1))), (55, .inl (.agg (pvt P))), (56, .inl (.agg (pvt Q))), (57, .inl (.agg (pvt R))), (58, .inl (.agg (pvt QR))), (59, .inl (.agg (pvt A2))), (60, .inl (.bool true)), (61, .inl (.bool false)), (62, .inl (.bool false)), (63, .inl (.bool false)), (64, .inl (.agg (pvt P))), (65, .inl (.agg (pvt O))), (66, .inl (.agg (pvt PO))), (67, .inl (.agg (pvt P))), (68, .inl (.bool true)), (69, .inl (.bool false)), (70, .inl (.bool false)), (71, .inl (.bool false)), (72, .inl (.agg (pvt P))), (73, .inl (.agg (pvt Q))), (74, .inl (.agg (pvt PQ))), (75, .inl (.agg (pvt Q))), (76, .inl (.agg (pvt PM))), (77, .inl (.agg (pvt P))), (78, .inl (.bool true)), (79, .inl (.bool false)), (80, .inl (.bool false))] [nn, nn, nn, eR 7, eR 4, nn, nn, nn, nn, eR 4, eR 5, nn, eR 5, eR 4, nn, nn, nn, nn, nn, eR 4, eR 5, nn, eR 6, nn, eR 4, eR 5, eR 6, nn, nn, nn, nn, nn, nn, eR 4, nn, nn, eR 4, nn, nn, nn, nn, eR 4, eR 5, nn, eR 5, nn, eR 4] ?_ ?_
  · exact oc (k_mv (.inl rfl) rfl) <|
    oc (k_nt true rfl rfl) <|
    oc (k_mv (.inl rfl) rfl) <|
    oc (k_ld 7 0 (.agg (pvt P)) (c := pvt P) (ldPt (p := P) 31) rfl rfl) <|
    oc (k_ld 4 0 (.agg (pvt P)) (c := pvt P) (ldPt (p := P) 31) rfl rfl) <|
    oc (k_ca 16 #[.agg (pvt P), .agg (pvt P)] (.bool true) (fun w => is_pe rfl w) rfl rfl) <|
    oc (k_nt true rfl rfl) <|
    oc (k_pf rfl rfl) <|
    oc (k_mv (.inl rfl) rfl) <|
    oc (k_ld 4 0 (.agg (pvt P)) (c := pvt P) (ldPt (p := P) 31) rfl rfl) <|
    oc (k_ld 5 0 (.agg (pvt Q)) (c := pvt Q) (ldPt (p := Q) 31) rfl rfl) <|
    oc (k_ca 17 #[.agg (pvt P), .agg (pvt Q)] (.agg (pvt PQ)) d0 rfl rfl) <|
    oc (k_ld 5 0 (.agg (pvt Q)) (c := pvt Q) (ldPt (p := Q) 31) rfl rfl) <|
    oc (k_ld 4 0 (.agg (pvt P)) (c := pvt P) (ldPt (p := P) 31) rfl rfl) <|
    oc (k_ca 17 #[.agg (pvt Q), .agg (pvt P)] (.agg (pvt QP)) d1 rfl rfl) <|
    oc (k_ca 16 #[.agg (pvt PQ), .agg (pvt QP)] (.bool true) (fun w => is_pe e1 w) rfl rfl) <|
    oc (k_nt true rfl rfl) <|
    oc (k_pf rfl rfl) <|
    oc (k_mv (.inl rfl) rfl) <|
    oc (k_ld 4 0 (.agg (pvt P)) (c := pvt P) (ldPt (p := P) 31) rfl rfl) <|
    oc (k_ld 5 0 (.agg (pvt Q)) (c := pvt Q) (ldPt (p := Q) 31) rfl rfl) <|
    oc (k_ca 17 #[.agg (pvt P), .agg (pvt Q)] (.agg (pvt PQ)) d0 rfl rfl) <|
    oc (k_ld 6 0 (.agg (pvt R)) (c := pvt R) (ldPt (p := R) 31) rfl rfl) <|
    oc (k_ca 17 #[.agg (pvt PQ), .agg (pvt R)] (.agg (pvt A1)) d2 rfl rfl) <|
    oc (k_ld 4 0 (.agg (pvt P)) (c := pvt P) (ldPt (p := P) 31) rfl rfl) <|
    oc (k_ld 5 0 (.agg (pvt Q)) (c := pvt Q) (ldPt (p := Q) 31) rfl rfl) <|
    oc (k_ld 6 0 (.agg (pvt R)) (c := pvt R) (ldPt (p := R) 31) rfl rfl) <|
    oc (k_ca 17 #[.agg (pvt Q), .agg (pvt R)] (.agg (pvt QR)) d3 rfl rfl) <|
    oc (k_ca 17 #[.agg (pvt P), .agg (pvt QR)] (.agg (pvt A2)) d4 rfl rfl) <|
    oc (k_ca 16 #[.agg (pvt A1), .agg (pvt A2)] (.bool true) (fun w => is_pe e2 w) rfl rfl) <|
    oc (k_nt true rfl rfl) <|
    oc (k_pf rfl rfl) <|
    oc (k_mv (.inl rfl) rfl) <|
    oc (k_ld 4 0 (.agg (pvt P)) (c := pvt P) (ldPt (p := P) 31) rfl rfl) <|
    oc (k_bu #[] (.agg (pvt O)) bd0 rfl rfl) <|
    oc (k_ca 17 #[.agg (pvt P), .agg (pvt O)] (.agg (pvt PO)) d5 rfl rfl) <|
    oc (k_ld 4 0 (.agg (pvt P)) (c := pvt P) (ldPt (p := P) 31) rfl rfl) <|
    oc (k_ca 16 #[.agg (pvt PO), .agg (pvt P)] (.bool true) (fun w => is_pe e3 w) rfl rfl) <|
    oc (k_nt true rfl rfl) <|
    oc (k_pf rfl rfl) <|
    oc (k_mv (.inl rfl) rfl) <|
    oc (k_ld 4 0 (.agg (pvt P)) (c := pvt P) (ldPt (p := P) 31) rfl rfl) <|
    oc (k_ld 5 0 (.agg (pvt Q)) (c := pvt Q) (ldPt (p := Q) 31) rfl rfl) <|
    oc (k_ca 17 #[.agg (pvt P), .agg (pvt Q)] (.agg (pvt PQ)) d0 rfl rfl) <|
    oc (k_ld 5 0 (.agg (pvt Q)) (c := pvt Q) (ldPt (p := Q) 31) rfl rfl) <|
    oc (k_ca 18 #[.agg (pvt PQ), .agg (pvt Q)] (.agg (pvt PM)) d6 rfl rfl) <|
    oc (k_ld 4 0 (.agg (pvt P)) (c := pvt P) (ldPt (p := P) 31) rfl rfl) <|
    oz (k_ca 16 #[.agg (pvt PM), .agg (pvt P)] (.bool true) (fun w => is_pe e4 w) rfl rfl) <|
    oz (k_nt true rfl rfl) <|
    oz (k_pf rfl rfl) <|
    ok_nil
  clear h; intro β a w h
  replace h := St.cs h (s' := [.inl (.agg (ck g0)), .inl (.agg (ck g1)), .inl (.agg (ck g2)), .inr (0, pt 0), .inr (1, pt 0), .inr (2, pt 0), .inl (.bool false), .inr (3, pt 0), .inr (4, pt 0), .inr (5, pt 0), .inr (6, pt 0), .inr (7, pt 0), .inl (.bool true), .inl (.bool true), .inl (.bool false), .inl (.agg (pvt G)), .inl (.agg (pvt G)), .inl (.agg (ck g0)), .inl (.agg (pvt P)), .inl (.agg (pvt G)), .inl (.agg (ck g1)), .inl (.agg (pvt Q)), .inl (.agg (pvt G)), .inl (.agg (ck g2)), .inl (.agg (pvt R)), .inl (.tuple #[.agg (pvt P), .bool true]), .inl (.agg (pvt P)), .inl (.agg (ck F)), .inl (.tuple #[.agg (pvt P), .bool true]), .inl (.agg (pvt P)), .inl (.bool true), .inl (.bool true), .inl (.bool false), .inl (.bool false), .inl (.agg (pvt P)), .inl (.agg (pvt P)), .inl (.bool true), .inl (.bool false), .inl (.bool false), .inl (.bool false), .inl (.agg (pvt P)), .inl (.agg (pvt Q)), .inl (.agg (pvt PQ)), .inl (.agg (pvt Q)), .inl (.agg (pvt P)), .inl (.agg (pvt QP)), .inl (.bool true), .inl (.bool false), .inl (.bool false), .inl (.bool false), .inl (.agg (pvt P)), .inl (.agg (pvt Q)), .inl (.agg (pvt PQ)), .inl (.agg (pvt R)), .inl (.agg (pvt A1)), .inl (.agg (pvt P)), .inl (.agg (pvt Q)), .inl (.agg (pvt R)), .inl (.agg (pvt QR)), .inl (.agg (pvt A2)), .inl (.bool true), .inl (.bool false), .inl (.bool false), .inl (.bool false), .inl (.agg (pvt P)), .inl (.agg (pvt O)), .inl (.agg (pvt PO)), .inl (.agg (pvt P)), .inl (.bool true), .inl (.bool false), .inl (.bool false), .inl (.bool false), .inl (.agg (pvt P)), .inl (.agg (pvt Q)), .inl (.agg (pvt PQ)), .inl (.agg (pvt Q)), .inl (.agg (pvt PM)), .inl (.agg (pvt P)), .inl (.bool true), .inl (.bool false), .inl (.bool false), uu, uu, uu, uu, uu, uu, uu, uu, uu, uu, uu, uu, uu, uu, uu, uu, uu]) (m' := [(ck g0, 23), (ck g1, 23), (ck g2, 23), (pvt G, 31), (pvt P, 31), (pvt Q, 31), (pvt R, 31), (pvt P, 31)]) (by kernel_rfl) (by kernel_rfl)
  replace h := h.o0
  refine sym_then ?_
  refine s_cf h ?_
  refine wp_skip ?_
  refine sym_then ?_
  refine sym_seq ?_
  refine St.r0 h [(81, .inl (.agg (pvt G))), (82, .inl (.agg (ck g0))), (83, .inl (.agg (ck (kl [1])))), (84, .inl (.agg (ck g1))), (85, .inl (.agg (ck F1))), (86, .inl (.agg (pvt M1))), (87, .inl (.agg (pvt P))), (88, .inl (.agg (pvt Q))), (89, .inl (.agg (pvt PQ))), (90, .inl (.bool true)), (91, .inl (.bool true)), (92, .inl (.agg (pvt G))), (93, .inl (.agg (ck F2))), (94, .inl (.agg (pvt M2))), (95, .inl (.agg (pvt O))), (96, .inl (.bool true)), (97, .inl (.bool true)), (6, .inl (.bool true))] [eR 3, eR 0, nn, eR 1, nn, nn, eR 4, eR 5, nn, nn, nn, eR 3] ?_ ?_
  · exact oc (k_ld 3 0 (.agg (pvt G)) (c := pvt G) (ldPt (p := G) 31) rfl rfl) <|
    oc (k_ld 0 0 (.agg (ck g0)) (c := ck g0) (ldK (b := g0) 23) rfl rfl) <|
    oc (k_bu #[(0, .int .u8 ((1 : Nat) : Int))] (.agg (ck (kl [1]))) (fun w => by kernel_rfl) rfl rfl) <|
    oc (k_ld 1 0 (.agg (ck g1)) (c := ck g1) (ldK (b := g1) 23) rfl rfl) <|
    oc (k_ca 19 #[.agg (ck g0), .agg (ck (kl [1])), .agg (ck g1)] (.agg (ck F1)) cT rfl rfl) <|
    oc (k_ca 11 #[.agg (pvt G), .agg (ck F1)] (.agg (pvt M1)) c3 rfl rfl) <|
    oc (k_ld 4 0 (.agg (pvt P)) (c := pvt P) (ldPt (p := P) 31) rfl rfl) <|
    oc (k_ld 5 0 (.agg (pvt Q)) (c := pvt Q) (ldPt (p := Q) 31) rfl rfl) <|
    oc (k_ca 17 #[.agg (pvt P), .agg (pvt Q)] (.agg (pvt PQ)) d0 rfl rfl) <|
    oc (k_ca 16 #[.agg (pvt M1), .agg (pvt PQ)] (.bool true) (fun w => is_pe e5 w) rfl rfl) <|
    oc (k_mv (.inl rfl) rfl) <|
    oc (k_ld 3 0 (.agg (pvt G)) (c := pvt G) (ldPt (p := G) 31) rfl rfl) <|
    oz (k_ca 20 #[] (.agg (ck F2)) cR rfl rfl) <|
    oz (k_ca 11 #[.agg (pvt G), .agg (ck F2)] (.agg (pvt M2)) c4 rfl rfl) <|
    oz (k_bu #[] (.agg (pvt O)) bd0 rfl rfl) <|
    oz (k_ca 16 #[.agg (pvt M2), .agg (pvt O)] (.bool true) (fun w => is_pe e6 w) rfl rfl) <|
    oz (k_pt rfl rfl) <|
    oz (k_mv (.inr rfl) rfl) <|
    ok_nil
  clear h; intro β a w h
  refine sym_then ?_
  refine wp_ret ?_
  exact s_rt h Try.results4 (fun hb => ⟨rfl, hb⟩)
theorem curveGroup_walk (a : Nat → Nat) (ha : ∀ i, a i < 256) (b : Nat → Nat) (hb : ∀ i, b i < 256) (c : Nat → Nat) (hc : ∀ i, c i < 256) (W0 : World) : Calls Try.prog 4 #[.agg (ck a), .agg (ck b), .agg (ck c)] W0 fun e w' => e = .returned (.bool true) ∧ Below W0.heap.size W0 w' := by
  have oG := gG_oc
  have oP := mt_oc oG (nbv a 32)
  have oQ := mt_oc oG (nbv b 32)
  have oR' := mt_oc oG (nbv c 32)
  have cT := fun w => times_K ha (kl_lt (l := [1]) (by decide)) hb w
  have e5 : mt (nbv (kq ((nB a 32 * nB (kl [1]) 32 + nB b 32) % oL)) 32) gG = pa (mt (nbv a 32) gG) (mt (nbv b 32) gG) := by
    rw [oL_256 (Nat.mod_lt _ oL_pos), mt_mod, nB_nbv, nB_nbv, nB_nbv, nbv_1, Nat.mul_one, mt_add oG]
  have e6 : mt (nbv (kl ordL) 32) gG = pO := by rw [ord_n]; exact ord_G
  have e4 : pa (pa (mt (nbv a 32) gG) (mt (nbv b 32) gG)) (pn (mt (nbv b 32) gG)) = mt (nbv a 32) gG := by
    rw [pa_assoc oP oQ (oc_n oQ), pa_n oQ, pa_O]
  exact curveGroup_t gen_pv (fun w => many_pv oG ha w) (fun w => many_pv oG hb w) (fun w => many_pv oG hc w) (fun w => many_pv oG (kq_lt _) w) (fun w => many_pv oG ord_lt w)
    (fun w => plus_pv oP oQ w) (fun w => plus_pv oQ oP w) (fun w => plus_pv (pa_oc oP oQ) oR' w) (fun w => plus_pv oQ oR' w) (fun w => plus_pv oP (pa_oc oQ oR') w) (fun w => plus_pv oP oc_O w) (fun w => minus_pv (pa_oc oP oQ) oQ w)
    (fun w => key_pv _ w) (fun w => of_pv oP w) cT rord_r (pa_comm _ _) (pa_assoc oP oQ oR') (pa_O _) e4 e5 e6 alPt bdPt W0
end Go.Proofs.Ytpogmflgmpifoaa

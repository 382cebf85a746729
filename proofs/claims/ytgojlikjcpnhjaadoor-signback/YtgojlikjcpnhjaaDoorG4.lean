/- Res1, Z2, Res2, P6, B, C, W2, D, F, J, K, L: laid together. -/
import Derived.Deep.RegionWith
import Derived.Deep.RegionHeld3
import Derived.Laws.BitsAllLaws
import Derived.Test.YtgojlikjcpnhjaaDoorG3
import Derived.Test.YtgojlikjcpnhjaaDoorRows
import Derived.Test.YtgojlikjcpnhjaaDoorG1
import Derived.Test.YtgojlikjcpnhjaaDoorG2
namespace Go.Proofs.YtgojlikjcpnhjaaDoor
open Go.RowKit Go.Shelf

theorem order_r (W0 : World) : Calls Tryd.prog 50 #[] W0 fun e w' => e = .returned (.agg (w4 6346243789798364141 1503914060200516822 0 1152921504606846976)) ∧ Below W0.heap.size W0 w' := by
  refine s_in Tryd.func50 Tryd.ntmps50 rfl [] ?_
  intro β a h
  refine sym_seq ?_
  refine St.rg h [(0, .inr (0, pt 0))] [(w4 0 0 0 0, 58)] [] [eN 0] ?_ ?_
  · exact oc (k_al 0 alW rfl rfl) <|
    ok_nil
  clear h; intro β a w h
  refine sym_then ?_
  refine sym_seq ?_
  refine St.rg h [(1, .inl (.agg (w4 6346243789798364141 1503914060200516822 0 1152921504606846976)))] [] [(0, w4 6346243789798364141 1503914060200516822 0 1152921504606846976)] [nn, eS 0] ?_ ?_
  · exact oc (k_bu #[(0, .int .u64 ((6346243789798364141 : Nat) : Int)), (1, .int .u64 ((1503914060200516822 : Nat) : Int)), (2, .int .u64 ((0 : Nat) : Int)), (3, .int .u64 ((1152921504606846976 : Nat) : Int))] (.agg (w4 6346243789798364141 1503914060200516822 0 1152921504606846976)) (fun w => by kernel_rfl) rfl rfl) <|
    oc (k_st 0 0 (.agg (w4 6346243789798364141 1503914060200516822 0 1152921504606846976)) (c := w4 0 0 0 0) (n := w4 6346243789798364141 1503914060200516822 0 1152921504606846976) (stW 58 rfl) rfl rfl) <|
    ok_nil
  clear h; intro β a w h
  refine sym_then ?_
  refine wp_ret ?_
  exact s_rc (b := 0) (t0 := 58) (c := w4 6346243789798364141 1503914060200516822 0 1152921504606846976) h Tryd.results50 Tryd.underlying58 (fun hb => ⟨rfl, hb⟩) (by kernel_rfl)

set_option maxHeartbeats 4000000 in
theorem pls_s {a0 a1 a2 a3 b0 b1 b2 b3 s0 s1 s2 s3 k0 k1 k2 k3 r0 r1 r2 r3 e0 e1 e2 e3 : Nat} (ca0 : (∀ w, (callFunc 51 #[.int .u64 ((a0 : Nat) : Int), .int .u64 ((b0 : Nat) : Int), .int .u64 ((0 : Nat) : Int)]).run Tryd.prog w = .ok (.value (.tuple #[.int .u64 ((s0 : Nat) : Int), .int .u64 ((k0 : Nat) : Int)])) w)) (ca1 : (∀ w, (callFunc 51 #[.int .u64 ((a1 : Nat) : Int), .int .u64 ((b1 : Nat) : Int), .int .u64 ((k0 : Nat) : Int)]).run Tryd.prog w = .ok (.value (.tuple #[.int .u64 ((s1 : Nat) : Int), .int .u64 ((k1 : Nat) : Int)])) w)) (ca2 : (∀ w, (callFunc 51 #[.int .u64 ((a2 : Nat) : Int), .int .u64 ((b2 : Nat) : Int), .int .u64 ((k1 : Nat) : Int)]).run Tryd.prog w = .ok (.value (.tuple #[.int .u64 ((s2 : Nat) : Int), .int .u64 ((k2 : Nat) : Int)])) w)) (ca3 : (∀ w, (callFunc 51 #[.int .u64 ((a3 : Nat) : Int), .int .u64 ((b3 : Nat) : Int), .int .u64 ((k2 : Nat) : Int)]).run Tryd.prog w = .ok (.value (.tuple #[.int .u64 ((s3 : Nat) : Int), .int .u64 ((k3 : Nat) : Int)])) w))
    (cs0 : (∀ w, (callFunc 52 #[.int .u64 ((s0 : Nat) : Int), .int .u64 ((6346243789798364141 : Nat) : Int), .int .u64 ((0 : Nat) : Int)]).run Tryd.prog w = .ok (.value (.tuple #[.int .u64 ((r0 : Nat) : Int), .int .u64 ((e0 : Nat) : Int)])) w)) (cs1 : (∀ w, (callFunc 52 #[.int .u64 ((s1 : Nat) : Int), .int .u64 ((1503914060200516822 : Nat) : Int), .int .u64 ((e0 : Nat) : Int)]).run Tryd.prog w = .ok (.value (.tuple #[.int .u64 ((r1 : Nat) : Int), .int .u64 ((e1 : Nat) : Int)])) w)) (cs2 : (∀ w, (callFunc 52 #[.int .u64 ((s2 : Nat) : Int), .int .u64 ((0 : Nat) : Int), .int .u64 ((e1 : Nat) : Int)]).run Tryd.prog w = .ok (.value (.tuple #[.int .u64 ((r2 : Nat) : Int), .int .u64 ((e2 : Nat) : Int)])) w)) (cs3 : (∀ w, (callFunc 52 #[.int .u64 ((s3 : Nat) : Int), .int .u64 ((1152921504606846976 : Nat) : Int), .int .u64 ((e2 : Nat) : Int)]).run Tryd.prog w = .ok (.value (.tuple #[.int .u64 ((r3 : Nat) : Int), .int .u64 ((e3 : Nat) : Int)])) w))
    (hb : e3 = 1) (W0 : World) : Calls Tryd.prog 25 #[.agg (w4 a0 a1 a2 a3), .agg (w4 b0 b1 b2 b3)] W0 fun e w' => e = .returned (.agg (w4 s0 s1 s2 s3)) ∧ Below W0.heap.size W0 w' := by
  refine s_in Tryd.func25 Tryd.ntmps25 rfl [.inl (.agg (w4 a0 a1 a2 a3)), .inl (.agg (w4 b0 b1 b2 b3))] ?_
  intro β a h
  refine sym_seq ?_
  refine St.rg h [(2, .inr (0, pt 0)), (3, .inr (1, pt 0)), (4, .inr (2, pt 0))] [(w4 a0 a1 a2 a3, 58), (w4 b0 b1 b2 b3, 58), (w4 0 0 0 0, 58)] [] [eN 0, eN 1, eN 2] ?_ ?_
  · exact oc (k_bx 0 (.agg (w4 a0 a1 a2 a3)) bxW rfl rfl) <|
    oc (k_bx 1 (.agg (w4 b0 b1 b2 b3)) bxW rfl rfl) <|
    oc (k_al 2 alW rfl rfl) <|
    ok_nil
  clear h; intro β a w h
  refine sym_then ?_
  refine sym_seq ?_
  refine St.rg h [(5, .inr (3, pt 0)), (6, .inr (4, pt 0))] [(w4 0 0 0 0, 58), (w4 0 0 0 0, 58)] [] [eN 3, eN 4] ?_ ?_
  · exact oc (k_al 3 alW rfl rfl) <|
    oc (k_al 4 alW rfl rfl) <|
    ok_nil
  clear h; intro β a w h
  refine sym_then ?_
  refine sym_seq ?_
  refine St.r0 h [(7, .inl (.int .u64 ((0 : Nat) : Int))), (8, .inl (.int .u64 ((0 : Nat) : Int)))] [] ?_ ?_
  · exact oz (k_mv (.inr rfl) rfl) <|
    oz (k_mv (.inr rfl) rfl) <|
    ok_nil
  clear h; intro β a w h
  refine sym_then ?_
  refine sym_seq ?_
  refine sym_seq ?_
  refine St.r0 h [(11, .inl (.agg (w4 6346243789798364141 1503914060200516822 0 1152921504606846976))), (12, .inl (.int .i64 ((0 : Nat) : Int)))] [] ?_ ?_
  · exact oz (k_ca 50 #[] (.agg (w4 6346243789798364141 1503914060200516822 0 1152921504606846976)) order_r rfl rfl) <|
    oz (k_mv (.inl rfl) rfl) <|
    ok_nil
  clear h; intro β a w h
  refine sym_then ?_
  refine blk_in ?_
  refine wp_loop_rounds 5 ?_
  refine rounds_1 ?_
  refine sym_seq ?_
  refine St.r0 h [(13, .inl (.bool true))] [] ?_ ?_
  · exact oz (k_bi (.int .i64 ((0 : Nat) : Int)) (.int .i64 ((4 : Nat) : Int)) (.bool true) (lt_i (m := ((0 : Nat) : Int)) (n := ((4 : Nat) : Int)) (by decide)) rfl rfl) <|
    ok_nil
  clear h; intro β a w h
  refine sym_then ?_
  refine sym_seq ?_
  refine s_ct h ?_
  refine wp_skip ?_
  refine sym_then ?_
  refine sym_seq ?_
  refine blk_in ?_
  refine sym_seq ?_
  refine St.r0 h [(14, .inl (.int .i64 ((0 : Nat) : Int))), (15, .inl (.int .u64 ((6346243789798364141 : Nat) : Int))), (9, .inl (.int .i64 ((0 : Nat) : Int))), (10, .inl (.int .u64 ((6346243789798364141 : Nat) : Int)))] [] ?_ ?_
  · exact oz (k_mv (.inl rfl) rfl) <|
    oz (k_ix (.agg (w4 6346243789798364141 1503914060200516822 0 1152921504606846976)) (.int .i64 ((0 : Nat) : Int)) (.int .u64 ((6346243789798364141 : Nat) : Int)) (fun w => by kernel_rfl) rfl rfl) <|
    oz (k_mv (.inr rfl) rfl) <|
    oz (k_mv (.inr rfl) rfl) <|
    ok_nil
  clear h; intro β a w h
  refine sym_then ?_
  refine sym_seq ?_
  refine St.rg h [(17, .inl (.int .i64 ((0 : Nat) : Int))), (18, .inl (.int .i64 ((0 : Nat) : Int))), (19, .inr (0, pt 0)), (20, .inl (.int .u64 ((a0 : Nat) : Int))), (21, .inl (.int .i64 ((0 : Nat) : Int))), (22, .inr (1, pt 0)), (23, .inl (.int .u64 ((b0 : Nat) : Int))), (24, .inl (.int .u64 ((0 : Nat) : Int))), (25, .inl (.tuple #[.int .u64 ((s0 : Nat) : Int), .int .u64 ((k0 : Nat) : Int)])), (16, .inl (.tuple #[.int .u64 ((s0 : Nat) : Int), .int .u64 ((k0 : Nat) : Int)])), (26, .inl (.int .u64 ((s0 : Nat) : Int))), (27, .inl (.int .u64 ((k0 : Nat) : Int))), (28, .inr (3, pt 0)), (7, .inl (.int .u64 ((k0 : Nat) : Int)))] [] [(3, w4 s0 0 0 0)] [nn, nn, nn, eR 0, nn, nn, eR 1, eO, nn, nn, nn, nn, nn, eS 3] ?_ ?_
  · exact oc (k_mv (.inl rfl) rfl) <|
    oc (k_mv (.inl rfl) rfl) <|
    oc (k_ia 0 0 0 (.int .i64 ((0 : Nat) : Int)) (fun w q => by kernel_rfl) rfl rfl) <|
    oc (k_ld 0 0 (.int .u64 ((a0 : Nat) : Int)) (c := w4 a0 a1 a2 a3) (ld_w (i := 0) (v := a0) 58 rfl) rfl rfl) <|
    oc (k_mv (.inl rfl) rfl) <|
    oc (k_ia 1 0 0 (.int .i64 ((0 : Nat) : Int)) (fun w q => by kernel_rfl) rfl rfl) <|
    oc (k_ld 1 0 (.int .u64 ((b0 : Nat) : Int)) (c := w4 b0 b1 b2 b3) (ld_w (i := 0) (v := b0) 58 rfl) rfl rfl) <|
    oc (k_m0 rfl rfl) <|
    oc (k_cx 51 #[.int .u64 ((a0 : Nat) : Int), .int .u64 ((b0 : Nat) : Int), .int .u64 ((0 : Nat) : Int)] (.tuple #[.int .u64 ((s0 : Nat) : Int), .int .u64 ((k0 : Nat) : Int)]) ca0 rfl rfl) <|
    oc (k_mv (.inl rfl) rfl) <|
    oc (k_ex (.tuple #[.int .u64 ((s0 : Nat) : Int), .int .u64 ((k0 : Nat) : Int)]) (.int .u64 ((s0 : Nat) : Int)) rfl rfl) <|
    oc (k_ex (.tuple #[.int .u64 ((s0 : Nat) : Int), .int .u64 ((k0 : Nat) : Int)]) (.int .u64 ((k0 : Nat) : Int)) rfl rfl) <|
    oc (k_ia 3 0 0 (.int .i64 ((0 : Nat) : Int)) (fun w q => by kernel_rfl) rfl rfl) <|
    oc (k_st 3 0 (.int .u64 ((s0 : Nat) : Int)) (c := w4 0 0 0 0) (n := w4 s0 0 0 0) (st_w (i := 0) (v := s0) (n := w4 s0 0 0 0) 58 rfl rfl) rfl rfl) <|
    oz (k_mv (.inr rfl) rfl) <|
    ok_nil
  clear h; intro β a w h
  refine sym_then ?_
  refine St.rg h [(30, .inl (.int .i64 ((0 : Nat) : Int))), (31, .inl (.int .i64 ((0 : Nat) : Int))), (32, .inr (3, pt 0)), (33, .inl (.int .u64 ((s0 : Nat) : Int))), (34, .inl (.int .u64 ((6346243789798364141 : Nat) : Int))), (35, .inl (.int .u64 ((0 : Nat) : Int))), (36, .inl (.tuple #[.int .u64 ((r0 : Nat) : Int), .int .u64 ((e0 : Nat) : Int)])), (29, .inl (.tuple #[.int .u64 ((r0 : Nat) : Int), .int .u64 ((e0 : Nat) : Int)])), (37, .inl (.int .u64 ((r0 : Nat) : Int))), (38, .inl (.int .u64 ((e0 : Nat) : Int))), (39, .inr (4, pt 0)), (8, .inl (.int .u64 ((e0 : Nat) : Int)))] [] [(4, w4 r0 0 0 0)] [nn, nn, nn, eR 3, nn, eO, nn, nn, nn, nn, nn, eS 4] ?_ ?_
  · exact oc (k_mv (.inl rfl) rfl) <|
    oc (k_mv (.inl rfl) rfl) <|
    oc (k_ia 3 0 0 (.int .i64 ((0 : Nat) : Int)) (fun w q => by kernel_rfl) rfl rfl) <|
    oc (k_ld 3 0 (.int .u64 ((s0 : Nat) : Int)) (c := w4 s0 0 0 0) (ld_w (i := 0) (v := s0) 58 rfl) rfl rfl) <|
    oc (k_mv (.inl rfl) rfl) <|
    oc (k_m0 rfl rfl) <|
    oc (k_cx 52 #[.int .u64 ((s0 : Nat) : Int), .int .u64 ((6346243789798364141 : Nat) : Int), .int .u64 ((0 : Nat) : Int)] (.tuple #[.int .u64 ((r0 : Nat) : Int), .int .u64 ((e0 : Nat) : Int)]) cs0 rfl rfl) <|
    oc (k_mv (.inl rfl) rfl) <|
    oc (k_ex (.tuple #[.int .u64 ((r0 : Nat) : Int), .int .u64 ((e0 : Nat) : Int)]) (.int .u64 ((r0 : Nat) : Int)) rfl rfl) <|
    oc (k_ex (.tuple #[.int .u64 ((r0 : Nat) : Int), .int .u64 ((e0 : Nat) : Int)]) (.int .u64 ((e0 : Nat) : Int)) rfl rfl) <|
    oc (k_ia 4 0 0 (.int .i64 ((0 : Nat) : Int)) (fun w q => by kernel_rfl) rfl rfl) <|
    oc (k_st 4 0 (.int .u64 ((r0 : Nat) : Int)) (c := w4 0 0 0 0) (n := w4 r0 0 0 0) (st_w (i := 0) (v := r0) (n := w4 r0 0 0 0) 58 rfl rfl) rfl rfl) <|
    oz (k_mv (.inr rfl) rfl) <|
    ok_nil
  clear h; intro β a w h
  refine blk_norm ?_
  refine sym_then ?_
  refine St.r0 h [(40, .inl (.int .i64 ((1 : Nat) : Int))), (12, .inl (.int .i64 ((1 : Nat) : Int)))] [eO] ?_ ?_
  · exact oc (k_b0 (.int .i64 ((0 : Nat) : Int)) (.int .i64 ((1 : Nat) : Int)) (.int .i64 ((1 : Nat) : Int)) (ad_k (m := 0) (n := 1) rfl (by decide)) rfl rfl) <|
    oz (k_mv (.inl rfl) rfl) <|
    ok_nil
  clear h; intro β a w h
  refine then_norm ?_
  replace h := St.cs h (s' := [.inl (.agg (w4 a0 a1 a2 a3)), .inl (.agg (w4 b0 b1 b2 b3)), .inr (0, pt 0), .inr (1, pt 0), .inr (2, pt 0), .inr (3, pt 0), .inr (4, pt 0), .inl (.int .u64 ((k0 : Nat) : Int)), .inl (.int .u64 ((e0 : Nat) : Int)), .inl (.int .i64 ((0 : Nat) : Int)), .inl (.int .u64 ((6346243789798364141 : Nat) : Int)), .inl (.agg (w4 6346243789798364141 1503914060200516822 0 1152921504606846976)), .inl (.int .i64 ((1 : Nat) : Int)), .inl (.bool true), .inl (.int .i64 ((0 : Nat) : Int)), .inl (.int .u64 ((6346243789798364141 : Nat) : Int)), .inl (.tuple #[.int .u64 ((s0 : Nat) : Int), .int .u64 ((k0 : Nat) : Int)]), .inl (.int .i64 ((0 : Nat) : Int)), .inl (.int .i64 ((0 : Nat) : Int)), .inr (0, pt 0), .inl (.int .u64 ((a0 : Nat) : Int)), .inl (.int .i64 ((0 : Nat) : Int)), .inr (1, pt 0), .inl (.int .u64 ((b0 : Nat) : Int)), .inl (.int .u64 ((0 : Nat) : Int)), .inl (.tuple #[.int .u64 ((s0 : Nat) : Int), .int .u64 ((k0 : Nat) : Int)]), .inl (.int .u64 ((s0 : Nat) : Int)), .inl (.int .u64 ((k0 : Nat) : Int)), .inr (3, pt 0), .inl (.tuple #[.int .u64 ((r0 : Nat) : Int), .int .u64 ((e0 : Nat) : Int)]), .inl (.int .i64 ((0 : Nat) : Int)), .inl (.int .i64 ((0 : Nat) : Int)), .inr (3, pt 0), .inl (.int .u64 ((s0 : Nat) : Int)), .inl (.int .u64 ((6346243789798364141 : Nat) : Int)), .inl (.int .u64 ((0 : Nat) : Int)), .inl (.tuple #[.int .u64 ((r0 : Nat) : Int), .int .u64 ((e0 : Nat) : Int)]), .inl (.int .u64 ((r0 : Nat) : Int)), .inl (.int .u64 ((e0 : Nat) : Int)), .inr (4, pt 0), .inl (.int .i64 ((1 : Nat) : Int)), uu, uu, uu, uu]) (m' := [(w4 a0 a1 a2 a3, 58), (w4 b0 b1 b2 b3, 58), (w4 0 0 0 0, 58), (w4 s0 0 0 0, 58), (w4 r0 0 0 0, 58)]) (by kernel_rfl) (by kernel_rfl)
  replace h := h.o0
  refine rounds_1 ?_
  refine sym_seq ?_
  refine St.r0 h [] [] ?_ ?_
  · exact oz (k_bi (.int .i64 ((1 : Nat) : Int)) (.int .i64 ((4 : Nat) : Int)) (.bool true) (lt_i (m := ((1 : Nat) : Int)) (n := ((4 : Nat) : Int)) (by decide)) rfl rfl) <|
    ok_nil
  clear h; intro β a w h
  refine sym_then ?_
  refine sym_seq ?_
  refine s_ct h ?_
  refine wp_skip ?_
  refine sym_then ?_
  refine sym_seq ?_
  refine blk_in ?_
  refine sym_seq ?_
  refine St.r0 h [(14, .inl (.int .i64 ((1 : Nat) : Int))), (15, .inl (.int .u64 ((1503914060200516822 : Nat) : Int))), (9, .inl (.int .i64 ((1 : Nat) : Int))), (10, .inl (.int .u64 ((1503914060200516822 : Nat) : Int)))] [] ?_ ?_
  · exact oz (k_mv (.inl rfl) rfl) <|
    oz (k_ix (.agg (w4 6346243789798364141 1503914060200516822 0 1152921504606846976)) (.int .i64 ((1 : Nat) : Int)) (.int .u64 ((1503914060200516822 : Nat) : Int)) (fun w => by kernel_rfl) rfl rfl) <|
    oz (k_mv (.inr rfl) rfl) <|
    oz (k_mv (.inr rfl) rfl) <|
    ok_nil
  clear h; intro β a w h
  refine sym_then ?_
  refine sym_seq ?_
  refine St.rg h [(17, .inl (.int .i64 ((1 : Nat) : Int))), (18, .inl (.int .i64 ((1 : Nat) : Int))), (19, .inr (0, pt 1)), (20, .inl (.int .u64 ((a1 : Nat) : Int))), (21, .inl (.int .i64 ((1 : Nat) : Int))), (22, .inr (1, pt 1)), (23, .inl (.int .u64 ((b1 : Nat) : Int))), (24, .inl (.int .u64 ((k0 : Nat) : Int))), (25, .inl (.tuple #[.int .u64 ((s1 : Nat) : Int), .int .u64 ((k1 : Nat) : Int)])), (16, .inl (.tuple #[.int .u64 ((s1 : Nat) : Int), .int .u64 ((k1 : Nat) : Int)])), (26, .inl (.int .u64 ((s1 : Nat) : Int))), (27, .inl (.int .u64 ((k1 : Nat) : Int))), (28, .inr (3, pt 1)), (7, .inl (.int .u64 ((k1 : Nat) : Int)))] [] [(3, w4 s0 s1 0 0)] [nn, nn, nn, eR 0, nn, nn, eR 1, eO, nn, nn, nn, nn, nn, eS 3] ?_ ?_
  · exact oc (k_mv (.inl rfl) rfl) <|
    oc (k_mv (.inl rfl) rfl) <|
    oc (k_ia 0 0 1 (.int .i64 ((1 : Nat) : Int)) (fun w q => by kernel_rfl) rfl rfl) <|
    oc (k_ld 0 1 (.int .u64 ((a1 : Nat) : Int)) (c := w4 a0 a1 a2 a3) (ld_w (i := 1) (v := a1) 58 rfl) rfl rfl) <|
    oc (k_mv (.inl rfl) rfl) <|
    oc (k_ia 1 0 1 (.int .i64 ((1 : Nat) : Int)) (fun w q => by kernel_rfl) rfl rfl) <|
    oc (k_ld 1 1 (.int .u64 ((b1 : Nat) : Int)) (c := w4 b0 b1 b2 b3) (ld_w (i := 1) (v := b1) 58 rfl) rfl rfl) <|
    oc (k_m0 rfl rfl) <|
    oc (k_cx 51 #[.int .u64 ((a1 : Nat) : Int), .int .u64 ((b1 : Nat) : Int), .int .u64 ((k0 : Nat) : Int)] (.tuple #[.int .u64 ((s1 : Nat) : Int), .int .u64 ((k1 : Nat) : Int)]) ca1 rfl rfl) <|
    oc (k_mv (.inl rfl) rfl) <|
    oc (k_ex (.tuple #[.int .u64 ((s1 : Nat) : Int), .int .u64 ((k1 : Nat) : Int)]) (.int .u64 ((s1 : Nat) : Int)) rfl rfl) <|
    oc (k_ex (.tuple #[.int .u64 ((s1 : Nat) : Int), .int .u64 ((k1 : Nat) : Int)]) (.int .u64 ((k1 : Nat) : Int)) rfl rfl) <|
    oc (k_ia 3 0 1 (.int .i64 ((1 : Nat) : Int)) (fun w q => by kernel_rfl) rfl rfl) <|
    oc (k_st 3 1 (.int .u64 ((s1 : Nat) : Int)) (c := w4 s0 0 0 0) (n := w4 s0 s1 0 0) (st_w (i := 1) (v := s1) (n := w4 s0 s1 0 0) 58 rfl rfl) rfl rfl) <|
    oz (k_mv (.inr rfl) rfl) <|
    ok_nil
  clear h; intro β a w h
  refine sym_then ?_
  refine St.rg h [(30, .inl (.int .i64 ((1 : Nat) : Int))), (31, .inl (.int .i64 ((1 : Nat) : Int))), (32, .inr (3, pt 1)), (33, .inl (.int .u64 ((s1 : Nat) : Int))), (34, .inl (.int .u64 ((1503914060200516822 : Nat) : Int))), (35, .inl (.int .u64 ((e0 : Nat) : Int))), (36, .inl (.tuple #[.int .u64 ((r1 : Nat) : Int), .int .u64 ((e1 : Nat) : Int)])), (29, .inl (.tuple #[.int .u64 ((r1 : Nat) : Int), .int .u64 ((e1 : Nat) : Int)])), (37, .inl (.int .u64 ((r1 : Nat) : Int))), (38, .inl (.int .u64 ((e1 : Nat) : Int))), (39, .inr (4, pt 1)), (8, .inl (.int .u64 ((e1 : Nat) : Int)))] [] [(4, w4 r0 r1 0 0)] [nn, nn, nn, eR 3, nn, eO, nn, nn, nn, nn, nn, eS 4] ?_ ?_
  · exact oc (k_mv (.inl rfl) rfl) <|
    oc (k_mv (.inl rfl) rfl) <|
    oc (k_ia 3 0 1 (.int .i64 ((1 : Nat) : Int)) (fun w q => by kernel_rfl) rfl rfl) <|
    oc (k_ld 3 1 (.int .u64 ((s1 : Nat) : Int)) (c := w4 s0 s1 0 0) (ld_w (i := 1) (v := s1) 58 rfl) rfl rfl) <|
    oc (k_mv (.inl rfl) rfl) <|
    oc (k_m0 rfl rfl) <|
    oc (k_cx 52 #[.int .u64 ((s1 : Nat) : Int), .int .u64 ((1503914060200516822 : Nat) : Int), .int .u64 ((e0 : Nat) : Int)] (.tuple #[.int .u64 ((r1 : Nat) : Int), .int .u64 ((e1 : Nat) : Int)]) cs1 rfl rfl) <|
    oc (k_mv (.inl rfl) rfl) <|
    oc (k_ex (.tuple #[.int .u64 ((r1 : Nat) : Int), .int .u64 ((e1 : Nat) : Int)]) (.int .u64 ((r1 : Nat) : Int)) rfl rfl) <|
    oc (k_ex (.tuple #[.int .u64 ((r1 : Nat) : Int), .int .u64 ((e1 : Nat) : Int)]) (.int .u64 ((e1 : Nat) : Int)) rfl rfl) <|
    oc (k_ia 4 0 1 (.int .i64 ((1 : Nat) : Int)) (fun w q => by kernel_rfl) rfl rfl) <|
    oc (k_st 4 1 (.int .u64 ((r1 : Nat) : Int)) (c := w4 r0 0 0 0) (n := w4 r0 r1 0 0) (st_w (i := 1) (v := r1) (n := w4 r0 r1 0 0) 58 rfl rfl) rfl rfl) <|
    oz (k_mv (.inr rfl) rfl) <|
    ok_nil
  clear h; intro β a w h
  refine blk_norm ?_
  refine sym_then ?_
  refine St.r0 h [(40, .inl (.int .i64 ((2 : Nat) : Int))), (12, .inl (.int .i64 ((2 : Nat) : Int)))] [eO] ?_ ?_
  · exact oc (k_b0 (.int .i64 ((1 : Nat) : Int)) (.int .i64 ((1 : Nat) : Int)) (.int .i64 ((2 : Nat) : Int)) (ad_k (m := 1) (n := 1) rfl (by decide)) rfl rfl) <|
    oz (k_mv (.inl rfl) rfl) <|
    ok_nil
  clear h; intro β a w h
  refine then_norm ?_
  replace h := St.cs h (s' := [.inl (.agg (w4 a0 a1 a2 a3)), .inl (.agg (w4 b0 b1 b2 b3)), .inr (0, pt 0), .inr (1, pt 0), .inr (2, pt 0), .inr (3, pt 0), .inr (4, pt 0), .inl (.int .u64 ((k1 : Nat) : Int)), .inl (.int .u64 ((e1 : Nat) : Int)), .inl (.int .i64 ((1 : Nat) : Int)), .inl (.int .u64 ((1503914060200516822 : Nat) : Int)), .inl (.agg (w4 6346243789798364141 1503914060200516822 0 1152921504606846976)), .inl (.int .i64 ((2 : Nat) : Int)), .inl (.bool true), .inl (.int .i64 ((1 : Nat) : Int)), .inl (.int .u64 ((1503914060200516822 : Nat) : Int)), .inl (.tuple #[.int .u64 ((s1 : Nat) : Int), .int .u64 ((k1 : Nat) : Int)]), .inl (.int .i64 ((1 : Nat) : Int)), .inl (.int .i64 ((1 : Nat) : Int)), .inr (0, pt 1), .inl (.int .u64 ((a1 : Nat) : Int)), .inl (.int .i64 ((1 : Nat) : Int)), .inr (1, pt 1), .inl (.int .u64 ((b1 : Nat) : Int)), .inl (.int .u64 ((k0 : Nat) : Int)), .inl (.tuple #[.int .u64 ((s1 : Nat) : Int), .int .u64 ((k1 : Nat) : Int)]), .inl (.int .u64 ((s1 : Nat) : Int)), .inl (.int .u64 ((k1 : Nat) : Int)), .inr (3, pt 1), .inl (.tuple #[.int .u64 ((r1 : Nat) : Int), .int .u64 ((e1 : Nat) : Int)]), .inl (.int .i64 ((1 : Nat) : Int)), .inl (.int .i64 ((1 : Nat) : Int)), .inr (3, pt 1), .inl (.int .u64 ((s1 : Nat) : Int)), .inl (.int .u64 ((1503914060200516822 : Nat) : Int)), .inl (.int .u64 ((e0 : Nat) : Int)), .inl (.tuple #[.int .u64 ((r1 : Nat) : Int), .int .u64 ((e1 : Nat) : Int)]), .inl (.int .u64 ((r1 : Nat) : Int)), .inl (.int .u64 ((e1 : Nat) : Int)), .inr (4, pt 1), .inl (.int .i64 ((2 : Nat) : Int)), uu, uu, uu, uu]) (m' := [(w4 a0 a1 a2 a3, 58), (w4 b0 b1 b2 b3, 58), (w4 0 0 0 0, 58), (w4 s0 s1 0 0, 58), (w4 r0 r1 0 0, 58)]) (by kernel_rfl) (by kernel_rfl)
  replace h := h.o0
  refine rounds_1 ?_
  refine sym_seq ?_
  refine St.r0 h [] [] ?_ ?_
  · exact oz (k_bi (.int .i64 ((2 : Nat) : Int)) (.int .i64 ((4 : Nat) : Int)) (.bool true) (lt_i (m := ((2 : Nat) : Int)) (n := ((4 : Nat) : Int)) (by decide)) rfl rfl) <|
    ok_nil
  clear h; intro β a w h
  refine sym_then ?_
  refine sym_seq ?_
  refine s_ct h ?_
  refine wp_skip ?_
  refine sym_then ?_
  refine sym_seq ?_
  refine blk_in ?_
  refine sym_seq ?_
  refine St.r0 h [(14, .inl (.int .i64 ((2 : Nat) : Int))), (15, .inl (.int .u64 ((0 : Nat) : Int))), (9, .inl (.int .i64 ((2 : Nat) : Int))), (10, .inl (.int .u64 ((0 : Nat) : Int)))] [] ?_ ?_
  · exact oz (k_mv (.inl rfl) rfl) <|
    oz (k_ix (.agg (w4 6346243789798364141 1503914060200516822 0 1152921504606846976)) (.int .i64 ((2 : Nat) : Int)) (.int .u64 ((0 : Nat) : Int)) (fun w => by kernel_rfl) rfl rfl) <|
    oz (k_mv (.inr rfl) rfl) <|
    oz (k_mv (.inr rfl) rfl) <|
    ok_nil
  clear h; intro β a w h
  refine sym_then ?_
  refine sym_seq ?_
  refine St.rg h [(17, .inl (.int .i64 ((2 : Nat) : Int))), (18, .inl (.int .i64 ((2 : Nat) : Int))), (19, .inr (0, pt 2)), (20, .inl (.int .u64 ((a2 : Nat) : Int))), (21, .inl (.int .i64 ((2 : Nat) : Int))), (22, .inr (1, pt 2)), (23, .inl (.int .u64 ((b2 : Nat) : Int))), (24, .inl (.int .u64 ((k1 : Nat) : Int))), (25, .inl (.tuple #[.int .u64 ((s2 : Nat) : Int), .int .u64 ((k2 : Nat) : Int)])), (16, .inl (.tuple #[.int .u64 ((s2 : Nat) : Int), .int .u64 ((k2 : Nat) : Int)])), (26, .inl (.int .u64 ((s2 : Nat) : Int))), (27, .inl (.int .u64 ((k2 : Nat) : Int))), (28, .inr (3, pt 2)), (7, .inl (.int .u64 ((k2 : Nat) : Int)))] [] [(3, w4 s0 s1 s2 0)] [nn, nn, nn, eR 0, nn, nn, eR 1, eO, nn, nn, nn, nn, nn, eS 3] ?_ ?_
  · exact oc (k_mv (.inl rfl) rfl) <|
    oc (k_mv (.inl rfl) rfl) <|
    oc (k_ia 0 0 2 (.int .i64 ((2 : Nat) : Int)) (fun w q => by kernel_rfl) rfl rfl) <|
    oc (k_ld 0 2 (.int .u64 ((a2 : Nat) : Int)) (c := w4 a0 a1 a2 a3) (ld_w (i := 2) (v := a2) 58 rfl) rfl rfl) <|
    oc (k_mv (.inl rfl) rfl) <|
    oc (k_ia 1 0 2 (.int .i64 ((2 : Nat) : Int)) (fun w q => by kernel_rfl) rfl rfl) <|
    oc (k_ld 1 2 (.int .u64 ((b2 : Nat) : Int)) (c := w4 b0 b1 b2 b3) (ld_w (i := 2) (v := b2) 58 rfl) rfl rfl) <|
    oc (k_m0 rfl rfl) <|
    oc (k_cx 51 #[.int .u64 ((a2 : Nat) : Int), .int .u64 ((b2 : Nat) : Int), .int .u64 ((k1 : Nat) : Int)] (.tuple #[.int .u64 ((s2 : Nat) : Int), .int .u64 ((k2 : Nat) : Int)]) ca2 rfl rfl) <|
    oc (k_mv (.inl rfl) rfl) <|
    oc (k_ex (.tuple #[.int .u64 ((s2 : Nat) : Int), .int .u64 ((k2 : Nat) : Int)]) (.int .u64 ((s2 : Nat) : Int)) rfl rfl) <|
    oc (k_ex (.tuple #[.int .u64 ((s2 : Nat) : Int), .int .u64 ((k2 : Nat) : Int)]) (.int .u64 ((k2 : Nat) : Int)) rfl rfl) <|
    oc (k_ia 3 0 2 (.int .i64 ((2 : Nat) : Int)) (fun w q => by kernel_rfl) rfl rfl) <|
    oc (k_st 3 2 (.int .u64 ((s2 : Nat) : Int)) (c := w4 s0 s1 0 0) (n := w4 s0 s1 s2 0) (st_w (i := 2) (v := s2) (n := w4 s0 s1 s2 0) 58 rfl rfl) rfl rfl) <|
    oz (k_mv (.inr rfl) rfl) <|
    ok_nil
  clear h; intro β a w h
  refine sym_then ?_
  refine St.rg h [(30, .inl (.int .i64 ((2 : Nat) : Int))), (31, .inl (.int .i64 ((2 : Nat) : Int))), (32, .inr (3, pt 2)), (33, .inl (.int .u64 ((s2 : Nat) : Int))), (34, .inl (.int .u64 ((0 : Nat) : Int))), (35, .inl (.int .u64 ((e1 : Nat) : Int))), (36, .inl (.tuple #[.int .u64 ((r2 : Nat) : Int), .int .u64 ((e2 : Nat) : Int)])), (29, .inl (.tuple #[.int .u64 ((r2 : Nat) : Int), .int .u64 ((e2 : Nat) : Int)])), (37, .inl (.int .u64 ((r2 : Nat) : Int))), (38, .inl (.int .u64 ((e2 : Nat) : Int))), (39, .inr (4, pt 2)), (8, .inl (.int .u64 ((e2 : Nat) : Int)))] [] [(4, w4 r0 r1 r2 0)] [nn, nn, nn, eR 3, nn, eO, nn, nn, nn, nn, nn, eS 4] ?_ ?_
  · exact oc (k_mv (.inl rfl) rfl) <|
    oc (k_mv (.inl rfl) rfl) <|
    oc (k_ia 3 0 2 (.int .i64 ((2 : Nat) : Int)) (fun w q => by kernel_rfl) rfl rfl) <|
    oc (k_ld 3 2 (.int .u64 ((s2 : Nat) : Int)) (c := w4 s0 s1 s2 0) (ld_w (i := 2) (v := s2) 58 rfl) rfl rfl) <|
    oc (k_mv (.inl rfl) rfl) <|
    oc (k_m0 rfl rfl) <|
    oc (k_cx 52 #[.int .u64 ((s2 : Nat) : Int), .int .u64 ((0 : Nat) : Int), .int .u64 ((e1 : Nat) : Int)] (.tuple #[.int .u64 ((r2 : Nat) : Int), .int .u64 ((e2 : Nat) : Int)]) cs2 rfl rfl) <|
    oc (k_mv (.inl rfl) rfl) <|
    oc (k_ex (.tuple #[.int .u64 ((r2 : Nat) : Int), .int .u64 ((e2 : Nat) : Int)]) (.int .u64 ((r2 : Nat) : Int)) rfl rfl) <|
    oc (k_ex (.tuple #[.int .u64 ((r2 : Nat) : Int), .int .u64 ((e2 : Nat) : Int)]) (.int .u64 ((e2 : Nat) : Int)) rfl rfl) <|
    oc (k_ia 4 0 2 (.int .i64 ((2 : Nat) : Int)) (fun w q => by kernel_rfl) rfl rfl) <|
    oc (k_st 4 2 (.int .u64 ((r2 : Nat) : Int)) (c := w4 r0 r1 0 0) (n := w4 r0 r1 r2 0) (st_w (i := 2) (v := r2) (n := w4 r0 r1 r2 0) 58 rfl rfl) rfl rfl) <|
    oz (k_mv (.inr rfl) rfl) <|
    ok_nil
  clear h; intro β a w h
  refine blk_norm ?_
  refine sym_then ?_
  refine St.r0 h [(40, .inl (.int .i64 ((3 : Nat) : Int))), (12, .inl (.int .i64 ((3 : Nat) : Int)))] [eO] ?_ ?_
  · exact oc (k_b0 (.int .i64 ((2 : Nat) : Int)) (.int .i64 ((1 : Nat) : Int)) (.int .i64 ((3 : Nat) : Int)) (ad_k (m := 2) (n := 1) rfl (by decide)) rfl rfl) <|
    oz (k_mv (.inl rfl) rfl) <|
    ok_nil
  clear h; intro β a w h
  refine then_norm ?_
  replace h := St.cs h (s' := [.inl (.agg (w4 a0 a1 a2 a3)), .inl (.agg (w4 b0 b1 b2 b3)), .inr (0, pt 0), .inr (1, pt 0), .inr (2, pt 0), .inr (3, pt 0), .inr (4, pt 0), .inl (.int .u64 ((k2 : Nat) : Int)), .inl (.int .u64 ((e2 : Nat) : Int)), .inl (.int .i64 ((2 : Nat) : Int)), .inl (.int .u64 ((0 : Nat) : Int)), .inl (.agg (w4 6346243789798364141 1503914060200516822 0 1152921504606846976)), .inl (.int .i64 ((3 : Nat) : Int)), .inl (.bool true), .inl (.int .i64 ((2 : Nat) : Int)), .inl (.int .u64 ((0 : Nat) : Int)), .inl (.tuple #[.int .u64 ((s2 : Nat) : Int), .int .u64 ((k2 : Nat) : Int)]), .inl (.int .i64 ((2 : Nat) : Int)), .inl (.int .i64 ((2 : Nat) : Int)), .inr (0, pt 2), .inl (.int .u64 ((a2 : Nat) : Int)), .inl (.int .i64 ((2 : Nat) : Int)), .inr (1, pt 2), .inl (.int .u64 ((b2 : Nat) : Int)), .inl (.int .u64 ((k1 : Nat) : Int)), .inl (.tuple #[.int .u64 ((s2 : Nat) : Int), .int .u64 ((k2 : Nat) : Int)]), .inl (.int .u64 ((s2 : Nat) : Int)), .inl (.int .u64 ((k2 : Nat) : Int)), .inr (3, pt 2), .inl (.tuple #[.int .u64 ((r2 : Nat) : Int), .int .u64 ((e2 : Nat) : Int)]), .inl (.int .i64 ((2 : Nat) : Int)), .inl (.int .i64 ((2 : Nat) : Int)), .inr (3, pt 2), .inl (.int .u64 ((s2 : Nat) : Int)), .inl (.int .u64 ((0 : Nat) : Int)), .inl (.int .u64 ((e1 : Nat) : Int)), .inl (.tuple #[.int .u64 ((r2 : Nat) : Int), .int .u64 ((e2 : Nat) : Int)]), .inl (.int .u64 ((r2 : Nat) : Int)), .inl (.int .u64 ((e2 : Nat) : Int)), .inr (4, pt 2), .inl (.int .i64 ((3 : Nat) : Int)), uu, uu, uu, uu]) (m' := [(w4 a0 a1 a2 a3, 58), (w4 b0 b1 b2 b3, 58), (w4 0 0 0 0, 58), (w4 s0 s1 s2 0, 58), (w4 r0 r1 r2 0, 58)]) (by kernel_rfl) (by kernel_rfl)
  replace h := h.o0
  refine rounds_1 ?_
  refine sym_seq ?_
  refine St.r0 h [] [] ?_ ?_
  · exact oz (k_bi (.int .i64 ((3 : Nat) : Int)) (.int .i64 ((4 : Nat) : Int)) (.bool true) (lt_i (m := ((3 : Nat) : Int)) (n := ((4 : Nat) : Int)) (by decide)) rfl rfl) <|
    ok_nil
  clear h; intro β a w h
  refine sym_then ?_
  refine sym_seq ?_
  refine s_ct h ?_
  refine wp_skip ?_
  refine sym_then ?_
  refine sym_seq ?_
  refine blk_in ?_
  refine sym_seq ?_
  refine St.r0 h [(14, .inl (.int .i64 ((3 : Nat) : Int))), (15, .inl (.int .u64 ((1152921504606846976 : Nat) : Int))), (9, .inl (.int .i64 ((3 : Nat) : Int))), (10, .inl (.int .u64 ((1152921504606846976 : Nat) : Int)))] [] ?_ ?_
  · exact oz (k_mv (.inl rfl) rfl) <|
    oz (k_ix (.agg (w4 6346243789798364141 1503914060200516822 0 1152921504606846976)) (.int .i64 ((3 : Nat) : Int)) (.int .u64 ((1152921504606846976 : Nat) : Int)) (fun w => by kernel_rfl) rfl rfl) <|
    oz (k_mv (.inr rfl) rfl) <|
    oz (k_mv (.inr rfl) rfl) <|
    ok_nil
  clear h; intro β a w h
  refine sym_then ?_
  refine sym_seq ?_
  refine St.rg h [(17, .inl (.int .i64 ((3 : Nat) : Int))), (18, .inl (.int .i64 ((3 : Nat) : Int))), (19, .inr (0, pt 3)), (20, .inl (.int .u64 ((a3 : Nat) : Int))), (21, .inl (.int .i64 ((3 : Nat) : Int))), (22, .inr (1, pt 3)), (23, .inl (.int .u64 ((b3 : Nat) : Int))), (24, .inl (.int .u64 ((k2 : Nat) : Int))), (25, .inl (.tuple #[.int .u64 ((s3 : Nat) : Int), .int .u64 ((k3 : Nat) : Int)])), (16, .inl (.tuple #[.int .u64 ((s3 : Nat) : Int), .int .u64 ((k3 : Nat) : Int)])), (26, .inl (.int .u64 ((s3 : Nat) : Int))), (27, .inl (.int .u64 ((k3 : Nat) : Int))), (28, .inr (3, pt 3)), (7, .inl (.int .u64 ((k3 : Nat) : Int)))] [] [(3, w4 s0 s1 s2 s3)] [nn, nn, nn, eR 0, nn, nn, eR 1, eO, nn, nn, nn, nn, nn, eS 3] ?_ ?_
  · exact oc (k_mv (.inl rfl) rfl) <|
    oc (k_mv (.inl rfl) rfl) <|
    oc (k_ia 0 0 3 (.int .i64 ((3 : Nat) : Int)) (fun w q => by kernel_rfl) rfl rfl) <|
    oc (k_ld 0 3 (.int .u64 ((a3 : Nat) : Int)) (c := w4 a0 a1 a2 a3) (ld_w (i := 3) (v := a3) 58 rfl) rfl rfl) <|
    oc (k_mv (.inl rfl) rfl) <|
    oc (k_ia 1 0 3 (.int .i64 ((3 : Nat) : Int)) (fun w q => by kernel_rfl) rfl rfl) <|
    oc (k_ld 1 3 (.int .u64 ((b3 : Nat) : Int)) (c := w4 b0 b1 b2 b3) (ld_w (i := 3) (v := b3) 58 rfl) rfl rfl) <|
    oc (k_m0 rfl rfl) <|
    oc (k_cx 51 #[.int .u64 ((a3 : Nat) : Int), .int .u64 ((b3 : Nat) : Int), .int .u64 ((k2 : Nat) : Int)] (.tuple #[.int .u64 ((s3 : Nat) : Int), .int .u64 ((k3 : Nat) : Int)]) ca3 rfl rfl) <|
    oc (k_mv (.inl rfl) rfl) <|
    oc (k_ex (.tuple #[.int .u64 ((s3 : Nat) : Int), .int .u64 ((k3 : Nat) : Int)]) (.int .u64 ((s3 : Nat) : Int)) rfl rfl) <|
    oc (k_ex (.tuple #[.int .u64 ((s3 : Nat) : Int), .int .u64 ((k3 : Nat) : Int)]) (.int .u64 ((k3 : Nat) : Int)) rfl rfl) <|
    oc (k_ia 3 0 3 (.int .i64 ((3 : Nat) : Int)) (fun w q => by kernel_rfl) rfl rfl) <|
    oc (k_st 3 3 (.int .u64 ((s3 : Nat) : Int)) (c := w4 s0 s1 s2 0) (n := w4 s0 s1 s2 s3) (st_w (i := 3) (v := s3) (n := w4 s0 s1 s2 s3) 58 rfl rfl) rfl rfl) <|
    oz (k_mv (.inr rfl) rfl) <|
    ok_nil
  clear h; intro β a w h
  refine sym_then ?_
  refine St.rg h [(30, .inl (.int .i64 ((3 : Nat) : Int))), (31, .inl (.int .i64 ((3 : Nat) : Int))), (32, .inr (3, pt 3)), (33, .inl (.int .u64 ((s3 : Nat) : Int))), (34, .inl (.int .u64 ((1152921504606846976 : Nat) : Int))), (35, .inl (.int .u64 ((e2 : Nat) : Int))), (36, .inl (.tuple #[.int .u64 ((r3 : Nat) : Int), .int .u64 ((e3 : Nat) : Int)])), (29, .inl (.tuple #[.int .u64 ((r3 : Nat) : Int), .int .u64 ((e3 : Nat) : Int)])), (37, .inl (.int .u64 ((r3 : Nat) : Int))), (38, .inl (.int .u64 ((e3 : Nat) : Int))), (39, .inr (4, pt 3)), (8, .inl (.int .u64 ((e3 : Nat) : Int)))] [] [(4, w4 r0 r1 r2 r3)] [nn, nn, nn, eR 3, nn, eO, nn, nn, nn, nn, nn, eS 4] ?_ ?_
  · exact oc (k_mv (.inl rfl) rfl) <|
    oc (k_mv (.inl rfl) rfl) <|
    oc (k_ia 3 0 3 (.int .i64 ((3 : Nat) : Int)) (fun w q => by kernel_rfl) rfl rfl) <|
    oc (k_ld 3 3 (.int .u64 ((s3 : Nat) : Int)) (c := w4 s0 s1 s2 s3) (ld_w (i := 3) (v := s3) 58 rfl) rfl rfl) <|
    oc (k_mv (.inl rfl) rfl) <|
    oc (k_m0 rfl rfl) <|
    oc (k_cx 52 #[.int .u64 ((s3 : Nat) : Int), .int .u64 ((1152921504606846976 : Nat) : Int), .int .u64 ((e2 : Nat) : Int)] (.tuple #[.int .u64 ((r3 : Nat) : Int), .int .u64 ((e3 : Nat) : Int)]) cs3 rfl rfl) <|
    oc (k_mv (.inl rfl) rfl) <|
    oc (k_ex (.tuple #[.int .u64 ((r3 : Nat) : Int), .int .u64 ((e3 : Nat) : Int)]) (.int .u64 ((r3 : Nat) : Int)) rfl rfl) <|
    oc (k_ex (.tuple #[.int .u64 ((r3 : Nat) : Int), .int .u64 ((e3 : Nat) : Int)]) (.int .u64 ((e3 : Nat) : Int)) rfl rfl) <|
    oc (k_ia 4 0 3 (.int .i64 ((3 : Nat) : Int)) (fun w q => by kernel_rfl) rfl rfl) <|
    oc (k_st 4 3 (.int .u64 ((r3 : Nat) : Int)) (c := w4 r0 r1 r2 0) (n := w4 r0 r1 r2 r3) (st_w (i := 3) (v := r3) (n := w4 r0 r1 r2 r3) 58 rfl rfl) rfl rfl) <|
    oz (k_mv (.inr rfl) rfl) <|
    ok_nil
  clear h; intro β a w h
  refine blk_norm ?_
  refine sym_then ?_
  refine St.r0 h [(40, .inl (.int .i64 ((4 : Nat) : Int))), (12, .inl (.int .i64 ((4 : Nat) : Int)))] [eO] ?_ ?_
  · exact oc (k_b0 (.int .i64 ((3 : Nat) : Int)) (.int .i64 ((1 : Nat) : Int)) (.int .i64 ((4 : Nat) : Int)) (ad_k (m := 3) (n := 1) rfl (by decide)) rfl rfl) <|
    oz (k_mv (.inl rfl) rfl) <|
    ok_nil
  clear h; intro β a w h
  refine then_norm ?_
  replace h := St.cs h (s' := [.inl (.agg (w4 a0 a1 a2 a3)), .inl (.agg (w4 b0 b1 b2 b3)), .inr (0, pt 0), .inr (1, pt 0), .inr (2, pt 0), .inr (3, pt 0), .inr (4, pt 0), .inl (.int .u64 ((k3 : Nat) : Int)), .inl (.int .u64 ((e3 : Nat) : Int)), .inl (.int .i64 ((3 : Nat) : Int)), .inl (.int .u64 ((1152921504606846976 : Nat) : Int)), .inl (.agg (w4 6346243789798364141 1503914060200516822 0 1152921504606846976)), .inl (.int .i64 ((4 : Nat) : Int)), .inl (.bool true), .inl (.int .i64 ((3 : Nat) : Int)), .inl (.int .u64 ((1152921504606846976 : Nat) : Int)), .inl (.tuple #[.int .u64 ((s3 : Nat) : Int), .int .u64 ((k3 : Nat) : Int)]), .inl (.int .i64 ((3 : Nat) : Int)), .inl (.int .i64 ((3 : Nat) : Int)), .inr (0, pt 3), .inl (.int .u64 ((a3 : Nat) : Int)), .inl (.int .i64 ((3 : Nat) : Int)), .inr (1, pt 3), .inl (.int .u64 ((b3 : Nat) : Int)), .inl (.int .u64 ((k2 : Nat) : Int)), .inl (.tuple #[.int .u64 ((s3 : Nat) : Int), .int .u64 ((k3 : Nat) : Int)]), .inl (.int .u64 ((s3 : Nat) : Int)), .inl (.int .u64 ((k3 : Nat) : Int)), .inr (3, pt 3), .inl (.tuple #[.int .u64 ((r3 : Nat) : Int), .int .u64 ((e3 : Nat) : Int)]), .inl (.int .i64 ((3 : Nat) : Int)), .inl (.int .i64 ((3 : Nat) : Int)), .inr (3, pt 3), .inl (.int .u64 ((s3 : Nat) : Int)), .inl (.int .u64 ((1152921504606846976 : Nat) : Int)), .inl (.int .u64 ((e2 : Nat) : Int)), .inl (.tuple #[.int .u64 ((r3 : Nat) : Int), .int .u64 ((e3 : Nat) : Int)]), .inl (.int .u64 ((r3 : Nat) : Int)), .inl (.int .u64 ((e3 : Nat) : Int)), .inr (4, pt 3), .inl (.int .i64 ((4 : Nat) : Int)), uu, uu, uu, uu]) (m' := [(w4 a0 a1 a2 a3, 58), (w4 b0 b1 b2 b3, 58), (w4 0 0 0 0, 58), (w4 s0 s1 s2 s3, 58), (w4 r0 r1 r2 r3, 58)]) (by kernel_rfl) (by kernel_rfl)
  replace h := h.o0
  refine rounds_1 ?_
  refine sym_seq ?_
  refine St.r0 h [(13, .inl (.bool false))] [] ?_ ?_
  · exact oz (k_bi (.int .i64 ((4 : Nat) : Int)) (.int .i64 ((4 : Nat) : Int)) (.bool false) (lt_i (m := ((4 : Nat) : Int)) (n := ((4 : Nat) : Int)) (by decide)) rfl rfl) <|
    ok_nil
  clear h; intro β a w h
  refine sym_then ?_
  refine sym_seq ?_
  refine s_cf h ?_
  refine wp_exit ?_
  refine then_exit ?_
  refine then_exit ?_
  refine blk_exit ?_
  refine sym_then ?_
  refine sym_seq ?_
  refine sym_seq ?_
  refine St.r0 h [(41, .inl (.int .u64 ((e3 : Nat) : Int))), (42, .inl (.bool true))] [] ?_ ?_
  · exact oz (k_mv (.inl rfl) rfl) <|
    oz (k_bi (.int .u64 ((e3 : Nat) : Int)) (.int .u64 ((1 : Nat) : Int)) (.bool true) (eq_u64 (m := e3) (n := 1) (decide_eq_true hb)) rfl rfl) <|
    ok_nil
  clear h; intro β a w h
  refine sym_then ?_
  refine s_ct h ?_
  refine sym_seq ?_
  refine St.rg h [(43, .inl (.agg (w4 s0 s1 s2 s3)))] [] [(2, w4 s0 s1 s2 s3)] [eR 3, eS 2] ?_ ?_
  · exact oc (k_ld 3 0 (.agg (w4 s0 s1 s2 s3)) (c := w4 s0 s1 s2 s3) (ldW 58) rfl rfl) <|
    oc (k_st 2 0 (.agg (w4 s0 s1 s2 s3)) (c := w4 0 0 0 0) (n := w4 s0 s1 s2 s3) (stW 58 rfl) rfl rfl) <|
    ok_nil
  clear h; intro β a w h
  refine sym_then ?_
  refine wp_ret ?_
  refine then_ret ?_
  exact s_rc (b := 2) (t0 := 58) (c := w4 s0 s1 s2 s3) h Tryd.results25 Tryd.underlying58 (fun hb => ⟨rfl, hb⟩) (by kernel_rfl)

set_option maxHeartbeats 4000000 in
theorem pls_r {a0 a1 a2 a3 b0 b1 b2 b3 s0 s1 s2 s3 k0 k1 k2 k3 r0 r1 r2 r3 e0 e1 e2 e3 : Nat} (ca0 : (∀ w, (callFunc 51 #[.int .u64 ((a0 : Nat) : Int), .int .u64 ((b0 : Nat) : Int), .int .u64 ((0 : Nat) : Int)]).run Tryd.prog w = .ok (.value (.tuple #[.int .u64 ((s0 : Nat) : Int), .int .u64 ((k0 : Nat) : Int)])) w)) (ca1 : (∀ w, (callFunc 51 #[.int .u64 ((a1 : Nat) : Int), .int .u64 ((b1 : Nat) : Int), .int .u64 ((k0 : Nat) : Int)]).run Tryd.prog w = .ok (.value (.tuple #[.int .u64 ((s1 : Nat) : Int), .int .u64 ((k1 : Nat) : Int)])) w)) (ca2 : (∀ w, (callFunc 51 #[.int .u64 ((a2 : Nat) : Int), .int .u64 ((b2 : Nat) : Int), .int .u64 ((k1 : Nat) : Int)]).run Tryd.prog w = .ok (.value (.tuple #[.int .u64 ((s2 : Nat) : Int), .int .u64 ((k2 : Nat) : Int)])) w)) (ca3 : (∀ w, (callFunc 51 #[.int .u64 ((a3 : Nat) : Int), .int .u64 ((b3 : Nat) : Int), .int .u64 ((k2 : Nat) : Int)]).run Tryd.prog w = .ok (.value (.tuple #[.int .u64 ((s3 : Nat) : Int), .int .u64 ((k3 : Nat) : Int)])) w))
    (cs0 : (∀ w, (callFunc 52 #[.int .u64 ((s0 : Nat) : Int), .int .u64 ((6346243789798364141 : Nat) : Int), .int .u64 ((0 : Nat) : Int)]).run Tryd.prog w = .ok (.value (.tuple #[.int .u64 ((r0 : Nat) : Int), .int .u64 ((e0 : Nat) : Int)])) w)) (cs1 : (∀ w, (callFunc 52 #[.int .u64 ((s1 : Nat) : Int), .int .u64 ((1503914060200516822 : Nat) : Int), .int .u64 ((e0 : Nat) : Int)]).run Tryd.prog w = .ok (.value (.tuple #[.int .u64 ((r1 : Nat) : Int), .int .u64 ((e1 : Nat) : Int)])) w)) (cs2 : (∀ w, (callFunc 52 #[.int .u64 ((s2 : Nat) : Int), .int .u64 ((0 : Nat) : Int), .int .u64 ((e1 : Nat) : Int)]).run Tryd.prog w = .ok (.value (.tuple #[.int .u64 ((r2 : Nat) : Int), .int .u64 ((e2 : Nat) : Int)])) w)) (cs3 : (∀ w, (callFunc 52 #[.int .u64 ((s3 : Nat) : Int), .int .u64 ((1152921504606846976 : Nat) : Int), .int .u64 ((e2 : Nat) : Int)]).run Tryd.prog w = .ok (.value (.tuple #[.int .u64 ((r3 : Nat) : Int), .int .u64 ((e3 : Nat) : Int)])) w))
    (hb : ¬ e3 = 1) (W0 : World) : Calls Tryd.prog 25 #[.agg (w4 a0 a1 a2 a3), .agg (w4 b0 b1 b2 b3)] W0 fun e w' => e = .returned (.agg (w4 r0 r1 r2 r3)) ∧ Below W0.heap.size W0 w' := by
  refine s_in Tryd.func25 Tryd.ntmps25 rfl [.inl (.agg (w4 a0 a1 a2 a3)), .inl (.agg (w4 b0 b1 b2 b3))] ?_
  intro β a h
  refine sym_seq ?_
  refine St.rg h [(2, .inr (0, pt 0)), (3, .inr (1, pt 0)), (4, .inr (2, pt 0))] [(w4 a0 a1 a2 a3, 58), (w4 b0 b1 b2 b3, 58), (w4 0 0 0 0, 58)] [] [eN 0, eN 1, eN 2] ?_ ?_
  · exact oc (k_bx 0 (.agg (w4 a0 a1 a2 a3)) bxW rfl rfl) <|
    oc (k_bx 1 (.agg (w4 b0 b1 b2 b3)) bxW rfl rfl) <|
    oc (k_al 2 alW rfl rfl) <|
    ok_nil
  clear h; intro β a w h
  refine sym_then ?_
  refine sym_seq ?_
  refine St.rg h [(5, .inr (3, pt 0)), (6, .inr (4, pt 0))] [(w4 0 0 0 0, 58), (w4 0 0 0 0, 58)] [] [eN 3, eN 4] ?_ ?_
  · exact oc (k_al 3 alW rfl rfl) <|
    oc (k_al 4 alW rfl rfl) <|
    ok_nil
  clear h; intro β a w h
  refine sym_then ?_
  refine sym_seq ?_
  refine St.r0 h [(7, .inl (.int .u64 ((0 : Nat) : Int))), (8, .inl (.int .u64 ((0 : Nat) : Int)))] [] ?_ ?_
  · exact oz (k_mv (.inr rfl) rfl) <|
    oz (k_mv (.inr rfl) rfl) <|
    ok_nil
  clear h; intro β a w h
  refine sym_then ?_
  refine sym_seq ?_
  refine sym_seq ?_
  refine St.r0 h [(11, .inl (.agg (w4 6346243789798364141 1503914060200516822 0 1152921504606846976))), (12, .inl (.int .i64 ((0 : Nat) : Int)))] [] ?_ ?_
  · exact oz (k_ca 50 #[] (.agg (w4 6346243789798364141 1503914060200516822 0 1152921504606846976)) order_r rfl rfl) <|
    oz (k_mv (.inl rfl) rfl) <|
    ok_nil
  clear h; intro β a w h
  refine sym_then ?_
  refine blk_in ?_
  refine wp_loop_rounds 5 ?_
  refine rounds_1 ?_
  refine sym_seq ?_
  refine St.r0 h [(13, .inl (.bool true))] [] ?_ ?_
  · exact oz (k_bi (.int .i64 ((0 : Nat) : Int)) (.int .i64 ((4 : Nat) : Int)) (.bool true) (lt_i (m := ((0 : Nat) : Int)) (n := ((4 : Nat) : Int)) (by decide)) rfl rfl) <|
    ok_nil
  clear h; intro β a w h
  refine sym_then ?_
  refine sym_seq ?_
  refine s_ct h ?_
  refine wp_skip ?_
  refine sym_then ?_
  refine sym_seq ?_
  refine blk_in ?_
  refine sym_seq ?_
  refine St.r0 h [(14, .inl (.int .i64 ((0 : Nat) : Int))), (15, .inl (.int .u64 ((6346243789798364141 : Nat) : Int))), (9, .inl (.int .i64 ((0 : Nat) : Int))), (10, .inl (.int .u64 ((6346243789798364141 : Nat) : Int)))] [] ?_ ?_
  · exact oz (k_mv (.inl rfl) rfl) <|
    oz (k_ix (.agg (w4 6346243789798364141 1503914060200516822 0 1152921504606846976)) (.int .i64 ((0 : Nat) : Int)) (.int .u64 ((6346243789798364141 : Nat) : Int)) (fun w => by kernel_rfl) rfl rfl) <|
    oz (k_mv (.inr rfl) rfl) <|
    oz (k_mv (.inr rfl) rfl) <|
    ok_nil
  clear h; intro β a w h
  refine sym_then ?_
  refine sym_seq ?_
  refine St.rg h [(17, .inl (.int .i64 ((0 : Nat) : Int))), (18, .inl (.int .i64 ((0 : Nat) : Int))), (19, .inr (0, pt 0)), (20, .inl (.int .u64 ((a0 : Nat) : Int))), (21, .inl (.int .i64 ((0 : Nat) : Int))), (22, .inr (1, pt 0)), (23, .inl (.int .u64 ((b0 : Nat) : Int))), (24, .inl (.int .u64 ((0 : Nat) : Int))), (25, .inl (.tuple #[.int .u64 ((s0 : Nat) : Int), .int .u64 ((k0 : Nat) : Int)])), (16, .inl (.tuple #[.int .u64 ((s0 : Nat) : Int), .int .u64 ((k0 : Nat) : Int)])), (26, .inl (.int .u64 ((s0 : Nat) : Int))), (27, .inl (.int .u64 ((k0 : Nat) : Int))), (28, .inr (3, pt 0)), (7, .inl (.int .u64 ((k0 : Nat) : Int)))] [] [(3, w4 s0 0 0 0)] [nn, nn, nn, eR 0, nn, nn, eR 1, eO, nn, nn, nn, nn, nn, eS 3] ?_ ?_
  · exact oc (k_mv (.inl rfl) rfl) <|
    oc (k_mv (.inl rfl) rfl) <|
    oc (k_ia 0 0 0 (.int .i64 ((0 : Nat) : Int)) (fun w q => by kernel_rfl) rfl rfl) <|
    oc (k_ld 0 0 (.int .u64 ((a0 : Nat) : Int)) (c := w4 a0 a1 a2 a3) (ld_w (i := 0) (v := a0) 58 rfl) rfl rfl) <|
    oc (k_mv (.inl rfl) rfl) <|
    oc (k_ia 1 0 0 (.int .i64 ((0 : Nat) : Int)) (fun w q => by kernel_rfl) rfl rfl) <|
    oc (k_ld 1 0 (.int .u64 ((b0 : Nat) : Int)) (c := w4 b0 b1 b2 b3) (ld_w (i := 0) (v := b0) 58 rfl) rfl rfl) <|
    oc (k_m0 rfl rfl) <|
    oc (k_cx 51 #[.int .u64 ((a0 : Nat) : Int), .int .u64 ((b0 : Nat) : Int), .int .u64 ((0 : Nat) : Int)] (.tuple #[.int .u64 ((s0 : Nat) : Int), .int .u64 ((k0 : Nat) : Int)]) ca0 rfl rfl) <|
    oc (k_mv (.inl rfl) rfl) <|
    oc (k_ex (.tuple #[.int .u64 ((s0 : Nat) : Int), .int .u64 ((k0 : Nat) : Int)]) (.int .u64 ((s0 : Nat) : Int)) rfl rfl) <|
    oc (k_ex (.tuple #[.int .u64 ((s0 : Nat) : Int), .int .u64 ((k0 : Nat) : Int)]) (.int .u64 ((k0 : Nat) : Int)) rfl rfl) <|
    oc (k_ia 3 0 0 (.int .i64 ((0 : Nat) : Int)) (fun w q => by kernel_rfl) rfl rfl) <|
    oc (k_st 3 0 (.int .u64 ((s0 : Nat) : Int)) (c := w4 0 0 0 0) (n := w4 s0 0 0 0) (st_w (i := 0) (v := s0) (n := w4 s0 0 0 0) 58 rfl rfl) rfl rfl) <|
    oz (k_mv (.inr rfl) rfl) <|
    ok_nil
  clear h; intro β a w h
  refine sym_then ?_
  refine St.rg h [(30, .inl (.int .i64 ((0 : Nat) : Int))), (31, .inl (.int .i64 ((0 : Nat) : Int))), (32, .inr (3, pt 0)), (33, .inl (.int .u64 ((s0 : Nat) : Int))), (34, .inl (.int .u64 ((6346243789798364141 : Nat) : Int))), (35, .inl (.int .u64 ((0 : Nat) : Int))), (36, .inl (.tuple #[.int .u64 ((r0 : Nat) : Int), .int .u64 ((e0 : Nat) : Int)])), (29, .inl (.tuple #[.int .u64 ((r0 : Nat) : Int), .int .u64 ((e0 : Nat) : Int)])), (37, .inl (.int .u64 ((r0 : Nat) : Int))), (38, .inl (.int .u64 ((e0 : Nat) : Int))), (39, .inr (4, pt 0)), (8, .inl (.int .u64 ((e0 : Nat) : Int)))] [] [(4, w4 r0 0 0 0)] [nn, nn, nn, eR 3, nn, eO, nn, nn, nn, nn, nn, eS 4] ?_ ?_
  · exact oc (k_mv (.inl rfl) rfl) <|
    oc (k_mv (.inl rfl) rfl) <|
    oc (k_ia 3 0 0 (.int .i64 ((0 : Nat) : Int)) (fun w q => by kernel_rfl) rfl rfl) <|
    oc (k_ld 3 0 (.int .u64 ((s0 : Nat) : Int)) (c := w4 s0 0 0 0) (ld_w (i := 0) (v := s0) 58 rfl) rfl rfl) <|
    oc (k_mv (.inl rfl) rfl) <|
    oc (k_m0 rfl rfl) <|
    oc (k_cx 52 #[.int .u64 ((s0 : Nat) : Int), .int .u64 ((6346243789798364141 : Nat) : Int), .int .u64 ((0 : Nat) : Int)] (.tuple #[.int .u64 ((r0 : Nat) : Int), .int .u64 ((e0 : Nat) : Int)]) cs0 rfl rfl) <|
    oc (k_mv (.inl rfl) rfl) <|
    oc (k_ex (.tuple #[.int .u64 ((r0 : Nat) : Int), .int .u64 ((e0 : Nat) : Int)]) (.int .u64 ((r0 : Nat) : Int)) rfl rfl) <|
    oc (k_ex (.tuple #[.int .u64 ((r0 : Nat) : Int), .int .u64 ((e0 : Nat) : Int)]) (.int .u64 ((e0 : Nat) : Int)) rfl rfl) <|
    oc (k_ia 4 0 0 (.int .i64 ((0 : Nat) : Int)) (fun w q => by kernel_rfl) rfl rfl) <|
    oc (k_st 4 0 (.int .u64 ((r0 : Nat) : Int)) (c := w4 0 0 0 0) (n := w4 r0 0 0 0) (st_w (i := 0) (v := r0) (n := w4 r0 0 0 0) 58 rfl rfl) rfl rfl) <|
    oz (k_mv (.inr rfl) rfl) <|
    ok_nil
  clear h; intro β a w h
  refine blk_norm ?_
  refine sym_then ?_
  refine St.r0 h [(40, .inl (.int .i64 ((1 : Nat) : Int))), (12, .inl (.int .i64 ((1 : Nat) : Int)))] [eO] ?_ ?_
  · exact oc (k_b0 (.int .i64 ((0 : Nat) : Int)) (.int .i64 ((1 : Nat) : Int)) (.int .i64 ((1 : Nat) : Int)) (ad_k (m := 0) (n := 1) rfl (by decide)) rfl rfl) <|
    oz (k_mv (.inl rfl) rfl) <|
    ok_nil
  clear h; intro β a w h
  refine then_norm ?_
  replace h := St.cs h (s' := [.inl (.agg (w4 a0 a1 a2 a3)), .inl (.agg (w4 b0 b1 b2 b3)), .inr (0, pt 0), .inr (1, pt 0), .inr (2, pt 0), .inr (3, pt 0), .inr (4, pt 0), .inl (.int .u64 ((k0 : Nat) : Int)), .inl (.int .u64 ((e0 : Nat) : Int)), .inl (.int .i64 ((0 : Nat) : Int)), .inl (.int .u64 ((6346243789798364141 : Nat) : Int)), .inl (.agg (w4 6346243789798364141 1503914060200516822 0 1152921504606846976)), .inl (.int .i64 ((1 : Nat) : Int)), .inl (.bool true), .inl (.int .i64 ((0 : Nat) : Int)), .inl (.int .u64 ((6346243789798364141 : Nat) : Int)), .inl (.tuple #[.int .u64 ((s0 : Nat) : Int), .int .u64 ((k0 : Nat) : Int)]), .inl (.int .i64 ((0 : Nat) : Int)), .inl (.int .i64 ((0 : Nat) : Int)), .inr (0, pt 0), .inl (.int .u64 ((a0 : Nat) : Int)), .inl (.int .i64 ((0 : Nat) : Int)), .inr (1, pt 0), .inl (.int .u64 ((b0 : Nat) : Int)), .inl (.int .u64 ((0 : Nat) : Int)), .inl (.tuple #[.int .u64 ((s0 : Nat) : Int), .int .u64 ((k0 : Nat) : Int)]), .inl (.int .u64 ((s0 : Nat) : Int)), .inl (.int .u64 ((k0 : Nat) : Int)), .inr (3, pt 0), .inl (.tuple #[.int .u64 ((r0 : Nat) : Int), .int .u64 ((e0 : Nat) : Int)]), .inl (.int .i64 ((0 : Nat) : Int)), .inl (.int .i64 ((0 : Nat) : Int)), .inr (3, pt 0), .inl (.int .u64 ((s0 : Nat) : Int)), .inl (.int .u64 ((6346243789798364141 : Nat) : Int)), .inl (.int .u64 ((0 : Nat) : Int)), .inl (.tuple #[.int .u64 ((r0 : Nat) : Int), .int .u64 ((e0 : Nat) : Int)]), .inl (.int .u64 ((r0 : Nat) : Int)), .inl (.int .u64 ((e0 : Nat) : Int)), .inr (4, pt 0), .inl (.int .i64 ((1 : Nat) : Int)), uu, uu, uu, uu]) (m' := [(w4 a0 a1 a2 a3, 58), (w4 b0 b1 b2 b3, 58), (w4 0 0 0 0, 58), (w4 s0 0 0 0, 58), (w4 r0 0 0 0, 58)]) (by kernel_rfl) (by kernel_rfl)
  replace h := h.o0
  refine rounds_1 ?_
  refine sym_seq ?_
  refine St.r0 h [] [] ?_ ?_
  · exact oz (k_bi (.int .i64 ((1 : Nat) : Int)) (.int .i64 ((4 : Nat) : Int)) (.bool true) (lt_i (m := ((1 : Nat) : Int)) (n := ((4 : Nat) : Int)) (by decide)) rfl rfl) <|
    ok_nil
  clear h; intro β a w h
  refine sym_then ?_
  refine sym_seq ?_
  refine s_ct h ?_
  refine wp_skip ?_
  refine sym_then ?_
  refine sym_seq ?_
  refine blk_in ?_
  refine sym_seq ?_
  refine St.r0 h [(14, .inl (.int .i64 ((1 : Nat) : Int))), (15, .inl (.int .u64 ((1503914060200516822 : Nat) : Int))), (9, .inl (.int .i64 ((1 : Nat) : Int))), (10, .inl (.int .u64 ((1503914060200516822 : Nat) : Int)))] [] ?_ ?_
  · exact oz (k_mv (.inl rfl) rfl) <|
    oz (k_ix (.agg (w4 6346243789798364141 1503914060200516822 0 1152921504606846976)) (.int .i64 ((1 : Nat) : Int)) (.int .u64 ((1503914060200516822 : Nat) : Int)) (fun w => by kernel_rfl) rfl rfl) <|
    oz (k_mv (.inr rfl) rfl) <|
    oz (k_mv (.inr rfl) rfl) <|
    ok_nil
  clear h; intro β a w h
  refine sym_then ?_
  refine sym_seq ?_
  refine St.rg h [(17, .inl (.int .i64 ((1 : Nat) : Int))), (18, .inl (.int .i64 ((1 : Nat) : Int))), (19, .inr (0, pt 1)), (20, .inl (.int .u64 ((a1 : Nat) : Int))), (21, .inl (.int .i64 ((1 : Nat) : Int))), (22, .inr (1, pt 1)), (23, .inl (.int .u64 ((b1 : Nat) : Int))), (24, .inl (.int .u64 ((k0 : Nat) : Int))), (25, .inl (.tuple #[.int .u64 ((s1 : Nat) : Int), .int .u64 ((k1 : Nat) : Int)])), (16, .inl (.tuple #[.int .u64 ((s1 : Nat) : Int), .int .u64 ((k1 : Nat) : Int)])), (26, .inl (.int .u64 ((s1 : Nat) : Int))), (27, .inl (.int .u64 ((k1 : Nat) : Int))), (28, .inr (3, pt 1)), (7, .inl (.int .u64 ((k1 : Nat) : Int)))] [] [(3, w4 s0 s1 0 0)] [nn, nn, nn, eR 0, nn, nn, eR 1, eO, nn, nn, nn, nn, nn, eS 3] ?_ ?_
  · exact oc (k_mv (.inl rfl) rfl) <|
    oc (k_mv (.inl rfl) rfl) <|
    oc (k_ia 0 0 1 (.int .i64 ((1 : Nat) : Int)) (fun w q => by kernel_rfl) rfl rfl) <|
    oc (k_ld 0 1 (.int .u64 ((a1 : Nat) : Int)) (c := w4 a0 a1 a2 a3) (ld_w (i := 1) (v := a1) 58 rfl) rfl rfl) <|
    oc (k_mv (.inl rfl) rfl) <|
    oc (k_ia 1 0 1 (.int .i64 ((1 : Nat) : Int)) (fun w q => by kernel_rfl) rfl rfl) <|
    oc (k_ld 1 1 (.int .u64 ((b1 : Nat) : Int)) (c := w4 b0 b1 b2 b3) (ld_w (i := 1) (v := b1) 58 rfl) rfl rfl) <|
    oc (k_m0 rfl rfl) <|
    oc (k_cx 51 #[.int .u64 ((a1 : Nat) : Int), .int .u64 ((b1 : Nat) : Int), .int .u64 ((k0 : Nat) : Int)] (.tuple #[.int .u64 ((s1 : Nat) : Int), .int .u64 ((k1 : Nat) : Int)]) ca1 rfl rfl) <|
    oc (k_mv (.inl rfl) rfl) <|
    oc (k_ex (.tuple #[.int .u64 ((s1 : Nat) : Int), .int .u64 ((k1 : Nat) : Int)]) (.int .u64 ((s1 : Nat) : Int)) rfl rfl) <|
    oc (k_ex (.tuple #[.int .u64 ((s1 : Nat) : Int), .int .u64 ((k1 : Nat) : Int)]) (.int .u64 ((k1 : Nat) : Int)) rfl rfl) <|
    oc (k_ia 3 0 1 (.int .i64 ((1 : Nat) : Int)) (fun w q => by kernel_rfl) rfl rfl) <|
    oc (k_st 3 1 (.int .u64 ((s1 : Nat) : Int)) (c := w4 s0 0 0 0) (n := w4 s0 s1 0 0) (st_w (i := 1) (v := s1) (n := w4 s0 s1 0 0) 58 rfl rfl) rfl rfl) <|
    oz (k_mv (.inr rfl) rfl) <|
    ok_nil
  clear h; intro β a w h
  refine sym_then ?_
  refine St.rg h [(30, .inl (.int .i64 ((1 : Nat) : Int))), (31, .inl (.int .i64 ((1 : Nat) : Int))), (32, .inr (3, pt 1)), (33, .inl (.int .u64 ((s1 : Nat) : Int))), (34, .inl (.int .u64 ((1503914060200516822 : Nat) : Int))), (35, .inl (.int .u64 ((e0 : Nat) : Int))), (36, .inl (.tuple #[.int .u64 ((r1 : Nat) : Int), .int .u64 ((e1 : Nat) : Int)])), (29, .inl (.tuple #[.int .u64 ((r1 : Nat) : Int), .int .u64 ((e1 : Nat) : Int)])), (37, .inl (.int .u64 ((r1 : Nat) : Int))), (38, .inl (.int .u64 ((e1 : Nat) : Int))), (39, .inr (4, pt 1)), (8, .inl (.int .u64 ((e1 : Nat) : Int)))] [] [(4, w4 r0 r1 0 0)] [nn, nn, nn, eR 3, nn, eO, nn, nn, nn, nn, nn, eS 4] ?_ ?_
  · exact oc (k_mv (.inl rfl) rfl) <|
    oc (k_mv (.inl rfl) rfl) <|
    oc (k_ia 3 0 1 (.int .i64 ((1 : Nat) : Int)) (fun w q => by kernel_rfl) rfl rfl) <|
    oc (k_ld 3 1 (.int .u64 ((s1 : Nat) : Int)) (c := w4 s0 s1 0 0) (ld_w (i := 1) (v := s1) 58 rfl) rfl rfl) <|
    oc (k_mv (.inl rfl) rfl) <|
    oc (k_m0 rfl rfl) <|
    oc (k_cx 52 #[.int .u64 ((s1 : Nat) : Int), .int .u64 ((1503914060200516822 : Nat) : Int), .int .u64 ((e0 : Nat) : Int)] (.tuple #[.int .u64 ((r1 : Nat) : Int), .int .u64 ((e1 : Nat) : Int)]) cs1 rfl rfl) <|
    oc (k_mv (.inl rfl) rfl) <|
    oc (k_ex (.tuple #[.int .u64 ((r1 : Nat) : Int), .int .u64 ((e1 : Nat) : Int)]) (.int .u64 ((r1 : Nat) : Int)) rfl rfl) <|
    oc (k_ex (.tuple #[.int .u64 ((r1 : Nat) : Int), .int .u64 ((e1 : Nat) : Int)]) (.int .u64 ((e1 : Nat) : Int)) rfl rfl) <|
    oc (k_ia 4 0 1 (.int .i64 ((1 : Nat) : Int)) (fun w q => by kernel_rfl) rfl rfl) <|
    oc (k_st 4 1 (.int .u64 ((r1 : Nat) : Int)) (c := w4 r0 0 0 0) (n := w4 r0 r1 0 0) (st_w (i := 1) (v := r1) (n := w4 r0 r1 0 0) 58 rfl rfl) rfl rfl) <|
    oz (k_mv (.inr rfl) rfl) <|
    ok_nil
  clear h; intro β a w h
  refine blk_norm ?_
  refine sym_then ?_
  refine St.r0 h [(40, .inl (.int .i64 ((2 : Nat) : Int))), (12, .inl (.int .i64 ((2 : Nat) : Int)))] [eO] ?_ ?_
  · exact oc (k_b0 (.int .i64 ((1 : Nat) : Int)) (.int .i64 ((1 : Nat) : Int)) (.int .i64 ((2 : Nat) : Int)) (ad_k (m := 1) (n := 1) rfl (by decide)) rfl rfl) <|
    oz (k_mv (.inl rfl) rfl) <|
    ok_nil
  clear h; intro β a w h
  refine then_norm ?_
  replace h := St.cs h (s' := [.inl (.agg (w4 a0 a1 a2 a3)), .inl (.agg (w4 b0 b1 b2 b3)), .inr (0, pt 0), .inr (1, pt 0), .inr (2, pt 0), .inr (3, pt 0), .inr (4, pt 0), .inl (.int .u64 ((k1 : Nat) : Int)), .inl (.int .u64 ((e1 : Nat) : Int)), .inl (.int .i64 ((1 : Nat) : Int)), .inl (.int .u64 ((1503914060200516822 : Nat) : Int)), .inl (.agg (w4 6346243789798364141 1503914060200516822 0 1152921504606846976)), .inl (.int .i64 ((2 : Nat) : Int)), .inl (.bool true), .inl (.int .i64 ((1 : Nat) : Int)), .inl (.int .u64 ((1503914060200516822 : Nat) : Int)), .inl (.tuple #[.int .u64 ((s1 : Nat) : Int), .int .u64 ((k1 : Nat) : Int)]), .inl (.int .i64 ((1 : Nat) : Int)), .inl (.int .i64 ((1 : Nat) : Int)), .inr (0, pt 1), .inl (.int .u64 ((a1 : Nat) : Int)), .inl (.int .i64 ((1 : Nat) : Int)), .inr (1, pt 1), .inl (.int .u64 ((b1 : Nat) : Int)), .inl (.int .u64 ((k0 : Nat) : Int)), .inl (.tuple #[.int .u64 ((s1 : Nat) : Int), .int .u64 ((k1 : Nat) : Int)]), .inl (.int .u64 ((s1 : Nat) : Int)), .inl (.int .u64 ((k1 : Nat) : Int)), .inr (3, pt 1), .inl (.tuple #[.int .u64 ((r1 : Nat) : Int), .int .u64 ((e1 : Nat) : Int)]), .inl (.int .i64 ((1 : Nat) : Int)), .inl (.int .i64 ((1 : Nat) : Int)), .inr (3, pt 1), .inl (.int .u64 ((s1 : Nat) : Int)), .inl (.int .u64 ((1503914060200516822 : Nat) : Int)), .inl (.int .u64 ((e0 : Nat) : Int)), .inl (.tuple #[.int .u64 ((r1 : Nat) : Int), .int .u64 ((e1 : Nat) : Int)]), .inl (.int .u64 ((r1 : Nat) : Int)), .inl (.int .u64 ((e1 : Nat) : Int)), .inr (4, pt 1), .inl (.int .i64 ((2 : Nat) : Int)), uu, uu, uu, uu]) (m' := [(w4 a0 a1 a2 a3, 58), (w4 b0 b1 b2 b3, 58), (w4 0 0 0 0, 58), (w4 s0 s1 0 0, 58), (w4 r0 r1 0 0, 58)]) (by kernel_rfl) (by kernel_rfl)
  replace h := h.o0
  refine rounds_1 ?_
  refine sym_seq ?_
  refine St.r0 h [] [] ?_ ?_
  · exact oz (k_bi (.int .i64 ((2 : Nat) : Int)) (.int .i64 ((4 : Nat) : Int)) (.bool true) (lt_i (m := ((2 : Nat) : Int)) (n := ((4 : Nat) : Int)) (by decide)) rfl rfl) <|
    ok_nil
  clear h; intro β a w h
  refine sym_then ?_
  refine sym_seq ?_
  refine s_ct h ?_
  refine wp_skip ?_
  refine sym_then ?_
  refine sym_seq ?_
  refine blk_in ?_
  refine sym_seq ?_
  refine St.r0 h [(14, .inl (.int .i64 ((2 : Nat) : Int))), (15, .inl (.int .u64 ((0 : Nat) : Int))), (9, .inl (.int .i64 ((2 : Nat) : Int))), (10, .inl (.int .u64 ((0 : Nat) : Int)))] [] ?_ ?_
  · exact oz (k_mv (.inl rfl) rfl) <|
    oz (k_ix (.agg (w4 6346243789798364141 1503914060200516822 0 1152921504606846976)) (.int .i64 ((2 : Nat) : Int)) (.int .u64 ((0 : Nat) : Int)) (fun w => by kernel_rfl) rfl rfl) <|
    oz (k_mv (.inr rfl) rfl) <|
    oz (k_mv (.inr rfl) rfl) <|
    ok_nil
  clear h; intro β a w h
  refine sym_then ?_
  refine sym_seq ?_
  refine St.rg h [(17, .inl (.int .i64 ((2 : Nat) : Int))), (18, .inl (.int .i64 ((2 : Nat) : Int))), (19, .inr (0, pt 2)), (20, .inl (.int .u64 ((a2 : Nat) : Int))), (21, .inl (.int .i64 ((2 : Nat) : Int))), (22, .inr (1, pt 2)), (23, .inl (.int .u64 ((b2 : Nat) : Int))), (24, .inl (.int .u64 ((k1 : Nat) : Int))), (25, .inl (.tuple #[.int .u64 ((s2 : Nat) : Int), .int .u64 ((k2 : Nat) : Int)])), (16, .inl (.tuple #[.int .u64 ((s2 : Nat) : Int), .int .u64 ((k2 : Nat) : Int)])), (26, .inl (.int .u64 ((s2 : Nat) : Int))), (27, .inl (.int .u64 ((k2 : Nat) : Int))), (28, .inr (3, pt 2)), (7, .inl (.int .u64 ((k2 : Nat) : Int)))] [] [(3, w4 s0 s1 s2 0)] [nn, nn, nn, eR 0, nn, nn, eR 1, eO, nn, nn, nn, nn, nn, eS 3] ?_ ?_
  · exact oc (k_mv (.inl rfl) rfl) <|
    oc (k_mv (.inl rfl) rfl) <|
    oc (k_ia 0 0 2 (.int .i64 ((2 : Nat) : Int)) (fun w q => by kernel_rfl) rfl rfl) <|
    oc (k_ld 0 2 (.int .u64 ((a2 : Nat) : Int)) (c := w4 a0 a1 a2 a3) (ld_w (i := 2) (v := a2) 58 rfl) rfl rfl) <|
    oc (k_mv (.inl rfl) rfl) <|
    oc (k_ia 1 0 2 (.int .i64 ((2 : Nat) : Int)) (fun w q => by kernel_rfl) rfl rfl) <|
    oc (k_ld 1 2 (.int .u64 ((b2 : Nat) : Int)) (c := w4 b0 b1 b2 b3) (ld_w (i := 2) (v := b2) 58 rfl) rfl rfl) <|
    oc (k_m0 rfl rfl) <|
    oc (k_cx 51 #[.int .u64 ((a2 : Nat) : Int), .int .u64 ((b2 : Nat) : Int), .int .u64 ((k1 : Nat) : Int)] (.tuple #[.int .u64 ((s2 : Nat) : Int), .int .u64 ((k2 : Nat) : Int)]) ca2 rfl rfl) <|
    oc (k_mv (.inl rfl) rfl) <|
    oc (k_ex (.tuple #[.int .u64 ((s2 : Nat) : Int), .int .u64 ((k2 : Nat) : Int)]) (.int .u64 ((s2 : Nat) : Int)) rfl rfl) <|
    oc (k_ex (.tuple #[.int .u64 ((s2 : Nat) : Int), .int .u64 ((k2 : Nat) : Int)]) (.int .u64 ((k2 : Nat) : Int)) rfl rfl) <|
    oc (k_ia 3 0 2 (.int .i64 ((2 : Nat) : Int)) (fun w q => by kernel_rfl) rfl rfl) <|
    oc (k_st 3 2 (.int .u64 ((s2 : Nat) : Int)) (c := w4 s0 s1 0 0) (n := w4 s0 s1 s2 0) (st_w (i := 2) (v := s2) (n := w4 s0 s1 s2 0) 58 rfl rfl) rfl rfl) <|
    oz (k_mv (.inr rfl) rfl) <|
    ok_nil
  clear h; intro β a w h
  refine sym_then ?_
  refine St.rg h [(30, .inl (.int .i64 ((2 : Nat) : Int))), (31, .inl (.int .i64 ((2 : Nat) : Int))), (32, .inr (3, pt 2)), (33, .inl (.int .u64 ((s2 : Nat) : Int))), (34, .inl (.int .u64 ((0 : Nat) : Int))), (35, .inl (.int .u64 ((e1 : Nat) : Int))), (36, .inl (.tuple #[.int .u64 ((r2 : Nat) : Int), .int .u64 ((e2 : Nat) : Int)])), (29, .inl (.tuple #[.int .u64 ((r2 : Nat) : Int), .int .u64 ((e2 : Nat) : Int)])), (37, .inl (.int .u64 ((r2 : Nat) : Int))), (38, .inl (.int .u64 ((e2 : Nat) : Int))), (39, .inr (4, pt 2)), (8, .inl (.int .u64 ((e2 : Nat) : Int)))] [] [(4, w4 r0 r1 r2 0)] [nn, nn, nn, eR 3, nn, eO, nn, nn, nn, nn, nn, eS 4] ?_ ?_
  · exact oc (k_mv (.inl rfl) rfl) <|
    oc (k_mv (.inl rfl) rfl) <|
    oc (k_ia 3 0 2 (.int .i64 ((2 : Nat) : Int)) (fun w q => by kernel_rfl) rfl rfl) <|
    oc (k_ld 3 2 (.int .u64 ((s2 : Nat) : Int)) (c := w4 s0 s1 s2 0) (ld_w (i := 2) (v := s2) 58 rfl) rfl rfl) <|
    oc (k_mv (.inl rfl) rfl) <|
    oc (k_m0 rfl rfl) <|
    oc (k_cx 52 #[.int .u64 ((s2 : Nat) : Int), .int .u64 ((0 : Nat) : Int), .int .u64 ((e1 : Nat) : Int)] (.tuple #[.int .u64 ((r2 : Nat) : Int), .int .u64 ((e2 : Nat) : Int)]) cs2 rfl rfl) <|
    oc (k_mv (.inl rfl) rfl) <|
    oc (k_ex (.tuple #[.int .u64 ((r2 : Nat) : Int), .int .u64 ((e2 : Nat) : Int)]) (.int .u64 ((r2 : Nat) : Int)) rfl rfl) <|
    oc (k_ex (.tuple #[.int .u64 ((r2 : Nat) : Int), .int .u64 ((e2 : Nat) : Int)]) (.int .u64 ((e2 : Nat) : Int)) rfl rfl) <|
    oc (k_ia 4 0 2 (.int .i64 ((2 : Nat) : Int)) (fun w q => by kernel_rfl) rfl rfl) <|
    oc (k_st 4 2 (.int .u64 ((r2 : Nat) : Int)) (c := w4 r0 r1 0 0) (n := w4 r0 r1 r2 0) (st_w (i := 2) (v := r2) (n := w4 r0 r1 r2 0) 58 rfl rfl) rfl rfl) <|
    oz (k_mv (.inr rfl) rfl) <|
    ok_nil
  clear h; intro β a w h
  refine blk_norm ?_
  refine sym_then ?_
  refine St.r0 h [(40, .inl (.int .i64 ((3 : Nat) : Int))), (12, .inl (.int .i64 ((3 : Nat) : Int)))] [eO] ?_ ?_
  · exact oc (k_b0 (.int .i64 ((2 : Nat) : Int)) (.int .i64 ((1 : Nat) : Int)) (.int .i64 ((3 : Nat) : Int)) (ad_k (m := 2) (n := 1) rfl (by decide)) rfl rfl) <|
    oz (k_mv (.inl rfl) rfl) <|
    ok_nil
  clear h; intro β a w h
  refine then_norm ?_
  replace h := St.cs h (s' := [.inl (.agg (w4 a0 a1 a2 a3)), .inl (.agg (w4 b0 b1 b2 b3)), .inr (0, pt 0), .inr (1, pt 0), .inr (2, pt 0), .inr (3, pt 0), .inr (4, pt 0), .inl (.int .u64 ((k2 : Nat) : Int)), .inl (.int .u64 ((e2 : Nat) : Int)), .inl (.int .i64 ((2 : Nat) : Int)), .inl (.int .u64 ((0 : Nat) : Int)), .inl (.agg (w4 6346243789798364141 1503914060200516822 0 1152921504606846976)), .inl (.int .i64 ((3 : Nat) : Int)), .inl (.bool true), .inl (.int .i64 ((2 : Nat) : Int)), .inl (.int .u64 ((0 : Nat) : Int)), .inl (.tuple #[.int .u64 ((s2 : Nat) : Int), .int .u64 ((k2 : Nat) : Int)]), .inl (.int .i64 ((2 : Nat) : Int)), .inl (.int .i64 ((2 : Nat) : Int)), .inr (0, pt 2), .inl (.int .u64 ((a2 : Nat) : Int)), .inl (.int .i64 ((2 : Nat) : Int)), .inr (1, pt 2), .inl (.int .u64 ((b2 : Nat) : Int)), .inl (.int .u64 ((k1 : Nat) : Int)), .inl (.tuple #[.int .u64 ((s2 : Nat) : Int), .int .u64 ((k2 : Nat) : Int)]), .inl (.int .u64 ((s2 : Nat) : Int)), .inl (.int .u64 ((k2 : Nat) : Int)), .inr (3, pt 2), .inl (.tuple #[.int .u64 ((r2 : Nat) : Int), .int .u64 ((e2 : Nat) : Int)]), .inl (.int .i64 ((2 : Nat) : Int)), .inl (.int .i64 ((2 : Nat) : Int)), .inr (3, pt 2), .inl (.int .u64 ((s2 : Nat) : Int)), .inl (.int .u64 ((0 : Nat) : Int)), .inl (.int .u64 ((e1 : Nat) : Int)), .inl (.tuple #[.int .u64 ((r2 : Nat) : Int), .int .u64 ((e2 : Nat) : Int)]), .inl (.int .u64 ((r2 : Nat) : Int)), .inl (.int .u64 ((e2 : Nat) : Int)), .inr (4, pt 2), .inl (.int .i64 ((3 : Nat) : Int)), uu, uu, uu, uu]) (m' := [(w4 a0 a1 a2 a3, 58), (w4 b0 b1 b2 b3, 58), (w4 0 0 0 0, 58), (w4 s0 s1 s2 0, 58), (w4 r0 r1 r2 0, 58)]) (by kernel_rfl) (by kernel_rfl)
  replace h := h.o0
  refine rounds_1 ?_
  refine sym_seq ?_
  refine St.r0 h [] [] ?_ ?_
  · exact oz (k_bi (.int .i64 ((3 : Nat) : Int)) (.int .i64 ((4 : Nat) : Int)) (.bool true) (lt_i (m := ((3 : Nat) : Int)) (n := ((4 : Nat) : Int)) (by decide)) rfl rfl) <|
    ok_nil
  clear h; intro β a w h
  refine sym_then ?_
  refine sym_seq ?_
  refine s_ct h ?_
  refine wp_skip ?_
  refine sym_then ?_
  refine sym_seq ?_
  refine blk_in ?_
  refine sym_seq ?_
  refine St.r0 h [(14, .inl (.int .i64 ((3 : Nat) : Int))), (15, .inl (.int .u64 ((1152921504606846976 : Nat) : Int))), (9, .inl (.int .i64 ((3 : Nat) : Int))), (10, .inl (.int .u64 ((1152921504606846976 : Nat) : Int)))] [] ?_ ?_
  · exact oz (k_mv (.inl rfl) rfl) <|
    oz (k_ix (.agg (w4 6346243789798364141 1503914060200516822 0 1152921504606846976)) (.int .i64 ((3 : Nat) : Int)) (.int .u64 ((1152921504606846976 : Nat) : Int)) (fun w => by kernel_rfl) rfl rfl) <|
    oz (k_mv (.inr rfl) rfl) <|
    oz (k_mv (.inr rfl) rfl) <|
    ok_nil
  clear h; intro β a w h
  refine sym_then ?_
  refine sym_seq ?_
  refine St.rg h [(17, .inl (.int .i64 ((3 : Nat) : Int))), (18, .inl (.int .i64 ((3 : Nat) : Int))), (19, .inr (0, pt 3)), (20, .inl (.int .u64 ((a3 : Nat) : Int))), (21, .inl (.int .i64 ((3 : Nat) : Int))), (22, .inr (1, pt 3)), (23, .inl (.int .u64 ((b3 : Nat) : Int))), (24, .inl (.int .u64 ((k2 : Nat) : Int))), (25, .inl (.tuple #[.int .u64 ((s3 : Nat) : Int), .int .u64 ((k3 : Nat) : Int)])), (16, .inl (.tuple #[.int .u64 ((s3 : Nat) : Int), .int .u64 ((k3 : Nat) : Int)])), (26, .inl (.int .u64 ((s3 : Nat) : Int))), (27, .inl (.int .u64 ((k3 : Nat) : Int))), (28, .inr (3, pt 3)), (7, .inl (.int .u64 ((k3 : Nat) : Int)))] [] [(3, w4 s0 s1 s2 s3)] [nn, nn, nn, eR 0, nn, nn, eR 1, eO, nn, nn, nn, nn, nn, eS 3] ?_ ?_
  · exact oc (k_mv (.inl rfl) rfl) <|
    oc (k_mv (.inl rfl) rfl) <|
    oc (k_ia 0 0 3 (.int .i64 ((3 : Nat) : Int)) (fun w q => by kernel_rfl) rfl rfl) <|
    oc (k_ld 0 3 (.int .u64 ((a3 : Nat) : Int)) (c := w4 a0 a1 a2 a3) (ld_w (i := 3) (v := a3) 58 rfl) rfl rfl) <|
    oc (k_mv (.inl rfl) rfl) <|
    oc (k_ia 1 0 3 (.int .i64 ((3 : Nat) : Int)) (fun w q => by kernel_rfl) rfl rfl) <|
    oc (k_ld 1 3 (.int .u64 ((b3 : Nat) : Int)) (c := w4 b0 b1 b2 b3) (ld_w (i := 3) (v := b3) 58 rfl) rfl rfl) <|
    oc (k_m0 rfl rfl) <|
    oc (k_cx 51 #[.int .u64 ((a3 : Nat) : Int), .int .u64 ((b3 : Nat) : Int), .int .u64 ((k2 : Nat) : Int)] (.tuple #[.int .u64 ((s3 : Nat) : Int), .int .u64 ((k3 : Nat) : Int)]) ca3 rfl rfl) <|
    oc (k_mv (.inl rfl) rfl) <|
    oc (k_ex (.tuple #[.int .u64 ((s3 : Nat) : Int), .int .u64 ((k3 : Nat) : Int)]) (.int .u64 ((s3 : Nat) : Int)) rfl rfl) <|
    oc (k_ex (.tuple #[.int .u64 ((s3 : Nat) : Int), .int .u64 ((k3 : Nat) : Int)]) (.int .u64 ((k3 : Nat) : Int)) rfl rfl) <|
    oc (k_ia 3 0 3 (.int .i64 ((3 : Nat) : Int)) (fun w q => by kernel_rfl) rfl rfl) <|
    oc (k_st 3 3 (.int .u64 ((s3 : Nat) : Int)) (c := w4 s0 s1 s2 0) (n := w4 s0 s1 s2 s3) (st_w (i := 3) (v := s3) (n := w4 s0 s1 s2 s3) 58 rfl rfl) rfl rfl) <|
    oz (k_mv (.inr rfl) rfl) <|
    ok_nil
  clear h; intro β a w h
  refine sym_then ?_
  refine St.rg h [(30, .inl (.int .i64 ((3 : Nat) : Int))), (31, .inl (.int .i64 ((3 : Nat) : Int))), (32, .inr (3, pt 3)), (33, .inl (.int .u64 ((s3 : Nat) : Int))), (34, .inl (.int .u64 ((1152921504606846976 : Nat) : Int))), (35, .inl (.int .u64 ((e2 : Nat) : Int))), (36, .inl (.tuple #[.int .u64 ((r3 : Nat) : Int), .int .u64 ((e3 : Nat) : Int)])), (29, .inl (.tuple #[.int .u64 ((r3 : Nat) : Int), .int .u64 ((e3 : Nat) : Int)])), (37, .inl (.int .u64 ((r3 : Nat) : Int))), (38, .inl (.int .u64 ((e3 : Nat) : Int))), (39, .inr (4, pt 3)), (8, .inl (.int .u64 ((e3 : Nat) : Int)))] [] [(4, w4 r0 r1 r2 r3)] [nn, nn, nn, eR 3, nn, eO, nn, nn, nn, nn, nn, eS 4] ?_ ?_
  · exact oc (k_mv (.inl rfl) rfl) <|
    oc (k_mv (.inl rfl) rfl) <|
    oc (k_ia 3 0 3 (.int .i64 ((3 : Nat) : Int)) (fun w q => by kernel_rfl) rfl rfl) <|
    oc (k_ld 3 3 (.int .u64 ((s3 : Nat) : Int)) (c := w4 s0 s1 s2 s3) (ld_w (i := 3) (v := s3) 58 rfl) rfl rfl) <|
    oc (k_mv (.inl rfl) rfl) <|
    oc (k_m0 rfl rfl) <|
    oc (k_cx 52 #[.int .u64 ((s3 : Nat) : Int), .int .u64 ((1152921504606846976 : Nat) : Int), .int .u64 ((e2 : Nat) : Int)] (.tuple #[.int .u64 ((r3 : Nat) : Int), .int .u64 ((e3 : Nat) : Int)]) cs3 rfl rfl) <|
    oc (k_mv (.inl rfl) rfl) <|
    oc (k_ex (.tuple #[.int .u64 ((r3 : Nat) : Int), .int .u64 ((e3 : Nat) : Int)]) (.int .u64 ((r3 : Nat) : Int)) rfl rfl) <|
    oc (k_ex (.tuple #[.int .u64 ((r3 : Nat) : Int), .int .u64 ((e3 : Nat) : Int)]) (.int .u64 ((e3 : Nat) : Int)) rfl rfl) <|
    oc (k_ia 4 0 3 (.int .i64 ((3 : Nat) : Int)) (fun w q => by kernel_rfl) rfl rfl) <|
    oc (k_st 4 3 (.int .u64 ((r3 : Nat) : Int)) (c := w4 r0 r1 r2 0) (n := w4 r0 r1 r2 r3) (st_w (i := 3) (v := r3) (n := w4 r0 r1 r2 r3) 58 rfl rfl) rfl rfl) <|
    oz (k_mv (.inr rfl) rfl) <|
    ok_nil
  clear h; intro β a w h
  refine blk_norm ?_
  refine sym_then ?_
  refine St.r0 h [(40, .inl (.int .i64 ((4 : Nat) : Int))), (12, .inl (.int .i64 ((4 : Nat) : Int)))] [eO] ?_ ?_
  · exact oc (k_b0 (.int .i64 ((3 : Nat) : Int)) (.int .i64 ((1 : Nat) : Int)) (.int .i64 ((4 : Nat) : Int)) (ad_k (m := 3) (n := 1) rfl (by decide)) rfl rfl) <|
    oz (k_mv (.inl rfl) rfl) <|
    ok_nil
  clear h; intro β a w h
  refine then_norm ?_
  replace h := St.cs h (s' := [.inl (.agg (w4 a0 a1 a2 a3)), .inl (.agg (w4 b0 b1 b2 b3)), .inr (0, pt 0), .inr (1, pt 0), .inr (2, pt 0), .inr (3, pt 0), .inr (4, pt 0), .inl (.int .u64 ((k3 : Nat) : Int)), .inl (.int .u64 ((e3 : Nat) : Int)), .inl (.int .i64 ((3 : Nat) : Int)), .inl (.int .u64 ((1152921504606846976 : Nat) : Int)), .inl (.agg (w4 6346243789798364141 1503914060200516822 0 1152921504606846976)), .inl (.int .i64 ((4 : Nat) : Int)), .inl (.bool true), .inl (.int .i64 ((3 : Nat) : Int)), .inl (.int .u64 ((1152921504606846976 : Nat) : Int)), .inl (.tuple #[.int .u64 ((s3 : Nat) : Int), .int .u64 ((k3 : Nat) : Int)]), .inl (.int .i64 ((3 : Nat) : Int)), .inl (.int .i64 ((3 : Nat) : Int)), .inr (0, pt 3), .inl (.int .u64 ((a3 : Nat) : Int)), .inl (.int .i64 ((3 : Nat) : Int)), .inr (1, pt 3), .inl (.int .u64 ((b3 : Nat) : Int)), .inl (.int .u64 ((k2 : Nat) : Int)), .inl (.tuple #[.int .u64 ((s3 : Nat) : Int), .int .u64 ((k3 : Nat) : Int)]), .inl (.int .u64 ((s3 : Nat) : Int)), .inl (.int .u64 ((k3 : Nat) : Int)), .inr (3, pt 3), .inl (.tuple #[.int .u64 ((r3 : Nat) : Int), .int .u64 ((e3 : Nat) : Int)]), .inl (.int .i64 ((3 : Nat) : Int)), .inl (.int .i64 ((3 : Nat) : Int)), .inr (3, pt 3), .inl (.int .u64 ((s3 : Nat) : Int)), .inl (.int .u64 ((1152921504606846976 : Nat) : Int)), .inl (.int .u64 ((e2 : Nat) : Int)), .inl (.tuple #[.int .u64 ((r3 : Nat) : Int), .int .u64 ((e3 : Nat) : Int)]), .inl (.int .u64 ((r3 : Nat) : Int)), .inl (.int .u64 ((e3 : Nat) : Int)), .inr (4, pt 3), .inl (.int .i64 ((4 : Nat) : Int)), uu, uu, uu, uu]) (m' := [(w4 a0 a1 a2 a3, 58), (w4 b0 b1 b2 b3, 58), (w4 0 0 0 0, 58), (w4 s0 s1 s2 s3, 58), (w4 r0 r1 r2 r3, 58)]) (by kernel_rfl) (by kernel_rfl)
  replace h := h.o0
  refine rounds_1 ?_
  refine sym_seq ?_
  refine St.r0 h [(13, .inl (.bool false))] [] ?_ ?_
  · exact oz (k_bi (.int .i64 ((4 : Nat) : Int)) (.int .i64 ((4 : Nat) : Int)) (.bool false) (lt_i (m := ((4 : Nat) : Int)) (n := ((4 : Nat) : Int)) (by decide)) rfl rfl) <|
    ok_nil
  clear h; intro β a w h
  refine sym_then ?_
  refine sym_seq ?_
  refine s_cf h ?_
  refine wp_exit ?_
  refine then_exit ?_
  refine then_exit ?_
  refine blk_exit ?_
  refine sym_then ?_
  refine sym_seq ?_
  refine sym_seq ?_
  refine St.r0 h [(41, .inl (.int .u64 ((e3 : Nat) : Int))), (42, .inl (.bool false))] [] ?_ ?_
  · exact oz (k_mv (.inl rfl) rfl) <|
    oz (k_bi (.int .u64 ((e3 : Nat) : Int)) (.int .u64 ((1 : Nat) : Int)) (.bool false) (eq_u64 (m := e3) (n := 1) (decide_eq_false hb)) rfl rfl) <|
    ok_nil
  clear h; intro β a w h
  refine sym_then ?_
  refine s_cf h ?_
  refine wp_skip ?_
  refine sym_then ?_
  refine sym_seq ?_
  refine St.rg h [(44, .inl (.agg (w4 r0 r1 r2 r3)))] [] [(2, w4 r0 r1 r2 r3)] [eR 4, eS 2] ?_ ?_
  · exact oc (k_ld 4 0 (.agg (w4 r0 r1 r2 r3)) (c := w4 r0 r1 r2 r3) (ldW 58) rfl rfl) <|
    oc (k_st 2 0 (.agg (w4 r0 r1 r2 r3)) (c := w4 0 0 0 0) (n := w4 r0 r1 r2 r3) (stW 58 rfl) rfl rfl) <|
    ok_nil
  clear h; intro β a w h
  refine sym_then ?_
  refine wp_ret ?_
  exact s_rc (b := 2) (t0 := 58) (c := w4 r0 r1 r2 r3) h Tryd.results25 Tryd.underlying58 (fun hb => ⟨rfl, hb⟩) (by kernel_rfl)

theorem split4 (n : Nat) (h : n < 115792089237316195423570985008687907853269984665640564039457584007913129639936) : ∃ a0 a1 a2 a3 : Nat, a0 < 18446744073709551616 ∧ a1 < 18446744073709551616 ∧ a2 < 18446744073709551616 ∧ a3 < 18446744073709551616 ∧ n = a0 + 18446744073709551616 * a1 + 340282366920938463463374607431768211456 * a2 + 6277101735386680763835789423207666416102355444464034512896 * a3 := by
  have h1 := Nat.div_add_mod n 18446744073709551616
  have h2 := Nat.div_add_mod (n / 18446744073709551616) 18446744073709551616
  have h3 := Nat.div_add_mod (n / 18446744073709551616 / 18446744073709551616) 18446744073709551616
  have l1 := Nat.mod_lt n (y := 18446744073709551616) (by decide)
  have l2 := Nat.mod_lt (n / 18446744073709551616) (y := 18446744073709551616) (by decide)
  have l3 := Nat.mod_lt (n / 18446744073709551616 / 18446744073709551616) (y := 18446744073709551616) (by decide)
  have l4 : n / 18446744073709551616 / 18446744073709551616 / 18446744073709551616 < 18446744073709551616 := by rw [Nat.div_div_eq_div_mul, Nat.div_div_eq_div_mul]; exact Nat.div_lt_of_lt_mul h
  refine ⟨n % 18446744073709551616, n / 18446744073709551616 % 18446744073709551616, n / 18446744073709551616 / 18446744073709551616 % 18446744073709551616, n / 18446744073709551616 / 18446744073709551616 / 18446744073709551616, l1, l2, l3, l4, ?_⟩
  generalize n % 18446744073709551616 = r0 at *
  generalize n / 18446744073709551616 % 18446744073709551616 = r1 at *
  generalize n / 18446744073709551616 / 18446744073709551616 % 18446744073709551616 = r2 at *
  generalize n / 18446744073709551616 / 18446744073709551616 / 18446744073709551616 = q3 at *
  generalize n / 18446744073709551616 / 18446744073709551616 = q2 at *
  generalize n / 18446744073709551616 = q1 at *
  clear l1 l2 l3 l4 h
  omega
theorem sum_eq {m n a0 a1 a2 a3 b0 b1 b2 b3 s0 s1 s2 s3 k0 k1 k2 k3 : Nat} (em : m = a0 + 18446744073709551616 * a1 + 340282366920938463463374607431768211456 * a2 + 6277101735386680763835789423207666416102355444464034512896 * a3) (en : n = b0 + 18446744073709551616 * b1 + 340282366920938463463374607431768211456 * b2 + 6277101735386680763835789423207666416102355444464034512896 * b3) (x0 : s0 + 18446744073709551616 * k0 = a0 + b0 + 0) (x1 : s1 + 18446744073709551616 * k1 = a1 + b1 + k0) (x2 : s2 + 18446744073709551616 * k2 = a2 + b2 + k1) (x3 : s3 + 18446744073709551616 * k3 = a3 + b3 + k2) : s0 + 18446744073709551616 * s1 + 340282366920938463463374607431768211456 * s2 + 6277101735386680763835789423207666416102355444464034512896 * s3 + 115792089237316195423570985008687907853269984665640564039457584007913129639936 * k3 = m + n := by omega
theorem dif_eq {s0 s1 s2 s3 r0 r1 r2 r3 e0 e1 e2 e3 : Nat} (y0 : r0 + 6346243789798364141 + 0 = s0 + 18446744073709551616 * e0) (y1 : r1 + 1503914060200516822 + e0 = s1 + 18446744073709551616 * e1) (y2 : r2 + 0 + e1 = s2 + 18446744073709551616 * e2) (y3 : r3 + 1152921504606846976 + e2 = s3 + 18446744073709551616 * e3) : r0 + 18446744073709551616 * r1 + 340282366920938463463374607431768211456 * r2 + 6277101735386680763835789423207666416102355444464034512896 * r3 + 7237005577332262213973186563042994240857116359379907606001950938285454250989 = s0 + 18446744073709551616 * s1 + 340282366920938463463374607431768211456 * s2 + 6277101735386680763835789423207666416102355444464034512896 * s3 + 115792089237316195423570985008687907853269984665640564039457584007913129639936 * e3 := by omega
theorem four_lt {a b c d : Nat} (ha : a < 18446744073709551616) (hb : b < 18446744073709551616) (hc : c < 18446744073709551616) (hd : d < 18446744073709551616) : a + 18446744073709551616 * b + 340282366920938463463374607431768211456 * c + 6277101735386680763835789423207666416102355444464034512896 * d < 115792089237316195423570985008687907853269984665640564039457584007913129639936 := by omega
theorem only_S {m n S k : Nat} (hm : m < 7237005577332262213973186563042994240857116359379907606001950938285454250989) (hn : n < 7237005577332262213973186563042994240857116359379907606001950938285454250989) (hS : S < 115792089237316195423570985008687907853269984665640564039457584007913129639936) (h : S + 115792089237316195423570985008687907853269984665640564039457584007913129639936 * k = m + n) : S = m + n := by omega
theorem bor_S {m n S R e : Nat} (hR : R < 115792089237316195423570985008687907853269984665640564039457584007913129639936) (h : R + 7237005577332262213973186563042994240857116359379907606001950938285454250989 = S + 115792089237316195423570985008687907853269984665640564039457584007913129639936 * e) (he : e = 1) (hS : S = m + n) : m + n < 7237005577332262213973186563042994240857116359379907606001950938285454250989 := by omega
theorem nob_R {m n S R e : Nat} (hm : m < 7237005577332262213973186563042994240857116359379907606001950938285454250989) (hn : n < 7237005577332262213973186563042994240857116359379907606001950938285454250989) (h : R + 7237005577332262213973186563042994240857116359379907606001950938285454250989 = S + 115792089237316195423570985008687907853269984665640564039457584007913129639936 * e) (he : e ≤ 1) (hb : ¬ e = 1) (hS : S = m + n) : (m + n) % 7237005577332262213973186563042994240857116359379907606001950938285454250989 = R := by
  have h1 : R + 7237005577332262213973186563042994240857116359379907606001950938285454250989 = m + n := by omega
  rw [← h1, Nat.add_mod_right, Nat.mod_eq_of_lt (by omega)]
/-- A sum of residues. -/
def sumL (m n : Nat) : Nat := (m + n) % oL
theorem plus_res {m n : Nat} (hm : m < oL) (hn : n < oL) (W0 : World) : Calls Tryd.prog 25 #[.agg (rs m), .agg (rs n)] W0 fun e w' => e = .returned (.agg (rs (sumL m n))) ∧ Below W0.heap.size W0 w' := by
  unfold sumL
  have hl : oL = 7237005577332262213973186563042994240857116359379907606001950938285454250989 := rfl
  rw [hl] at hm hn ⊢
  clear hl
  obtain ⟨a0, a1, a2, a3, p0, p1, p2, p3, em⟩ := split4 m (by omega)
  obtain ⟨b0, b1, b2, b3, q0, q1, q2, q3, en⟩ := split4 n (by omega)
  obtain ⟨s0, k0, s0l, k0l, x0, ca0⟩ := add64_ex a0 b0 0 p0 q0 (by omega)
  obtain ⟨s1, k1, s1l, k1l, x1, ca1⟩ := add64_ex a1 b1 k0 p1 q1 k0l
  obtain ⟨s2, k2, s2l, k2l, x2, ca2⟩ := add64_ex a2 b2 k1 p2 q2 k1l
  obtain ⟨s3, k3, s3l, k3l, x3, ca3⟩ := add64_ex a3 b3 k2 p3 q3 k2l
  obtain ⟨r0, e0, r0l, e0l, y0, cs0⟩ := sub64_ex s0 6346243789798364141 0 s0l (by decide) (by decide)
  obtain ⟨r1, e1, r1l, e1l, y1, cs1⟩ := sub64_ex s1 1503914060200516822 e0 s1l (by decide) e0l
  obtain ⟨r2, e2, r2l, e2l, y2, cs2⟩ := sub64_ex s2 0 e1 s2l (by decide) e1l
  obtain ⟨r3, e3, r3l, e3l, y3, cs3⟩ := sub64_ex s3 1152921504606846976 e2 s3l (by decide) e2l
  have hS := sum_eq em en x0.out x1.out x2.out x3.out
  have hR := dif_eq y0.out y1.out y2.out y3.out
  have hSl := four_lt s0l s1l s2l s3l
  have hRl := four_lt r0l r1l r2l r3l
  obtain ⟨S, eS⟩ : ∃ S, S = s0 + 18446744073709551616 * s1 + 340282366920938463463374607431768211456 * s2 + 6277101735386680763835789423207666416102355444464034512896 * s3 := ⟨_, rfl⟩
  obtain ⟨R, eR⟩ : ∃ R, R = r0 + 18446744073709551616 * r1 + 340282366920938463463374607431768211456 * r2 + 6277101735386680763835789423207666416102355444464034512896 * r3 := ⟨_, rfl⟩
  rw [← eS] at hS hR hSl
  rw [← eR] at hR hRl
  have hk : S = m + n := only_S hm hn hSl hS
  rw [← rs_of p0 p1 p2 p3 em, ← rs_of q0 q1 q2 q3 en]
  by_cases hb : e3 = 1
  · rw [← rs_of s0l s1l s2l s3l (n := (m + n) % 7237005577332262213973186563042994240857116359379907606001950938285454250989) (by rw [Nat.mod_eq_of_lt (bor_S hRl hR hb hk), ← hk, eS])]
    exact pls_s ca0 ca1 ca2 ca3 cs0 cs1 cs2 cs3 hb W0
  · rw [← rs_of r0l r1l r2l r3l (n := (m + n) % 7237005577332262213973186563042994240857116359379907606001950938285454250989) (by rw [nob_R hm hn hR e3l hb hk, eR])]
    exact pls_r ca0 ca1 ca2 ca3 cs0 cs1 cs2 cs3 hb W0
theorem sumL_lt (m n : Nat) : sumL m n < oL := Nat.mod_lt _ (by decide +kernel)
end Go.Proofs.YtgojlikjcpnhjaaDoor

namespace Go.Proofs.YtgojlikjcpnhjaaDoor
open Go.RowKit Go.Shelf

/-- The number that bytes tell, the lowest first. -/
def nB (f : Nat → Nat) : Nat → Nat
  | 0 => 0
  | k + 1 => nB f k + f k * 256 ^ k
theorem nB_lt {f : Nat → Nat} (hf : ∀ i, f i < 256) : ∀ k, nB f k < 256 ^ k
  | 0 => by show 0 < 1; omega
  | k + 1 => by
    have h1 := nB_lt hf k
    have h2 := hf k
    have h3 : f k * 256 ^ k ≤ 255 * 256 ^ k := Nat.mul_le_mul_right _ (by omega)
    show nB f k + f k * 256 ^ k < 256 ^ (k + 1)
    rw [Nat.pow_succ]; omega
theorem nB_byte {f : Nat → Nat} (hf : ∀ i, f i < 256) : ∀ k i, i < k → nB f k / 256 ^ i % 256 = f i
  | 0, _, h => by omega
  | k + 1, i, h => by
    show (nB f k + f k * 256 ^ k) / 256 ^ i % 256 = f i
    have h1 := nB_lt hf k
    have hp : 0 < 256 ^ i := Nat.pow_pos (by omega)
    by_cases e : i = k
    · subst e
      rw [Nat.add_mul_div_right _ _ hp, Nat.div_eq_of_lt h1, Nat.zero_add, Nat.mod_eq_of_lt (hf i)]
    · have e2 : f k * 256 ^ k = f k * 256 ^ (k - i - 1) * 256 * 256 ^ i := by
        rw [Nat.mul_assoc, Nat.mul_assoc, Nat.mul_comm 256, ← Nat.pow_succ, ← Nat.pow_add, show k - i - 1 + (i + 1) = k by omega]
      rw [e2, Nat.add_mul_div_right _ _ hp, Nat.add_mul_mod_self_right]
      exact nB_byte hf k i (by omega)
theorem fg_nB {f : Nat → Nat} (hf : ∀ i, f i < 256) (k j : Nat) (h : j < 8 * k) : fg f j = nB f k / 2 ^ j % 2 := by
  unfold fg
  rw [← nB_byte hf k (j / 8) (by omega)]
  have e : 2 ^ j = 256 ^ (j / 8) * 2 ^ (j % 8) := by
    rw [show (256 : Nat) = 2 ^ 8 from rfl, ← Nat.pow_mul, ← Nat.pow_add]; congr 1; omega
  rw [e, ← Nat.div_div_eq_div_mul]
  generalize nB f k / 256 ^ (j / 8) = m
  have hr : j % 8 < 8 := Nat.mod_lt _ (by omega)
  generalize j % 8 = r at hr
  obtain rfl | rfl | rfl | rfl | rfl | rfl | rfl | rfl : r = 0 ∨ r = 1 ∨ r = 2 ∨ r = 3 ∨ r = 4 ∨ r = 5 ∨ r = 6 ∨ r = 7 := by omega
  all_goals omega
/-- So many times a residue. -/
theorem fldL {f : Nat → Nat} (hf : ∀ i, f i < 256) {a : Nat} (n : Nat) : ∀ k, k ≤ 8 * n → fldM sumL 0 a (tops f (8 * n) k) = nB f n / 2 ^ (8 * n - k) * a % oL
  | 0, _ => by
    have h := nB_lt hf n
    rw [show (256 : Nat) = 2 ^ 8 from rfl, ← Nat.pow_mul] at h
    show 0 = _
    rw [Nat.sub_zero, Nat.div_eq_of_lt h, Nat.zero_mul, Nat.zero_mod]
  | k + 1, h => by
    have ih := fldL hf (a := a) n k (by omega)
    have e : 8 * n - k = (8 * n - 1 - k) + 1 := by omega
    have e2 : 8 * n - (k + 1) = 8 * n - 1 - k := by omega
    rw [e, Nat.pow_succ, ← Nat.div_div_eq_div_mul] at ih
    rw [tops_succ, e2]
    have hb := fg_nB hf n (8 * n - 1 - k) (by omega)
    generalize nB f n / 2 ^ (8 * n - 1 - k) = m at *
    rcases Nat.mod_two_eq_zero_or_one m with h2 | h2
    · rw [h2] at hb
      rw [fldM_0 _ _ _ _ (by omega), ih]
      unfold sumL
      rw [← Nat.add_mod, ← Nat.add_mul, show m / 2 + m / 2 = m by omega]
    · rw [h2] at hb
      rw [hb, fldM_1, ih]
      unfold sumL
      rw [← Nat.add_mod, ← Nat.add_mul, Nat.mod_add_mod]
      congr 1
      have : m = m / 2 + m / 2 + 1 := by omega
      rw [this, Nat.add_mul (m / 2 + m / 2) 1, Nat.one_mul]
      congr 2 <;> omega
theorem fldL_all {f : Nat → Nat} (hf : ∀ i, f i < 256) {a : Nat} (n : Nat) : fldM sumL 0 a (tops f (8 * n) (8 * n)) = nB f n * a % oL := by
  rw [fldL hf n _ (Nat.le_refl _), Nat.sub_self, Nat.pow_zero, Nat.div_one]

theorem rs_size (n : Nat) : (rs n).size = 4 := rfl
theorem rs_one (n : Nat) : (rs n).all (·.oneCell') = true := w4_one _ _ _ _
theorem ldN {n : Nat} (t0 : TypeId) (w : World) (q : Nat) (h : w.heap[q]? = some (.cells (rs n) t0 (0, 0))) : (Instr.loadAt 58 (.pointer (some ⟨q, 0, none⟩))).run Tryd.prog w = .ok (.agg (rs n)) w := ldW t0 w q h
theorem stN' {n : Nat} {e : Array Value} (t0 : TypeId) (he : e.size = 4) (w : World) (q : Nat) (h : w.heap[q]? = some (.cells e t0 (0, 0))) : (Instr.storeAt 58 (.pointer (some ⟨q, 0, none⟩)) (.agg (rs n))).run Tryd.prog w = .ok () (w.setRow q (rs n)) := stW t0 he w q h
theorem alN (w : World) : (Instr.alloc 58 true (.tuple #[])).run Tryd.prog w = .ok (.pointer (some ⟨w.heap.size, 0, none⟩)) (w.alloc (.cells (rs 0) 58)) := alW w
theorem bxN {n : Nat} (w : World) : (Instr.box 58 (.agg (rs n))).run Tryd.prog w = .ok (.pointer (some ⟨w.heap.size, 0, none⟩)) (w.alloc (.cells (rs n) 58)) := bx_agg w
theorem bdN0 (w : World) : (Instr.build 58 #[]).run Tryd.prog w = .ok (.agg (rs 0)) w := by kernel_rfl
theorem bdN1 (w : World) : (Instr.build 58 #[(0, .int .u64 ((1 : Nat) : Int))]).run Tryd.prog w = .ok (.agg (rs 1)) w := by kernel_rfl
theorem many_L {a : Nat} (ha : a < oL) {aa : Option Addr} {len cap : Nat} {f : Nat → Nat} (hm : len ≤ 1000) (W0 : World) (hb : Bs W0 aa len f) :
    Calls Tryd.prog 49 #[.slice aa len cap, .agg (rs 0), .agg (rs a), .func (.func 25) #[] #[]] W0 fun e w' => e = .returned (.agg (rs (nB f len * a % oL))) ∧ Below W0.heap.size W0 w' := by
  have h := many_res (Vl := rs) (G := fun n => n < oL) (add := sumL) (zc0 := rs 0) (fun n => by rw [rs_size]; kernel_rfl) (fun _ _ => rfl) (fun _ => rfl) rs_one alN (fun _ _ _ _ => sumL_lt _ _) (fun m n h1 h2 w => plus_res h1 h2 w) (no := 0) (one := a) (by decide +kernel) ha (aa := aa) (len := len) (cap := cap) (f := f) hm W0 hb
  rwa [fldL_all hb.1] at h
theorem gt_i {x u : Operand} {m n : Int} {b : Bool} (h : decide (n < m) = b) (w : World) : (do eqGuard .gtr 3 x u (.int .i64 m) (.int .i64 n); binOp .gtr 3 (.int .i64 m) (.int .i64 n)).run Tryd.prog w = .ok (.bool b) w := by
  subst h; simp [eqGuard, binOp, go_sem]
theorem len_run {aa : Option Addr} {n c : Nat} (ty : TypeId) (w : World) : (Builtin.len_ #[24] ty #[.slice aa n c]).run Tryd.prog w = .ok (.int .i64 ((n : Nat) : Int)) w := by
  simp [Builtin.len_, go_sem]
theorem sl_k (w : World) (q : Nat) : (Instr.sliceAt 23 (.pointer (some ⟨q, 0, none⟩)) none none none).run Tryd.prog w = .ok (.slice (some ⟨q, 0, none⟩) 32 32) w := by kernel_rfl
/-- Word number i, byte number i of a number. -/
def wq (n i : Nat) : Nat := n / 18446744073709551616 ^ i % 18446744073709551616
def kq (n i : Nat) : Nat := n / 256 ^ i % 256
theorem rs_get {n i : Nat} (h : i < 4) : (rs n)[i]? = some (.int .u64 ((wq n i : Nat) : Int)) := by
  obtain rfl | rfl | rfl | rfl : i = 0 ∨ i = 1 ∨ i = 2 ∨ i = 3 := by omega
  · simp [rs, w4, wq]
  · simp [rs, w4, wq]
  · rfl
  · rfl
theorem ixN {i : Nat} (hi : i < 4) (w : World) (q : Nat) : (Instr.indexAt 58 (.pointer (some ⟨q, 0, none⟩)) (.int .i64 ((i : Nat) : Int))).run Tryd.prog w = .ok (.pointer (some ⟨q, i, none⟩)) w := by
  simp [Instr.indexAt, go_sem, hi, addr_add]
theorem sr_q {x u : Operand} {m r : Nat} (hr : r < 64) (w : World) : (do eqGuard .shr 38 x u (.int .u64 ((m : Nat) : Int)) (.int .i64 ((r : Nat) : Int)); binOp .shr 38 (.int .u64 ((m : Nat) : Int)) (.int .i64 ((r : Nat) : Int))).run Tryd.prog w = .ok (.int .u64 ((m / 2 ^ r : Nat) : Int)) w := by
  simp [eqGuard, binOp, go_sem]
theorem cv_qb {n : Nat} (w : World) : (convert 38 5 (.int .u64 ((n : Nat) : Int))).run Tryd.prog w = .ok (.int .u8 ((n % 256 : Nat) : Int)) w := by
  have h1 : IntKind.u8.wrap (n : Int) = ((n % 256 : Nat) : Int) := by rw [IntKind.wrap_u8]; omega
  simp [convert, go_sem, h1]
theorem key_byte (n i : Nat) : wq n (i / 8) / 2 ^ (i % 8 * 8) % 256 = kq n i := by
  unfold wq kq
  have e : 256 ^ i = 18446744073709551616 ^ (i / 8) * 2 ^ (i % 8 * 8) := by
    rw [show (256 : Nat) = 2 ^ 8 from rfl, show (18446744073709551616 : Nat) = 2 ^ 64 from rfl, ← Nat.pow_mul, ← Nat.pow_mul, ← Nat.pow_add]
    congr 1; omega
  rw [e, ← Nat.div_div_eq_div_mul]
  generalize n / 18446744073709551616 ^ (i / 8) = m
  have hr : i % 8 < 8 := Nat.mod_lt _ (by omega)
  generalize i % 8 = r at hr
  obtain rfl | rfl | rfl | rfl | rfl | rfl | rfl | rfl : r = 0 ∨ r = 1 ∨ r = 2 ∨ r = 3 ∨ r = 4 ∨ r = 5 ∨ r = 6 ∨ r = 7 := by omega
  all_goals omega
def kF (n k i : Nat) : Nat := if i < k then kq n i else 0
theorem kF_next (n k : Nat) : ck (updN (kF n k) k (wq n (k / 8) / 2 ^ (k % 8 * 8) % 256)) = ck (kF n (k + 1)) := by
  rw [key_byte]
  refine ck_congr fun i _ => ?_
  unfold updN kF
  by_cases h : i = k
  · subst h; simp
  · have : (i < k + 1) = (i < k) := by simp; omega
    simp [h, this]
theorem kF_0 (n : Nat) : ck (fun _ => 0) = ck (kF n 0) := ck_congr fun i _ => by simp [kF]
theorem kF_end (n : Nat) : ck (kF n 32) = ck (kq n) := ck_congr fun i h => by simp [kF, h]
theorem kq_lt (n i : Nat) : kq n i < 256 := Nat.mod_lt _ (by omega)
end Go.Proofs.YtgojlikjcpnhjaaDoor

namespace Go.Proofs.YtgojlikjcpnhjaaDoor
open Go.RowKit Go.Shelf
theorem bdK0 (w : World) : (Instr.build 23 #[]).run Tryd.prog w = .ok (.agg (ck (fun _ => 0))) w := by rw [ck_zero]; kernel_rfl

set_option maxHeartbeats 4000000 in
theorem times_L {g : Nat} (ha : g < oL) {aa : Option Addr} {len cap : Nat} {f : Nat → Nat} (hm : len ≤ 1000) (W0 : World) (hb : Bs W0 aa len f) : Calls Tryd.prog 24 #[.slice aa len cap, .agg (rs g)] W0 fun e w' => e = .returned (.agg (rs (nB f len * g % oL))) ∧ Below W0.heap.size W0 w' := by
  refine s_in Tryd.func24 Tryd.ntmps24 rfl [.inl (.slice aa len cap), .inl (.agg (rs g))] ?_
  intro β a h
  refine sym_seq ?_
  refine St.rg h [(3, .inr (0, pt 0)), (4, .inr (1, pt 0))] [(rs g, 58), (rs 0, 58)] [] [eN 0, eN 1] ?_ ?_
  · exact oc (k_bx 0 (.agg (rs g)) (bxN (n := g)) rfl rfl) <|
    oc (k_al 1 alN rfl rfl) <|
    ok_nil
  clear h; intro β a w h
  refine sym_then ?_
  refine sym_seq ?_
  refine St.rg h [(5, .inl (.slice aa len cap)), (6, .inl (.agg (rs 0))), (7, .inl (.agg (rs g))), (8, .inl (.agg (rs (nB f len * g % oL))))] [] [(1, rs (nB f len * g % oL))] [nn, nn, eR 0, nn, eS 1] ?_ ?_
  · exact oc (k_mv (.inl rfl) rfl) <|
    oc (k_bu #[] (.agg (rs 0)) bdN0 rfl rfl) <|
    oc (k_ld 0 0 (.agg (rs g)) (c := rs g) (ldN (n := g) 58) rfl rfl) <|
    oc (k_cw 49 #[.slice aa len cap, .agg (rs 0), .agg (rs g), .func (.func 25) #[] #[]] (.agg (rs (nB f len * g % oL))) (fun w hw => many_L ha hm w (hb.later hw.below)) rfl rfl) <|
    oc (k_st 1 0 (.agg (rs (nB f len * g % oL))) (c := rs 0) (n := rs (nB f len * g % oL)) (stN' (n := (nB f len * g % oL)) 58 rfl) rfl rfl) <|
    ok_nil
  clear h; intro β a w h
  refine sym_then ?_
  refine wp_ret ?_
  exact s_rc (b := 1) (t0 := 58) (c := rs (nB f len * g % oL)) h Tryd.results24 Tryd.underlying58 (fun hb => ⟨rfl, hb⟩) (by rw [rs_size]; kernel_rfl)

set_option maxHeartbeats 4000000 in
theorem rkey_L (g : Nat) (W0 : World) : Calls Tryd.prog 26 #[.agg (rs g)] W0 fun e w' => e = .returned (.agg (ck (kq g))) ∧ Below W0.heap.size W0 w' := by
  rw [← kF_end]
  refine s_in Tryd.func26 Tryd.ntmps26 rfl [.inl (.agg (rs g))] ?_
  intro β a h
  refine sym_seq ?_
  refine St.rg h [(1, .inr (0, pt 0)), (2, .inr (1, pt 0))] [(rs g, 58), (ck (fun _ => 0), 23)] [] [eN 0, eN 1] ?_ ?_
  · exact oc (k_bx 0 (.agg (rs g)) (bxN (n := g)) rfl rfl) <|
    oc (k_al 1 alK rfl rfl) <|
    ok_nil
  clear h; intro β a w h
  refine sym_then ?_
  refine sym_seq ?_
  refine St.rg h [(3, .inr (2, pt 0))] [(ck (fun _ => 0), 23)] [] [eN 2] ?_ ?_
  · exact oc (k_al 2 alK rfl rfl) <|
    ok_nil
  clear h; intro β a w h
  refine sym_then ?_
  refine sym_seq ?_
  refine sym_seq ?_
  refine St.r0 h [(5, .inl (.int .i64 ((0 : Nat) : Int)))] [] ?_ ?_
  · exact oz (k_mv (.inl rfl) rfl) <|
    ok_nil
  clear h; intro β a w h
  refine sym_then ?_
  refine blk_in ?_
  replace h := St.sm h 2 (ck (kF g 0)) (c := ck (fun _ => 0)) (t := 23) (kF_0 g)
  replace h := St.cs h (s' := [.inl (.agg (rs g)), .inr (0, pt 0), .inr (1, pt 0), .inr (2, pt 0), uu, .inl (.int .i64 ((0 : Nat) : Int)), uu, uu, uu, uu, uu, uu, uu, uu, uu, uu, uu, uu, uu, uu, uu]) (m' := [(rs g, 58), (ck (fun _ => 0), 23), (ck (kF g 0), 23)]) (by kernel_rfl) (by kernel_rfl)
  refine loop_up 32 (fun k a w => ∃ (x4 x6 x7 x8 x9 x10 x11 x12 x13 x14 x15 x16 x17 x18 x19 : SV) (β : Nat → Nat), St (wd W0) [.inl (.agg (rs g)), .inr (0, pt 0), .inr (1, pt 0), .inr (2, pt 0), x4, .inl (.int .i64 ((k : Nat) : Int)), x6, x7, x8, x9, x10, x11, x12, x13, x14, x15, x16, x17, x18, x19, uu] [(rs g, 58), (ck (fun _ => 0), 23), (ck (kF g k), 23)] β a w) ⟨_, _, _, _, _, _, _, _, _, _, _, _, _, _, _, β, h⟩ ?_
  clear h; rintro k a w hkk ⟨x4, x6, x7, x8, x9, x10, x11, x12, x13, x14, x15, x16, x17, x18, x19, β, h⟩; replace h := h.o0
  rcases Nat.lt_or_ge k 32 with hltk | hgek
  · refine sym_seq ?_
    refine St.r0 h [(6, .inl (.bool true))] [] ?_ ?_
    · exact oz (k_bi (.int .i64 ((k : Nat) : Int)) (.int .i64 ((32 : Nat) : Int)) (.bool true) (lt_i (m := ((k : Nat) : Int)) (n := ((32 : Nat) : Int)) (decide_eq_true (by omega))) rfl rfl) <|
      ok_nil
    clear h; intro β a w h
    refine sym_then ?_
    refine sym_seq ?_
    refine s_ct h ?_
    refine wp_skip ?_
    refine sym_then ?_
    refine sym_seq ?_
    refine blk_in ?_
    refine sym_seq ?_
    refine St.r0 h [(7, .inl (.int .i64 ((k : Nat) : Int))), (4, .inl (.int .i64 ((k : Nat) : Int)))] [] ?_ ?_
    · exact oz (k_mv (.inl rfl) rfl) <|
      oz (k_mv (.inr rfl) rfl) <|
      ok_nil
    clear h; intro β a w h
    refine sym_then ?_
    refine St.rg h [(8, .inl (.int .i64 ((k : Nat) : Int))), (9, .inl (.int .i64 ((k : Nat) : Int))), (10, .inl (.int .i64 (((k / 8) : Nat) : Int))), (11, .inr (0, pt (k / 8))), (12, .inl (.int .u64 (((wq g (k / 8)) : Nat) : Int))), (13, .inl (.int .i64 ((k : Nat) : Int))), (14, .inl (.int .i64 (((k % 8) : Nat) : Int))), (15, .inl (.int .i64 ((((k % 8) * 8) : Nat) : Int))), (16, .inl (.int .u64 ((((wq g (k / 8)) / 2 ^ ((k % 8) * 8)) : Nat) : Int))), (17, .inl (.int .u8 (((((wq g (k / 8)) / 2 ^ ((k % 8) * 8)) % 256) : Nat) : Int))), (18, .inr (2, pt k))] [] [(2, ck (updN (kF g k) k (((wq g (k / 8)) / 2 ^ ((k % 8) * 8)) % 256)))] [nn, nn, nn, nn, eR 0, nn, nn, nn, nn, nn, nn, eS 2] ?_ ?_
    · exact oc (k_mv (.inl rfl) rfl) <|
      oc (k_mv (.inl rfl) rfl) <|
      oc (k_bi (.int .i64 ((k : Nat) : Int)) (.int .i64 ((8 : Nat) : Int)) (.int .i64 (((k / 8) : Nat) : Int)) (qu_i (m := k) (n := 8) (by decide) (by omega)) rfl rfl) <|
      oc (k_ia 0 0 ((k / 8)) (.int .i64 (((k / 8) : Nat) : Int)) (ixN (i := (k / 8)) (by omega)) rfl rfl) <|
      oc (k_ld 0 ((k / 8)) (.int .u64 (((wq g (k / 8)) : Nat) : Int)) (c := rs g) (ld_w (i := (k / 8)) (v := wq g (k / 8)) 58 (rs_get (by omega))) rfl rfl) <|
      oc (k_mv (.inl rfl) rfl) <|
      oc (k_bi (.int .i64 ((k : Nat) : Int)) (.int .i64 ((8 : Nat) : Int)) (.int .i64 (((k % 8) : Nat) : Int)) (re_i (m := k) (n := 8) (by decide)) rfl rfl) <|
      oc (k_bi (.int .i64 (((k % 8) : Nat) : Int)) (.int .i64 ((8 : Nat) : Int)) (.int .i64 ((((k % 8) * 8) : Nat) : Int)) (mu_i (m := (k % 8)) (n := 8) (by omega)) rfl rfl) <|
      oc (k_bi (.int .u64 (((wq g (k / 8)) : Nat) : Int)) (.int .i64 ((((k % 8) * 8) : Nat) : Int)) (.int .u64 ((((wq g (k / 8)) / 2 ^ ((k % 8) * 8)) : Nat) : Int)) (sr_q (m := (wq g (k / 8))) (r := ((k % 8) * 8)) (by omega)) rfl rfl) <|
      oc (k_co (.int .u64 ((((wq g (k / 8)) / 2 ^ ((k % 8) * 8)) : Nat) : Int)) (.int .u8 (((((wq g (k / 8)) / 2 ^ ((k % 8) * 8)) % 256) : Nat) : Int)) (cv_qb (n := ((wq g (k / 8)) / 2 ^ ((k % 8) * 8)))) rfl rfl) <|
      oc (k_ia 2 0 k (.int .i64 ((k : Nat) : Int)) (ixK (i := k) (by omega)) rfl rfl) <|
      oc (k_st 2 k (.int .u8 (((((wq g (k / 8)) / 2 ^ ((k % 8) * 8)) % 256) : Nat) : Int)) (c := ck (kF g k)) (n := ck (updN (kF g k) k (((wq g (k / 8)) / 2 ^ ((k % 8) * 8)) % 256))) (st_k (F := (kF g k)) (i := k) (v := (((wq g (k / 8)) / 2 ^ ((k % 8) * 8)) % 256)) (t0 := 23) (by omega)) rfl rfl) <|
      ok_nil
    clear h; intro β a w h
    refine blk_norm ?_
    refine sym_then ?_
    refine St.r0 h [(19, .inl (.int .i64 (((k + 1) : Nat) : Int))), (5, .inl (.int .i64 (((k + 1) : Nat) : Int)))] [eO] ?_ ?_
    · exact oc (k_b0 (.int .i64 ((k : Nat) : Int)) (.int .i64 ((1 : Nat) : Int)) (.int .i64 (((k + 1) : Nat) : Int)) (ad_i (m := k) (n := 1) (by omega)) rfl rfl) <|
      oz (k_mv (.inl rfl) rfl) <|
      ok_nil
    clear h; intro β a w h
    replace h := St.sm h 2 (ck (kF g (k + 1))) (c := ck (updN (kF g k) k (((wq g (k / 8)) / 2 ^ ((k % 8) * 8)) % 256))) (t := 23) (kF_next g k)
    replace h := St.cs h (s' := [.inl (.agg (rs g)), .inr (0, pt 0), .inr (1, pt 0), .inr (2, pt 0), .inl (.int .i64 ((k : Nat) : Int)), .inl (.int .i64 (((k + 1) : Nat) : Int)), .inl (.bool true), .inl (.int .i64 ((k : Nat) : Int)), .inl (.int .i64 ((k : Nat) : Int)), .inl (.int .i64 ((k : Nat) : Int)), .inl (.int .i64 (((k / 8) : Nat) : Int)), .inr (0, pt (k / 8)), .inl (.int .u64 (((wq g (k / 8)) : Nat) : Int)), .inl (.int .i64 ((k : Nat) : Int)), .inl (.int .i64 (((k % 8) : Nat) : Int)), .inl (.int .i64 ((((k % 8) * 8) : Nat) : Int)), .inl (.int .u64 ((((wq g (k / 8)) / 2 ^ ((k % 8) * 8)) : Nat) : Int)), .inl (.int .u8 (((((wq g (k / 8)) / 2 ^ ((k % 8) * 8)) % 256) : Nat) : Int)), .inr (2, pt k), .inl (.int .i64 (((k + 1) : Nat) : Int)), uu]) (m' := [(rs g, 58), (ck (fun _ => 0), 23), (ck (kF g (k + 1)), 23)]) (by kernel_rfl) (by kernel_rfl)
    exact ⟨hltk, _, _, _, _, _, _, _, _, _, _, _, _, _, _, _, _, h⟩
  · obtain rfl : k = 32 := by omega
    refine sym_seq ?_
    refine St.r0 h [(6, .inl (.bool false))] [] ?_ ?_
    · exact oz (k_bi (.int .i64 ((32 : Nat) : Int)) (.int .i64 ((32 : Nat) : Int)) (.bool false) (lt_i (m := ((32 : Nat) : Int)) (n := ((32 : Nat) : Int)) (decide_eq_false (by omega))) rfl rfl) <|
      ok_nil
    clear h; intro β a w h
    refine sym_then ?_
    refine sym_seq ?_
    refine s_cf h ?_
    refine wp_exit ?_
    refine then_exit ?_
    refine then_exit ?_
    refine blk_exit ?_
    refine sym_then ?_
    refine sym_seq ?_
    refine St.rg h [(20, .inl (.agg (ck (kF g 32))))] [] [(1, ck (kF g 32))] [eR 2, eS 1] ?_ ?_
    · exact oc (k_ld 2 0 (.agg (ck (kF g 32))) (c := ck (kF g 32)) (ldK (b := (kF g 32)) 23) rfl rfl) <|
      oc (k_st 1 0 (.agg (ck (kF g 32))) (c := ck (fun _ => 0)) (n := ck (kF g 32)) (stK (F := (kF g 32)) (c := ck (fun _ => 0)) 23 (ck_size _)) rfl rfl) <|
      ok_nil
    clear h; intro β a w h
    refine sym_then ?_
    refine wp_ret ?_
    exact s_rc (b := 1) (t0 := 23) (c := ck (kF g 32)) h Tryd.results26 Tryd.underlying23 (fun hb => ⟨rfl, hb⟩) (by rw [ck_size]; kernel_rfl)

theorem one_oL : 1 < oL := by decide +kernel
set_option maxHeartbeats 4000000 in
theorem residue_t {aa : Option Addr} {len cap : Nat} (hl : 64 < len) (W0 : World) : Calls Tryd.prog 22 #[.slice aa len cap] W0 fun e w' => e = .returned (.tuple #[.agg (ck (fun _ => 0)), .bool false]) ∧ Below W0.heap.size W0 w' := by
  refine s_in Tryd.func22 Tryd.ntmps22 rfl [.inl (.slice aa len cap)] ?_
  intro β a h
  refine sym_seq ?_
  refine St.rg h [(2, .inr (0, pt 0)), (3, .inl (.bool false))] [(ck (fun _ => 0), 23)] [] [eN 0] ?_ ?_
  · exact oc (k_al 0 alK rfl rfl) <|
    oz (k_mv (.inr rfl) rfl) <|
    ok_nil
  clear h; intro β a w h
  refine sym_then ?_
  refine sym_seq ?_
  refine sym_seq ?_
  refine St.r0 h [(4, .inl (.slice aa len cap)), (5, .inl (.int .i64 ((len : Nat) : Int))), (6, .inl (.bool true))] [] ?_ ?_
  · exact oz (k_mv (.inl rfl) rfl) <|
    oz (k_ln len cap rfl rfl (fun w => len_run _ w) (ad := aa)) <|
    oz (k_bi (.int .i64 ((len : Nat) : Int)) (.int .i64 ((64 : Nat) : Int)) (.bool true) (gt_i (m := ((len : Nat) : Int)) (n := ((64 : Nat) : Int)) (decide_eq_true (by omega))) rfl rfl) <|
    ok_nil
  clear h; intro β a w h
  refine sym_then ?_
  refine s_ct h ?_
  refine sym_seq ?_
  refine St.rg h [(7, .inl (.agg (ck (fun _ => 0))))] [] [(0, ck (fun _ => 0))] [nn, eS 0] ?_ ?_
  · exact oc (k_bu #[] (.agg (ck (fun _ => 0))) bdK0 rfl rfl) <|
    oc (k_st 0 0 (.agg (ck (fun _ => 0))) (c := ck (fun _ => 0)) (n := ck (fun _ => 0)) (stK (F := (fun _ => 0)) (c := ck (fun _ => 0)) 23 (ck_size _)) rfl rfl) <|
    oz (k_mv (.inr rfl) rfl) <|
    ok_nil
  clear h; intro β a w h
  refine sym_then ?_
  refine wp_ret ?_
  refine then_ret ?_
  exact s_r2 (b := 0) (t0 := 23) (c := ck (fun _ => 0)) h Tryd.results22 Tryd.underlying23 (fun hb => ⟨rfl, hb⟩) (by rw [ck_size]; kernel_rfl)

set_option maxHeartbeats 4000000 in
theorem residue_f {aa : Option Addr} {len cap : Nat} {f : Nat → Nat} (hl : len ≤ 64) (W0 : World) (hb : Bs W0 aa len f) : Calls Tryd.prog 22 #[.slice aa len cap] W0 fun e w' => e = .returned (.tuple #[.agg (ck (kq (nB f len * 1 % oL))), .bool true]) ∧ Below W0.heap.size W0 w' := by
  refine s_in Tryd.func22 Tryd.ntmps22 rfl [.inl (.slice aa len cap)] ?_
  intro β a h
  refine sym_seq ?_
  refine St.rg h [(2, .inr (0, pt 0)), (3, .inl (.bool false))] [(ck (fun _ => 0), 23)] [] [eN 0] ?_ ?_
  · exact oc (k_al 0 alK rfl rfl) <|
    oz (k_mv (.inr rfl) rfl) <|
    ok_nil
  clear h; intro β a w h
  refine sym_then ?_
  refine sym_seq ?_
  refine sym_seq ?_
  refine St.r0 h [(4, .inl (.slice aa len cap)), (5, .inl (.int .i64 ((len : Nat) : Int))), (6, .inl (.bool false))] [] ?_ ?_
  · exact oz (k_mv (.inl rfl) rfl) <|
    oz (k_ln len cap rfl rfl (fun w => len_run _ w) (ad := aa)) <|
    oz (k_bi (.int .i64 ((len : Nat) : Int)) (.int .i64 ((64 : Nat) : Int)) (.bool false) (gt_i (m := ((len : Nat) : Int)) (n := ((64 : Nat) : Int)) (decide_eq_false (by omega))) rfl rfl) <|
    ok_nil
  clear h; intro β a w h
  refine sym_then ?_
  refine s_cf h ?_
  refine wp_skip ?_
  refine sym_then ?_
  refine sym_seq ?_
  refine St.rg h [(8, .inl (.slice aa len cap)), (9, .inl (.agg (rs 1))), (10, .inl (.agg (rs (nB f len * 1 % oL)))), (11, .inl (.agg (ck (kq (nB f len * 1 % oL))))), (3, .inl (.bool true))] [] [(0, ck (kq (nB f len * 1 % oL)))] [nn, nn, nn, nn, eS 0] ?_ ?_
  · exact oc (k_mv (.inl rfl) rfl) <|
    oc (k_bu #[(0, .int .u64 ((1 : Nat) : Int))] (.agg (rs 1)) bdN1 rfl rfl) <|
    oc (k_cw 24 #[.slice aa len cap, .agg (rs 1)] (.agg (rs (nB f len * 1 % oL))) (fun w hw => times_L one_oL (by omega) w (hb.later hw.below)) rfl rfl) <|
    oc (k_ca 26 #[.agg (rs (nB f len * 1 % oL))] (.agg (ck (kq (nB f len * 1 % oL)))) (fun w => rkey_L _ w) rfl rfl) <|
    oc (k_st 0 0 (.agg (ck (kq (nB f len * 1 % oL)))) (c := ck (fun _ => 0)) (n := ck (kq (nB f len * 1 % oL))) (stK (F := (kq (nB f len * 1 % oL))) (c := ck (fun _ => 0)) 23 (ck_size _)) rfl rfl) <|
    oz (k_mv (.inr rfl) rfl) <|
    ok_nil
  clear h; intro β a w h
  refine sym_then ?_
  refine wp_ret ?_
  exact s_r2 (b := 0) (t0 := 23) (c := ck (kq (nB f len * 1 % oL))) h Tryd.results22 Tryd.underlying23 (fun hb => ⟨rfl, hb⟩) (by rw [ck_size]; kernel_rfl)
theorem residue_L {aa : Option Addr} {len cap : Nat} {f : Nat → Nat} (hl : len ≤ 64) (W0 : World) (hb : Bs W0 aa len f) : Calls Tryd.prog 22 #[.slice aa len cap] W0 fun e w' => e = .returned (.tuple #[.agg (ck (kq (nB f len % oL))), .bool true]) ∧ Below W0.heap.size W0 w' := by
  have := residue_f (cap := cap) hl W0 hb
  rwa [Nat.mul_one] at this

theorem oL_pos : 0 < oL := by decide +kernel
set_option maxHeartbeats 4000000 in
theorem times_w {f0 f1 f2 : Nat → Nat} (hf0 : ∀ i, f0 i < 256) (hf1 : ∀ i, f1 i < 256) (hf2 : ∀ i, f2 i < 256) (W0 : World) : Calls Tryd.prog 12 #[.agg (ck f0), .agg (ck f1), .agg (ck f2)] W0 fun e w' => e = .returned (.agg (ck (kq (sumL (nB f0 32 * (nB f1 32 * 1 % oL) % oL) (nB f2 32 * 1 % oL))))) ∧ Below W0.heap.size W0 w' := by
  refine s_in Tryd.func12 Tryd.ntmps12 rfl [.inl (.agg (ck f0)), .inl (.agg (ck f1)), .inl (.agg (ck f2))] ?_
  intro β a h
  refine sym_seq ?_
  refine St.rg h [(3, .inr (0, pt 0)), (4, .inr (1, pt 0)), (5, .inr (2, pt 0)), (6, .inr (3, pt 0))] [(ck f0, 23), (ck f1, 23), (ck f2, 23), (ck (fun _ => 0), 23)] [] [eN 0, eN 1, eN 2, eN 3] ?_ ?_
  · exact oc (k_bx 0 (.agg (ck f0)) (bxK (b := f0)) rfl rfl) <|
    oc (k_bx 1 (.agg (ck f1)) (bxK (b := f1)) rfl rfl) <|
    oc (k_bx 2 (.agg (ck f2)) (bxK (b := f2)) rfl rfl) <|
    oc (k_al 3 alK rfl rfl) <|
    ok_nil
  clear h; intro β a w h
  refine sym_then ?_
  refine sym_seq ?_
  refine St.rg h [(9, .inl (.agg (rs 1))), (7, .inr (4, pt 0))] [(rs 0, 58)] [(4, rs 1)] [nn, eN 4, eS 4] ?_ ?_
  · exact oc (k_bu #[(0, .int .u64 ((1 : Nat) : Int))] (.agg (rs 1)) bdN1 rfl rfl) <|
    oc (k_al 4 alN rfl rfl) <|
    oc (k_st 4 0 (.agg (rs 1)) (c := rs 0) (n := rs 1) (stN' (n := 1) 58 rfl) rfl rfl) <|
    ok_nil
  clear h; intro β a w h
  refine sym_then ?_
  refine sym_seq ?_
  refine St.rg h [(10, .inr (0, sl 0 32 32)), (11, .inr (1, sl 0 32 32)), (12, .inl (.agg (rs 1))), (13, .inl (.agg (rs (nB f1 32 * 1 % oL)))), (14, .inl (.agg (rs (nB f0 32 * (nB f1 32 * 1 % oL) % oL)))), (8, .inr (5, pt 0))] [(rs 0, 58)] [(5, rs (nB f0 32 * (nB f1 32 * 1 % oL) % oL))] [nn, nn, eR 4, eR 1, eR 0, eN 5, eS 5] ?_ ?_
  · exact oc (k_sl 0 32 rfl rfl sl_k) <|
    oc (k_sl 1 32 rfl rfl sl_k) <|
    oc (k_ld 4 0 (.agg (rs 1)) (c := rs 1) (ldN (n := 1) 58) rfl rfl) <|
    oc (k_cb 24 (fun q => #[.slice (some ⟨q, 0, none⟩) 32 32, .agg (rs 1)]) (.agg (rs (nB f1 32 * 1 % oL))) 1 11 (fun w q _ hq => times_L one_oL (by omega) w (bs_key hf1 hq)) rfl rfl (by simp) (fm := sl 0 32 32) (t0 := 23)) <|
    oc (k_cb 24 (fun q => #[.slice (some ⟨q, 0, none⟩) 32 32, .agg (rs (nB f1 32 * 1 % oL))]) (.agg (rs (nB f0 32 * (nB f1 32 * 1 % oL) % oL))) 0 10 (fun w q _ hq => times_L (Nat.mod_lt _ oL_pos) (by omega) w (bs_key hf0 hq)) rfl rfl (by simp) (fm := sl 0 32 32) (t0 := 23)) <|
    oc (k_al 5 alN rfl rfl) <|
    oc (k_st 5 0 (.agg (rs (nB f0 32 * (nB f1 32 * 1 % oL) % oL))) (c := rs 0) (n := rs (nB f0 32 * (nB f1 32 * 1 % oL) % oL)) (stN' (n := (nB f0 32 * (nB f1 32 * 1 % oL) % oL)) 58 rfl) rfl rfl) <|
    ok_nil
  clear h; intro β a w h
  refine sym_then ?_
  refine sym_seq ?_
  refine St.rg h [(15, .inl (.agg (rs (nB f0 32 * (nB f1 32 * 1 % oL) % oL)))), (16, .inr (2, sl 0 32 32)), (17, .inl (.agg (rs 1))), (18, .inl (.agg (rs (nB f2 32 * 1 % oL)))), (19, .inl (.agg (rs (sumL (nB f0 32 * (nB f1 32 * 1 % oL) % oL) (nB f2 32 * 1 % oL))))), (20, .inl (.agg (ck (kq (sumL (nB f0 32 * (nB f1 32 * 1 % oL) % oL) (nB f2 32 * 1 % oL))))))] [] [(3, ck (kq (sumL (nB f0 32 * (nB f1 32 * 1 % oL) % oL) (nB f2 32 * 1 % oL))))] [eR 5, nn, eR 4, eR 2, nn, nn, eS 3] ?_ ?_
  · exact oc (k_ld 5 0 (.agg (rs (nB f0 32 * (nB f1 32 * 1 % oL) % oL))) (c := rs (nB f0 32 * (nB f1 32 * 1 % oL) % oL)) (ldN (n := (nB f0 32 * (nB f1 32 * 1 % oL) % oL)) 58) rfl rfl) <|
    oc (k_sl 2 32 rfl rfl sl_k) <|
    oc (k_ld 4 0 (.agg (rs 1)) (c := rs 1) (ldN (n := 1) 58) rfl rfl) <|
    oc (k_cb 24 (fun q => #[.slice (some ⟨q, 0, none⟩) 32 32, .agg (rs 1)]) (.agg (rs (nB f2 32 * 1 % oL))) 2 16 (fun w q _ hq => times_L one_oL (by omega) w (bs_key hf2 hq)) rfl rfl (by simp) (fm := sl 0 32 32) (t0 := 23)) <|
    oc (k_ca 25 #[.agg (rs (nB f0 32 * (nB f1 32 * 1 % oL) % oL)), .agg (rs (nB f2 32 * 1 % oL))] (.agg (rs (sumL (nB f0 32 * (nB f1 32 * 1 % oL) % oL) (nB f2 32 * 1 % oL)))) (fun w => plus_res (Nat.mod_lt _ oL_pos) (Nat.mod_lt _ oL_pos) w) rfl rfl) <|
    oc (k_ca 26 #[.agg (rs (sumL (nB f0 32 * (nB f1 32 * 1 % oL) % oL) (nB f2 32 * 1 % oL)))] (.agg (ck (kq (sumL (nB f0 32 * (nB f1 32 * 1 % oL) % oL) (nB f2 32 * 1 % oL))))) (fun w => rkey_L _ w) rfl rfl) <|
    oc (k_st 3 0 (.agg (ck (kq (sumL (nB f0 32 * (nB f1 32 * 1 % oL) % oL) (nB f2 32 * 1 % oL))))) (c := ck (fun _ => 0)) (n := ck (kq (sumL (nB f0 32 * (nB f1 32 * 1 % oL) % oL) (nB f2 32 * 1 % oL)))) (stK (F := (kq (sumL (nB f0 32 * (nB f1 32 * 1 % oL) % oL) (nB f2 32 * 1 % oL)))) (c := ck (fun _ => 0)) 23 (ck_size _)) rfl rfl) <|
    ok_nil
  clear h; intro β a w h
  refine sym_then ?_
  refine wp_ret ?_
  exact s_rc (b := 3) (t0 := 23) (c := ck (kq (sumL (nB f0 32 * (nB f1 32 * 1 % oL) % oL) (nB f2 32 * 1 % oL)))) h Tryd.results12 Tryd.underlying23 (fun hb => ⟨rfl, hb⟩) (by rw [ck_size]; kernel_rfl)
theorem times_K {f0 f1 f2 : Nat → Nat} (hf0 : ∀ i, f0 i < 256) (hf1 : ∀ i, f1 i < 256) (hf2 : ∀ i, f2 i < 256) (W0 : World) : Calls Tryd.prog 12 #[.agg (ck f0), .agg (ck f1), .agg (ck f2)] W0 fun e w' => e = .returned (.agg (ck (kq ((nB f0 32 * nB f1 32 + nB f2 32) % oL)))) ∧ Below W0.heap.size W0 w' := by
  have h := times_w hf0 hf1 hf2 W0
  have e : sumL (nB f0 32 * (nB f1 32 * 1 % oL) % oL) (nB f2 32 * 1 % oL) = (nB f0 32 * nB f1 32 + nB f2 32) % oL := by
    unfold sumL
    rw [Nat.mul_one, Nat.mul_one, Nat.mul_mod_mod, ← Nat.add_mod]
  rwa [e] at h

set_option maxRecDepth 100000 in
theorem eqK_f2 {x u : Operand} {F G : Nat → Nat} (h : ¬ ∀ i, i < 32 → F i = G i) (w : World) : (do eqGuard .eql 23 x u (.agg (ck F)) (.agg (ck G)); binOp .eql 23 (.agg (ck F)) (.agg (ck G))).run Tryd.prog w = .ok (.bool false) w := by
  have h1 := eq_ints (P := Tryd.prog) (t := 23) (e := 5) (n := 32) (k := .u8) (k' := .u8) Tryd.underlying23 (inf := _) rfl (by kernel_rfl) Tryd.underlying5 (fun _ => by kernel_rfl) (ck F) (ck G) (fun i => (F i : Int)) (fun i => (G i : Int)) (fun i hi => arr_get _ _ _ hi) (fun i hi => arr_get _ _ _ hi) w
  rw [decide_eq_false (fun hh => h fun i hi => by have := hh i hi; omega)] at h1
  simp [eqGuard, binOp, go_sem, Op.equal, Op.maxDepth, h1]

set_option maxHeartbeats 4000000 in
theorem least_t {f : Nat → Nat} (hf : ∀ i, f i < 256) (hk : ∀ i, i < 32 → kq (nB f 32 % oL) i = f i) (W0 : World) : Calls Tryd.prog 15 #[.agg (ck f)] W0 fun e w' => e = .returned (.bool true) ∧ Below W0.heap.size W0 w' := by
  refine s_in Tryd.func15 Tryd.ntmps15 rfl [.inl (.agg (ck f))] ?_
  intro β a h
  refine sym_seq ?_
  refine St.rg h [(1, .inr (0, pt 0)), (2, .inl (.bool false))] [(ck f, 23)] [] [eN 0] ?_ ?_
  · exact oc (k_bx 0 (.agg (ck f)) (bxK (b := f)) rfl rfl) <|
    oz (k_mv (.inr rfl) rfl) <|
    ok_nil
  clear h; intro β a w h
  refine sym_then ?_
  refine sym_seq ?_
  refine St.rg h [(6, .inr (0, sl 0 32 32)), (7, .inl (.tuple #[.agg (ck (kq (nB f 32 % oL))), .bool true])), (5, .inl (.tuple #[.agg (ck (kq (nB f 32 % oL))), .bool true])), (8, .inl (.agg (ck (kq (nB f 32 % oL))))), (9, .inl (.bool true)), (3, .inr (1, pt 0)), (4, .inl (.bool true))] [(ck (fun _ => 0), 23)] [(1, ck (kq (nB f 32 % oL)))] [nn, eR 0, nn, nn, nn, eN 1, eS 1] ?_ ?_
  · exact oc (k_sl 0 32 rfl rfl sl_k) <|
    oc (k_cb 22 (fun q => #[.slice (some ⟨q, 0, none⟩) 32 32]) (.tuple #[.agg (ck (kq (nB f 32 % oL))), .bool true]) 0 6 (fun w q _ hq => residue_L (by omega) w (bs_key hf hq)) rfl rfl (by simp) (fm := sl 0 32 32) (t0 := 23)) <|
    oc (k_mv (.inl rfl) rfl) <|
    oc (k_ex (.tuple #[.agg (ck (kq (nB f 32 % oL))), .bool true]) (.agg (ck (kq (nB f 32 % oL)))) rfl rfl) <|
    oc (k_ex (.tuple #[.agg (ck (kq (nB f 32 % oL))), .bool true]) (.bool true) rfl rfl) <|
    oc (k_al 1 alK rfl rfl) <|
    oc (k_st 1 0 (.agg (ck (kq (nB f 32 % oL)))) (c := ck (fun _ => 0)) (n := ck (kq (nB f 32 % oL))) (stK (F := (kq (nB f 32 % oL))) (c := ck (fun _ => 0)) 23 (ck_size _)) rfl rfl) <|
    oz (k_mv (.inr rfl) rfl) <|
    ok_nil
  clear h; intro β a w h
  refine sym_then ?_
  refine sym_seq ?_
  refine St.r0 h [(10, .inl (.agg (ck (kq (nB f 32 % oL))))), (11, .inl (.agg (ck f))), (12, .inl (.bool true)), (2, .inl (.bool true))] [eR 1, eR 0] ?_ ?_
  · exact oc (k_ld 1 0 (.agg (ck (kq (nB f 32 % oL)))) (c := ck (kq (nB f 32 % oL))) (ldK (b := (kq (nB f 32 % oL))) 23) rfl rfl) <|
    oc (k_ld 0 0 (.agg (ck f)) (c := ck f) (ldK (b := f) 23) rfl rfl) <|
    oz (k_bi (.agg (ck (kq (nB f 32 % oL)))) (.agg (ck f)) (.bool true) (eqK_t (F := (kq (nB f 32 % oL))) (G := f) hk) rfl rfl) <|
    oz (k_mv (.inr rfl) rfl) <|
    ok_nil
  clear h; intro β a w h
  refine sym_then ?_
  refine wp_ret ?_
  exact s_rt h Tryd.results15 (fun hb => ⟨rfl, hb⟩)

set_option maxHeartbeats 4000000 in
theorem least_f {f : Nat → Nat} (hf : ∀ i, f i < 256) (hk : ¬ ∀ i, i < 32 → kq (nB f 32 % oL) i = f i) (W0 : World) : Calls Tryd.prog 15 #[.agg (ck f)] W0 fun e w' => e = .returned (.bool false) ∧ Below W0.heap.size W0 w' := by
  refine s_in Tryd.func15 Tryd.ntmps15 rfl [.inl (.agg (ck f))] ?_
  intro β a h
  refine sym_seq ?_
  refine St.rg h [(1, .inr (0, pt 0)), (2, .inl (.bool false))] [(ck f, 23)] [] [eN 0] ?_ ?_
  · exact oc (k_bx 0 (.agg (ck f)) (bxK (b := f)) rfl rfl) <|
    oz (k_mv (.inr rfl) rfl) <|
    ok_nil
  clear h; intro β a w h
  refine sym_then ?_
  refine sym_seq ?_
  refine St.rg h [(6, .inr (0, sl 0 32 32)), (7, .inl (.tuple #[.agg (ck (kq (nB f 32 % oL))), .bool true])), (5, .inl (.tuple #[.agg (ck (kq (nB f 32 % oL))), .bool true])), (8, .inl (.agg (ck (kq (nB f 32 % oL))))), (9, .inl (.bool true)), (3, .inr (1, pt 0)), (4, .inl (.bool true))] [(ck (fun _ => 0), 23)] [(1, ck (kq (nB f 32 % oL)))] [nn, eR 0, nn, nn, nn, eN 1, eS 1] ?_ ?_
  · exact oc (k_sl 0 32 rfl rfl sl_k) <|
    oc (k_cb 22 (fun q => #[.slice (some ⟨q, 0, none⟩) 32 32]) (.tuple #[.agg (ck (kq (nB f 32 % oL))), .bool true]) 0 6 (fun w q _ hq => residue_L (by omega) w (bs_key hf hq)) rfl rfl (by simp) (fm := sl 0 32 32) (t0 := 23)) <|
    oc (k_mv (.inl rfl) rfl) <|
    oc (k_ex (.tuple #[.agg (ck (kq (nB f 32 % oL))), .bool true]) (.agg (ck (kq (nB f 32 % oL)))) rfl rfl) <|
    oc (k_ex (.tuple #[.agg (ck (kq (nB f 32 % oL))), .bool true]) (.bool true) rfl rfl) <|
    oc (k_al 1 alK rfl rfl) <|
    oc (k_st 1 0 (.agg (ck (kq (nB f 32 % oL)))) (c := ck (fun _ => 0)) (n := ck (kq (nB f 32 % oL))) (stK (F := (kq (nB f 32 % oL))) (c := ck (fun _ => 0)) 23 (ck_size _)) rfl rfl) <|
    oz (k_mv (.inr rfl) rfl) <|
    ok_nil
  clear h; intro β a w h
  refine sym_then ?_
  refine sym_seq ?_
  refine St.r0 h [(10, .inl (.agg (ck (kq (nB f 32 % oL))))), (11, .inl (.agg (ck f))), (12, .inl (.bool false))] [eR 1, eR 0] ?_ ?_
  · exact oc (k_ld 1 0 (.agg (ck (kq (nB f 32 % oL)))) (c := ck (kq (nB f 32 % oL))) (ldK (b := (kq (nB f 32 % oL))) 23) rfl rfl) <|
    oc (k_ld 0 0 (.agg (ck f)) (c := ck f) (ldK (b := f) 23) rfl rfl) <|
    oz (k_bi (.agg (ck (kq (nB f 32 % oL)))) (.agg (ck f)) (.bool false) (eqK_f2 (F := (kq (nB f 32 % oL))) (G := f) hk) rfl rfl) <|
    oz (k_mv (.inr rfl) rfl) <|
    ok_nil
  clear h; intro β a w h
  refine sym_then ?_
  refine wp_ret ?_
  exact s_rt h Tryd.results15 (fun hb => ⟨rfl, hb⟩)

end Go.Proofs.YtgojlikjcpnhjaaDoor

namespace Go.Proofs.YtgojlikjcpnhjaaDoor
theorem closure_e {R : Type} [Lean.Grind.CommRing R] (d x1 y1 x2 y2 : R) (h1 : y1 * y1 - x1 * x1 = 1 + d * (x1 * x1 * y1 * y1)) (h2 : y2 * y2 - x2 * x2 = 1 + d * (x2 * x2 * y2 * y2)) :
   (y1 * y2 + x1 * x2)^2 * (1 + d * (x1 * x2 * y1 * y2))^2 - (x1 * y2 + y1 * x2)^2 * (1 - d * (x1 * x2 * y1 * y2))^2 = (1 - d * (x1 * x2 * y1 * y2))^2 * (1 + d * (x1 * x2 * y1 * y2))^2 + d * ((x1 * y2 + y1 * x2)^2 * (y1 * y2 + x1 * x2)^2) := by grind
set_option maxHeartbeats 40000000 in
theorem assoc_x {R : Type} [Lean.Grind.CommRing R] (d x1 y1 x2 y2 x3 y3 : R) (h1 : y1 * y1 - x1 * x1 = 1 + d * (x1 * x1 * y1 * y1)) (h2 : y2 * y2 - x2 * x2 = 1 + d * (x2 * x2 * y2 * y2)) (h3 : y3 * y3 - x3 * x3 = 1 + d * (x3 * x3 * y3 * y3)) :
   ((x1 * y2 + y1 * x2) * (1 - d * (x1 * x2 * y1 * y2)) * y3 + (y1 * y2 + x1 * x2) * (1 + d * (x1 * x2 * y1 * y2)) * x3) * ((1 + d * (x2 * x3 * y2 * y3)) * (1 - d * (x2 * x3 * y2 * y3)) + d * ((x2 * y3 + y2 * x3) * (y2 * y3 + x2 * x3)) * (x1 * y1))
   = (x1 * (y2 * y3 + x2 * x3) * (1 + d * (x2 * x3 * y2 * y3)) + y1 * (x2 * y3 + y2 * x3) * (1 - d * (x2 * x3 * y2 * y3))) * ((1 + d * (x1 * x2 * y1 * y2)) * (1 - d * (x1 * x2 * y1 * y2)) + d * ((x1 * y2 + y1 * x2) * (y1 * y2 + x1 * x2)) * (x3 * y3)) := by
  grind (ringSteps := 1000000)
set_option maxHeartbeats 40000000 in
theorem assoc_y {R : Type} [Lean.Grind.CommRing R] (d x1 y1 x2 y2 x3 y3 : R) (h1 : y1 * y1 - x1 * x1 = 1 + d * (x1 * x1 * y1 * y1)) (h2 : y2 * y2 - x2 * x2 = 1 + d * (x2 * x2 * y2 * y2)) (h3 : y3 * y3 - x3 * x3 = 1 + d * (x3 * x3 * y3 * y3)) :
   ((y1 * y2 + x1 * x2) * (1 + d * (x1 * x2 * y1 * y2)) * y3 + (x1 * y2 + y1 * x2) * (1 - d * (x1 * x2 * y1 * y2)) * x3) * ((1 + d * (x2 * x3 * y2 * y3)) * (1 - d * (x2 * x3 * y2 * y3)) - d * ((x2 * y3 + y2 * x3) * (y2 * y3 + x2 * x3)) * (x1 * y1))
   = (y1 * (y2 * y3 + x2 * x3) * (1 + d * (x2 * x3 * y2 * y3)) + x1 * (x2 * y3 + y2 * x3) * (1 - d * (x2 * x3 * y2 * y3))) * ((1 + d * (x1 * x2 * y1 * y2)) * (1 - d * (x1 * x2 * y1 * y2)) - d * ((x1 * y2 + y1 * x2) * (y1 * y2 + x1 * x2)) * (x3 * y3)) := by
  grind (ringSteps := 1000000)
/-- Were d x1 x2 y1 y2 a root e of 1, d would be a square, i being a root of -1. -/
theorem den_e {R : Type} [Lean.Grind.CommRing R] (d x1 y1 x2 y2 i e : R) (hi : i * i = -1) (he : e * e = 1) (h1 : y1 * y1 - x1 * x1 = 1 + d * (x1 * x1 * y1 * y1)) (h2 : y2 * y2 - x2 * x2 = 1 + d * (x2 * x2 * y2 * y2)) (h : d * (x1 * x2 * y1 * y2) = e) :
   d * (x1 * y1 * (y2 + i * x2)) ^ 2 = (y1 + i * e * x1) ^ 2 := by grind
end Go.Proofs.YtgojlikjcpnhjaaDoor

namespace Go.Proofs.YtgojlikjcpnhjaaDoor
open Go.RowKit

/-- Four words as an array's value. -/
abbrev wv (a b c d : Nat) : Value := .agg #[.int .u64 a, .int .u64 b, .int .u64 c, .int .u64 d]
/-- The number of four words. -/
def num (a b c d : Nat) : Nat := a + 18446744073709551616 * b + 340282366920938463463374607431768211456 * c + 6277101735386680763835789423207666416102355444464034512896 * d

theorem andLow (a : Nat) (ha : a < 18446744073709551616) : bits .and .u64 (a : Int) 9223372036854775807 = ((a % 9223372036854775808 : Nat) : Int) := by
  have h := bits_and_u64_nat a 9223372036854775807 ha (by omega)
  have e : a &&& 9223372036854775807 = a % 9223372036854775808 := Nat.and_two_pow_sub_one_eq_mod a 63
  rw [e] at h
  exact h

theorem low_any (a b c d : Nat) (hd : d < 18446744073709551616) (w : World) :
    Calls Tryd.prog 55 #[wv a b c d] w fun e w' => e = .returned (wv a b c (d % 9223372036854775808)) ∧ Below w.heap.size w w' := by
  go_enter Tryd.func55, Tryd.ntmps55
  go_wp2
  rw [andLow d hd]
  exact bodyPost_ret (v := wv a b c (d % 9223372036854775808)) (by simp [results, Tryd.results55, go_sem]) rfl ⟨rfl, below2 _ _ _⟩

theorem more_any (a b c d n : Nat) (ha : a < 18446744073709551616) (hb : b < 18446744073709551616) (hc : c < 18446744073709551616) (hd : d < 18446744073709551616) (hn : n < 18446744073709551616) :
    ∃ x y z t k : Nat, x < 18446744073709551616 ∧ y < 18446744073709551616 ∧ z < 18446744073709551616 ∧ t < 18446744073709551616 ∧ Hid (num x y z t + 115792089237316195423570985008687907853269984665640564039457584007913129639936 * k = num a b c d + n) ∧
    ∀ w, Calls Tryd.prog 71 #[wv a b c d, .int .u64 n] w fun e w' => e = .returned (wv x y z t) ∧ Below w.heap.size w w' := by
  obtain ⟨x, n1, h1, k1, e1, c1⟩ := add64_ex0 a n ha hn
  obtain ⟨y, n2, h2, k2, e2, c2⟩ := add64_ex0 b n1 hb (by omega)
  obtain ⟨z, n3, h3, k3, e3, c3⟩ := add64_ex0 c n2 hc (by omega)
  obtain ⟨t, n4, h4, k4, e4, c4⟩ := add64_ex0 d n3 hd (by omega)
  refine ⟨x, y, z, t, n4, h1, h2, h3, h4, hide1 ?_, fun w => ?_⟩
  · have := e1.out; have := e2.out; have := e3.out; have := e4.out
    unfold num; omega
  go_enter Tryd.func71, Tryd.ntmps71
  go_wp2
  refine wp_loop_rounds 5 ?_
  rw [rounds_succ]; go_wp2
  rw [rounds_succ]; go_wp2
  rw [rounds_succ]; go_wp2
  rw [rounds_succ]; go_wp2
  rw [rounds_succ]; go_wp2
  exact bodyPost_ret (v := wv x y z t) (by simp [results, Tryd.results71, go_sem]) rfl ⟨rfl, below2 _ _ _⟩

set_option maxHeartbeats 1000000 in
theorem with_any (a b c d m p q r s : Nat) (ha : a < 18446744073709551616) (hb : b < 18446744073709551616) (hc : c < 18446744073709551616) (hd : d < 18446744073709551616) (hm : m < 18446744073709551616) (hp : p < 18446744073709551616) (hq : q < 18446744073709551616) (hr : r < 18446744073709551616) (hs : s < 18446744073709551616) :
    ∃ x y z t k : Nat, x < 18446744073709551616 ∧ y < 18446744073709551616 ∧ z < 18446744073709551616 ∧ t < 18446744073709551616 ∧ k < 18446744073709551616 ∧ Hid (num x y z t + 115792089237316195423570985008687907853269984665640564039457584007913129639936 * k = num a b c d + m * num p q r s) ∧
    ∀ w, Calls Tryd.prog 60 #[wv a b c d, .int .u64 m, wv p q r s] w fun e w' => e = .returned (.tuple #[wv x y z t, .int .u64 k]) ∧ Below w.heap.size w w' := by
  obtain ⟨x, n1, h1, k1, e1, c1⟩ := step_ex a m p 0 ha hm hp (by omega)
  obtain ⟨y, n2, h2, k2, e2, c2⟩ := step_ex b m q n1 hb hm hq k1
  obtain ⟨z, n3, h3, k3, e3, c3⟩ := step_ex c m r n2 hc hm hr k2
  obtain ⟨t, n4, h4, k4, e4, c4⟩ := step_ex d m s n3 hd hm hs k3
  refine ⟨x, y, z, t, n4, h1, h2, h3, h4, k4, hide1 ?_, fun w => ?_⟩
  · have := e1.out; have := e2.out; have := e3.out; have := e4.out
    unfold num
    simp only [Nat.mul_add, Nat.mul_left_comm m]
    omega
  have hsd := @set_drewN
  go_enter Tryd.func60, Tryd.ntmps60
  go_wp2
  go_loopw [8, 10] (fun ov i wr => ∃ n : Nat, ((i = .int .i64 0 ∧ ov = .int .u64 0 ∧ wr = (((w.alloc (.cells #[.int .u64 a, .int .u64 b, .int .u64 c, .int .u64 d] 40)).alloc (.cells #[.int .u64 p, .int .u64 q, .int .u64 r, .int .u64 s] 40)).alloc (.cells #[.int .u64 0, .int .u64 0, .int .u64 0, .int .u64 0] 40)).drewN n) ∨ (i = .int .i64 1 ∧ ov = .int .u64 n1 ∧ wr = (((w.alloc (.cells #[.int .u64 x, .int .u64 b, .int .u64 c, .int .u64 d] 40)).alloc (.cells #[.int .u64 p, .int .u64 q, .int .u64 r, .int .u64 s] 40)).alloc (.cells #[.int .u64 0, .int .u64 0, .int .u64 0, .int .u64 0] 40)).drewN n) ∨ (i = .int .i64 2 ∧ ov = .int .u64 n2 ∧ wr = (((w.alloc (.cells #[.int .u64 x, .int .u64 y, .int .u64 c, .int .u64 d] 40)).alloc (.cells #[.int .u64 p, .int .u64 q, .int .u64 r, .int .u64 s] 40)).alloc (.cells #[.int .u64 0, .int .u64 0, .int .u64 0, .int .u64 0] 40)).drewN n) ∨ (i = .int .i64 3 ∧ ov = .int .u64 n3 ∧ wr = (((w.alloc (.cells #[.int .u64 x, .int .u64 y, .int .u64 z, .int .u64 d] 40)).alloc (.cells #[.int .u64 p, .int .u64 q, .int .u64 r, .int .u64 s] 40)).alloc (.cells #[.int .u64 0, .int .u64 0, .int .u64 0, .int .u64 0] 40)).drewN n) ∨ (i = .int .i64 4 ∧ ov = .int .u64 n4 ∧ wr = (((w.alloc (.cells #[.int .u64 x, .int .u64 y, .int .u64 z, .int .u64 t] 40)).alloc (.cells #[.int .u64 p, .int .u64 q, .int .u64 r, .int .u64 s] 40)).alloc (.cells #[.int .u64 0, .int .u64 0, .int .u64 0, .int .u64 0] 40)).drewN n))) (fun _ i _ => 4 - (intOf i).toNat)
  case atStart => exact ⟨0, Or.inl ⟨rfl, rfl, rfl⟩⟩
  case round =>
    obtain ⟨n, ⟨rfl, rfl, rfl⟩ | ⟨rfl, rfl, rfl⟩ | ⟨rfl, rfl, rfl⟩ | ⟨rfl, rfl, rfl⟩ | ⟨rfl, rfl, rfl⟩⟩ := hrel
    · go_wp2
      go_region_with (go_at_call 74; refine (c1 _).mono ?_; rintro e w1 ⟨rfl, rfl⟩)
      all_goals go_wp2
      all_goals go_roundw
      all_goals first | (simp [intOf]; done) | exact ⟨n + 1, Or.inr (Or.inl ⟨rfl, rfl, rfl⟩)⟩
    · go_wp2
      go_region_with (go_at_call 74; refine (c2 _).mono ?_; rintro e w1 ⟨rfl, rfl⟩)
      all_goals go_wp2
      all_goals go_roundw
      all_goals first | (simp [intOf]; done) | exact ⟨n + 1, Or.inr (Or.inr (Or.inl ⟨rfl, rfl, rfl⟩))⟩
    · go_wp2
      go_region_with (go_at_call 74; refine (c3 _).mono ?_; rintro e w1 ⟨rfl, rfl⟩)
      all_goals go_wp2
      all_goals go_roundw
      all_goals first | (simp [intOf]; done) | exact ⟨n + 1, Or.inr (Or.inr (Or.inr (Or.inl ⟨rfl, rfl, rfl⟩)))⟩
    · go_wp2
      go_region_with (go_at_call 74; refine (c4 _).mono ?_; rintro e w1 ⟨rfl, rfl⟩)
      all_goals go_wp2
      all_goals go_roundw
      all_goals first | (simp [intOf]; done) | exact ⟨n + 1, Or.inr (Or.inr (Or.inr (Or.inr ⟨rfl, rfl, rfl⟩)))⟩
    · go_wp2
      exact bodyPost_ret (v := .tuple #[wv x y z t, .int .u64 n4]) (by simp [results, Tryd.results60, go_sem]) rfl ⟨rfl, below_drewN (below3 _ _ _ _) n⟩
end Go.Proofs.YtgojlikjcpnhjaaDoor

namespace Go.Proofs.YtgojlikjcpnhjaaDoor
open Go.RowKit

set_option maxHeartbeats 1000000 in
theorem less_any (a b c d p q r s : Nat) (ha : a < 18446744073709551616) (hb : b < 18446744073709551616) (hc : c < 18446744073709551616) (hd : d < 18446744073709551616) (hp : p < 18446744073709551616) (hq : q < 18446744073709551616) (hr : r < 18446744073709551616) (hs : s < 18446744073709551616) :
    ∃ x y z t k : Nat, x < 18446744073709551616 ∧ y < 18446744073709551616 ∧ z < 18446744073709551616 ∧ t < 18446744073709551616 ∧ k ≤ 1 ∧ Hid (num x y z t + num p q r s = num a b c d + 115792089237316195423570985008687907853269984665640564039457584007913129639936 * k) ∧
    ∀ w, Calls Tryd.prog 62 #[wv a b c d, wv p q r s] w fun e w' => e = .returned (wv x y z t) ∧ Below w.heap.size w w' := by
  obtain ⟨x, n1, h1, k1, e1, c1⟩ := sub64_ex a p 0 ha hp (by omega)
  obtain ⟨y, n2, h2, k2, e2, c2⟩ := sub64_ex b q n1 hb hq k1
  obtain ⟨z, n3, h3, k3, e3, c3⟩ := sub64_ex c r n2 hc hr k2
  obtain ⟨t, n4, h4, k4, e4, c4⟩ := sub64_ex d s n3 hd hs k3
  refine ⟨x, y, z, t, n4, h1, h2, h3, h4, k4, hide1 ?_, fun w => ?_⟩
  · have := e1.out; have := e2.out; have := e3.out; have := e4.out
    unfold num; omega
  have hsd := @set_drewN
  have c1' : ∀ (w : World), (callFunc 52 #[.int .u64 a, .int .u64 p, .int .u64 0]).run Tryd.prog w = .ok (.value (.tuple #[.int .u64 x, .int .u64 n1])) w := c1
  clear c1
  go_enter Tryd.func62, Tryd.ntmps62
  go_wp2
  go_loopw [5, 7] (fun ov i wr => ∃ n : Nat, ((i = .int .i64 0 ∧ ov = .int .u64 0 ∧ wr = (((w.alloc (.cells #[.int .u64 a, .int .u64 b, .int .u64 c, .int .u64 d] 40)).alloc (.cells #[.int .u64 p, .int .u64 q, .int .u64 r, .int .u64 s] 40)).alloc (.cells #[.int .u64 0, .int .u64 0, .int .u64 0, .int .u64 0] 40)).drewN n) ∨ (i = .int .i64 1 ∧ ov = .int .u64 n1 ∧ wr = (((w.alloc (.cells #[.int .u64 x, .int .u64 b, .int .u64 c, .int .u64 d] 40)).alloc (.cells #[.int .u64 p, .int .u64 q, .int .u64 r, .int .u64 s] 40)).alloc (.cells #[.int .u64 0, .int .u64 0, .int .u64 0, .int .u64 0] 40)).drewN n) ∨ (i = .int .i64 2 ∧ ov = .int .u64 n2 ∧ wr = (((w.alloc (.cells #[.int .u64 x, .int .u64 y, .int .u64 c, .int .u64 d] 40)).alloc (.cells #[.int .u64 p, .int .u64 q, .int .u64 r, .int .u64 s] 40)).alloc (.cells #[.int .u64 0, .int .u64 0, .int .u64 0, .int .u64 0] 40)).drewN n) ∨ (i = .int .i64 3 ∧ ov = .int .u64 n3 ∧ wr = (((w.alloc (.cells #[.int .u64 x, .int .u64 y, .int .u64 z, .int .u64 d] 40)).alloc (.cells #[.int .u64 p, .int .u64 q, .int .u64 r, .int .u64 s] 40)).alloc (.cells #[.int .u64 0, .int .u64 0, .int .u64 0, .int .u64 0] 40)).drewN n) ∨ (i = .int .i64 4 ∧ ov = .int .u64 n4 ∧ wr = (((w.alloc (.cells #[.int .u64 x, .int .u64 y, .int .u64 z, .int .u64 t] 40)).alloc (.cells #[.int .u64 p, .int .u64 q, .int .u64 r, .int .u64 s] 40)).alloc (.cells #[.int .u64 0, .int .u64 0, .int .u64 0, .int .u64 0] 40)).drewN n))) (fun _ i _ => 4 - (intOf i).toNat)
  case atStart => exact ⟨0, Or.inl ⟨rfl, rfl, rfl⟩⟩
  case round =>
    obtain ⟨n, ⟨rfl, rfl, rfl⟩ | ⟨rfl, rfl, rfl⟩ | ⟨rfl, rfl, rfl⟩ | ⟨rfl, rfl, rfl⟩ | ⟨rfl, rfl, rfl⟩⟩ := hrel
    · go_wp2
      go_region
      all_goals go_wp2
      all_goals go_roundw
      all_goals first | (simp [intOf]; done) | exact ⟨n + 1, Or.inr (Or.inl ⟨rfl, rfl, rfl⟩)⟩
    · go_wp2
      go_region
      all_goals go_wp2
      all_goals go_roundw
      all_goals first | (simp [intOf]; done) | exact ⟨n + 1, Or.inr (Or.inr (Or.inl ⟨rfl, rfl, rfl⟩))⟩
    · go_wp2
      go_region
      all_goals go_wp2
      all_goals go_roundw
      all_goals first | (simp [intOf]; done) | exact ⟨n + 1, Or.inr (Or.inr (Or.inr (Or.inl ⟨rfl, rfl, rfl⟩)))⟩
    · go_wp2
      go_region
      all_goals go_wp2
      all_goals go_roundw
      all_goals first | (simp [intOf]; done) | exact ⟨n + 1, Or.inr (Or.inr (Or.inr (Or.inr ⟨rfl, rfl, rfl⟩)))⟩
    · go_wp2
      exact bodyPost_ret (v := wv x y z t) (by simp [results, Tryd.results62, go_sem]) rfl ⟨rfl, below_drewN (below3 _ _ _ _) n⟩

theorem row_eq {l n p q r s f g h i o0 o1 o2 f' s' t' q' : Nat} (e0 : l + 18446744073709551616 * o0 = f + n * p + 0) (e1 : f' + 18446744073709551616 * o1 = g + n * q + o0)
    (e2 : s' + 18446744073709551616 * o2 = h + n * r + o1) (e3 : t' + 18446744073709551616 * q' = i + n * s + o2) :
    l + 18446744073709551616 * num f' s' t' q' = num f g h i + n * num p q r s := by
  unfold num
  simp only [Nat.mul_add, Nat.mul_left_comm n]
  omega

set_option maxHeartbeats 8000000 in
theorem times_any (a b c d p q r s : Nat) (ha : a < 18446744073709551616) (hb : b < 18446744073709551616) (hc : c < 18446744073709551616) (hd : d < 18446744073709551616) (hp : p < 18446744073709551616) (hq : q < 18446744073709551616) (hr : r < 18446744073709551616) (hs : s < 18446744073709551616) :
    ∃ x y z t f g h i : Nat, x < 18446744073709551616 ∧ y < 18446744073709551616 ∧ z < 18446744073709551616 ∧ t < 18446744073709551616 ∧ f < 18446744073709551616 ∧ g < 18446744073709551616 ∧ h < 18446744073709551616 ∧ i < 18446744073709551616 ∧ Hid (num x y z t + 115792089237316195423570985008687907853269984665640564039457584007913129639936 * num f g h i = num a b c d * num p q r s) ∧
    ∀ w, Calls Tryd.prog 72 #[wv a b c d, wv p q r s] w fun e w' => e = .returned (.tuple #[wv x y z t, wv f g h i]) ∧ Below w.heap.size w w' := by
  obtain ⟨l0, o00, bl0, bo00, e00, c00⟩ := step_ex 0 a p 0 (by omega) ha hp (by omega)
  obtain ⟨f0, o01, bf0, bo01, e01, c01⟩ := step_ex 0 a q o00 (by omega) ha hq bo00
  obtain ⟨s0, o02, bs0, bo02, e02, c02⟩ := step_ex 0 a r o01 (by omega) ha hr bo01
  obtain ⟨t0, q0, bt0, bq0, e03, c03⟩ := step_ex 0 a s o02 (by omega) ha hs bo02
  obtain ⟨l1, o10, bl1, bo10, e10, c10⟩ := step_ex f0 b p 0 bf0 hb hp (by omega)
  obtain ⟨f1, o11, bf1, bo11, e11, c11⟩ := step_ex s0 b q o10 bs0 hb hq bo10
  obtain ⟨s1, o12, bs1, bo12, e12, c12⟩ := step_ex t0 b r o11 bt0 hb hr bo11
  obtain ⟨t1, q1, bt1, bq1, e13, c13⟩ := step_ex q0 b s o12 bq0 hb hs bo12
  obtain ⟨l2, o20, bl2, bo20, e20, c20⟩ := step_ex f1 c p 0 bf1 hc hp (by omega)
  obtain ⟨f2, o21, bf2, bo21, e21, c21⟩ := step_ex s1 c q o20 bs1 hc hq bo20
  obtain ⟨s2, o22, bs2, bo22, e22, c22⟩ := step_ex t1 c r o21 bt1 hc hr bo21
  obtain ⟨t2, q2, bt2, bq2, e23, c23⟩ := step_ex q1 c s o22 bq1 hc hs bo22
  obtain ⟨l3, o30, bl3, bo30, e30, c30⟩ := step_ex f2 d p 0 bf2 hd hp (by omega)
  obtain ⟨f3, o31, bf3, bo31, e31, c31⟩ := step_ex s2 d q o30 bs2 hd hq bo30
  obtain ⟨s3, o32, bs3, bo32, e32, c32⟩ := step_ex t2 d r o31 bt2 hd hr bo31
  obtain ⟨t3, q3, bt3, bq3, e33, c33⟩ := step_ex q2 d s o32 bq2 hd hs bo32
  refine ⟨l0, l1, l2, l3, f3, s3, t3, q3, bl0, bl1, bl2, bl3, bf3, bs3, bt3, bq3, hide1 ?_, fun w => ?_⟩
  · have r0 := row_eq (e00).out (e01).out (e02).out (e03).out; have r1 := row_eq (e10).out (e11).out (e12).out (e13).out; have r2 := row_eq (e20).out (e21).out (e22).out (e23).out; have r3 := row_eq (e30).out (e31).out (e32).out (e33).out
    clear e00 e01 e02 e03 e10 e11 e12 e13 e20 e21 e22 e23 e30 e31 e32 e33
    have hz : num 0 0 0 0 = 0 := rfl
    rw [hz] at r0
    generalize num p q r s = V at *
    generalize num f3 s3 t3 q3 = R3 at *
    generalize num f2 s2 t2 q2 = R2 at *
    generalize num f1 s1 t1 q1 = R1 at *
    generalize num f0 s0 t0 q0 = R0 at *
    unfold num
    simp only [Nat.add_mul, Nat.mul_assoc]
    omega
  have i0 : ∀ w : World, (Instr.index 40 (.agg #[.int .u64 a, .int .u64 b, .int .u64 c, .int .u64 d]) (.int .i64 0)).run Tryd.prog w = .ok (.int .u64 a) w := fun _ => by kernel_rfl
  have i1 : ∀ w : World, (Instr.index 40 (.agg #[.int .u64 a, .int .u64 b, .int .u64 c, .int .u64 d]) (.int .i64 1)).run Tryd.prog w = .ok (.int .u64 b) w := fun _ => by kernel_rfl
  have i2 : ∀ w : World, (Instr.index 40 (.agg #[.int .u64 a, .int .u64 b, .int .u64 c, .int .u64 d]) (.int .i64 2)).run Tryd.prog w = .ok (.int .u64 c) w := fun _ => by kernel_rfl
  have i3 : ∀ w : World, (Instr.index 40 (.agg #[.int .u64 a, .int .u64 b, .int .u64 c, .int .u64 d]) (.int .i64 3)).run Tryd.prog w = .ok (.int .u64 d) w := fun _ => by kernel_rfl
  clear e00 e01 e02 e03 e10 e11 e12 e13 e20 e21 e22 e23 e30 e31 e32 e33
  go_enter Tryd.func72, Tryd.ntmps72
  go_wp2
  refine wp_loop_rounds 5 ?_
  rw [rounds_succ]
  go_wp2_with fail
  refine (c00 _).mono ?_
  rintro e w1 ⟨rfl, rfl⟩
  clear c00
  go_wp2_with fail
  refine (c01 _).mono ?_
  rintro e w1 ⟨rfl, rfl⟩
  clear c01
  go_wp2_with fail
  refine (c02 _).mono ?_
  rintro e w1 ⟨rfl, rfl⟩
  clear c02
  go_wp2_with fail
  refine (c03 _).mono ?_
  rintro e w1 ⟨rfl, rfl⟩
  clear c03
  go_wp2_with fail
  rw [rounds_succ]
  go_wp2_with fail
  refine (c10 _).mono ?_
  rintro e w1 ⟨rfl, rfl⟩
  clear c10
  go_wp2_with fail
  refine (c11 _).mono ?_
  rintro e w1 ⟨rfl, rfl⟩
  clear c11
  go_wp2_with fail
  refine (c12 _).mono ?_
  rintro e w1 ⟨rfl, rfl⟩
  clear c12
  go_wp2_with fail
  refine (c13 _).mono ?_
  rintro e w1 ⟨rfl, rfl⟩
  clear c13
  go_wp2_with fail
  rw [rounds_succ]
  go_wp2_with fail
  refine (c20 _).mono ?_
  rintro e w1 ⟨rfl, rfl⟩
  clear c20
  go_wp2_with fail
  refine (c21 _).mono ?_
  rintro e w1 ⟨rfl, rfl⟩
  clear c21
  go_wp2_with fail
  refine (c22 _).mono ?_
  rintro e w1 ⟨rfl, rfl⟩
  clear c22
  go_wp2_with fail
  refine (c23 _).mono ?_
  rintro e w1 ⟨rfl, rfl⟩
  clear c23
  go_wp2_with fail
  rw [rounds_succ]
  go_wp2_with fail
  refine (c30 _).mono ?_
  rintro e w1 ⟨rfl, rfl⟩
  clear c30
  go_wp2_with fail
  refine (c31 _).mono ?_
  rintro e w1 ⟨rfl, rfl⟩
  clear c31
  go_wp2_with fail
  refine (c32 _).mono ?_
  rintro e w1 ⟨rfl, rfl⟩
  clear c32
  go_wp2_with fail
  refine (c33 _).mono ?_
  rintro e w1 ⟨rfl, rfl⟩
  clear c33
  go_wp2_with fail
  rw [rounds_succ]; go_wp2
  exact bodyPost_ret (v := .tuple #[wv l0 l1 l2 l3, wv f3 s3 t3 q3]) (by simp [results, Tryd.results72, go_sem]) rfl ⟨rfl, below4 _ _ _ _ _⟩
end Go.Proofs.YtgojlikjcpnhjaaDoor

namespace Go.Proofs.YtgojlikjcpnhjaaDoor
open Go.RowKit

theorem aftc_cell (w : World) (g : Gr) (c : Obj) (b o : Nat) (hb : b < w.heap.size) : ((aft w g).alloc c).cell? ⟨b, o, none⟩ = w.cell? ⟨b, o, none⟩ := by
  simp only [aft_alloc]; exact aft_cell _ _ _ _ hb
theorem aftc_frozen (w : World) (g : Gr) (c : Obj) (b o : Nat) (hb : b < w.heap.size) : ((aft w g).alloc c).frozen? ⟨b, o, none⟩ = w.frozen? ⟨b, o, none⟩ := by
  simp only [aft_alloc]; exact aft_frozen _ _ _ _ hb
theorem aftc_set (w : World) (g : Gr) (c : Obj) (b o : Nat) (v : Value) (hb : b < w.heap.size) : ((aft w g).alloc c).setCell ⟨b, o, none⟩ v = (aft (w.setCell ⟨b, o, none⟩ v) g).alloc c := by
  simp only [aft_alloc]; exact aft_set _ _ _ _ _ hb
theorem aftc_below (w : World) (g : Gr) (c : Obj) : Below w.heap.size w ((aft w g).alloc c) := by
  simp only [aft_alloc]; exact aft_below _ _
theorem aftcc_cell (w : World) (g : Gr) (c d : Obj) (b o : Nat) (hb : b < w.heap.size) : (((aft w g).alloc c).alloc d).cell? ⟨b, o, none⟩ = w.cell? ⟨b, o, none⟩ := by
  simp only [aft_alloc]; exact aft_cell _ _ _ _ hb
theorem aftcc_frozen (w : World) (g : Gr) (c d : Obj) (b o : Nat) (hb : b < w.heap.size) : (((aft w g).alloc c).alloc d).frozen? ⟨b, o, none⟩ = w.frozen? ⟨b, o, none⟩ := by
  simp only [aft_alloc]; exact aft_frozen _ _ _ _ hb
theorem aftcc_set (w : World) (g : Gr) (c d : Obj) (b o : Nat) (v : Value) (hb : b < w.heap.size) : (((aft w g).alloc c).alloc d).setCell ⟨b, o, none⟩ v = ((aft (w.setCell ⟨b, o, none⟩ v) g).alloc c).alloc d := by
  simp only [aft_alloc]; exact aft_set _ _ _ _ _ hb
theorem aftcc_below (w : World) (g : Gr) (c d : Obj) : Below w.heap.size w (((aft w g).alloc c).alloc d) := by
  simp only [aft_alloc]; exact aft_below _ _
theorem aft2_cell (w : World) (g h : Gr) (c : Obj) (b o : Nat) (hb : b < w.heap.size) : (aft ((aft w g).alloc c) h).cell? ⟨b, o, none⟩ = w.cell? ⟨b, o, none⟩ := by
  simp only [aft_alloc, aft_aft]; exact aft_cell _ _ _ _ hb
theorem aft2_frozen (w : World) (g h : Gr) (c : Obj) (b o : Nat) (hb : b < w.heap.size) : (aft ((aft w g).alloc c) h).frozen? ⟨b, o, none⟩ = w.frozen? ⟨b, o, none⟩ := by
  simp only [aft_alloc, aft_aft]; exact aft_frozen _ _ _ _ hb
theorem aft2_set (w : World) (g h : Gr) (c : Obj) (b o : Nat) (v : Value) (hb : b < w.heap.size) : (aft ((aft w g).alloc c) h).setCell ⟨b, o, none⟩ v = aft ((aft (w.setCell ⟨b, o, none⟩ v) g).alloc c) h := by
  simp only [aft_alloc, aft_aft]; exact aft_set _ _ _ _ _ hb
theorem aft2_below (w : World) (g h : Gr) (c : Obj) : Below w.heap.size w (aft ((aft w g).alloc c) h) := by
  simp only [aft_alloc, aft_aft]; exact aft_below _ _
theorem aft3_cell (w : World) (g h : Gr) (c d : Obj) (b o : Nat) (hb : b < w.heap.size) : (aft (((aft w g).alloc c).alloc d) h).cell? ⟨b, o, none⟩ = w.cell? ⟨b, o, none⟩ := by
  simp only [aft_alloc, aft_aft]; exact aft_cell _ _ _ _ hb
theorem aft3_frozen (w : World) (g h : Gr) (c d : Obj) (b o : Nat) (hb : b < w.heap.size) : (aft (((aft w g).alloc c).alloc d) h).frozen? ⟨b, o, none⟩ = w.frozen? ⟨b, o, none⟩ := by
  simp only [aft_alloc, aft_aft]; exact aft_frozen _ _ _ _ hb
theorem aft3_set (w : World) (g h : Gr) (c d : Obj) (b o : Nat) (v : Value) (hb : b < w.heap.size) : (aft (((aft w g).alloc c).alloc d) h).setCell ⟨b, o, none⟩ v = aft (((aft (w.setCell ⟨b, o, none⟩ v) g).alloc c).alloc d) h := by
  simp only [aft_alloc, aft_aft]; exact aft_set _ _ _ _ _ hb
theorem aft3_below (w : World) (g h : Gr) (c d : Obj) : Below w.heap.size w (aft (((aft w g).alloc c).alloc d) h) := by
  simp only [aft_alloc, aft_aft]; exact aft_below _ _
end Go.Proofs.YtgojlikjcpnhjaaDoor

namespace Go.Proofs.YtgojlikjcpnhjaaDoor
open Go.RowKit

/-- The prime. -/
def pp : Nat := 57896044618658097711785492504343953926634992332820282019728792003956564819949

/-- An element's value: its four words. -/
abbrev el (x : Nat → Nat) : Value := .agg #[.int .u64 (x 0), .int .u64 (x 1), .int .u64 (x 2), .int .u64 (x 3)]
/-- Its number. -/
def nm (x : Nat → Nat) : Nat := num (x 0) (x 1) (x 2) (x 3)
/-- Four words as a function. -/
def four (a b c d : Nat) : Nat → Nat
  | 0 => a
  | 1 => b
  | 2 => c
  | _ => d
/-- It is an element: four words, below the prime. -/
def Ok (x : Nat → Nat) : Prop := (∀ i, x i < 18446744073709551616) ∧ nm x < pp

theorem orTop (n d : Nat) (hn : n < 4294967296) (hd : d < 18446744073709551616) : bits .or .u64 ((n : Int) * 2) ((d : Int) / 9223372036854775808) = ((2 * n + d / 9223372036854775808 : Nat) : Int) := by
  have h := u64_or_nat (n * 2) (d / 9223372036854775808) (by omega) (by omega)
  have e : n * 2 ||| d / 9223372036854775808 = 2 * n + d / 9223372036854775808 := by
    have := Nat.two_pow_add_eq_or_of_lt (i := 1) (b := d / 9223372036854775808) (by omega) n
    rw [Nat.mul_comm n 2, ← this]
  rw [e] at h
  simpa using h

theorem settle_math {a b c d o T S D x y z t k x' y' z' t' k' E : Nat} (ha : a < 18446744073709551616) (hb : b < 18446744073709551616) (hc : c < 18446744073709551616)
    (HT : T = 2 * o + d / 9223372036854775808) (HS : S = 19 * T) (HD : D = d % 9223372036854775808) (hT : T < 8589934592)
    (e1 : num x y z t + 115792089237316195423570985008687907853269984665640564039457584007913129639936 * k = num a b c D + S)
    (e2 : num x' y' z' t' + 115792089237316195423570985008687907853269984665640564039457584007913129639936 * k' = num x y z t + 19)
    (hx : x < 18446744073709551616) (hy : y < 18446744073709551616) (hz : z < 18446744073709551616) (ht : t < 18446744073709551616)
    (hx' : x' < 18446744073709551616) (hy' : y' < 18446744073709551616) (hz' : z' < 18446744073709551616) (ht' : t' < 18446744073709551616) (HE : E = t' % 9223372036854775808) :
    (t' / 9223372036854775808 = 1 → Ok (four x' y' z' E) ∧ nm (four x' y' z' E) = (num a b c d + 115792089237316195423570985008687907853269984665640564039457584007913129639936 * o) % pp) ∧
    (¬ t' / 9223372036854775808 = 1 → Ok (four x y z t) ∧ nm (four x y z t) = (num a b c d + 115792089237316195423570985008687907853269984665640564039457584007913129639936 * o) % pp) := by
  have key : num a b c d + 115792089237316195423570985008687907853269984665640564039457584007913129639936 * o = num x y z t + pp * T := by
    unfold num pp at *
    have hV : k = 0 := by omega
    subst hV
    omega
  rw [key, Nat.add_mul_mod_self_left]
  have hV : num x y z t < 57896044618658097711785492504343953926634992332820282019728792003956564819949 + 163208757248 := by
    unfold num at *
    omega
  have hW : num x' y' z' t' = num x y z t + 19 := by
    have : k' = 0 := by
      clear key e1
      generalize num x y z t = V at *
      omega
    subst this; omega
  constructor
  · intro h
    have hE : num x' y' z' E + 57896044618658097711785492504343953926634992332820282019728792003956564819968 = num x y z t + 19 := by
      rw [← hW]; unfold num; omega
    clear e1 e2 key
    have hlt : num x' y' z' E < pp := by unfold pp; omega
    refine ⟨⟨fun i => ?_, hlt⟩, ?_⟩
    · match i with
      | 0 => exact hx'
      | 1 => exact hy'
      | 2 => exact hz'
      | _ + 3 => show E < _; omega
    · show num x' y' z' E = _
      have : num x y z t = num x' y' z' E + pp := by unfold pp; omega
      rw [this, Nat.add_mod_right, Nat.mod_eq_of_lt hlt]
  · intro h
    have hlt : num x y z t < pp := by
      have h0 : t' < 9223372036854775808 := by omega
      have : num x' y' z' t' < 57896044618658097711785492504343953926634992332820282019728792003956564819968 := by unfold num; omega
      unfold pp; omega
    refine ⟨⟨fun i => ?_, hlt⟩, ?_⟩
    · match i with
      | 0 => exact hx
      | 1 => exact hy
      | 2 => exact hz
      | _ + 3 => exact ht
    · show num x y z t = _
      rw [Nat.mod_eq_of_lt hlt]

set_option maxHeartbeats 1000000 in
theorem settle_any (a b c d o : Nat) (ha : a < 18446744073709551616) (hb : b < 18446744073709551616) (hc : c < 18446744073709551616) (hd : d < 18446744073709551616) (ho : o < 4294967296) :
    ∃ x : Nat → Nat, Ok x ∧ Hid (nm x = (num a b c d + 115792089237316195423570985008687907853269984665640564039457584007913129639936 * o) % pp) ∧
    ∀ w, Calls Tryd.prog 53 #[wv a b c d, .int .u64 o] w fun e w' => e = .returned (el x) ∧ Below w.heap.size w w' := by
  obtain ⟨T, HT⟩ : ∃ T, Hid (T = 2 * o + d / 9223372036854775808) := ⟨_, hide1 rfl⟩
  obtain ⟨S, HS⟩ : ∃ S, Hid (S = 19 * T) := ⟨_, hide1 rfl⟩
  obtain ⟨D, HD⟩ : ∃ D, Hid (D = d % 9223372036854775808) := ⟨_, hide1 rfl⟩
  have hT : T < 8589934592 := by have := HT.out; omega
  have hS : S < 163208757248 := by have := HS.out; omega
  have hD : D < 9223372036854775808 := by have := HD.out; omega
  have hr := orTop o d ho hd
  rw [← HT.out] at hr
  have hm : (19 : Int) * (T : Int) = (S : Int) := by have := HS.out; omega
  obtain ⟨x, y, z, t, k, hx, hy, hz, ht, e1, c1⟩ := more_any a b c D S ha hb hc (by omega) (by omega)
  obtain ⟨x', y', z', t', k', hx', hy', hz', ht', e2, c2⟩ := more_any x y z t 19 hx hy hz ht (by omega)
  obtain ⟨E, HE⟩ : ∃ E, Hid (E = t' % 9223372036854775808) := ⟨_, hide1 rfl⟩
  have c0 := fun w => low_any a b c d hd w
  rw [← HD.out] at c0
  have c3 := fun w => low_any x' y' z' t' ht' w
  rw [← HE.out] at c3
  obtain ⟨m1, m2⟩ := settle_math ha hb hc HT.out HS.out HD.out hT e1.out e2.out hx hy hz ht hx' hy' hz' ht' HE.out
  by_cases htest : t' / 9223372036854775808 = 1
  · refine ⟨four x' y' z' E, (m1 htest).1, hide1 (m1 htest).2, fun w => ?_⟩
    have htest' : (t' : Int) / 9223372036854775808 = 1 := by omega
    clear htest HT HS HD HE e1 e2 m1 m2
    have hA1 := @aft_cell; have hA2 := @aft_frozen; have hA3 := @aft_set; have hA4 := @aft_lt; have hB1 := @aft2_cell; have hB2 := @aft2_frozen; have hB3 := @aft2_set; have hC1 := @aftc_cell; have hC2 := @aftc_frozen; have hC3 := @aftc_set
    go_enter Tryd.func53, Tryd.ntmps53
    go_wp2_with fail
    refine (c0 _).mono ?_
    rintro e w1 ⟨rfl, hb1⟩
    clear c0
    go_wp2_with fail
    refine (c1 _).mono ?_
    rintro e w2 ⟨rfl, hb2⟩
    replace hb1 := bnext hb1 hb2
    clear hb2 c1
    obtain ⟨g1, rfl⟩ := aft_of hb1
    clear hb1
    go_wp2_with fail
    refine (c2 _).mono ?_
    rintro e w3 ⟨rfl, hb3⟩
    clear c2
    obtain ⟨g3, rfl⟩ := aft_of hb3
    clear hb3
    rw [aft_aft]
    generalize (Gr.mk (g1.bl ++ g3.bl) g3.dr) = g
    go_wp2_with fail
    refine (c3 _).mono ?_
    rintro e w4 ⟨rfl, hb4⟩
    clear c3
    obtain ⟨g4, rfl⟩ := aft_of hb4
    clear hb4
    go_wp2_with fail
    exact bodyPost_ret (v := el (four x' y' z' E)) (by simp [results, Tryd.results53, go_sem, hB1, four]) rfl ⟨rfl, bnext (below2 _ _ _) (aft2_below _ _ _ _)⟩
  · refine ⟨four x y z t, (m2 htest).1, hide1 (m2 htest).2, fun w => ?_⟩
    have htest' : ((t' : Int) / 9223372036854775808 == 1) = false := by simp; omega
    clear htest HT HS HD HE e1 e2 m1 m2 c3
    have hA1 := @aft_cell; have hA2 := @aft_frozen; have hA3 := @aft_set; have hA4 := @aft_lt; have hB1 := @aft2_cell; have hB2 := @aft2_frozen; have hB3 := @aft2_set; have hC1 := @aftc_cell; have hC2 := @aftc_frozen; have hC3 := @aftc_set
    go_enter Tryd.func53, Tryd.ntmps53
    go_wp2_with fail
    refine (c0 _).mono ?_
    rintro e w1 ⟨rfl, hb1⟩
    clear c0
    go_wp2_with fail
    refine (c1 _).mono ?_
    rintro e w2 ⟨rfl, hb2⟩
    replace hb1 := bnext hb1 hb2
    clear hb2 c1
    obtain ⟨g1, rfl⟩ := aft_of hb1
    clear hb1
    go_wp2_with fail
    refine (c2 _).mono ?_
    rintro e w3 ⟨rfl, hb3⟩
    clear c2
    obtain ⟨g3, rfl⟩ := aft_of hb3
    clear hb3
    rw [aft_aft]
    generalize (Gr.mk (g1.bl ++ g3.bl) g3.dr) = g
    go_wp2_with fail
    exact bodyPost_ret (v := el (four x y z t)) (by simp [results, Tryd.results53, go_sem, hC1, four]) rfl ⟨rfl, bnext (below2 _ _ _) (aftc_below _ _ _)⟩
end Go.Proofs.YtgojlikjcpnhjaaDoor

namespace Go.Proofs.YtgojlikjcpnhjaaDoor
open Go.RowKit

theorem ok_lt {x : Nat → Nat} (h : Ok x) : num (x 0) (x 1) (x 2) (x 3) < pp := h.2

set_option maxHeartbeats 1000000 in
theorem plus_any (x y : Nat → Nat) (hx : Ok x) (hy : Ok y) :
    ∃ z : Nat → Nat, Ok z ∧ Hid (nm z = (nm x + nm y) % pp) ∧
    ∀ w, Calls Tryd.prog 58 #[el x, el y] w fun e w' => e = .returned (el z) ∧ Below w.heap.size w w' := by
  obtain ⟨a, b, c, d, k, ha, hb, hc, hd, hk, e1, c1⟩ := with_any (x 0) (x 1) (x 2) (x 3) 1 (y 0) (y 1) (y 2) (y 3) (hx.1 0) (hx.1 1) (hx.1 2) (hx.1 3) (by omega) (hy.1 0) (hy.1 1) (hy.1 2) (hy.1 3)
  have hk' : k < 4294967296 := by
    have h1 := ok_lt hx; have h2 := ok_lt hy; have := e1.out; unfold pp at *; omega
  obtain ⟨z, hz, e2, c2⟩ := settle_any a b c d k ha hb hc hd hk'
  refine ⟨z, hz, hide1 ?_, fun w => ?_⟩
  · rw [e2.out, e1.out, Nat.one_mul]; rfl
  clear e1 e2 hz
  have hA1 := @aft_cell; have hA2 := @aft_frozen; have hA3 := @aft_set
  go_enter Tryd.func58, Tryd.ntmps58
  go_wp2_with fail
  refine (c1 _).mono ?_
  rintro e w1 ⟨rfl, hb1⟩
  go_wp2_with fail
  refine (c2 _).mono ?_
  rintro e w2 ⟨rfl, hb2⟩
  obtain ⟨g, rfl⟩ := aft_of (bnext hb1 hb2)
  clear hb1 hb2 c1 c2
  go_wp2_with fail
  exact bodyPost_ret (v := el z) (by simp [results, Tryd.results58, go_sem, hA1]) rfl ⟨rfl, bnext (below3 _ _ _ _) (aft_below _ _)⟩

set_option maxHeartbeats 1000000 in
theorem times_el (x y : Nat → Nat) (hx : Ok x) (hy : Ok y) :
    ∃ z : Nat → Nat, Ok z ∧ Hid (nm z = (nm x * nm y) % pp) ∧
    ∀ w, Calls Tryd.prog 56 #[el x, el y] w fun e w' => e = .returned (el z) ∧ Below w.heap.size w w' := by
  obtain ⟨p, q, r, s, p', q', r', s', hp, hq, hr, hs, hp', hq', hr', hs', e0, c0⟩ := times_any (x 0) (x 1) (x 2) (x 3) (y 0) (y 1) (y 2) (y 3) (hx.1 0) (hx.1 1) (hx.1 2) (hx.1 3) (hy.1 0) (hy.1 1) (hy.1 2) (hy.1 3)
  obtain ⟨a, b, c, d, k, ha, hb, hc, hd, hk, e1, c1⟩ := with_any p q r s 38 p' q' r' s' hp hq hr hs (by omega) hp' hq' hr' hs'
  have hk' : k < 4294967296 := by
    have := e1.out; unfold num at this; omega
  obtain ⟨z, hz, e2, c2⟩ := settle_any a b c d k ha hb hc hd hk'
  refine ⟨z, hz, hide1 ?_, fun w => ?_⟩
  · have h0 := e0.out
    have h : num p q r s + 115792089237316195423570985008687907853269984665640564039457584007913129639936 * num p' q' r' s' = num p q r s + 38 * num p' q' r' s' + pp * (2 * num p' q' r' s') := by unfold pp; omega
    rw [e2.out, e1.out]
    show _ = num (x 0) (x 1) (x 2) (x 3) * num (y 0) (y 1) (y 2) (y 3) % pp
    rw [← h0, h, Nat.add_mul_mod_self_left]
  clear e0 e1 e2 hz
  have hA1 := @aft_cell; have hA2 := @aft_frozen; have hA3 := @aft_set
  have hB1 := @aft3_cell; have hB2 := @aft3_frozen; have hB3 := @aft3_set
  go_enter Tryd.func56, Tryd.ntmps56
  go_wp2_with fail
  refine (c0 _).mono ?_
  rintro e w1 ⟨rfl, hb1⟩
  obtain ⟨g, rfl⟩ := aft_of hb1
  clear hb1 c0
  go_wp2_with fail
  refine (c1 _).mono ?_
  rintro e w1 ⟨rfl, hb1⟩
  go_wp2_with fail
  refine (c2 _).mono ?_
  rintro e w2 ⟨rfl, hb2⟩
  obtain ⟨h, rfl⟩ := aft_of (bnext hb1 hb2)
  clear hb1 hb2 c1 c2
  go_wp2_with fail
  exact bodyPost_ret (v := el z) (by simp [results, Tryd.results56, go_sem, hB1]) rfl ⟨rfl, bnext (below3 _ _ _ _) (aft3_below _ _ _ _ _)⟩

/-- The prime's words. -/
theorem prime_any (w : World) : Calls Tryd.prog 61 #[] w fun e w' => e = .returned (wv 18446744073709551597 18446744073709551615 18446744073709551615 9223372036854775807) ∧ Below w.heap.size w w' := by
  go_enter Tryd.func61, Tryd.ntmps61
  go_wp2
  exact bodyPost_ret (v := wv 18446744073709551597 18446744073709551615 18446744073709551615 9223372036854775807) (by simp [results, Tryd.results61, go_sem]) rfl ⟨rfl, below1 _ _⟩

theorem beq_words {x y : Nat → Nat} (hx : ∀ i, x i < 18446744073709551616) (hy : ∀ i, y i < 18446744073709551616) : (nm x = nm y) ↔ (x 0 = y 0 ∧ x 1 = y 1 ∧ x 2 = y 2 ∧ x 3 = y 3) := by
  have a0 := hx 0; have a1 := hx 1; have a2 := hx 2; have a3 := hx 3
  have b0 := hy 0; have b1 := hy 1; have b2 := hy 2; have b3 := hy 3
  unfold nm num
  omega

set_option maxRecDepth 100000 in
theorem eq_words (x y : Nat → Nat) (hx : Ok x) (hy : Ok y) (w : World) : (Op.equalIn 10000 40 (el x) (el y)).run Tryd.prog w = .ok (decide (nm x = nm y)) w := by
  rw [eq_ints (e := 38) (n := 4) (k := .u64) (k' := .u64) Tryd.underlying40 (inf := _) rfl (by kernel_rfl) Tryd.underlying38 (fun _ => by kernel_rfl) _ _ (fun i => (x i : Int)) (fun i => (y i : Int))
    (fun i hi => by match i, hi with
      | 0, _ => rfl
      | 1, _ => rfl
      | 2, _ => rfl
      | 3, _ => rfl) (fun i hi => by match i, hi with
      | 0, _ => rfl
      | 1, _ => rfl
      | 2, _ => rfl
      | 3, _ => rfl) w]
  congr 1
  rw [decide_eq_decide, beq_words hx.1 hy.1]
  constructor
  · intro h
    have a0 := h 0 (by omega); have a1 := h 1 (by omega); have a2 := h 2 (by omega); have a3 := h 3 (by omega)
    omega
  · rintro ⟨a0, a1, a2, a3⟩ i hi
    match i, hi with
    | 0, _ => simp [a0]
    | 1, _ => simp [a1]
    | 2, _ => simp [a2]
    | 3, _ => simp [a3]

theorem is_any (x y : Nat → Nat) (hx : Ok x) (hy : Ok y) (w : World) :
    Calls Tryd.prog 30 #[el x, el y] w fun e w' => e = .returned (.bool (decide (nm x = nm y))) ∧ Below w.heap.size w w' := by
  have hb := eq_words x y hx hy
  go_enter Tryd.func30, Tryd.ntmps30
  go_wp2
  go_ret
  exact ⟨rfl, below2 _ _ _⟩

theorem even_any (x : Nat → Nat) (hx : Ok x) (w : World) :
    Calls Tryd.prog 42 #[el x] w fun e w' => e = .returned (.bool (decide (nm x % 2 = 0))) ∧ Below w.heap.size w w' := by
  have h0 := hx.1 0
  have h1 : (bits BinOp.and IntKind.u64 ((x 0 : Nat) : Int) 1 == 0) = decide (nm x % 2 = 0) := by
    have h := u64_and_nat (x 0) 1 h0 (by omega)
    have h2 : bits BinOp.and IntKind.u64 ((x 0 : Nat) : Int) 1 = ((x 0 % 2 : Nat) : Int) := by
      rw [nat_mask1] at h; exact h
    rw [h2]
    have h3 : nm x % 2 = x 0 % 2 := by unfold nm num; omega
    rw [h3, Bool.eq_iff_iff]; simp; omega
  go_enter Tryd.func42, Tryd.ntmps42
  go_wp2
  go_ret
  exact ⟨rfl, below1 _ _⟩
end Go.Proofs.YtgojlikjcpnhjaaDoor

namespace Go.Proofs.YtgojlikjcpnhjaaDoor
open Go.RowKit

set_option maxHeartbeats 2000000 in
theorem minus_any (x y : Nat → Nat) (hx : Ok x) (hy : Ok y) :
    ∃ z : Nat → Nat, Ok z ∧ Hid (nm z = (nm x + (pp - nm y)) % pp) ∧
    ∀ w, Calls Tryd.prog 31 #[el x, el y] w fun e w' => e = .returned (el z) ∧ Below w.heap.size w w' := by
  obtain ⟨p, q, r, s, j, hp, hq, hr, hs, hj, e0, c0⟩ := less_any 18446744073709551597 18446744073709551615 18446744073709551615 9223372036854775807 (y 0) (y 1) (y 2) (y 3) (by omega) (by omega) (by omega) (by omega) (hy.1 0) (hy.1 1) (hy.1 2) (hy.1 3)
  obtain ⟨a, b, c, d, k, ha, hb, hc, hd, hk, e1, c1⟩ := with_any (x 0) (x 1) (x 2) (x 3) 1 p q r s (hx.1 0) (hx.1 1) (hx.1 2) (hx.1 3) (by omega) hp hq hr hs
  have hpr : num 18446744073709551597 18446744073709551615 18446744073709551615 9223372036854775807 = pp := rfl
  have hj0 : num p q r s + nm y = pp := by
    have h1 := ok_lt hy; have := e0.out; rw [hpr] at this
    have hb : num p q r s < 115792089237316195423570985008687907853269984665640564039457584007913129639936 := by unfold num; omega
    unfold nm
    generalize num p q r s = A at *
    generalize num (y 0) (y 1) (y 2) (y 3) = B at *
    unfold pp at *
    omega
  have hk' : k < 4294967296 := by
    have h1 := ok_lt hx; have := e1.out
    generalize num p q r s = A at *
    generalize num (x 0) (x 1) (x 2) (x 3) = B at *
    generalize num a b c d = C at *
    unfold pp at *; omega
  obtain ⟨z, hz, e2, c2⟩ := settle_any a b c d k ha hb hc hd hk'
  refine ⟨z, hz, hide1 ?_, fun w => ?_⟩
  · rw [e2.out, e1.out, Nat.one_mul]
    have : pp - nm y = num p q r s := by omega
    rw [this]; rfl
  clear e0 e1 e2 hz hj0 hpr
  have hA1 := @aft_cell; have hA2 := @aft_frozen; have hA3 := @aft_set; have hA4 := @aft_aft; have hA5 := @aft_drew_in
  go_enter Tryd.func31, Tryd.ntmps31
  go_wp2_with fail
  go_region_with (first
    | (go_at_call 61; refine (prime_any _).mono ?_; rintro e w1 ⟨rfl, hb1⟩; obtain ⟨g1, rfl⟩ := aft_of hb1; clear hb1)
    | (go_at_call 62; refine (c0 _).mono ?_; rintro e w1 ⟨rfl, hb1⟩; obtain ⟨g2, rfl⟩ := aft_of hb1; clear hb1)
    | (go_at_call 60; refine (c1 _).mono ?_; rintro e w1 ⟨rfl, hb1⟩; obtain ⟨g3, rfl⟩ := aft_of hb1; clear hb1)
    | (go_at_call 53; refine (c2 _).mono ?_; rintro e w1 ⟨rfl, hb1⟩; obtain ⟨g4, rfl⟩ := aft_of hb1; clear hb1))
  all_goals go_wp2
  all_goals exact bodyPost_ret (v := el z) (by simp [results, Tryd.results31, go_sem, hA1]) rfl ⟨rfl, bnext (below3 _ _ _ _) (aft_below _ _)⟩
end Go.Proofs.YtgojlikjcpnhjaaDoor

namespace Go.Proofs.YtgojlikjcpnhjaaDoor
open Go.RowKit

/-- The cells of an element. -/
abbrev cs (x : Nat → Nat) : Array Value := #[.int .u64 (x 0), .int .u64 (x 1), .int .u64 (x 2), .int .u64 (x 3)]

theorem cs_one (x : Nat → Nat) : (cs x).all (·.oneCell') = true := by
  rw [Array.all_eq_true_iff_forall_mem]
  intro v hv
  simp only [cs, List.mem_toArray, List.mem_cons, List.not_mem_nil, or_false] at hv
  rcases hv with rfl | rfl | rfl | rfl <;> rfl

theorem ok_four (m : Nat) (hm : m < 18446744073709551616) : Ok (four m 0 0 0) ∧ nm (four m 0 0 0) = m := by
  refine ⟨⟨fun i => ?_, ?_⟩, ?_⟩
  · match i with
    | 0 => exact hm
    | 1 => show 0 < _; omega
    | 2 => show 0 < _; omega
    | _ + 3 => show 0 < _; omega
  · show num m 0 0 0 < pp; unfold num pp; omega
  · show num m 0 0 0 = m; unfold num; omega

set_option maxHeartbeats 1000000 in
theorem int_neg (m : Nat) (h1 : 1 ≤ m) (h2 : m ≤ 9223372036854775808) :
    ∃ x : Nat → Nat, Ok x ∧ Hid (nm x = (pp - m) % pp) ∧
    ∀ w, Calls Tryd.prog 33 #[.int .i64 (-(m : Int))] w fun e w' => e = .returned (el x) ∧ Below w.heap.size w w' := by
  have o0 := ok_four 0 (by omega); have o1 := ok_four m (by omega)
  obtain ⟨z, hz, e1, c1⟩ := minus_any _ _ o0.1 o1.1
  refine ⟨z, hz, hide1 ?_, fun w => ?_⟩
  · rw [e1.out, o0.2, o1.2, Nat.zero_add]
  have hw : IntKind.u64.wrap (-(m : Int)) = 18446744073709551616 - (m : Int) := by rw [IntKind.wrap_u64]; omega
  have hw2 : IntKind.u64.wrap (-(18446744073709551616 - (m : Int))) = (m : Int) := by rw [IntKind.wrap_u64]; omega
  have hneg : (-(m : Int)) < 0 := by omega
  have hA1 := @aft_cell; have hA2 := @aft_frozen; have hA3 := @aft_set
  clear e1 hz
  go_enter Tryd.func33, Tryd.ntmps33
  go_wp2_with fail
  refine (c1 _).mono ?_
  rintro e w1 ⟨rfl, hb1⟩
  obtain ⟨g, rfl⟩ := aft_of hb1
  clear hb1 c1
  go_wp2_with fail
  exact bodyPost_ret (v := el z) (by simp [results, Tryd.results33, go_sem, hA1]) rfl ⟨rfl, bnext (below1 _ _) (aft_below _ _)⟩

theorem int_pos (m : Nat) (h2 : m < 9223372036854775808) (w : World) :
    Calls Tryd.prog 33 #[.int .i64 (m : Int)] w fun e w' => e = .returned (el (four m 0 0 0)) ∧ Below w.heap.size w w' := by
  have hneg : ¬ ((m : Int)) < 0 := by omega
  have h3 : (m : Int) < 9223372036854775808 := by omega
  go_enter Tryd.func33, Tryd.ntmps33
  go_wp2_with fail
  exact bodyPost_ret (v := el (four m 0 0 0)) (by simp [results, Tryd.results33, go_sem, four]) rfl ⟨rfl, below1 _ _⟩

theorem aft_none (w : World) : aft w ⟨#[], w.drawn⟩ = w := by simp [aft]
theorem world_ext : ∀ a c : World, a.heap = c.heap → a.tape = c.tape → a.drawn = c.drawn → a.os = c.os → a.output = c.output → a = c := by
  rintro ⟨h1, h2, h3, h4, h5⟩ ⟨k1, k2, k3, k4, k5⟩ e1 e2 e3 e4 e5
  simp only at e1 e2 e3 e4 e5
  subst e1 e2 e3 e4 e5
  rfl
theorem setRow_twice {w : World} {b : Nat} {old : Array Value} {t : TypeId} {fr : Nat × Nat} (hrow : w.heap[b]? = some (.cells old t fr)) (c d : Array Value) : (w.setRow b c).setRow b d = w.setRow b d := by
  refine world_ext _ _ ?_ rfl rfl rfl rfl
  apply Array.ext_getElem?
  intro k
  by_cases h : k = b
  · subst h
    rw [setRow_heap _ _ _ _ _ _ (setRow_heap _ _ _ _ _ _ hrow), setRow_heap _ _ _ _ _ _ hrow]
  · rw [setRow_other _ _ _ _ h, setRow_other _ _ _ _ h, setRow_other _ _ _ _ h]

theorem results_agg {P : Program} {fn : Func} {p : Tmp} {ty : TypeId} {u : World} {b : Nat} {c : Array Value} {t0 : TypeId} {d : TypeDesc} (h : fn.results = #[.cell p ty]) (tmps : Array Value) (ht : tmps[p]?.getD undef = .pointer (some ⟨b, 0, none⟩))
    (hu : P.underlying ty = some d) (hd : (match d with | .struct _ | .array _ _ => true | _ => false) = true) (hi : (P.info? ty).map (·.size) = some c.size) (hrow : u.heap[b]? = some (.cells c t0 (0, 0))) : (results fn tmps).run P u = .ok (.agg c) u := by
  have hr := run_loadVar_row (P := P) u b t0 ty c (0, 0) _ hrow hu hd hi
  simp only [results, h]
  simp [ht, asAddr, hr]

theorem pow_step (x k : Nat) : x ^ (2 ^ k) % pp * (x ^ (2 ^ k) % pp) % pp = x ^ (2 ^ (k + 1)) % pp := by
  rw [← Nat.mul_mod, ← Nat.pow_add, Nat.pow_succ, Nat.mul_two]

set_option maxHeartbeats 2000000 in
/-- What grows a power: the power in block b is squared so many times, then multiplied. -/
theorem grow_any (t b : Nat) (ht : t < 1000) (x y : Nat → Nat) (hx : Ok x) (hy : Ok y) (t0 : TypeId) (w : World) (hrow : w.heap[b]? = some (.cells (cs x) t0 (0, 0))) :
    Calls Tryd.prog 84 #[.int .i64 t, el y, .pointer (some ⟨b, 0, none⟩)] w fun e w' => ∃ z : Nat → Nat, Ok z ∧ Hid (nm z = nm x ^ (2 ^ t) * nm y % pp) ∧ e = .returned (el z) ∧ Mod b w w' ∧ w'.heap[b]? = some (.cells (cs z) t0 (0, 0)) := by
  have hlt := row_lt hrow
  have ht2 : (t : Int) < 1000 := by omega
  go_enter Tryd.func84, Tryd.ntmps84
  go_wp2
  go_loopw [7] (fun i wr => ∃ (k : Nat) (z : Nat → Nat) (g : Gr), k ≤ t ∧ i = .int .i64 k ∧ Ok z ∧ Hid (nm z = nm x ^ (2 ^ k) % pp) ∧ wr = aft (((w.setRow b (cs z)).alloc (.cells (cs y) 42)).alloc (.cells #[.int .u64 0, .int .u64 0, .int .u64 0, .int .u64 0] 42)) g) (fun i _ => t - (intOf i).toNat)
  case atStart =>
    refine ⟨0, x, ⟨#[], w.drawn⟩, by omega, rfl, hx, hide1 ?_, ?_⟩
    · rw [Nat.pow_zero, Nat.pow_one, Nat.mod_eq_of_lt hx.2]
    · rw [setRow_self w b _ _ _ hrow]; exact (aft_none _).symm
  case round =>
    obtain ⟨k, z, g, hk, rfl, hz, ez, rfl⟩ := hrel
    have hr1 : (aft (((w.setRow b (cs z)).alloc (.cells (cs y) 42)).alloc (.cells #[.int .u64 0, .int .u64 0, .int .u64 0, .int .u64 0] 42)) g).heap[b]? = some (.cells (cs z) t0 (0, 0)) := row_aft (row_up (row_up (setRow_heap _ _ _ _ _ _ hrow)))
    by_cases hkt : k < t
    · have hkt2 : (k : Int) < (t : Int) := by omega
      obtain ⟨v, hv, ev, cv⟩ := times_el z z hz hz
      go_wp2_with (refine wpList_load_agg rfl 42 (.tmp 2) rfl b _ _ rfl Tryd.underlying42 rfl (by kernel_rfl) hr1 ?_)
      refine (cv _).mono ?_
      rintro e w1 ⟨rfl, hb1⟩
      obtain ⟨g2, rfl⟩ := aft_of hb1
      clear hb1 cv
      rw [aft_aft]
      clear hr1
      generalize (Gr.mk (g.bl ++ g2.bl) g2.dr) = g3
      have hr2 : (aft (((w.setRow b (cs z)).alloc (.cells (cs y) 42)).alloc (.cells #[.int .u64 0, .int .u64 0, .int .u64 0, .int .u64 0] 42)) g3).heap[b]? = some (.cells (cs z) t0 (0, 0)) := row_aft (row_up (row_up (setRow_heap _ _ _ _ _ _ hrow)))
      have hs2 : Hid ((aft (((w.setRow b (cs z)).alloc (.cells (cs y) 42)).alloc (.cells #[.int .u64 0, .int .u64 0, .int .u64 0, .int .u64 0] 42)) g3).setRow b (cs v) = aft (((w.setRow b (cs v)).alloc (.cells (cs y) 42)).alloc (.cells #[.int .u64 0, .int .u64 0, .int .u64 0, .int .u64 0] 42)) g3) := hide1 (by
        rw [setRow_aft _ _ _ _ (by simp; omega), setRow_alloc _ _ _ _ (by simp; omega), setRow_alloc _ _ _ _ (by simp; omega), setRow_twice hrow])
      go_wp2_with (refine wpList_store_row rfl 42 (.tmp 2) (.tmp 11) rfl b (cs v) _ _ rfl rfl (by kernel_rfl) hr2 rfl (cs_one v) hs2.out ?_)
      go_roundw
      case rel => exact ⟨k + 1, v, g3, by omega, by go_num, hv, hide1 (by rw [ev.out, ez.out, pow_step]), rfl⟩
      case measure => simp [intOf]; omega
    · obtain rfl : k = t := by omega
      obtain ⟨v, hv, ev, cv⟩ := times_el z y hz hy
      have hr0 : (aft (((w.setRow b (cs z)).alloc (.cells (cs y) 42)).alloc (.cells #[.int .u64 0, .int .u64 0, .int .u64 0, .int .u64 0] 42)) g).heap[w.heap.size]? = some (.cells (cs y) 42 (0, 0)) := by
        have := row_aft (g := g) (row2_0 (w.setRow b (cs z)) (.cells (cs y) 42) (.cells #[.int .u64 0, .int .u64 0, .int .u64 0, .int .u64 0] 42))
        rwa [size_setRow] at this
      go_wp2_with (first
        | (refine wpList_load_agg rfl 42 (.tmp 2) rfl b _ _ rfl Tryd.underlying42 rfl (by kernel_rfl) hr1 ?_)
        | (refine wpList_load_agg rfl 42 (.tmp 4) rfl w.heap.size _ _ rfl Tryd.underlying42 rfl (by kernel_rfl) hr0 ?_))
      refine (cv _).mono ?_
      rintro e w1 ⟨rfl, hb1⟩
      obtain ⟨g2, rfl⟩ := aft_of hb1
      clear hb1 cv
      rw [aft_aft]
      clear hr1 hr0
      generalize (Gr.mk (g.bl ++ g2.bl) g2.dr) = g3
      have hr2 : (aft (((w.setRow b (cs z)).alloc (.cells (cs y) 42)).alloc (.cells #[.int .u64 0, .int .u64 0, .int .u64 0, .int .u64 0] 42)) g3).heap[b]? = some (.cells (cs z) t0 (0, 0)) := row_aft (row_up (row_up (setRow_heap _ _ _ _ _ _ hrow)))
      have hs2 : Hid ((aft (((w.setRow b (cs z)).alloc (.cells (cs y) 42)).alloc (.cells #[.int .u64 0, .int .u64 0, .int .u64 0, .int .u64 0] 42)) g3).setRow b (cs v) = aft (((w.setRow b (cs v)).alloc (.cells (cs y) 42)).alloc (.cells #[.int .u64 0, .int .u64 0, .int .u64 0, .int .u64 0] 42)) g3) := hide1 (by
        rw [setRow_aft _ _ _ _ (by simp; omega), setRow_alloc _ _ _ _ (by simp; omega), setRow_alloc _ _ _ _ (by simp; omega), setRow_twice hrow])
      have hr3 : (aft (((w.setRow b (cs v)).alloc (.cells (cs y) 42)).alloc (.cells #[.int .u64 0, .int .u64 0, .int .u64 0, .int .u64 0] 42)) g3).heap[b]? = some (.cells (cs v) t0 (0, 0)) := row_aft (row_up (row_up (setRow_heap _ _ _ _ _ _ hrow)))
      have hr4 : (aft (((w.setRow b (cs v)).alloc (.cells (cs y) 42)).alloc (.cells #[.int .u64 0, .int .u64 0, .int .u64 0, .int .u64 0] 42)) g3).heap[w.heap.size + 1]? = some (.cells #[.int .u64 0, .int .u64 0, .int .u64 0, .int .u64 0] 42 (0, 0)) := by
        have := row_aft (g := g3) (row2_1 (w.setRow b (cs v)) (.cells (cs y) 42) (.cells #[.int .u64 0, .int .u64 0, .int .u64 0, .int .u64 0] 42))
        rwa [size_setRow] at this
      go_wp2_with (first
        | (refine wpList_store_row rfl 42 (.tmp 2) (.tmp 15) rfl b (cs v) _ _ rfl rfl (by kernel_rfl) hr2 rfl (cs_one v) hs2.out ?_)
        | (refine wpList_load_agg rfl 42 (.tmp 2) rfl b _ _ rfl Tryd.underlying42 rfl (by kernel_rfl) hr3 ?_)
        | (refine wpList_store_row rfl 42 (.tmp 5) (.tmp 16) rfl (w.heap.size + 1) (cs v) _ _ rfl rfl (by kernel_rfl) hr4 rfl (cs_one v) rfl ?_))
      have hm : Mod b w ((aft (((w.setRow b (cs v)).alloc (.cells (cs y) 42)).alloc (.cells #[.int .u64 0, .int .u64 0, .int .u64 0, .int .u64 0] 42)) g3).setRow (w.heap.size + 1) (cs v)) := by
        have h1 := (Mod.setRow b w (cs v)).trans (Mod.of_below (b := b) (bnext (below2 (w.setRow b (cs v)) (.cells (cs y) 42) (.cells #[.int .u64 0, .int .u64 0, .int .u64 0, .int .u64 0] 42)) (aft_below _ g3)))
        refine ⟨h1.os, h1.tape, h1.output, by simpa using h1.size, fun p hp hpb => ?_⟩
        rw [setRow_other _ _ _ _ (by omega)]
        exact h1.row p hp hpb
      exact bodyPost_ret (v := el v) (results_agg rfl _ rfl Tryd.underlying42 rfl (by kernel_rfl) (setRow_heap _ _ _ _ _ _ hr4)) rfl ⟨v, hv, hide1 (by rw [ev.out, ez.out, Nat.mod_mul_mod]), rfl, hm, by rw [setRow_other _ _ _ _ (by omega)]; exact hr3⟩
end Go.Proofs.YtgojlikjcpnhjaaDoor

namespace Go.Proofs.YtgojlikjcpnhjaaDoor
open Go.RowKit

theorem make_fn (fn : Fn) (first cap : Array Value) (w : World) : (Instr.makeFunc fn first cap).run Tryd.prog w = .ok (.func fn first cap) w := rfl

theorem first_any (x : Nat → Nat) (w : World) :
    Calls Tryd.prog 81 #[el x] w fun e w' => ∃ b : Nat, e = .returned (.func (.func 84) #[] #[.pointer (some ⟨b, 0, none⟩)]) ∧ Hid (b = w.heap.size + 1) ∧ Below w.heap.size w w' ∧ w'.heap[b]? = some (.cells (cs x) 42 (0, 0)) := by
  have hmf := make_fn
  go_enter Tryd.func81, Tryd.ntmps81
  go_wp2
  go_ret
  exact ⟨_, rfl, hide1 rfl, below2 _ _ _, row2_1 _ _ _⟩

theorem pw_step {X a y e f t z : Nat} (ha : a = X ^ e % pp) (hy : y = X ^ f % pp) (hz : z = a ^ (2 ^ t) * y % pp) : z = X ^ (e * 2 ^ t + f) % pp := by
  rw [hz, ha, hy, Nat.pow_add, Nat.pow_mul, Nat.mul_mod_mod, Nat.mul_mod, ← Nat.pow_mod, ← Nat.mul_mod]

theorem below_mod {w u v : World} {b : Nat} (h : Below w.heap.size w u) (m : Mod b u v) (hb : w.heap.size ≤ b) : Below w.heap.size w v :=
  ((Mod.of_below (b := b) h).trans m).below hb
theorem below_up {w u : World} (h : Below w.heap.size w u) (o : Obj) : Below w.heap.size w (u.alloc o) := bnext h (below1 u o)

set_option maxHeartbeats 4000000 in
theorem ones_any (x : Nat → Nat) (hx : Ok x) (w : World) :
    Calls Tryd.prog 75 #[el x] w fun e w' => ∃ (z : Nat → Nat) (E b : Nat), Ok z ∧ Hid (E = 1809251394333065553493296640760748560207343510400633813116524750123642650623) ∧ Hid (nm z = nm x ^ E % pp) ∧ e = .returned (.func (.func 84) #[] #[.pointer (some ⟨b, 0, none⟩)]) ∧ w.heap.size ≤ b ∧ Below w.heap.size w w' ∧ w'.heap[b]? = some (.cells (cs z) 42 (0, 0)) := by
  obtain ⟨X, HX⟩ : ∃ X, Hid (nm x = X) := ⟨_, hide1 rfl⟩
  rw [HX.out]
  obtain ⟨ea, hea⟩ : ∃ ea, Hid (ea = 1) := ⟨_, hide1 rfl⟩
  have qa : Hid (nm x = X ^ ea % pp) := hide1 (by rw [hea.out, Nat.pow_one, ← HX.out, Nat.mod_eq_of_lt hx.2])
  go_enter Tryd.func75, Tryd.ntmps75
  have ra := row1_0 w (.cells (cs x) 42)
  go_wp2_with fail
  refine (first_any x _).mono ?_
  rintro e u0 ⟨b, rfl, hb, hb0, rb0⟩
  replace ra := row_below ra hb0
  have hw0 : Below w.heap.size w u0 := bnext (below1 _ _) hb0
  clear hb0
  have na : w.heap.size ≠ b := by have := hb.out; simp at this; omega
  have hbw : w.heap.size ≤ b := by have := hb.out; simp at this; omega
  clear hb
  go_wp2_with (refine wpList_load_agg rfl 42 (.tmp 1) rfl w.heap.size _ _ rfl Tryd.underlying42 rfl (by kernel_rfl) ra ?_)
  refine (grow_any 1 b (by omega) x x hx hx _ _ rb0).mono ?_
  rintro e u1 ⟨z1, ok1, s1, rfl, m1, rb1⟩
  replace ra := row_mod ra m1 na
  have hw1 := below_mod hw0 m1 hbw
  obtain ⟨e1, he1⟩ : ∃ e1, Hid (e1 = ea * 2 ^ 1 + ea) := ⟨_, hide1 rfl⟩
  have q1 : Hid (nm z1 = X ^ e1 % pp) := hide1 (by rw [he1.out]; exact pw_step qa.out qa.out s1.out)
  clear m1 s1 rb0 hw0
  have ntwo : u1.heap.size ≠ b := by have := row_lt rb1; omega
  replace ra := row_up (o := .cells (cs z1) 42) ra
  replace rb1 := row_up (o := .cells (cs z1) 42) rb1
  have rtwo := row_new u1 (.cells (cs z1) 42)
  replace hw1 := below_up hw1 (.cells (cs z1) 42)
  go_wp2_with (refine wpList_load_agg rfl 42 (.tmp 4) rfl u1.heap.size _ _ rfl Tryd.underlying42 rfl (by kernel_rfl) rtwo ?_)
  refine (grow_any 2 b (by omega) z1 z1 ok1 ok1 _ _ rb1).mono ?_
  rintro e u2 ⟨z2, ok2, s2, rfl, m2, rb2⟩
  replace ra := row_mod ra m2 na
  replace rtwo := row_mod rtwo m2 ntwo
  have hw2 := below_mod hw1 m2 hbw
  obtain ⟨e2, he2⟩ : ∃ e2, Hid (e2 = e1 * 2 ^ 2 + e1) := ⟨_, hide1 rfl⟩
  have q2 : Hid (nm z2 = X ^ e2 % pp) := hide1 (by rw [he2.out]; exact pw_step q1.out q1.out s2.out)
  clear m2 s2 rb1 hw1
  go_wp2_with (refine wpList_load_agg rfl 42 (.tmp 1) rfl w.heap.size _ _ rfl Tryd.underlying42 rfl (by kernel_rfl) ra ?_)
  refine (grow_any 1 b (by omega) z2 x ok2 hx _ _ rb2).mono ?_
  rintro e u3 ⟨z3, ok3, s3, rfl, m3, rb3⟩
  replace ra := row_mod ra m3 na
  replace rtwo := row_mod rtwo m3 ntwo
  have hw3 := below_mod hw2 m3 hbw
  obtain ⟨e3, he3⟩ : ∃ e3, Hid (e3 = e2 * 2 ^ 1 + ea) := ⟨_, hide1 rfl⟩
  have q3 : Hid (nm z3 = X ^ e3 % pp) := hide1 (by rw [he3.out]; exact pw_step q2.out qa.out s3.out)
  clear m3 s3 rb2 hw2
  have nfive : u3.heap.size ≠ b := by have := row_lt rb3; omega
  replace ra := row_up (o := .cells (cs z3) 42) ra
  replace rtwo := row_up (o := .cells (cs z3) 42) rtwo
  replace rb3 := row_up (o := .cells (cs z3) 42) rb3
  have rfive := row_new u3 (.cells (cs z3) 42)
  replace hw3 := below_up hw3 (.cells (cs z3) 42)
  go_wp2_with (refine wpList_load_agg rfl 42 (.tmp 5) rfl u3.heap.size _ _ rfl Tryd.underlying42 rfl (by kernel_rfl) rfive ?_)
  refine (grow_any 5 b (by omega) z3 z3 ok3 ok3 _ _ rb3).mono ?_
  rintro e u4 ⟨z4, ok4, s4, rfl, m4, rb4⟩
  replace ra := row_mod ra m4 na
  replace rtwo := row_mod rtwo m4 ntwo
  replace rfive := row_mod rfive m4 nfive
  have hw4 := below_mod hw3 m4 hbw
  obtain ⟨e4, he4⟩ : ∃ e4, Hid (e4 = e3 * 2 ^ 5 + e3) := ⟨_, hide1 rfl⟩
  have q4 : Hid (nm z4 = X ^ e4 % pp) := hide1 (by rw [he4.out]; exact pw_step q3.out q3.out s4.out)
  clear m4 s4 rb3 hw3
  have nten : u4.heap.size ≠ b := by have := row_lt rb4; omega
  replace ra := row_up (o := .cells (cs z4) 42) ra
  replace rtwo := row_up (o := .cells (cs z4) 42) rtwo
  replace rfive := row_up (o := .cells (cs z4) 42) rfive
  replace rb4 := row_up (o := .cells (cs z4) 42) rb4
  have rten := row_new u4 (.cells (cs z4) 42)
  replace hw4 := below_up hw4 (.cells (cs z4) 42)
  go_wp2_with (refine wpList_load_agg rfl 42 (.tmp 6) rfl u4.heap.size _ _ rfl Tryd.underlying42 rfl (by kernel_rfl) rten ?_)
  refine (grow_any 10 b (by omega) z4 z4 ok4 ok4 _ _ rb4).mono ?_
  rintro e u5 ⟨z5, ok5, s5, rfl, m5, rb5⟩
  replace ra := row_mod ra m5 na
  replace rtwo := row_mod rtwo m5 ntwo
  replace rfive := row_mod rfive m5 nfive
  replace rten := row_mod rten m5 nten
  have hw5 := below_mod hw4 m5 hbw
  obtain ⟨e5, he5⟩ : ∃ e5, Hid (e5 = e4 * 2 ^ 10 + e4) := ⟨_, hide1 rfl⟩
  have q5 : Hid (nm z5 = X ^ e5 % pp) := hide1 (by rw [he5.out]; exact pw_step q4.out q4.out s5.out)
  clear m5 s5 rb4 hw4
  have ntwenty : u5.heap.size ≠ b := by have := row_lt rb5; omega
  replace ra := row_up (o := .cells (cs z5) 42) ra
  replace rtwo := row_up (o := .cells (cs z5) 42) rtwo
  replace rfive := row_up (o := .cells (cs z5) 42) rfive
  replace rten := row_up (o := .cells (cs z5) 42) rten
  replace rb5 := row_up (o := .cells (cs z5) 42) rb5
  have rtwenty := row_new u5 (.cells (cs z5) 42)
  replace hw5 := below_up hw5 (.cells (cs z5) 42)
  go_wp2_with (refine wpList_load_agg rfl 42 (.tmp 7) rfl u5.heap.size _ _ rfl Tryd.underlying42 rfl (by kernel_rfl) rtwenty ?_)
  refine (grow_any 20 b (by omega) z5 z5 ok5 ok5 _ _ rb5).mono ?_
  rintro e u6 ⟨z6, ok6, s6, rfl, m6, rb6⟩
  replace ra := row_mod ra m6 na
  replace rtwo := row_mod rtwo m6 ntwo
  replace rfive := row_mod rfive m6 nfive
  replace rten := row_mod rten m6 nten
  replace rtwenty := row_mod rtwenty m6 ntwenty
  have hw6 := below_mod hw5 m6 hbw
  obtain ⟨e6, he6⟩ : ∃ e6, Hid (e6 = e5 * 2 ^ 20 + e5) := ⟨_, hide1 rfl⟩
  have q6 : Hid (nm z6 = X ^ e6 % pp) := hide1 (by rw [he6.out]; exact pw_step q5.out q5.out s6.out)
  clear m6 s6 rb5 hw5
  go_wp2_with (refine wpList_load_agg rfl 42 (.tmp 6) rfl u4.heap.size _ _ rfl Tryd.underlying42 rfl (by kernel_rfl) rten ?_)
  refine (grow_any 10 b (by omega) z6 z4 ok6 ok4 _ _ rb6).mono ?_
  rintro e u7 ⟨z7, ok7, s7, rfl, m7, rb7⟩
  replace ra := row_mod ra m7 na
  replace rtwo := row_mod rtwo m7 ntwo
  replace rfive := row_mod rfive m7 nfive
  replace rten := row_mod rten m7 nten
  replace rtwenty := row_mod rtwenty m7 ntwenty
  have hw7 := below_mod hw6 m7 hbw
  obtain ⟨e7, he7⟩ : ∃ e7, Hid (e7 = e6 * 2 ^ 10 + e4) := ⟨_, hide1 rfl⟩
  have q7 : Hid (nm z7 = X ^ e7 % pp) := hide1 (by rw [he7.out]; exact pw_step q6.out q4.out s7.out)
  clear m7 s7 rb6 hw6
  have nfifty : u7.heap.size ≠ b := by have := row_lt rb7; omega
  replace ra := row_up (o := .cells (cs z7) 42) ra
  replace rtwo := row_up (o := .cells (cs z7) 42) rtwo
  replace rfive := row_up (o := .cells (cs z7) 42) rfive
  replace rten := row_up (o := .cells (cs z7) 42) rten
  replace rtwenty := row_up (o := .cells (cs z7) 42) rtwenty
  replace rb7 := row_up (o := .cells (cs z7) 42) rb7
  have rfifty := row_new u7 (.cells (cs z7) 42)
  replace hw7 := below_up hw7 (.cells (cs z7) 42)
  go_wp2_with (refine wpList_load_agg rfl 42 (.tmp 8) rfl u7.heap.size _ _ rfl Tryd.underlying42 rfl (by kernel_rfl) rfifty ?_)
  refine (grow_any 50 b (by omega) z7 z7 ok7 ok7 _ _ rb7).mono ?_
  rintro e u8 ⟨z8, ok8, s8, rfl, m8, rb8⟩
  replace ra := row_mod ra m8 na
  replace rtwo := row_mod rtwo m8 ntwo
  replace rfive := row_mod rfive m8 nfive
  replace rten := row_mod rten m8 nten
  replace rtwenty := row_mod rtwenty m8 ntwenty
  replace rfifty := row_mod rfifty m8 nfifty
  have hw8 := below_mod hw7 m8 hbw
  obtain ⟨e8, he8⟩ : ∃ e8, Hid (e8 = e7 * 2 ^ 50 + e7) := ⟨_, hide1 rfl⟩
  have q8 : Hid (nm z8 = X ^ e8 % pp) := hide1 (by rw [he8.out]; exact pw_step q7.out q7.out s8.out)
  clear m8 s8 rb7 hw7
  have nhundred : u8.heap.size ≠ b := by have := row_lt rb8; omega
  replace ra := row_up (o := .cells (cs z8) 42) ra
  replace rtwo := row_up (o := .cells (cs z8) 42) rtwo
  replace rfive := row_up (o := .cells (cs z8) 42) rfive
  replace rten := row_up (o := .cells (cs z8) 42) rten
  replace rtwenty := row_up (o := .cells (cs z8) 42) rtwenty
  replace rfifty := row_up (o := .cells (cs z8) 42) rfifty
  replace rb8 := row_up (o := .cells (cs z8) 42) rb8
  have rhundred := row_new u8 (.cells (cs z8) 42)
  replace hw8 := below_up hw8 (.cells (cs z8) 42)
  go_wp2_with (refine wpList_load_agg rfl 42 (.tmp 9) rfl u8.heap.size _ _ rfl Tryd.underlying42 rfl (by kernel_rfl) rhundred ?_)
  refine (grow_any 100 b (by omega) z8 z8 ok8 ok8 _ _ rb8).mono ?_
  rintro e u9 ⟨z9, ok9, s9, rfl, m9, rb9⟩
  replace ra := row_mod ra m9 na
  replace rtwo := row_mod rtwo m9 ntwo
  replace rfive := row_mod rfive m9 nfive
  replace rten := row_mod rten m9 nten
  replace rtwenty := row_mod rtwenty m9 ntwenty
  replace rfifty := row_mod rfifty m9 nfifty
  replace rhundred := row_mod rhundred m9 nhundred
  have hw9 := below_mod hw8 m9 hbw
  obtain ⟨e9, he9⟩ : ∃ e9, Hid (e9 = e8 * 2 ^ 100 + e8) := ⟨_, hide1 rfl⟩
  have q9 : Hid (nm z9 = X ^ e9 % pp) := hide1 (by rw [he9.out]; exact pw_step q8.out q8.out s9.out)
  clear m9 s9 rb8 hw8
  go_wp2_with (refine wpList_load_agg rfl 42 (.tmp 8) rfl u7.heap.size _ _ rfl Tryd.underlying42 rfl (by kernel_rfl) rfifty ?_)
  refine (grow_any 50 b (by omega) z9 z7 ok9 ok7 _ _ rb9).mono ?_
  rintro e u10 ⟨z10, ok10, s10, rfl, m10, rb10⟩
  replace ra := row_mod ra m10 na
  replace rtwo := row_mod rtwo m10 ntwo
  replace rfive := row_mod rfive m10 nfive
  replace rten := row_mod rten m10 nten
  replace rtwenty := row_mod rtwenty m10 ntwenty
  replace rfifty := row_mod rfifty m10 nfifty
  replace rhundred := row_mod rhundred m10 nhundred
  have hw10 := below_mod hw9 m10 hbw
  obtain ⟨e10, he10⟩ : ∃ e10, Hid (e10 = e9 * 2 ^ 50 + e7) := ⟨_, hide1 rfl⟩
  have q10 : Hid (nm z10 = X ^ e10 % pp) := hide1 (by rw [he10.out]; exact pw_step q9.out q7.out s10.out)
  clear m10 s10 rb9 hw9
  go_wp2_with fail
  go_ret
  refine ⟨z10, e10, b, ok10, hide1 ?_, q10, rfl, hbw, hw10, rb10⟩
  have h0 := hea.out
  have h1 := he1.out
  have h2 := he2.out
  have h3 := he3.out
  have h4 := he4.out
  have h5 := he5.out
  have h6 := he6.out
  have h7 := he7.out
  have h8 := he8.out
  have h9 := he9.out
  have h10 := he10.out
  clear q1 ok1 q2 ok2 q3 ok3 q4 ok4 q5 ok5 q6 ok6 q7 ok7 q8 ok8 q9 ok9 q10 ok10 ra rtwo rfive rten rtwenty rfifty rhundred hx qa
  simp only [Nat.reducePow] at h1 h2 h3 h4 h5 h6 h7 h8 h9 h10
  omega
end Go.Proofs.YtgojlikjcpnhjaaDoor

/- Ref6b, Ref6a, Ref6c, Ref7, P4, Crv5: laid together. -/
import Derived.Test.YtpogmflgmpifoaaG4
import Derived.Test.YtpogmflgmpifoaaG2
import Derived.Test.YtpogmflgmpifoaaG3
namespace Go.Proofs.Ytpogmflgmpifoaa
open Go.RowKit
theorem haF_lastk {n k : Nat} (hn : n < 4096 ^ 22) (h1 : 21 ≤ k) (h2 : k < 22) : ai 22 (updN (haF n k) k (haF n k k / 2)) = ai 22 (haF n (k + 1)) := by
  obtain rfl : k = 21 := by omega
  exact haF_last hn
set_option maxHeartbeats 4000000 in
theorem half_r {n : Nat} (hn : n < 4096 ^ 22) (W0 : World) : Calls Try.prog 68 #[.agg (ai 22 (dg n))] W0 fun e w' => e = .returned (.agg (ai 22 (dg (n / 2)))) ∧ Below W0.heap.size W0 w' := by
  rw [← haF_end]
  refine s_in Try.func68 Try.ntmps68 rfl [.inl (.agg (ai 22 (dg n)))] ?_
  intro β a h
  refine sym_seq ?_
  refine St.rg h [(1, .inr (0, pt 0)), (2, .inr (1, pt 0))] [(ai 22 (dg n), 35), (ai 22 (fun _ => 0), 35)] [] [eN 0, eN 1] ?_ ?_
  · exact oc (k_bx 0 (.agg (ai 22 (dg n))) (bx22 (F := (dg n))) rfl rfl) <|
    oc (k_al 1 al22 rfl rfl) <|
    ok_nil
  clear h; intro β a w h
  refine sym_then ?_
  refine sym_seq ?_
  refine sym_seq ?_
  refine St.r0 h [(3, .inl (.int .i64 ((0 : Nat) : Int)))] [] ?_ ?_
  · exact oz (k_mv (.inr rfl) rfl) <|
    ok_nil
  clear h; intro β a w h
  refine sym_then ?_
  refine blk_in ?_
  replace h := St.sm h 0 (ai 22 (haF n 0)) (c := ai 22 (dg n)) (t := 35) (haF_zero n)
  replace h := St.cs h (s' := [.inl (.agg (ai 22 (dg n))), .inr (0, pt 0), .inr (1, pt 0), .inl (.int .i64 ((0 : Nat) : Int)), uu, uu, uu, uu, uu, uu, uu, uu, uu, uu, uu, uu, uu, uu, uu, uu, uu, uu, uu, uu, uu, uu, uu]) (m' := [(ai 22 (haF n 0), 35), (ai 22 (fun _ => 0), 35)]) (by kernel_rfl) (by kernel_rfl)
  refine loop_up 22 (fun k a w => ∃ (x4 x5 x6 x7 x8 x9 x10 x11 x12 x13 x14 x15 x16 x17 x18 x19 x20 x21 x22 x23 x24 x25 : SV) (β : Nat → Nat), St (wd W0) [.inl (.agg (ai 22 (dg n))), .inr (0, pt 0), .inr (1, pt 0), .inl (.int .i64 ((k : Nat) : Int)), x4, x5, x6, x7, x8, x9, x10, x11, x12, x13, x14, x15, x16, x17, x18, x19, x20, x21, x22, x23, x24, x25, uu] [(ai 22 (haF n k), 35), (ai 22 (fun _ => 0), 35)] β a w) ⟨_, _, _, _, _, _, _, _, _, _, _, _, _, _, _, _, _, _, _, _, _, _, β, h⟩ ?_
  clear h; rintro k a w hkk ⟨x4, x5, x6, x7, x8, x9, x10, x11, x12, x13, x14, x15, x16, x17, x18, x19, x20, x21, x22, x23, x24, x25, β, h⟩; replace h := h.o0
  have g1 := haF_at n k
  have g2 := dg_lt n k
  have g3 := haF_nx n k
  rcases Nat.lt_or_ge k 22 with hltk | hgek
  · rcases Nat.lt_or_ge k 21 with hk1 | hk2
    · refine sym_seq ?_
      refine sym_seq ?_
      refine St.r0 h [(5, .inl (.int .i64 ((k : Nat) : Int))), (6, .inl (.bool true))] [] ?_ ?_
      · exact oz (k_mv (.inl rfl) rfl) <|
        oz (k_bi (.int .i64 ((k : Nat) : Int)) (.int .i64 ((22 : Nat) : Int)) (.bool true) (lt_i (m := ((k : Nat) : Int)) (n := ((22 : Nat) : Int)) (decide_eq_true (by omega))) rfl rfl) <|
        ok_nil
      clear h; intro β a w h
      refine sym_then ?_
      refine s_ct h ?_
      refine wp_skip ?_
      refine sym_then ?_
      refine sym_seq ?_
      refine blk_in ?_
      refine sym_seq ?_
      refine St.r0 h [(9, .inl (.int .i64 ((k : Nat) : Int))), (10, .inr (0, pt k)), (11, .inl (.int .i64 ((((haF n k) k) : Nat) : Int))), (4, .inl (.int .i64 ((((haF n k) k) : Nat) : Int)))] [nn, nn, eR 0] ?_ ?_
      · exact oc (k_mv (.inl rfl) rfl) <|
        oc (k_ia 0 0 k (.int .i64 ((k : Nat) : Int)) (ix22 (i := k) (by omega)) rfl rfl) <|
        oc (k_ld 0 k (.int .i64 ((((haF n k) k) : Nat) : Int)) (c := ai 22 (haF n k)) (ld_at (n := 22) (F := (haF n k)) (i := k) (t0 := 35) (by omega)) rfl rfl) <|
        oz (k_mv (.inr rfl) rfl) <|
        ok_nil
      clear h; intro β a w h
      refine sym_then ?_
      refine sym_seq ?_
      refine sym_seq ?_
      refine St.r0 h [(12, .inl (.int .i64 ((k : Nat) : Int))), (13, .inl (.bool true))] [] ?_ ?_
      · exact oz (k_mv (.inl rfl) rfl) <|
        oz (k_bi (.int .i64 ((k : Nat) : Int)) (.int .i64 ((21 : Nat) : Int)) (.bool true) (lt_i (m := ((k : Nat) : Int)) (n := ((21 : Nat) : Int)) (decide_eq_true (by omega))) rfl rfl) <|
        ok_nil
      clear h; intro β a w h
      refine sym_then ?_
      refine s_ct h ?_
      refine St.r0 h [(14, .inl (.int .i64 ((((haF n k) k) : Nat) : Int))), (15, .inl (.int .i64 ((k : Nat) : Int))), (16, .inl (.int .i64 (((k + 1) : Nat) : Int))), (17, .inr (0, pt (k + 1))), (18, .inl (.int .i64 ((((haF n k) (k + 1)) : Nat) : Int))), (19, .inl (.int .i64 (((((haF n k) (k + 1)) % 2) : Nat) : Int))), (20, .inl (.int .i64 ((((((haF n k) (k + 1)) % 2) * 4096) : Nat) : Int))), (21, .inl (.int .i64 (((((haF n k) k) + ((((haF n k) (k + 1)) % 2) * 4096)) : Nat) : Int))), (4, .inl (.int .i64 (((((haF n k) k) + ((((haF n k) (k + 1)) % 2) * 4096)) : Nat) : Int)))] [eO, nn, nn, nn, eR 0] ?_ ?_
      · exact oc (k_m0 rfl rfl) <|
        oc (k_mv (.inl rfl) rfl) <|
        oc (k_bi (.int .i64 ((k : Nat) : Int)) (.int .i64 ((1 : Nat) : Int)) (.int .i64 (((k + 1) : Nat) : Int)) (ad_i (m := k) (n := 1) (by omega)) rfl rfl) <|
        oc (k_ia 0 0 ((k + 1)) (.int .i64 (((k + 1) : Nat) : Int)) (ix22 (i := (k + 1)) (by omega)) rfl rfl) <|
        oc (k_ld 0 ((k + 1)) (.int .i64 ((((haF n k) (k + 1)) : Nat) : Int)) (c := ai 22 (haF n k)) (ld_at (n := 22) (F := (haF n k)) (i := (k + 1)) (t0 := 35) (by omega)) rfl rfl) <|
        oz (k_bi (.int .i64 ((((haF n k) (k + 1)) : Nat) : Int)) (.int .i64 ((2 : Nat) : Int)) (.int .i64 (((((haF n k) (k + 1)) % 2) : Nat) : Int)) (re_i (m := ((haF n k) (k + 1))) (n := 2) (by decide)) rfl rfl) <|
        oz (k_bi (.int .i64 (((((haF n k) (k + 1)) % 2) : Nat) : Int)) (.int .i64 ((4096 : Nat) : Int)) (.int .i64 ((((((haF n k) (k + 1)) % 2) * 4096) : Nat) : Int)) (mu_i (m := (((haF n k) (k + 1)) % 2)) (n := 4096) (by omega)) rfl rfl) <|
        oz (k_bi (.int .i64 ((((haF n k) k) : Nat) : Int)) (.int .i64 ((((((haF n k) (k + 1)) % 2) * 4096) : Nat) : Int)) (.int .i64 (((((haF n k) k) + ((((haF n k) (k + 1)) % 2) * 4096)) : Nat) : Int)) (ad_i (m := ((haF n k) k)) (n := ((((haF n k) (k + 1)) % 2) * 4096)) (by omega)) rfl rfl) <|
        oz (k_mv (.inr rfl) rfl) <|
        ok_nil
      clear h; intro β a w h
      refine sym_then ?_
      refine St.rg h [(22, .inl (.int .i64 ((k : Nat) : Int))), (23, .inl (.int .i64 (((((haF n k) k) + ((((haF n k) (k + 1)) % 2) * 4096)) : Nat) : Int))), (24, .inl (.int .i64 ((((((haF n k) k) + ((((haF n k) (k + 1)) % 2) * 4096)) / 2) : Nat) : Int))), (25, .inr (0, pt k))] [] [(0, ai 22 (updN (haF n k) k ((((haF n k) k) + ((((haF n k) (k + 1)) % 2) * 4096)) / 2)))] [nn, nn, nn, nn, eS 0] ?_ ?_
      · exact oc (k_mv (.inl rfl) rfl) <|
        oc (k_mv (.inl rfl) rfl) <|
        oc (k_bi (.int .i64 (((((haF n k) k) + ((((haF n k) (k + 1)) % 2) * 4096)) : Nat) : Int)) (.int .i64 ((2 : Nat) : Int)) (.int .i64 ((((((haF n k) k) + ((((haF n k) (k + 1)) % 2) * 4096)) / 2) : Nat) : Int)) (qu_i (m := (((haF n k) k) + ((((haF n k) (k + 1)) % 2) * 4096))) (n := 2) (by decide) (by omega)) rfl rfl) <|
        oc (k_ia 0 0 k (.int .i64 ((k : Nat) : Int)) (ix22 (i := k) (by omega)) rfl rfl) <|
        oc (k_st 0 k (.int .i64 ((((((haF n k) k) + ((((haF n k) (k + 1)) % 2) * 4096)) / 2) : Nat) : Int)) (c := ai 22 (haF n k)) (n := ai 22 (updN (haF n k) k ((((haF n k) k) + ((((haF n k) (k + 1)) % 2) * 4096)) / 2))) (st_at (n := 22) (F := (haF n k)) (i := k) (v := ((((haF n k) k) + ((((haF n k) (k + 1)) % 2) * 4096)) / 2)) (t0 := 35) (by omega)) rfl rfl) <|
        ok_nil
      clear h; intro β a w h
      refine blk_norm ?_
      refine sym_then ?_
      refine St.r0 h [(7, .inl (.int .i64 ((k : Nat) : Int))), (8, .inl (.int .i64 (((k + 1) : Nat) : Int))), (3, .inl (.int .i64 (((k + 1) : Nat) : Int)))] [eO] ?_ ?_
      · exact oc (k_m0 rfl rfl) <|
        oz (k_bi (.int .i64 ((k : Nat) : Int)) (.int .i64 ((1 : Nat) : Int)) (.int .i64 (((k + 1) : Nat) : Int)) (ad_i (m := k) (n := 1) (by omega)) rfl rfl) <|
        oz (k_mv (.inr rfl) rfl) <|
        ok_nil
      clear h; intro β a w h
      replace h := St.sm h 0 (ai 22 (haF n (k + 1))) (c := ai 22 (updN (haF n k) k ((((haF n k) k) + ((((haF n k) (k + 1)) % 2) * 4096)) / 2))) (t := 35) (haF_next n k)
      replace h := St.cs h (s' := [.inl (.agg (ai 22 (dg n))), .inr (0, pt 0), .inr (1, pt 0), .inl (.int .i64 (((k + 1) : Nat) : Int)), .inl (.int .i64 (((((haF n k) k) + ((((haF n k) (k + 1)) % 2) * 4096)) : Nat) : Int)), .inl (.int .i64 ((k : Nat) : Int)), .inl (.bool true), .inl (.int .i64 ((k : Nat) : Int)), .inl (.int .i64 (((k + 1) : Nat) : Int)), .inl (.int .i64 ((k : Nat) : Int)), .inr (0, pt k), .inl (.int .i64 ((((haF n k) k) : Nat) : Int)), .inl (.int .i64 ((k : Nat) : Int)), .inl (.bool true), .inl (.int .i64 ((((haF n k) k) : Nat) : Int)), .inl (.int .i64 ((k : Nat) : Int)), .inl (.int .i64 (((k + 1) : Nat) : Int)), .inr (0, pt (k + 1)), .inl (.int .i64 ((((haF n k) (k + 1)) : Nat) : Int)), .inl (.int .i64 (((((haF n k) (k + 1)) % 2) : Nat) : Int)), .inl (.int .i64 ((((((haF n k) (k + 1)) % 2) * 4096) : Nat) : Int)), .inl (.int .i64 (((((haF n k) k) + ((((haF n k) (k + 1)) % 2) * 4096)) : Nat) : Int)), .inl (.int .i64 ((k : Nat) : Int)), .inl (.int .i64 (((((haF n k) k) + ((((haF n k) (k + 1)) % 2) * 4096)) : Nat) : Int)), .inl (.int .i64 ((((((haF n k) k) + ((((haF n k) (k + 1)) % 2) * 4096)) / 2) : Nat) : Int)), .inr (0, pt k), uu]) (m' := [(ai 22 (haF n (k + 1)), 35), (ai 22 (fun _ => 0), 35)]) (by kernel_rfl) (by kernel_rfl)
      exact ⟨hltk, _, _, _, _, _, _, _, _, _, _, _, _, _, _, _, _, _, _, _, _, _, _, _, h⟩
    · refine sym_seq ?_
      refine sym_seq ?_
      refine St.r0 h [(5, .inl (.int .i64 ((k : Nat) : Int))), (6, .inl (.bool true))] [] ?_ ?_
      · exact oz (k_mv (.inl rfl) rfl) <|
        oz (k_bi (.int .i64 ((k : Nat) : Int)) (.int .i64 ((22 : Nat) : Int)) (.bool true) (lt_i (m := ((k : Nat) : Int)) (n := ((22 : Nat) : Int)) (decide_eq_true (by omega))) rfl rfl) <|
        ok_nil
      clear h; intro β a w h
      refine sym_then ?_
      refine s_ct h ?_
      refine wp_skip ?_
      refine sym_then ?_
      refine sym_seq ?_
      refine blk_in ?_
      refine sym_seq ?_
      refine St.r0 h [(9, .inl (.int .i64 ((k : Nat) : Int))), (10, .inr (0, pt k)), (11, .inl (.int .i64 ((((haF n k) k) : Nat) : Int))), (4, .inl (.int .i64 ((((haF n k) k) : Nat) : Int)))] [nn, nn, eR 0] ?_ ?_
      · exact oc (k_mv (.inl rfl) rfl) <|
        oc (k_ia 0 0 k (.int .i64 ((k : Nat) : Int)) (ix22 (i := k) (by omega)) rfl rfl) <|
        oc (k_ld 0 k (.int .i64 ((((haF n k) k) : Nat) : Int)) (c := ai 22 (haF n k)) (ld_at (n := 22) (F := (haF n k)) (i := k) (t0 := 35) (by omega)) rfl rfl) <|
        oz (k_mv (.inr rfl) rfl) <|
        ok_nil
      clear h; intro β a w h
      refine sym_then ?_
      refine sym_seq ?_
      refine sym_seq ?_
      refine St.r0 h [(12, .inl (.int .i64 ((k : Nat) : Int))), (13, .inl (.bool false))] [] ?_ ?_
      · exact oz (k_mv (.inl rfl) rfl) <|
        oz (k_bi (.int .i64 ((k : Nat) : Int)) (.int .i64 ((21 : Nat) : Int)) (.bool false) (lt_i (m := ((k : Nat) : Int)) (n := ((21 : Nat) : Int)) (decide_eq_false (by omega))) rfl rfl) <|
        ok_nil
      clear h; intro β a w h
      refine sym_then ?_
      refine s_cf h ?_
      refine wp_skip ?_
      refine sym_then ?_
      refine St.rg h [(22, .inl (.int .i64 ((k : Nat) : Int))), (23, .inl (.int .i64 ((((haF n k) k) : Nat) : Int))), (24, .inl (.int .i64 (((((haF n k) k) / 2) : Nat) : Int))), (25, .inr (0, pt k))] [] [(0, ai 22 (updN (haF n k) k (((haF n k) k) / 2)))] [nn, nn, nn, nn, eS 0] ?_ ?_
      · exact oc (k_mv (.inl rfl) rfl) <|
        oc (k_mv (.inl rfl) rfl) <|
        oc (k_bi (.int .i64 ((((haF n k) k) : Nat) : Int)) (.int .i64 ((2 : Nat) : Int)) (.int .i64 (((((haF n k) k) / 2) : Nat) : Int)) (qu_i (m := ((haF n k) k)) (n := 2) (by decide) (by omega)) rfl rfl) <|
        oc (k_ia 0 0 k (.int .i64 ((k : Nat) : Int)) (ix22 (i := k) (by omega)) rfl rfl) <|
        oc (k_st 0 k (.int .i64 (((((haF n k) k) / 2) : Nat) : Int)) (c := ai 22 (haF n k)) (n := ai 22 (updN (haF n k) k (((haF n k) k) / 2))) (st_at (n := 22) (F := (haF n k)) (i := k) (v := (((haF n k) k) / 2)) (t0 := 35) (by omega)) rfl rfl) <|
        ok_nil
      clear h; intro β a w h
      refine blk_norm ?_
      refine sym_then ?_
      refine St.r0 h [(7, .inl (.int .i64 ((k : Nat) : Int))), (8, .inl (.int .i64 (((k + 1) : Nat) : Int))), (3, .inl (.int .i64 (((k + 1) : Nat) : Int)))] [eO] ?_ ?_
      · exact oc (k_m0 rfl rfl) <|
        oz (k_bi (.int .i64 ((k : Nat) : Int)) (.int .i64 ((1 : Nat) : Int)) (.int .i64 (((k + 1) : Nat) : Int)) (ad_i (m := k) (n := 1) (by omega)) rfl rfl) <|
        oz (k_mv (.inr rfl) rfl) <|
        ok_nil
      clear h; intro β a w h
      replace h := St.sm h 0 (ai 22 (haF n (k + 1))) (c := ai 22 (updN (haF n k) k (((haF n k) k) / 2))) (t := 35) (haF_lastk hn hk2 hltk)
      replace h := St.cs h (s' := [.inl (.agg (ai 22 (dg n))), .inr (0, pt 0), .inr (1, pt 0), .inl (.int .i64 (((k + 1) : Nat) : Int)), .inl (.int .i64 ((((haF n k) k) : Nat) : Int)), .inl (.int .i64 ((k : Nat) : Int)), .inl (.bool true), .inl (.int .i64 ((k : Nat) : Int)), .inl (.int .i64 (((k + 1) : Nat) : Int)), .inl (.int .i64 ((k : Nat) : Int)), .inr (0, pt k), .inl (.int .i64 ((((haF n k) k) : Nat) : Int)), .inl (.int .i64 ((k : Nat) : Int)), .inl (.bool false), x14, x15, x16, x17, x18, x19, x20, x21, .inl (.int .i64 ((k : Nat) : Int)), .inl (.int .i64 ((((haF n k) k) : Nat) : Int)), .inl (.int .i64 (((((haF n k) k) / 2) : Nat) : Int)), .inr (0, pt k), uu]) (m' := [(ai 22 (haF n (k + 1)), 35), (ai 22 (fun _ => 0), 35)]) (by kernel_rfl) (by kernel_rfl)
      exact ⟨hltk, _, _, _, _, _, _, _, _, _, _, _, _, _, _, _, _, _, _, _, _, _, _, _, h⟩
  · obtain rfl : k = 22 := by omega
    refine sym_seq ?_
    refine sym_seq ?_
    refine St.r0 h [(5, .inl (.int .i64 ((22 : Nat) : Int))), (6, .inl (.bool false))] [] ?_ ?_
    · exact oz (k_mv (.inl rfl) rfl) <|
      oz (k_bi (.int .i64 ((22 : Nat) : Int)) (.int .i64 ((22 : Nat) : Int)) (.bool false) (lt_i (m := ((22 : Nat) : Int)) (n := ((22 : Nat) : Int)) (decide_eq_false (by omega))) rfl rfl) <|
      ok_nil
    clear h; intro β a w h
    refine sym_then ?_
    refine s_cf h ?_
    refine wp_exit ?_
    refine then_exit ?_
    refine then_exit ?_
    refine blk_exit ?_
    refine sym_then ?_
    refine sym_seq ?_
    refine St.rg h [(26, .inl (.agg (ai 22 (haF n 22))))] [] [(1, ai 22 (haF n 22))] [eR 0, eS 1] ?_ ?_
    · exact oc (k_ld 0 0 (.agg (ai 22 (haF n 22))) (c := ai 22 (haF n 22)) (ld22 (F := (haF n 22)) 35) rfl rfl) <|
      oc (k_st 1 0 (.agg (ai 22 (haF n 22))) (c := ai 22 (fun _ => 0)) (n := ai 22 (haF n 22)) (st22 (F := (haF n 22)) (c := ai 22 (fun _ => 0)) 35 (ai_size _ _)) rfl rfl) <|
      ok_nil
    clear h; intro β a w h
    refine sym_then ?_
    refine wp_ret ?_
    exact s_rc (b := 1) (t0 := 35) (c := ai 22 (haF n 22)) h Try.results68 Try.underlying35 (fun hb => ⟨rfl, hb⟩) (by rw [ai_size]; kernel_rfl)
end Go.Proofs.Ytpogmflgmpifoaa

namespace Go.Proofs.Ytpogmflgmpifoaa
open Go.RowKit
theorem int_least {N : Nat} (hN : N < 9223372036854775808) (w : World) : Calls Try.prog 65 #[.agg (ai 44 (inF N 6))] w fun e w' => e = .returned (.agg (ai 22 (dg N))) ∧ Below w.heap.size w w' := by
  have := least_r (inF_lt N 6) (inF_pv hN) (show N < 4096 ^ 44 from Nat.lt_trans hN (by decide +kernel)) w
  have hp : 9223372036854775808 < pp := by decide +kernel
  rwa [Nat.mod_eq_of_lt (show N < pp from Nat.lt_trans hN hp)] at this
set_option maxHeartbeats 4000000 in
theorem int_r {N : Nat} (hN : N < 9223372036854775808) (W0 : World) : Calls Try.prog 34 #[.int .i64 ((N : Nat) : Int)] W0 fun e w' => e = .returned (.agg (ai 22 (dg N))) ∧ Below W0.heap.size W0 w' := by
  refine s_in Try.func34 Try.ntmps34 rfl [.inl (.int .i64 ((N : Nat) : Int))] ?_
  intro β a h
  refine sym_seq ?_
  refine St.rg h [(2, .inr (0, pt 0))] [(ai 22 (fun _ => 0), 35)] [] [eN 0] ?_ ?_
  · exact oc (k_al 0 al22 rfl rfl) <|
    ok_nil
  clear h; intro β a w h
  refine sym_then ?_
  refine sym_seq ?_
  refine sym_seq ?_
  refine St.r0 h [(5, .inl (.int .i64 ((N : Nat) : Int))), (6, .inl (.bool false))] [] ?_ ?_
  · exact oz (k_mv (.inl rfl) rfl) <|
    oz (k_bi (.int .i64 ((N : Nat) : Int)) (.int .i64 ((0 : Nat) : Int)) (.bool false) (lt_i (m := ((N : Nat) : Int)) (n := ((0 : Nat) : Int)) (decide_eq_false (by omega))) rfl rfl) <|
    ok_nil
  clear h; intro β a w h
  refine sym_then ?_
  refine s_cf h ?_
  refine wp_skip ?_
  refine sym_then ?_
  refine sym_seq ?_
  refine St.rg h [(3, .inr (1, pt 0))] [(ai 44 (fun _ => 0), 95)] [] [eN 1] ?_ ?_
  · exact oc (k_al 1 al44 rfl rfl) <|
    ok_nil
  clear h; intro β a w h
  refine sym_then ?_
  refine sym_seq ?_
  refine sym_seq ?_
  refine St.r0 h [(4, .inl (.int .i64 ((0 : Nat) : Int)))] [] ?_ ?_
  · exact oz (k_mv (.inr rfl) rfl) <|
    ok_nil
  clear h; intro β a w h
  refine sym_then ?_
  refine blk_in ?_
  replace h := St.sm h 1 (ai 44 (inF N 0)) (c := ai 44 (fun _ => 0)) (t := 95) (inF_zero N)
  replace h := St.ss h 0 (.int .i64 (((nq N 0) : Nat) : Int)) (v := .int .i64 ((N : Nat) : Int)) (ic (nq_zero N))
  replace h := St.cs h (s' := [.inl (.int .i64 (((nq N 0) : Nat) : Int)), uu, .inr (0, pt 0), .inr (1, pt 0), .inl (.int .i64 ((0 : Nat) : Int)), .inl (.int .i64 ((N : Nat) : Int)), .inl (.bool false), uu, uu, uu, uu, uu, uu, uu, uu, uu, uu, uu, uu, uu, uu, uu, uu, uu, uu, uu, uu]) (m' := [(ai 22 (fun _ => 0), 35), (ai 44 (inF N 0), 95)]) (by kernel_rfl) (by kernel_rfl)
  refine loop_up 6 (fun k a w => ∃ (x15 x16 x17 x18 x19 x20 x21 x22 x23 x24 : SV) (β : Nat → Nat), St (wd W0) [.inl (.int .i64 (((nq N k) : Nat) : Int)), uu, .inr (0, pt 0), .inr (1, pt 0), .inl (.int .i64 ((k : Nat) : Int)), .inl (.int .i64 ((N : Nat) : Int)), .inl (.bool false), uu, uu, uu, uu, uu, uu, uu, uu, x15, x16, x17, x18, x19, x20, x21, x22, x23, x24, uu, uu] [(ai 22 (fun _ => 0), 35), (ai 44 (inF N k), 95)] β a w) ⟨_, _, _, _, _, _, _, _, _, _, β, h⟩ ?_
  clear h; rintro k a w hkk ⟨x15, x16, x17, x18, x19, x20, x21, x22, x23, x24, β, h⟩; replace h := h.o0
  have g1 := nq_le N k
  rcases Nat.lt_or_ge k 6 with hltk | hgek
  · refine sym_seq ?_
    refine sym_seq ?_
    refine St.r0 h [(15, .inl (.int .i64 ((k : Nat) : Int))), (16, .inl (.bool true))] [] ?_ ?_
    · exact oz (k_mv (.inl rfl) rfl) <|
      oz (k_bi (.int .i64 ((k : Nat) : Int)) (.int .i64 ((6 : Nat) : Int)) (.bool true) (lt_i (m := ((k : Nat) : Int)) (n := ((6 : Nat) : Int)) (decide_eq_true (by omega))) rfl rfl) <|
      ok_nil
    clear h; intro β a w h
    refine sym_then ?_
    refine s_ct h ?_
    refine wp_skip ?_
    refine sym_then ?_
    refine sym_seq ?_
    refine blk_in ?_
    refine sym_seq ?_
    refine St.rg h [(19, .inl (.int .i64 ((k : Nat) : Int))), (20, .inl (.int .i64 (((nq N k) : Nat) : Int))), (21, .inl (.int .i64 ((((nq N k) % 4096) : Nat) : Int))), (22, .inr (1, pt k))] [] [(1, ai 44 (updN (inF N k) k ((nq N k) % 4096)))] [nn, nn, nn, nn, eS 1] ?_ ?_
    · exact oc (k_mv (.inl rfl) rfl) <|
      oc (k_mv (.inl rfl) rfl) <|
      oc (k_bi (.int .i64 (((nq N k) : Nat) : Int)) (.int .i64 ((4096 : Nat) : Int)) (.int .i64 ((((nq N k) % 4096) : Nat) : Int)) (re_i (m := (nq N k)) (n := 4096) (by decide)) rfl rfl) <|
      oc (k_ia 1 0 k (.int .i64 ((k : Nat) : Int)) (ix44 (i := k) (by omega)) rfl rfl) <|
      oc (k_st 1 k (.int .i64 ((((nq N k) % 4096) : Nat) : Int)) (c := ai 44 (inF N k)) (n := ai 44 (updN (inF N k) k ((nq N k) % 4096))) (st_at (n := 44) (F := (inF N k)) (i := k) (v := ((nq N k) % 4096)) (t0 := 95) (by omega)) rfl rfl) <|
      ok_nil
    clear h; intro β a w h
    refine sym_then ?_
    refine St.r0 h [(23, .inl (.int .i64 (((nq N k) : Nat) : Int))), (24, .inl (.int .i64 ((((nq N k) / 4096) : Nat) : Int))), (0, .inl (.int .i64 ((((nq N k) / 4096) : Nat) : Int)))] [eO] ?_ ?_
    · exact oc (k_m0 rfl rfl) <|
      oz (k_bi (.int .i64 (((nq N k) : Nat) : Int)) (.int .i64 ((4096 : Nat) : Int)) (.int .i64 ((((nq N k) / 4096) : Nat) : Int)) (qu_i (m := (nq N k)) (n := 4096) (by decide) (by omega)) rfl rfl) <|
      oz (k_mv (.inr rfl) rfl) <|
      ok_nil
    clear h; intro β a w h
    refine blk_norm ?_
    refine sym_then ?_
    refine St.r0 h [(17, .inl (.int .i64 ((k : Nat) : Int))), (18, .inl (.int .i64 (((k + 1) : Nat) : Int))), (4, .inl (.int .i64 (((k + 1) : Nat) : Int)))] [eO] ?_ ?_
    · exact oc (k_m0 rfl rfl) <|
      oz (k_bi (.int .i64 ((k : Nat) : Int)) (.int .i64 ((1 : Nat) : Int)) (.int .i64 (((k + 1) : Nat) : Int)) (ad_i (m := k) (n := 1) (by omega)) rfl rfl) <|
      oz (k_mv (.inr rfl) rfl) <|
      ok_nil
    clear h; intro β a w h
    replace h := St.sm h 1 (ai 44 (inF N (k + 1))) (c := ai 44 (updN (inF N k) k ((nq N k) % 4096))) (t := 95) (inF_next N k)
    replace h := St.ss h 0 (.int .i64 (((nq N (k + 1)) : Nat) : Int)) (v := .int .i64 ((((nq N k) / 4096) : Nat) : Int)) (ic (nq_next N k))
    replace h := St.cs h (s' := [.inl (.int .i64 (((nq N (k + 1)) : Nat) : Int)), uu, .inr (0, pt 0), .inr (1, pt 0), .inl (.int .i64 (((k + 1) : Nat) : Int)), .inl (.int .i64 ((N : Nat) : Int)), .inl (.bool false), uu, uu, uu, uu, uu, uu, uu, uu, .inl (.int .i64 ((k : Nat) : Int)), .inl (.bool true), .inl (.int .i64 ((k : Nat) : Int)), .inl (.int .i64 (((k + 1) : Nat) : Int)), .inl (.int .i64 ((k : Nat) : Int)), .inl (.int .i64 (((nq N k) : Nat) : Int)), .inl (.int .i64 ((((nq N k) % 4096) : Nat) : Int)), .inr (1, pt k), .inl (.int .i64 (((nq N k) : Nat) : Int)), .inl (.int .i64 ((((nq N k) / 4096) : Nat) : Int)), uu, uu]) (m' := [(ai 22 (fun _ => 0), 35), (ai 44 (inF N (k + 1)), 95)]) (by kernel_rfl) (by kernel_rfl)
    exact ⟨hltk, _, _, _, _, _, _, _, _, _, _, _, h⟩
  · obtain rfl : k = 6 := by omega
    refine sym_seq ?_
    refine sym_seq ?_
    refine St.r0 h [(15, .inl (.int .i64 ((6 : Nat) : Int))), (16, .inl (.bool false))] [] ?_ ?_
    · exact oz (k_mv (.inl rfl) rfl) <|
      oz (k_bi (.int .i64 ((6 : Nat) : Int)) (.int .i64 ((6 : Nat) : Int)) (.bool false) (lt_i (m := ((6 : Nat) : Int)) (n := ((6 : Nat) : Int)) (decide_eq_false (by omega))) rfl rfl) <|
      ok_nil
    clear h; intro β a w h
    refine sym_then ?_
    refine s_cf h ?_
    refine wp_exit ?_
    refine then_exit ?_
    refine then_exit ?_
    refine blk_exit ?_
    refine sym_then ?_
    refine sym_seq ?_
    refine St.rg h [(25, .inl (.agg (ai 44 (inF N 6)))), (26, .inl (.agg (ai 22 (dg N))))] [] [(0, ai 22 (dg N))] [eR 1, nn, eS 0] ?_ ?_
    · exact oc (k_ld 1 0 (.agg (ai 44 (inF N 6))) (c := ai 44 (inF N 6)) (ld44 (F := (inF N 6)) 95) rfl rfl) <|
      oc (k_ca 65 #[.agg (ai 44 (inF N 6))] (.agg (ai 22 (dg N))) (fun w => int_least hN w) rfl rfl) <|
      oc (k_st 0 0 (.agg (ai 22 (dg N))) (c := ai 22 (fun _ => 0)) (n := ai 22 (dg N)) (st22 (F := (dg N)) (c := ai 22 (fun _ => 0)) 35 (ai_size _ _)) rfl rfl) <|
      ok_nil
    clear h; intro β a w h
    refine sym_then ?_
    refine wp_ret ?_
    exact s_rc (b := 0) (t0 := 35) (c := ai 22 (dg N)) h Try.results34 Try.underlying35 (fun hb => ⟨rfl, hb⟩) (by rw [ai_size]; kernel_rfl)
set_option maxHeartbeats 4000000 in
theorem intn_r {m : Nat} (h1 : 1 ≤ m) (h2 : m ≤ 9223372036854775808) (W0 : World) : Calls Try.prog 34 #[.int .i64 (-((m : Nat) : Int))] W0 fun e w' => e = .returned (.agg (ai 22 (dg (pp - m)))) ∧ Below W0.heap.size W0 w' := by
  have hm1 : m - 1 < pp := Nat.lt_of_le_of_lt (show m - 1 ≤ 9223372036854775808 by omega) (by decide +kernel)
  rw [← neg_eq h1 h2]
  refine s_in Try.func34 Try.ntmps34 rfl [.inl (.int .i64 (-((m : Nat) : Int)))] ?_
  intro β a h
  refine sym_seq ?_
  refine St.rg h [(2, .inr (0, pt 0))] [(ai 22 (fun _ => 0), 35)] [] [eN 0] ?_ ?_
  · exact oc (k_al 0 al22 rfl rfl) <|
    ok_nil
  clear h; intro β a w h
  refine sym_then ?_
  refine sym_seq ?_
  refine sym_seq ?_
  refine St.r0 h [(5, .inl (.int .i64 (-((m : Nat) : Int)))), (6, .inl (.bool true))] [] ?_ ?_
  · exact oz (k_mv (.inl rfl) rfl) <|
    oz (k_bi (.int .i64 (-((m : Nat) : Int))) (.int .i64 ((0 : Nat) : Int)) (.bool true) (lt_i (m := -((m : Nat) : Int)) (n := ((0 : Nat) : Int)) (decide_eq_true (by omega))) rfl rfl) <|
    ok_nil
  clear h; intro β a w h
  refine sym_then ?_
  refine s_ct h ?_
  refine sym_seq ?_
  refine St.rg h [(7, .inl (.agg (ai 22 (dg 0)))), (8, .inl (.int .i64 (-((m : Nat) : Int)))), (9, .inl (.int .i64 (-((m : Nat) : Int) + ((1 : Nat) : Int)))), (10, .inl (.int .i64 (((m - 1) : Nat) : Int))), (11, .inl (.agg (ai 22 (dg (m - 1))))), (12, .inl (.agg (ai 22 (dg ((0 + (pp - (m - 1))) % pp))))), (13, .inl (.agg (ai 22 (dg 1)))), (14, .inl (.agg (ai 22 (dg ((((0 + (pp - (m - 1))) % pp) + (pp - 1)) % pp)))))] [] [(0, ai 22 (dg ((((0 + (pp - (m - 1))) % pp) + (pp - 1)) % pp)))] [nn, nn, nn, nn, nn, nn, nn, nn, eS 0] ?_ ?_
  · exact oc (k_bu #[] (.agg (ai 22 (dg 0))) bd22 rfl rfl) <|
    oc (k_mv (.inl rfl) rfl) <|
    oc (k_bi (.int .i64 (-((m : Nat) : Int))) (.int .i64 ((1 : Nat) : Int)) (.int .i64 (-((m : Nat) : Int) + ((1 : Nat) : Int))) (ad_z (m := -((m : Nat) : Int)) (n := ((1 : Nat) : Int)) (by omega) (by omega)) rfl rfl) <|
    oc (ok_un (x1 := .int .i64 (-((m : Nat) : Int) + ((1 : Nat) : Int))) (v := .int .i64 (((m - 1) : Nat) : Int)) (ng_z (z := -((m : Nat) : Int) + ((1 : Nat) : Int)) (k := m - 1) (by omega) (by omega)) rfl (by kernel_rfl) rfl (by kernel_rfl) (by kernel_rfl) (by kernel_rfl)) <|
    oc (k_ca 34 #[.int .i64 (((m - 1) : Nat) : Int)] (.agg (ai 22 (dg (m - 1)))) (fun w => int_r (N := (m - 1)) (by omega) w) rfl rfl) <|
    oc (k_ca 38 #[.agg (ai 22 (dg 0)), .agg (ai 22 (dg (m - 1)))] (.agg (ai 22 (dg ((0 + (pp - (m - 1))) % pp)))) (fun w => minus_r (m := 0) (n := (m - 1)) (lt_big (by first | exact mod_pp _ | exact ofb_lt _ | assumption | exact pp_pos | exact one_lt | exact two_lt)) (Nat.le_of_lt (by first | exact mod_pp _ | exact ofb_lt _ | assumption | exact pp_pos | exact one_lt | exact two_lt)) w) rfl rfl) <|
    oc (k_ca 34 #[.int .i64 ((1 : Nat) : Int)] (.agg (ai 22 (dg 1))) (fun w => int_r (N := 1) (by omega) w) rfl rfl) <|
    oc (k_ca 38 #[.agg (ai 22 (dg ((0 + (pp - (m - 1))) % pp))), .agg (ai 22 (dg 1))] (.agg (ai 22 (dg ((((0 + (pp - (m - 1))) % pp) + (pp - 1)) % pp)))) (fun w => minus_r (m := ((0 + (pp - (m - 1))) % pp)) (n := 1) (lt_big (by first | exact mod_pp _ | exact ofb_lt _ | assumption | exact pp_pos | exact one_lt | exact two_lt)) (Nat.le_of_lt (by first | exact mod_pp _ | exact ofb_lt _ | assumption | exact pp_pos | exact one_lt | exact two_lt)) w) rfl rfl) <|
    oc (k_st 0 0 (.agg (ai 22 (dg ((((0 + (pp - (m - 1))) % pp) + (pp - 1)) % pp)))) (c := ai 22 (fun _ => 0)) (n := ai 22 (dg ((((0 + (pp - (m - 1))) % pp) + (pp - 1)) % pp))) (st22 (F := (dg ((((0 + (pp - (m - 1))) % pp) + (pp - 1)) % pp))) (c := ai 22 (fun _ => 0)) 35 (ai_size _ _)) rfl rfl) <|
    ok_nil
  clear h; intro β a w h
  refine sym_then ?_
  refine wp_ret ?_
  refine then_ret ?_
  exact s_rc (b := 0) (t0 := 35) (c := ai 22 (dg ((((0 + (pp - (m - 1))) % pp) + (pp - 1)) % pp))) h Try.results34 Try.underlying35 (fun hb => ⟨rfl, hb⟩) (by rw [ai_size]; kernel_rfl)
end Go.Proofs.Ytpogmflgmpifoaa

namespace Go.Proofs.Ytpogmflgmpifoaa
open Go.RowKit
set_option maxHeartbeats 4000000 in
theorem power_r {m e : Nat} (hm : m < pp) (he : e < 2 ^ 255) (W0 : World) : Calls Try.prog 67 #[.agg (ai 22 (dg m)), .agg (ai 22 (dg e))] W0 fun e' w' => e' = .returned (.agg (ai 22 (dg (m ^ e % pp)))) ∧ Below W0.heap.size W0 w' := by
  rw [← pw_end]
  refine s_in Try.func67 Try.ntmps67 rfl [.inl (.agg (ai 22 (dg m))), .inl (.agg (ai 22 (dg e)))] ?_
  intro β a h
  refine sym_seq ?_
  refine St.rg h [(2, .inr (0, pt 0)), (3, .inr (1, pt 0)), (4, .inr (2, pt 0))] [(ai 22 (dg m), 35), (ai 22 (dg e), 35), (ai 22 (fun _ => 0), 35)] [] [eN 0, eN 1, eN 2] ?_ ?_
  · exact oc (k_bx 0 (.agg (ai 22 (dg m))) (bx22 (F := (dg m))) rfl rfl) <|
    oc (k_bx 1 (.agg (ai 22 (dg e))) (bx22 (F := (dg e))) rfl rfl) <|
    oc (k_al 2 al22 rfl rfl) <|
    ok_nil
  clear h; intro β a w h
  refine sym_then ?_
  refine sym_seq ?_
  refine St.rg h [(7, .inl (.agg (ai 22 (dg 1)))), (5, .inr (3, pt 0))] [(ai 22 (fun _ => 0), 35)] [(3, ai 22 (dg 1))] [nn, eN 3, eS 3] ?_ ?_
  · exact oc (k_ca 34 #[.int .i64 ((1 : Nat) : Int)] (.agg (ai 22 (dg 1))) (fun w => int_r (N := 1) (by decide) w) rfl rfl) <|
    oc (k_al 3 al22 rfl rfl) <|
    oc (k_st 3 0 (.agg (ai 22 (dg 1))) (c := ai 22 (fun _ => 0)) (n := ai 22 (dg 1)) (st22 (F := (dg 1)) (c := ai 22 (fun _ => 0)) 35 (ai_size _ _)) rfl rfl) <|
    ok_nil
  clear h; intro β a w h
  refine sym_then ?_
  refine sym_seq ?_
  refine sym_seq ?_
  refine St.r0 h [(6, .inl (.int .i64 ((254 : Nat) : Int)))] [] ?_ ?_
  · exact oz (k_mv (.inr rfl) rfl) <|
    ok_nil
  clear h; intro β a w h
  refine sym_then ?_
  refine blk_in ?_
  replace h := St.sm h 3 (ai 22 (dg (pw m e 0))) (c := ai 22 (dg 1)) (t := 35) (by rw [pw_zero he])
  replace h := St.ss h 6 (.int .i64 (dp 0)) (v := .int .i64 ((254 : Nat) : Int)) (by rfl)
  replace h := St.cs h (s' := [.inl (.agg (ai 22 (dg m))), .inl (.agg (ai 22 (dg e))), .inr (0, pt 0), .inr (1, pt 0), .inr (2, pt 0), .inr (3, pt 0), .inl (.int .i64 (dp 0)), .inl (.agg (ai 22 (dg 1))), uu, uu, uu, uu, uu, uu, uu, uu, uu, uu, uu, uu, uu, uu, uu, uu, uu, uu, uu, uu, uu]) (m' := [(ai 22 (dg m), 35), (ai 22 (dg e), 35), (ai 22 (fun _ => 0), 35), (ai 22 (dg (pw m e 0)), 35)]) (by kernel_rfl) (by kernel_rfl)
  refine loop_up 255 (fun k a w => ∃ (x8 x9 x10 x11 x12 x13 x14 x15 x16 x17 x18 x19 x20 x21 x22 x23 x24 x25 x26 x27 : SV) (β : Nat → Nat), St (wd W0) [.inl (.agg (ai 22 (dg m))), .inl (.agg (ai 22 (dg e))), .inr (0, pt 0), .inr (1, pt 0), .inr (2, pt 0), .inr (3, pt 0), .inl (.int .i64 (dp k)), .inl (.agg (ai 22 (dg 1))), x8, x9, x10, x11, x12, x13, x14, x15, x16, x17, x18, x19, x20, x21, x22, x23, x24, x25, x26, x27, uu] [(ai 22 (dg m), 35), (ai 22 (dg e), 35), (ai 22 (fun _ => 0), 35), (ai 22 (dg (pw m e k)), 35)] β a w) ⟨_, _, _, _, _, _, _, _, _, _, _, _, _, _, _, _, _, _, _, _, β, h⟩ ?_
  clear h; rintro k a w hkk ⟨x8, x9, x10, x11, x12, x13, x14, x15, x16, x17, x18, x19, x20, x21, x22, x23, x24, x25, x26, x27, β, h⟩; replace h := h.o0
  have g1 := bt_fig e (254 - k)
  have g2 := dg_lt e ((254 - k) / 12)
  rcases Nat.lt_or_ge k 255 with hltk | hgek
  · rcases (show bt e (254 - k) = 1 ∨ bt e (254 - k) = 0 by have := bt_lt e (254 - k); omega) with hb1 | hb0
    · replace h := St.ss h 6 (.int .i64 (((254 - k) : Nat) : Int)) (v := .int .i64 (dp k)) (congrArg (Value.int .i64) (dp_ix hltk))
      refine sym_seq ?_
      refine sym_seq ?_
      refine St.r0 h [(8, .inl (.int .i64 (((254 - k) : Nat) : Int))), (9, .inl (.bool true))] [] ?_ ?_
      · exact oz (k_mv (.inl rfl) rfl) <|
        oz (k_bi (.int .i64 (((254 - k) : Nat) : Int)) (.int .i64 ((0 : Nat) : Int)) (.bool true) (ge_i (m := (((254 - k) : Nat) : Int)) (n := ((0 : Nat) : Int)) (decide_eq_true (by omega))) rfl rfl) <|
        ok_nil
      clear h; intro β a w h
      refine sym_then ?_
      refine s_ct h ?_
      refine wp_skip ?_
      refine sym_then ?_
      refine sym_seq ?_
      refine blk_in ?_
      refine sym_seq ?_
      refine St.rg h [(12, .inl (.agg (ai 22 (dg (pw m e k))))), (13, .inl (.agg (ai 22 (dg (pw m e k))))), (14, .inl (.agg (ai 22 (dg ((pw m e k) * (pw m e k) % pp)))))] [] [(3, ai 22 (dg ((pw m e k) * (pw m e k) % pp)))] [eR 3, eR 3, nn, eS 3] ?_ ?_
      · exact oc (k_ld 3 0 (.agg (ai 22 (dg (pw m e k)))) (c := ai 22 (dg (pw m e k))) (ld22 (F := (dg (pw m e k))) 35) rfl rfl) <|
        oc (k_ld 3 0 (.agg (ai 22 (dg (pw m e k)))) (c := ai 22 (dg (pw m e k))) (ld22 (F := (dg (pw m e k))) 35) rfl rfl) <|
        oc (k_ca 35 #[.agg (ai 22 (dg (pw m e k))), .agg (ai 22 (dg (pw m e k)))] (.agg (ai 22 (dg ((pw m e k) * (pw m e k) % pp)))) (fun w => times_r (m := (pw m e k)) (n := (pw m e k)) (lt_big (by first | exact mod_pp _ | exact pw_lt _ _ _ | assumption)) (lt_big (by first | exact mod_pp _ | exact pw_lt _ _ _ | assumption)) w) rfl rfl) <|
        oc (k_st 3 0 (.agg (ai 22 (dg ((pw m e k) * (pw m e k) % pp)))) (c := ai 22 (dg (pw m e k))) (n := ai 22 (dg ((pw m e k) * (pw m e k) % pp))) (st22 (F := (dg ((pw m e k) * (pw m e k) % pp))) (c := ai 22 (dg (pw m e k))) 35 (ai_size _ _)) rfl rfl) <|
        ok_nil
      clear h; intro β a w h
      refine sym_then ?_
      refine sym_seq ?_
      refine St.r0 h [(15, .inl (.int .i64 (((254 - k) : Nat) : Int))), (16, .inl (.int .i64 ((((254 - k) / 12) : Nat) : Int))), (17, .inr (1, pt ((254 - k) / 12))), (18, .inl (.int .i64 ((((dg e) ((254 - k) / 12)) : Nat) : Int))), (19, .inl (.int .i64 (((254 - k) : Nat) : Int))), (20, .inl (.int .i64 ((((254 - k) % 12) : Nat) : Int))), (21, .inl (.int .u64 ((((254 - k) % 12) : Nat) : Int))), (22, .inl (.int .i64 (((((dg e) ((254 - k) / 12)) / 2 ^ ((254 - k) % 12)) : Nat) : Int))), (23, .inl (.int .i64 ((((((dg e) ((254 - k) / 12)) / 2 ^ ((254 - k) % 12)) % 2) : Nat) : Int))), (24, .inl (.bool true))] [nn, nn, nn, eR 1] ?_ ?_
      · exact oc (k_mv (.inl rfl) rfl) <|
        oc (k_bi (.int .i64 (((254 - k) : Nat) : Int)) (.int .i64 ((12 : Nat) : Int)) (.int .i64 ((((254 - k) / 12) : Nat) : Int)) (qu_i (m := (254 - k)) (n := 12) (by decide) (by omega)) rfl rfl) <|
        oc (k_ia 1 0 (((254 - k) / 12)) (.int .i64 ((((254 - k) / 12) : Nat) : Int)) (ix22 (i := ((254 - k) / 12)) (by omega)) rfl rfl) <|
        oc (k_ld 1 (((254 - k) / 12)) (.int .i64 ((((dg e) ((254 - k) / 12)) : Nat) : Int)) (c := ai 22 (dg e)) (ld_at (n := 22) (F := (dg e)) (i := ((254 - k) / 12)) (t0 := 35) (by omega)) rfl rfl) <|
        oz (k_mv (.inl rfl) rfl) <|
        oz (k_bi (.int .i64 (((254 - k) : Nat) : Int)) (.int .i64 ((12 : Nat) : Int)) (.int .i64 ((((254 - k) % 12) : Nat) : Int)) (re_i (m := (254 - k)) (n := 12) (by decide)) rfl rfl) <|
        oz (k_co (.int .i64 ((((254 - k) % 12) : Nat) : Int)) (.int .u64 ((((254 - k) % 12) : Nat) : Int)) (cv_iu (n := ((254 - k) % 12)) (by omega)) rfl rfl) <|
        oz (k_bi (.int .i64 ((((dg e) ((254 - k) / 12)) : Nat) : Int)) (.int .u64 ((((254 - k) % 12) : Nat) : Int)) (.int .i64 (((((dg e) ((254 - k) / 12)) / 2 ^ ((254 - k) % 12)) : Nat) : Int)) (sr_i (m := ((dg e) ((254 - k) / 12))) (r := ((254 - k) % 12)) (by omega)) rfl rfl) <|
        oz (k_bi (.int .i64 (((((dg e) ((254 - k) / 12)) / 2 ^ ((254 - k) % 12)) : Nat) : Int)) (.int .i64 ((2 : Nat) : Int)) (.int .i64 ((((((dg e) ((254 - k) / 12)) / 2 ^ ((254 - k) % 12)) % 2) : Nat) : Int)) (re_i (m := (((dg e) ((254 - k) / 12)) / 2 ^ ((254 - k) % 12))) (n := 2) (by decide)) rfl rfl) <|
        oz (k_bi (.int .i64 ((((((dg e) ((254 - k) / 12)) / 2 ^ ((254 - k) % 12)) % 2) : Nat) : Int)) (.int .i64 ((1 : Nat) : Int)) (.bool true) (eq_i (m := ((((((dg e) ((254 - k) / 12)) / 2 ^ ((254 - k) % 12)) % 2) : Nat) : Int)) (n := ((1 : Nat) : Int)) (decide_eq_true (by omega))) rfl rfl) <|
        ok_nil
      clear h; intro β a w h
      refine sym_then ?_
      refine s_ct h ?_
      refine St.rg h [(25, .inl (.agg (ai 22 (dg ((pw m e k) * (pw m e k) % pp))))), (26, .inl (.agg (ai 22 (dg m)))), (27, .inl (.agg (ai 22 (dg (((pw m e k) * (pw m e k) % pp) * m % pp)))))] [] [(3, ai 22 (dg (((pw m e k) * (pw m e k) % pp) * m % pp)))] [eR 3, eR 0, nn, eS 3] ?_ ?_
      · exact oc (k_ld 3 0 (.agg (ai 22 (dg ((pw m e k) * (pw m e k) % pp)))) (c := ai 22 (dg ((pw m e k) * (pw m e k) % pp))) (ld22 (F := (dg ((pw m e k) * (pw m e k) % pp))) 35) rfl rfl) <|
        oc (k_ld 0 0 (.agg (ai 22 (dg m))) (c := ai 22 (dg m)) (ld22 (F := (dg m)) 35) rfl rfl) <|
        oc (k_ca 35 #[.agg (ai 22 (dg ((pw m e k) * (pw m e k) % pp))), .agg (ai 22 (dg m))] (.agg (ai 22 (dg (((pw m e k) * (pw m e k) % pp) * m % pp)))) (fun w => times_r (m := ((pw m e k) * (pw m e k) % pp)) (n := m) (lt_big (by first | exact mod_pp _ | exact pw_lt _ _ _ | assumption)) (lt_big (by first | exact mod_pp _ | exact pw_lt _ _ _ | assumption)) w) rfl rfl) <|
        oc (k_st 3 0 (.agg (ai 22 (dg (((pw m e k) * (pw m e k) % pp) * m % pp)))) (c := ai 22 (dg ((pw m e k) * (pw m e k) % pp))) (n := ai 22 (dg (((pw m e k) * (pw m e k) % pp) * m % pp))) (st22 (F := (dg (((pw m e k) * (pw m e k) % pp) * m % pp))) (c := ai 22 (dg ((pw m e k) * (pw m e k) % pp))) 35 (ai_size _ _)) rfl rfl) <|
        ok_nil
      clear h; intro β a w h
      refine blk_norm ?_
      refine sym_then ?_
      refine St.r0 h [(10, .inl (.int .i64 (((254 - k) : Nat) : Int))), (11, .inl (.int .i64 (dp (k + 1)))), (6, .inl (.int .i64 (dp (k + 1))))] [eO] ?_ ?_
      · exact oc (k_m0 rfl rfl) <|
        oz (k_bi (.int .i64 (((254 - k) : Nat) : Int)) (.int .i64 ((1 : Nat) : Int)) (.int .i64 (dp (k + 1))) (sb_dp (k := k) (by omega)) rfl rfl) <|
        oz (k_mv (.inr rfl) rfl) <|
        ok_nil
      clear h; intro β a w h
      replace h := St.sm h 3 (ai 22 (dg (pw m e (k + 1)))) (c := ai 22 (dg (((pw m e k) * (pw m e k) % pp) * m % pp))) (t := 35) (by rw [pw_one hltk hb1])
      replace h := St.cs h (s' := [.inl (.agg (ai 22 (dg m))), .inl (.agg (ai 22 (dg e))), .inr (0, pt 0), .inr (1, pt 0), .inr (2, pt 0), .inr (3, pt 0), .inl (.int .i64 (dp (k + 1))), .inl (.agg (ai 22 (dg 1))), .inl (.int .i64 (((254 - k) : Nat) : Int)), .inl (.bool true), .inl (.int .i64 (((254 - k) : Nat) : Int)), .inl (.int .i64 (dp (k + 1))), .inl (.agg (ai 22 (dg (pw m e k)))), .inl (.agg (ai 22 (dg (pw m e k)))), .inl (.agg (ai 22 (dg ((pw m e k) * (pw m e k) % pp)))), .inl (.int .i64 (((254 - k) : Nat) : Int)), .inl (.int .i64 ((((254 - k) / 12) : Nat) : Int)), .inr (1, pt ((254 - k) / 12)), .inl (.int .i64 ((((dg e) ((254 - k) / 12)) : Nat) : Int)), .inl (.int .i64 (((254 - k) : Nat) : Int)), .inl (.int .i64 ((((254 - k) % 12) : Nat) : Int)), .inl (.int .u64 ((((254 - k) % 12) : Nat) : Int)), .inl (.int .i64 (((((dg e) ((254 - k) / 12)) / 2 ^ ((254 - k) % 12)) : Nat) : Int)), .inl (.int .i64 ((((((dg e) ((254 - k) / 12)) / 2 ^ ((254 - k) % 12)) % 2) : Nat) : Int)), .inl (.bool true), .inl (.agg (ai 22 (dg ((pw m e k) * (pw m e k) % pp)))), .inl (.agg (ai 22 (dg m))), .inl (.agg (ai 22 (dg (((pw m e k) * (pw m e k) % pp) * m % pp)))), uu]) (m' := [(ai 22 (dg m), 35), (ai 22 (dg e), 35), (ai 22 (fun _ => 0), 35), (ai 22 (dg (pw m e (k + 1))), 35)]) (by kernel_rfl) (by kernel_rfl)
      exact ⟨hltk, _, _, _, _, _, _, _, _, _, _, _, _, _, _, _, _, _, _, _, _, _, h⟩
    · replace h := St.ss h 6 (.int .i64 (((254 - k) : Nat) : Int)) (v := .int .i64 (dp k)) (congrArg (Value.int .i64) (dp_ix hltk))
      refine sym_seq ?_
      refine sym_seq ?_
      refine St.r0 h [(8, .inl (.int .i64 (((254 - k) : Nat) : Int))), (9, .inl (.bool true))] [] ?_ ?_
      · exact oz (k_mv (.inl rfl) rfl) <|
        oz (k_bi (.int .i64 (((254 - k) : Nat) : Int)) (.int .i64 ((0 : Nat) : Int)) (.bool true) (ge_i (m := (((254 - k) : Nat) : Int)) (n := ((0 : Nat) : Int)) (decide_eq_true (by omega))) rfl rfl) <|
        ok_nil
      clear h; intro β a w h
      refine sym_then ?_
      refine s_ct h ?_
      refine wp_skip ?_
      refine sym_then ?_
      refine sym_seq ?_
      refine blk_in ?_
      refine sym_seq ?_
      refine St.rg h [(12, .inl (.agg (ai 22 (dg (pw m e k))))), (13, .inl (.agg (ai 22 (dg (pw m e k))))), (14, .inl (.agg (ai 22 (dg ((pw m e k) * (pw m e k) % pp)))))] [] [(3, ai 22 (dg ((pw m e k) * (pw m e k) % pp)))] [eR 3, eR 3, nn, eS 3] ?_ ?_
      · exact oc (k_ld 3 0 (.agg (ai 22 (dg (pw m e k)))) (c := ai 22 (dg (pw m e k))) (ld22 (F := (dg (pw m e k))) 35) rfl rfl) <|
        oc (k_ld 3 0 (.agg (ai 22 (dg (pw m e k)))) (c := ai 22 (dg (pw m e k))) (ld22 (F := (dg (pw m e k))) 35) rfl rfl) <|
        oc (k_ca 35 #[.agg (ai 22 (dg (pw m e k))), .agg (ai 22 (dg (pw m e k)))] (.agg (ai 22 (dg ((pw m e k) * (pw m e k) % pp)))) (fun w => times_r (m := (pw m e k)) (n := (pw m e k)) (lt_big (by first | exact mod_pp _ | exact pw_lt _ _ _ | assumption)) (lt_big (by first | exact mod_pp _ | exact pw_lt _ _ _ | assumption)) w) rfl rfl) <|
        oc (k_st 3 0 (.agg (ai 22 (dg ((pw m e k) * (pw m e k) % pp)))) (c := ai 22 (dg (pw m e k))) (n := ai 22 (dg ((pw m e k) * (pw m e k) % pp))) (st22 (F := (dg ((pw m e k) * (pw m e k) % pp))) (c := ai 22 (dg (pw m e k))) 35 (ai_size _ _)) rfl rfl) <|
        ok_nil
      clear h; intro β a w h
      refine sym_then ?_
      refine sym_seq ?_
      refine St.r0 h [(15, .inl (.int .i64 (((254 - k) : Nat) : Int))), (16, .inl (.int .i64 ((((254 - k) / 12) : Nat) : Int))), (17, .inr (1, pt ((254 - k) / 12))), (18, .inl (.int .i64 ((((dg e) ((254 - k) / 12)) : Nat) : Int))), (19, .inl (.int .i64 (((254 - k) : Nat) : Int))), (20, .inl (.int .i64 ((((254 - k) % 12) : Nat) : Int))), (21, .inl (.int .u64 ((((254 - k) % 12) : Nat) : Int))), (22, .inl (.int .i64 (((((dg e) ((254 - k) / 12)) / 2 ^ ((254 - k) % 12)) : Nat) : Int))), (23, .inl (.int .i64 ((((((dg e) ((254 - k) / 12)) / 2 ^ ((254 - k) % 12)) % 2) : Nat) : Int))), (24, .inl (.bool false))] [nn, nn, nn, eR 1] ?_ ?_
      · exact oc (k_mv (.inl rfl) rfl) <|
        oc (k_bi (.int .i64 (((254 - k) : Nat) : Int)) (.int .i64 ((12 : Nat) : Int)) (.int .i64 ((((254 - k) / 12) : Nat) : Int)) (qu_i (m := (254 - k)) (n := 12) (by decide) (by omega)) rfl rfl) <|
        oc (k_ia 1 0 (((254 - k) / 12)) (.int .i64 ((((254 - k) / 12) : Nat) : Int)) (ix22 (i := ((254 - k) / 12)) (by omega)) rfl rfl) <|
        oc (k_ld 1 (((254 - k) / 12)) (.int .i64 ((((dg e) ((254 - k) / 12)) : Nat) : Int)) (c := ai 22 (dg e)) (ld_at (n := 22) (F := (dg e)) (i := ((254 - k) / 12)) (t0 := 35) (by omega)) rfl rfl) <|
        oz (k_mv (.inl rfl) rfl) <|
        oz (k_bi (.int .i64 (((254 - k) : Nat) : Int)) (.int .i64 ((12 : Nat) : Int)) (.int .i64 ((((254 - k) % 12) : Nat) : Int)) (re_i (m := (254 - k)) (n := 12) (by decide)) rfl rfl) <|
        oz (k_co (.int .i64 ((((254 - k) % 12) : Nat) : Int)) (.int .u64 ((((254 - k) % 12) : Nat) : Int)) (cv_iu (n := ((254 - k) % 12)) (by omega)) rfl rfl) <|
        oz (k_bi (.int .i64 ((((dg e) ((254 - k) / 12)) : Nat) : Int)) (.int .u64 ((((254 - k) % 12) : Nat) : Int)) (.int .i64 (((((dg e) ((254 - k) / 12)) / 2 ^ ((254 - k) % 12)) : Nat) : Int)) (sr_i (m := ((dg e) ((254 - k) / 12))) (r := ((254 - k) % 12)) (by omega)) rfl rfl) <|
        oz (k_bi (.int .i64 (((((dg e) ((254 - k) / 12)) / 2 ^ ((254 - k) % 12)) : Nat) : Int)) (.int .i64 ((2 : Nat) : Int)) (.int .i64 ((((((dg e) ((254 - k) / 12)) / 2 ^ ((254 - k) % 12)) % 2) : Nat) : Int)) (re_i (m := (((dg e) ((254 - k) / 12)) / 2 ^ ((254 - k) % 12))) (n := 2) (by decide)) rfl rfl) <|
        oz (k_bi (.int .i64 ((((((dg e) ((254 - k) / 12)) / 2 ^ ((254 - k) % 12)) % 2) : Nat) : Int)) (.int .i64 ((1 : Nat) : Int)) (.bool false) (eq_i (m := ((((((dg e) ((254 - k) / 12)) / 2 ^ ((254 - k) % 12)) % 2) : Nat) : Int)) (n := ((1 : Nat) : Int)) (decide_eq_false (by omega))) rfl rfl) <|
        ok_nil
      clear h; intro β a w h
      refine sym_then ?_
      refine s_cf h ?_
      refine wp_skip ?_
      refine blk_norm ?_
      refine sym_then ?_
      refine St.r0 h [(10, .inl (.int .i64 (((254 - k) : Nat) : Int))), (11, .inl (.int .i64 (dp (k + 1)))), (6, .inl (.int .i64 (dp (k + 1))))] [eO] ?_ ?_
      · exact oc (k_m0 rfl rfl) <|
        oz (k_bi (.int .i64 (((254 - k) : Nat) : Int)) (.int .i64 ((1 : Nat) : Int)) (.int .i64 (dp (k + 1))) (sb_dp (k := k) (by omega)) rfl rfl) <|
        oz (k_mv (.inr rfl) rfl) <|
        ok_nil
      clear h; intro β a w h
      replace h := St.sm h 3 (ai 22 (dg (pw m e (k + 1)))) (c := ai 22 (dg ((pw m e k) * (pw m e k) % pp))) (t := 35) (by rw [pw_none hltk hb0])
      replace h := St.cs h (s' := [.inl (.agg (ai 22 (dg m))), .inl (.agg (ai 22 (dg e))), .inr (0, pt 0), .inr (1, pt 0), .inr (2, pt 0), .inr (3, pt 0), .inl (.int .i64 (dp (k + 1))), .inl (.agg (ai 22 (dg 1))), .inl (.int .i64 (((254 - k) : Nat) : Int)), .inl (.bool true), .inl (.int .i64 (((254 - k) : Nat) : Int)), .inl (.int .i64 (dp (k + 1))), .inl (.agg (ai 22 (dg (pw m e k)))), .inl (.agg (ai 22 (dg (pw m e k)))), .inl (.agg (ai 22 (dg ((pw m e k) * (pw m e k) % pp)))), .inl (.int .i64 (((254 - k) : Nat) : Int)), .inl (.int .i64 ((((254 - k) / 12) : Nat) : Int)), .inr (1, pt ((254 - k) / 12)), .inl (.int .i64 ((((dg e) ((254 - k) / 12)) : Nat) : Int)), .inl (.int .i64 (((254 - k) : Nat) : Int)), .inl (.int .i64 ((((254 - k) % 12) : Nat) : Int)), .inl (.int .u64 ((((254 - k) % 12) : Nat) : Int)), .inl (.int .i64 (((((dg e) ((254 - k) / 12)) / 2 ^ ((254 - k) % 12)) : Nat) : Int)), .inl (.int .i64 ((((((dg e) ((254 - k) / 12)) / 2 ^ ((254 - k) % 12)) % 2) : Nat) : Int)), .inl (.bool false), x25, x26, x27, uu]) (m' := [(ai 22 (dg m), 35), (ai 22 (dg e), 35), (ai 22 (fun _ => 0), 35), (ai 22 (dg (pw m e (k + 1))), 35)]) (by kernel_rfl) (by kernel_rfl)
      exact ⟨hltk, _, _, _, _, _, _, _, _, _, _, _, _, _, _, _, _, _, _, _, _, _, h⟩
  · obtain rfl : k = 255 := by omega
    refine sym_seq ?_
    refine sym_seq ?_
    refine St.r0 h [(8, .inl (.int .i64 (dp 255))), (9, .inl (.bool false))] [] ?_ ?_
    · exact oz (k_mv (.inl rfl) rfl) <|
      oz (k_bi (.int .i64 (dp 255)) (.int .i64 ((0 : Nat) : Int)) (.bool false) (ge_i (m := dp 255) (n := ((0 : Nat) : Int)) (decide_eq_false (by unfold dp; omega))) rfl rfl) <|
      ok_nil
    clear h; intro β a w h
    refine sym_then ?_
    refine s_cf h ?_
    refine wp_exit ?_
    refine then_exit ?_
    refine then_exit ?_
    refine blk_exit ?_
    refine sym_then ?_
    refine sym_seq ?_
    refine St.rg h [(28, .inl (.agg (ai 22 (dg (pw m e 255)))))] [] [(2, ai 22 (dg (pw m e 255)))] [eR 3, eS 2] ?_ ?_
    · exact oc (k_ld 3 0 (.agg (ai 22 (dg (pw m e 255)))) (c := ai 22 (dg (pw m e 255))) (ld22 (F := (dg (pw m e 255))) 35) rfl rfl) <|
      oc (k_st 2 0 (.agg (ai 22 (dg (pw m e 255)))) (c := ai 22 (fun _ => 0)) (n := ai 22 (dg (pw m e 255))) (st22 (F := (dg (pw m e 255))) (c := ai 22 (fun _ => 0)) 35 (ai_size _ _)) rfl rfl) <|
      ok_nil
    clear h; intro β a w h
    refine sym_then ?_
    refine wp_ret ?_
    exact s_rc (b := 2) (t0 := 35) (c := ai 22 (dg (pw m e 255))) h Try.results67 Try.underlying35 (fun hb => ⟨rfl, hb⟩) (by rw [ai_size]; kernel_rfl)
set_option maxHeartbeats 4000000 in
theorem over_q {m n k r : Nat} (hm : m < pp) (hr : r < pp) (c1 : ∀ w, Calls Try.prog 69 #[.agg (ai 22 (dg pp)), .agg (ai 22 (dg 2))] w fun e w' => e = .returned (.agg (ai 22 (dg k))) ∧ Below w.heap.size w w') (c2 : ∀ w, Calls Try.prog 67 #[.agg (ai 22 (dg n)), .agg (ai 22 (dg k))] w fun e w' => e = .returned (.agg (ai 22 (dg r))) ∧ Below w.heap.size w w') (W0 : World) :
    Calls Try.prog 37 #[.agg (ai 22 (dg m)), .agg (ai 22 (dg n))] W0 fun e w' => e = .returned (.agg (ai 22 (dg (m * r % pp)))) ∧ Below W0.heap.size W0 w' := by
  refine s_in Try.func37 Try.ntmps37 rfl [.inl (.agg (ai 22 (dg m))), .inl (.agg (ai 22 (dg n)))] ?_
  intro β a h
  refine sym_seq ?_
  refine St.rg h [(2, .inr (0, pt 0)), (3, .inr (1, pt 0)), (4, .inr (2, pt 0))] [(ai 22 (dg m), 35), (ai 22 (dg n), 35), (ai 22 (fun _ => 0), 35)] [] [eN 0, eN 1, eN 2] ?_ ?_
  · exact oc (k_bx 0 (.agg (ai 22 (dg m))) (bx22 (F := (dg m))) rfl rfl) <|
    oc (k_bx 1 (.agg (ai 22 (dg n))) (bx22 (F := (dg n))) rfl rfl) <|
    oc (k_al 2 al22 rfl rfl) <|
    ok_nil
  clear h; intro β a w h
  refine sym_then ?_
  refine sym_seq ?_
  refine St.rg h [(5, .inl (.agg (ai 22 (dg m)))), (6, .inl (.agg (ai 22 (dg n)))), (7, .inl (.agg (ai 22 (dg pp)))), (8, .inl (.agg (ai 22 (dg 2)))), (9, .inl (.agg (ai 22 (dg k)))), (10, .inl (.agg (ai 22 (dg r)))), (11, .inl (.agg (ai 22 (dg (m * r % pp)))))] [] [(2, ai 22 (dg (m * r % pp)))] [eR 0, eR 1, nn, nn, nn, nn, nn, eS 2] ?_ ?_
  · exact oc (k_ld 0 0 (.agg (ai 22 (dg m))) (c := ai 22 (dg m)) (ld22 (F := (dg m)) 35) rfl rfl) <|
    oc (k_ld 1 0 (.agg (ai 22 (dg n))) (c := ai 22 (dg n)) (ld22 (F := (dg n)) 35) rfl rfl) <|
    oc (k_ca 66 #[] (.agg (ai 22 (dg pp))) prime_r rfl rfl) <|
    oc (k_ca 34 #[.int .i64 ((2 : Nat) : Int)] (.agg (ai 22 (dg 2))) (fun w => int_r (N := 2) (by decide) w) rfl rfl) <|
    oc (k_ca 69 #[.agg (ai 22 (dg pp)), .agg (ai 22 (dg 2))] (.agg (ai 22 (dg k))) c1 rfl rfl) <|
    oc (k_ca 67 #[.agg (ai 22 (dg n)), .agg (ai 22 (dg k))] (.agg (ai 22 (dg r))) c2 rfl rfl) <|
    oc (k_ca 35 #[.agg (ai 22 (dg m)), .agg (ai 22 (dg r))] (.agg (ai 22 (dg (m * r % pp)))) (fun w => times_r (lt_big hm) (lt_big hr) w) rfl rfl) <|
    oc (k_st 2 0 (.agg (ai 22 (dg (m * r % pp)))) (c := ai 22 (fun _ => 0)) (n := ai 22 (dg (m * r % pp))) (st22 (F := (dg (m * r % pp))) (c := ai 22 (fun _ => 0)) 35 (ai_size _ _)) rfl rfl) <|
    ok_nil
  clear h; intro β a w h
  refine sym_then ?_
  refine wp_ret ?_
  exact s_rc (b := 2) (t0 := 35) (c := ai 22 (dg (m * r % pp))) h Try.results37 Try.underlying35 (fun hb => ⟨rfl, hb⟩) (by rw [ai_size]; kernel_rfl)
theorem over_r {m n k : Nat} (hm : m < pp) (hn : n < pp) (hk : k = 57896044618658097711785492504343953926634992332820282019728792003956564819947) (W0 : World) :
    Calls Try.prog 37 #[.agg (ai 22 (dg m)), .agg (ai 22 (dg n))] W0 fun e w' => e = .returned (.agg (ai 22 (dg (m * (n ^ k % pp) % pp)))) ∧ Below W0.heap.size W0 w' := by
  have e : pp - 2 = k := by rw [hk]; decide +kernel
  have h255 : k < 2 ^ 255 := by rw [hk]; decide +kernel
  exact over_q hm (mod_pp _) (fun w => by have := less_r (m := pp) (n := 2) (Nat.le_of_lt two_lt) w; rwa [e] at this) (power_r hn h255) W0
end Go.Proofs.Ytpogmflgmpifoaa

namespace Go.Proofs.Ytpogmflgmpifoaa
open Go.RowKit
theorem dg_par (n : Nat) : dg n 0 % 2 = n % 2 := by unfold dg; rw [Nat.pow_zero, Nat.div_one]; omega

set_option maxHeartbeats 4000000 in
theorem rr_1e {m R e0 e1 e2 k : Nat} (hR : R < pp) (hE : ai 22 (updN (dg pp) 0 (dg pp 0 + 3)) = ai 22 (dg e0))
    (k1 : (∀ w, Calls Try.prog 68 #[.agg (ai 22 (dg e0))] w fun e w' => e = .returned (.agg (ai 22 (dg e1))) ∧ Below w.heap.size w w')) (k2 : (∀ w, Calls Try.prog 68 #[.agg (ai 22 (dg e1))] w fun e w' => e = .returned (.agg (ai 22 (dg e2))) ∧ Below w.heap.size w w')) (k3 : (∀ w, Calls Try.prog 68 #[.agg (ai 22 (dg e2))] w fun e w' => e = .returned (.agg (ai 22 (dg k))) ∧ Below w.heap.size w w')) (cP : (∀ w, Calls Try.prog 67 #[.agg (ai 22 (dg m)), .agg (ai 22 (dg k))] w fun e w' => e = .returned (.agg (ai 22 (dg R))) ∧ Below w.heap.size w w')) (h1 : R * R % pp = m) (hp : R % 2 = 0) (W0 : World) : Calls Try.prog 36 #[.agg (ai 22 (dg m))] W0 fun e w' => e = .returned (.tuple #[.agg (ai 22 (dg R)), .bool true]) ∧ Below W0.heap.size W0 w' := by
  have g1 := dg_lt pp 0
  have g2 := dg_par R
  refine s_in Try.func36 Try.ntmps36 rfl [.inl (.agg (ai 22 (dg m)))] ?_
  intro β a h
  refine sym_seq ?_
  refine St.rg h [(1, .inr (0, pt 0)), (2, .inr (1, pt 0)), (3, .inl (.bool false))] [(ai 22 (dg m), 35), (ai 22 (fun _ => 0), 35)] [] [eN 0, eN 1] ?_ ?_
  · exact oc (k_bx 0 (.agg (ai 22 (dg m))) (bx22 (F := (dg m))) rfl rfl) <|
    oc (k_al 1 al22 rfl rfl) <|
    oz (k_mv (.inr rfl) rfl) <|
    ok_nil
  clear h; intro β a w h
  refine sym_then ?_
  refine sym_seq ?_
  refine St.rg h [(6, .inl (.agg (ai 22 (dg pp)))), (4, .inr (2, pt 0))] [(ai 22 (fun _ => 0), 35)] [(2, ai 22 (dg pp))] [nn, eN 2, eS 2] ?_ ?_
  · exact oc (k_ca 66 #[] (.agg (ai 22 (dg pp))) prime_r rfl rfl) <|
    oc (k_al 2 al22 rfl rfl) <|
    oc (k_st 2 0 (.agg (ai 22 (dg pp))) (c := ai 22 (fun _ => 0)) (n := ai 22 (dg pp)) (st22 (F := (dg pp)) (c := ai 22 (fun _ => 0)) 35 (ai_size _ _)) rfl rfl) <|
    ok_nil
  clear h; intro β a w h
  refine sym_then ?_
  refine sym_seq ?_
  refine St.rg h [(7, .inr (2, pt 0)), (8, .inl (.int .i64 ((((dg pp) 0) : Nat) : Int))), (9, .inl (.int .i64 (((((dg pp) 0) + 3) : Nat) : Int))), (10, .inr (2, pt 0))] [] [(2, ai 22 (updN (dg pp) 0 (((dg pp) 0) + 3)))] [nn, eR 2, nn, nn, eS 2] ?_ ?_
  · exact oc (k_ia 2 0 0 (.int .i64 ((0 : Nat) : Int)) (ix22 (i := 0) (by omega)) rfl rfl) <|
    oc (k_ld 2 0 (.int .i64 ((((dg pp) 0) : Nat) : Int)) (c := ai 22 (dg pp)) (ld_at (n := 22) (F := (dg pp)) (i := 0) (t0 := 35) (by omega)) rfl rfl) <|
    oc (k_bi (.int .i64 ((((dg pp) 0) : Nat) : Int)) (.int .i64 ((3 : Nat) : Int)) (.int .i64 (((((dg pp) 0) + 3) : Nat) : Int)) (ad_i (m := ((dg pp) 0)) (n := 3) (by omega)) rfl rfl) <|
    oc (k_ia 2 0 0 (.int .i64 ((0 : Nat) : Int)) (ix22 (i := 0) (by omega)) rfl rfl) <|
    oc (k_st 2 0 (.int .i64 (((((dg pp) 0) + 3) : Nat) : Int)) (c := ai 22 (dg pp)) (n := ai 22 (updN (dg pp) 0 (((dg pp) 0) + 3))) (st_at (n := 22) (F := (dg pp)) (i := 0) (v := (((dg pp) 0) + 3)) (t0 := 35) (by omega)) rfl rfl) <|
    ok_nil
  clear h; intro β a w h
  replace h := St.sm h 2 (ai 22 (dg e0)) (c := ai 22 (updN (dg pp) 0 (((dg pp) 0) + 3))) (t := 35) hE
  refine sym_then ?_
  refine sym_seq ?_
  refine St.rg h [(11, .inl (.agg (ai 22 (dg m)))), (12, .inl (.agg (ai 22 (dg e0)))), (13, .inl (.agg (ai 22 (dg e1)))), (14, .inl (.agg (ai 22 (dg e2)))), (15, .inl (.agg (ai 22 (dg k)))), (16, .inl (.agg (ai 22 (dg R)))), (5, .inr (3, pt 0))] [(ai 22 (fun _ => 0), 35)] [(3, ai 22 (dg R))] [eR 0, eR 2, nn, nn, nn, nn, eN 3, eS 3] ?_ ?_
  · exact oc (k_ld 0 0 (.agg (ai 22 (dg m))) (c := ai 22 (dg m)) (ld22 (F := (dg m)) 35) rfl rfl) <|
    oc (k_ld 2 0 (.agg (ai 22 (dg e0))) (c := ai 22 (dg e0)) (ld22 (F := (dg e0)) 35) rfl rfl) <|
    oc (k_ca 68 #[.agg (ai 22 (dg e0))] (.agg (ai 22 (dg e1))) k1 rfl rfl) <|
    oc (k_ca 68 #[.agg (ai 22 (dg e1))] (.agg (ai 22 (dg e2))) k2 rfl rfl) <|
    oc (k_ca 68 #[.agg (ai 22 (dg e2))] (.agg (ai 22 (dg k))) k3 rfl rfl) <|
    oc (k_ca 67 #[.agg (ai 22 (dg m)), .agg (ai 22 (dg k))] (.agg (ai 22 (dg R))) cP rfl rfl) <|
    oc (k_al 3 al22 rfl rfl) <|
    oc (k_st 3 0 (.agg (ai 22 (dg R))) (c := ai 22 (fun _ => 0)) (n := ai 22 (dg R)) (st22 (F := (dg R)) (c := ai 22 (fun _ => 0)) 35 (ai_size _ _)) rfl rfl) <|
    ok_nil
  clear h; intro β a w h
  refine sym_then ?_
  refine sym_seq ?_
  refine sym_seq ?_
  refine St.r0 h [(17, .inl (.agg (ai 22 (dg R)))), (18, .inl (.agg (ai 22 (dg R)))), (19, .inl (.agg (ai 22 (dg (R * R % pp))))), (20, .inl (.agg (ai 22 (dg m)))), (21, .inl (.bool false))] [eR 3, eR 3, nn, eR 0] ?_ ?_
  · exact oc (k_ld 3 0 (.agg (ai 22 (dg R))) (c := ai 22 (dg R)) (ld22 (F := (dg R)) 35) rfl rfl) <|
    oc (k_ld 3 0 (.agg (ai 22 (dg R))) (c := ai 22 (dg R)) (ld22 (F := (dg R)) 35) rfl rfl) <|
    oc (k_ca 35 #[.agg (ai 22 (dg R)), .agg (ai 22 (dg R))] (.agg (ai 22 (dg (R * R % pp)))) (fun w => times_r (m := R) (n := R) (lt_big (by first | exact mod_pp _ | assumption)) (lt_big (by first | exact mod_pp _ | assumption)) w) rfl rfl) <|
    oc (k_ld 0 0 (.agg (ai 22 (dg m))) (c := ai 22 (dg m)) (ld22 (F := (dg m)) 35) rfl rfl) <|
    oz (k_bi (.agg (ai 22 (dg (R * R % pp)))) (.agg (ai 22 (dg m))) (.bool false) (fun w => by rw [h1]; exact ne22_f m w) rfl rfl) <|
    ok_nil
  clear h; intro β a w h
  refine sym_then ?_
  refine s_cf h ?_
  refine wp_skip ?_
  refine sym_then ?_
  refine sym_seq ?_
  refine sym_seq ?_
  refine St.r0 h [(31, .inl (.agg (ai 22 (dg R)))), (32, .inl (.agg (ai 22 (dg R)))), (33, .inl (.agg (ai 22 (dg (R * R % pp))))), (34, .inl (.agg (ai 22 (dg m)))), (35, .inl (.bool false))] [eR 3, eR 3, nn, eR 0] ?_ ?_
  · exact oc (k_ld 3 0 (.agg (ai 22 (dg R))) (c := ai 22 (dg R)) (ld22 (F := (dg R)) 35) rfl rfl) <|
    oc (k_ld 3 0 (.agg (ai 22 (dg R))) (c := ai 22 (dg R)) (ld22 (F := (dg R)) 35) rfl rfl) <|
    oc (k_ca 35 #[.agg (ai 22 (dg R)), .agg (ai 22 (dg R))] (.agg (ai 22 (dg (R * R % pp)))) (fun w => times_r (m := R) (n := R) (lt_big (by first | exact mod_pp _ | assumption)) (lt_big (by first | exact mod_pp _ | assumption)) w) rfl rfl) <|
    oc (k_ld 0 0 (.agg (ai 22 (dg m))) (c := ai 22 (dg m)) (ld22 (F := (dg m)) 35) rfl rfl) <|
    oz (k_bi (.agg (ai 22 (dg (R * R % pp)))) (.agg (ai 22 (dg m))) (.bool false) (fun w => by rw [h1]; exact ne22_f m w) rfl rfl) <|
    ok_nil
  clear h; intro β a w h
  refine sym_then ?_
  refine s_cf h ?_
  refine wp_skip ?_
  refine sym_then ?_
  refine sym_seq ?_
  refine sym_seq ?_
  refine St.r0 h [(37, .inr (3, pt 0)), (38, .inl (.int .i64 ((((dg R) 0) : Nat) : Int))), (39, .inl (.int .i64 (((((dg R) 0) % 2) : Nat) : Int))), (40, .inl (.bool false))] [nn, eR 3] ?_ ?_
  · exact oc (k_ia 3 0 0 (.int .i64 ((0 : Nat) : Int)) (ix22 (i := 0) (by omega)) rfl rfl) <|
    oc (k_ld 3 0 (.int .i64 ((((dg R) 0) : Nat) : Int)) (c := ai 22 (dg R)) (ld_at (n := 22) (F := (dg R)) (i := 0) (t0 := 35) (by omega)) rfl rfl) <|
    oz (k_bi (.int .i64 ((((dg R) 0) : Nat) : Int)) (.int .i64 ((2 : Nat) : Int)) (.int .i64 (((((dg R) 0) % 2) : Nat) : Int)) (re_i (m := ((dg R) 0)) (n := 2) (by decide)) rfl rfl) <|
    oz (k_bi (.int .i64 (((((dg R) 0) % 2) : Nat) : Int)) (.int .i64 ((1 : Nat) : Int)) (.bool false) (eq_i (m := (((((dg R) 0) % 2) : Nat) : Int)) (n := ((1 : Nat) : Int)) (decide_eq_false (by omega))) rfl rfl) <|
    ok_nil
  clear h; intro β a w h
  refine sym_then ?_
  refine s_cf h ?_
  refine wp_skip ?_
  refine sym_then ?_
  refine sym_seq ?_
  refine St.rg h [(44, .inl (.agg (ai 22 (dg R)))), (3, .inl (.bool true))] [] [(1, ai 22 (dg R))] [eR 3, eS 1] ?_ ?_
  · exact oc (k_ld 3 0 (.agg (ai 22 (dg R))) (c := ai 22 (dg R)) (ld22 (F := (dg R)) 35) rfl rfl) <|
    oc (k_st 1 0 (.agg (ai 22 (dg R))) (c := ai 22 (fun _ => 0)) (n := ai 22 (dg R)) (st22 (F := (dg R)) (c := ai 22 (fun _ => 0)) 35 (ai_size _ _)) rfl rfl) <|
    oz (k_mv (.inr rfl) rfl) <|
    ok_nil
  clear h; intro β a w h
  refine sym_then ?_
  refine wp_ret ?_
  exact s_r2 (b := 1) (t0 := 35) (c := ai 22 (dg R)) h Try.results36 Try.underlying35 (fun hb => ⟨rfl, hb⟩) (by rw [ai_size]; kernel_rfl)

set_option maxHeartbeats 4000000 in
theorem rr_1o {m R e0 e1 e2 k : Nat} (hR : R < pp) (hE : ai 22 (updN (dg pp) 0 (dg pp 0 + 3)) = ai 22 (dg e0))
    (k1 : (∀ w, Calls Try.prog 68 #[.agg (ai 22 (dg e0))] w fun e w' => e = .returned (.agg (ai 22 (dg e1))) ∧ Below w.heap.size w w')) (k2 : (∀ w, Calls Try.prog 68 #[.agg (ai 22 (dg e1))] w fun e w' => e = .returned (.agg (ai 22 (dg e2))) ∧ Below w.heap.size w w')) (k3 : (∀ w, Calls Try.prog 68 #[.agg (ai 22 (dg e2))] w fun e w' => e = .returned (.agg (ai 22 (dg k))) ∧ Below w.heap.size w w')) (cP : (∀ w, Calls Try.prog 67 #[.agg (ai 22 (dg m)), .agg (ai 22 (dg k))] w fun e w' => e = .returned (.agg (ai 22 (dg R))) ∧ Below w.heap.size w w')) (h1 : R * R % pp = m) (hp : R % 2 = 1) (W0 : World) : Calls Try.prog 36 #[.agg (ai 22 (dg m))] W0 fun e w' => e = .returned (.tuple #[.agg (ai 22 (dg (pp - R))), .bool true]) ∧ Below W0.heap.size W0 w' := by
  have g1 := dg_lt pp 0
  have g2 := dg_par R
  refine s_in Try.func36 Try.ntmps36 rfl [.inl (.agg (ai 22 (dg m)))] ?_
  intro β a h
  refine sym_seq ?_
  refine St.rg h [(1, .inr (0, pt 0)), (2, .inr (1, pt 0)), (3, .inl (.bool false))] [(ai 22 (dg m), 35), (ai 22 (fun _ => 0), 35)] [] [eN 0, eN 1] ?_ ?_
  · exact oc (k_bx 0 (.agg (ai 22 (dg m))) (bx22 (F := (dg m))) rfl rfl) <|
    oc (k_al 1 al22 rfl rfl) <|
    oz (k_mv (.inr rfl) rfl) <|
    ok_nil
  clear h; intro β a w h
  refine sym_then ?_
  refine sym_seq ?_
  refine St.rg h [(6, .inl (.agg (ai 22 (dg pp)))), (4, .inr (2, pt 0))] [(ai 22 (fun _ => 0), 35)] [(2, ai 22 (dg pp))] [nn, eN 2, eS 2] ?_ ?_
  · exact oc (k_ca 66 #[] (.agg (ai 22 (dg pp))) prime_r rfl rfl) <|
    oc (k_al 2 al22 rfl rfl) <|
    oc (k_st 2 0 (.agg (ai 22 (dg pp))) (c := ai 22 (fun _ => 0)) (n := ai 22 (dg pp)) (st22 (F := (dg pp)) (c := ai 22 (fun _ => 0)) 35 (ai_size _ _)) rfl rfl) <|
    ok_nil
  clear h; intro β a w h
  refine sym_then ?_
  refine sym_seq ?_
  refine St.rg h [(7, .inr (2, pt 0)), (8, .inl (.int .i64 ((((dg pp) 0) : Nat) : Int))), (9, .inl (.int .i64 (((((dg pp) 0) + 3) : Nat) : Int))), (10, .inr (2, pt 0))] [] [(2, ai 22 (updN (dg pp) 0 (((dg pp) 0) + 3)))] [nn, eR 2, nn, nn, eS 2] ?_ ?_
  · exact oc (k_ia 2 0 0 (.int .i64 ((0 : Nat) : Int)) (ix22 (i := 0) (by omega)) rfl rfl) <|
    oc (k_ld 2 0 (.int .i64 ((((dg pp) 0) : Nat) : Int)) (c := ai 22 (dg pp)) (ld_at (n := 22) (F := (dg pp)) (i := 0) (t0 := 35) (by omega)) rfl rfl) <|
    oc (k_bi (.int .i64 ((((dg pp) 0) : Nat) : Int)) (.int .i64 ((3 : Nat) : Int)) (.int .i64 (((((dg pp) 0) + 3) : Nat) : Int)) (ad_i (m := ((dg pp) 0)) (n := 3) (by omega)) rfl rfl) <|
    oc (k_ia 2 0 0 (.int .i64 ((0 : Nat) : Int)) (ix22 (i := 0) (by omega)) rfl rfl) <|
    oc (k_st 2 0 (.int .i64 (((((dg pp) 0) + 3) : Nat) : Int)) (c := ai 22 (dg pp)) (n := ai 22 (updN (dg pp) 0 (((dg pp) 0) + 3))) (st_at (n := 22) (F := (dg pp)) (i := 0) (v := (((dg pp) 0) + 3)) (t0 := 35) (by omega)) rfl rfl) <|
    ok_nil
  clear h; intro β a w h
  replace h := St.sm h 2 (ai 22 (dg e0)) (c := ai 22 (updN (dg pp) 0 (((dg pp) 0) + 3))) (t := 35) hE
  refine sym_then ?_
  refine sym_seq ?_
  refine St.rg h [(11, .inl (.agg (ai 22 (dg m)))), (12, .inl (.agg (ai 22 (dg e0)))), (13, .inl (.agg (ai 22 (dg e1)))), (14, .inl (.agg (ai 22 (dg e2)))), (15, .inl (.agg (ai 22 (dg k)))), (16, .inl (.agg (ai 22 (dg R)))), (5, .inr (3, pt 0))] [(ai 22 (fun _ => 0), 35)] [(3, ai 22 (dg R))] [eR 0, eR 2, nn, nn, nn, nn, eN 3, eS 3] ?_ ?_
  · exact oc (k_ld 0 0 (.agg (ai 22 (dg m))) (c := ai 22 (dg m)) (ld22 (F := (dg m)) 35) rfl rfl) <|
    oc (k_ld 2 0 (.agg (ai 22 (dg e0))) (c := ai 22 (dg e0)) (ld22 (F := (dg e0)) 35) rfl rfl) <|
    oc (k_ca 68 #[.agg (ai 22 (dg e0))] (.agg (ai 22 (dg e1))) k1 rfl rfl) <|
    oc (k_ca 68 #[.agg (ai 22 (dg e1))] (.agg (ai 22 (dg e2))) k2 rfl rfl) <|
    oc (k_ca 68 #[.agg (ai 22 (dg e2))] (.agg (ai 22 (dg k))) k3 rfl rfl) <|
    oc (k_ca 67 #[.agg (ai 22 (dg m)), .agg (ai 22 (dg k))] (.agg (ai 22 (dg R))) cP rfl rfl) <|
    oc (k_al 3 al22 rfl rfl) <|
    oc (k_st 3 0 (.agg (ai 22 (dg R))) (c := ai 22 (fun _ => 0)) (n := ai 22 (dg R)) (st22 (F := (dg R)) (c := ai 22 (fun _ => 0)) 35 (ai_size _ _)) rfl rfl) <|
    ok_nil
  clear h; intro β a w h
  refine sym_then ?_
  refine sym_seq ?_
  refine sym_seq ?_
  refine St.r0 h [(17, .inl (.agg (ai 22 (dg R)))), (18, .inl (.agg (ai 22 (dg R)))), (19, .inl (.agg (ai 22 (dg (R * R % pp))))), (20, .inl (.agg (ai 22 (dg m)))), (21, .inl (.bool false))] [eR 3, eR 3, nn, eR 0] ?_ ?_
  · exact oc (k_ld 3 0 (.agg (ai 22 (dg R))) (c := ai 22 (dg R)) (ld22 (F := (dg R)) 35) rfl rfl) <|
    oc (k_ld 3 0 (.agg (ai 22 (dg R))) (c := ai 22 (dg R)) (ld22 (F := (dg R)) 35) rfl rfl) <|
    oc (k_ca 35 #[.agg (ai 22 (dg R)), .agg (ai 22 (dg R))] (.agg (ai 22 (dg (R * R % pp)))) (fun w => times_r (m := R) (n := R) (lt_big (by first | exact mod_pp _ | assumption)) (lt_big (by first | exact mod_pp _ | assumption)) w) rfl rfl) <|
    oc (k_ld 0 0 (.agg (ai 22 (dg m))) (c := ai 22 (dg m)) (ld22 (F := (dg m)) 35) rfl rfl) <|
    oz (k_bi (.agg (ai 22 (dg (R * R % pp)))) (.agg (ai 22 (dg m))) (.bool false) (fun w => by rw [h1]; exact ne22_f m w) rfl rfl) <|
    ok_nil
  clear h; intro β a w h
  refine sym_then ?_
  refine s_cf h ?_
  refine wp_skip ?_
  refine sym_then ?_
  refine sym_seq ?_
  refine sym_seq ?_
  refine St.r0 h [(31, .inl (.agg (ai 22 (dg R)))), (32, .inl (.agg (ai 22 (dg R)))), (33, .inl (.agg (ai 22 (dg (R * R % pp))))), (34, .inl (.agg (ai 22 (dg m)))), (35, .inl (.bool false))] [eR 3, eR 3, nn, eR 0] ?_ ?_
  · exact oc (k_ld 3 0 (.agg (ai 22 (dg R))) (c := ai 22 (dg R)) (ld22 (F := (dg R)) 35) rfl rfl) <|
    oc (k_ld 3 0 (.agg (ai 22 (dg R))) (c := ai 22 (dg R)) (ld22 (F := (dg R)) 35) rfl rfl) <|
    oc (k_ca 35 #[.agg (ai 22 (dg R)), .agg (ai 22 (dg R))] (.agg (ai 22 (dg (R * R % pp)))) (fun w => times_r (m := R) (n := R) (lt_big (by first | exact mod_pp _ | assumption)) (lt_big (by first | exact mod_pp _ | assumption)) w) rfl rfl) <|
    oc (k_ld 0 0 (.agg (ai 22 (dg m))) (c := ai 22 (dg m)) (ld22 (F := (dg m)) 35) rfl rfl) <|
    oz (k_bi (.agg (ai 22 (dg (R * R % pp)))) (.agg (ai 22 (dg m))) (.bool false) (fun w => by rw [h1]; exact ne22_f m w) rfl rfl) <|
    ok_nil
  clear h; intro β a w h
  refine sym_then ?_
  refine s_cf h ?_
  refine wp_skip ?_
  refine sym_then ?_
  refine sym_seq ?_
  refine sym_seq ?_
  refine St.r0 h [(37, .inr (3, pt 0)), (38, .inl (.int .i64 ((((dg R) 0) : Nat) : Int))), (39, .inl (.int .i64 (((((dg R) 0) % 2) : Nat) : Int))), (40, .inl (.bool true))] [nn, eR 3] ?_ ?_
  · exact oc (k_ia 3 0 0 (.int .i64 ((0 : Nat) : Int)) (ix22 (i := 0) (by omega)) rfl rfl) <|
    oc (k_ld 3 0 (.int .i64 ((((dg R) 0) : Nat) : Int)) (c := ai 22 (dg R)) (ld_at (n := 22) (F := (dg R)) (i := 0) (t0 := 35) (by omega)) rfl rfl) <|
    oz (k_bi (.int .i64 ((((dg R) 0) : Nat) : Int)) (.int .i64 ((2 : Nat) : Int)) (.int .i64 (((((dg R) 0) % 2) : Nat) : Int)) (re_i (m := ((dg R) 0)) (n := 2) (by decide)) rfl rfl) <|
    oz (k_bi (.int .i64 (((((dg R) 0) % 2) : Nat) : Int)) (.int .i64 ((1 : Nat) : Int)) (.bool true) (eq_i (m := (((((dg R) 0) % 2) : Nat) : Int)) (n := ((1 : Nat) : Int)) (decide_eq_true (by omega))) rfl rfl) <|
    ok_nil
  clear h; intro β a w h
  refine sym_then ?_
  refine s_ct h ?_
  refine St.rg h [(41, .inl (.agg (ai 22 (dg pp)))), (42, .inl (.agg (ai 22 (dg R)))), (43, .inl (.agg (ai 22 (dg (pp - R)))))] [] [(3, ai 22 (dg (pp - R)))] [nn, eR 3, nn, eS 3] ?_ ?_
  · exact oc (k_ca 66 #[] (.agg (ai 22 (dg pp))) prime_r rfl rfl) <|
    oc (k_ld 3 0 (.agg (ai 22 (dg R))) (c := ai 22 (dg R)) (ld22 (F := (dg R)) 35) rfl rfl) <|
    oc (k_ca 69 #[.agg (ai 22 (dg pp)), .agg (ai 22 (dg R))] (.agg (ai 22 (dg (pp - R)))) (fun w => less_r (Nat.le_of_lt hR) w) rfl rfl) <|
    oc (k_st 3 0 (.agg (ai 22 (dg (pp - R)))) (c := ai 22 (dg R)) (n := ai 22 (dg (pp - R))) (st22 (F := (dg (pp - R))) (c := ai 22 (dg R)) 35 (ai_size _ _)) rfl rfl) <|
    ok_nil
  clear h; intro β a w h
  refine sym_then ?_
  refine sym_seq ?_
  refine St.rg h [(44, .inl (.agg (ai 22 (dg (pp - R))))), (3, .inl (.bool true))] [] [(1, ai 22 (dg (pp - R)))] [eR 3, eS 1] ?_ ?_
  · exact oc (k_ld 3 0 (.agg (ai 22 (dg (pp - R)))) (c := ai 22 (dg (pp - R))) (ld22 (F := (dg (pp - R))) 35) rfl rfl) <|
    oc (k_st 1 0 (.agg (ai 22 (dg (pp - R)))) (c := ai 22 (fun _ => 0)) (n := ai 22 (dg (pp - R))) (st22 (F := (dg (pp - R))) (c := ai 22 (fun _ => 0)) 35 (ai_size _ _)) rfl rfl) <|
    oz (k_mv (.inr rfl) rfl) <|
    ok_nil
  clear h; intro β a w h
  refine sym_then ?_
  refine wp_ret ?_
  exact s_r2 (b := 1) (t0 := 35) (c := ai 22 (dg (pp - R))) h Try.results36 Try.underlying35 (fun hb => ⟨rfl, hb⟩) (by rw [ai_size]; kernel_rfl)

set_option maxHeartbeats 4000000 in
theorem rr_2n {m R J e0 e1 e2 k f0 f1 f2 : Nat} (hm : m < pp) (hR : R < pp) (hE : ai 22 (updN (dg pp) 0 (dg pp 0 + 3)) = ai 22 (dg e0))
    (k1 : (∀ w, Calls Try.prog 68 #[.agg (ai 22 (dg e0))] w fun e w' => e = .returned (.agg (ai 22 (dg e1))) ∧ Below w.heap.size w w')) (k2 : (∀ w, Calls Try.prog 68 #[.agg (ai 22 (dg e1))] w fun e w' => e = .returned (.agg (ai 22 (dg e2))) ∧ Below w.heap.size w w')) (k3 : (∀ w, Calls Try.prog 68 #[.agg (ai 22 (dg e2))] w fun e w' => e = .returned (.agg (ai 22 (dg k))) ∧ Below w.heap.size w w')) (cP : (∀ w, Calls Try.prog 67 #[.agg (ai 22 (dg m)), .agg (ai 22 (dg k))] w fun e w' => e = .returned (.agg (ai 22 (dg R))) ∧ Below w.heap.size w w')) (hJ : J < pp) (cF : (∀ w, Calls Try.prog 69 #[.agg (ai 22 (dg pp)), .agg (ai 22 (dg 1))] w fun e w' => e = .returned (.agg (ai 22 (dg f0))) ∧ Below w.heap.size w w')) (k4 : (∀ w, Calls Try.prog 68 #[.agg (ai 22 (dg f0))] w fun e w' => e = .returned (.agg (ai 22 (dg f1))) ∧ Below w.heap.size w w')) (k5 : (∀ w, Calls Try.prog 68 #[.agg (ai 22 (dg f1))] w fun e w' => e = .returned (.agg (ai 22 (dg f2))) ∧ Below w.heap.size w w')) (cJ : (∀ w, Calls Try.prog 67 #[.agg (ai 22 (dg 2)), .agg (ai 22 (dg f2))] w fun e w' => e = .returned (.agg (ai 22 (dg J))) ∧ Below w.heap.size w w')) (h1 : R * R % pp ≠ m) (h2 : (R * J % pp) * (R * J % pp) % pp ≠ m) (W0 : World) : Calls Try.prog 36 #[.agg (ai 22 (dg m))] W0 fun e w' => e = .returned (.tuple #[.agg (ai 22 (dg 0)), .bool false]) ∧ Below W0.heap.size W0 w' := by
  have g1 := dg_lt pp 0

  refine s_in Try.func36 Try.ntmps36 rfl [.inl (.agg (ai 22 (dg m)))] ?_
  intro β a h
  refine sym_seq ?_
  refine St.rg h [(1, .inr (0, pt 0)), (2, .inr (1, pt 0)), (3, .inl (.bool false))] [(ai 22 (dg m), 35), (ai 22 (fun _ => 0), 35)] [] [eN 0, eN 1] ?_ ?_
  · exact oc (k_bx 0 (.agg (ai 22 (dg m))) (bx22 (F := (dg m))) rfl rfl) <|
    oc (k_al 1 al22 rfl rfl) <|
    oz (k_mv (.inr rfl) rfl) <|
    ok_nil
  clear h; intro β a w h
  refine sym_then ?_
  refine sym_seq ?_
  refine St.rg h [(6, .inl (.agg (ai 22 (dg pp)))), (4, .inr (2, pt 0))] [(ai 22 (fun _ => 0), 35)] [(2, ai 22 (dg pp))] [nn, eN 2, eS 2] ?_ ?_
  · exact oc (k_ca 66 #[] (.agg (ai 22 (dg pp))) prime_r rfl rfl) <|
    oc (k_al 2 al22 rfl rfl) <|
    oc (k_st 2 0 (.agg (ai 22 (dg pp))) (c := ai 22 (fun _ => 0)) (n := ai 22 (dg pp)) (st22 (F := (dg pp)) (c := ai 22 (fun _ => 0)) 35 (ai_size _ _)) rfl rfl) <|
    ok_nil
  clear h; intro β a w h
  refine sym_then ?_
  refine sym_seq ?_
  refine St.rg h [(7, .inr (2, pt 0)), (8, .inl (.int .i64 ((((dg pp) 0) : Nat) : Int))), (9, .inl (.int .i64 (((((dg pp) 0) + 3) : Nat) : Int))), (10, .inr (2, pt 0))] [] [(2, ai 22 (updN (dg pp) 0 (((dg pp) 0) + 3)))] [nn, eR 2, nn, nn, eS 2] ?_ ?_
  · exact oc (k_ia 2 0 0 (.int .i64 ((0 : Nat) : Int)) (ix22 (i := 0) (by omega)) rfl rfl) <|
    oc (k_ld 2 0 (.int .i64 ((((dg pp) 0) : Nat) : Int)) (c := ai 22 (dg pp)) (ld_at (n := 22) (F := (dg pp)) (i := 0) (t0 := 35) (by omega)) rfl rfl) <|
    oc (k_bi (.int .i64 ((((dg pp) 0) : Nat) : Int)) (.int .i64 ((3 : Nat) : Int)) (.int .i64 (((((dg pp) 0) + 3) : Nat) : Int)) (ad_i (m := ((dg pp) 0)) (n := 3) (by omega)) rfl rfl) <|
    oc (k_ia 2 0 0 (.int .i64 ((0 : Nat) : Int)) (ix22 (i := 0) (by omega)) rfl rfl) <|
    oc (k_st 2 0 (.int .i64 (((((dg pp) 0) + 3) : Nat) : Int)) (c := ai 22 (dg pp)) (n := ai 22 (updN (dg pp) 0 (((dg pp) 0) + 3))) (st_at (n := 22) (F := (dg pp)) (i := 0) (v := (((dg pp) 0) + 3)) (t0 := 35) (by omega)) rfl rfl) <|
    ok_nil
  clear h; intro β a w h
  replace h := St.sm h 2 (ai 22 (dg e0)) (c := ai 22 (updN (dg pp) 0 (((dg pp) 0) + 3))) (t := 35) hE
  refine sym_then ?_
  refine sym_seq ?_
  refine St.rg h [(11, .inl (.agg (ai 22 (dg m)))), (12, .inl (.agg (ai 22 (dg e0)))), (13, .inl (.agg (ai 22 (dg e1)))), (14, .inl (.agg (ai 22 (dg e2)))), (15, .inl (.agg (ai 22 (dg k)))), (16, .inl (.agg (ai 22 (dg R)))), (5, .inr (3, pt 0))] [(ai 22 (fun _ => 0), 35)] [(3, ai 22 (dg R))] [eR 0, eR 2, nn, nn, nn, nn, eN 3, eS 3] ?_ ?_
  · exact oc (k_ld 0 0 (.agg (ai 22 (dg m))) (c := ai 22 (dg m)) (ld22 (F := (dg m)) 35) rfl rfl) <|
    oc (k_ld 2 0 (.agg (ai 22 (dg e0))) (c := ai 22 (dg e0)) (ld22 (F := (dg e0)) 35) rfl rfl) <|
    oc (k_ca 68 #[.agg (ai 22 (dg e0))] (.agg (ai 22 (dg e1))) k1 rfl rfl) <|
    oc (k_ca 68 #[.agg (ai 22 (dg e1))] (.agg (ai 22 (dg e2))) k2 rfl rfl) <|
    oc (k_ca 68 #[.agg (ai 22 (dg e2))] (.agg (ai 22 (dg k))) k3 rfl rfl) <|
    oc (k_ca 67 #[.agg (ai 22 (dg m)), .agg (ai 22 (dg k))] (.agg (ai 22 (dg R))) cP rfl rfl) <|
    oc (k_al 3 al22 rfl rfl) <|
    oc (k_st 3 0 (.agg (ai 22 (dg R))) (c := ai 22 (fun _ => 0)) (n := ai 22 (dg R)) (st22 (F := (dg R)) (c := ai 22 (fun _ => 0)) 35 (ai_size _ _)) rfl rfl) <|
    ok_nil
  clear h; intro β a w h
  refine sym_then ?_
  refine sym_seq ?_
  refine sym_seq ?_
  refine St.r0 h [(17, .inl (.agg (ai 22 (dg R)))), (18, .inl (.agg (ai 22 (dg R)))), (19, .inl (.agg (ai 22 (dg (R * R % pp))))), (20, .inl (.agg (ai 22 (dg m)))), (21, .inl (.bool true))] [eR 3, eR 3, nn, eR 0] ?_ ?_
  · exact oc (k_ld 3 0 (.agg (ai 22 (dg R))) (c := ai 22 (dg R)) (ld22 (F := (dg R)) 35) rfl rfl) <|
    oc (k_ld 3 0 (.agg (ai 22 (dg R))) (c := ai 22 (dg R)) (ld22 (F := (dg R)) 35) rfl rfl) <|
    oc (k_ca 35 #[.agg (ai 22 (dg R)), .agg (ai 22 (dg R))] (.agg (ai 22 (dg (R * R % pp)))) (fun w => times_r (m := R) (n := R) (lt_big (by first | exact mod_pp _ | assumption)) (lt_big (by first | exact mod_pp _ | assumption)) w) rfl rfl) <|
    oc (k_ld 0 0 (.agg (ai 22 (dg m))) (c := ai 22 (dg m)) (ld22 (F := (dg m)) 35) rfl rfl) <|
    oz (k_bi (.agg (ai 22 (dg (R * R % pp)))) (.agg (ai 22 (dg m))) (.bool true) (ne22_t (lt_big (mod_pp _)) (lt_big hm) h1) rfl rfl) <|
    ok_nil
  clear h; intro β a w h
  refine sym_then ?_
  refine s_ct h ?_
  refine St.rg h [(22, .inl (.agg (ai 22 (dg R)))), (23, .inl (.agg (ai 22 (dg 2)))), (24, .inl (.agg (ai 22 (dg pp)))), (25, .inl (.agg (ai 22 (dg 1)))), (26, .inl (.agg (ai 22 (dg f0)))), (27, .inl (.agg (ai 22 (dg f1)))), (28, .inl (.agg (ai 22 (dg f2)))), (29, .inl (.agg (ai 22 (dg J)))), (30, .inl (.agg (ai 22 (dg (R * J % pp)))))] [] [(3, ai 22 (dg (R * J % pp)))] [eR 3, nn, nn, nn, nn, nn, nn, nn, nn, eS 3] ?_ ?_
  · exact oc (k_ld 3 0 (.agg (ai 22 (dg R))) (c := ai 22 (dg R)) (ld22 (F := (dg R)) 35) rfl rfl) <|
    oc (k_ca 34 #[.int .i64 ((2 : Nat) : Int)] (.agg (ai 22 (dg 2))) (fun w => int_r (N := 2) (by decide) w) rfl rfl) <|
    oc (k_ca 66 #[] (.agg (ai 22 (dg pp))) prime_r rfl rfl) <|
    oc (k_ca 34 #[.int .i64 ((1 : Nat) : Int)] (.agg (ai 22 (dg 1))) (fun w => int_r (N := 1) (by decide) w) rfl rfl) <|
    oc (k_ca 69 #[.agg (ai 22 (dg pp)), .agg (ai 22 (dg 1))] (.agg (ai 22 (dg f0))) cF rfl rfl) <|
    oc (k_ca 68 #[.agg (ai 22 (dg f0))] (.agg (ai 22 (dg f1))) k4 rfl rfl) <|
    oc (k_ca 68 #[.agg (ai 22 (dg f1))] (.agg (ai 22 (dg f2))) k5 rfl rfl) <|
    oc (k_ca 67 #[.agg (ai 22 (dg 2)), .agg (ai 22 (dg f2))] (.agg (ai 22 (dg J))) cJ rfl rfl) <|
    oc (k_ca 35 #[.agg (ai 22 (dg R)), .agg (ai 22 (dg J))] (.agg (ai 22 (dg (R * J % pp)))) (fun w => times_r (m := R) (n := J) (lt_big (by first | exact mod_pp _ | assumption)) (lt_big (by first | exact mod_pp _ | assumption)) w) rfl rfl) <|
    oc (k_st 3 0 (.agg (ai 22 (dg (R * J % pp)))) (c := ai 22 (dg R)) (n := ai 22 (dg (R * J % pp))) (st22 (F := (dg (R * J % pp))) (c := ai 22 (dg R)) 35 (ai_size _ _)) rfl rfl) <|
    ok_nil
  clear h; intro β a w h
  refine sym_then ?_
  refine sym_seq ?_
  refine sym_seq ?_
  refine St.r0 h [(31, .inl (.agg (ai 22 (dg (R * J % pp))))), (32, .inl (.agg (ai 22 (dg (R * J % pp))))), (33, .inl (.agg (ai 22 (dg ((R * J % pp) * (R * J % pp) % pp))))), (34, .inl (.agg (ai 22 (dg m)))), (35, .inl (.bool true))] [eR 3, eR 3, nn, eR 0] ?_ ?_
  · exact oc (k_ld 3 0 (.agg (ai 22 (dg (R * J % pp)))) (c := ai 22 (dg (R * J % pp))) (ld22 (F := (dg (R * J % pp))) 35) rfl rfl) <|
    oc (k_ld 3 0 (.agg (ai 22 (dg (R * J % pp)))) (c := ai 22 (dg (R * J % pp))) (ld22 (F := (dg (R * J % pp))) 35) rfl rfl) <|
    oc (k_ca 35 #[.agg (ai 22 (dg (R * J % pp))), .agg (ai 22 (dg (R * J % pp)))] (.agg (ai 22 (dg ((R * J % pp) * (R * J % pp) % pp)))) (fun w => times_r (m := (R * J % pp)) (n := (R * J % pp)) (lt_big (by first | exact mod_pp _ | assumption)) (lt_big (by first | exact mod_pp _ | assumption)) w) rfl rfl) <|
    oc (k_ld 0 0 (.agg (ai 22 (dg m))) (c := ai 22 (dg m)) (ld22 (F := (dg m)) 35) rfl rfl) <|
    oz (k_bi (.agg (ai 22 (dg ((R * J % pp) * (R * J % pp) % pp)))) (.agg (ai 22 (dg m))) (.bool true) (ne22_t (lt_big (mod_pp _)) (lt_big hm) h2) rfl rfl) <|
    ok_nil
  clear h; intro β a w h
  refine sym_then ?_
  refine s_ct h ?_
  refine sym_seq ?_
  refine St.rg h [(36, .inl (.agg (ai 22 (dg 0))))] [] [(1, ai 22 (dg 0))] [nn, eS 1] ?_ ?_
  · exact oc (k_bu #[] (.agg (ai 22 (dg 0))) bd22 rfl rfl) <|
    oc (k_st 1 0 (.agg (ai 22 (dg 0))) (c := ai 22 (fun _ => 0)) (n := ai 22 (dg 0)) (st22 (F := (dg 0)) (c := ai 22 (fun _ => 0)) 35 (ai_size _ _)) rfl rfl) <|
    oz (k_mv (.inr rfl) rfl) <|
    ok_nil
  clear h; intro β a w h
  refine sym_then ?_
  refine wp_ret ?_
  refine then_ret ?_
  exact s_r2 (b := 1) (t0 := 35) (c := ai 22 (dg 0)) h Try.results36 Try.underlying35 (fun hb => ⟨rfl, hb⟩) (by rw [ai_size]; kernel_rfl)

set_option maxHeartbeats 4000000 in
theorem rr_2e {m R J e0 e1 e2 k f0 f1 f2 : Nat} (hm : m < pp) (hR : R < pp) (hE : ai 22 (updN (dg pp) 0 (dg pp 0 + 3)) = ai 22 (dg e0))
    (k1 : (∀ w, Calls Try.prog 68 #[.agg (ai 22 (dg e0))] w fun e w' => e = .returned (.agg (ai 22 (dg e1))) ∧ Below w.heap.size w w')) (k2 : (∀ w, Calls Try.prog 68 #[.agg (ai 22 (dg e1))] w fun e w' => e = .returned (.agg (ai 22 (dg e2))) ∧ Below w.heap.size w w')) (k3 : (∀ w, Calls Try.prog 68 #[.agg (ai 22 (dg e2))] w fun e w' => e = .returned (.agg (ai 22 (dg k))) ∧ Below w.heap.size w w')) (cP : (∀ w, Calls Try.prog 67 #[.agg (ai 22 (dg m)), .agg (ai 22 (dg k))] w fun e w' => e = .returned (.agg (ai 22 (dg R))) ∧ Below w.heap.size w w')) (hJ : J < pp) (cF : (∀ w, Calls Try.prog 69 #[.agg (ai 22 (dg pp)), .agg (ai 22 (dg 1))] w fun e w' => e = .returned (.agg (ai 22 (dg f0))) ∧ Below w.heap.size w w')) (k4 : (∀ w, Calls Try.prog 68 #[.agg (ai 22 (dg f0))] w fun e w' => e = .returned (.agg (ai 22 (dg f1))) ∧ Below w.heap.size w w')) (k5 : (∀ w, Calls Try.prog 68 #[.agg (ai 22 (dg f1))] w fun e w' => e = .returned (.agg (ai 22 (dg f2))) ∧ Below w.heap.size w w')) (cJ : (∀ w, Calls Try.prog 67 #[.agg (ai 22 (dg 2)), .agg (ai 22 (dg f2))] w fun e w' => e = .returned (.agg (ai 22 (dg J))) ∧ Below w.heap.size w w')) (h1 : R * R % pp ≠ m) (h2 : (R * J % pp) * (R * J % pp) % pp = m) (hp : (R * J % pp) % 2 = 0) (W0 : World) : Calls Try.prog 36 #[.agg (ai 22 (dg m))] W0 fun e w' => e = .returned (.tuple #[.agg (ai 22 (dg (R * J % pp))), .bool true]) ∧ Below W0.heap.size W0 w' := by
  have g1 := dg_lt pp 0
  have g2 := dg_par (R * J % pp)
  refine s_in Try.func36 Try.ntmps36 rfl [.inl (.agg (ai 22 (dg m)))] ?_
  intro β a h
  refine sym_seq ?_
  refine St.rg h [(1, .inr (0, pt 0)), (2, .inr (1, pt 0)), (3, .inl (.bool false))] [(ai 22 (dg m), 35), (ai 22 (fun _ => 0), 35)] [] [eN 0, eN 1] ?_ ?_
  · exact oc (k_bx 0 (.agg (ai 22 (dg m))) (bx22 (F := (dg m))) rfl rfl) <|
    oc (k_al 1 al22 rfl rfl) <|
    oz (k_mv (.inr rfl) rfl) <|
    ok_nil
  clear h; intro β a w h
  refine sym_then ?_
  refine sym_seq ?_
  refine St.rg h [(6, .inl (.agg (ai 22 (dg pp)))), (4, .inr (2, pt 0))] [(ai 22 (fun _ => 0), 35)] [(2, ai 22 (dg pp))] [nn, eN 2, eS 2] ?_ ?_
  · exact oc (k_ca 66 #[] (.agg (ai 22 (dg pp))) prime_r rfl rfl) <|
    oc (k_al 2 al22 rfl rfl) <|
    oc (k_st 2 0 (.agg (ai 22 (dg pp))) (c := ai 22 (fun _ => 0)) (n := ai 22 (dg pp)) (st22 (F := (dg pp)) (c := ai 22 (fun _ => 0)) 35 (ai_size _ _)) rfl rfl) <|
    ok_nil
  clear h; intro β a w h
  refine sym_then ?_
  refine sym_seq ?_
  refine St.rg h [(7, .inr (2, pt 0)), (8, .inl (.int .i64 ((((dg pp) 0) : Nat) : Int))), (9, .inl (.int .i64 (((((dg pp) 0) + 3) : Nat) : Int))), (10, .inr (2, pt 0))] [] [(2, ai 22 (updN (dg pp) 0 (((dg pp) 0) + 3)))] [nn, eR 2, nn, nn, eS 2] ?_ ?_
  · exact oc (k_ia 2 0 0 (.int .i64 ((0 : Nat) : Int)) (ix22 (i := 0) (by omega)) rfl rfl) <|
    oc (k_ld 2 0 (.int .i64 ((((dg pp) 0) : Nat) : Int)) (c := ai 22 (dg pp)) (ld_at (n := 22) (F := (dg pp)) (i := 0) (t0 := 35) (by omega)) rfl rfl) <|
    oc (k_bi (.int .i64 ((((dg pp) 0) : Nat) : Int)) (.int .i64 ((3 : Nat) : Int)) (.int .i64 (((((dg pp) 0) + 3) : Nat) : Int)) (ad_i (m := ((dg pp) 0)) (n := 3) (by omega)) rfl rfl) <|
    oc (k_ia 2 0 0 (.int .i64 ((0 : Nat) : Int)) (ix22 (i := 0) (by omega)) rfl rfl) <|
    oc (k_st 2 0 (.int .i64 (((((dg pp) 0) + 3) : Nat) : Int)) (c := ai 22 (dg pp)) (n := ai 22 (updN (dg pp) 0 (((dg pp) 0) + 3))) (st_at (n := 22) (F := (dg pp)) (i := 0) (v := (((dg pp) 0) + 3)) (t0 := 35) (by omega)) rfl rfl) <|
    ok_nil
  clear h; intro β a w h
  replace h := St.sm h 2 (ai 22 (dg e0)) (c := ai 22 (updN (dg pp) 0 (((dg pp) 0) + 3))) (t := 35) hE
  refine sym_then ?_
  refine sym_seq ?_
  refine St.rg h [(11, .inl (.agg (ai 22 (dg m)))), (12, .inl (.agg (ai 22 (dg e0)))), (13, .inl (.agg (ai 22 (dg e1)))), (14, .inl (.agg (ai 22 (dg e2)))), (15, .inl (.agg (ai 22 (dg k)))), (16, .inl (.agg (ai 22 (dg R)))), (5, .inr (3, pt 0))] [(ai 22 (fun _ => 0), 35)] [(3, ai 22 (dg R))] [eR 0, eR 2, nn, nn, nn, nn, eN 3, eS 3] ?_ ?_
  · exact oc (k_ld 0 0 (.agg (ai 22 (dg m))) (c := ai 22 (dg m)) (ld22 (F := (dg m)) 35) rfl rfl) <|
    oc (k_ld 2 0 (.agg (ai 22 (dg e0))) (c := ai 22 (dg e0)) (ld22 (F := (dg e0)) 35) rfl rfl) <|
    oc (k_ca 68 #[.agg (ai 22 (dg e0))] (.agg (ai 22 (dg e1))) k1 rfl rfl) <|
    oc (k_ca 68 #[.agg (ai 22 (dg e1))] (.agg (ai 22 (dg e2))) k2 rfl rfl) <|
    oc (k_ca 68 #[.agg (ai 22 (dg e2))] (.agg (ai 22 (dg k))) k3 rfl rfl) <|
    oc (k_ca 67 #[.agg (ai 22 (dg m)), .agg (ai 22 (dg k))] (.agg (ai 22 (dg R))) cP rfl rfl) <|
    oc (k_al 3 al22 rfl rfl) <|
    oc (k_st 3 0 (.agg (ai 22 (dg R))) (c := ai 22 (fun _ => 0)) (n := ai 22 (dg R)) (st22 (F := (dg R)) (c := ai 22 (fun _ => 0)) 35 (ai_size _ _)) rfl rfl) <|
    ok_nil
  clear h; intro β a w h
  refine sym_then ?_
  refine sym_seq ?_
  refine sym_seq ?_
  refine St.r0 h [(17, .inl (.agg (ai 22 (dg R)))), (18, .inl (.agg (ai 22 (dg R)))), (19, .inl (.agg (ai 22 (dg (R * R % pp))))), (20, .inl (.agg (ai 22 (dg m)))), (21, .inl (.bool true))] [eR 3, eR 3, nn, eR 0] ?_ ?_
  · exact oc (k_ld 3 0 (.agg (ai 22 (dg R))) (c := ai 22 (dg R)) (ld22 (F := (dg R)) 35) rfl rfl) <|
    oc (k_ld 3 0 (.agg (ai 22 (dg R))) (c := ai 22 (dg R)) (ld22 (F := (dg R)) 35) rfl rfl) <|
    oc (k_ca 35 #[.agg (ai 22 (dg R)), .agg (ai 22 (dg R))] (.agg (ai 22 (dg (R * R % pp)))) (fun w => times_r (m := R) (n := R) (lt_big (by first | exact mod_pp _ | assumption)) (lt_big (by first | exact mod_pp _ | assumption)) w) rfl rfl) <|
    oc (k_ld 0 0 (.agg (ai 22 (dg m))) (c := ai 22 (dg m)) (ld22 (F := (dg m)) 35) rfl rfl) <|
    oz (k_bi (.agg (ai 22 (dg (R * R % pp)))) (.agg (ai 22 (dg m))) (.bool true) (ne22_t (lt_big (mod_pp _)) (lt_big hm) h1) rfl rfl) <|
    ok_nil
  clear h; intro β a w h
  refine sym_then ?_
  refine s_ct h ?_
  refine St.rg h [(22, .inl (.agg (ai 22 (dg R)))), (23, .inl (.agg (ai 22 (dg 2)))), (24, .inl (.agg (ai 22 (dg pp)))), (25, .inl (.agg (ai 22 (dg 1)))), (26, .inl (.agg (ai 22 (dg f0)))), (27, .inl (.agg (ai 22 (dg f1)))), (28, .inl (.agg (ai 22 (dg f2)))), (29, .inl (.agg (ai 22 (dg J)))), (30, .inl (.agg (ai 22 (dg (R * J % pp)))))] [] [(3, ai 22 (dg (R * J % pp)))] [eR 3, nn, nn, nn, nn, nn, nn, nn, nn, eS 3] ?_ ?_
  · exact oc (k_ld 3 0 (.agg (ai 22 (dg R))) (c := ai 22 (dg R)) (ld22 (F := (dg R)) 35) rfl rfl) <|
    oc (k_ca 34 #[.int .i64 ((2 : Nat) : Int)] (.agg (ai 22 (dg 2))) (fun w => int_r (N := 2) (by decide) w) rfl rfl) <|
    oc (k_ca 66 #[] (.agg (ai 22 (dg pp))) prime_r rfl rfl) <|
    oc (k_ca 34 #[.int .i64 ((1 : Nat) : Int)] (.agg (ai 22 (dg 1))) (fun w => int_r (N := 1) (by decide) w) rfl rfl) <|
    oc (k_ca 69 #[.agg (ai 22 (dg pp)), .agg (ai 22 (dg 1))] (.agg (ai 22 (dg f0))) cF rfl rfl) <|
    oc (k_ca 68 #[.agg (ai 22 (dg f0))] (.agg (ai 22 (dg f1))) k4 rfl rfl) <|
    oc (k_ca 68 #[.agg (ai 22 (dg f1))] (.agg (ai 22 (dg f2))) k5 rfl rfl) <|
    oc (k_ca 67 #[.agg (ai 22 (dg 2)), .agg (ai 22 (dg f2))] (.agg (ai 22 (dg J))) cJ rfl rfl) <|
    oc (k_ca 35 #[.agg (ai 22 (dg R)), .agg (ai 22 (dg J))] (.agg (ai 22 (dg (R * J % pp)))) (fun w => times_r (m := R) (n := J) (lt_big (by first | exact mod_pp _ | assumption)) (lt_big (by first | exact mod_pp _ | assumption)) w) rfl rfl) <|
    oc (k_st 3 0 (.agg (ai 22 (dg (R * J % pp)))) (c := ai 22 (dg R)) (n := ai 22 (dg (R * J % pp))) (st22 (F := (dg (R * J % pp))) (c := ai 22 (dg R)) 35 (ai_size _ _)) rfl rfl) <|
    ok_nil
  clear h; intro β a w h
  refine sym_then ?_
  refine sym_seq ?_
  refine sym_seq ?_
  refine St.r0 h [(31, .inl (.agg (ai 22 (dg (R * J % pp))))), (32, .inl (.agg (ai 22 (dg (R * J % pp))))), (33, .inl (.agg (ai 22 (dg ((R * J % pp) * (R * J % pp) % pp))))), (34, .inl (.agg (ai 22 (dg m)))), (35, .inl (.bool false))] [eR 3, eR 3, nn, eR 0] ?_ ?_
  · exact oc (k_ld 3 0 (.agg (ai 22 (dg (R * J % pp)))) (c := ai 22 (dg (R * J % pp))) (ld22 (F := (dg (R * J % pp))) 35) rfl rfl) <|
    oc (k_ld 3 0 (.agg (ai 22 (dg (R * J % pp)))) (c := ai 22 (dg (R * J % pp))) (ld22 (F := (dg (R * J % pp))) 35) rfl rfl) <|
    oc (k_ca 35 #[.agg (ai 22 (dg (R * J % pp))), .agg (ai 22 (dg (R * J % pp)))] (.agg (ai 22 (dg ((R * J % pp) * (R * J % pp) % pp)))) (fun w => times_r (m := (R * J % pp)) (n := (R * J % pp)) (lt_big (by first | exact mod_pp _ | assumption)) (lt_big (by first | exact mod_pp _ | assumption)) w) rfl rfl) <|
    oc (k_ld 0 0 (.agg (ai 22 (dg m))) (c := ai 22 (dg m)) (ld22 (F := (dg m)) 35) rfl rfl) <|
    oz (k_bi (.agg (ai 22 (dg ((R * J % pp) * (R * J % pp) % pp)))) (.agg (ai 22 (dg m))) (.bool false) (fun w => by rw [h2]; exact ne22_f m w) rfl rfl) <|
    ok_nil
  clear h; intro β a w h
  refine sym_then ?_
  refine s_cf h ?_
  refine wp_skip ?_
  refine sym_then ?_
  refine sym_seq ?_
  refine sym_seq ?_
  refine St.r0 h [(37, .inr (3, pt 0)), (38, .inl (.int .i64 ((((dg (R * J % pp)) 0) : Nat) : Int))), (39, .inl (.int .i64 (((((dg (R * J % pp)) 0) % 2) : Nat) : Int))), (40, .inl (.bool false))] [nn, eR 3] ?_ ?_
  · exact oc (k_ia 3 0 0 (.int .i64 ((0 : Nat) : Int)) (ix22 (i := 0) (by omega)) rfl rfl) <|
    oc (k_ld 3 0 (.int .i64 ((((dg (R * J % pp)) 0) : Nat) : Int)) (c := ai 22 (dg (R * J % pp))) (ld_at (n := 22) (F := (dg (R * J % pp))) (i := 0) (t0 := 35) (by omega)) rfl rfl) <|
    oz (k_bi (.int .i64 ((((dg (R * J % pp)) 0) : Nat) : Int)) (.int .i64 ((2 : Nat) : Int)) (.int .i64 (((((dg (R * J % pp)) 0) % 2) : Nat) : Int)) (re_i (m := ((dg (R * J % pp)) 0)) (n := 2) (by decide)) rfl rfl) <|
    oz (k_bi (.int .i64 (((((dg (R * J % pp)) 0) % 2) : Nat) : Int)) (.int .i64 ((1 : Nat) : Int)) (.bool false) (eq_i (m := (((((dg (R * J % pp)) 0) % 2) : Nat) : Int)) (n := ((1 : Nat) : Int)) (decide_eq_false (by omega))) rfl rfl) <|
    ok_nil
  clear h; intro β a w h
  refine sym_then ?_
  refine s_cf h ?_
  refine wp_skip ?_
  refine sym_then ?_
  refine sym_seq ?_
  refine St.rg h [(44, .inl (.agg (ai 22 (dg (R * J % pp))))), (3, .inl (.bool true))] [] [(1, ai 22 (dg (R * J % pp)))] [eR 3, eS 1] ?_ ?_
  · exact oc (k_ld 3 0 (.agg (ai 22 (dg (R * J % pp)))) (c := ai 22 (dg (R * J % pp))) (ld22 (F := (dg (R * J % pp))) 35) rfl rfl) <|
    oc (k_st 1 0 (.agg (ai 22 (dg (R * J % pp)))) (c := ai 22 (fun _ => 0)) (n := ai 22 (dg (R * J % pp))) (st22 (F := (dg (R * J % pp))) (c := ai 22 (fun _ => 0)) 35 (ai_size _ _)) rfl rfl) <|
    oz (k_mv (.inr rfl) rfl) <|
    ok_nil
  clear h; intro β a w h
  refine sym_then ?_
  refine wp_ret ?_
  exact s_r2 (b := 1) (t0 := 35) (c := ai 22 (dg (R * J % pp))) h Try.results36 Try.underlying35 (fun hb => ⟨rfl, hb⟩) (by rw [ai_size]; kernel_rfl)

set_option maxHeartbeats 4000000 in
theorem rr_2o {m R J e0 e1 e2 k f0 f1 f2 : Nat} (hm : m < pp) (hR : R < pp) (hE : ai 22 (updN (dg pp) 0 (dg pp 0 + 3)) = ai 22 (dg e0))
    (k1 : (∀ w, Calls Try.prog 68 #[.agg (ai 22 (dg e0))] w fun e w' => e = .returned (.agg (ai 22 (dg e1))) ∧ Below w.heap.size w w')) (k2 : (∀ w, Calls Try.prog 68 #[.agg (ai 22 (dg e1))] w fun e w' => e = .returned (.agg (ai 22 (dg e2))) ∧ Below w.heap.size w w')) (k3 : (∀ w, Calls Try.prog 68 #[.agg (ai 22 (dg e2))] w fun e w' => e = .returned (.agg (ai 22 (dg k))) ∧ Below w.heap.size w w')) (cP : (∀ w, Calls Try.prog 67 #[.agg (ai 22 (dg m)), .agg (ai 22 (dg k))] w fun e w' => e = .returned (.agg (ai 22 (dg R))) ∧ Below w.heap.size w w')) (hJ : J < pp) (cF : (∀ w, Calls Try.prog 69 #[.agg (ai 22 (dg pp)), .agg (ai 22 (dg 1))] w fun e w' => e = .returned (.agg (ai 22 (dg f0))) ∧ Below w.heap.size w w')) (k4 : (∀ w, Calls Try.prog 68 #[.agg (ai 22 (dg f0))] w fun e w' => e = .returned (.agg (ai 22 (dg f1))) ∧ Below w.heap.size w w')) (k5 : (∀ w, Calls Try.prog 68 #[.agg (ai 22 (dg f1))] w fun e w' => e = .returned (.agg (ai 22 (dg f2))) ∧ Below w.heap.size w w')) (cJ : (∀ w, Calls Try.prog 67 #[.agg (ai 22 (dg 2)), .agg (ai 22 (dg f2))] w fun e w' => e = .returned (.agg (ai 22 (dg J))) ∧ Below w.heap.size w w')) (h1 : R * R % pp ≠ m) (h2 : (R * J % pp) * (R * J % pp) % pp = m) (hp : (R * J % pp) % 2 = 1) (W0 : World) : Calls Try.prog 36 #[.agg (ai 22 (dg m))] W0 fun e w' => e = .returned (.tuple #[.agg (ai 22 (dg (pp - (R * J % pp)))), .bool true]) ∧ Below W0.heap.size W0 w' := by
  have g1 := dg_lt pp 0
  have g2 := dg_par (R * J % pp)
  refine s_in Try.func36 Try.ntmps36 rfl [.inl (.agg (ai 22 (dg m)))] ?_
  intro β a h
  refine sym_seq ?_
  refine St.rg h [(1, .inr (0, pt 0)), (2, .inr (1, pt 0)), (3, .inl (.bool false))] [(ai 22 (dg m), 35), (ai 22 (fun _ => 0), 35)] [] [eN 0, eN 1] ?_ ?_
  · exact oc (k_bx 0 (.agg (ai 22 (dg m))) (bx22 (F := (dg m))) rfl rfl) <|
    oc (k_al 1 al22 rfl rfl) <|
    oz (k_mv (.inr rfl) rfl) <|
    ok_nil
  clear h; intro β a w h
  refine sym_then ?_
  refine sym_seq ?_
  refine St.rg h [(6, .inl (.agg (ai 22 (dg pp)))), (4, .inr (2, pt 0))] [(ai 22 (fun _ => 0), 35)] [(2, ai 22 (dg pp))] [nn, eN 2, eS 2] ?_ ?_
  · exact oc (k_ca 66 #[] (.agg (ai 22 (dg pp))) prime_r rfl rfl) <|
    oc (k_al 2 al22 rfl rfl) <|
    oc (k_st 2 0 (.agg (ai 22 (dg pp))) (c := ai 22 (fun _ => 0)) (n := ai 22 (dg pp)) (st22 (F := (dg pp)) (c := ai 22 (fun _ => 0)) 35 (ai_size _ _)) rfl rfl) <|
    ok_nil
  clear h; intro β a w h
  refine sym_then ?_
  refine sym_seq ?_
  refine St.rg h [(7, .inr (2, pt 0)), (8, .inl (.int .i64 ((((dg pp) 0) : Nat) : Int))), (9, .inl (.int .i64 (((((dg pp) 0) + 3) : Nat) : Int))), (10, .inr (2, pt 0))] [] [(2, ai 22 (updN (dg pp) 0 (((dg pp) 0) + 3)))] [nn, eR 2, nn, nn, eS 2] ?_ ?_
  · exact oc (k_ia 2 0 0 (.int .i64 ((0 : Nat) : Int)) (ix22 (i := 0) (by omega)) rfl rfl) <|
    oc (k_ld 2 0 (.int .i64 ((((dg pp) 0) : Nat) : Int)) (c := ai 22 (dg pp)) (ld_at (n := 22) (F := (dg pp)) (i := 0) (t0 := 35) (by omega)) rfl rfl) <|
    oc (k_bi (.int .i64 ((((dg pp) 0) : Nat) : Int)) (.int .i64 ((3 : Nat) : Int)) (.int .i64 (((((dg pp) 0) + 3) : Nat) : Int)) (ad_i (m := ((dg pp) 0)) (n := 3) (by omega)) rfl rfl) <|
    oc (k_ia 2 0 0 (.int .i64 ((0 : Nat) : Int)) (ix22 (i := 0) (by omega)) rfl rfl) <|
    oc (k_st 2 0 (.int .i64 (((((dg pp) 0) + 3) : Nat) : Int)) (c := ai 22 (dg pp)) (n := ai 22 (updN (dg pp) 0 (((dg pp) 0) + 3))) (st_at (n := 22) (F := (dg pp)) (i := 0) (v := (((dg pp) 0) + 3)) (t0 := 35) (by omega)) rfl rfl) <|
    ok_nil
  clear h; intro β a w h
  replace h := St.sm h 2 (ai 22 (dg e0)) (c := ai 22 (updN (dg pp) 0 (((dg pp) 0) + 3))) (t := 35) hE
  refine sym_then ?_
  refine sym_seq ?_
  refine St.rg h [(11, .inl (.agg (ai 22 (dg m)))), (12, .inl (.agg (ai 22 (dg e0)))), (13, .inl (.agg (ai 22 (dg e1)))), (14, .inl (.agg (ai 22 (dg e2)))), (15, .inl (.agg (ai 22 (dg k)))), (16, .inl (.agg (ai 22 (dg R)))), (5, .inr (3, pt 0))] [(ai 22 (fun _ => 0), 35)] [(3, ai 22 (dg R))] [eR 0, eR 2, nn, nn, nn, nn, eN 3, eS 3] ?_ ?_
  · exact oc (k_ld 0 0 (.agg (ai 22 (dg m))) (c := ai 22 (dg m)) (ld22 (F := (dg m)) 35) rfl rfl) <|
    oc (k_ld 2 0 (.agg (ai 22 (dg e0))) (c := ai 22 (dg e0)) (ld22 (F := (dg e0)) 35) rfl rfl) <|
    oc (k_ca 68 #[.agg (ai 22 (dg e0))] (.agg (ai 22 (dg e1))) k1 rfl rfl) <|
    oc (k_ca 68 #[.agg (ai 22 (dg e1))] (.agg (ai 22 (dg e2))) k2 rfl rfl) <|
    oc (k_ca 68 #[.agg (ai 22 (dg e2))] (.agg (ai 22 (dg k))) k3 rfl rfl) <|
    oc (k_ca 67 #[.agg (ai 22 (dg m)), .agg (ai 22 (dg k))] (.agg (ai 22 (dg R))) cP rfl rfl) <|
    oc (k_al 3 al22 rfl rfl) <|
    oc (k_st 3 0 (.agg (ai 22 (dg R))) (c := ai 22 (fun _ => 0)) (n := ai 22 (dg R)) (st22 (F := (dg R)) (c := ai 22 (fun _ => 0)) 35 (ai_size _ _)) rfl rfl) <|
    ok_nil
  clear h; intro β a w h
  refine sym_then ?_
  refine sym_seq ?_
  refine sym_seq ?_
  refine St.r0 h [(17, .inl (.agg (ai 22 (dg R)))), (18, .inl (.agg (ai 22 (dg R)))), (19, .inl (.agg (ai 22 (dg (R * R % pp))))), (20, .inl (.agg (ai 22 (dg m)))), (21, .inl (.bool true))] [eR 3, eR 3, nn, eR 0] ?_ ?_
  · exact oc (k_ld 3 0 (.agg (ai 22 (dg R))) (c := ai 22 (dg R)) (ld22 (F := (dg R)) 35) rfl rfl) <|
    oc (k_ld 3 0 (.agg (ai 22 (dg R))) (c := ai 22 (dg R)) (ld22 (F := (dg R)) 35) rfl rfl) <|
    oc (k_ca 35 #[.agg (ai 22 (dg R)), .agg (ai 22 (dg R))] (.agg (ai 22 (dg (R * R % pp)))) (fun w => times_r (m := R) (n := R) (lt_big (by first | exact mod_pp _ | assumption)) (lt_big (by first | exact mod_pp _ | assumption)) w) rfl rfl) <|
    oc (k_ld 0 0 (.agg (ai 22 (dg m))) (c := ai 22 (dg m)) (ld22 (F := (dg m)) 35) rfl rfl) <|
    oz (k_bi (.agg (ai 22 (dg (R * R % pp)))) (.agg (ai 22 (dg m))) (.bool true) (ne22_t (lt_big (mod_pp _)) (lt_big hm) h1) rfl rfl) <|
    ok_nil
  clear h; intro β a w h
  refine sym_then ?_
  refine s_ct h ?_
  refine St.rg h [(22, .inl (.agg (ai 22 (dg R)))), (23, .inl (.agg (ai 22 (dg 2)))), (24, .inl (.agg (ai 22 (dg pp)))), (25, .inl (.agg (ai 22 (dg 1)))), (26, .inl (.agg (ai 22 (dg f0)))), (27, .inl (.agg (ai 22 (dg f1)))), (28, .inl (.agg (ai 22 (dg f2)))), (29, .inl (.agg (ai 22 (dg J)))), (30, .inl (.agg (ai 22 (dg (R * J % pp)))))] [] [(3, ai 22 (dg (R * J % pp)))] [eR 3, nn, nn, nn, nn, nn, nn, nn, nn, eS 3] ?_ ?_
  · exact oc (k_ld 3 0 (.agg (ai 22 (dg R))) (c := ai 22 (dg R)) (ld22 (F := (dg R)) 35) rfl rfl) <|
    oc (k_ca 34 #[.int .i64 ((2 : Nat) : Int)] (.agg (ai 22 (dg 2))) (fun w => int_r (N := 2) (by decide) w) rfl rfl) <|
    oc (k_ca 66 #[] (.agg (ai 22 (dg pp))) prime_r rfl rfl) <|
    oc (k_ca 34 #[.int .i64 ((1 : Nat) : Int)] (.agg (ai 22 (dg 1))) (fun w => int_r (N := 1) (by decide) w) rfl rfl) <|
    oc (k_ca 69 #[.agg (ai 22 (dg pp)), .agg (ai 22 (dg 1))] (.agg (ai 22 (dg f0))) cF rfl rfl) <|
    oc (k_ca 68 #[.agg (ai 22 (dg f0))] (.agg (ai 22 (dg f1))) k4 rfl rfl) <|
    oc (k_ca 68 #[.agg (ai 22 (dg f1))] (.agg (ai 22 (dg f2))) k5 rfl rfl) <|
    oc (k_ca 67 #[.agg (ai 22 (dg 2)), .agg (ai 22 (dg f2))] (.agg (ai 22 (dg J))) cJ rfl rfl) <|
    oc (k_ca 35 #[.agg (ai 22 (dg R)), .agg (ai 22 (dg J))] (.agg (ai 22 (dg (R * J % pp)))) (fun w => times_r (m := R) (n := J) (lt_big (by first | exact mod_pp _ | assumption)) (lt_big (by first | exact mod_pp _ | assumption)) w) rfl rfl) <|
    oc (k_st 3 0 (.agg (ai 22 (dg (R * J % pp)))) (c := ai 22 (dg R)) (n := ai 22 (dg (R * J % pp))) (st22 (F := (dg (R * J % pp))) (c := ai 22 (dg R)) 35 (ai_size _ _)) rfl rfl) <|
    ok_nil
  clear h; intro β a w h
  refine sym_then ?_
  refine sym_seq ?_
  refine sym_seq ?_
  refine St.r0 h [(31, .inl (.agg (ai 22 (dg (R * J % pp))))), (32, .inl (.agg (ai 22 (dg (R * J % pp))))), (33, .inl (.agg (ai 22 (dg ((R * J % pp) * (R * J % pp) % pp))))), (34, .inl (.agg (ai 22 (dg m)))), (35, .inl (.bool false))] [eR 3, eR 3, nn, eR 0] ?_ ?_
  · exact oc (k_ld 3 0 (.agg (ai 22 (dg (R * J % pp)))) (c := ai 22 (dg (R * J % pp))) (ld22 (F := (dg (R * J % pp))) 35) rfl rfl) <|
    oc (k_ld 3 0 (.agg (ai 22 (dg (R * J % pp)))) (c := ai 22 (dg (R * J % pp))) (ld22 (F := (dg (R * J % pp))) 35) rfl rfl) <|
    oc (k_ca 35 #[.agg (ai 22 (dg (R * J % pp))), .agg (ai 22 (dg (R * J % pp)))] (.agg (ai 22 (dg ((R * J % pp) * (R * J % pp) % pp)))) (fun w => times_r (m := (R * J % pp)) (n := (R * J % pp)) (lt_big (by first | exact mod_pp _ | assumption)) (lt_big (by first | exact mod_pp _ | assumption)) w) rfl rfl) <|
    oc (k_ld 0 0 (.agg (ai 22 (dg m))) (c := ai 22 (dg m)) (ld22 (F := (dg m)) 35) rfl rfl) <|
    oz (k_bi (.agg (ai 22 (dg ((R * J % pp) * (R * J % pp) % pp)))) (.agg (ai 22 (dg m))) (.bool false) (fun w => by rw [h2]; exact ne22_f m w) rfl rfl) <|
    ok_nil
  clear h; intro β a w h
  refine sym_then ?_
  refine s_cf h ?_
  refine wp_skip ?_
  refine sym_then ?_
  refine sym_seq ?_
  refine sym_seq ?_
  refine St.r0 h [(37, .inr (3, pt 0)), (38, .inl (.int .i64 ((((dg (R * J % pp)) 0) : Nat) : Int))), (39, .inl (.int .i64 (((((dg (R * J % pp)) 0) % 2) : Nat) : Int))), (40, .inl (.bool true))] [nn, eR 3] ?_ ?_
  · exact oc (k_ia 3 0 0 (.int .i64 ((0 : Nat) : Int)) (ix22 (i := 0) (by omega)) rfl rfl) <|
    oc (k_ld 3 0 (.int .i64 ((((dg (R * J % pp)) 0) : Nat) : Int)) (c := ai 22 (dg (R * J % pp))) (ld_at (n := 22) (F := (dg (R * J % pp))) (i := 0) (t0 := 35) (by omega)) rfl rfl) <|
    oz (k_bi (.int .i64 ((((dg (R * J % pp)) 0) : Nat) : Int)) (.int .i64 ((2 : Nat) : Int)) (.int .i64 (((((dg (R * J % pp)) 0) % 2) : Nat) : Int)) (re_i (m := ((dg (R * J % pp)) 0)) (n := 2) (by decide)) rfl rfl) <|
    oz (k_bi (.int .i64 (((((dg (R * J % pp)) 0) % 2) : Nat) : Int)) (.int .i64 ((1 : Nat) : Int)) (.bool true) (eq_i (m := (((((dg (R * J % pp)) 0) % 2) : Nat) : Int)) (n := ((1 : Nat) : Int)) (decide_eq_true (by omega))) rfl rfl) <|
    ok_nil
  clear h; intro β a w h
  refine sym_then ?_
  refine s_ct h ?_
  refine St.rg h [(41, .inl (.agg (ai 22 (dg pp)))), (42, .inl (.agg (ai 22 (dg (R * J % pp))))), (43, .inl (.agg (ai 22 (dg (pp - (R * J % pp))))))] [] [(3, ai 22 (dg (pp - (R * J % pp))))] [nn, eR 3, nn, eS 3] ?_ ?_
  · exact oc (k_ca 66 #[] (.agg (ai 22 (dg pp))) prime_r rfl rfl) <|
    oc (k_ld 3 0 (.agg (ai 22 (dg (R * J % pp)))) (c := ai 22 (dg (R * J % pp))) (ld22 (F := (dg (R * J % pp))) 35) rfl rfl) <|
    oc (k_ca 69 #[.agg (ai 22 (dg pp)), .agg (ai 22 (dg (R * J % pp)))] (.agg (ai 22 (dg (pp - (R * J % pp))))) (fun w => less_r (Nat.le_of_lt (mod_pp _)) w) rfl rfl) <|
    oc (k_st 3 0 (.agg (ai 22 (dg (pp - (R * J % pp))))) (c := ai 22 (dg (R * J % pp))) (n := ai 22 (dg (pp - (R * J % pp)))) (st22 (F := (dg (pp - (R * J % pp)))) (c := ai 22 (dg (R * J % pp))) 35 (ai_size _ _)) rfl rfl) <|
    ok_nil
  clear h; intro β a w h
  refine sym_then ?_
  refine sym_seq ?_
  refine St.rg h [(44, .inl (.agg (ai 22 (dg (pp - (R * J % pp)))))), (3, .inl (.bool true))] [] [(1, ai 22 (dg (pp - (R * J % pp))))] [eR 3, eS 1] ?_ ?_
  · exact oc (k_ld 3 0 (.agg (ai 22 (dg (pp - (R * J % pp))))) (c := ai 22 (dg (pp - (R * J % pp)))) (ld22 (F := (dg (pp - (R * J % pp)))) 35) rfl rfl) <|
    oc (k_st 1 0 (.agg (ai 22 (dg (pp - (R * J % pp))))) (c := ai 22 (fun _ => 0)) (n := ai 22 (dg (pp - (R * J % pp)))) (st22 (F := (dg (pp - (R * J % pp)))) (c := ai 22 (fun _ => 0)) 35 (ai_size _ _)) rfl rfl) <|
    oz (k_mv (.inr rfl) rfl) <|
    ok_nil
  clear h; intro β a w h
  refine sym_then ?_
  refine wp_ret ?_
  exact s_r2 (b := 1) (t0 := 35) (c := ai 22 (dg (pp - (R * J % pp)))) h Try.results36 Try.underlying35 (fun hb => ⟨rfl, hb⟩) (by rw [ai_size]; kernel_rfl)

theorem i_pow : ∀ f, f = (pp - 1) / 2 / 2 → 2 ^ f % pp = iRt := by
  intro f hf
  have hb : f < 2 ^ 255 := by rw [hf]; decide +kernel
  rw [← pmod_eq 2 pp 255 f hb, hf]
  decide +kernel
theorem odd_neg {y : Nat} (hy : y < pp) (ho : y % 2 = 1) : (0 + (pp - y)) % pp = pp - y := by
  rw [Nat.zero_add]; exact Nat.mod_eq_of_lt (by omega)
/-- Both roots: the program's and the document's. -/
theorem root_both {m : Nat} (hm : m < pp) : ∃ (r : Nat) (b : Bool), r < pp ∧ (∀ w, Calls Try.prog 61 #[el (dig m)] w fun e w' => e = .returned (.tuple #[el (dig r), .bool b]) ∧ Below w.heap.size w w') ∧ (∀ w, Calls Try.prog 36 #[.agg (ai 22 (dg m))] w fun e w' => e = .returned (.tuple #[.agg (ai 22 (dg r)), .bool b]) ∧ Below w.heap.size w w') := by
  obtain ⟨k, hk, c⟩ := anyRoot_d hm
  have hE : ai 22 (updN (dg pp) 0 (dg pp 0 + 3)) = ai 22 (dg (pp + 3)) := ai_congr (by decide +kernel)
  have b0 : pp + 3 < 4096 ^ 22 := by decide +kernel
  have b1 : (pp + 3) / 2 < 4096 ^ 22 := by decide +kernel
  have b2 : (pp + 3) / 2 / 2 < 4096 ^ 22 := by decide +kernel
  have ek : (pp + 3) / 2 / 2 / 2 = k := by rw [hk.out]; decide +kernel
  have hk2 : k < 2 ^ 255 := by rw [← ek]; decide +kernel
  have k1 := half_r b0
  have k2 := half_r b1
  have k3 := half_r b2
  rw [ek] at k3
  have cP := power_r hm hk2
  have hR : m ^ k % pp < pp := mod_pp _
  have d0 : pp - 1 < 4096 ^ 22 := by decide +kernel
  have d1 : (pp - 1) / 2 < 4096 ^ 22 := by decide +kernel
  have cF := less_r (m := pp) (n := 1) (Nat.le_of_lt one_lt)
  have k4 := half_r d0
  have k5 := half_r d1
  obtain ⟨f2, hf2⟩ : ∃ f2, (pp - 1) / 2 / 2 = f2 := ⟨_, rfl⟩
  have hf255 : f2 < 2 ^ 255 := by rw [← hf2]; decide +kernel
  rw [hf2] at k5
  have cJ := power_r two_lt hf255
  rw [i_pow f2 hf2.symm] at cJ
  have hJ := iRt_lt
  have at1 : ∀ R m : Nat, R * R % pp = m → aRt R m = R := fun _ _ h => aRt_t h
  have at2 : ∀ R m : Nat, ¬ R * R % pp = m → aRt R m = R * iRt % pp := fun _ _ h => aRt_f h
  generalize m ^ k % pp = R at *
  generalize iRt = J at *
  clear hf2 ek hk hk2 hf255
  by_cases h1 : R * R % pp = m
  · rw [at1 R m h1, decide_eq_true h1] at c
    rcases (show R % 2 = 0 ∨ R % 2 = 1 by omega) with hp | hp
    · exact ⟨R, true, hR, root_ev hR (decide_eq_true hp) c, rr_1e hR hE k1 k2 k3 cP h1 hp⟩
    · have := root_od hR (decide_eq_false (by omega)) c
      rw [odd_neg hR hp] at this
      exact ⟨pp - R, true, by omega, this, rr_1o hR hE k1 k2 k3 cP h1 hp⟩
  · rw [at2 R m h1] at c
    have hy : R * J % pp < pp := mod_pp _
    by_cases h2 : (R * J % pp) * (R * J % pp) % pp = m
    · rw [decide_eq_true h2] at c
      rcases (show (R * J % pp) % 2 = 0 ∨ (R * J % pp) % 2 = 1 by omega) with hp | hp
      · exact ⟨_, true, hy, root_ev hy (decide_eq_true hp) c, rr_2e hm hR hE k1 k2 k3 cP hJ cF k4 k5 cJ h1 h2 hp⟩
      · have := root_od hy (decide_eq_false (by omega)) c
        rw [odd_neg hy hp] at this
        exact ⟨_, true, by omega, this, rr_2o hm hR hE k1 k2 k3 cP hJ cF k4 k5 cJ h1 h2 hp⟩
    · rw [decide_eq_false h2] at c
      exact ⟨0, false, pp_pos, root_no c, rr_2n hm hR hE k1 k2 k3 cP hJ cF k4 k5 cJ h1 h2⟩
end Go.Proofs.Ytpogmflgmpifoaa

namespace Go.Proofs.Ytpogmflgmpifoaa
open Go.RowKit

theorem plus_rm {m n : Nat} (hm : m < pp) (hn : n < pp) (w : World) : Calls Try.prog 39 #[.agg (ai 22 (dg m)), .agg (ai 22 (dg n))] w fun e w' => e = .returned (.agg (ai 22 (dg (ad m n)))) ∧ Below w.heap.size w w' := plus_r (lt_big hm) (lt_big hn) w
theorem minus_rm {m n : Nat} (hm : m < pp) (hn : n < pp) (w : World) : Calls Try.prog 38 #[.agg (ai 22 (dg m)), .agg (ai 22 (dg n))] w fun e w' => e = .returned (.agg (ai 22 (dg (sb m n)))) ∧ Below w.heap.size w w' := minus_r (lt_big hm) (Nat.le_of_lt hn) w
theorem times_rm {m n : Nat} (hm : m < pp) (hn : n < pp) (w : World) : Calls Try.prog 35 #[.agg (ai 22 (dg m)), .agg (ai 22 (dg n))] w fun e w' => e = .returned (.agg (ai 22 (dg (mu m n)))) ∧ Below w.heap.size w w' := times_r (lt_big hm) (lt_big hn) w
theorem over_rm {m n : Nat} (hm : m < pp) (hn : n < pp) (w : World) : Calls Try.prog 37 #[.agg (ai 22 (dg m)), .agg (ai 22 (dg n))] w fun e w' => e = .returned (.agg (ai 22 (dg (mu m (inv n))))) ∧ Below w.heap.size w w' := by
  obtain ⟨k, hk⟩ : ∃ k : Nat, k = 57896044618658097711785492504343953926634992332820282019728792003956564819947 := ⟨_, rfl⟩
  have := over_r hm hn hk w
  rwa [inv_pow_eq hk] at this
theorem key_rm {n : Nat} (hn : n < pp) (w : World) : Calls Try.prog 32 #[.agg (ai 22 (dg n))] w fun e w' => e = .returned (.agg (ck (kb n))) ∧ Below w.heap.size w w' := key_r (pp_256 hn) w
theorem kb_top {n : Nat} (hn : n < pp) : kb n 31 < 128 := by rw [← byt_kb n 31 (by omega)]; exact byt_top hn
theorem dg_par4 (n : Nat) : dg n 0 % 2 = n % 2 := dg_par n
theorem qu_b {x u : Operand} {m : Nat} (h : m < 256) (w : World) : (do eqGuard .quo 5 x u (.int .u8 ((m : Nat) : Int)) (.int .u8 ((128 : Nat) : Int)); binOp .quo 5 (.int .u8 ((m : Nat) : Int)) (.int .u8 ((128 : Nat) : Int))).run Try.prog w = .ok (.int .u8 ((m / 128 : Nat) : Int)) w := by
  have h1 : IntKind.u8.wrap ((m : Int) / 128) = (m : Int) / 128 := by rw [IntKind.wrap_u8]; omega
  simp [eqGuard, binOp, go_sem, h1]
theorem re_b {x u : Operand} {m : Nat} (w : World) : (do eqGuard .rem 5 x u (.int .u8 ((m : Nat) : Int)) (.int .u8 ((128 : Nat) : Int)); binOp .rem 5 (.int .u8 ((m : Nat) : Int)) (.int .u8 ((128 : Nat) : Int))).run Try.prog w = .ok (.int .u8 ((m % 128 : Nat) : Int)) w := by
  have h1 : (m : Int).tmod 128 = (m : Int) % 128 := Int.tmod_eq_emod_of_nonneg (by omega)
  simp [eqGuard, binOp, go_sem, h1]
end Go.Proofs.Ytpogmflgmpifoaa

namespace Go.Proofs.Ytpogmflgmpifoaa
open Go.RowKit

set_option maxHeartbeats 4000000 in
theorem slope_r  (W0 : World) : Calls Try.prog 40 #[] W0 fun e w' => e = .returned (.agg (ai 22 (dg dN))) ∧ Below W0.heap.size W0 w' := by
  refine s_in Try.func40 Try.ntmps40 rfl [] ?_
  intro β a h
  refine sym_seq ?_
  refine St.rg h [(0, .inr (0, pt 0))] [(ai 22 (fun _ => 0), 35)] [] [eN 0] ?_ ?_
  · exact oc (k_al 0 al22 rfl rfl) <|
    ok_nil
  clear h; intro β a w h
  refine sym_then ?_
  refine sym_seq ?_
  refine St.rg h [(1, .inl (.agg (ck (kl [163, 120, 89, 19, 202, 77, 235, 117, 171, 216, 65, 65, 77, 10, 112, 0, 152, 232, 121, 119, 121, 64, 199, 140, 115, 254, 111, 43, 238, 108, 3, 82])))), (2, .inl (.agg (ai 22 (dg dN))))] [] [(0, ai 22 (dg dN))] [nn, nn, eS 0] ?_ ?_
  · exact oc (k_bu #[(0, .int .u8 ((163 : Nat) : Int)), (1, .int .u8 ((120 : Nat) : Int)), (2, .int .u8 ((89 : Nat) : Int)), (3, .int .u8 ((19 : Nat) : Int)), (4, .int .u8 ((202 : Nat) : Int)), (5, .int .u8 ((77 : Nat) : Int)), (6, .int .u8 ((235 : Nat) : Int)), (7, .int .u8 ((117 : Nat) : Int)), (8, .int .u8 ((171 : Nat) : Int)), (9, .int .u8 ((216 : Nat) : Int)), (10, .int .u8 ((65 : Nat) : Int)), (11, .int .u8 ((65 : Nat) : Int)), (12, .int .u8 ((77 : Nat) : Int)), (13, .int .u8 ((10 : Nat) : Int)), (14, .int .u8 ((112 : Nat) : Int)), (15, .int .u8 ((0 : Nat) : Int)), (16, .int .u8 ((152 : Nat) : Int)), (17, .int .u8 ((232 : Nat) : Int)), (18, .int .u8 ((121 : Nat) : Int)), (19, .int .u8 ((119 : Nat) : Int)), (20, .int .u8 ((121 : Nat) : Int)), (21, .int .u8 ((64 : Nat) : Int)), (22, .int .u8 ((199 : Nat) : Int)), (23, .int .u8 ((140 : Nat) : Int)), (24, .int .u8 ((115 : Nat) : Int)), (25, .int .u8 ((254 : Nat) : Int)), (26, .int .u8 ((111 : Nat) : Int)), (27, .int .u8 ((43 : Nat) : Int)), (28, .int .u8 ((238 : Nat) : Int)), (29, .int .u8 ((108 : Nat) : Int)), (30, .int .u8 ((3 : Nat) : Int)), (31, .int .u8 ((82 : Nat) : Int))] (.agg (ck (kl [163, 120, 89, 19, 202, 77, 235, 117, 171, 216, 65, 65, 77, 10, 112, 0, 152, 232, 121, 119, 121, 64, 199, 140, 115, 254, 111, 43, 238, 108, 3, 82]))) (fun w => by kernel_rfl) rfl rfl) <|
    oc (k_ca 31 #[.agg (ck (kl [163, 120, 89, 19, 202, 77, 235, 117, 171, 216, 65, 65, 77, 10, 112, 0, 152, 232, 121, 119, 121, 64, 199, 140, 115, 254, 111, 43, 238, 108, 3, 82]))] (.agg (ai 22 (dg dN))) (fun w => by have := of_r (b := (kl [163, 120, 89, 19, 202, 77, 235, 117, 171, 216, 65, 65, 77, 10, 112, 0, 152, 232, 121, 119, 121, 64, 199, 140, 115, 254, 111, 43, 238, 108, 3, 82])) (kl_lt (by decide)) w; rwa [show ofb (kl [163, 120, 89, 19, 202, 77, 235, 117, 171, 216, 65, 65, 77, 10, 112, 0, 152, 232, 121, 119, 121, 64, 199, 140, 115, 254, 111, 43, 238, 108, 3, 82]) = dN by decide +kernel] at this) rfl rfl) <|
    oc (k_st 0 0 (.agg (ai 22 (dg dN))) (c := ai 22 (fun _ => 0)) (n := ai 22 (dg dN)) (st22 (F := (dg dN)) (c := ai 22 (fun _ => 0)) 35 (ai_size _ _)) rfl rfl) <|
    ok_nil
  clear h; intro β a w h
  refine sym_then ?_
  refine wp_ret ?_
  exact s_rc (b := 0) (t0 := 35) (c := ai 22 (dg dN)) h Try.results40 Try.underlying35 (fun hb => ⟨rfl, hb⟩) (by rw [ai_size]; kernel_rfl)

set_option maxHeartbeats 4000000 in
theorem origin_r  (W0 : World) : Calls Try.prog 33 #[] W0 fun e w' => e = .returned (.agg (cis [0, 1, 1, 0])) ∧ Below W0.heap.size W0 w' := by
  refine s_in Try.func33 Try.ntmps33 rfl [] ?_
  intro β a h
  refine sym_seq ?_
  refine St.rg h [(0, .inr (0, pt 0))] [(cis [0, 0, 0, 0], 37)] [] [eN 0] ?_ ?_
  · exact oc (k_al 0 alR rfl rfl) <|
    ok_nil
  clear h; intro β a w h
  refine sym_then ?_
  refine sym_seq ?_
  refine St.rg h [(2, .inl (.agg (ai 22 (dg 1)))), (1, .inr (1, pt 0))] [(ai 22 (fun _ => 0), 35)] [(1, ai 22 (dg 1))] [nn, eN 1, eS 1] ?_ ?_
  · exact oc (k_ca 34 #[.int .i64 ((1 : Nat) : Int)] (.agg (ai 22 (dg 1))) (fun w => int_r (N := 1) (by decide) w) rfl rfl) <|
    oc (k_al 1 al22 rfl rfl) <|
    oc (k_st 1 0 (.agg (ai 22 (dg 1))) (c := ai 22 (fun _ => 0)) (n := ai 22 (dg 1)) (st22 (F := (dg 1)) (c := ai 22 (fun _ => 0)) 35 (ai_size _ _)) rfl rfl) <|
    ok_nil
  clear h; intro β a w h
  refine sym_then ?_
  refine sym_seq ?_
  refine St.rg h [(3, .inl (.agg (ai 22 (dg 1)))), (4, .inl (.agg (ai 22 (dg 1)))), (5, .inl (.agg (cis [0, 1, 1, 0])))] [] [(0, cis [0, 1, 1, 0])] [eR 1, eR 1, nn, eS 0] ?_ ?_
  · exact oc (k_ld 1 0 (.agg (ai 22 (dg 1))) (c := ai 22 (dg 1)) (ld22 (F := (dg 1)) 35) rfl rfl) <|
    oc (k_ld 1 0 (.agg (ai 22 (dg 1))) (c := ai 22 (dg 1)) (ld22 (F := (dg 1)) 35) rfl rfl) <|
    oc (k_bu #[(1, .agg (ai 22 (dg 1))), (2, .agg (ai 22 (dg 1)))] (.agg (cis [0, 1, 1, 0])) (bdR2 (b := 1) (c := 1)) rfl rfl) <|
    oc (k_st 0 0 (.agg (cis [0, 1, 1, 0])) (c := cis [0, 0, 0, 0]) (n := cis [0, 1, 1, 0]) (stR (a := 0) (b := 1) (c := 1) (d := 0) (e := cis [0, 0, 0, 0]) 37 (by rw [cis_size]; rfl)) rfl rfl) <|
    ok_nil
  clear h; intro β a w h
  refine sym_then ?_
  refine wp_ret ?_
  exact s_rc (b := 0) (t0 := 37) (c := cis [0, 1, 1, 0]) h Try.results33 Try.underlying37 (fun hb => ⟨rfl, hb⟩) (by rw [cis_size]; kernel_rfl)

set_option maxHeartbeats 4000000 in
theorem plus_rp {x1 y1 z1 t1 x2 y2 z2 t2 : Nat} (hx1 : x1 < pp) (hy1 : y1 < pp) (hz1 : z1 < pp) (ht1 : t1 < pp) (hx2 : x2 < pp) (hy2 : y2 < pp) (hz2 : z2 < pp) (ht2 : t2 < pp) (W0 : World) : Calls Try.prog 48 #[.agg (cis [x1, y1, z1, t1]), .agg (cis [x2, y2, z2, t2])] W0 fun e w' => e = .returned (.agg (cis [mu (ad (mu x1 y2) (mu y1 x2)) (sb (mu z1 z2) (mu dN (mu t1 t2))), mu (ad (mu z1 z2) (mu dN (mu t1 t2))) (ad (mu y1 y2) (mu x1 x2)), mu (sb (mu z1 z2) (mu dN (mu t1 t2))) (ad (mu z1 z2) (mu dN (mu t1 t2))), mu (ad (mu x1 y2) (mu y1 x2)) (ad (mu y1 y2) (mu x1 x2))])) ∧ Below W0.heap.size W0 w' := by
  refine s_in Try.func48 Try.ntmps48 rfl [.inl (.agg (cis [x1, y1, z1, t1])), .inl (.agg (cis [x2, y2, z2, t2]))] ?_
  intro β a h
  refine sym_seq ?_
  refine St.rg h [(2, .inr (0, pt 0)), (3, .inr (1, pt 0)), (4, .inr (2, pt 0))] [(cis [x1, y1, z1, t1], 37), (cis [x2, y2, z2, t2], 37), (cis [0, 0, 0, 0], 37)] [] [eN 0, eN 1, eN 2] ?_ ?_
  · exact oc (k_bx 0 (.agg (cis [x1, y1, z1, t1])) (bxR (a := x1) (b := y1) (c := z1) (d := t1)) rfl rfl) <|
    oc (k_bx 1 (.agg (cis [x2, y2, z2, t2])) (bxR (a := x2) (b := y2) (c := z2) (d := t2)) rfl rfl) <|
    oc (k_al 2 alR rfl rfl) <|
    ok_nil
  clear h; intro β a w h
  refine sym_then ?_
  refine sym_seq ?_
  refine St.rg h [(13, .inr (0, pt 0)), (14, .inl (.agg (ai 22 (dg x1)))), (15, .inr (1, pt 0)), (16, .inl (.agg (ai 22 (dg x2)))), (17, .inl (.agg (ai 22 (dg (mu x1 x2))))), (5, .inr (3, pt 0))] [(ai 22 (fun _ => 0), 35)] [(3, ai 22 (dg (mu x1 x2)))] [nn, eR 0, nn, eR 1, nn, eN 3, eS 3] ?_ ?_
  · exact oc (k_fa 0 0 0 rfl rfl) <|
    oc (k_ld 0 0 (.agg (ai 22 (dg x1))) (c := cis [x1, y1, z1, t1]) (ld_cis (l := [x1, y1, z1, t1]) (k := 0) (n := x1) 37 rfl) rfl rfl) <|
    oc (k_fa 1 0 0 rfl rfl) <|
    oc (k_ld 1 0 (.agg (ai 22 (dg x2))) (c := cis [x2, y2, z2, t2]) (ld_cis (l := [x2, y2, z2, t2]) (k := 0) (n := x2) 37 rfl) rfl rfl) <|
    oc (k_ca 35 #[.agg (ai 22 (dg x1)), .agg (ai 22 (dg x2))] (.agg (ai 22 (dg (mu x1 x2)))) (fun w => times_rm hx1 hx2 w) rfl rfl) <|
    oc (k_al 3 al22 rfl rfl) <|
    oc (k_st 3 0 (.agg (ai 22 (dg (mu x1 x2)))) (c := ai 22 (fun _ => 0)) (n := ai 22 (dg (mu x1 x2))) (st22 (F := (dg (mu x1 x2))) (c := ai 22 (fun _ => 0)) 35 (ai_size _ _)) rfl rfl) <|
    ok_nil
  clear h; intro β a w h
  refine sym_then ?_
  refine sym_seq ?_
  refine St.rg h [(18, .inr (0, pt 22)), (19, .inl (.agg (ai 22 (dg y1)))), (20, .inr (1, pt 22)), (21, .inl (.agg (ai 22 (dg y2)))), (22, .inl (.agg (ai 22 (dg (mu y1 y2))))), (6, .inr (4, pt 0))] [(ai 22 (fun _ => 0), 35)] [(4, ai 22 (dg (mu y1 y2)))] [nn, eR 0, nn, eR 1, nn, eN 4, eS 4] ?_ ?_
  · exact oc (k_fa 0 0 22 rfl rfl) <|
    oc (k_ld 0 22 (.agg (ai 22 (dg y1))) (c := cis [x1, y1, z1, t1]) (ld_cis (l := [x1, y1, z1, t1]) (k := 1) (n := y1) 37 rfl) rfl rfl) <|
    oc (k_fa 1 0 22 rfl rfl) <|
    oc (k_ld 1 22 (.agg (ai 22 (dg y2))) (c := cis [x2, y2, z2, t2]) (ld_cis (l := [x2, y2, z2, t2]) (k := 1) (n := y2) 37 rfl) rfl rfl) <|
    oc (k_ca 35 #[.agg (ai 22 (dg y1)), .agg (ai 22 (dg y2))] (.agg (ai 22 (dg (mu y1 y2)))) (fun w => times_rm hy1 hy2 w) rfl rfl) <|
    oc (k_al 4 al22 rfl rfl) <|
    oc (k_st 4 0 (.agg (ai 22 (dg (mu y1 y2)))) (c := ai 22 (fun _ => 0)) (n := ai 22 (dg (mu y1 y2))) (st22 (F := (dg (mu y1 y2))) (c := ai 22 (fun _ => 0)) 35 (ai_size _ _)) rfl rfl) <|
    ok_nil
  clear h; intro β a w h
  refine sym_then ?_
  refine sym_seq ?_
  refine St.rg h [(23, .inl (.agg (ai 22 (dg dN)))), (24, .inr (0, pt 66)), (25, .inl (.agg (ai 22 (dg t1)))), (26, .inr (1, pt 66)), (27, .inl (.agg (ai 22 (dg t2)))), (28, .inl (.agg (ai 22 (dg (mu t1 t2))))), (29, .inl (.agg (ai 22 (dg (mu dN (mu t1 t2)))))), (7, .inr (5, pt 0))] [(ai 22 (fun _ => 0), 35)] [(5, ai 22 (dg (mu dN (mu t1 t2))))] [nn, nn, eR 0, nn, eR 1, nn, nn, eN 5, eS 5] ?_ ?_
  · exact oc (k_ca 40 #[] (.agg (ai 22 (dg dN))) slope_r rfl rfl) <|
    oc (k_fa 0 0 66 rfl rfl) <|
    oc (k_ld 0 66 (.agg (ai 22 (dg t1))) (c := cis [x1, y1, z1, t1]) (ld_cis (l := [x1, y1, z1, t1]) (k := 3) (n := t1) 37 rfl) rfl rfl) <|
    oc (k_fa 1 0 66 rfl rfl) <|
    oc (k_ld 1 66 (.agg (ai 22 (dg t2))) (c := cis [x2, y2, z2, t2]) (ld_cis (l := [x2, y2, z2, t2]) (k := 3) (n := t2) 37 rfl) rfl rfl) <|
    oc (k_ca 35 #[.agg (ai 22 (dg t1)), .agg (ai 22 (dg t2))] (.agg (ai 22 (dg (mu t1 t2)))) (fun w => times_rm ht1 ht2 w) rfl rfl) <|
    oc (k_ca 35 #[.agg (ai 22 (dg dN)), .agg (ai 22 (dg (mu t1 t2)))] (.agg (ai 22 (dg (mu dN (mu t1 t2))))) (fun w => times_rm dN_lt (mu_lt _ _) w) rfl rfl) <|
    oc (k_al 5 al22 rfl rfl) <|
    oc (k_st 5 0 (.agg (ai 22 (dg (mu dN (mu t1 t2))))) (c := ai 22 (fun _ => 0)) (n := ai 22 (dg (mu dN (mu t1 t2)))) (st22 (F := (dg (mu dN (mu t1 t2)))) (c := ai 22 (fun _ => 0)) 35 (ai_size _ _)) rfl rfl) <|
    ok_nil
  clear h; intro β a w h
  refine sym_then ?_
  refine sym_seq ?_
  refine St.rg h [(30, .inr (0, pt 44)), (31, .inl (.agg (ai 22 (dg z1)))), (32, .inr (1, pt 44)), (33, .inl (.agg (ai 22 (dg z2)))), (34, .inl (.agg (ai 22 (dg (mu z1 z2))))), (8, .inr (6, pt 0))] [(ai 22 (fun _ => 0), 35)] [(6, ai 22 (dg (mu z1 z2)))] [nn, eR 0, nn, eR 1, nn, eN 6, eS 6] ?_ ?_
  · exact oc (k_fa 0 0 44 rfl rfl) <|
    oc (k_ld 0 44 (.agg (ai 22 (dg z1))) (c := cis [x1, y1, z1, t1]) (ld_cis (l := [x1, y1, z1, t1]) (k := 2) (n := z1) 37 rfl) rfl rfl) <|
    oc (k_fa 1 0 44 rfl rfl) <|
    oc (k_ld 1 44 (.agg (ai 22 (dg z2))) (c := cis [x2, y2, z2, t2]) (ld_cis (l := [x2, y2, z2, t2]) (k := 2) (n := z2) 37 rfl) rfl rfl) <|
    oc (k_ca 35 #[.agg (ai 22 (dg z1)), .agg (ai 22 (dg z2))] (.agg (ai 22 (dg (mu z1 z2)))) (fun w => times_rm hz1 hz2 w) rfl rfl) <|
    oc (k_al 6 al22 rfl rfl) <|
    oc (k_st 6 0 (.agg (ai 22 (dg (mu z1 z2)))) (c := ai 22 (fun _ => 0)) (n := ai 22 (dg (mu z1 z2))) (st22 (F := (dg (mu z1 z2))) (c := ai 22 (fun _ => 0)) 35 (ai_size _ _)) rfl rfl) <|
    ok_nil
  clear h; intro β a w h
  refine sym_then ?_
  refine sym_seq ?_
  refine St.rg h [(35, .inr (0, pt 0)), (36, .inl (.agg (ai 22 (dg x1)))), (37, .inr (1, pt 22)), (38, .inl (.agg (ai 22 (dg y2)))), (39, .inl (.agg (ai 22 (dg (mu x1 y2))))), (40, .inr (0, pt 22)), (41, .inl (.agg (ai 22 (dg y1)))), (42, .inr (1, pt 0)), (43, .inl (.agg (ai 22 (dg x2)))), (44, .inl (.agg (ai 22 (dg (mu y1 x2))))), (45, .inl (.agg (ai 22 (dg (ad (mu x1 y2) (mu y1 x2)))))), (9, .inr (7, pt 0))] [(ai 22 (fun _ => 0), 35)] [(7, ai 22 (dg (ad (mu x1 y2) (mu y1 x2))))] [nn, eR 0, nn, eR 1, nn, nn, eR 0, nn, eR 1, nn, nn, eN 7, eS 7] ?_ ?_
  · exact oc (k_fa 0 0 0 rfl rfl) <|
    oc (k_ld 0 0 (.agg (ai 22 (dg x1))) (c := cis [x1, y1, z1, t1]) (ld_cis (l := [x1, y1, z1, t1]) (k := 0) (n := x1) 37 rfl) rfl rfl) <|
    oc (k_fa 1 0 22 rfl rfl) <|
    oc (k_ld 1 22 (.agg (ai 22 (dg y2))) (c := cis [x2, y2, z2, t2]) (ld_cis (l := [x2, y2, z2, t2]) (k := 1) (n := y2) 37 rfl) rfl rfl) <|
    oc (k_ca 35 #[.agg (ai 22 (dg x1)), .agg (ai 22 (dg y2))] (.agg (ai 22 (dg (mu x1 y2)))) (fun w => times_rm hx1 hy2 w) rfl rfl) <|
    oc (k_fa 0 0 22 rfl rfl) <|
    oc (k_ld 0 22 (.agg (ai 22 (dg y1))) (c := cis [x1, y1, z1, t1]) (ld_cis (l := [x1, y1, z1, t1]) (k := 1) (n := y1) 37 rfl) rfl rfl) <|
    oc (k_fa 1 0 0 rfl rfl) <|
    oc (k_ld 1 0 (.agg (ai 22 (dg x2))) (c := cis [x2, y2, z2, t2]) (ld_cis (l := [x2, y2, z2, t2]) (k := 0) (n := x2) 37 rfl) rfl rfl) <|
    oc (k_ca 35 #[.agg (ai 22 (dg y1)), .agg (ai 22 (dg x2))] (.agg (ai 22 (dg (mu y1 x2)))) (fun w => times_rm hy1 hx2 w) rfl rfl) <|
    oc (k_ca 39 #[.agg (ai 22 (dg (mu x1 y2))), .agg (ai 22 (dg (mu y1 x2)))] (.agg (ai 22 (dg (ad (mu x1 y2) (mu y1 x2))))) (fun w => plus_rm (mu_lt _ _) (mu_lt _ _) w) rfl rfl) <|
    oc (k_al 7 al22 rfl rfl) <|
    oc (k_st 7 0 (.agg (ai 22 (dg (ad (mu x1 y2) (mu y1 x2))))) (c := ai 22 (fun _ => 0)) (n := ai 22 (dg (ad (mu x1 y2) (mu y1 x2)))) (st22 (F := (dg (ad (mu x1 y2) (mu y1 x2)))) (c := ai 22 (fun _ => 0)) 35 (ai_size _ _)) rfl rfl) <|
    ok_nil
  clear h; intro β a w h
  refine sym_then ?_
  refine sym_seq ?_
  refine St.rg h [(46, .inl (.agg (ai 22 (dg (mu z1 z2))))), (47, .inl (.agg (ai 22 (dg (mu dN (mu t1 t2)))))), (48, .inl (.agg (ai 22 (dg (sb (mu z1 z2) (mu dN (mu t1 t2))))))), (10, .inr (8, pt 0))] [(ai 22 (fun _ => 0), 35)] [(8, ai 22 (dg (sb (mu z1 z2) (mu dN (mu t1 t2)))))] [eR 6, eR 5, nn, eN 8, eS 8] ?_ ?_
  · exact oc (k_ld 6 0 (.agg (ai 22 (dg (mu z1 z2)))) (c := ai 22 (dg (mu z1 z2))) (ld22 (F := (dg (mu z1 z2))) 35) rfl rfl) <|
    oc (k_ld 5 0 (.agg (ai 22 (dg (mu dN (mu t1 t2))))) (c := ai 22 (dg (mu dN (mu t1 t2)))) (ld22 (F := (dg (mu dN (mu t1 t2)))) 35) rfl rfl) <|
    oc (k_ca 38 #[.agg (ai 22 (dg (mu z1 z2))), .agg (ai 22 (dg (mu dN (mu t1 t2))))] (.agg (ai 22 (dg (sb (mu z1 z2) (mu dN (mu t1 t2)))))) (fun w => minus_rm (mu_lt _ _) (mu_lt _ _) w) rfl rfl) <|
    oc (k_al 8 al22 rfl rfl) <|
    oc (k_st 8 0 (.agg (ai 22 (dg (sb (mu z1 z2) (mu dN (mu t1 t2)))))) (c := ai 22 (fun _ => 0)) (n := ai 22 (dg (sb (mu z1 z2) (mu dN (mu t1 t2))))) (st22 (F := (dg (sb (mu z1 z2) (mu dN (mu t1 t2))))) (c := ai 22 (fun _ => 0)) 35 (ai_size _ _)) rfl rfl) <|
    ok_nil
  clear h; intro β a w h
  refine sym_then ?_
  refine sym_seq ?_
  refine St.rg h [(49, .inl (.agg (ai 22 (dg (mu z1 z2))))), (50, .inl (.agg (ai 22 (dg (mu dN (mu t1 t2)))))), (51, .inl (.agg (ai 22 (dg (ad (mu z1 z2) (mu dN (mu t1 t2))))))), (11, .inr (9, pt 0))] [(ai 22 (fun _ => 0), 35)] [(9, ai 22 (dg (ad (mu z1 z2) (mu dN (mu t1 t2)))))] [eR 6, eR 5, nn, eN 9, eS 9] ?_ ?_
  · exact oc (k_ld 6 0 (.agg (ai 22 (dg (mu z1 z2)))) (c := ai 22 (dg (mu z1 z2))) (ld22 (F := (dg (mu z1 z2))) 35) rfl rfl) <|
    oc (k_ld 5 0 (.agg (ai 22 (dg (mu dN (mu t1 t2))))) (c := ai 22 (dg (mu dN (mu t1 t2)))) (ld22 (F := (dg (mu dN (mu t1 t2)))) 35) rfl rfl) <|
    oc (k_ca 39 #[.agg (ai 22 (dg (mu z1 z2))), .agg (ai 22 (dg (mu dN (mu t1 t2))))] (.agg (ai 22 (dg (ad (mu z1 z2) (mu dN (mu t1 t2)))))) (fun w => plus_rm (mu_lt _ _) (mu_lt _ _) w) rfl rfl) <|
    oc (k_al 9 al22 rfl rfl) <|
    oc (k_st 9 0 (.agg (ai 22 (dg (ad (mu z1 z2) (mu dN (mu t1 t2)))))) (c := ai 22 (fun _ => 0)) (n := ai 22 (dg (ad (mu z1 z2) (mu dN (mu t1 t2))))) (st22 (F := (dg (ad (mu z1 z2) (mu dN (mu t1 t2))))) (c := ai 22 (fun _ => 0)) 35 (ai_size _ _)) rfl rfl) <|
    ok_nil
  clear h; intro β a w h
  refine sym_then ?_
  refine sym_seq ?_
  refine St.rg h [(52, .inl (.agg (ai 22 (dg (mu y1 y2))))), (53, .inl (.agg (ai 22 (dg (mu x1 x2))))), (54, .inl (.agg (ai 22 (dg (ad (mu y1 y2) (mu x1 x2)))))), (12, .inr (10, pt 0))] [(ai 22 (fun _ => 0), 35)] [(10, ai 22 (dg (ad (mu y1 y2) (mu x1 x2))))] [eR 4, eR 3, nn, eN 10, eS 10] ?_ ?_
  · exact oc (k_ld 4 0 (.agg (ai 22 (dg (mu y1 y2)))) (c := ai 22 (dg (mu y1 y2))) (ld22 (F := (dg (mu y1 y2))) 35) rfl rfl) <|
    oc (k_ld 3 0 (.agg (ai 22 (dg (mu x1 x2)))) (c := ai 22 (dg (mu x1 x2))) (ld22 (F := (dg (mu x1 x2))) 35) rfl rfl) <|
    oc (k_ca 39 #[.agg (ai 22 (dg (mu y1 y2))), .agg (ai 22 (dg (mu x1 x2)))] (.agg (ai 22 (dg (ad (mu y1 y2) (mu x1 x2))))) (fun w => plus_rm (mu_lt _ _) (mu_lt _ _) w) rfl rfl) <|
    oc (k_al 10 al22 rfl rfl) <|
    oc (k_st 10 0 (.agg (ai 22 (dg (ad (mu y1 y2) (mu x1 x2))))) (c := ai 22 (fun _ => 0)) (n := ai 22 (dg (ad (mu y1 y2) (mu x1 x2)))) (st22 (F := (dg (ad (mu y1 y2) (mu x1 x2)))) (c := ai 22 (fun _ => 0)) 35 (ai_size _ _)) rfl rfl) <|
    ok_nil
  clear h; intro β a w h
  refine sym_then ?_
  refine sym_seq ?_
  refine St.rg h [(55, .inl (.agg (ai 22 (dg (ad (mu x1 y2) (mu y1 x2)))))), (56, .inl (.agg (ai 22 (dg (sb (mu z1 z2) (mu dN (mu t1 t2))))))), (57, .inl (.agg (ai 22 (dg (mu (ad (mu x1 y2) (mu y1 x2)) (sb (mu z1 z2) (mu dN (mu t1 t2)))))))), (58, .inl (.agg (ai 22 (dg (ad (mu z1 z2) (mu dN (mu t1 t2))))))), (59, .inl (.agg (ai 22 (dg (ad (mu y1 y2) (mu x1 x2)))))), (60, .inl (.agg (ai 22 (dg (mu (ad (mu z1 z2) (mu dN (mu t1 t2))) (ad (mu y1 y2) (mu x1 x2))))))), (61, .inl (.agg (ai 22 (dg (sb (mu z1 z2) (mu dN (mu t1 t2))))))), (62, .inl (.agg (ai 22 (dg (ad (mu z1 z2) (mu dN (mu t1 t2))))))), (63, .inl (.agg (ai 22 (dg (mu (sb (mu z1 z2) (mu dN (mu t1 t2))) (ad (mu z1 z2) (mu dN (mu t1 t2)))))))), (64, .inl (.agg (ai 22 (dg (ad (mu x1 y2) (mu y1 x2)))))), (65, .inl (.agg (ai 22 (dg (ad (mu y1 y2) (mu x1 x2)))))), (66, .inl (.agg (ai 22 (dg (mu (ad (mu x1 y2) (mu y1 x2)) (ad (mu y1 y2) (mu x1 x2))))))), (67, .inl (.agg (cis [(mu (ad (mu x1 y2) (mu y1 x2)) (sb (mu z1 z2) (mu dN (mu t1 t2)))), (mu (ad (mu z1 z2) (mu dN (mu t1 t2))) (ad (mu y1 y2) (mu x1 x2))), (mu (sb (mu z1 z2) (mu dN (mu t1 t2))) (ad (mu z1 z2) (mu dN (mu t1 t2)))), (mu (ad (mu x1 y2) (mu y1 x2)) (ad (mu y1 y2) (mu x1 x2)))])))] [] [(2, cis [(mu (ad (mu x1 y2) (mu y1 x2)) (sb (mu z1 z2) (mu dN (mu t1 t2)))), (mu (ad (mu z1 z2) (mu dN (mu t1 t2))) (ad (mu y1 y2) (mu x1 x2))), (mu (sb (mu z1 z2) (mu dN (mu t1 t2))) (ad (mu z1 z2) (mu dN (mu t1 t2)))), (mu (ad (mu x1 y2) (mu y1 x2)) (ad (mu y1 y2) (mu x1 x2)))])] [eR 7, eR 8, nn, eR 9, eR 10, nn, eR 8, eR 9, nn, eR 7, eR 10, nn, nn, eS 2] ?_ ?_
  · exact oc (k_ld 7 0 (.agg (ai 22 (dg (ad (mu x1 y2) (mu y1 x2))))) (c := ai 22 (dg (ad (mu x1 y2) (mu y1 x2)))) (ld22 (F := (dg (ad (mu x1 y2) (mu y1 x2)))) 35) rfl rfl) <|
    oc (k_ld 8 0 (.agg (ai 22 (dg (sb (mu z1 z2) (mu dN (mu t1 t2)))))) (c := ai 22 (dg (sb (mu z1 z2) (mu dN (mu t1 t2))))) (ld22 (F := (dg (sb (mu z1 z2) (mu dN (mu t1 t2))))) 35) rfl rfl) <|
    oc (k_ca 35 #[.agg (ai 22 (dg (ad (mu x1 y2) (mu y1 x2)))), .agg (ai 22 (dg (sb (mu z1 z2) (mu dN (mu t1 t2)))))] (.agg (ai 22 (dg (mu (ad (mu x1 y2) (mu y1 x2)) (sb (mu z1 z2) (mu dN (mu t1 t2))))))) (fun w => times_rm (ad_lt _ _) (sb_lt _ _) w) rfl rfl) <|
    oc (k_ld 9 0 (.agg (ai 22 (dg (ad (mu z1 z2) (mu dN (mu t1 t2)))))) (c := ai 22 (dg (ad (mu z1 z2) (mu dN (mu t1 t2))))) (ld22 (F := (dg (ad (mu z1 z2) (mu dN (mu t1 t2))))) 35) rfl rfl) <|
    oc (k_ld 10 0 (.agg (ai 22 (dg (ad (mu y1 y2) (mu x1 x2))))) (c := ai 22 (dg (ad (mu y1 y2) (mu x1 x2)))) (ld22 (F := (dg (ad (mu y1 y2) (mu x1 x2)))) 35) rfl rfl) <|
    oc (k_ca 35 #[.agg (ai 22 (dg (ad (mu z1 z2) (mu dN (mu t1 t2))))), .agg (ai 22 (dg (ad (mu y1 y2) (mu x1 x2))))] (.agg (ai 22 (dg (mu (ad (mu z1 z2) (mu dN (mu t1 t2))) (ad (mu y1 y2) (mu x1 x2)))))) (fun w => times_rm (ad_lt _ _) (ad_lt _ _) w) rfl rfl) <|
    oc (k_ld 8 0 (.agg (ai 22 (dg (sb (mu z1 z2) (mu dN (mu t1 t2)))))) (c := ai 22 (dg (sb (mu z1 z2) (mu dN (mu t1 t2))))) (ld22 (F := (dg (sb (mu z1 z2) (mu dN (mu t1 t2))))) 35) rfl rfl) <|
    oc (k_ld 9 0 (.agg (ai 22 (dg (ad (mu z1 z2) (mu dN (mu t1 t2)))))) (c := ai 22 (dg (ad (mu z1 z2) (mu dN (mu t1 t2))))) (ld22 (F := (dg (ad (mu z1 z2) (mu dN (mu t1 t2))))) 35) rfl rfl) <|
    oc (k_ca 35 #[.agg (ai 22 (dg (sb (mu z1 z2) (mu dN (mu t1 t2))))), .agg (ai 22 (dg (ad (mu z1 z2) (mu dN (mu t1 t2)))))] (.agg (ai 22 (dg (mu (sb (mu z1 z2) (mu dN (mu t1 t2))) (ad (mu z1 z2) (mu dN (mu t1 t2))))))) (fun w => times_rm (sb_lt _ _) (ad_lt _ _) w) rfl rfl) <|
    oc (k_ld 7 0 (.agg (ai 22 (dg (ad (mu x1 y2) (mu y1 x2))))) (c := ai 22 (dg (ad (mu x1 y2) (mu y1 x2)))) (ld22 (F := (dg (ad (mu x1 y2) (mu y1 x2)))) 35) rfl rfl) <|
    oc (k_ld 10 0 (.agg (ai 22 (dg (ad (mu y1 y2) (mu x1 x2))))) (c := ai 22 (dg (ad (mu y1 y2) (mu x1 x2)))) (ld22 (F := (dg (ad (mu y1 y2) (mu x1 x2)))) 35) rfl rfl) <|
    oc (k_ca 35 #[.agg (ai 22 (dg (ad (mu x1 y2) (mu y1 x2)))), .agg (ai 22 (dg (ad (mu y1 y2) (mu x1 x2))))] (.agg (ai 22 (dg (mu (ad (mu x1 y2) (mu y1 x2)) (ad (mu y1 y2) (mu x1 x2)))))) (fun w => times_rm (ad_lt _ _) (ad_lt _ _) w) rfl rfl) <|
    oc (k_bu #[(0, .agg (ai 22 (dg (mu (ad (mu x1 y2) (mu y1 x2)) (sb (mu z1 z2) (mu dN (mu t1 t2))))))), (1, .agg (ai 22 (dg (mu (ad (mu z1 z2) (mu dN (mu t1 t2))) (ad (mu y1 y2) (mu x1 x2)))))), (2, .agg (ai 22 (dg (mu (sb (mu z1 z2) (mu dN (mu t1 t2))) (ad (mu z1 z2) (mu dN (mu t1 t2))))))), (3, .agg (ai 22 (dg (mu (ad (mu x1 y2) (mu y1 x2)) (ad (mu y1 y2) (mu x1 x2))))))] (.agg (cis [(mu (ad (mu x1 y2) (mu y1 x2)) (sb (mu z1 z2) (mu dN (mu t1 t2)))), (mu (ad (mu z1 z2) (mu dN (mu t1 t2))) (ad (mu y1 y2) (mu x1 x2))), (mu (sb (mu z1 z2) (mu dN (mu t1 t2))) (ad (mu z1 z2) (mu dN (mu t1 t2)))), (mu (ad (mu x1 y2) (mu y1 x2)) (ad (mu y1 y2) (mu x1 x2)))])) (bdR (a := (mu (ad (mu x1 y2) (mu y1 x2)) (sb (mu z1 z2) (mu dN (mu t1 t2))))) (b := (mu (ad (mu z1 z2) (mu dN (mu t1 t2))) (ad (mu y1 y2) (mu x1 x2)))) (c := (mu (sb (mu z1 z2) (mu dN (mu t1 t2))) (ad (mu z1 z2) (mu dN (mu t1 t2))))) (d := (mu (ad (mu x1 y2) (mu y1 x2)) (ad (mu y1 y2) (mu x1 x2))))) rfl rfl) <|
    oc (k_st 2 0 (.agg (cis [(mu (ad (mu x1 y2) (mu y1 x2)) (sb (mu z1 z2) (mu dN (mu t1 t2)))), (mu (ad (mu z1 z2) (mu dN (mu t1 t2))) (ad (mu y1 y2) (mu x1 x2))), (mu (sb (mu z1 z2) (mu dN (mu t1 t2))) (ad (mu z1 z2) (mu dN (mu t1 t2)))), (mu (ad (mu x1 y2) (mu y1 x2)) (ad (mu y1 y2) (mu x1 x2)))])) (c := cis [0, 0, 0, 0]) (n := cis [(mu (ad (mu x1 y2) (mu y1 x2)) (sb (mu z1 z2) (mu dN (mu t1 t2)))), (mu (ad (mu z1 z2) (mu dN (mu t1 t2))) (ad (mu y1 y2) (mu x1 x2))), (mu (sb (mu z1 z2) (mu dN (mu t1 t2))) (ad (mu z1 z2) (mu dN (mu t1 t2)))), (mu (ad (mu x1 y2) (mu y1 x2)) (ad (mu y1 y2) (mu x1 x2)))]) (stR (a := (mu (ad (mu x1 y2) (mu y1 x2)) (sb (mu z1 z2) (mu dN (mu t1 t2))))) (b := (mu (ad (mu z1 z2) (mu dN (mu t1 t2))) (ad (mu y1 y2) (mu x1 x2)))) (c := (mu (sb (mu z1 z2) (mu dN (mu t1 t2))) (ad (mu z1 z2) (mu dN (mu t1 t2))))) (d := (mu (ad (mu x1 y2) (mu y1 x2)) (ad (mu y1 y2) (mu x1 x2)))) (e := cis [0, 0, 0, 0]) 37 (by rw [cis_size]; rfl)) rfl rfl) <|
    ok_nil
  clear h; intro β a w h
  refine sym_then ?_
  refine wp_ret ?_
  exact s_rc (b := 2) (t0 := 37) (c := cis [(mu (ad (mu x1 y2) (mu y1 x2)) (sb (mu z1 z2) (mu dN (mu t1 t2)))), (mu (ad (mu z1 z2) (mu dN (mu t1 t2))) (ad (mu y1 y2) (mu x1 x2))), (mu (sb (mu z1 z2) (mu dN (mu t1 t2))) (ad (mu z1 z2) (mu dN (mu t1 t2)))), (mu (ad (mu x1 y2) (mu y1 x2)) (ad (mu y1 y2) (mu x1 x2)))]) h Try.results48 Try.underlying37 (fun hb => ⟨rfl, hb⟩) (by rw [cis_size]; kernel_rfl)

set_option maxHeartbeats 4000000 in
theorem rkey_e {x1 y1 z1 t1 : Nat} (hx1 : x1 < pp) (hy1 : y1 < pp) (hz1 : z1 < pp) (hev : (mu x1 (inv z1)) % 2 = 0) (W0 : World) : Calls Try.prog 13 #[.agg (cis [x1, y1, z1, t1])] W0 fun e w' => e = .returned (.agg (ck (kb (mu y1 (inv z1))))) ∧ Below W0.heap.size W0 w' := by
  have g1 := dg_par4 (mu x1 (inv z1))
  refine s_in Try.func13 Try.ntmps13 rfl [.inl (.agg (cis [x1, y1, z1, t1]))] ?_
  intro β a h
  refine sym_seq ?_
  refine St.rg h [(1, .inr (0, pt 0)), (2, .inr (1, pt 0))] [(cis [x1, y1, z1, t1], 37), (ck (fun _ => 0), 23)] [] [eN 0, eN 1] ?_ ?_
  · exact oc (k_bx 0 (.agg (cis [x1, y1, z1, t1])) (bxR (a := x1) (b := y1) (c := z1) (d := t1)) rfl rfl) <|
    oc (k_al 1 alK rfl rfl) <|
    ok_nil
  clear h; intro β a w h
  refine sym_then ?_
  refine sym_seq ?_
  refine St.rg h [(4, .inr (0, pt 22)), (5, .inl (.agg (ai 22 (dg y1)))), (6, .inr (0, pt 44)), (7, .inl (.agg (ai 22 (dg z1)))), (8, .inl (.agg (ai 22 (dg (mu y1 (inv z1)))))), (9, .inl (.agg (ck (kb (mu y1 (inv z1)))))), (3, .inr (2, pt 0))] [(ck (fun _ => 0), 23)] [(2, ck (kb (mu y1 (inv z1))))] [nn, eR 0, nn, eR 0, nn, nn, eN 2, eS 2] ?_ ?_
  · exact oc (k_fa 0 0 22 rfl rfl) <|
    oc (k_ld 0 22 (.agg (ai 22 (dg y1))) (c := cis [x1, y1, z1, t1]) (ld_cis (l := [x1, y1, z1, t1]) (k := 1) (n := y1) 37 rfl) rfl rfl) <|
    oc (k_fa 0 0 44 rfl rfl) <|
    oc (k_ld 0 44 (.agg (ai 22 (dg z1))) (c := cis [x1, y1, z1, t1]) (ld_cis (l := [x1, y1, z1, t1]) (k := 2) (n := z1) 37 rfl) rfl rfl) <|
    oc (k_ca 37 #[.agg (ai 22 (dg y1)), .agg (ai 22 (dg z1))] (.agg (ai 22 (dg (mu y1 (inv z1))))) (fun w => over_rm hy1 hz1 w) rfl rfl) <|
    oc (k_ca 32 #[.agg (ai 22 (dg (mu y1 (inv z1))))] (.agg (ck (kb (mu y1 (inv z1))))) (fun w => key_rm (mu_lt _ _) w) rfl rfl) <|
    oc (k_al 2 alK rfl rfl) <|
    oc (k_st 2 0 (.agg (ck (kb (mu y1 (inv z1))))) (c := ck (fun _ => 0)) (n := ck (kb (mu y1 (inv z1)))) (stK (F := (kb (mu y1 (inv z1)))) (c := ck (fun _ => 0)) 23 (ck_size _)) rfl rfl) <|
    ok_nil
  clear h; intro β a w h
  refine sym_then ?_
  refine sym_seq ?_
  refine sym_seq ?_
  refine St.r0 h [(10, .inr (0, pt 0)), (11, .inl (.agg (ai 22 (dg x1)))), (12, .inr (0, pt 44)), (13, .inl (.agg (ai 22 (dg z1)))), (14, .inl (.agg (ai 22 (dg (mu x1 (inv z1)))))), (15, .inl (.int .i64 (((dg (mu x1 (inv z1)) 0) : Nat) : Int))), (16, .inl (.int .i64 ((((dg (mu x1 (inv z1)) 0) % 2) : Nat) : Int))), (17, .inl (.bool false))] [nn, eR 0, nn, eR 0] ?_ ?_
  · exact oc (k_fa 0 0 0 rfl rfl) <|
    oc (k_ld 0 0 (.agg (ai 22 (dg x1))) (c := cis [x1, y1, z1, t1]) (ld_cis (l := [x1, y1, z1, t1]) (k := 0) (n := x1) 37 rfl) rfl rfl) <|
    oc (k_fa 0 0 44 rfl rfl) <|
    oc (k_ld 0 44 (.agg (ai 22 (dg z1))) (c := cis [x1, y1, z1, t1]) (ld_cis (l := [x1, y1, z1, t1]) (k := 2) (n := z1) 37 rfl) rfl rfl) <|
    oz (k_ca 37 #[.agg (ai 22 (dg x1)), .agg (ai 22 (dg z1))] (.agg (ai 22 (dg (mu x1 (inv z1))))) (fun w => over_rm hx1 hz1 w) rfl rfl) <|
    oz (k_ix (.agg (ai 22 (dg (mu x1 (inv z1))))) (.int .i64 ((0 : Nat) : Int)) (.int .i64 (((dg (mu x1 (inv z1)) 0) : Nat) : Int)) (ix_r (n := (mu x1 (inv z1)))) rfl rfl) <|
    oz (k_bi (.int .i64 (((dg (mu x1 (inv z1)) 0) : Nat) : Int)) (.int .i64 ((2 : Nat) : Int)) (.int .i64 ((((dg (mu x1 (inv z1)) 0) % 2) : Nat) : Int)) (re_i (m := (dg (mu x1 (inv z1)) 0)) (n := 2) (by decide)) rfl rfl) <|
    oz (k_bi (.int .i64 ((((dg (mu x1 (inv z1)) 0) % 2) : Nat) : Int)) (.int .i64 ((1 : Nat) : Int)) (.bool false) (eq_i (m := ((((dg (mu x1 (inv z1)) 0) % 2) : Nat) : Int)) (n := ((1 : Nat) : Int)) (decide_eq_false (by omega))) rfl rfl) <|
    ok_nil
  clear h; intro β a w h
  refine sym_then ?_
  refine s_cf h ?_
  refine wp_skip ?_
  refine sym_then ?_
  refine sym_seq ?_
  refine St.rg h [(22, .inl (.agg (ck (kb (mu y1 (inv z1))))))] [] [(1, ck (kb (mu y1 (inv z1))))] [eR 2, eS 1] ?_ ?_
  · exact oc (k_ld 2 0 (.agg (ck (kb (mu y1 (inv z1))))) (c := ck (kb (mu y1 (inv z1)))) (ldK (b := (kb (mu y1 (inv z1)))) 23) rfl rfl) <|
    oc (k_st 1 0 (.agg (ck (kb (mu y1 (inv z1))))) (c := ck (fun _ => 0)) (n := ck (kb (mu y1 (inv z1)))) (stK (F := (kb (mu y1 (inv z1)))) (c := ck (fun _ => 0)) 23 (ck_size _)) rfl rfl) <|
    ok_nil
  clear h; intro β a w h
  refine sym_then ?_
  refine wp_ret ?_
  exact s_rc (b := 1) (t0 := 23) (c := ck (kb (mu y1 (inv z1)))) h Try.results13 Try.underlying23 (fun hb => ⟨rfl, hb⟩) (by rw [ck_size]; kernel_rfl)

set_option maxHeartbeats 4000000 in
theorem rkey_o {x1 y1 z1 t1 : Nat} (hx1 : x1 < pp) (hy1 : y1 < pp) (hz1 : z1 < pp) (hev : (mu x1 (inv z1)) % 2 = 1) (W0 : World) : Calls Try.prog 13 #[.agg (cis [x1, y1, z1, t1])] W0 fun e w' => e = .returned (.agg (ck (updN (kb (mu y1 (inv z1))) 31 (kb (mu y1 (inv z1)) 31 + 128)))) ∧ Below W0.heap.size W0 w' := by
  have g1 := dg_par4 (mu x1 (inv z1))
  have g2 := kb_top (mu_lt y1 (inv z1))
  refine s_in Try.func13 Try.ntmps13 rfl [.inl (.agg (cis [x1, y1, z1, t1]))] ?_
  intro β a h
  refine sym_seq ?_
  refine St.rg h [(1, .inr (0, pt 0)), (2, .inr (1, pt 0))] [(cis [x1, y1, z1, t1], 37), (ck (fun _ => 0), 23)] [] [eN 0, eN 1] ?_ ?_
  · exact oc (k_bx 0 (.agg (cis [x1, y1, z1, t1])) (bxR (a := x1) (b := y1) (c := z1) (d := t1)) rfl rfl) <|
    oc (k_al 1 alK rfl rfl) <|
    ok_nil
  clear h; intro β a w h
  refine sym_then ?_
  refine sym_seq ?_
  refine St.rg h [(4, .inr (0, pt 22)), (5, .inl (.agg (ai 22 (dg y1)))), (6, .inr (0, pt 44)), (7, .inl (.agg (ai 22 (dg z1)))), (8, .inl (.agg (ai 22 (dg (mu y1 (inv z1)))))), (9, .inl (.agg (ck (kb (mu y1 (inv z1)))))), (3, .inr (2, pt 0))] [(ck (fun _ => 0), 23)] [(2, ck (kb (mu y1 (inv z1))))] [nn, eR 0, nn, eR 0, nn, nn, eN 2, eS 2] ?_ ?_
  · exact oc (k_fa 0 0 22 rfl rfl) <|
    oc (k_ld 0 22 (.agg (ai 22 (dg y1))) (c := cis [x1, y1, z1, t1]) (ld_cis (l := [x1, y1, z1, t1]) (k := 1) (n := y1) 37 rfl) rfl rfl) <|
    oc (k_fa 0 0 44 rfl rfl) <|
    oc (k_ld 0 44 (.agg (ai 22 (dg z1))) (c := cis [x1, y1, z1, t1]) (ld_cis (l := [x1, y1, z1, t1]) (k := 2) (n := z1) 37 rfl) rfl rfl) <|
    oc (k_ca 37 #[.agg (ai 22 (dg y1)), .agg (ai 22 (dg z1))] (.agg (ai 22 (dg (mu y1 (inv z1))))) (fun w => over_rm hy1 hz1 w) rfl rfl) <|
    oc (k_ca 32 #[.agg (ai 22 (dg (mu y1 (inv z1))))] (.agg (ck (kb (mu y1 (inv z1))))) (fun w => key_rm (mu_lt _ _) w) rfl rfl) <|
    oc (k_al 2 alK rfl rfl) <|
    oc (k_st 2 0 (.agg (ck (kb (mu y1 (inv z1))))) (c := ck (fun _ => 0)) (n := ck (kb (mu y1 (inv z1)))) (stK (F := (kb (mu y1 (inv z1)))) (c := ck (fun _ => 0)) 23 (ck_size _)) rfl rfl) <|
    ok_nil
  clear h; intro β a w h
  refine sym_then ?_
  refine sym_seq ?_
  refine sym_seq ?_
  refine St.r0 h [(10, .inr (0, pt 0)), (11, .inl (.agg (ai 22 (dg x1)))), (12, .inr (0, pt 44)), (13, .inl (.agg (ai 22 (dg z1)))), (14, .inl (.agg (ai 22 (dg (mu x1 (inv z1)))))), (15, .inl (.int .i64 (((dg (mu x1 (inv z1)) 0) : Nat) : Int))), (16, .inl (.int .i64 ((((dg (mu x1 (inv z1)) 0) % 2) : Nat) : Int))), (17, .inl (.bool true))] [nn, eR 0, nn, eR 0] ?_ ?_
  · exact oc (k_fa 0 0 0 rfl rfl) <|
    oc (k_ld 0 0 (.agg (ai 22 (dg x1))) (c := cis [x1, y1, z1, t1]) (ld_cis (l := [x1, y1, z1, t1]) (k := 0) (n := x1) 37 rfl) rfl rfl) <|
    oc (k_fa 0 0 44 rfl rfl) <|
    oc (k_ld 0 44 (.agg (ai 22 (dg z1))) (c := cis [x1, y1, z1, t1]) (ld_cis (l := [x1, y1, z1, t1]) (k := 2) (n := z1) 37 rfl) rfl rfl) <|
    oz (k_ca 37 #[.agg (ai 22 (dg x1)), .agg (ai 22 (dg z1))] (.agg (ai 22 (dg (mu x1 (inv z1))))) (fun w => over_rm hx1 hz1 w) rfl rfl) <|
    oz (k_ix (.agg (ai 22 (dg (mu x1 (inv z1))))) (.int .i64 ((0 : Nat) : Int)) (.int .i64 (((dg (mu x1 (inv z1)) 0) : Nat) : Int)) (ix_r (n := (mu x1 (inv z1)))) rfl rfl) <|
    oz (k_bi (.int .i64 (((dg (mu x1 (inv z1)) 0) : Nat) : Int)) (.int .i64 ((2 : Nat) : Int)) (.int .i64 ((((dg (mu x1 (inv z1)) 0) % 2) : Nat) : Int)) (re_i (m := (dg (mu x1 (inv z1)) 0)) (n := 2) (by decide)) rfl rfl) <|
    oz (k_bi (.int .i64 ((((dg (mu x1 (inv z1)) 0) % 2) : Nat) : Int)) (.int .i64 ((1 : Nat) : Int)) (.bool true) (eq_i (m := ((((dg (mu x1 (inv z1)) 0) % 2) : Nat) : Int)) (n := ((1 : Nat) : Int)) (decide_eq_true (by omega))) rfl rfl) <|
    ok_nil
  clear h; intro β a w h
  refine sym_then ?_
  refine s_ct h ?_
  refine St.rg h [(18, .inr (2, pt 31)), (19, .inl (.int .u8 ((((kb (mu y1 (inv z1))) 31) : Nat) : Int))), (20, .inl (.int .u8 (((((kb (mu y1 (inv z1))) 31) + 128) : Nat) : Int))), (21, .inr (2, pt 31))] [] [(2, ck (updN (kb (mu y1 (inv z1))) 31 (((kb (mu y1 (inv z1))) 31) + 128)))] [nn, eR 2, nn, nn, eS 2] ?_ ?_
  · exact oc (k_ia 2 0 31 (.int .i64 ((31 : Nat) : Int)) (ixK (i := 31) (by omega)) rfl rfl) <|
    oc (k_ld 2 31 (.int .u8 ((((kb (mu y1 (inv z1))) 31) : Nat) : Int)) (c := ck (kb (mu y1 (inv z1)))) (ld_k (F := (kb (mu y1 (inv z1)))) (i := 31) (t0 := 23) (by omega)) rfl rfl) <|
    oc (k_bi (.int .u8 ((((kb (mu y1 (inv z1))) 31) : Nat) : Int)) (.int .u8 ((128 : Nat) : Int)) (.int .u8 (((((kb (mu y1 (inv z1))) 31) + 128) : Nat) : Int)) (ad_b (m := ((kb (mu y1 (inv z1))) 31)) (n := 128) (by omega)) rfl rfl) <|
    oc (k_ia 2 0 31 (.int .i64 ((31 : Nat) : Int)) (ixK (i := 31) (by omega)) rfl rfl) <|
    oc (k_st 2 31 (.int .u8 (((((kb (mu y1 (inv z1))) 31) + 128) : Nat) : Int)) (c := ck (kb (mu y1 (inv z1)))) (n := ck (updN (kb (mu y1 (inv z1))) 31 (((kb (mu y1 (inv z1))) 31) + 128))) (st_k (F := (kb (mu y1 (inv z1)))) (i := 31) (v := (((kb (mu y1 (inv z1))) 31) + 128)) (t0 := 23) (by omega)) rfl rfl) <|
    ok_nil
  clear h; intro β a w h
  refine sym_then ?_
  refine sym_seq ?_
  refine St.rg h [(22, .inl (.agg (ck (updN (kb (mu y1 (inv z1))) 31 (((kb (mu y1 (inv z1))) 31) + 128)))))] [] [(1, ck (updN (kb (mu y1 (inv z1))) 31 (((kb (mu y1 (inv z1))) 31) + 128)))] [eR 2, eS 1] ?_ ?_
  · exact oc (k_ld 2 0 (.agg (ck (updN (kb (mu y1 (inv z1))) 31 (((kb (mu y1 (inv z1))) 31) + 128)))) (c := ck (updN (kb (mu y1 (inv z1))) 31 (((kb (mu y1 (inv z1))) 31) + 128))) (ldK (b := (updN (kb (mu y1 (inv z1))) 31 (((kb (mu y1 (inv z1))) 31) + 128))) 23) rfl rfl) <|
    oc (k_st 1 0 (.agg (ck (updN (kb (mu y1 (inv z1))) 31 (((kb (mu y1 (inv z1))) 31) + 128)))) (c := ck (fun _ => 0)) (n := ck (updN (kb (mu y1 (inv z1))) 31 (((kb (mu y1 (inv z1))) 31) + 128))) (stK (F := (updN (kb (mu y1 (inv z1))) 31 (((kb (mu y1 (inv z1))) 31) + 128))) (c := ck (fun _ => 0)) 23 (ck_size _)) rfl rfl) <|
    ok_nil
  clear h; intro β a w h
  refine sym_then ?_
  refine wp_ret ?_
  exact s_rc (b := 1) (t0 := 23) (c := ck (updN (kb (mu y1 (inv z1))) 31 (((kb (mu y1 (inv z1))) 31) + 128))) h Try.results13 Try.underlying23 (fun hb => ⟨rfl, hb⟩) (by rw [ck_size]; kernel_rfl)

end Go.Proofs.Ytpogmflgmpifoaa

/- LRoot, PR1, PR2, PR3, PR4, PR5, PRv, PR6, PR7, PJn, LA5, LA6, LA7, LA8, LA9, LSums, LAs, PR8, PR9, PR10, PR11, PCm, PR12, PRM, LAb: laid together. -/
import Derived.RangeFuncNested
import Derived.RangeFuncBound
import Derived.RangeFuncCalls
import Derived.RangeFuncLeaves
import Derived.RangeFuncBox
import Derived.Shelf.Abstract
import Derived.Shelf.RegionOpen
import Derived.WalkKit
import Derived.OwnWalkIn
import Derived.TacticsInMore
import Derived.LoopNIn
import Derived.LoopIn
import Derived.Shelf.SlicesQ.Reverse
import Derived.ProofKit
import Derived.OpenShut
import Derived.LaidMore
import Derived.Stop.Joined
import Derived.ShutString
import Derived.ChangeOld
import Derived.Below
import Derived.Deep.Slices
import Derived.Test.YtgnmnoadfjdjdaaDoorG4
namespace Go.Proofs.YtgnmnoadfjdjdaaDoor
open Go.RowKit Go.Maps Sh

set_option maxHeartbeats 4000000 in
theorem root_d_0 {a0 : Option Addr} {cap : Nat} {W0 : World} {E0 : Nat → Nat} (hem : ∀ w, KW (wd W0) w → Calls Tryd.prog 60 #[] w fun e w' => e = .returned (.agg (ab 32 E0)) ∧ Below w.heap.size w w') : Calls Tryd.prog 37 #[.slice a0 0 cap] W0 fun e w' => e = .returned (.agg (ab 32 E0)) ∧ Below W0.heap.size W0 w' := by
  refine s_in Tryd.func37 Tryd.ntmps37 rfl [.inl (.slice a0 0 cap)] ?_
  intro β a h
  refine sym_seq ?_
  refine St.rg h [(2, .inr (0, pt 0))] [(ab 32 (fun _ => 0), 34)] [] [eN 0] ?_ ?_
  · exact oc (k_al 0 alS rfl rfl) <|
    ok_nil
  clear h; intro β a w h
  refine sym_then ?_
  refine sym_seq ?_
  refine sym_seq ?_
  refine St.r0 h [(4, .inl (.slice a0 0 cap)), (5, .inl (.int .i64 ((0 : Nat) : Int)))] [] ?_ ?_
  · exact oz (k_mv (.inl rfl) rfl) <|
    oz (k_ln (ad := a0) 0 cap rfl rfl (fun w => len_ss _ w)) <|
    ok_nil
  clear h; intro β a w h
  refine sym_then ?_
  refine blk_in ?_
  refine sym_seq ?_
  refine St.r0 h [(7, .inl (.bool true)), (6, .inl (.bool true))] [] ?_ ?_
  · exact oz (k_bi (.int .i64 ((0 : Nat) : Int)) (.int .i64 ((0 : Nat) : Int)) (.bool true) (eq_i (m := ((0 : Nat) : Int)) (n := ((0 : Nat) : Int)) (decide_eq_true (by omega))) rfl rfl) <|
    oz (k_mv (.inr rfl) rfl) <|
    ok_nil
  clear h; intro β a w h
  refine sym_then ?_
  refine s_ct h ?_
  refine sym_seq ?_
  refine St.rg h [(8, .inl (.agg (ab 32 E0)))] [] [(0, ab 32 E0)] [nn, eS 0] ?_ ?_
  · exact oc (k_cw 60 #[] (.agg (ab 32 E0)) (fun w hw => hem w hw) rfl rfl) <|
    oc (k_st 0 0 (.agg (ab 32 E0)) (c := ab 32 (fun _ => 0)) (n := ab 32 E0) (stS (F := E0) (c := ab 32 (fun _ => 0)) 34 (ab_size _ _)) rfl rfl) <|
    ok_nil
  clear h; intro β a w h
  refine sym_then ?_
  refine wp_ret ?_
  refine blk_ret ?_
  refine then_ret ?_
  exact s_rc (b := 0) (t0 := 34) (c := ab 32 E0) h Tryd.results37 Tryd.underlying34 (fun hb => ⟨rfl, hb⟩) (by rw [ab_size]; kernel_rfl)
set_option maxHeartbeats 4000000 in
theorem root_d_1 {b off cap : Nat} {W0 : World} {L0 : Nat → Nat} (ld0 : ∀ w, KW (wd W0) w → (Instr.loadAt 34 (.pointer (some ⟨b, off + 32 * 0, none⟩))).run Tryd.prog w = .ok (.agg (ab 32 L0)) w) : Calls Tryd.prog 37 #[.slice (some ⟨b, off, none⟩) 1 cap] W0 fun e w' => e = .returned (.agg (ab 32 L0)) ∧ Below W0.heap.size W0 w' := by
  refine s_in Tryd.func37 Tryd.ntmps37 rfl [.inl (.slice (some ⟨b, off, none⟩) 1 cap)] ?_
  intro β a h
  refine sym_seq ?_
  refine St.rg h [(2, .inr (0, pt 0))] [(ab 32 (fun _ => 0), 34)] [] [eN 0] ?_ ?_
  · exact oc (k_al 0 alS rfl rfl) <|
    ok_nil
  clear h; intro β a w h
  refine sym_then ?_
  refine sym_seq ?_
  refine sym_seq ?_
  refine St.r0 h [(4, .inl (.slice (some ⟨b, off, none⟩) 1 cap)), (5, .inl (.int .i64 ((1 : Nat) : Int)))] [] ?_ ?_
  · exact oz (k_mv (.inl rfl) rfl) <|
    oz (k_ln (ad := (some ⟨b, off, none⟩)) 1 cap rfl rfl (fun w => len_ss _ w)) <|
    ok_nil
  clear h; intro β a w h
  refine sym_then ?_
  refine blk_in ?_
  refine sym_seq ?_
  refine St.r0 h [(7, .inl (.bool false)), (6, .inl (.bool false))] [] ?_ ?_
  · exact oz (k_bi (.int .i64 ((1 : Nat) : Int)) (.int .i64 ((0 : Nat) : Int)) (.bool false) (eq_i (m := ((1 : Nat) : Int)) (n := ((0 : Nat) : Int)) (decide_eq_false (by omega))) rfl rfl) <|
    oz (k_mv (.inr rfl) rfl) <|
    ok_nil
  clear h; intro β a w h
  refine sym_then ?_
  refine s_cf h ?_
  refine sym_seq ?_
  refine St.r0 h [(10, .inl (.bool true)), (9, .inl (.bool true))] [] ?_ ?_
  · exact oz (k_bi (.int .i64 ((1 : Nat) : Int)) (.int .i64 ((1 : Nat) : Int)) (.bool true) (eq_i (m := ((1 : Nat) : Int)) (n := ((1 : Nat) : Int)) (decide_eq_true (by omega))) rfl rfl) <|
    oz (k_mv (.inr rfl) rfl) <|
    ok_nil
  clear h; intro β a w h
  refine sym_then ?_
  refine s_ct h ?_
  refine sym_seq ?_
  refine St.rg h [(11, .inl (.slice (some ⟨b, off, none⟩) 1 cap)), (12, .inl (.pointer (some ⟨b, off + 32 * 0, none⟩))), (13, .inl (.agg (ab 32 L0)))] [] [(0, ab 32 L0)] [nn, nn, nn, eS 0] ?_ ?_
  · exact oc (k_mv (.inl rfl) rfl) <|
    oc (k_is (.slice (some ⟨b, off, none⟩) 1 cap) (.int .i64 ((0 : Nat) : Int)) (.pointer (some ⟨b, off + 32 * 0, none⟩)) (fun w => ix_ss (i := 0) (by omega) w) rfl rfl) <|
    oc (k_lf (.pointer (some ⟨b, off + 32 * 0, none⟩)) (.agg (ab 32 L0)) (fun w hw => ld0 w hw) rfl rfl) <|
    oc (k_st 0 0 (.agg (ab 32 L0)) (c := ab 32 (fun _ => 0)) (n := ab 32 L0) (stS (F := L0) (c := ab 32 (fun _ => 0)) 34 (ab_size _ _)) rfl rfl) <|
    ok_nil
  clear h; intro β a w h
  refine sym_then ?_
  refine wp_ret ?_
  refine blk_ret ?_
  refine then_ret ?_
  exact s_rc (b := 0) (t0 := 34) (c := ab 32 L0) h Tryd.results37 Tryd.underlying34 (fun hb => ⟨rfl, hb⟩) (by rw [ab_size]; kernel_rfl)
set_option maxHeartbeats 4000000 in
theorem root_d_2 {b off n cap : Nat} {W0 : World} {Rlo Rhi : Nat → Nat} (hn : 2 ≤ n) (hm : n ≤ 1000000) (hcap : n ≤ cap) (hk : 1 ≤ cut n ∧ cut n < n ∧ n ≤ 2 * cut n)
    (hlo : ∀ w, KW (wd W0) w → Calls Tryd.prog 37 #[.slice (some ⟨b, off, none⟩) (cut n) cap] w fun e w' => e = .returned (.agg (ab 32 Rlo)) ∧ Below w.heap.size w w')
    (hhi : ∀ w, KW (wd W0) w → Calls Tryd.prog 37 #[.slice (some ⟨b, off + 32 * cut n, none⟩) (n - cut n) (cap - cut n)] w fun e w' => e = .returned (.agg (ab 32 Rhi)) ∧ Below w.heap.size w w')
    (hnd : ∀ w, KW (wd W0) w → Calls Tryd.prog 62 #[.agg (ab 32 Rlo), .agg (ab 32 Rhi)] w fun e w' => e = .returned (.agg (ab 32 (nd Rlo Rhi))) ∧ Below w.heap.size w w') : Calls Tryd.prog 37 #[.slice (some ⟨b, off, none⟩) n cap] W0 fun e w' => e = .returned (.agg (ab 32 (nd Rlo Rhi))) ∧ Below W0.heap.size W0 w' := by
  obtain ⟨hk1, hk2, hk3⟩ := hk
  refine s_in Tryd.func37 Tryd.ntmps37 rfl [.inl (.slice (some ⟨b, off, none⟩) n cap)] ?_
  intro β a h
  refine sym_seq ?_
  refine St.rg h [(2, .inr (0, pt 0))] [(ab 32 (fun _ => 0), 34)] [] [eN 0] ?_ ?_
  · exact oc (k_al 0 alS rfl rfl) <|
    ok_nil
  clear h; intro β a w h
  refine sym_then ?_
  refine sym_seq ?_
  refine sym_seq ?_
  refine St.r0 h [(4, .inl (.slice (some ⟨b, off, none⟩) n cap)), (5, .inl (.int .i64 ((n : Nat) : Int)))] [] ?_ ?_
  · exact oz (k_mv (.inl rfl) rfl) <|
    oz (k_ln (ad := (some ⟨b, off, none⟩)) n cap rfl rfl (fun w => len_ss _ w)) <|
    ok_nil
  clear h; intro β a w h
  refine sym_then ?_
  refine blk_in ?_
  refine sym_seq ?_
  refine St.r0 h [(7, .inl (.bool false)), (6, .inl (.bool false))] [] ?_ ?_
  · exact oz (k_bi (.int .i64 ((n : Nat) : Int)) (.int .i64 ((0 : Nat) : Int)) (.bool false) (eq_i (m := ((n : Nat) : Int)) (n := ((0 : Nat) : Int)) (decide_eq_false (by omega))) rfl rfl) <|
    oz (k_mv (.inr rfl) rfl) <|
    ok_nil
  clear h; intro β a w h
  refine sym_then ?_
  refine s_cf h ?_
  refine sym_seq ?_
  refine St.r0 h [(10, .inl (.bool false)), (9, .inl (.bool false))] [] ?_ ?_
  · exact oz (k_bi (.int .i64 ((n : Nat) : Int)) (.int .i64 ((1 : Nat) : Int)) (.bool false) (eq_i (m := ((n : Nat) : Int)) (n := ((1 : Nat) : Int)) (decide_eq_false (by omega))) rfl rfl) <|
    oz (k_mv (.inr rfl) rfl) <|
    ok_nil
  clear h; intro β a w h
  refine sym_then ?_
  refine s_cf h ?_
  refine wp_skip ?_
  refine blk_norm ?_
  refine sym_then ?_
  refine sym_seq ?_
  refine St.r0 h [(14, .inl (.slice (some ⟨b, off, none⟩) n cap)), (15, .inl (.int .i64 ((n : Nat) : Int))), (16, .inl (.int .i64 (((cut n) : Nat) : Int))), (3, .inl (.int .i64 (((cut n) : Nat) : Int)))] [] ?_ ?_
  · exact oz (k_mv (.inl rfl) rfl) <|
    oz (k_ln (ad := (some ⟨b, off, none⟩)) n cap rfl rfl (fun w => len_ss _ w)) <|
    oz (k_ca 61 #[.int .i64 ((n : Nat) : Int)] (.int .i64 (((cut n) : Nat) : Int)) (fun w => cut_k n (by omega) w) rfl rfl) <|
    oz (k_mv (.inr rfl) rfl) <|
    ok_nil
  clear h; intro β a w h
  refine sym_then ?_
  refine sym_seq ?_
  refine St.rg h [(17, .inl (.slice (some ⟨b, off, none⟩) n cap)), (18, .inl (.int .i64 (((cut n) : Nat) : Int))), (19, .inl (.slice (some ⟨b, off, none⟩) (cut n) cap)), (20, .inl (.agg (ab 32 Rlo))), (21, .inl (.slice (some ⟨b, off, none⟩) n cap)), (22, .inl (.int .i64 (((cut n) : Nat) : Int))), (23, .inl (.slice (some ⟨b, off + 32 * (cut n), none⟩) (n - (cut n)) (cap - (cut n)))), (24, .inl (.agg (ab 32 Rhi))), (25, .inl (.agg (ab 32 (nd Rlo Rhi))))] [] [(0, ab 32 (nd Rlo Rhi))] [nn, nn, nn, nn, nn, nn, nn, nn, nn, eS 0] ?_ ?_
  · exact oc (k_mv (.inl rfl) rfl) <|
    oc (k_mv (.inl rfl) rfl) <|
    oc (k_sw (.slice (some ⟨b, off, none⟩) n cap) (.slice (some ⟨b, off, none⟩) (cut n) cap) none (some (.int .i64 (((cut n) : Nat) : Int))) (sl_lo (by omega) hcap) rfl rfl) <|
    oc (k_cw 37 #[.slice (some ⟨b, off, none⟩) (cut n) cap] (.agg (ab 32 Rlo)) (fun w hw => hlo w hw) rfl rfl) <|
    oc (k_mv (.inl rfl) rfl) <|
    oc (k_mv (.inl rfl) rfl) <|
    oc (k_sw (.slice (some ⟨b, off, none⟩) n cap) (.slice (some ⟨b, off + 32 * (cut n), none⟩) (n - (cut n)) (cap - (cut n))) (some (.int .i64 (((cut n) : Nat) : Int))) none (sl_hi (by omega) hcap) rfl rfl) <|
    oc (k_cw 37 #[.slice (some ⟨b, off + 32 * (cut n), none⟩) (n - (cut n)) (cap - (cut n))] (.agg (ab 32 Rhi)) (fun w hw => hhi w hw) rfl rfl) <|
    oc (k_cw 62 #[.agg (ab 32 Rlo), .agg (ab 32 Rhi)] (.agg (ab 32 (nd Rlo Rhi))) (fun w hw => hnd w hw) rfl rfl) <|
    oc (k_st 0 0 (.agg (ab 32 (nd Rlo Rhi))) (c := ab 32 (fun _ => 0)) (n := ab 32 (nd Rlo Rhi)) (stS (F := (nd Rlo Rhi)) (c := ab 32 (fun _ => 0)) 34 (ab_size _ _)) rfl rfl) <|
    ok_nil
  clear h; intro β a w h
  refine sym_then ?_
  refine wp_ret ?_
  exact s_rc (b := 0) (t0 := 34) (c := ab 32 (nd Rlo Rhi)) h Tryd.results37 Tryd.underlying34 (fun hb => ⟨rfl, hb⟩) (by rw [ab_size]; kernel_rfl)
theorem root_d : ∀ (n : Nat) (L : List (Nat → Nat)) (a : Option Addr) (cap : Nat) (W0 : World), L.length = n → n ≤ 1000000 → Gl W0 → SsAt W0 a L → n ≤ cap → Calls Tryd.prog 37 #[.slice a n cap] W0 fun e w' => e = .returned (.agg (ab 32 (root L))) ∧ Below W0.heap.size W0 w' := by
  intro n
  induction n using Nat.strongRecOn with
  | ind n ih =>
    intro L a cap W0 hL hm hg hs hcap
    rcases Nat.lt_or_ge n 2 with h2 | h2
    · rcases Nat.lt_or_ge n 1 with h1 | h1
      · obtain rfl : n = 0 := by omega
        obtain rfl := List.eq_nil_of_length_eq_zero hL
        rw [root_0]
        exact root_d_0 (fun w hw => empty_d (gl_b hg hw.below))
      · obtain rfl : n = 1 := by omega
        obtain ⟨b, off, rfl, hc⟩ := hs.2 (by omega)
        obtain ⟨x, rfl⟩ : ∃ x, L = [x] := List.length_eq_one_iff.1 hL
        rw [root_1]
        exact root_d_1 (fun w hw => ld_ss (i := 0) (hs.later hw.below) (by simp))
    · obtain ⟨b, off, rfl, hc⟩ := hs.2 (by omega)
      have hk := cut_in h2
      have l1 : (L.take (cut n)).length = cut n := by rw [List.length_take]; omega
      have l2 : (L.drop (cut n)).length = n - cut n := by rw [List.length_drop]; omega
      have b1 := root_lt _ (L.take (cut n)) rfl (fun F hF => hs.1 F (List.mem_of_mem_take hF))
      have b2 := root_lt _ (L.drop (cut n)) rfl (fun F hF => hs.1 F (List.mem_of_mem_drop hF))
      rw [root_n (by omega), hL]
      exact root_d_2 h2 hm hcap hk (fun w hw => ih (cut n) hk.2.1 (L.take (cut n)) _ cap w l1 (by omega) (gl_b hg hw.below) (hs.lo.later hw.below) (by omega))
        (fun w hw => ih (n - cut n) (by omega) (L.drop (cut n)) _ (cap - cut n) w l2 (by omega) (gl_b hg hw.below) (hs.hi.later hw.below) (by omega))
        (fun w hw => node_d (gl_b hg hw.below) b1 b2)

set_option maxHeartbeats 4000000 in
theorem root_r_0 {a0 : Option Addr} {cap : Nat} {W0 : World} {E0 : Nat → Nat} (hem : ∀ w, KW (wd W0) w → Calls Tryd.prog 42 #[.slice none 0 0] w fun e w' => e = .returned (.agg (ab 32 E0)) ∧ Below w.heap.size w w') : Calls Tryd.prog 15 #[.slice a0 0 cap] W0 fun e w' => e = .returned (.agg (ab 32 E0)) ∧ Below W0.heap.size W0 w' := by
  refine s_in Tryd.func15 Tryd.ntmps15 rfl [.inl (.slice a0 0 cap)] ?_
  intro β a h
  refine sym_seq ?_
  refine St.rg h [(2, .inr (0, pt 0))] [(ab 32 (fun _ => 0), 34)] [] [eN 0] ?_ ?_
  · exact oc (k_al 0 alS rfl rfl) <|
    ok_nil
  clear h; intro β a w h
  refine sym_then ?_
  refine sym_seq ?_
  refine sym_seq ?_
  refine St.r0 h [(4, .inl (.slice a0 0 cap)), (5, .inl (.int .i64 ((0 : Nat) : Int))), (6, .inl (.bool true))] [] ?_ ?_
  · exact oz (k_mv (.inl rfl) rfl) <|
    oz (k_ln (ad := a0) 0 cap rfl rfl (fun w => len_ss _ w)) <|
    oz (k_bi (.int .i64 ((0 : Nat) : Int)) (.int .i64 ((0 : Nat) : Int)) (.bool true) (eq_i (m := ((0 : Nat) : Int)) (n := ((0 : Nat) : Int)) (decide_eq_true (by omega))) rfl rfl) <|
    ok_nil
  clear h; intro β a w h
  refine sym_then ?_
  refine s_ct h ?_
  refine sym_seq ?_
  refine St.rg h [(7, .inl (.agg (ab 32 E0)))] [] [(0, ab 32 E0)] [nn, eS 0] ?_ ?_
  · exact oc (k_cw 42 #[.slice none 0 0] (.agg (ab 32 E0)) (fun w hw => hem w hw) rfl rfl) <|
    oc (k_st 0 0 (.agg (ab 32 E0)) (c := ab 32 (fun _ => 0)) (n := ab 32 E0) (stS (F := E0) (c := ab 32 (fun _ => 0)) 34 (ab_size _ _)) rfl rfl) <|
    ok_nil
  clear h; intro β a w h
  refine sym_then ?_
  refine wp_ret ?_
  refine then_ret ?_
  exact s_rc (b := 0) (t0 := 34) (c := ab 32 E0) h Tryd.results15 Tryd.underlying34 (fun hb => ⟨rfl, hb⟩) (by rw [ab_size]; kernel_rfl)
set_option maxHeartbeats 4000000 in
theorem root_r_1 {b off cap : Nat} {W0 : World} {L0 : Nat → Nat} (ld0 : ∀ w, KW (wd W0) w → (Instr.loadAt 34 (.pointer (some ⟨b, off + 32 * 0, none⟩))).run Tryd.prog w = .ok (.agg (ab 32 L0)) w) : Calls Tryd.prog 15 #[.slice (some ⟨b, off, none⟩) 1 cap] W0 fun e w' => e = .returned (.agg (ab 32 L0)) ∧ Below W0.heap.size W0 w' := by
  refine s_in Tryd.func15 Tryd.ntmps15 rfl [.inl (.slice (some ⟨b, off, none⟩) 1 cap)] ?_
  intro β a h
  refine sym_seq ?_
  refine St.rg h [(2, .inr (0, pt 0))] [(ab 32 (fun _ => 0), 34)] [] [eN 0] ?_ ?_
  · exact oc (k_al 0 alS rfl rfl) <|
    ok_nil
  clear h; intro β a w h
  refine sym_then ?_
  refine sym_seq ?_
  refine sym_seq ?_
  refine St.r0 h [(4, .inl (.slice (some ⟨b, off, none⟩) 1 cap)), (5, .inl (.int .i64 ((1 : Nat) : Int))), (6, .inl (.bool false))] [] ?_ ?_
  · exact oz (k_mv (.inl rfl) rfl) <|
    oz (k_ln (ad := (some ⟨b, off, none⟩)) 1 cap rfl rfl (fun w => len_ss _ w)) <|
    oz (k_bi (.int .i64 ((1 : Nat) : Int)) (.int .i64 ((0 : Nat) : Int)) (.bool false) (eq_i (m := ((1 : Nat) : Int)) (n := ((0 : Nat) : Int)) (decide_eq_false (by omega))) rfl rfl) <|
    ok_nil
  clear h; intro β a w h
  refine sym_then ?_
  refine s_cf h ?_
  refine wp_skip ?_
  refine sym_then ?_
  refine sym_seq ?_
  refine sym_seq ?_
  refine St.r0 h [(8, .inl (.slice (some ⟨b, off, none⟩) 1 cap)), (9, .inl (.int .i64 ((1 : Nat) : Int))), (10, .inl (.bool true))] [] ?_ ?_
  · exact oz (k_mv (.inl rfl) rfl) <|
    oz (k_ln (ad := (some ⟨b, off, none⟩)) 1 cap rfl rfl (fun w => len_ss _ w)) <|
    oz (k_bi (.int .i64 ((1 : Nat) : Int)) (.int .i64 ((1 : Nat) : Int)) (.bool true) (eq_i (m := ((1 : Nat) : Int)) (n := ((1 : Nat) : Int)) (decide_eq_true (by omega))) rfl rfl) <|
    ok_nil
  clear h; intro β a w h
  refine sym_then ?_
  refine s_ct h ?_
  refine sym_seq ?_
  refine St.rg h [(11, .inl (.slice (some ⟨b, off, none⟩) 1 cap)), (12, .inl (.pointer (some ⟨b, off + 32 * 0, none⟩))), (13, .inl (.agg (ab 32 L0)))] [] [(0, ab 32 L0)] [nn, nn, nn, eS 0] ?_ ?_
  · exact oc (k_mv (.inl rfl) rfl) <|
    oc (k_is (.slice (some ⟨b, off, none⟩) 1 cap) (.int .i64 ((0 : Nat) : Int)) (.pointer (some ⟨b, off + 32 * 0, none⟩)) (fun w => ix_ss (i := 0) (by omega) w) rfl rfl) <|
    oc (k_lf (.pointer (some ⟨b, off + 32 * 0, none⟩)) (.agg (ab 32 L0)) (fun w hw => ld0 w hw) rfl rfl) <|
    oc (k_st 0 0 (.agg (ab 32 L0)) (c := ab 32 (fun _ => 0)) (n := ab 32 L0) (stS (F := L0) (c := ab 32 (fun _ => 0)) 34 (ab_size _ _)) rfl rfl) <|
    ok_nil
  clear h; intro β a w h
  refine sym_then ?_
  refine wp_ret ?_
  refine then_ret ?_
  exact s_rc (b := 0) (t0 := 34) (c := ab 32 L0) h Tryd.results15 Tryd.underlying34 (fun hb => ⟨rfl, hb⟩) (by rw [ab_size]; kernel_rfl)
set_option maxHeartbeats 4000000 in
theorem root_r_2 {b off n cap : Nat} {W0 : World} {Rlo Rhi : Nat → Nat} (hn : 2 ≤ n) (hm : n ≤ 1000000) (hcap : n ≤ cap) (hk : 1 ≤ cut n ∧ cut n < n ∧ n ≤ 2 * cut n)
    (hlo : ∀ w, KW (wd W0) w → Calls Tryd.prog 15 #[.slice (some ⟨b, off, none⟩) (cut n) cap] w fun e w' => e = .returned (.agg (ab 32 Rlo)) ∧ Below w.heap.size w w')
    (hhi : ∀ w, KW (wd W0) w → Calls Tryd.prog 15 #[.slice (some ⟨b, off + 32 * cut n, none⟩) (n - cut n) (cap - cut n)] w fun e w' => e = .returned (.agg (ab 32 Rhi)) ∧ Below w.heap.size w w')
    (hnd : ∀ w, KW (wd W0) w → Calls Tryd.prog 44 #[.agg (ab 32 Rlo), .agg (ab 32 Rhi)] w fun e w' => e = .returned (.agg (ab 32 (nd Rlo Rhi))) ∧ Below w.heap.size w w') : Calls Tryd.prog 15 #[.slice (some ⟨b, off, none⟩) n cap] W0 fun e w' => e = .returned (.agg (ab 32 (nd Rlo Rhi))) ∧ Below W0.heap.size W0 w' := by
  obtain ⟨hk1, hk2, hk3⟩ := hk
  refine s_in Tryd.func15 Tryd.ntmps15 rfl [.inl (.slice (some ⟨b, off, none⟩) n cap)] ?_
  intro β a h
  refine sym_seq ?_
  refine St.rg h [(2, .inr (0, pt 0))] [(ab 32 (fun _ => 0), 34)] [] [eN 0] ?_ ?_
  · exact oc (k_al 0 alS rfl rfl) <|
    ok_nil
  clear h; intro β a w h
  refine sym_then ?_
  refine sym_seq ?_
  refine sym_seq ?_
  refine St.r0 h [(4, .inl (.slice (some ⟨b, off, none⟩) n cap)), (5, .inl (.int .i64 ((n : Nat) : Int))), (6, .inl (.bool false))] [] ?_ ?_
  · exact oz (k_mv (.inl rfl) rfl) <|
    oz (k_ln (ad := (some ⟨b, off, none⟩)) n cap rfl rfl (fun w => len_ss _ w)) <|
    oz (k_bi (.int .i64 ((n : Nat) : Int)) (.int .i64 ((0 : Nat) : Int)) (.bool false) (eq_i (m := ((n : Nat) : Int)) (n := ((0 : Nat) : Int)) (decide_eq_false (by omega))) rfl rfl) <|
    ok_nil
  clear h; intro β a w h
  refine sym_then ?_
  refine s_cf h ?_
  refine wp_skip ?_
  refine sym_then ?_
  refine sym_seq ?_
  refine sym_seq ?_
  refine St.r0 h [(8, .inl (.slice (some ⟨b, off, none⟩) n cap)), (9, .inl (.int .i64 ((n : Nat) : Int))), (10, .inl (.bool false))] [] ?_ ?_
  · exact oz (k_mv (.inl rfl) rfl) <|
    oz (k_ln (ad := (some ⟨b, off, none⟩)) n cap rfl rfl (fun w => len_ss _ w)) <|
    oz (k_bi (.int .i64 ((n : Nat) : Int)) (.int .i64 ((1 : Nat) : Int)) (.bool false) (eq_i (m := ((n : Nat) : Int)) (n := ((1 : Nat) : Int)) (decide_eq_false (by omega))) rfl rfl) <|
    ok_nil
  clear h; intro β a w h
  refine sym_then ?_
  refine s_cf h ?_
  refine wp_skip ?_
  refine sym_then ?_
  refine sym_seq ?_
  refine St.r0 h [(14, .inl (.slice (some ⟨b, off, none⟩) n cap)), (15, .inl (.int .i64 ((n : Nat) : Int))), (16, .inl (.int .i64 (((cut n) : Nat) : Int))), (3, .inl (.int .i64 (((cut n) : Nat) : Int)))] [] ?_ ?_
  · exact oz (k_mv (.inl rfl) rfl) <|
    oz (k_ln (ad := (some ⟨b, off, none⟩)) n cap rfl rfl (fun w => len_ss _ w)) <|
    oz (k_ca 43 #[.int .i64 ((n : Nat) : Int)] (.int .i64 (((cut n) : Nat) : Int)) (fun w => cut_kr n (by omega) w) rfl rfl) <|
    oz (k_mv (.inr rfl) rfl) <|
    ok_nil
  clear h; intro β a w h
  refine sym_then ?_
  refine sym_seq ?_
  refine St.rg h [(17, .inl (.slice (some ⟨b, off, none⟩) n cap)), (18, .inl (.int .i64 (((cut n) : Nat) : Int))), (19, .inl (.slice (some ⟨b, off, none⟩) (cut n) cap)), (20, .inl (.agg (ab 32 Rlo))), (21, .inl (.slice (some ⟨b, off, none⟩) n cap)), (22, .inl (.int .i64 (((cut n) : Nat) : Int))), (23, .inl (.slice (some ⟨b, off + 32 * (cut n), none⟩) (n - (cut n)) (cap - (cut n)))), (24, .inl (.agg (ab 32 Rhi))), (25, .inl (.agg (ab 32 (nd Rlo Rhi))))] [] [(0, ab 32 (nd Rlo Rhi))] [nn, nn, nn, nn, nn, nn, nn, nn, nn, eS 0] ?_ ?_
  · exact oc (k_mv (.inl rfl) rfl) <|
    oc (k_mv (.inl rfl) rfl) <|
    oc (k_sw (.slice (some ⟨b, off, none⟩) n cap) (.slice (some ⟨b, off, none⟩) (cut n) cap) none (some (.int .i64 (((cut n) : Nat) : Int))) (sl_lo (by omega) hcap) rfl rfl) <|
    oc (k_cw 15 #[.slice (some ⟨b, off, none⟩) (cut n) cap] (.agg (ab 32 Rlo)) (fun w hw => hlo w hw) rfl rfl) <|
    oc (k_mv (.inl rfl) rfl) <|
    oc (k_mv (.inl rfl) rfl) <|
    oc (k_sw (.slice (some ⟨b, off, none⟩) n cap) (.slice (some ⟨b, off + 32 * (cut n), none⟩) (n - (cut n)) (cap - (cut n))) (some (.int .i64 (((cut n) : Nat) : Int))) none (sl_hi (by omega) hcap) rfl rfl) <|
    oc (k_cw 15 #[.slice (some ⟨b, off + 32 * (cut n), none⟩) (n - (cut n)) (cap - (cut n))] (.agg (ab 32 Rhi)) (fun w hw => hhi w hw) rfl rfl) <|
    oc (k_cw 44 #[.agg (ab 32 Rlo), .agg (ab 32 Rhi)] (.agg (ab 32 (nd Rlo Rhi))) (fun w hw => hnd w hw) rfl rfl) <|
    oc (k_st 0 0 (.agg (ab 32 (nd Rlo Rhi))) (c := ab 32 (fun _ => 0)) (n := ab 32 (nd Rlo Rhi)) (stS (F := (nd Rlo Rhi)) (c := ab 32 (fun _ => 0)) 34 (ab_size _ _)) rfl rfl) <|
    ok_nil
  clear h; intro β a w h
  refine sym_then ?_
  refine wp_ret ?_
  exact s_rc (b := 0) (t0 := 34) (c := ab 32 (nd Rlo Rhi)) h Tryd.results15 Tryd.underlying34 (fun hb => ⟨rfl, hb⟩) (by rw [ab_size]; kernel_rfl)
theorem root_r : ∀ (n : Nat) (L : List (Nat → Nat)) (a : Option Addr) (cap : Nat) (W0 : World), L.length = n → n ≤ 1000000 → SsAt W0 a L → n ≤ cap → Calls Tryd.prog 15 #[.slice a n cap] W0 fun e w' => e = .returned (.agg (ab 32 (root L))) ∧ Below W0.heap.size W0 w' := by
  intro n
  induction n using Nat.strongRecOn with
  | ind n ih =>
    intro L a cap W0 hL hm hs hcap
    rcases Nat.lt_or_ge n 2 with h2 | h2
    · rcases Nat.lt_or_ge n 1 with h1 | h1
      · obtain rfl : n = 0 := by omega
        obtain rfl := List.eq_nil_of_length_eq_zero hL
        rw [root_0]
        exact root_r_0 (fun w hw => refShort_d (f := fun _ => 0) ⟨fun _ => (by decide : 0 < 256), fun h => absurd h (by omega)⟩ (by omega))
      · obtain rfl : n = 1 := by omega
        obtain ⟨b, off, rfl, hc⟩ := hs.2 (by omega)
        obtain ⟨x, rfl⟩ : ∃ x, L = [x] := List.length_eq_one_iff.1 hL
        rw [root_1]
        exact root_r_1 (fun w hw => ld_ss (i := 0) (hs.later hw.below) (by simp))
    · obtain ⟨b, off, rfl, hc⟩ := hs.2 (by omega)
      have hk := cut_in h2
      have l1 : (L.take (cut n)).length = cut n := by rw [List.length_take]; omega
      have l2 : (L.drop (cut n)).length = n - cut n := by rw [List.length_drop]; omega
      have b1 := root_lt _ (L.take (cut n)) rfl (fun F hF => hs.1 F (List.mem_of_mem_take hF))
      have b2 := root_lt _ (L.drop (cut n)) rfl (fun F hF => hs.1 F (List.mem_of_mem_drop hF))
      rw [root_n (by omega), hL]
      exact root_r_2 h2 hm hcap hk (fun w hw => ih (cut n) hk.2.1 (L.take (cut n)) _ cap w l1 (by omega) (hs.lo.later hw.below) (by omega))
        (fun w hw => ih (n - cut n) (by omega) (L.drop (cut n)) _ (cap - cut n) w l2 (by omega) (hs.hi.later hw.below) (by omega))
        (fun w hw => node_r b1 b2)
end Go.Proofs.YtgnmnoadfjdjdaaDoor

namespace Go.Proofs.YtgnmnoadfjdjdaaDoor
open Go.RowKit Go.Shelf Sh
attribute [local go_sem] Oper.semAt_some

/-- Where a part is cut: its beginning, the cut, its end, and whether the way goes on to the right. -/
structure Cu where
  f : Nat
  a : Nat
  e : Nat
  r : Bool
  deriving Inhabited
def cv (c : Cu) : Value := .agg #[.int .i64 ((c.f : Nat) : Int), .int .i64 ((c.a : Nat) : Int), .int .i64 ((c.e : Nat) : Int), .bool c.r]
def wayN : Nat → Nat → Nat → Nat → List Cu
  | 0, _, _, _ => []
  | k + 1, i, f, e => if e ≤ f + 1 then [] else ⟨f, f + cut (e - f), e, decide (f + cut (e - f) ≤ i)⟩ :: (if f + cut (e - f) ≤ i then wayN k i (f + cut (e - f)) e else wayN k i f (f + cut (e - f)))
/-- The cuts on the way to leaf i of n, the whole row's first. -/
def way (i n : Nat) : List Cu := wayN n i 0 n
theorem wayN_0 {q i f e : Nat} (h : e ≤ f + 1) : wayN q i f e = [] := by
  cases q with
  | zero => rfl
  | succ q => unfold wayN; rw [if_pos h]
theorem wayN_s {q i f e : Nat} (h : f + 1 < e) : wayN (q + 1) i f e = ⟨f, f + cut (e - f), e, decide (f + cut (e - f) ≤ i)⟩ :: (if f + cut (e - f) ≤ i then wayN q i (f + cut (e - f)) e else wayN q i f (f + cut (e - f))) := by
  conv => lhs; unfold wayN
  rw [if_neg (by omega)]

/-- Rows of cuts aside: what a round must keep of the blocks from h on, and of those of P. -/
def NoCut (o : Obj) : Prop := ∀ c z, o ≠ .cells c 73 z
structure Kx (h : Nat) (P : Nat → Prop) (W W' : World) : Prop where
  size : W.heap.size ≤ W'.heap.size
  same : ∀ j o, W.heap[j]? = some o → (h ≤ j ∨ P j) → NoCut o → W'.heap[j]? = some o
theorem Kx.refl (h : Nat) (P : Nat → Prop) (W : World) : Kx h P W W := ⟨Nat.le_refl _, fun _ _ h _ _ => h⟩
theorem Kx.trans {h : Nat} {P : Nat → Prop} {A B C : World} (x : Kx h P A B) (y : Kx h P B C) : Kx h P A C := ⟨Nat.le_trans x.size y.size, fun j o h1 h2 h3 => y.same j o (x.same j o h1 h2 h3) h2 h3⟩
theorem Kx.weak {h h' : Nat} {P P' : Nat → Prop} {A B : World} (x : Kx h P A B) (hP : ∀ j, h' ≤ j ∨ P' j → h ≤ j ∨ P j) : Kx h' P' A B := ⟨x.size, fun j o h1 h2 h3 => x.same j o h1 (hP j h2) h3⟩
theorem Kx.below {h : Nat} {P : Nat → Prop} {A B : World} (x : Below A.heap.size A B) : Kx h P A B := ⟨x.size, fun j _ h1 _ _ => (x.block j (Array.getElem?_eq_some_iff.1 h1).1).trans h1⟩
theorem Kx.put {h j : Nat} {P : Nat → Prop} (W : World) (o : Obj) (hj : j < h) (hP : ¬ P j) : Kx h P W (W.putObj j o) := ⟨by simp [World.putObj], fun i o' h1 h2 _ => by
  rw [World.putObj_heap_other (by rintro rfl; rcases h2 with h2 | h2 <;> first | omega | exact hP h2)]; exact h1⟩
theorem nocut_loop (r : Loop) : NoCut (.loop r) := fun _ _ h => by cases h
theorem nocut_def (d : Option (List Deferred)) : NoCut (.deferred d) := fun _ _ h => by cases h

/-- An iterator that hands on the cuts xs. -/
def SeqX (gf : Nat) (lb : Array Value) (xs : List Cu) (P : Nat → Prop) (w : World) : Prop :=
  ∀ (l : Nat) (J Jx : Nat → World → Prop) (W : World), Below w.heap.size w W → OwnFrom W.heap.size J → OwnFrom W.heap.size Jx →
    (∀ k (hk : k < xs.length) W1, J k W1 → YieldAt Fence.wide 3 Tryd.prog l #[cv xs[k]] W1 fun e W' =>
      (e = .returned (.bool true) ∧ J (k + 1) W' ∧ Kx W.heap.size P W1 W') ∨ (e = .returned (.bool false) ∧ Jx k W' ∧ Kx W.heap.size P W1 W')) →
    J 0 W → CallsIn Fence.wide 4 Tryd.prog gf (#[.func (.yield l) #[] #[]] ++ lb) W fun e W' => (∃ v, e = .returned v) ∧ (J xs.length W' ∨ ∃ k, k < xs.length ∧ Jx k W')

/-- How a round may end. -/
def outX (B : Nat) (P : Nat → Prop) (I : Nat → World → Prop) (Ix : Code → Nat → World → Prop) (k : Nat) (W : World) : Exit → Act → World → Prop
  | .normal, _, W' => Kx B P W W' ∧ I (k + 1) W'
  | .ret, _, W' => Kx B P W W' ∧ Ix .ret k W'
  | .exit id, _, W' => Kx B P W W' ∧ Ix (.exit id) k W'
  | _, _, _ => False

section
variable {P : Nat → Prop} {I : Nat → World → Prop} {Ix : Code → Nat → World → Prop} {B : Nat}
/-- The loop's record and the block of the rounds' deferred calls stand. -/
def Bk (B : Nat) (r : Loop) (W : World) : Prop := W.heap[B + 1]? = some (.loop r) ∧ W.heap[B]? = some (.deferred (some []))
theorem Bk.grown {r : Loop} {W W' : World} {row : Option Nat} (h : Bk B r W) (hg : W.grownBy W' row) (hr : ∀ x, row = some x → B + 2 ≤ x) : Bk B r W' :=
  ⟨(hg.block _ (Array.getElem?_eq_some_iff.1 h.1).1 (fun e => by have := hr _ e.symm; omega)).trans h.1, (hg.block _ (Array.getElem?_eq_some_iff.1 h.2).1 (fun e => by have := hr _ e.symm; omega)).trans h.2⟩
theorem Bk.put {r : Loop} {W : World} (h : Bk B r W) (r' : Loop) : Bk B r' (W.putObj (B + 1) (.loop r')) :=
  ⟨World.putObj_heap_same (Array.getElem?_eq_some_iff.1 h.1).1, (World.putObj_heap_other (by omega)).trans h.2⟩
theorem Bk.keeps {r : Loop} {W W' : World} (h : Bk B r W) (hk : Kx B P W W') : Bk B r W' := ⟨hk.same _ _ h.1 (.inl (by omega)) (nocut_loop _), hk.same _ _ h.2 (.inl (by omega)) (nocut_def _)⟩
/-- One round. -/
theorem round_x {r : Loop} (hrs : r.state = .ready) (hrp : r.pending = none) (hP : ¬ P (B + 1)) (hI : OwnFrom B I) (hIx : ∀ c, OwnFrom B (Ix c)) {c : Cu} (hps : r.params.size = 1) (k : Nat) (hround : ∀ (l : Nat) (W : World) (Kq : Act → World → Prop), B + 2 ≤ W.heap.size → I k W → (∀ a' W', Below W.heap.size W W' → (∀ W2, (∀ j, j ≠ B + 1 → W2.heap[j]? = W'.heap[j]?) → W2.heap.size = W'.heap.size → I k W2 → r.body.wpIn (Fence.wide.inRound l) 3 Tryd.prog (outX B P I Ix k W2) a' W2) → Kq a' W') →
      r.assign.wpIn (Fence.wide.inRound l) 3 Tryd.prog (Exit.then Kq (fun _ _ _ => False)) { tmps := (r.params.zip #[cv c]).foldl (fun t (p, v) => t.setIfInBounds p v) r.tmps, defers := [] } W) (W : World) (hi : I k W) (hbk : Bk B r W) {R : Ending → World → Prop}
    (hR1 : ∀ W', I (k + 1) W' ∧ Bk B r W' → Kx (B + 2) P W W' → R (.returned (.bool true)) W')
    (hR2 : ∀ c W', Ix c k W' → Bk B { r with state := .done, pending := some c } W' → Kx (B + 2) P W W' → R (.returned (.bool false)) W') :
    YieldAt Fence.wide 3 Tryd.prog (B + 1) #[cv c] W R := by
  have hk : ∀ {A : World} {o : Obj}, Kx (B + 2) P A (A.putObj (B + 1) o) := fun {A o} => Kx.put A o (by omega) hP
  have hw : ∀ {A A' : World}, Kx B P A A' → Kx (B + 2) P A A' := fun h => h.weak (fun j hj => hj.imp (fun h => by omega) id)
  refine ⟨r.fn, _, r.assign, r.body, run_yield hbk.1 (by rw [hps]; rfl), roundIn_of_wpIn trivial (hround (B + 1) W _ (Array.getElem?_eq_some_iff.1 hbk.1).1 hi fun a' W0 hb0 hbody => ?_)⟩
  have hbk0 : Bk B r W0 := ⟨(hb0.block _ (Array.getElem?_eq_some_iff.1 hbk.1).1).trans hbk.1, (hb0.block _ (Array.getElem?_eq_some_iff.1 hbk.2).1).trans hbk.2⟩
  refine ⟨_, run_beginRound hbk0.1 hrs, ?_⟩
  have hi0 : I k W0 := hI k W W0 none hi ⟨hb0.os, hb0.tape, hb0.output, hb0.size, fun j hj _ => hb0.block j hj⟩ (fun _ e => by cases e)
  have hb2 := hbk0.put { r with state := .busy }
  have hi2 := hI.putObj (.loop { r with state := .busy }) hi0 (Nat.le_succ B) hbk0.1 rfl
  have k02 : Kx (B + 2) P W (W0.putObj (B + 1) (.loop { r with state := .busy })) := (Kx.below hb0).trans hk
  have back : ({ ({ r with state := .busy } : Loop) with state := .ready, pending := none } : Loop) = r := by cases r; simp_all
  refine wpIn_mono (hbody _ (fun j hj => World.putObj_heap_other hj) (by simp [World.putObj]) hi2) ?_
  rintro e a3 W3 hp
  cases e with
  | normal =>
    have hb3 := hb2.keeps hp.1
    have hr := run_endRound (P := Tryd.prog) none hb3.1
    simp only [Option.isNone_none, if_true] at hr
    rw [back] at hr
    have h4 := hI.putObj (.loop r) hp.2 (Nat.le_succ B) hb3.1 rfl
    exact ⟨_, _, hr, hR1 _ ⟨h4, hb3.put r⟩ ((k02.trans (hw hp.1)).trans hk)⟩
  | ret =>
    have hb3 := hb2.keeps hp.1
    have hr := run_endRound (P := Tryd.prog) (some .ret) hb3.1
    exact ⟨_, _, hr, hR2 .ret _ ((hIx _).putObj _ hp.2 (Nat.le_succ B) hb3.1 rfl) (hb3.put _) ((k02.trans (hw hp.1)).trans hk)⟩
  | exit id =>
    have hb3 := hb2.keeps hp.1
    have hr := run_endRound (P := Tryd.prog) (some (.exit id)) hb3.1
    exact ⟨_, _, hr, hR2 (.exit id) _ ((hIx _).putObj _ hp.2 (Nat.le_succ B) hb3.1 rfl) (hb3.put _) ((k02.trans (hw hp.1)).trans hk)⟩
  | goto t => exact hp.elim
  | panic ch => exact hp.elim
  | outgrown => exact hp.elim
end

/-- The statement 'for .. := range g', over such an iterator. -/
theorem range_x {g : Operand} {p0 : Tmp} {assign body : Code} {Q : Exit → Act → World → Prop} {a : Act} {w : World} {gf : Nat} {lb : Array Value} (hg : a.eval g = .func (.func gf) #[] lb) (eg : ∀ args w, (callFunc gf args).run Tryd.prog w = .ok (.enter gf args) w)
    {xs : List Cu} {P : Nat → Prop} (hseq : SeqX gf lb xs P w) (hP : ∀ j, P j → j < w.heap.size)
    (I : Nat → World → Prop) (Ix : Code → Nat → World → Prop) (hI : OwnFrom w.heap.size I) (hIx : ∀ c, OwnFrom w.heap.size (Ix c)) (h0 : I 0 w)
    (hround : ∀ (l k : Nat) (hk : k < xs.length) (W : World) (Kq : Act → World → Prop), w.heap.size + 2 ≤ W.heap.size → I k W → (∀ a' W', Below W.heap.size W W' → (∀ W2, (∀ j, j ≠ w.heap.size + 1 → W2.heap[j]? = W'.heap[j]?) → W2.heap.size = W'.heap.size → I k W2 → body.wpIn (Fence.wide.inRound l) 3 Tryd.prog (outX w.heap.size P I Ix k W2) a' W2) → Kq a' W') →
      assign.wpIn (Fence.wide.inRound l) 3 Tryd.prog (Exit.then Kq (fun _ _ _ => False)) { tmps := a.tmps.setIfInBounds p0 (cv xs[k]), defers := [] } W)
    (hdone : ∀ (D : Nat) (W : World), w.heap.size ≤ D → I xs.length W → W.heap[D]? = some (.deferred (some [])) → Q .normal { a with defers := { target := .collected D, args := #[] } :: a.defers } W)
    (hstop : ∀ (D : Nat) (c : Code) (k : Nat) (W : World), w.heap.size ≤ D → k < xs.length → Ix c k W → W.heap[D]? = some (.deferred (some [])) → c.wpIn Fence.wide 5 Tryd.prog Q { a with defers := { target := .collected D, args := #[] } :: a.defers } W) :
    (Code.rangeFunc g #[p0] assign body).wpIn Fence.wide 5 Tryd.prog Q a w := by
  refine wpIn_rangeFunc ?_
  intro fn _
  generalize hr : ({ state := .ready, pending := none, fn := fn, tmps := a.tmps, params := #[p0], assign := assign, body := body, defers := w.heap.size } : Loop) = r
  have hb0 : Bk w.heap.size r ((w.alloc (.deferred (some []))).alloc (.loop r)) := by
    refine ⟨?_, (Below.heap_alloc _ _ _ (by simp)).trans (World.alloc_heap_new w _)⟩
    have := World.alloc_heap_new (w.alloc (.deferred (some []))) (.loop r)
    rwa [World.size_alloc] at this
  have hi0 : I 0 ((w.alloc (.deferred (some []))).alloc (.loop r)) := hI.alloc _ (hI.alloc _ h0)
  have hbe : Below w.heap.size w ((w.alloc (.deferred (some []))).alloc (.loop r)) := ((Below.refl _ w).alloc (Nat.le_refl _) _).alloc (by simp) _
  have hsz : ((w.alloc (.deferred (some []))).alloc (.loop r)).heap.size = w.heap.size + 2 := by simp
  have hen := run_enterLoop_outer (P := Tryd.prog) (w := w) fn a.tmps #[p0] assign body
  rw [hr] at hen
  generalize (w.alloc (.deferred (some []))).alloc (.loop r) = W1 at hb0 hi0 hbe hen hsz
  refine ⟨w.heap.size + 1, [{ target := .collected w.heap.size, args := #[] }], W1, { target := .fn (.func gf) lb, args := #[.func (.yield (w.heap.size + 1)) #[] #[]] }, W1, gf, #[.func (.yield (w.heap.size + 1)) #[] #[]] ++ lb, W1, hen, ?_, fun _ _ => trivial, ?_, fun _ => by omega, ?_⟩
  · simp only [resolve, hg]; simp [go_sem]
  · simp [invoke, go_sem, eg]
  · refine (hseq (w.heap.size + 1) (fun k W => I k W ∧ Bk w.heap.size r W) (fun k W => ∃ c, Ix c k W ∧ Bk w.heap.size { r with state := .done, pending := some c } W) W1 hbe ?_ ?_ ?_ ⟨hi0, hb0⟩).mono ?_
    · intro s A B row hs hg' hrow
      exact ⟨hI s A B row hs.1 hg' (fun x e => ⟨Nat.le_trans hbe.size (hrow x e).1, (hrow x e).2⟩), hs.2.grown hg' (fun x e => by have := (hrow x e).1; omega)⟩
    · rintro s A B row ⟨c, hc, hb⟩ hg' hrow
      exact ⟨c, hIx c s A B row hc hg' (fun x e => ⟨Nat.le_trans hbe.size (hrow x e).1, (hrow x e).2⟩), hb.grown hg' (fun x e => by have := (hrow x e).1; omega)⟩
    · intro k hk W hj
      subst hr
      rw [hsz]
      exact round_x rfl rfl (fun h => by have := hP _ h; omega) hI hIx rfl k (fun l W Kq hz hi hK => by simpa using hround l k hk W Kq hz hi hK) W hj.1 hj.2 (fun W' h1 h2 => .inl ⟨rfl, h1, h2⟩) (fun c W' h1 h2 h3 => .inr ⟨rfl, ⟨c, h1, h2⟩, h3⟩)
    · subst hr
      rintro e W2 ⟨⟨v, rfl⟩, (⟨hi, hb⟩ | ⟨k, hk, c, hi, hb⟩)⟩
      · exact ⟨none, _, run_endLoop hb.1 (by simp), hdone _ _ (Nat.le_refl _) (hI.putObj _ hi (Nat.le_succ _) hb.1 rfl) (hb.put _).2⟩
      · exact ⟨some c, _, run_endLoop hb.1 (by simp), hstop _ c k _ (Nat.le_refl _) hk ((hIx c).putObj _ hi (Nat.le_succ _) hb.1 rfl) (hb.put _).2⟩
end Go.Proofs.YtgnmnoadfjdjdaaDoor

namespace Go.Proofs.YtgnmnoadfjdjdaaDoor
open Go.RowKit Go.Shelf Sh
attribute [local go_sem] Oper.semAt_some

def Bx (W : World) (p : Nat) (t : TypeId) (v : Value) : Prop := W.heap[p]? = some (.cells #[v] t (0, 0))
theorem Bx.cell {W : World} {p t : Nat} {v : Value} (h : Bx W p t v) : W.cell? ⟨p, 0, none⟩ = some v := by simp [World.cell?, show W.heap[p]? = _ from h]
theorem Bx.lt {W : World} {p t : Nat} {v : Value} (h : Bx W p t v) : p < W.heap.size := (Array.getElem?_eq_some_iff.1 h).1
theorem Bx.later {W W' : World} {p t : Nat} {v : Value} (h : Bx W p t v) (hb : Below W.heap.size W W') : Bx W' p t v := (hb.block p h.lt).trans h
theorem Bx.kx {W W' : World} {p t h : Nat} {v : Value} {P : Nat → Prop} (x : Bx W p t v) (k : Kx h P W W') (hp : h ≤ p ∨ P p) (ht : t ≠ 73) : Bx W' p t v := k.same p _ x hp (fun c z e => by cases e; exact ht rfl)
theorem Bx.new (W : World) (t : TypeId) (v : Value) : Bx (W.alloc (.cells #[v] t)) W.heap.size t v := World.alloc_heap_new W _
theorem Bx.own {W W' : World} {p t : Nat} {v : Value} {row : Option Nat} (h : Bx W p t v) (hg : W.grownBy W' row) (hr : ∀ r, row = some r → ∃ o : Obj, W.heap[r]? = some o ∧ o.isCells = false) : Bx W' p t v :=
  (hg.block p h.lt (fun e => by obtain ⟨o, ho, hc⟩ := hr p e.symm; rw [show W.heap[p]? = _ from h] at ho; cases ho; cases hc)).trans h

set_option maxHeartbeats 400000 in
theorem cuts_d (i n : Int) (w : World) :
    Calls Tryd.prog 49 #[.int .i64 i, .int .i64 n] w fun e w' => e = .returned (.func (.func 70) #[] #[.pointer (some ⟨w.heap.size + 1, 0, none⟩), .pointer (some ⟨w.heap.size, 0, none⟩)]) ∧ w' = (w.alloc (.cells #[.int .i64 i] 3)).alloc (.cells #[.int .i64 n] 3) := by
  go_enter Tryd.func49, Tryd.ntmps49
  go_wp2
  go_ret
  exact ⟨rfl, rfl⟩

set_option maxRecDepth 100000 in
set_option maxHeartbeats 4000000 in
theorem cuts_in (l pi pn i n : Nat) (hn : n ≤ 1048576) (J Jx : Nat → World → Prop) (W : World) (hJ : OwnFrom W.heap.size J) {P : Nat → Prop} (hPi : W.heap.size ≤ pi ∨ P pi)
    (hY : ∀ k (hk : k < (way i n).length) W1, J k W1 → YieldAt Fence.wide 3 Tryd.prog l #[cv (way i n)[k]] W1 fun e W' =>
      (e = .returned (.bool true) ∧ J (k + 1) W' ∧ Kx W.heap.size P W1 W') ∨ (e = .returned (.bool false) ∧ Jx k W' ∧ Kx W.heap.size P W1 W'))
    (hi : Bx W pi 3 (.int .i64 ((i : Nat) : Int))) (hbn : Bx W pn 3 (.int .i64 ((n : Nat) : Int))) (h0 : J 0 W) :
    CallsIn Fence.wide 4 Tryd.prog 70 #[.func (.yield l) #[] #[], .pointer (some ⟨pn, 0, none⟩), .pointer (some ⟨pi, 0, none⟩)] W fun e W' => (∃ v, e = .returned v) ∧ (J (way i n).length W' ∨ ∃ k, k < (way i n).length ∧ Jx k W') := by
  have hcn := hbn.cell
  have hci := hi.cell
  refine callsIn_of_wp Tryd.func70 rfl trivial ?_ rfl
  simp only [Tryd.ntmps70, List.size_toArray, List.length_cons, List.length_nil, Nat.reduceAdd, Nat.reduceSub, Array.replicate_succ, Array.replicate_zero, List.push_toArray, List.append_toArray, List.nil_append, List.cons_append]
  gi_wp2
  gi_region
  all_goals skip
  gi_wp2
  gi_loopw [4, 5] (fun vf ve wr => ∃ k f e q : Nat, vf = .int .i64 ((f : Nat) : Int) ∧ ve = .int .i64 ((e : Nat) : Int) ∧ f ≤ e ∧ e ≤ n ∧ e - f ≤ q ∧ k ≤ (way i n).length ∧ (way i n).drop k = wayN q i f e ∧ J k wr ∧ Bx wr pi 3 (.int .i64 ((i : Nat) : Int)))
    (fun vf ve _ => (intOf ve).toNat - (intOf vf).toNat)
  case atStart => exact ⟨0, 0, n, n, rfl, rfl, Nat.zero_le _, Nat.le_refl _, Nat.le_refl _, Nat.zero_le _, rfl, hJ 0 W _ none h0 ⟨rfl, rfl, rfl, Nat.le_refl _, fun _ _ _ => rfl⟩ (fun _ e => by cases e), hi⟩
  case round =>
    obtain ⟨k, f, e, q, rfl, rfl, hfe, hen, hq, hk, hd, hJs, hpi⟩ := hrel
    have hci' := hpi.cell
    by_cases hlt : e ≤ f + 1
    · rw [wayN_0 hlt] at hd
      have hke : k = (way i n).length := by have := congrArg List.length hd; simp at this; omega
      have ht : ¬ (1 : Int) < (e : Int) - (f : Int) := by omega
      gi_wp2
      exact bodyPost_end (results_none rfl _ _ _) rfl ⟨⟨_, rfl⟩, .inl (hke ▸ hJs)⟩
    · obtain ⟨q, rfl⟩ : ∃ q', q = q' + 1 := ⟨q - 1, by omega⟩
      rw [wayN_s (by omega)] at hd
      have hkl : k < (way i n).length := by have := congrArg List.length hd; simp at this; omega
      have hx : (way i n)[k] = ⟨f, f + cut (e - f), e, decide (f + cut (e - f) ≤ i)⟩ := by
        have := congrArg (·[0]?) hd
        simpa [hkl] using this
      have hd2 : (way i n).drop (k + 1) = if f + cut (e - f) ≤ i then wayN q i (f + cut (e - f)) e else wayN q i f (f + cut (e - f)) := by
        rw [← List.tail_drop, hd]; rfl
      have hcu := cut_in (n := e - f) (by omega)
      have hcd := cut_d ((e : Int) - (f : Int)) (by omega) wr
      rw [show ((e : Int) - (f : Int)).toNat = e - f by omega] at hcd
      have hy := hY k hkl wr hJs
      rw [hx] at hy
      generalize cut (e - f) = c at hcu hcd hy hd2
      have HD := hide1 hd2
      clear hd2 hd hx hY
      have ht : (1 : Int) < (e : Int) - (f : Int) := by omega
      gi_wp2
      refine ⟨trivial, ?_⟩
      refine (callsIn_wide.2 hcd).mono ?_
      rintro e' W3 ⟨rfl, rfl⟩
      clear hcd
      obtain ⟨fn, tmps, assign, body, hyr, hR⟩ := hy
      by_cases hci2 : f + c ≤ i
      · rw [decide_eq_true hci2] at hyr
        have h2 := HD.out
        rw [if_pos hci2] at h2
        replace HD := hide1 h2
        clear h2
        have hge : (f : Int) + (c : Int) ≤ (i : Int) := by omega
        dsimp only [cv] at hyr
        rw [show (((f + c : Nat) : Int)) = (f : Int) + (c : Int) by omega] at hyr
        gi_wp2
        refine hR.mono ?_
        rintro e' W4 (⟨rfl, hJ4, hk4⟩ | ⟨rfl, hJx4, hk4⟩)
        · gi_wp2
          go_roundw
          case rel => exact ⟨k + 1, f + c, e, q, by congr 1, rfl, by omega, hen, by omega, hkl, HD.out, hJ4, hpi.kx hk4 hPi (by decide)⟩
          case measure => simp [intOf]; omega
        · gi_wp2
          exact bodyPost_ret (results_none rfl _ _ _) rfl ⟨⟨_, rfl⟩, .inr ⟨k, hkl, hJx4⟩⟩
      · rw [decide_eq_false hci2] at hyr
        have h2 := HD.out
        rw [if_neg hci2] at h2
        replace HD := hide1 h2
        clear h2
        have hge : (i : Int) < (f : Int) + (c : Int) := by omega
        have hgd : decide ((f : Int) + (c : Int) ≤ (i : Int)) = false := decide_eq_false (by omega)
        dsimp only [cv] at hyr
        rw [show (((f + c : Nat) : Int)) = (f : Int) + (c : Int) by omega] at hyr
        gi_wp2
        refine hR.mono ?_
        rintro e' W4 (⟨rfl, hJ4, hk4⟩ | ⟨rfl, hJx4, hk4⟩)
        · gi_wp2
          go_roundw
          case rel => exact ⟨k + 1, f, f + c, q, rfl, by congr 1, by omega, by omega, by omega, hkl, HD.out, hJ4, hpi.kx hk4 hPi (by decide)⟩
          case measure => simp [intOf]; omega
        · gi_wp2
          exact bodyPost_ret (results_none rfl _ _ _) rfl ⟨⟨_, rfl⟩, .inr ⟨k, hkl, hJx4⟩⟩
theorem cuts_seq {pi pn i n : Nat} (hn : n ≤ 1048576) {w : World} (hi : Bx w pi 3 (.int .i64 ((i : Nat) : Int))) (hbn : Bx w pn 3 (.int .i64 ((n : Nat) : Int))) :
    SeqX 70 #[.pointer (some ⟨pn, 0, none⟩), .pointer (some ⟨pi, 0, none⟩)] (way i n) (fun j => j = pi ∨ j = pn) w :=
  fun l J Jx W hW hJ _ hY h0 => cuts_in l pi pn i n hn J Jx W hJ (.inr (.inl rfl)) hY (hi.later hW) (hbn.later hW) h0
end Go.Proofs.YtgnmnoadfjdjdaaDoor

namespace Go.Proofs.YtgnmnoadfjdjdaaDoor
open Go.RowKit Go.Shelf Sh
attribute [local go_sem] Oper.semAt_some

theorem Bx.frozen {W : World} {p t : Nat} {v : Value} (h : Bx W p t v) : W.frozen? ⟨p, 0, none⟩ = false := by simp [World.frozen?, show W.heap[p]? = _ from h]
theorem Bx.set {W : World} {p t : Nat} {v : Value} (u : Value) (h : Bx W p t v) : Bx (W.setCell ⟨p, 0, none⟩ u) p t u := Boxed.set u h
theorem Bx.alloc {W : World} {p t : Nat} {v : Value} (h : Bx W p t v) (o : Obj) : Bx (W.alloc o) p t v := Boxed.alloc h o
theorem Bx.other {W : World} {p q t : Nat} {v : Value} (h : Bx W p t v) (hne : p ≠ q) (u : Value) : Bx (W.setCell ⟨q, 0, none⟩ u) p t v := (Below.heap_setCell W ⟨q, 0, none⟩ u p hne).trans h
theorem Kx.setCell {h q : Nat} {P : Nat → Prop} (W : World) (u : Value) (hq : q < h) (hP : ¬ P q) : Kx h P W (W.setCell ⟨q, 0, none⟩ u) :=
  ⟨by simp, fun j o h1 h2 _ => (Below.heap_setCell W ⟨q, 0, none⟩ u j (by rintro rfl; rcases h2 with h2 | h2 <;> first | omega | exact hP h2)).trans h1⟩
/-- What a loop that counts holds: its own box, and that nothing else has turned. -/
def Cb (w : World) (p : Nat) (v : Value) (W : World) : Prop := Bx W p 3 v ∧ Below w.heap.size w W
theorem cb_own {w : World} {p B : Nat} (f : Nat → Value) (hB : w.heap.size ≤ B) : OwnFrom B (fun k W => Cb w p (f k) W) := fun _ A B' row hs hg hr =>
  ⟨hs.1.own hg (fun r e => (hr r e).2), (ownFrom_below (β := Unit) (Nat.le_refl _) hB) () A B' row hs.2 hg hr⟩
theorem below_done {w W : World} {D : Nat} {o o' : Obj} (h : Below w.heap.size w W) (hD : w.heap.size ≤ D) (ho : W.heap[D]? = some o) : Below w.heap.size w (W.putObj D o') :=
  h.trans ((Below.refl _ W).grown (grownBy_putObj' W D o') (by have := (Array.getElem?_eq_some_iff.1 ho).1; omega) (fun k e => by cases e; exact hD))

theorem wayN_le : ∀ q i f e, (wayN q i f e).length ≤ q
  | 0, _, _, _ => Nat.le_refl _
  | q + 1, i, f, e => by
    unfold wayN
    split
    · simp
    · have h1 := wayN_le q i (f + cut (e - f)) e
      have h2 := wayN_le q i f (f + cut (e - f))
      split <;> simp <;> omega
theorem way_le (i n : Nat) : (way i n).length ≤ n := wayN_le _ _ _ _
set_option maxRecDepth 100000 in
set_option maxHeartbeats 4000000 in
theorem length_in (i n : Nat) (h1 : 1 ≤ n) (hn : n ≤ 1048576) (hi : i < n) (w : World) :
    CallsIn Fence.wide 5 Tryd.prog 20 #[.int .i64 ((i : Nat) : Int), .int .i64 ((n : Nat) : Int)] w fun e W' => e = .returned (.int .i64 (((way i n).length : Nat) : Int)) ∧ Below w.heap.size w W' := by
  refine callsIn_of_wp_marks Tryd.func20 rfl trivial ?_ rfl
  simp only [Tryd.ntmps20, List.size_toArray, List.length_cons, List.length_nil, Nat.reduceAdd, Nat.reduceSub, Array.replicate_succ, Array.replicate_zero, List.push_toArray, List.append_toArray, List.nil_append, List.cons_append]
  have t1 : ¬ (n : Int) < 1 := by omega
  have t2 : ¬ (1048576 : Int) < (n : Int) := by omega
  have t3 : ¬ (i : Int) < 0 := by omega
  have t4 : ¬ (n : Int) ≤ (i : Int) := by omega
  gi_wp2_with (refine ⟨trivial, ?_⟩; gi_at_call 49; refine (callsIn_wide.2 (cuts_d _ _ _)).mono ?_; rintro e w' ⟨rfl, rfl⟩)
  obtain ⟨W0, hW0⟩ : ∃ W0, Hid (W0 = ((w.alloc (.cells #[.int .i64 0] 3)).alloc (.cells #[.int .i64 ((i : Nat) : Int)] 3)).alloc (.cells #[.int .i64 ((n : Nat) : Int)] 3)) := ⟨_, hide1 rfl⟩
  rw [← hW0.out]
  have hb0 : Below w.heap.size w W0 := by rw [hW0.out]; exact (((Below.refl _ _).alloc (Nat.le_refl _) _).alloc (by simp) _).alloc (by simp; omega) _
  have hsz : W0.heap.size = w.heap.size + 3 := by rw [hW0.out]; simp
  have hx0 : Bx W0 w.heap.size 3 (.int .i64 0) := by rw [hW0.out]; exact ((Bx.new _ _ _).alloc _).alloc _
  have hx1 : Bx W0 (w.heap.size + 1) 3 (.int .i64 ((i : Nat) : Int)) := by
    rw [hW0.out]; have := (Bx.new (w.alloc (.cells #[.int .i64 0] 3)) 3 (.int .i64 ((i : Nat) : Int))).alloc (.cells #[.int .i64 ((n : Nat) : Int)] 3); rwa [World.size_alloc] at this
  have hx2 : Bx W0 (w.heap.size + 1 + 1) 3 (.int .i64 ((n : Nat) : Int)) := by
    rw [hW0.out]; have := Bx.new ((w.alloc (.cells #[.int .i64 0] 3)).alloc (.cells #[.int .i64 ((i : Nat) : Int)] 3)) 3 (.int .i64 ((n : Nat) : Int)); rwa [World.size_alloc, World.size_alloc] at this
  have HS := hide1 hsz
  clear hsz
  refine range_x (w := W0) (gf := 70) (lb := #[.pointer (some ⟨w.heap.size + 1 + 1, 0, none⟩), .pointer (some ⟨w.heap.size + 1, 0, none⟩)]) rfl (enters_of Tryd.func70 (by kernel_rfl) rfl) (cuts_seq hn hx1 hx2) ?hP
    (fun k W => Cb w w.heap.size (.int .i64 ((k : Nat) : Int)) W) (fun _ _ _ => False) (cb_own (fun k => .int .i64 ((k : Nat) : Int)) (by have := HS.out; omega)) (fun _ _ _ _ _ h _ _ => h) ⟨hx0, hb0⟩ ?round ?done ?stop
  case hP =>
    have := HS.out
    rintro j (rfl | rfl) <;> omega
  case round =>
    intro l k hk W Kq _ hi' hK
    gi_wp2
    refine hK _ W (Below.refl _ _) ?_
    intro W2 _ _ hC
    have hcl := hC.1.cell
    have hfr := hC.1.frozen
    have hkl : k < 1048576 := by have := way_le i n; omega
    gi_wp2
    exact ⟨Kx.setCell _ _ (by have := HS.out; omega) (by rintro (h | h) <;> omega), hC.1.set _, hC.2.setCell (p := ⟨_, 0, none⟩) (Nat.le_refl _) _⟩
  case done =>
    intro D W hD hC hK
    have hcl := hC.1.cell
    gi_wp2
    refine ⟨by simp, .inl ⟨_, _, rfl, run_takeDeferred hK, ?_⟩⟩
    exact ⟨_, results_tmp rfl _ _ _, rfl, below_done hC.2 (by have := HS.out; omega) hK⟩
  case stop =>
    intro D c k W _ _ h _
    exact h.elim
/-- Where Length has no answer. -/
def badR (i n : Int) : Prop := n < 1 ∨ 1048576 < n ∨ i < 0 ∨ n ≤ i
set_option maxHeartbeats 4000000 in
theorem length_bad (i n : Int) (h : badR i n) (w : World) : Calls Tryd.prog 20 #[.int .i64 i, .int .i64 n] w fun e w' => e = .returned (.int .i64 (-1)) ∧ w' = w := by
  by_cases t1 : n < 1
  · go_enter Tryd.func20, Tryd.ntmps20
    go_wp2
    go_ret
    exact ⟨rfl, rfl⟩
  · by_cases t2 : 1048576 < n
    · go_enter Tryd.func20, Tryd.ntmps20
      go_wp2
      go_ret
      exact ⟨rfl, rfl⟩
    · by_cases t3 : i < 0
      · go_enter Tryd.func20, Tryd.ntmps20
        go_wp2
        go_ret
        exact ⟨rfl, rfl⟩
      · have t4 : n ≤ i := by unfold badR at h; omega
        go_enter Tryd.func20, Tryd.ntmps20
        go_wp2
        go_ret
        exact ⟨rfl, rfl⟩
theorem length_d {i n : Nat} (hn : n ≤ 1048576) (hi : i < n) (w : World) : Calls Tryd.prog 20 #[.int .i64 ((i : Nat) : Int), .int .i64 ((n : Nat) : Int)] w fun e W' => e = .returned (.int .i64 (((way i n).length : Nat) : Int)) ∧ Below w.heap.size w W' :=
  callsIn_wide.1 (length_in i n (by omega) hn hi w)
theorem SeqX.later {gf : Nat} {lb : Array Value} {xs : List Cu} {P : Nat → Prop} {w w' : World} (h : SeqX gf lb xs P w) (hb : Below w.heap.size w w') : SeqX gf lb xs P w' :=
  fun l J Jx W hW => h l J Jx W (hb.trans (hW.mono hb.size))
/-- Where the part begins to which a way leads. -/
def stF (xs : List Cu) : Nat := xs.foldl (fun s c => if c.r then c.a else s) 0
set_option maxRecDepth 100000 in
set_option maxHeartbeats 4000000 in
theorem start_in {gf : Nat} {lb : Array Value} {xs : List Cu} {P : Nat → Prop} {w : World} (eg : ∀ args w, (callFunc gf args).run Tryd.prog w = .ok (.enter gf args) w) (hs : SeqX gf lb xs P w) (hP : ∀ j, P j → j < w.heap.size) :
    CallsIn Fence.wide 5 Tryd.prog 35 #[.func (.func gf) #[] lb] w fun e W' => e = .returned (.int .i64 ((stF xs : Nat) : Int)) ∧ Below w.heap.size w W' := by
  refine callsIn_of_wp_marks Tryd.func35 rfl trivial ?_ rfl
  simp only [Tryd.ntmps35, List.size_toArray, List.length_cons, List.length_nil, Nat.reduceAdd, Nat.reduceSub, Array.replicate_succ, Array.replicate_zero, List.push_toArray, List.append_toArray, List.nil_append, List.cons_append]
  gi_wp2
  have hb0 : Below w.heap.size w (w.alloc (.cells #[.int .i64 0] 3)) := (Below.refl _ _).alloc (Nat.le_refl _) _
  have hx0 := Bx.new w 3 (.int .i64 0)
  have HS : Hid ((w.alloc (.cells #[.int .i64 0] 3)).heap.size = w.heap.size + 1) := hide1 (by simp)
  generalize w.alloc (.cells #[.int .i64 0] 3) = W0 at hb0 hx0 HS ⊢
  refine range_x (w := W0) (gf := gf) (lb := lb) rfl eg (hs.later hb0) (fun j hj => by have := hP j hj; have := HS.out; omega)
    (fun k W => Cb w w.heap.size (.int .i64 ((stF (xs.take k) : Nat) : Int)) W) (fun _ _ _ => False) (cb_own (fun k => .int .i64 ((stF (xs.take k) : Nat) : Int)) (by have := HS.out; omega)) (fun _ _ _ _ _ h _ _ => h) ⟨hx0, hb0⟩ ?round ?done ?stop
  case round =>
    intro l k hk W Kq hz hi' hK
    obtain ⟨⟨cf, ca, ce, cr⟩, hc⟩ : ∃ c, Hid (xs[k] = c) := ⟨_, hide1 rfl⟩
    have hst : Hid (stF (xs.take (k + 1)) = if cr then ca else stF (xs.take k)) := hide1 (by
      rw [List.take_succ_eq_append_getElem hk, hc.out]; unfold stF; rw [List.foldl_append]; rfl)
    rw [hc.out]
    dsimp only [cv]
    gi_wp2
    refine hK _ _ ((Below.refl _ _).alloc (Nat.le_refl _) _) ?_
    intro W2 hsame hs2 hC
    have hr2 := (hsame W.heap.size (by omega)).trans (World.alloc_heap_new W _)
    have hcl := hC.1.cell
    have hfr := hC.1.frozen
    have k1 : W2.cell? ⟨W.heap.size, 1, none⟩ = some (.int .i64 ((ca : Nat) : Int)) := by simp [World.cell?, hr2]
    have k3 : W2.cell? ⟨W.heap.size, 3, none⟩ = some (.bool cr) := by simp [World.cell?, hr2]
    clear hK hsame hs2 hr2
    cases cr with
    | true =>
      gi_wp2
      refine ⟨Kx.setCell _ _ (by have := HS.out; omega) (fun h => by have := hP _ h; omega), ?_⟩
      dsimp only
      rw [hst.out]
      exact ⟨hC.1.set _, hC.2.setCell (p := ⟨_, 0, none⟩) (Nat.le_refl _) _⟩
    | false =>
      gi_wp2
      refine ⟨Kx.refl _ _ _, ?_⟩
      dsimp only
      rw [hst.out]
      exact hC
  case done =>
    intro D W hD hC hK
    rw [List.take_length] at hC
    have hcl := hC.1.cell
    gi_wp2
    refine ⟨by simp, .inl ⟨_, _, rfl, run_takeDeferred hK, ?_⟩⟩
    exact ⟨_, results_tmp rfl _ _ _, rfl, below_done hC.2 (by have := HS.out; omega) hK⟩
  case stop =>
    intro D c k W _ _ h _
    exact h.elim
theorem start_d {gf : Nat} {lb : Array Value} {xs : List Cu} {P : Nat → Prop} {w : World} (eg : ∀ args w, (callFunc gf args).run Tryd.prog w = .ok (.enter gf args) w) (hs : SeqX gf lb xs P w) (hP : ∀ j, P j → j < w.heap.size) :
    Calls Tryd.prog 35 #[.func (.func gf) #[] lb] w fun e W' => e = .returned (.int .i64 ((stF xs : Nat) : Int)) ∧ Below w.heap.size w W' := callsIn_wide.1 (start_in eg hs hP)
end Go.Proofs.YtgnmnoadfjdjdaaDoor

namespace Go.Proofs.YtgnmnoadfjdjdaaDoor
open Go.RowKit Go.Shelf Sh
attribute [local go_sem] Oper.semAt_some

theorem tw_end {α : Type} {p : α → Bool} : ∀ {xs : List α} {k : Nat} (hk : k < xs.length), k ≤ (xs.takeWhile p).length → p xs[k] = false → k = (xs.takeWhile p).length
  | [], _, hk, _, _ => by simp at hk
  | x :: xs, 0, _, _, h => by
    have h : p x = false := h
    rw [List.takeWhile_cons, h]; rfl
  | x :: xs, k + 1, hk, hl, h => by
    rw [List.takeWhile_cons] at hl ⊢
    cases hp : p x with
    | false => rw [hp] at hl; simp at hl
    | true =>
      rw [hp] at hl
      simp only [if_true, List.length_cons] at hl ⊢
      have := tw_end (p := p) (xs := xs) (k := k) (by simpa using hk) (by omega) (by simpa using h)
      omega
theorem tw_on {α : Type} {p : α → Bool} : ∀ {xs : List α} {k : Nat} (hk : k < xs.length), k ≤ (xs.takeWhile p).length → p xs[k] = true → ∃ h : k < (xs.takeWhile p).length, (xs.takeWhile p)[k] = xs[k]
  | [], _, hk, _, _ => by simp at hk
  | x :: xs, 0, _, _, h => by
    have h : p x = true := h
    have e : (x :: xs).takeWhile p = x :: xs.takeWhile p := by rw [List.takeWhile_cons, h]; rfl
    exact ⟨by rw [e]; simp, by simp only [e]; rfl⟩
  | x :: xs, k + 1, hk, hl, h => by
    cases hp : p x with
    | false => rw [List.takeWhile_cons, hp] at hl; simp at hl
    | true =>
      have e : (x :: xs).takeWhile p = x :: xs.takeWhile p := by rw [List.takeWhile_cons, hp]; rfl
      rw [e] at hl
      obtain ⟨h1, h2⟩ := tw_on (p := p) (xs := xs) (k := k) (by simpa using hk) (by simpa using hl) (by simpa using h)
      exact ⟨by rw [e]; simpa using h1, by simp only [e, List.getElem_cons_succ]; exact h2⟩
/-- The cuts on the way to the greatest part that ends with the first m. -/
def aheadL (m n : Nat) : List Cu := (way (m - 1) n).takeWhile fun c => !(c.e == m)
theorem roundIn_any {m n l l2 : Nat} {f : FuncId} {tmps : Array Value} {assign body : Code} {w : World} {R : Ending → World → Prop} (h : RoundIn Fence.wide m Tryd.prog l f tmps assign body w R) : RoundIn (Fence.wide.inRound l2) n Tryd.prog l f tmps assign body w R :=
  ⟨h.1, fun c cs _ => h.2 c cs (fun d hd => by cases hd)⟩

set_option maxHeartbeats 400000 in
theorem ahead_d (m n : Int) (w : World) :
    Calls Tryd.prog 33 #[.int .i64 m, .int .i64 n] w fun e w' => e = .returned (.func (.func 57) #[] #[.pointer (some ⟨w.heap.size, 0, none⟩), .pointer (some ⟨w.heap.size + 1, 0, none⟩)]) ∧ w' = (w.alloc (.cells #[.int .i64 m] 3)).alloc (.cells #[.int .i64 n] 3) := by
  go_enter Tryd.func33, Tryd.ntmps33
  go_wp2
  go_ret
  exact ⟨rfl, rfl⟩
set_option maxRecDepth 100000 in
set_option maxHeartbeats 4000000 in
theorem ahead_seq {pm pn m n : Nat} (hm1 : 1 ≤ m) (hmn : m ≤ n) (hn : n ≤ 1048576) {w : World} (hm : Bx w pm 3 (.int .i64 ((m : Nat) : Int))) (hbn : Bx w pn 3 (.int .i64 ((n : Nat) : Int))) :
    SeqX 57 #[.pointer (some ⟨pm, 0, none⟩), .pointer (some ⟨pn, 0, none⟩)] (aheadL m n) (fun j => j = pm ∨ j = pn) w := by
  obtain ⟨A, HA⟩ : ∃ A, Hid (A = aheadL m n) := ⟨_, hide1 rfl⟩
  rw [← HA.out]
  intro l J Jx W hW hJ hJx hY h0
  refine callsIn_wide.2 ((callsIn_wide (n := 5)).1 ?_)
  replace hm := hm.later hW
  replace hbn := hbn.later hW
  have hlm := hm.lt
  have hcm := (hm.alloc (.cells #[.func (.yield l) #[] #[]] 92)).cell
  have hcn := (hbn.alloc (.cells #[.func (.yield l) #[] #[]] 92)).cell
  refine callsIn_of_wp_marks Tryd.func57 rfl trivial ?_ rfl
  simp only [Tryd.ntmps57, List.size_toArray, List.length_cons, List.length_nil, Nat.reduceAdd, Nat.reduceSub, Array.replicate_succ, Array.replicate_zero, List.push_toArray, List.append_toArray, List.nil_append, List.cons_append]
  gi_wp2_with (refine ⟨trivial, ?_⟩; gi_at_call 49; refine (callsIn_wide.2 (cuts_d _ _ _)).mono ?_; rintro e w' ⟨rfl, rfl⟩)
  rw [show (m : Int) - 1 = ((m - 1 : Nat) : Int) by omega]
  obtain ⟨W0, hW0⟩ : ∃ W0, Hid (W0 = ((W.alloc (.cells #[.func (.yield l) #[] #[]] 92)).alloc (.cells #[.int .i64 ((m - 1 : Nat) : Int)] 3)).alloc (.cells #[.int .i64 ((n : Nat) : Int)] 3)) := ⟨_, hide1 rfl⟩
  rw [← hW0.out]
  have hb0 : Below W.heap.size W W0 := by rw [hW0.out]; exact (((Below.refl _ _).alloc (Nat.le_refl _) _).alloc (by simp) _).alloc (by simp; omega) _
  have hsz : W0.heap.size = W.heap.size + 3 := by rw [hW0.out]; simp
  have hx0 : Bx W0 W.heap.size 92 (.func (.yield l) #[] #[]) := by rw [hW0.out]; exact ((Bx.new _ _ _).alloc _).alloc _
  have hx1 : Bx W0 (W.heap.size + 1) 3 (.int .i64 ((m - 1 : Nat) : Int)) := by
    rw [hW0.out]; have := (Bx.new (W.alloc (.cells #[.func (.yield l) #[] #[]] 92)) 3 (.int .i64 ((m - 1 : Nat) : Int))).alloc (.cells #[.int .i64 ((n : Nat) : Int)] 3); rwa [World.size_alloc] at this
  have hx2 : Bx W0 (W.heap.size + 1 + 1) 3 (.int .i64 ((n : Nat) : Int)) := by
    rw [hW0.out]; have := Bx.new ((W.alloc (.cells #[.func (.yield l) #[] #[]] 92)).alloc (.cells #[.int .i64 ((m - 1 : Nat) : Int)] 3)) 3 (.int .i64 ((n : Nat) : Int)); rwa [World.size_alloc, World.size_alloc] at this
  have hm0 := hm.later hb0
  have hj0 : J 0 W0 := hJ 0 W W0 none h0 ⟨hb0.os, hb0.tape, hb0.output, hb0.size, fun j hj _ => hb0.block j hj⟩ (fun _ e => by cases e)
  have HS := hide1 hsz
  clear hsz hcm hcn hm hbn hb0
  generalize hm' : m - 1 = m' at *
  replace HA : Hid (A = (way m' n).takeWhile fun c => !(c.e == m)) := hide1 (by rw [HA.out, ← hm']; rfl)
  have HM := hide1 hm'
  clear hm'
  refine range_x (w := W0) (gf := 70) (lb := #[.pointer (some ⟨W.heap.size + 1 + 1, 0, none⟩), .pointer (some ⟨W.heap.size + 1, 0, none⟩)]) rfl (enters_of Tryd.func70 (by kernel_rfl) rfl) (cuts_seq hn hx1 hx2) ?hP
    (fun k W1 => k ≤ A.length ∧ J k W1 ∧ Bx W1 W.heap.size 92 (.func (.yield l) #[] #[]) ∧ Bx W1 pm 3 (.int .i64 ((m : Nat) : Int)))
    (fun c k W1 => c = .ret ∧ ((k = A.length ∧ J k W1) ∨ (k < A.length ∧ Jx k W1))) ?hI ?hIx ⟨Nat.zero_le _, hj0, hx0, hm0⟩ ?round ?done ?stop
  case hP =>
    have := HS.out
    rintro j (rfl | rfl) <;> omega
  case hI =>
    intro s A' B row hs hg hrow
    exact ⟨hs.1, hJ s A' B row hs.2.1 hg (fun r e => ⟨by have := (hrow r e).1; have := HS.out; omega, (hrow r e).2⟩), hs.2.2.1.own hg (fun r e => (hrow r e).2), hs.2.2.2.own hg (fun r e => (hrow r e).2)⟩
  case hIx =>
    rintro c s A' B row ⟨rfl, hs⟩ hg hrow
    refine ⟨rfl, hs.imp (fun h => ⟨h.1, hJ s A' B row h.2 hg (fun r e => ⟨by have := (hrow r e).1; have := HS.out; omega, (hrow r e).2⟩)⟩) (fun h => ⟨h.1, hJx s A' B row h.2 hg (fun r e => ⟨by have := (hrow r e).1; have := HS.out; omega, (hrow r e).2⟩)⟩)⟩
  case round =>
    intro l2 k hk W1 Kq hz hi' hK
    obtain ⟨⟨cf, ca, ce, cr⟩, hc⟩ : ∃ c, Hid ((way m' n)[k] = c) := ⟨_, hide1 rfl⟩
    rw [hc.out]
    dsimp only [cv]
    gi_wp2
    refine hK _ _ ((Below.refl _ _).alloc (Nat.le_refl _) _) ?_
    rintro W2 hsame hs2 ⟨hkA, hj, hyb, hmb⟩
    have hr2 := (hsame W1.heap.size (by omega)).trans (World.alloc_heap_new W1 _)
    have c1 := hyb.cell
    have c2 := hmb.cell
    have k0 : W2.cell? ⟨W1.heap.size, 0, none⟩ = some (.int .i64 ((cf : Nat) : Int)) := by simp [World.cell?, hr2]
    have k1 : W2.cell? ⟨W1.heap.size, 1, none⟩ = some (.int .i64 ((ca : Nat) : Int)) := by simp [World.cell?, hr2]
    have k2 : W2.cell? ⟨W1.heap.size, 2, none⟩ = some (.int .i64 ((ce : Nat) : Int)) := by simp [World.cell?, hr2]
    have k3 : W2.cell? ⟨W1.heap.size, 3, none⟩ = some (.bool cr) := by simp [World.cell?, hr2]
    clear hK hsame hs2 hr2
    by_cases hce : ce = m
    · have hkE : k = A.length := by
        have := tw_end (p := fun c => !(c.e == m)) hk (by rw [← HA.out]; exact hkA) (by rw [hc.out]; simp [hce])
        rw [this, ← HA.out]
      have hcb : ((ce : Int) == (m : Int)) = true := by rw [beq_iff_eq]; omega
      gi_wp2
      refine ⟨fun _ h => (by cases h), ?_⟩
      gi_wp2
      exact ⟨Kx.refl _ _ _, rfl, .inl ⟨hkE, hj⟩⟩
    · obtain ⟨hlt, hAk⟩ := tw_on (p := fun c => !(c.e == m)) hk (by rw [← HA.out]; exact hkA) (by rw [hc.out]; simp [hce])
      have hlt' : k < A.length := by rw [HA.out]; exact hlt
      have hAk' : A[k] = ⟨cf, ca, ce, cr⟩ := by rw [← hc.out, ← hAk]; congr 1
      have hcb : ((ce : Int) == (m : Int)) = false := by rw [beq_eq_false_iff_ne]; omega
      have hy := hY k hlt' W2 hj
      rw [hAk'] at hy
      obtain ⟨fn, tmps, assign, body, hyr, hR⟩ := hy
      dsimp only [cv] at hyr
      clear hAk hAk' hlt
      gi_wp2
      refine (roundIn_any hR).mono ?_
      have hPw : ∀ j, W0.heap.size ≤ j ∨ (j = W.heap.size + 1 ∨ j = W.heap.size + 1 + 1) → W.heap.size ≤ j ∨ (j = pm ∨ j = pn) := fun j h => .inl (by have := HS.out; omega)
      rintro e' W4 (⟨rfl, hJ4, hk4⟩ | ⟨rfl, hJx4, hk4⟩)
      · gi_wp2
        exact ⟨hk4.weak hPw, hlt', hJ4, hyb.kx hk4 (.inl (Nat.le_refl _)) (by decide), hmb.kx hk4 (.inr (.inl rfl)) (by decide)⟩
      · gi_wp2
        exact ⟨hk4.weak hPw, rfl, .inr ⟨hlt', hJx4⟩⟩
  case done =>
    rintro D W1 hD ⟨hkA, hj, _⟩ hK
    have hkE : (way m' n).length = A.length := by have := (List.takeWhile_prefix (fun c : Cu => !(c.e == m)) (l := way m' n)).length_le; rw [HA.out] at hkA ⊢; omega
    rw [hkE] at hj
    gi_wp2
    refine ⟨by simp, .inl ⟨_, _, rfl, run_takeDeferred hK, ?_⟩⟩
    exact ⟨_, results_none rfl _ _ _, ⟨_, rfl⟩, .inl (hJ.putObj _ hj (by have := HS.out; omega) hK rfl)⟩
  case stop =>
    rintro D c k W1 hD hk ⟨rfl, hj⟩ hK
    gi_wp2
    refine ⟨by simp, .inl ⟨_, _, rfl, run_takeDeferred hK, ?_⟩⟩
    refine ⟨_, results_none rfl _ _ _, ⟨_, rfl⟩, ?_⟩
    rcases hj with ⟨hkE, hj⟩ | ⟨hlt, hj⟩
    · exact .inl (hkE ▸ hJ.putObj _ hj (by have := HS.out; omega) hK rfl)
    · exact .inr ⟨k, hlt, hJx.putObj _ hj (by have := HS.out; omega) hK rfl⟩
end Go.Proofs.YtgnmnoadfjdjdaaDoor

namespace Go.Proofs.YtgnmnoadfjdjdaaDoor
open Go.RowKit Go.Shelf Sh
attribute [local go_sem] Oper.semAt_some

/-- The cells of a row of cuts. -/
def cc (c : Cu) : List Value := [.int .i64 ((c.f : Nat) : Int), .int .i64 ((c.a : Nat) : Int), .int .i64 ((c.e : Nat) : Int), .bool c.r]
def ccv (L : List Cu) : List Value := L.flatMap cc
theorem ccv_len : ∀ L : List Cu, (ccv L).length = L.length * 4
  | [] => rfl
  | c :: r => by show (cc c ++ ccv r).length = _; rw [List.length_append, ccv_len r, List.length_cons]; show 4 + _ = _; omega
theorem ccv_get : ∀ (L : List Cu) (i j : Nat) (h : i < L.length), j < 4 → (ccv L)[4 * i + j]? = (cc L[i])[j]?
  | c :: r, 0, j, h, hj => by
    show (cc c ++ ccv r)[4 * 0 + j]? = _
    rw [List.getElem?_append_left (by show _ < 4; omega), show 4 * 0 + j = j by omega]; rfl
  | c :: r, i + 1, j, h, hj => by
    show (cc c ++ ccv r)[4 * (i + 1) + j]? = _
    rw [List.getElem?_append_right (by show 4 ≤ _; omega)]
    show (ccv r)[4 * (i + 1) + j - 4]? = _
    rw [show 4 * (i + 1) + j - 4 = 4 * i + j by omega, ccv_get r i j (by simpa using h) hj]; rfl
theorem ccv_snoc (L : List Cu) (c : Cu) : ccv (L ++ [c]) = ccv L ++ cc c := by simp [ccv]
theorem cc_one (c : Cu) : ∀ v ∈ cc c, v.oneCell' = true := by
  intro v hv
  simp only [cc, List.mem_cons, List.not_mem_nil, or_false] at hv
  rcases hv with rfl | rfl | rfl | rfl <;> rfl
theorem info_cut : (Tryd.prog.info? 73).map (fun i => (i.zero, i.size, i.bytes)) = some (some (.agg #[.int .i64 0, .int .i64 0, .int .i64 0, .bool false]), 4, 32) := by kernel_rfl
theorem Kx.row {W w1 : World} {h base n : Nat} {P : Nat → Prop} {v : Value} {xs : List Value} (ho : W.ownsRow base 73 4 v n xs) (hg : W.grownBy w1 v.ownBlock) : Kx h P W w1 :=
  ⟨hg.size, fun j o h1 _ h3 => (hg.block j (Array.getElem?_eq_some_iff.1 h1).1 (fun e => by
    rcases ho.2 with ⟨rfl, _⟩ | ⟨g, cap, cur, rfl, _, hgb, _⟩
    · simp [Value.ownBlock] at e
    · obtain rfl : j = g := by simpa [Value.ownBlock] using e
      rw [h1] at hgb; cases hgb; exact h3 _ _ rfl)).trans h1⟩
/-- What the collecting loop holds. -/
def Co (w : World) (xs : List Cu) (k : Nat) (W : World) : Prop := ∃ v, Bx W w.heap.size 70 v ∧ W.ownsRow w.heap.size 73 4 v k (ccv (xs.take k)) ∧ Below w.heap.size w W
theorem co_own {w : World} {xs : List Cu} {B : Nat} (hB : w.heap.size ≤ B) : OwnFrom B (fun k W => Co w xs k W) := by
  rintro k A B' row ⟨v, h1, h2, h3⟩ hg hr
  refine ⟨v, h1.own hg (fun r e => (hr r e).2), h2.kept hg ?_, (ownFrom_below (β := Unit) (Nat.le_refl _) hB) () A B' row h3 hg hr⟩
  rcases h2.2 with ⟨rfl, _⟩ | ⟨g, cap, cur, rfl, _, hgb, _⟩
  · exact .inl rfl
  · refine .inr fun e => ?_
    obtain ⟨_, o, ho, hc⟩ := hr g (e ▸ rfl)
    rw [hgb] at ho; cases ho; cases hc
theorem bl3 {n : Nat} {w w1 w2 : World} (h : Below n w w1) (k : Below n w1 w2) : Below n w w2 := h.trans k
set_option maxRecDepth 100000 in
set_option maxHeartbeats 4000000 in
theorem appSeq_in {gf : Nat} {lb : Array Value} {xs : List Cu} {P : Nat → Prop} {w : World} (eg : ∀ args w, (callFunc gf args).run Tryd.prog w = .ok (.enter gf args) w) (hs : SeqX gf lb xs P w) (hP : ∀ j, P j → j < w.heap.size) (hx : xs.length ≤ 1048576) :
    CallsIn Fence.wide 5 Tryd.prog 75 #[.slice none 0 0, .func (.func gf) #[] lb] w fun e W' => ∃ v, e = .returned v ∧ W'.ownsRow w.heap.size 73 4 v xs.length (ccv xs) ∧ Below w.heap.size w W' := by
  refine callsIn_of_wp_marks Tryd.func75 rfl trivial ?_ rfl
  simp only [Tryd.ntmps75, List.size_toArray, List.length_cons, List.length_nil, Nat.reduceAdd, Nat.reduceSub, Array.replicate_succ, Array.replicate_zero, List.push_toArray, List.append_toArray, List.nil_append, List.cons_append]
  gi_wp2
  have hb0 : Below w.heap.size w (w.alloc (.cells #[.slice none 0 0] 70)) := (Below.refl _ _).alloc (Nat.le_refl _) _
  have hx0 := Bx.new w 70 (.slice none 0 0)
  have HS : Hid ((w.alloc (.cells #[.slice none 0 0] 70)).heap.size = w.heap.size + 1) := hide1 (by simp)
  generalize w.alloc (.cells #[.slice none 0 0] 70) = W0 at hb0 hx0 HS ⊢
  refine range_x (w := W0) (gf := gf) (lb := lb) rfl eg (hs.later hb0) (fun j hj => by have := hP j hj; have := HS.out; omega)
    (fun k W => Co w xs k W) (fun _ _ _ => False) (co_own (by have := HS.out; omega)) (fun _ _ _ _ _ h _ _ => h) ⟨_, hx0, World.ownsRow_nil _ _ _ _, hb0⟩ ?round ?done ?stop
  case round =>
    intro l k hk W Kq hz hi' hK
    obtain ⟨⟨cf, ca, ce, cr⟩, hc⟩ : ∃ c, Hid (xs[k] = c) := ⟨_, hide1 rfl⟩
    have hst : Hid (ccv (xs.take (k + 1)) = ccv (xs.take k) ++ cc ⟨cf, ca, ce, cr⟩) := hide1 (by
      rw [List.take_succ_eq_append_getElem hk, hc.out, ccv_snoc])
    rw [hc.out]
    dsimp only [cv]
    gi_wp2
    refine hK _ _ ((Below.refl _ _).alloc (Nat.le_refl _) _) ?_
    rintro W2 hsame hs2 ⟨v, hv, hrow, hbw⟩
    have hr2 := (hsame W.heap.size (by omega)).trans (World.alloc_heap_new W _)
    have hcl := hv.cell
    have k0 : W2.cell? ⟨W.heap.size, 0, none⟩ = some (.int .i64 ((cf : Nat) : Int)) := by simp [World.cell?, hr2]
    have k1 : W2.cell? ⟨W.heap.size, 1, none⟩ = some (.int .i64 ((ca : Nat) : Int)) := by simp [World.cell?, hr2]
    have k2 : W2.cell? ⟨W.heap.size, 2, none⟩ = some (.int .i64 ((ce : Nat) : Int)) := by simp [World.cell?, hr2]
    have k3 : W2.cell? ⟨W.heap.size, 3, none⟩ = some (.bool cr) := by simp [World.cell?, hr2]
    clear hK hsame hs2 hr2
    obtain ⟨i0, hi, hz0, hz1, hz2⟩ := info_parts info_cut
    have hbs := hbw.size
    have hks : k + 1 ≤ 1048576 := by omega
    have hnew : ∀ j u, (cc ⟨cf, ca, ce, cr⟩)[j]? = some u → (W2.alloc (.cells #[.int .i64 ((cf : Nat) : Int), .int .i64 ((ca : Nat) : Int), .int .i64 ((ce : Nat) : Int), .bool cr] 73)).cell? ((⟨W2.heap.size, 0, none⟩ : Addr).add j) = some u := by
      intro j u hj
      rw [Addr.add_lit, cell_of_row _ _ _ _ _ _ (World.alloc_heap_new W2 _), Nat.zero_add, ← hj, ← Array.getElem?_toList]
      rfl
    gi_wp2_with (gi_at_builtin; refine wpListIn_append_own _ rfl (.tmp 8) (.tmp 10) 70 rfl w.heap.size 73 i0 _ 4 32 Tryd.underlying70 hi hz0 hz1 hz2 rfl (by decide) v k (ccv (xs.take k)) rfl (hrow.alloc _) ⟨W2.heap.size, 0, none⟩ 1 1 (cc ⟨cf, ca, ce, cr⟩) rfl rfl hnew (cc_one _) (by unfold maxLen; omega) (by omega) (by simp; omega) ?_
                 intro v' w1 hown' hgrow _
                 obtain ⟨g', cap', rfl⟩ := ownsRow_succ hown'
                 obtain ⟨q1, q2, q3, q4, q5⟩ := Boxed.appended hv (by decide) hrow hbs (Nat.le_refl _) hown' hgrow
                 have hk1 : Kx W0.heap.size P W2 w1 := (Kx.below ((Below.refl _ _).alloc (Nat.le_refl _) _)).trans (Kx.row (hrow.alloc _) hgrow)
                 have q1c := Bx.cell q1
                 have q1f := Bx.frozen q1
                 clear hgrow hown' hnew)
    refine ⟨hk1.trans (Kx.setCell _ _ (by have := HS.out; omega) (fun h => by have := hP _ h; omega)), _, q2, ?_, bl3 hbw q5⟩
    rw [hst.out]
    exact q3
  case done =>
    rintro D W hD ⟨v, hv, hrow, hbw⟩ hK
    rw [List.take_length] at hrow
    have hcl := hv.cell
    gi_wp2
    refine ⟨by simp, .inl ⟨_, _, rfl, run_takeDeferred hK, ?_⟩⟩
    exact ⟨_, results_tmp rfl _ _ _, v, rfl, ownsRow_putObj hrow _ hK rfl, below_done hbw (by have := HS.out; omega) hK⟩
  case stop =>
    intro D c k W _ _ h _
    exact h.elim
set_option maxHeartbeats 400000 in
theorem collect_d {gf : Nat} {lb : Array Value} {xs : List Cu} {P : Nat → Prop} {w : World} (eg : ∀ args w, (callFunc gf args).run Tryd.prog w = .ok (.enter gf args) w) (hs : SeqX gf lb xs P w) (hP : ∀ j, P j → j < w.heap.size) (hx : xs.length ≤ 1048576) :
    Calls Tryd.prog 63 #[.func (.func gf) #[] lb] w fun e W' => ∃ v, e = .returned v ∧ W'.ownsRow w.heap.size 73 4 v xs.length (ccv xs) ∧ Below w.heap.size w W' := by
  have hc := callsIn_wide.1 (appSeq_in eg hs hP hx)
  go_enter Tryd.func63, Tryd.ntmps63
  go_wp2_with fail
  refine hc.mono ?_
  rintro e w1 ⟨v, rfl, h1, h2⟩
  go_wp2
  go_ret
  exact ⟨v, rfl, h1, h2⟩
end Go.Proofs.YtgnmnoadfjdjdaaDoor

namespace Go.Proofs.YtgnmnoadfjdjdaaDoor
open Go.RowKit Go.Maps Go.Sort Go.Shelf Go.Lib

def revL_ren : Go.Shelf.Ren := ⟨fun | 35 => 64 | n => n, fun | 22 => 70 | 23 => 73 | 3 => 3 | 4 => 4 | 0 => 0 | n => n, fun | n => n⟩
theorem revL : Go.Proofs.SlLaysE0.n35 Tryd.prog revL_ren := {
  mixed := by kernel_rfl
  f35 := ⟨Tryd.f64.name, by decide, Tryd.func64.trans (congrArg some (by kernel_rfl))⟩
  t0 := Tryd.underlying0
  a0 := Tryd.isAgg0
  z0 := Tryd.sizeOf0
  v0 := Tryd.zeroValue0
  t3 := Tryd.underlying3
  a3 := Tryd.isAgg3
  z3 := Tryd.sizeOf3
  v3 := Tryd.zeroValue3
  t4 := Tryd.underlying4
  a4 := Tryd.isAgg4
  z4 := Tryd.sizeOf4
  v4 := Tryd.zeroValue4
  t22 := Tryd.underlying70
  a22 := Tryd.isAgg70
  z22 := Tryd.sizeOf70
  v22 := Tryd.zeroValue70 }

theorem rev_l (blk off cap : Nat) (d : List Cu) (w : World) (hH : HoldsK cc 4 w blk off d.toArray) (hsz : d.length ≤ 9223372036854775807) :
    Calls Tryd.prog 64 #[.slice (some ⟨blk, off, none⟩) d.length cap] w fun e w' => e = .returned (.tuple #[]) ∧ ∃ n, w' = putRowK cc 4 (Sort.ahead w n) blk off d.reverse.toArray := by
  have := AnyQ.slices_Reverse revL 4 (fun w => by kernel_rfl) (fun w => by kernel_rfl) cc (fun _ => rfl) cc_one blk off cap d.toArray w hH (by simpa using hsz)
  have h2 : revL_ren.f 35 = 64 := rfl
  rw [h2] at this
  simpa using this
theorem rev_0 (a : Option Addr) (cap : Nat) (w : World) : Calls Tryd.prog 64 #[.slice a 0 cap] w fun e w' => e = .returned (.tuple #[]) ∧ w' = w := AnyQ.slices_Reverse_empty revL a cap w
end Go.Proofs.YtgnmnoadfjdjdaaDoor

namespace Go.Proofs.YtgnmnoadfjdjdaaDoor
open Go.RowKit Go.Shelf Go.Sort Go.Lib Sh

/-- A row of cuts in memory. -/
def CsAt (w : World) (a : Option Addr) (L : List Cu) : Prop := 0 < L.length → ∃ b c, a = some ⟨b, 0, none⟩ ∧ w.heap[b]? = some (.cells c 73 (0, 0)) ∧ ∀ i (h : i < L.length) j, j < 4 → c[4 * i + j]? = (cc L[i])[j]?
theorem CsAt.later {w w' : World} {a : Option Addr} {L : List Cu} (h : CsAt w a L) (hb : Below w.heap.size w w') : CsAt w' a L := fun hl => by
  obtain ⟨b, c, e, h1, hc⟩ := h hl
  exact ⟨b, c, e, (hb.block b (Array.getElem?_eq_some_iff.1 h1).1).trans h1, hc⟩
/-- Cuts stay where a row of another type is turned. -/
theorem CsAt.turned {w w' : World} {a : Option Addr} {L : List Cu} {base t size n : Nat} {v : Value} {xs : List Value} (h : CsAt w a L) (ho : w.ownsRow base t size v n xs) (ht : t ≠ 73) (hg : w.grownBy w' v.ownBlock) : CsAt w' a L := fun hl => by
  obtain ⟨b, c, e, h1, hc⟩ := h hl
  refine ⟨b, c, e, (hg.block b (Array.getElem?_eq_some_iff.1 h1).1 (fun e' => ?_)).trans h1, hc⟩
  rcases ho.2 with ⟨rfl, _⟩ | ⟨g, cap, cur, rfl, _, hgb, _⟩
  · simp [Value.ownBlock] at e'
  · obtain rfl : b = g := by simpa [Value.ownBlock] using e'
    rw [h1] at hgb; cases hgb; exact ht rfl
theorem CsAt.cell {w : World} {b k : Nat} {L : List Cu} (h : CsAt w (some ⟨b, 0, none⟩) L) (hk : k < L.length) : w.cell? ⟨b, k * 4, none⟩ = some (.int .i64 ((L[k].f : Nat) : Int)) ∧ w.cell? ⟨b, k * 4 + 1, none⟩ = some (.int .i64 ((L[k].a : Nat) : Int)) ∧ w.cell? ⟨b, k * 4 + 2, none⟩ = some (.int .i64 ((L[k].e : Nat) : Int)) ∧ w.cell? ⟨b, k * 4 + 3, none⟩ = some (.bool L[k].r) := by
  obtain ⟨b', c, e, h1, hc⟩ := h (by omega)
  cases e
  have q := hc k hk
  rw [Nat.mul_comm 4 k] at q
  refine ⟨?_, ?_, ?_, ?_⟩ <;> rw [cell_of_row _ _ _ _ _ _ h1]
  · exact q 0 (by decide)
  · exact q 1 (by decide)
  · exact q 2 (by decide)
  · exact q 3 (by decide)
theorem holdsK_of {w : World} {g : Nat} {cur : Array Value} {L : List Cu} (hg : w.heap[g]? = some (.cells cur 73 (0, 0))) (ht : ∀ i (h : i < L.length) j, j < 4 → cur[4 * i + j]? = (cc L[i])[j]?) : HoldsK cc 4 w g 0 L.toArray := by
  intro t ht'
  rw [size_flatK] at ht'
  have ht2 : t < L.length * 4 := by simpa using ht'
  rw [get_flatK _ _ _ _ ht']
  have h1 := ht (t / 4) (by omega) (t % 4) (by omega)
  rw [show 4 * (t / 4) + t % 4 = t by omega] at h1
  refine ⟨?_, by simp [World.frozen?, hg]⟩
  rw [cell_of_row _ _ _ _ _ _ hg, Nat.zero_add, h1]
  have h4 : t % 4 < (cc L[t / 4]).length := by show _ < 4; omega
  rw [List.getElem?_eq_getElem h4]
  simp only [id]
  congr 1
  have e : L.toArray[t / 4]! = L[t / 4] := by rw [getElem!_pos L.toArray (t / 4) (by simpa using (by omega : t / 4 < L.length))]; simp
  rw [e, getElem!_pos (cc L[t / 4]) (t % 4) h4]
theorem csAt_of {w : World} {g : Nat} {L : List Cu} {c : Array Value} (h : HoldsK cc 4 w g 0 L.toArray) (hg : w.heap[g]? = some (.cells c 73 (0, 0))) : CsAt w (some ⟨g, 0, none⟩) L := fun _ => ⟨g, c, rfl, hg, fun i hi j hj => by
  have := (HoldsK.cell h (i := i) (c := j) (by simpa using hi) hj).1
  rw [Nat.zero_add, show i * 4 = 4 * i by omega, cell_of_row _ _ _ _ _ _ hg] at this
  rw [this]
  have e : L.toArray[i]! = L[i] := by rw [getElem!_pos L.toArray i (by simpa using hi)]; simp
  have h4 : j < (cc L[i]).length := hj
  rw [e, getElem!_pos (cc L[i]) j h4, List.getElem?_eq_getElem h4]⟩
theorem put_heap {w : World} {g m : Nat} {d : Array Cu} {c : Array Value} {t : TypeId} (hg : w.heap[g]? = some (.cells c t (0, 0))) : ∃ c', (putRowK cc 4 (Sort.ahead w m) g 0 d).heap[g]? = some (.cells c' t (0, 0)) := by
  refine ⟨putCells id 0 (flatK cc 4 d) c, ?_⟩
  show (w.heap.modify g _)[g]? = _
  rw [Array.getElem?_modify, if_pos rfl, hg]
  rfl
theorem below_put {n : Nat} {w w1 : World} {g : Nat} {m : Nat} {d : Array Cu} (h : Below n w w1) (hn : n ≤ w.heap.size) (hg : n ≤ g) : Below n w (putRowK cc 4 (Sort.ahead w1 m) g 0 d) := by
  refine h.trans ((Below.refl _ w1).grown (row := some g) ⟨rfl, rfl, rfl, by simp [putRowK, putRow, mapBlock, Sort.ahead], fun k _ hk => ?_⟩ (Nat.le_trans hn h.size) (fun k e => by cases e; exact hg))
  show (w1.heap.modify g _)[k]? = _
  rw [Array.getElem?_modify, if_neg (fun e => hk (by rw [e]))]
set_option maxHeartbeats 1000000 in
theorem upward_d {gf : Nat} {lb : Array Value} {xs : List Cu} {P : Nat → Prop} {w : World} (eg : ∀ args w, (callFunc gf args).run Tryd.prog w = .ok (.enter gf args) w) (hs : SeqX gf lb xs P w) (hP : ∀ j, P j → j < w.heap.size) (hx : xs.length ≤ 1048576) :
    Calls Tryd.prog 40 #[.func (.func gf) #[] lb] w fun e W' => ∃ a cap, e = .returned (.slice a xs.length cap) ∧ xs.length ≤ cap ∧ CsAt W' a xs.reverse ∧ (∀ p, 0 < xs.length → a = some p → w.heap.size ≤ p.block) ∧ Below w.heap.size w W' := by
  have hc := collect_d eg hs hP hx
  go_enter Tryd.func40, Tryd.ntmps40
  go_wp2_with fail
  refine hc.mono ?_
  rintro e w1 ⟨v, rfl, ho, hb⟩
  rcases Nat.eq_zero_or_pos xs.length with h0 | h0
  · obtain ⟨a, cap, hv⟩ : ∃ a cap, v = .slice a 0 cap := by
      rw [h0] at ho
      rcases ho.2 with ⟨rfl, _⟩ | ⟨g, cap, cur, rfl, _⟩
      · exact ⟨_, _, rfl⟩
      · exact ⟨_, _, rfl⟩
    subst hv
    have H0 := hide1 h0
    clear h0
    go_wp2_with fail
    refine (rev_0 a cap w1).mono ?_
    rintro e w2 ⟨rfl, rfl⟩
    go_wp2
    go_ret
    exact ⟨a, cap, by rw [H0.out]; rfl, by have := H0.out; omega, fun h => absurd h (by rw [List.length_reverse, H0.out]; omega), fun p h => absurd h (by rw [H0.out]; omega), hb⟩
  · rcases ho.2 with ⟨hv, h⟩ | ⟨g, cap, cur, rfl, hbg, hg, hnc, _, hcs, ht⟩
    · omega
    · have hH : HoldsK cc 4 w1 g 0 xs.toArray := holdsK_of hg (fun i hi j hj => by
        have h1 := ccv_get xs i j hi hj
        rw [← h1, ← ht, List.getElem?_take, if_pos (by omega), Array.getElem?_toList])
      have hrev := rev_l g 0 cap xs w1 hH (by omega)
      have hz := holdsK_putRowK cc 4
      have hpg := fun n => put_heap (m := n) (d := xs.reverse.toArray) hg
      clear ho hg hcs ht
      go_wp2_with fail
      refine hrev.mono ?_
      rintro e w2 ⟨rfl, n, rfl⟩
      go_wp2
      go_ret
      obtain ⟨c', hc'⟩ := hpg n
      exact ⟨_, cap, rfl, hnc, csAt_of (hz (Sort.ahead w1 n) g 0 xs.toArray xs.reverse.toArray (holdsK_ahead cc 4 w1 n g 0 _ hH) (by simp)) hc', (fun p _ e => by cases e; exact hbg), below_put hb (Nat.le_refl _) hbg⟩
end Go.Proofs.YtgnmnoadfjdjdaaDoor

namespace Go.Proofs.YtgnmnoadfjdjdaaDoor
open Go.RowKit Go.Maps Sh

def ccA (f a e : Nat) (r : Bool) : Array Value := #[.int .i64 ((f : Nat) : Int), .int .i64 ((a : Nat) : Int), .int .i64 ((e : Nat) : Int), .bool r]
theorem ld_cr {t0 : TypeId} {f a e : Nat} {r : Bool} (w : World) (q : Nat) (h : w.heap[q]? = some (.cells (ccA f a e r) t0 (0, 0))) : (Instr.loadAt 4 (.pointer (some ⟨q, 3, none⟩))).run Tryd.prog w = .ok (.bool r) w := by
  have h1 : w.cell? ⟨q, 3, none⟩ = some (.bool r) := by rw [cell_of_row _ _ _ _ _ _ h]; rfl
  simp [Instr.loadAt, Instr.sureAddr, go_sem, h1]
/-- The digest of both parts: of that in which the way goes on, and of that which it leaves aside. -/
def jn (r : Bool) (F G : Nat → Nat) : Nat → Nat := if r then nd G F else nd F G
theorem nd_lt (F G : Nat → Nat) : ∀ i, nd F G i < 256 := dg_lt _ _
theorem jn_lt (r : Bool) (F G : Nat → Nat) : ∀ i, jn r F G i < 256 := by unfold jn; split <;> exact nd_lt _ _
end Go.Proofs.YtgnmnoadfjdjdaaDoor

namespace Go.Proofs.YtgnmnoadfjdjdaaDoor
open Go.RowKit Go.Maps Sh
set_option maxHeartbeats 4000000 in
theorem join_t {cf ca ce : Nat} {F G : Nat → Nat} {W0 : World} (hnd : ∀ w, KW (wd W0) w → Calls Tryd.prog 62 #[.agg (ab 32 G), .agg (ab 32 F)] w fun e w' => e = .returned (.agg (ab 32 (nd G F))) ∧ Below w.heap.size w w') : Calls Tryd.prog 41 #[.agg (ccA cf ca ce true), .agg (ab 32 F), .agg (ab 32 G)] W0 fun e w' => e = .returned (.agg (ab 32 (nd G F))) ∧ Below W0.heap.size W0 w' := by
  refine s_in Tryd.func41 Tryd.ntmps41 rfl [.inl (.agg (ccA cf ca ce true)), .inl (.agg (ab 32 F)), .inl (.agg (ab 32 G))] ?_
  intro β a h
  refine sym_seq ?_
  refine St.rg h [(3, .inr (0, pt 0)), (4, .inr (1, pt 0)), (5, .inr (2, pt 0)), (6, .inr (3, pt 0))] [(ccA cf ca ce true, 73), (ab 32 F, 34), (ab 32 G, 34), (ab 32 (fun _ => 0), 34)] [] [eN 0, eN 1, eN 2, eN 3] ?_ ?_
  · exact oc (k_bx 0 (.agg (ccA cf ca ce true)) (bx_agg (P := Tryd.prog)) rfl rfl) <|
    oc (k_bx 1 (.agg (ab 32 F)) (bx_agg (P := Tryd.prog)) rfl rfl) <|
    oc (k_bx 2 (.agg (ab 32 G)) (bx_agg (P := Tryd.prog)) rfl rfl) <|
    oc (k_al 3 alS rfl rfl) <|
    ok_nil
  clear h; intro β a w h
  refine sym_then ?_
  refine sym_seq ?_
  refine sym_seq ?_
  refine St.r0 h [(7, .inr (0, pt 3)), (8, .inl (.bool true))] [nn, eR 0] ?_ ?_
  · exact oc (k_fa 0 0 3 rfl rfl) <|
    oc (k_ld 0 3 (.bool true) (c := ccA cf ca ce true) (ld_cr (t0 := 73) (f := cf) (a := ca) (e := ce)) rfl rfl) <|
    ok_nil
  clear h; intro β a w h
  refine sym_then ?_
  refine s_ct h ?_
  refine sym_seq ?_
  refine St.rg h [(9, .inl (.agg (ab 32 G))), (10, .inl (.agg (ab 32 F))), (11, .inl (.agg (ab 32 (nd G F))))] [] [(3, ab 32 (nd G F))] [eR 2, eR 1, nn, eS 3] ?_ ?_
  · exact oc (k_ld 2 0 (.agg (ab 32 G)) (c := ab 32 G) (ldS (F := G) 34) rfl rfl) <|
    oc (k_ld 1 0 (.agg (ab 32 F)) (c := ab 32 F) (ldS (F := F) 34) rfl rfl) <|
    oc (k_cw 62 #[.agg (ab 32 G), .agg (ab 32 F)] (.agg (ab 32 (nd G F))) (fun w hw => hnd w hw) rfl rfl) <|
    oc (k_st 3 0 (.agg (ab 32 (nd G F))) (c := ab 32 (fun _ => 0)) (n := ab 32 (nd G F)) (stS (F := (nd G F)) (c := ab 32 (fun _ => 0)) 34 (ab_size _ _)) rfl rfl) <|
    ok_nil
  clear h; intro β a w h
  refine sym_then ?_
  refine wp_ret ?_
  refine then_ret ?_
  exact s_rc (b := 3) (t0 := 34) (c := ab 32 (nd G F)) h Tryd.results41 Tryd.underlying34 (fun hb => ⟨rfl, hb⟩) (by rw [ab_size]; kernel_rfl)
set_option maxHeartbeats 4000000 in
theorem join_f {cf ca ce : Nat} {F G : Nat → Nat} {W0 : World} (hnd : ∀ w, KW (wd W0) w → Calls Tryd.prog 62 #[.agg (ab 32 F), .agg (ab 32 G)] w fun e w' => e = .returned (.agg (ab 32 (nd F G))) ∧ Below w.heap.size w w') : Calls Tryd.prog 41 #[.agg (ccA cf ca ce false), .agg (ab 32 F), .agg (ab 32 G)] W0 fun e w' => e = .returned (.agg (ab 32 (nd F G))) ∧ Below W0.heap.size W0 w' := by
  refine s_in Tryd.func41 Tryd.ntmps41 rfl [.inl (.agg (ccA cf ca ce false)), .inl (.agg (ab 32 F)), .inl (.agg (ab 32 G))] ?_
  intro β a h
  refine sym_seq ?_
  refine St.rg h [(3, .inr (0, pt 0)), (4, .inr (1, pt 0)), (5, .inr (2, pt 0)), (6, .inr (3, pt 0))] [(ccA cf ca ce false, 73), (ab 32 F, 34), (ab 32 G, 34), (ab 32 (fun _ => 0), 34)] [] [eN 0, eN 1, eN 2, eN 3] ?_ ?_
  · exact oc (k_bx 0 (.agg (ccA cf ca ce false)) (bx_agg (P := Tryd.prog)) rfl rfl) <|
    oc (k_bx 1 (.agg (ab 32 F)) (bx_agg (P := Tryd.prog)) rfl rfl) <|
    oc (k_bx 2 (.agg (ab 32 G)) (bx_agg (P := Tryd.prog)) rfl rfl) <|
    oc (k_al 3 alS rfl rfl) <|
    ok_nil
  clear h; intro β a w h
  refine sym_then ?_
  refine sym_seq ?_
  refine sym_seq ?_
  refine St.r0 h [(7, .inr (0, pt 3)), (8, .inl (.bool false))] [nn, eR 0] ?_ ?_
  · exact oc (k_fa 0 0 3 rfl rfl) <|
    oc (k_ld 0 3 (.bool false) (c := ccA cf ca ce false) (ld_cr (t0 := 73) (f := cf) (a := ca) (e := ce)) rfl rfl) <|
    ok_nil
  clear h; intro β a w h
  refine sym_then ?_
  refine s_cf h ?_
  refine wp_skip ?_
  refine sym_then ?_
  refine sym_seq ?_
  refine St.rg h [(12, .inl (.agg (ab 32 F))), (13, .inl (.agg (ab 32 G))), (14, .inl (.agg (ab 32 (nd F G))))] [] [(3, ab 32 (nd F G))] [eR 1, eR 2, nn, eS 3] ?_ ?_
  · exact oc (k_ld 1 0 (.agg (ab 32 F)) (c := ab 32 F) (ldS (F := F) 34) rfl rfl) <|
    oc (k_ld 2 0 (.agg (ab 32 G)) (c := ab 32 G) (ldS (F := G) 34) rfl rfl) <|
    oc (k_cw 62 #[.agg (ab 32 F), .agg (ab 32 G)] (.agg (ab 32 (nd F G))) (fun w hw => hnd w hw) rfl rfl) <|
    oc (k_st 3 0 (.agg (ab 32 (nd F G))) (c := ab 32 (fun _ => 0)) (n := ab 32 (nd F G)) (stS (F := (nd F G)) (c := ab 32 (fun _ => 0)) 34 (ab_size _ _)) rfl rfl) <|
    ok_nil
  clear h; intro β a w h
  refine sym_then ?_
  refine wp_ret ?_
  exact s_rc (b := 3) (t0 := 34) (c := ab 32 (nd F G)) h Tryd.results41 Tryd.underlying34 (fun hb => ⟨rfl, hb⟩) (by rw [ab_size]; kernel_rfl)
theorem join_d {c : Cu} {F G : Nat → Nat} {W0 : World} (hg : Gl W0) (hF : ∀ i, F i < 256) (hG : ∀ i, G i < 256) : Calls Tryd.prog 41 #[cv c, .agg (ab 32 F), .agg (ab 32 G)] W0 fun e w' => e = .returned (.agg (ab 32 (jn c.r F G))) ∧ Below W0.heap.size W0 w' := by
  obtain ⟨f, a, e, r⟩ := c
  cases r with
  | true => exact join_t (fun w hw => node_d (gl_b hg hw.below) hG hF)
  | false => exact join_f (fun w hw => node_d (gl_b hg hw.below) hF hG)
end Go.Proofs.YtgnmnoadfjdjdaaDoor

namespace Go.Proofs.YtgnmnoadfjdjdaaDoor
open Go.ChangeShapes Go.WideShapes Go.ChangeAt Go.RowKit Sh

def eqD (F G : Nat → Nat) : Bool := (List.range 32).all fun i => F i == G i
theorem eqD_iff {F G : Nat → Nat} : eqD F G = true ↔ ∀ i, i < 32 → F i = G i := by
  unfold eqD
  rw [List.all_eq_true]
  constructor
  · intro h i hi
    exact beq_iff_eq.1 (h i (List.mem_range.2 hi))
  · intro h i hi
    exact beq_iff_eq.2 (h i (List.mem_range.1 hi))
section
variable {x u : Operand}
set_option maxRecDepth 100000 in
theorem eqS_run (F G : Nat → Nat) (w : World) : (Op.equalIn 10000 34 (.agg (ab 32 F)) (.agg (ab 32 G))).run Tryd.prog w = .ok (eqD F G) w := by
  have h1 := eq_ints (P := Tryd.prog) (t := 34) (e := 5) (n := 32) (k := .u8) (k' := .u8) Tryd.underlying34 (inf := _) rfl (by kernel_rfl) Tryd.underlying5 (fun _ => by kernel_rfl) (ab 32 F) (ab 32 G) (fun i => (F i : Int)) (fun i => (G i : Int)) (fun i hi => arr_get _ _ _ hi) (fun i hi => arr_get _ _ _ hi) w
  rw [h1]
  congr 1
  rw [Bool.eq_iff_iff, eqD_iff, decide_eq_true_eq]
  constructor <;> intro hh i hi <;> have := hh i hi <;> omega
theorem eqS (F G : Nat → Nat) (w : World) : (do eqGuard .eql 34 x u (.agg (ab 32 F)) (.agg (ab 32 G)); binOp .eql 34 (.agg (ab 32 F)) (.agg (ab 32 G))).run Tryd.prog w = .ok (.bool (eqD F G)) w := by
  simp [eqGuard, binOp, go_sem, Op.equal, Op.maxDepth, eqS_run F G w]
theorem neS (F G : Nat → Nat) (w : World) : (do eqGuard .neq 34 x u (.agg (ab 32 F)) (.agg (ab 32 G)); binOp .neq 34 (.agg (ab 32 F)) (.agg (ab 32 G))).run Tryd.prog w = .ok (.bool (!eqD F G)) w := by
  simp [eqGuard, binOp, go_sem, Op.equal, Op.maxDepth, eqS_run F G w]
theorem eqS_t {F G : Nat → Nat} (h : ∀ i, i < 32 → F i = G i) (w : World) : (do eqGuard .eql 34 x u (.agg (ab 32 F)) (.agg (ab 32 G)); binOp .eql 34 (.agg (ab 32 F)) (.agg (ab 32 G))).run Tryd.prog w = .ok (.bool true) w := by
  rw [eqS, eqD_iff.2 h]
theorem eqB_t {m n : Nat} (h : m = n) (w : World) : (do eqGuard .eql 5 x u (.int .u8 ((m : Nat) : Int)) (.int .u8 ((n : Nat) : Int)); binOp .eql 5 (.int .u8 ((m : Nat) : Int)) (.int .u8 ((n : Nat) : Int))).run Tryd.prog w = .ok (.bool true) w := by
  subst h
  simp [eqGuard, binOp, go_sem]
end
theorem ld_abv {t0 : TypeId} {N i v : Nat} {F : Nat → Nat} (hi : i < N) (hv : F i = v) (w : World) (q : Nat) (h : w.heap[q]? = some (.cells (ab N F) t0 (0, 0))) : (Instr.loadAt 5 (.pointer (some ⟨q, i, none⟩))).run Tryd.prog w = .ok (.int .u8 ((v : Nat) : Int)) w := by
  have h1 : w.cell? ⟨q, i, none⟩ = some (.int .u8 ((v : Nat) : Int)) := by rw [cell_of_row _ _ _ _ _ _ h, ← hv]; exact arr_get _ _ _ hi
  simp [Instr.loadAt, Instr.sureAddr, go_sem, h1]
/-! The tables. -/
def laidL : List (String × DataW Unit) := [("cachet/sum.cubes", Rows.laid_cachet_sum_cubes), ("cachet/sum.squares", Rows.laid_cachet_sum_squares)]
theorem gCubes : Tryd.prog.globalNamed "cachet/sum.cubes" = some 3 := by kernel_rfl
theorem gSquares : Tryd.prog.globalNamed "cachet/sum.squares" = some 2 := by kernel_rfl
theorem tCubes : (Tryd.prog.globals[3]?).map (·.type) = some 133 := by kernel_rfl
theorem tSquares : (Tryd.prog.globals[2]?).map (·.type) = some 127 := by kernel_rfl
/-- A row of words that reads as it was laid. -/
theorem row_cells {W : World} {fuel n t : Nat} {cs : List Value} {ns : List Nat} {ps : List MemPlace} {base : Nat} {sp : Nat → Bool} {held : Bool} {enc : TypeId × Value → Unit} (ht : Tryd.prog.underlying t = some (.array n 102)) (h : DataW.trod enc Tryd.prog W base sp held fuel t cs = some (.agg (ns.map fun k => .lit (.int .u64 ((k : Nat) : Int))), ps)) (hn : ns.length = n) :
    ∀ i, i < n → cs[i]? = some (.int .u64 ((ns.getD i 0 : Nat) : Int)) := by
  obtain ⟨xs, m, rfl, hx, hlen, hxs, hel⟩ := DataW.trod_array ht h
  have c1 : Tryd.prog.cellsOf 102 = 1 := by kernel_rfl
  intro i hi
  have h1 := hel i hi
  rw [c1, Nat.mul_one] at h1
  simp only [Prod.mk.injEq, DataW.agg.injEq] at hx
  have hxi : xs[i]? = some xs[i] := List.getElem?_eq_getElem (by omega)
  rw [hxi] at h1
  obtain ⟨k, e1, e2, _⟩ := DataW.trod_int Tryd.underlying102 h1
  have h3 := congrArg (·[i]?) hx.1
  simp only [List.getElem?_map] at h3
  rw [hxi, List.getElem?_eq_getElem (l := ns) (show i < ns.length by omega)] at h3
  simp only [Option.map_some, Option.some.injEq] at h3
  rw [e2] at h3
  have h4 : ((ns[i] : Nat) : Int) = k := by simpa using h3
  have h5 : cs[i]? = (cs.drop i)[0]? := by simp
  have h6 : ((cs.drop i).take 1)[0]? = (cs.drop i)[0]? := by rw [List.getElem?_take]; simp
  rw [h5, ← h6, e1, List.getD_eq_getElem?_getD, List.getElem?_eq_getElem (l := ns) (show i < ns.length by omega), Option.getD_some, h4]
  rfl
theorem cubes_L : (Rows.laid_cachet_sum_cubes : DataW Unit) = .agg (cuL.map fun k => .lit (.int .u64 ((k : Nat) : Int))) := by kernel_rfl
theorem squares_L : (Rows.laid_cachet_sum_squares : DataW Unit) = .agg (sqL.map fun k => .lit (.int .u64 ((k : Nat) : Int))) := by kernel_rfl
theorem of_laid {W : World} (h : laidMetH Tryd.prog laidL W) : Gl W := by
  rw [MakeChecks.laidMetH_plain _ _ _ (by kernel_rfl)] at h
  obtain ⟨ps, ⟨g0, t0, cs0, f0, p0, q0, hg0, ht0, hv0, hd0, ⟨g1, t1, cs1, f1, p1, q1, hg1, ht1, hv1, hd1, _, _⟩, _⟩, _, _⟩ := h
  obtain rfl := Option.some.inj (gCubes.symm.trans hg0)
  obtain rfl := Option.some.inj (gSquares.symm.trans hg1)
  obtain rfl := Option.some.inj (tCubes.symm.trans ht0)
  obtain rfl := Option.some.inj (tSquares.symm.trans ht1)
  rw [cubes_L] at hd0
  rw [squares_L] at hd1
  refine ⟨fun i hi => ?_, fun i hi => ?_⟩
  · rw [World.var?_cell hg1 hv1 i, ← Array.getElem?_toList]
    exact row_cells Tryd.underlying127 hd1 (by kernel_rfl) i hi
  · rw [World.var?_cell hg0 hv0 i, ← Array.getElem?_toList]
    exact row_cells Tryd.underlying133 hd0 (by kernel_rfl) i hi
theorem door_met (os : Os) (args : Array Value) : laidMetH Tryd.prog laidL ((World.doorLaid Tryd.prog 400 os).forCall (fun _ _ => 0) ⟨#[], args, []⟩).memory :=
  laidMetH_of_parts3 (fuel := 8) (laidMet_of_run' 8 (by kernel_rfl) (by kernel_rfl)) (by kernel_rfl) (by kernel_rfl)
end Go.Proofs.YtgnmnoadfjdjdaaDoor

namespace Go.Proofs.YtgnmnoadfjdjdaaDoor
open Go.RowKit Go.Maps Sh

def numsF (len : Nat) (f : Nat → Nat) : List Int := (List.range len).map fun i => ((f i : Nat) : Int)
/-- Bytes as a text. -/
theorem conv_f {w : World} {a : Option Addr} {len : Nat} {f : Nat → Nat} (h : Bs w a len f) (cap : Nat) : (convert 97 9 (.slice a len cap)).run Tryd.prog w = .ok (.string (strOfNums (numsF len f))) w := by
  rcases Nat.eq_zero_or_pos len with rfl | hp
  · cases a with
    | none => exact run_convert_bytes_nil w 97 5 Tryd.underlying97 Tryd.underlying5 0 cap 9 Tryd.underlying9
    | some x =>
      rw [run_convert_bytes_string w 97 9 5 _ 0 cap Tryd.underlying97 Tryd.underlying5 Tryd.underlying9, run_bytesToString w x 0 cap [] (run_loadCells_list (P := Tryd.prog) w x [] (fun j v hj => by simp at hj))]
      rfl
  · obtain ⟨b, off, rfl, hc⟩ := h.2 hp
    refine run_convert_bytes_arg w 97 5 Tryd.underlying97 Tryd.underlying5 b off len cap (numsF len f) (by simp [numsF]) (fun j hj => ?_) 9 Tryd.underlying9
    rw [hc j hj]
    simp [numsF, List.getD_eq_getElem?_getD, hj]
theorem nums_cong {len : Nat} {f g : Nat → Nat} (h : ∀ i, i < len → f i = g i) : numsF len f = numsF len g := by
  unfold numsF
  exact List.map_congr_left fun i hi => by rw [h i (List.mem_range.1 hi)]
/-- What a copy holds, with its marks. -/
def cpM (f : Nat → Nat) (len i : Nat) : Nat := if i < len then f i else if i = len then 165 else 90
theorem bs_2 (w : World) : Bs (w.alloc (.cells #[.int .u8 165, .int .u8 90] 5)) (some ⟨w.heap.size, 0, none⟩) 2 (fun i => if i = 0 then 165 else 90) :=
  ⟨fun i => by dsimp only; split <;> omega, fun _ => ⟨_, 0, rfl, fun i hi => by
    have h := (MapKept.heap_alloc w (.cells #[.int .u8 165, .int .u8 90] 5)).1
    rw [cell_of_row _ _ _ _ _ _ h]
    have hc : i = 0 ∨ i = 1 := by omega
    rcases hc with rfl | rfl <;> rfl⟩⟩
end Go.Proofs.YtgnmnoadfjdjdaaDoor

namespace Go.Proofs.YtgnmnoadfjdjdaaDoor
open Go.RowKit Go.Maps Sh

theorem gt_s {x u : Operand} {m n : Int} {b : Bool} (h : decide (n < m) = b) (w : World) : (do eqGuard .gtr 3 x u (.int .i64 m) (.int .i64 n); binOp .gtr 3 (.int .i64 m) (.int .i64 n)).run Tryd.prog w = .ok (.bool b) w := by
  subst h; simp [eqGuard, binOp, go_sem]
theorem bs_c {w : World} {c : Array Value} {q len : Nat} {f : Nat → Nat} {t : TypeId} (hf : ∀ i, f i < 256) (hq : w.heap[q]? = some (.cells c t (0, 0))) (hc : ∀ i, i < len + 2 → c[i]? = some (.int .u8 ((cpM f len i : Nat) : Int))) : Bs w (some ⟨q, 0, none⟩) len f :=
  ⟨hf, fun _ => ⟨q, 0, rfl, fun i hi => by
    rw [cell_of_row _ _ _ _ _ _ hq]
    show c[0 + i]? = _
    rw [Nat.zero_add, hc i (by omega)]
    unfold cpM
    rw [if_pos hi]⟩⟩
end Go.Proofs.YtgnmnoadfjdjdaaDoor

namespace Go.Proofs.YtgnmnoadfjdjdaaDoor
open Go.ChangeShapes Go.WideShapes Go.ChangeAt Go.RowKit Sh

theorem bs_zs {w : World} {x : Addr} {len : Nat} {zs : List Int} (hl : len ≤ zs.length) (hcell : ∀ i, i < zs.length → w.cell? (x.add i) = some (.int .u8 (zs.getD i 0))) (hwz : ∀ n ∈ zs, (Lit.int .u8 n).wf = true) : ∃ f, Bs w (some x) len f := by
  have hby : ∀ i, i < zs.length → 0 ≤ zs.getD i 0 ∧ zs.getD i 0 < 256 := by
    intro i hi
    have hm : zs.getD i 0 ∈ zs := by rw [List.getD_eq_getElem?_getD, List.getElem?_eq_getElem hi]; exact List.getElem_mem hi
    have := hwz _ hm
    simp only [Lit.wf, Bool.and_eq_true, decide_eq_true_eq] at this
    have e1 : IntKind.u8.min = 0 := rfl
    have e2 : IntKind.u8.max = 255 := rfl
    omega
  refine ⟨fun i => (zs.getD i 0).toNat % 256, fun i => Nat.mod_lt _ (by omega), fun hp => ?_⟩
  obtain ⟨b, off, spot⟩ := x
  have hc := hcell 0 (by omega)
  have hspot : spot = none := by simpa [Addr.add] using World.cell?_spot hc
  subst hspot
  refine ⟨b, off, rfl, fun i hi => ?_⟩
  have h1 := hcell i (by omega)
  rw [Addr.add_lit] at h1
  rw [h1]
  show _ = some (Value.int .u8 (((zs.getD i 0).toNat % 256 : Nat) : Int))
  have h2 := hby i (by omega)
  generalize zs.getD i 0 = z at *
  have h3 : ((z.toNat % 256 : Nat) : Int) = z := by omega
  rw [h3]
theorem ck_ab (b : Nat → Nat) : ck b = ab 32 b := rfl
section
variable {H : Type} {enc : TypeId × Value → H} {W : World} {held : Bool}
/-- Bytes. -/
theorem bytes_in {a : Option Addr} {len cap : Nat} {d : DataW H} {p : List MemPlace} (h : DataW.Trod enc Tryd.prog W 0 (fun _ => true) held 97 (.slice a len cap) d p) : ∃ f, Bs W a len f ∧ len ≤ cap ∧ ∀ x, a = some x → 0 < len → x.block < W.heap.size := by
  obtain ⟨fuel, hf⟩ := h
  rcases open_ints Tryd.underlying97 Tryd.underlying5 (by kernel_rfl) hf with ⟨hcs, _⟩ | ⟨x, l, c, zs, hcs, _, hl, hm, hz, _, hcell, hwz⟩
  · simp [Value.cells] at hcs
    obtain ⟨rfl, rfl, rfl⟩ := hcs
    exact ⟨fun _ => 0, ⟨fun _ => (by decide : 0 < 256), fun h => absurd h (by omega)⟩, Nat.le_refl _, fun x e => by cases e⟩
  · simp [Value.cells] at hcs
    obtain ⟨rfl, rfl, rfl⟩ := hcs
    obtain ⟨f, hb⟩ := bs_zs (w := W) (x := x) (len := len) (zs := zs) (by simp at hz; omega) hcell hwz
    refine ⟨f, hb, hl, fun y e hp => ?_⟩
    obtain ⟨b, off, e2, hc⟩ := hb.2 hp
    rw [e2] at e
    cases e
    exact cell_lt (hc 0 hp)
/-- One digest in a row. -/
theorem sum_in {n b o : Nat} {cs : List Value} {x : DataW H × List MemPlace} (h1 : W.cells? 0 ⟨b, o, none⟩ 32 = some cs) (h2 : DataW.trod enc Tryd.prog W 0 (fun _ => true) held n 34 cs = some x) : ∃ F : Nat → Nat, (∀ j, F j < 256) ∧ ∀ j, j < 32 → W.cell? ⟨b, o + j, none⟩ = some (.int .u8 ((F j : Nat) : Int)) := by
  obtain ⟨_, hl, hc⟩ := World.cells?_some h1
  obtain ⟨xs, m, rfl, -, hlen, hx, hi⟩ := DataW.trod_array Tryd.underlying34 h2
  have hce : Tryd.prog.cellsOf 5 = 1 := by kernel_rfl
  have hcell : ∀ i, i < 32 → ∃ n : Nat, n < 256 ∧ cs[i]? = some (.int .u8 (n : Int)) := by
    intro i hi32
    have h1 := hi i hi32
    have h2 : xs[i]? = some xs[i] := by simp [hx, hi32]
    rw [h2, hce, Nat.mul_one] at h1
    obtain ⟨n, hc, -, hw⟩ := DataW.trod_int Tryd.underlying5 h1
    have h3 : cs[i]? = some (.int .u8 n) := by
      have := congrArg (·[0]?) hc
      simpa [List.getElem?_take, List.getElem?_drop] using this
    simp only [Lit.wf, Bool.and_eq_true, decide_eq_true_eq] at hw
    have e1 : IntKind.u8.min = 0 := rfl
    have e2 : IntKind.u8.max = 255 := rfl
    refine ⟨n.toNat, by omega, ?_⟩
    rw [h3, show ((n.toNat : Nat) : Int) = n by omega]
  obtain ⟨F, hF⟩ := Deep.choose_lt hcell
  refine ⟨fun j => F j % 256, fun j => Nat.mod_lt _ (by decide), fun j hj => ?_⟩
  obtain ⟨h3, h4⟩ := hF j hj
  have h5 := hc j (by omega)
  rw [Addr.add_lit] at h5
  rw [h5, h4]
  show _ = some (Value.int .u8 ((F j % 256 : Nat) : Int))
  rw [Nat.mod_eq_of_lt h3]
/-- Rows of digests. -/
theorem sums_in {a0 : Option Addr} {len0 cap0 : Nat} {d : DataW H} {p : List MemPlace} (h : DataW.Trod enc Tryd.prog W 0 (fun _ => true) held 22 (.slice a0 len0 cap0) d p) : ∃ L : List (Nat → Nat), SsAt W a0 L ∧ L.length = len0 ∧ len0 ≤ cap0 := by
  obtain ⟨fuel, hf⟩ := h
  have c5 : Tryd.prog.cellsOf 34 = 32 := by kernel_rfl
  rcases Deep.open_slice Tryd.underlying22 hf with ⟨hcs, _⟩ | ⟨a, len, cap, m, k, D, Pl, hcs, _, hl, hm, hmm, _, hx⟩
  · simp [Value.cells] at hcs
    obtain ⟨rfl, rfl, rfl⟩ := hcs
    exact ⟨[], ⟨fun F h => (by cases h), fun h => absurd h (by simp)⟩, rfl, Nat.le_refl _⟩
  · simp [Value.cells] at hcs
    obtain ⟨rfl, rfl, rfl⟩ := hcs
    rw [if_pos rfl] at hmm
    subst hmm
    rw [c5] at hx
    obtain ⟨b, off, spot⟩ := a
    by_cases hp : 0 < len0
    · obtain rfl : spot = none := by
        obtain ⟨cs', h1, _⟩ := hx 0 (by omega)
        obtain ⟨_, hl1, hc1⟩ := World.cells?_some h1
        have h2 := hc1 0 (by omega)
        rw [List.getElem?_eq_getElem (by omega)] at h2
        simpa [Addr.add] using World.cell?_spot h2
      have hex : ∀ i, i < len0 → ∃ F : Nat → Nat, (∀ j, F j < 256) ∧ ∀ j, j < 32 → W.cell? ⟨b, off + i * 32 + j, none⟩ = some (.int .u8 ((F j : Nat) : Int)) := fun i hi => by
        obtain ⟨cs', h1, h2⟩ := hx i (by omega)
        rw [Addr.add_lit] at h1
        exact sum_in h1 h2
      obtain ⟨f, hf⟩ := Deep.choose_lt hex
      refine ⟨(List.range len0).map f, ⟨fun F hF => ?_, fun _ => ⟨b, off, rfl, fun i hi j hj => ?_⟩⟩, by simp, hl⟩
      · obtain ⟨i, hi, rfl⟩ := List.mem_map.1 hF
        exact (hf i (List.mem_range.1 hi)).1
      · simp only [List.length_map, List.length_range] at hi
        have := (hf i hi).2 j hj
        rw [Nat.mul_comm] at this
        simpa using this
    · obtain rfl : len0 = 0 := by omega
      exact ⟨[], ⟨fun F h => (by cases h), fun h => absurd h (by simp)⟩, rfl, hl⟩
end
end Go.Proofs.YtgnmnoadfjdjdaaDoor

namespace Go.Proofs.YtgnmnoadfjdjdaaDoor
open Go.RowKit Go.Maps Sh

theorem ix_st {a : Option Addr} {b off n cap i : Nat} (e : a = some ⟨b, off, none⟩) (hi : i < n) (w : World) : (Instr.indexAt 22 (.slice a n cap) (.int .i64 ((i : Nat) : Int))).run Tryd.prog w = .ok (.pointer (some ⟨b, off + 32 * i, none⟩)) w := by
  subst e; exact ix_ss hi w
theorem ld_st {w : World} {a : Option Addr} {b off i : Nat} {L : List (Nat → Nat)} (h : SsAt w a L) (e : a = some ⟨b, off, none⟩) (hi : i < L.length) : (Instr.loadAt 34 (.pointer (some ⟨b, off + 32 * i, none⟩))).run Tryd.prog w = .ok (.agg (ab 32 (L.getD i fun _ => 0))) w := by
  subst e
  rw [ld_ss h hi, List.getD_eq_getElem?_getD, List.getElem?_eq_getElem hi]; rfl
section
variable {x u : Operand}
theorem neS_f {F G : Nat → Nat} (h : eqD F G = true) (w : World) : (do eqGuard .neq 34 x u (.agg (ab 32 F)) (.agg (ab 32 G)); binOp .neq 34 (.agg (ab 32 F)) (.agg (ab 32 G))).run Tryd.prog w = .ok (.bool false) w := by
  rw [neS, h]; rfl
theorem neS_t {F G : Nat → Nat} (h : eqD F G = false) (w : World) : (do eqGuard .neq 34 x u (.agg (ab 32 F)) (.agg (ab 32 G)); binOp .neq 34 (.agg (ab 32 F)) (.agg (ab 32 G))).run Tryd.prog w = .ok (.bool true) w := by
  rw [neS, h]; rfl
end
/-- The same digests. -/
def eqLs : List (Nat → Nat) → List (Nat → Nat) → Bool
  | [], [] => true
  | F :: r, G :: s => eqD F G && eqLs r s
  | _, _ => false
theorem eqLs_refl : ∀ L : List (Nat → Nat), eqLs L L = true
  | [] => rfl
  | F :: r => by
    show (eqD F F && eqLs r r) = true
    rw [eqLs_refl r, eqD_iff.2 fun _ _ => rfl]; rfl
theorem eqLs_len : ∀ {L M : List (Nat → Nat)}, L.length ≠ M.length → eqLs L M = false
  | [], [], h => absurd rfl h
  | [], _ :: _, _ => rfl
  | _ :: _, [], _ => rfl
  | F :: r, G :: s, h => by
    show (eqD F G && eqLs r s) = false
    rw [eqLs_len (L := r) (M := s) (by simpa using h), Bool.and_false]
/-- Either all are the same, or there is a first one that isn't. -/
theorem eqLs_cases : ∀ {L M : List (Nat → Nat)}, L.length = M.length → (eqLs L M = true ∧ ∀ i, i < L.length → eqD (L.getD i fun _ => 0) (M.getD i fun _ => 0) = true) ∨ (eqLs L M = false ∧ ∃ k, k < L.length ∧ eqD (L.getD k fun _ => 0) (M.getD k fun _ => 0) = false ∧ ∀ i, i < k → eqD (L.getD i fun _ => 0) (M.getD i fun _ => 0) = true)
  | [], [], _ => .inl ⟨rfl, fun i h => absurd h (by simp)⟩
  | F :: r, G :: s, h => by
    cases e : eqD F G with
    | false => exact .inr ⟨by show (eqD F G && eqLs r s) = false; rw [e]; rfl, 0, by simp, e, fun i hi => absurd hi (by omega)⟩
    | true =>
      rcases eqLs_cases (L := r) (M := s) (by simpa using h) with ⟨h1, h2⟩ | ⟨h1, k, hk, h2, h3⟩
      · refine .inl ⟨by show (eqD F G && eqLs r s) = true; rw [e, h1]; rfl, fun i hi => ?_⟩
        rcases i with _ | i
        · exact e
        · exact h2 i (by simpa using hi)
      · refine .inr ⟨by show (eqD F G && eqLs r s) = false; rw [e, h1]; rfl, k + 1, by simpa using hk, h2, fun i hi => ?_⟩
        rcases i with _ | i
        · exact e
        · exact h3 i (by omega)
/-- Two digests held against one another, in a plain region. -/
theorem wpList_eqS {w : World} {ops : Array Oper} {rest : List Oper} {o : Oper} {a : Act} {Q : Exit → Act → World → Prop} (hgd : o.guard = none) (x u : Operand) {t' : TypeId} (ho : o.op = .binOp .eql 34 x u t') {F G : Nat → Nat} (hx : a.eval x = .agg (ab 32 F)) (hu : a.eval u = .agg (ab 32 G)) (h : wpList Tryd.prog ops Q rest (a.put o.dst (.bool (eqD F G))) w) : wpList Tryd.prog ops Q (o :: rest) a w := by
  refine wpList_plain hgd fun K hK => ?_
  have h3 := eqS (x := x) (u := u) F G w
  unfold Oper.wp
  simp only [execOp, ho, hx, hu, Sem.run_bind, h3, Result.andThen_ok, Sem.run_pure, Oper.upon_value]
  exact hK _ _ h
theorem wpList_neS {w : World} {ops : Array Oper} {rest : List Oper} {o : Oper} {a : Act} {Q : Exit → Act → World → Prop} (hgd : o.guard = none) (x u : Operand) {t' : TypeId} (ho : o.op = .binOp .neq 34 x u t') {F G : Nat → Nat} (hx : a.eval x = .agg (ab 32 F)) (hu : a.eval u = .agg (ab 32 G)) (h : wpList Tryd.prog ops Q rest (a.put o.dst (.bool (!eqD F G))) w) : wpList Tryd.prog ops Q (o :: rest) a w := by
  refine wpList_plain hgd fun K hK => ?_
  have h3 := neS (x := x) (u := u) F G w
  unfold Oper.wp
  simp only [execOp, ho, hx, hu, Sem.run_bind, h3, Result.andThen_ok, Sem.run_pure, Oper.upon_value]
  exact hK _ _ h
set_option maxHeartbeats 1000000 in
theorem sums_z {a a2 : Option Addr} {cap cap2 : Nat} {W0 : World} : Calls Tryd.prog 32 #[.slice a 0 cap, .slice a2 0 cap2] W0 fun e w' => e = .returned (.bool true) ∧ Below W0.heap.size W0 w' := by
  go_enter Tryd.func32, Tryd.ntmps32
  go_wp2
  refine wp_loop_rounds 1 ?_
  rw [rounds_succ]
  go_wp2
  go_ret
  exact ⟨rfl, Below.refl _ _⟩
end Go.Proofs.YtgnmnoadfjdjdaaDoor

namespace Go.Proofs.YtgnmnoadfjdjdaaDoor
open Go.RowKit Go.Maps Sh
set_option maxHeartbeats 4000000 in
theorem sums_n {aa a2 : Option Addr} {n m cap cap2 : Nat} {W0 : World} (hne : n ≠ m) : Calls Tryd.prog 32 #[.slice aa n cap, .slice a2 m cap2] W0 fun e w' => e = .returned (.bool false) ∧ Below W0.heap.size W0 w' := by
  refine s_in Tryd.func32 Tryd.ntmps32 rfl [.inl (.slice aa n cap), .inl (.slice a2 m cap2)] ?_
  intro β a h
  refine sym_seq ?_
  refine St.r0 h [(4, .inl (.bool false))] [] ?_ ?_
  · exact oz (k_mv (.inr rfl) rfl) <|
    ok_nil
  clear h; intro β a w h
  refine sym_then ?_
  refine sym_seq ?_
  refine sym_seq ?_
  refine St.r0 h [(6, .inl (.slice aa n cap)), (7, .inl (.int .i64 ((n : Nat) : Int))), (8, .inl (.slice a2 m cap2)), (9, .inl (.int .i64 ((m : Nat) : Int))), (10, .inl (.bool true))] [] ?_ ?_
  · exact oz (k_mv (.inl rfl) rfl) <|
    oz (k_ln (ad := aa) n cap rfl rfl (fun w => len_ss _ w)) <|
    oz (k_mv (.inl rfl) rfl) <|
    oz (k_ln (ad := a2) m cap2 rfl rfl (fun w => len_ss _ w)) <|
    oz (k_bi (.int .i64 ((n : Nat) : Int)) (.int .i64 ((m : Nat) : Int)) (.bool true) (ne_i (m := ((n : Nat) : Int)) (n := ((m : Nat) : Int)) (decide_eq_true (by omega))) rfl rfl) <|
    ok_nil
  clear h; intro β a w h
  refine sym_then ?_
  refine s_ct h ?_
  refine sym_seq ?_
  refine St.r0 h [] [] ?_ ?_
  · exact oz (k_mv (.inr rfl) rfl) <|
    ok_nil
  clear h; intro β a w h
  refine sym_then ?_
  refine wp_ret ?_
  refine then_ret ?_
  exact s_rt h Tryd.results32 (fun hb => ⟨rfl, hb⟩)
set_option maxHeartbeats 4000000 in
theorem sums_t {aa a2 : Option Addr} {b off b2 off2 n cap cap2 : Nat} {L M : List (Nat → Nat)} {W0 : World} (hL : SsAt W0 aa L) (hM : SsAt W0 a2 M) (lL : L.length = n) (lM : M.length = n) (hm : n ≤ 1000000) (ea : aa = some ⟨b, off, none⟩) (eb : a2 = some ⟨b2, off2, none⟩) (heq : ∀ i, i < n → eqD (L.getD i fun _ => 0) (M.getD i fun _ => 0) = true) : Calls Tryd.prog 32 #[.slice aa n cap, .slice a2 n cap2] W0 fun e w' => e = .returned (.bool true) ∧ Below W0.heap.size W0 w' := by
  refine s_in Tryd.func32 Tryd.ntmps32 rfl [.inl (.slice aa n cap), .inl (.slice a2 n cap2)] ?_
  intro β a h
  refine sym_seq ?_
  refine St.r0 h [(4, .inl (.bool false))] [] ?_ ?_
  · exact oz (k_mv (.inr rfl) rfl) <|
    ok_nil
  clear h; intro β a w h
  refine sym_then ?_
  refine sym_seq ?_
  refine sym_seq ?_
  refine St.r0 h [(6, .inl (.slice aa n cap)), (7, .inl (.int .i64 ((n : Nat) : Int))), (8, .inl (.slice a2 n cap2)), (9, .inl (.int .i64 ((n : Nat) : Int))), (10, .inl (.bool false))] [] ?_ ?_
  · exact oz (k_mv (.inl rfl) rfl) <|
    oz (k_ln (ad := aa) n cap rfl rfl (fun w => len_ss _ w)) <|
    oz (k_mv (.inl rfl) rfl) <|
    oz (k_ln (ad := a2) n cap2 rfl rfl (fun w => len_ss _ w)) <|
    oz (k_bi (.int .i64 ((n : Nat) : Int)) (.int .i64 ((n : Nat) : Int)) (.bool false) (ne_i (m := ((n : Nat) : Int)) (n := ((n : Nat) : Int)) (decide_eq_false (by omega))) rfl rfl) <|
    ok_nil
  clear h; intro β a w h
  refine sym_then ?_
  refine s_cf h ?_
  refine wp_skip ?_
  refine sym_then ?_
  refine sym_seq ?_
  refine sym_seq ?_
  refine St.r0 h [(11, .inl (.slice aa n cap)), (12, .inl (.int .i64 ((n : Nat) : Int))), (13, .inl (.int .i64 ((0 : Nat) : Int)))] [] ?_ ?_
  · exact oz (k_mv (.inl rfl) rfl) <|
    oz (k_ln (ad := aa) n cap rfl rfl (fun w => len_ss _ w)) <|
    oz (k_mv (.inl rfl) rfl) <|
    ok_nil
  clear h; intro β a w h
  refine sym_then ?_
  refine blk_in ?_
  obtain ⟨x, h⟩ := St.jn (n := 26) h [0, 1, 6, 7, 8, 9, 10, 11, 12, 13] [.inl (.slice aa n cap), .inl (.slice a2 n cap2), .inl (.slice aa n cap), .inl (.int .i64 ((n : Nat) : Int)), .inl (.slice a2 n cap2), .inl (.int .i64 ((n : Nat) : Int)), .inl (.bool false), .inl (.slice aa n cap), .inl (.int .i64 ((n : Nat) : Int)), .inl (.int .i64 ((0 : Nat) : Int))] [] (by kernel_rfl) (by kernel_rfl) (by kernel_rfl)
  refine loop_up n (fun i a w => ∃ (x : Nat → SV) (β : Nat → Nat), St (wd W0) (ov (jk 26 x) ([0, 1, 6, 7, 8, 9, 10, 11, 12, 13].zip [.inl (.slice aa n cap), .inl (.slice a2 n cap2), .inl (.slice aa n cap), .inl (.int .i64 ((n : Nat) : Int)), .inl (.slice a2 n cap2), .inl (.int .i64 ((n : Nat) : Int)), .inl (.bool false), .inl (.slice aa n cap), .inl (.int .i64 ((n : Nat) : Int)), .inl (.int .i64 ((i : Nat) : Int))])) [] β a w) ⟨x, _, h⟩ ?_
  clear h; rintro i a w hki ⟨x, β, h⟩
  rcases Nat.lt_or_ge i n with hlti | hgei
  · refine sym_seq ?_
    refine St.r0 h [(14, .inl (.bool true))] [] ?_ ?_
    · exact oz (k_bi (.int .i64 ((i : Nat) : Int)) (.int .i64 ((n : Nat) : Int)) (.bool true) (lt_i (m := ((i : Nat) : Int)) (n := ((n : Nat) : Int)) (decide_eq_true (by omega))) rfl rfl) <|
      ok_nil
    clear h; intro β a w h
    refine sym_then ?_
    refine sym_seq ?_
    refine s_ct h ?_
    refine wp_skip ?_
    refine sym_then ?_
    refine sym_seq ?_
    refine blk_in ?_
    refine sym_seq ?_
    refine St.r0 h [(15, .inl (.int .i64 ((i : Nat) : Int))), (5, .inl (.int .i64 ((i : Nat) : Int)))] [] ?_ ?_
    · exact oz (k_mv (.inl rfl) rfl) <|
      oz (k_mv (.inr rfl) rfl) <|
      ok_nil
    clear h; intro β a w h
    refine sym_then ?_
    refine sym_seq ?_
    refine St.r0 h [(16, .inl (.slice aa n cap)), (17, .inl (.int .i64 ((i : Nat) : Int))), (18, .inl (.pointer (some ⟨b, off + 32 * i, none⟩))), (19, .inl (.agg (ab 32 (L.getD i fun _ => 0)))), (20, .inl (.slice a2 n cap2)), (21, .inl (.int .i64 ((i : Nat) : Int))), (22, .inl (.pointer (some ⟨b2, off2 + 32 * i, none⟩))), (23, .inl (.agg (ab 32 (M.getD i fun _ => 0)))), (24, .inl (.bool false))] [] ?_ ?_
    · exact oz (k_mv (.inl rfl) rfl) <|
      oz (k_mv (.inl rfl) rfl) <|
      oz (k_is (.slice aa n cap) (.int .i64 ((i : Nat) : Int)) (.pointer (some ⟨b, off + 32 * i, none⟩)) (fun w => ix_st ea (i := i) (by omega) w) rfl rfl) <|
      oz (k_lf (.pointer (some ⟨b, off + 32 * i, none⟩)) (.agg (ab 32 (L.getD i fun _ => 0))) (fun w hw => ld_st (hL.later hw.below) ea (by omega)) rfl rfl) <|
      oz (k_mv (.inl rfl) rfl) <|
      oz (k_mv (.inl rfl) rfl) <|
      oz (k_is (.slice a2 n cap2) (.int .i64 ((i : Nat) : Int)) (.pointer (some ⟨b2, off2 + 32 * i, none⟩)) (fun w => ix_st eb (i := i) (by omega) w) rfl rfl) <|
      oz (k_lf (.pointer (some ⟨b2, off2 + 32 * i, none⟩)) (.agg (ab 32 (M.getD i fun _ => 0))) (fun w hw => ld_st (hM.later hw.below) eb (by omega)) rfl rfl) <|
      oz (k_bi (.agg (ab 32 (L.getD i fun _ => 0))) (.agg (ab 32 (M.getD i fun _ => 0))) (.bool false) (neS_f (heq i (by omega))) rfl rfl) <|
      ok_nil
    clear h; intro β a w h
    refine sym_then ?_
    refine s_cf h ?_
    refine wp_skip ?_
    refine blk_norm ?_
    refine sym_then ?_
    refine St.r0 h [(25, .inl (.int .i64 (((i + 1) : Nat) : Int))), (13, .inl (.int .i64 (((i + 1) : Nat) : Int)))] [eO] ?_ ?_
    · exact oc (k_b0 (.int .i64 ((i : Nat) : Int)) (.int .i64 ((1 : Nat) : Int)) (.int .i64 (((i + 1) : Nat) : Int)) (ad_i (m := i) (n := 1) (by omega)) rfl rfl) <|
      oz (k_mv (.inl rfl) rfl) <|
      ok_nil
    clear h; intro β a w h
    obtain ⟨x, h⟩ := St.jn (n := 26) h [0, 1, 6, 7, 8, 9, 10, 11, 12, 13] [.inl (.slice aa n cap), .inl (.slice a2 n cap2), .inl (.slice aa n cap), .inl (.int .i64 ((n : Nat) : Int)), .inl (.slice a2 n cap2), .inl (.int .i64 ((n : Nat) : Int)), .inl (.bool false), .inl (.slice aa n cap), .inl (.int .i64 ((n : Nat) : Int)), .inl (.int .i64 (((i + 1) : Nat) : Int))] [] (by kernel_rfl) (by kernel_rfl) (by kernel_rfl)
    exact ⟨hlti, x, _, h⟩
  · obtain rfl : n = i := by omega
    refine sym_seq ?_
    refine St.r0 h [(14, .inl (.bool false))] [] ?_ ?_
    · exact oz (k_bi (.int .i64 ((n : Nat) : Int)) (.int .i64 ((n : Nat) : Int)) (.bool false) (lt_i (m := ((n : Nat) : Int)) (n := ((n : Nat) : Int)) (decide_eq_false (by omega))) rfl rfl) <|
      ok_nil
    clear h; intro β a w h
    refine sym_then ?_
    refine sym_seq ?_
    refine s_cf h ?_
    refine wp_exit ?_
    refine then_exit ?_
    refine then_exit ?_
    refine blk_exit ?_
    refine sym_then ?_
    refine sym_seq ?_
    refine St.r0 h [(4, .inl (.bool true))] [] ?_ ?_
    · exact oz (k_mv (.inr rfl) rfl) <|
      ok_nil
    clear h; intro β a w h
    refine sym_then ?_
    refine wp_ret ?_
    exact s_rt h Tryd.results32 (fun hb => ⟨rfl, hb⟩)
set_option maxHeartbeats 4000000 in
theorem sums_f {aa a2 : Option Addr} {b off b2 off2 n k cap cap2 : Nat} {L M : List (Nat → Nat)} {W0 : World} (hL : SsAt W0 aa L) (hM : SsAt W0 a2 M) (lL : L.length = n) (lM : M.length = n) (hm : n ≤ 1000000) (ea : aa = some ⟨b, off, none⟩) (eb : a2 = some ⟨b2, off2, none⟩) (hk : k < n) (hdif : eqD (L.getD k fun _ => 0) (M.getD k fun _ => 0) = false) (heq : ∀ i, i < k → eqD (L.getD i fun _ => 0) (M.getD i fun _ => 0) = true) : Calls Tryd.prog 32 #[.slice aa n cap, .slice a2 n cap2] W0 fun e w' => e = .returned (.bool false) ∧ Below W0.heap.size W0 w' := by
  refine s_in Tryd.func32 Tryd.ntmps32 rfl [.inl (.slice aa n cap), .inl (.slice a2 n cap2)] ?_
  intro β a h
  refine sym_seq ?_
  refine St.r0 h [(4, .inl (.bool false))] [] ?_ ?_
  · exact oz (k_mv (.inr rfl) rfl) <|
    ok_nil
  clear h; intro β a w h
  refine sym_then ?_
  refine sym_seq ?_
  refine sym_seq ?_
  refine St.r0 h [(6, .inl (.slice aa n cap)), (7, .inl (.int .i64 ((n : Nat) : Int))), (8, .inl (.slice a2 n cap2)), (9, .inl (.int .i64 ((n : Nat) : Int))), (10, .inl (.bool false))] [] ?_ ?_
  · exact oz (k_mv (.inl rfl) rfl) <|
    oz (k_ln (ad := aa) n cap rfl rfl (fun w => len_ss _ w)) <|
    oz (k_mv (.inl rfl) rfl) <|
    oz (k_ln (ad := a2) n cap2 rfl rfl (fun w => len_ss _ w)) <|
    oz (k_bi (.int .i64 ((n : Nat) : Int)) (.int .i64 ((n : Nat) : Int)) (.bool false) (ne_i (m := ((n : Nat) : Int)) (n := ((n : Nat) : Int)) (decide_eq_false (by omega))) rfl rfl) <|
    ok_nil
  clear h; intro β a w h
  refine sym_then ?_
  refine s_cf h ?_
  refine wp_skip ?_
  refine sym_then ?_
  refine sym_seq ?_
  refine sym_seq ?_
  refine St.r0 h [(11, .inl (.slice aa n cap)), (12, .inl (.int .i64 ((n : Nat) : Int))), (13, .inl (.int .i64 ((0 : Nat) : Int)))] [] ?_ ?_
  · exact oz (k_mv (.inl rfl) rfl) <|
    oz (k_ln (ad := aa) n cap rfl rfl (fun w => len_ss _ w)) <|
    oz (k_mv (.inl rfl) rfl) <|
    ok_nil
  clear h; intro β a w h
  refine sym_then ?_
  refine blk_in ?_
  obtain ⟨x, h⟩ := St.jn (n := 26) h [0, 1, 6, 7, 8, 9, 10, 11, 12, 13] [.inl (.slice aa n cap), .inl (.slice a2 n cap2), .inl (.slice aa n cap), .inl (.int .i64 ((n : Nat) : Int)), .inl (.slice a2 n cap2), .inl (.int .i64 ((n : Nat) : Int)), .inl (.bool false), .inl (.slice aa n cap), .inl (.int .i64 ((n : Nat) : Int)), .inl (.int .i64 ((0 : Nat) : Int))] [] (by kernel_rfl) (by kernel_rfl) (by kernel_rfl)
  refine loop_up k (fun i a w => ∃ (x : Nat → SV) (β : Nat → Nat), St (wd W0) (ov (jk 26 x) ([0, 1, 6, 7, 8, 9, 10, 11, 12, 13].zip [.inl (.slice aa n cap), .inl (.slice a2 n cap2), .inl (.slice aa n cap), .inl (.int .i64 ((n : Nat) : Int)), .inl (.slice a2 n cap2), .inl (.int .i64 ((n : Nat) : Int)), .inl (.bool false), .inl (.slice aa n cap), .inl (.int .i64 ((n : Nat) : Int)), .inl (.int .i64 ((i : Nat) : Int))])) [] β a w) ⟨x, _, h⟩ ?_
  clear h; rintro i a w hki ⟨x, β, h⟩
  rcases Nat.lt_or_ge i k with hlti | hgei
  · refine sym_seq ?_
    refine St.r0 h [(14, .inl (.bool true))] [] ?_ ?_
    · exact oz (k_bi (.int .i64 ((i : Nat) : Int)) (.int .i64 ((n : Nat) : Int)) (.bool true) (lt_i (m := ((i : Nat) : Int)) (n := ((n : Nat) : Int)) (decide_eq_true (by omega))) rfl rfl) <|
      ok_nil
    clear h; intro β a w h
    refine sym_then ?_
    refine sym_seq ?_
    refine s_ct h ?_
    refine wp_skip ?_
    refine sym_then ?_
    refine sym_seq ?_
    refine blk_in ?_
    refine sym_seq ?_
    refine St.r0 h [(15, .inl (.int .i64 ((i : Nat) : Int))), (5, .inl (.int .i64 ((i : Nat) : Int)))] [] ?_ ?_
    · exact oz (k_mv (.inl rfl) rfl) <|
      oz (k_mv (.inr rfl) rfl) <|
      ok_nil
    clear h; intro β a w h
    refine sym_then ?_
    refine sym_seq ?_
    refine St.r0 h [(16, .inl (.slice aa n cap)), (17, .inl (.int .i64 ((i : Nat) : Int))), (18, .inl (.pointer (some ⟨b, off + 32 * i, none⟩))), (19, .inl (.agg (ab 32 (L.getD i fun _ => 0)))), (20, .inl (.slice a2 n cap2)), (21, .inl (.int .i64 ((i : Nat) : Int))), (22, .inl (.pointer (some ⟨b2, off2 + 32 * i, none⟩))), (23, .inl (.agg (ab 32 (M.getD i fun _ => 0)))), (24, .inl (.bool false))] [] ?_ ?_
    · exact oz (k_mv (.inl rfl) rfl) <|
      oz (k_mv (.inl rfl) rfl) <|
      oz (k_is (.slice aa n cap) (.int .i64 ((i : Nat) : Int)) (.pointer (some ⟨b, off + 32 * i, none⟩)) (fun w => ix_st ea (i := i) (by omega) w) rfl rfl) <|
      oz (k_lf (.pointer (some ⟨b, off + 32 * i, none⟩)) (.agg (ab 32 (L.getD i fun _ => 0))) (fun w hw => ld_st (hL.later hw.below) ea (by omega)) rfl rfl) <|
      oz (k_mv (.inl rfl) rfl) <|
      oz (k_mv (.inl rfl) rfl) <|
      oz (k_is (.slice a2 n cap2) (.int .i64 ((i : Nat) : Int)) (.pointer (some ⟨b2, off2 + 32 * i, none⟩)) (fun w => ix_st eb (i := i) (by omega) w) rfl rfl) <|
      oz (k_lf (.pointer (some ⟨b2, off2 + 32 * i, none⟩)) (.agg (ab 32 (M.getD i fun _ => 0))) (fun w hw => ld_st (hM.later hw.below) eb (by omega)) rfl rfl) <|
      oz (k_bi (.agg (ab 32 (L.getD i fun _ => 0))) (.agg (ab 32 (M.getD i fun _ => 0))) (.bool false) (neS_f (heq i (by omega))) rfl rfl) <|
      ok_nil
    clear h; intro β a w h
    refine sym_then ?_
    refine s_cf h ?_
    refine wp_skip ?_
    refine blk_norm ?_
    refine sym_then ?_
    refine St.r0 h [(25, .inl (.int .i64 (((i + 1) : Nat) : Int))), (13, .inl (.int .i64 (((i + 1) : Nat) : Int)))] [eO] ?_ ?_
    · exact oc (k_b0 (.int .i64 ((i : Nat) : Int)) (.int .i64 ((1 : Nat) : Int)) (.int .i64 (((i + 1) : Nat) : Int)) (ad_i (m := i) (n := 1) (by omega)) rfl rfl) <|
      oz (k_mv (.inl rfl) rfl) <|
      ok_nil
    clear h; intro β a w h
    obtain ⟨x, h⟩ := St.jn (n := 26) h [0, 1, 6, 7, 8, 9, 10, 11, 12, 13] [.inl (.slice aa n cap), .inl (.slice a2 n cap2), .inl (.slice aa n cap), .inl (.int .i64 ((n : Nat) : Int)), .inl (.slice a2 n cap2), .inl (.int .i64 ((n : Nat) : Int)), .inl (.bool false), .inl (.slice aa n cap), .inl (.int .i64 ((n : Nat) : Int)), .inl (.int .i64 (((i + 1) : Nat) : Int))] [] (by kernel_rfl) (by kernel_rfl) (by kernel_rfl)
    exact ⟨hlti, x, _, h⟩
  · obtain rfl : k = i := by omega
    refine sym_seq ?_
    refine St.r0 h [(14, .inl (.bool true))] [] ?_ ?_
    · exact oz (k_bi (.int .i64 ((k : Nat) : Int)) (.int .i64 ((n : Nat) : Int)) (.bool true) (lt_i (m := ((k : Nat) : Int)) (n := ((n : Nat) : Int)) (decide_eq_true (by omega))) rfl rfl) <|
      ok_nil
    clear h; intro β a w h
    refine sym_then ?_
    refine sym_seq ?_
    refine s_ct h ?_
    refine wp_skip ?_
    refine sym_then ?_
    refine sym_seq ?_
    refine blk_in ?_
    refine sym_seq ?_
    refine St.r0 h [(15, .inl (.int .i64 ((k : Nat) : Int))), (5, .inl (.int .i64 ((k : Nat) : Int)))] [] ?_ ?_
    · exact oz (k_mv (.inl rfl) rfl) <|
      oz (k_mv (.inr rfl) rfl) <|
      ok_nil
    clear h; intro β a w h
    refine sym_then ?_
    refine sym_seq ?_
    refine St.r0 h [(16, .inl (.slice aa n cap)), (17, .inl (.int .i64 ((k : Nat) : Int))), (18, .inl (.pointer (some ⟨b, off + 32 * k, none⟩))), (19, .inl (.agg (ab 32 (L.getD k fun _ => 0)))), (20, .inl (.slice a2 n cap2)), (21, .inl (.int .i64 ((k : Nat) : Int))), (22, .inl (.pointer (some ⟨b2, off2 + 32 * k, none⟩))), (23, .inl (.agg (ab 32 (M.getD k fun _ => 0)))), (24, .inl (.bool true))] [] ?_ ?_
    · exact oz (k_mv (.inl rfl) rfl) <|
      oz (k_mv (.inl rfl) rfl) <|
      oz (k_is (.slice aa n cap) (.int .i64 ((k : Nat) : Int)) (.pointer (some ⟨b, off + 32 * k, none⟩)) (fun w => ix_st ea (i := k) (by omega) w) rfl rfl) <|
      oz (k_lf (.pointer (some ⟨b, off + 32 * k, none⟩)) (.agg (ab 32 (L.getD k fun _ => 0))) (fun w hw => ld_st (hL.later hw.below) ea (by omega)) rfl rfl) <|
      oz (k_mv (.inl rfl) rfl) <|
      oz (k_mv (.inl rfl) rfl) <|
      oz (k_is (.slice a2 n cap2) (.int .i64 ((k : Nat) : Int)) (.pointer (some ⟨b2, off2 + 32 * k, none⟩)) (fun w => ix_st eb (i := k) (by omega) w) rfl rfl) <|
      oz (k_lf (.pointer (some ⟨b2, off2 + 32 * k, none⟩)) (.agg (ab 32 (M.getD k fun _ => 0))) (fun w hw => ld_st (hM.later hw.below) eb (by omega)) rfl rfl) <|
      oz (k_bi (.agg (ab 32 (L.getD k fun _ => 0))) (.agg (ab 32 (M.getD k fun _ => 0))) (.bool true) (neS_t hdif) rfl rfl) <|
      ok_nil
    clear h; intro β a w h
    refine sym_then ?_
    refine s_ct h ?_
    refine sym_seq ?_
    refine St.r0 h [(4, .inl (.bool false))] [] ?_ ?_
    · exact oz (k_mv (.inr rfl) rfl) <|
      ok_nil
    clear h; intro β a w h
    refine sym_then ?_
    refine wp_ret ?_
    refine blk_ret ?_
    refine then_ret ?_
    refine then_ret ?_
    refine blk_ret ?_
    refine then_ret ?_
    exact s_rt h Tryd.results32 (fun hb => ⟨rfl, hb⟩)
theorem sums_d {aa a2 : Option Addr} {n m cap cap2 : Nat} {L M : List (Nat → Nat)} {W0 : World} (hL : SsAt W0 aa L) (hM : SsAt W0 a2 M) (lL : L.length = n) (lM : M.length = m) (hm : n ≤ 1000000) : Calls Tryd.prog 32 #[.slice aa n cap, .slice a2 m cap2] W0 fun e w' => e = .returned (.bool (eqLs L M)) ∧ Below W0.heap.size W0 w' := by
  by_cases hne : n = m
  · subst hne
    rcases Nat.eq_zero_or_pos n with h0 | h0
    · subst h0
      obtain rfl := List.eq_nil_of_length_eq_zero lL
      obtain rfl := List.eq_nil_of_length_eq_zero lM
      exact sums_z
    · obtain ⟨b, off, ea, _⟩ := hL.2 (by omega)
      obtain ⟨b2, off2, eb, _⟩ := hM.2 (by omega)
      rcases eqLs_cases (L := L) (M := M) (by omega) with ⟨h1, h2⟩ | ⟨h1, k, hk, h2, h3⟩
      · rw [h1]; exact sums_t hL hM lL lM hm ea eb (fun i hi => h2 i (by omega))
      · rw [h1]; exact sums_f hL hM lL lM hm ea eb (by omega) h2 h3
  · rw [eqLs_len (by omega)]
    exact sums_n hne
end Go.Proofs.YtgnmnoadfjdjdaaDoor

namespace Go.Proofs.YtgnmnoadfjdjdaaDoor
open Go.RowKit Go.Maps Sh

/-- The cells of a row of digests. -/
def ssv (L : List (Nat → Nat)) : List Value := L.flatMap fun F => (List.range 32).map fun j => Value.int .u8 ((F j : Nat) : Int)
theorem ssv_len : ∀ L : List (Nat → Nat), (ssv L).length = L.length * 32
  | [] => rfl
  | F :: r => by
    show ((List.range 32).map _ ++ ssv r).length = _
    rw [List.length_append, ssv_len r, List.length_map, List.length_range, List.length_cons]; omega
theorem ssv_get : ∀ (L : List (Nat → Nat)) (i j : Nat) (h : i < L.length), j < 32 → (ssv L)[32 * i + j]? = some (.int .u8 ((L[i] j : Nat) : Int))
  | F :: r, 0, j, h, hj => by
    show ((List.range 32).map _ ++ ssv r)[32 * 0 + j]? = _
    rw [List.getElem?_append_left (by simp; omega), List.getElem?_map, show 32 * 0 + j = j by omega, List.getElem?_range hj]; rfl
  | F :: r, i + 1, j, h, hj => by
    show ((List.range 32).map _ ++ ssv r)[32 * (i + 1) + j]? = _
    rw [List.getElem?_append_right (by simp; omega), List.length_map, List.length_range, show 32 * (i + 1) + j - 32 = 32 * i + j by omega, ssv_get r i j (by simpa using h) hj]; rfl
theorem ssv_one (L : List (Nat → Nat)) : ∀ v ∈ ssv L, v.oneCell' = true := by
  intro v hv
  obtain ⟨F, _, hv⟩ := List.mem_flatMap.1 hv
  obtain ⟨j, _, rfl⟩ := List.mem_map.1 hv
  rfl
theorem info_sum : (Tryd.prog.info? 34).map (fun i => (i.zero, i.size, i.bytes)) = some (some (.agg (ab 32 fun _ => 0)), 32, 32) := by kernel_rfl
/-- An owned row of digests reads so. -/
theorem ss_own {w : World} {base : Nat} {v : Value} {n : Nat} {L : List (Nat → Nat)} (hL : ∀ F ∈ L, ∀ j, F j < 256) (hn : L.length = n) (h : w.ownsRow base 34 32 v n (ssv L)) : ∃ a cap, v = .slice a n cap ∧ SsAt w a L ∧ n ≤ cap := by
  rcases h.2 with ⟨rfl, rfl⟩ | ⟨g, cap, cur, rfl, hb, hg, hnc, hcm, hcs, ht⟩
  · exact ⟨none, 0, rfl, ⟨hL, fun h => absurd h (by omega)⟩, Nat.le_refl _⟩
  · refine ⟨_, cap, rfl, ⟨hL, fun _ => ⟨g, 0, rfl, fun i hi j hj => ?_⟩⟩, hnc⟩
    have h1 := ssv_get L i j hi hj
    rw [← ht, List.getElem?_take] at h1
    rw [cell_of_row _ _ _ _ _ _ hg, Nat.zero_add, ← Array.getElem?_toList]
    split at h1
    · exact h1
    · cases h1
/-- Digests are put behind a row of the call's own. -/
theorem run_append_ss (w : World) (base ty : Nat) (v : Value) (n : Nat) (xs : List Value) (hown : w.ownsRow base 34 32 v n xs) (a : Option Addr) (m c : Nat) (L : List (Nat → Nat)) (hb : SsAt w a L) (hm : L.length = m)
    (hbytes : n + m ≤ 1000000) (hbase : base ≤ w.heap.size) :
    ∃ v' w', (Builtin.append_ #[22, 22] ty #[v, .slice a m c]).run Tryd.prog w = .ok v' w' ∧ w'.ownsRow base 34 32 v' (n + m) (xs ++ ssv L) ∧ w.grownBy w' v.ownBlock := by
  obtain ⟨i0, hi, hz0, hz1, hz2⟩ := info_parts info_sum
  obtain ⟨h2, h3⟩ := hb
  cases a with
  | none =>
    obtain rfl : m = 0 := by
      rcases Nat.eq_zero_or_pos m with h | h
      · exact h
      · obtain ⟨_, _, e, _⟩ := h3 (by omega); cases e
    obtain rfl := List.eq_nil_of_length_eq_zero hm
    refine ⟨v, w, ?_, by simpa [ssv] using hown, ⟨rfl, rfl, rfl, Nat.le_refl _, fun _ _ _ => rfl⟩⟩
    rcases hown.2 with ⟨rfl, rfl⟩ | ⟨g, cap, cur, rfl, _, _, hnc, _⟩
    · simp [Builtin.append_, run_underlying Tryd.underlying22, sizeOf, typeInfo, hi, Builtin.lenOf, Builtin.firstCells]
    · simp [Builtin.append_, run_underlying Tryd.underlying22, sizeOf, typeInfo, hi, Builtin.lenOf, Builtin.firstCells, hnc, storeCells]
  | some ad =>
    have hnews : ∀ j u, (ssv L)[j]? = some u → w.cell? (ad.add j) = some u := by
      intro j u hj
      have hjl : j < m * 32 := by have := (List.getElem?_eq_some_iff.1 hj).1; rwa [ssv_len, hm] at this
      obtain ⟨b, off, e, hc⟩ := h3 (by omega)
      cases e
      have h4 := hc (j / 32) (by omega) (j % 32) (by omega)
      have h5 := ssv_get L (j / 32) (j % 32) (by omega) (by omega)
      rw [show 32 * (j / 32) + j % 32 = j by omega] at h5
      rw [show off + 32 * (j / 32) + j % 32 = off + j by omega] at h4
      rw [Addr.add_lit, h4, ← h5, hj]
    obtain ⟨v', w', hr, h4, h5, _, h6⟩ := run_append_own_at (P := Tryd.prog) w base 22 ty 34 i0 _ 32 32 Tryd.underlying22 hi hz0 hz1 hz2 (ab_size _ _) (by decide) v n xs hown ad m c (ssv L) (by rw [ssv_len, hm]) hnews
      (ssv_one L) (by unfold maxLen; omega) (by omega) hbase
    exact ⟨v', w', hr, h4, h5⟩
theorem wpList_append_ss {w : World} {ops : Array Oper} {rest : List Oper} {o : Oper} {a : Act} {Q : Exit → Act → World → Prop} (hgd : o.guard = none) (s x : Operand)
    (ho : o.op = .call { callee := .builtin .append, args := #[s, x], argTypes := #[22, 22] }) (base : Nat)
    (v : Value) (n : Nat) (xs : List Value) (hs : a.eval s = v) (hown : w.ownsRow base 34 32 v n xs) (ad : Option Addr) (m c : Nat) (L : List (Nat → Nat)) (hx : a.eval x = .slice ad m c) (hb : SsAt w ad L) (hm : L.length = m)
    (hbytes : n + m ≤ 1000000) (hbase : base ≤ w.heap.size)
    (h : ∀ v' w', w'.ownsRow base 34 32 v' (n + m) (xs ++ ssv L) → w.grownBy w' v.ownBlock → wpList Tryd.prog ops Q rest (a.put o.dst v') w') : wpList Tryd.prog ops Q (o :: rest) a w := by
  refine wpList_plain hgd fun K hK => ?_
  obtain ⟨v', w', hr, h2, h3⟩ := run_append_ss w base o.type v n xs hown ad m c L hb hm hbytes hbase
  unfold Oper.wp execOp
  simp only [ho, resolve, invoke, builtin, Sem.run_bind, Sem.run_pure, Result.andThen_ok, List.map_toArray, List.map_cons, List.map_nil, hs, hx, hr]
  exact hK _ _ (h v' w' h2 h3)
end Go.Proofs.YtgnmnoadfjdjdaaDoor

namespace Go.Proofs.YtgnmnoadfjdjdaaDoor
open Go.RowKit Go.Shelf Sh

/-- The part of a row from f to e - 1. -/
def part (L : List (Nat → Nat)) (f e : Nat) : List (Nat → Nat) := (L.take e).drop f
/-- The digest of the part that a cut leaves aside. -/
def asd (L : List (Nat → Nat)) (c : Cu) : Nat → Nat := root (if c.r then part L c.f c.a else part L c.a c.e)
theorem part_len {L : List (Nat → Nat)} {f e : Nat} (h : e ≤ L.length) : (part L f e).length = e - f := by unfold part; rw [List.length_drop, List.length_take]; omega
theorem SsAt.part {w : World} {b off f e : Nat} {L : List (Nat → Nat)} (h : SsAt w (some ⟨b, off, none⟩) L) : SsAt w (some ⟨b, off + 32 * f, none⟩) (part L f e) := h.lo.hi
theorem sl_lh {b off n cap f e : Nat} (hf : f < e) (he : e ≤ n) (hc : n ≤ cap) (w : World) : (Instr.sliceAt 22 (.slice (some ⟨b, off, none⟩) n cap) (some (.int .i64 ((f : Nat) : Int))) (some (.int .i64 ((e : Nat) : Int))) none).run Tryd.prog w = .ok (.slice (some ⟨b, off + 32 * f, none⟩) (e - f) (cap - f)) w := by
  have h1 : (f : Int) ≤ (e : Int) := by omega
  have h2 : (e : Int) ≤ (cap : Int) := by omega
  have h3 : ¬ cap = f := by omega
  simp [Instr.sliceAt, go_sem, h1, h2, h3, Nat.mul_comm]
/-- The digests of the parts left aside, upward. -/
def asl (L : List (Nat → Nat)) (xs : List Cu) : List (Nat → Nat) := xs.reverse.map (asd L)
theorem asl_take (L : List (Nat → Nat)) (xs : List Cu) : (xs.reverse.take xs.length).map (asd L) = asl L xs := by rw [List.take_of_length_le (by simp)]; rfl
theorem own_later {w w' : World} {base e size n : Nat} {v : Value} {xs : List Value} (h : w.ownsRow base e size v n xs) (hb : Below w.heap.size w w') : w'.ownsRow base e size v n xs := by
  refine h.kept (row := none) ⟨hb.os, hb.tape, hb.output, hb.size, fun j hj _ => hb.block j hj⟩ ?_
  rcases h.2 with ⟨rfl, _⟩ | ⟨g, cap, cur, rfl, _⟩
  · exact .inl rfl
  · exact .inr (by simp [Value.ownBlock])
theorem own_below {w w1 : World} {base e size n : Nat} {v : Value} {xs : List Value} (h : w.ownsRow base e size v n xs) (hn : base ≤ w.heap.size) (hg : w.grownBy w1 v.ownBlock) : Below base w w1 :=
  (Below.refl _ w).grown hg hn (fun k ek => by
    rcases h.2 with ⟨rfl, _⟩ | ⟨g, cap, cur, rfl, hb, _⟩
    · simp [Value.ownBlock] at ek
    · obtain rfl : g = k := by simpa [Value.ownBlock] using ek
      exact hb)
/-- Which cuts lie within a row of n. -/
def CuOk (n : Nat) (c : Cu) : Prop := c.f < c.a ∧ c.a < c.e ∧ c.e ≤ n
theorem wayN_ok {n : Nat} : ∀ q i f e, e ≤ n → ∀ c ∈ wayN q i f e, CuOk n c
  | 0, _, _, _, _, c, h => by simp [wayN] at h
  | q + 1, i, f, e, he, c, h => by
    rcases Nat.lt_or_ge (f + 1) e with hlt | hge
    · rw [wayN_s hlt] at h
      have hcu := cut_in (n := e - f) (by omega)
      rcases List.mem_cons.1 h with rfl | h
      · exact ⟨by show f < f + _; omega, by show f + _ < e; omega, he⟩
      · split at h
        · exact wayN_ok q i _ e he c h
        · exact wayN_ok q i f _ (by omega) c h
    · rw [wayN_0 hge] at h; cases h
theorem way_ok (i n : Nat) : ∀ c ∈ way i n, CuOk n c := wayN_ok n i 0 n (Nat.le_refl _)
theorem ahead_ok (m n : Nat) : ∀ c ∈ aheadL m n, CuOk n c := fun c h => way_ok _ n c ((List.takeWhile_prefix _).subset h)
theorem ssv_app (A B : List (Nat → Nat)) : ssv (A ++ B) = ssv A ++ ssv B := by simp [ssv]
theorem blw {w w1 w2 : World} (h : Below w.heap.size w w1) (k : Below w1.heap.size w1 w2) : Below w.heap.size w w2 := h.trans (k.mono h.size)
theorem bs_sum (R : Nat → Nat) (w : World) : (Instr.buildSlice 22 1 #[(0, .agg (ab 32 R))]).run Tryd.prog w = .ok (.slice (some ⟨w.heap.size, 0, none⟩) 1 1) (w.alloc (.cells (ab 32 R) 34)) := by kernel_rfl
theorem wpList_bs_sum {w : World} {ops : Array Oper} {rest : List Oper} {o : Oper} {a : Act} {Q : Exit → Act → World → Prop} (hgd : o.guard = none) (x : Operand) (ho : o.op = .buildSlice 22 1 #[(0, x)]) {R : Nat → Nat} (hx : a.eval x = .agg (ab 32 R))
    (h : wpList Tryd.prog ops Q rest (a.put o.dst (.slice (some ⟨w.heap.size, 0, none⟩) 1 1)) (w.alloc (.cells (ab 32 R) 34))) : wpList Tryd.prog ops Q (o :: rest) a w := by
  refine wpList_plain hgd fun K hK => ?_
  unfold Oper.wp execOp
  simp only [ho, List.map_toArray, List.map_cons, List.map_nil, hx, Sem.run_bind, bs_sum R w, Result.andThen_ok, Sem.run_pure]
  exact hK _ _ h
theorem ss_new {w : World} {R : Nat → Nat} (hR : ∀ i, R i < 256) : SsAt (w.alloc (.cells (ab 32 R) 34)) (some ⟨w.heap.size, 0, none⟩) [R] :=
  ⟨fun F h j => by rw [List.mem_singleton.1 h]; exact hR j, fun _ => ⟨_, 0, rfl, fun i h j hj => by
    obtain rfl : i = 0 := by simpa using h
    rw [cell_of_row _ _ _ _ _ _ (World.alloc_heap_new w _), show 0 + 32 * 0 + j = j by omega]
    exact arr_get _ _ _ hj⟩⟩
set_option maxHeartbeats 4000000 in
set_option maxRecDepth 100000 in
theorem asides_d {gf : Nat} {lb : Array Value} {xs : List Cu} {P : Nat → Prop} {w : World} (eg : ∀ args w, (callFunc gf args).run Tryd.prog w = .ok (.enter gf args) w) (hs : SeqX gf lb xs P w) (hP : ∀ j, P j → j < w.heap.size) (hx : xs.length ≤ 1000000)
    (hg : Gl w) {b off n cap : Nat} {L : List (Nat → Nat)} (hL : L.length = n) (hn : n ≤ 1000000) (hcap : n ≤ cap) (hS : SsAt w (some ⟨b, off, none⟩) L) (hok : ∀ c ∈ xs, CuOk n c) :
    Calls Tryd.prog 34 #[.func (.func gf) #[] lb, .slice (some ⟨b, off, none⟩) n cap] w fun e W' => ∃ v, e = .returned v ∧ W'.ownsRow w.heap.size 34 32 v xs.length (ssv (asl L xs)) ∧ Below w.heap.size w W' := by
  have hu := upward_d eg hs hP (by omega)
  go_enter Tryd.func34, Tryd.ntmps34
  go_wp2_with fail
  refine hu.mono ?_
  rintro e w1 ⟨a, cp, rfl, hcp, hcs, -, hb1⟩
  clear hu hs eg
  go_wp2_with fail
  go_loopw [5, 11] (fun v i wr => ∃ k : Nat, i = .int .i64 ((k : Nat) : Int) ∧ k ≤ xs.length ∧ wr.ownsRow w.heap.size 34 32 v k (ssv ((xs.reverse.take k).map (asd L))) ∧ Below w.heap.size w wr ∧ CsAt wr a xs.reverse) (fun _ i _ => xs.length - (intOf i).toNat)
  case atStart => exact ⟨0, rfl, Nat.zero_le _, World.ownsRow_nil _ _ _ _, hb1, hcs⟩
  case round =>
    obtain ⟨k, rfl, hk, hrow, hb, hc⟩ := hrel
    by_cases hlt : k < xs.length
    · have hlt' : (k : Int) < (xs.length : Int) := by omega
      have hkr : k < xs.reverse.length := by rw [List.length_reverse]; exact hlt
      obtain ⟨b2, _, rfl, _, _⟩ := hc (by omega)
      obtain ⟨k0, k1, k2, k3⟩ := hc.cell hkr
      have hokc := hok xs.reverse[k] (List.mem_reverse.1 (List.getElem_mem _))
      have hst : Hid ((xs.reverse.take (k + 1)).map (asd L) = (xs.reverse.take k).map (asd L) ++ [asd L xs.reverse[k]]) := hide1 (by
        rw [List.take_succ_eq_append_getElem hkr, List.map_append]; rfl)
      have hal : ∀ o, Below wr.heap.size wr (wr.alloc o) := fun o => (Below.refl _ _).alloc (Nat.le_refl _) _
      generalize xs.reverse[k] = c at *
      obtain ⟨cf, ca, ce, cr⟩ := c
      obtain ⟨ho1, ho2, ho3⟩ := hokc
      dsimp only at ho1 ho2 ho3 k0 k1 k2 k3
      clear hcs
      cases cr with
      | true =>
        have hr := fun w2 (hb2 : Below wr.heap.size wr w2) => root_d (ca - cf) (part L cf ca) (some ⟨b, off + 32 * cf, none⟩) (cap - cf) w2 (part_len (by omega)) (by omega) (gl_b hg (blw hb hb2)) (hS.part.later (blw hb hb2)) (by omega)
        obtain ⟨R, hR⟩ : ∃ R, Hid (R = root (part L cf ca)) := ⟨_, hide1 rfl⟩
        have hRl : ∀ i, R i < 256 := by rw [hR.out]; exact root_lt _ _ rfl (fun F hF => hS.1 F (List.mem_of_mem_take (List.mem_of_mem_drop hF)))
        rw [← hR.out, Nat.mul_comm 32 cf] at hr
        go_wp2_with fail
        refine (hr _ (hal _)).mono ?_
        rintro e w2 ⟨rfl, hb2⟩
        have hw3 : Below wr.heap.size wr (w2.alloc (.cells (ab 32 R) 34)) := blw (hal _) (hb2.alloc hb2.size _)
        have hrow3 := own_later hrow hw3
        have hz3 : w.heap.size ≤ (w2.alloc (.cells (ab 32 R) 34)).heap.size := Nat.le_trans hb.size hw3.size
        have hss := ss_new (w := w2) hRl
        have hc3 := hc.later hw3
        have hb3 := blw hb hw3
        clear hr hb2 hw3 hrow hal
        go_wp2_with (first
          | (refine wpList_bs_sum rfl (.tmp 24) rfl rfl ?_)
          | (at_builtin
             refine wpList_append_ss rfl (.tmp 17) (.tmp 25) rfl w.heap.size _ k _ rfl hrow3 (some ⟨w2.heap.size, 0, none⟩) 1 1 [R] rfl hss rfl (by omega) hz3 ?_
             intro v' w4 hown' hgrow
             have hb4 : Below w.heap.size w w4 := hb3.trans (own_below hrow3 hz3 hgrow)
             have hc4 := hc3.turned hrow3 (by decide) hgrow
             clear hgrow hrow3 hss hc3 hb3 hz3))
        go_roundw
        case rel => exact ⟨k + 1, rfl, by omega, by rw [hst.out, ssv_app]; rw [hR.out] at hown'; exact hown', hb4, hc4⟩
        case measure => simp [intOf]; omega
      | false =>
        have hr := fun w2 (hb2 : Below wr.heap.size wr w2) => root_d (ce - ca) (part L ca ce) (some ⟨b, off + 32 * ca, none⟩) (cap - ca) w2 (part_len (by omega)) (by omega) (gl_b hg (blw hb hb2)) (hS.part.later (blw hb hb2)) (by omega)
        obtain ⟨R, hR⟩ : ∃ R, Hid (R = root (part L ca ce)) := ⟨_, hide1 rfl⟩
        have hRl : ∀ i, R i < 256 := by rw [hR.out]; exact root_lt _ _ rfl (fun F hF => hS.1 F (List.mem_of_mem_take (List.mem_of_mem_drop hF)))
        rw [← hR.out, Nat.mul_comm 32 ca] at hr
        go_wp2_with fail
        refine (hr _ (hal _)).mono ?_
        rintro e w2 ⟨rfl, hb2⟩
        have hw3 : Below wr.heap.size wr (w2.alloc (.cells (ab 32 R) 34)) := blw (hal _) (hb2.alloc hb2.size _)
        have hrow3 := own_later hrow hw3
        have hz3 : w.heap.size ≤ (w2.alloc (.cells (ab 32 R) 34)).heap.size := Nat.le_trans hb.size hw3.size
        have hss := ss_new (w := w2) hRl
        have hc3 := hc.later hw3
        have hb3 := blw hb hw3
        clear hr hb2 hw3 hrow hal
        go_wp2_with (first
          | (refine wpList_bs_sum rfl (.tmp 34) rfl rfl ?_)
          | (at_builtin
             refine wpList_append_ss rfl (.tmp 27) (.tmp 35) rfl w.heap.size _ k _ rfl hrow3 (some ⟨w2.heap.size, 0, none⟩) 1 1 [R] rfl hss rfl (by omega) hz3 ?_
             intro v' w4 hown' hgrow
             have hb4 : Below w.heap.size w w4 := hb3.trans (own_below hrow3 hz3 hgrow)
             have hc4 := hc3.turned hrow3 (by decide) hgrow
             clear hgrow hrow3 hss hc3 hb3 hz3))
        go_roundw
        case rel => exact ⟨k + 1, rfl, by omega, by rw [hst.out, ssv_app]; rw [hR.out] at hown'; exact hown', hb4, hc4⟩
        case measure => simp [intOf]; omega
    · have hlt' : ¬ (k : Int) < (xs.length : Int) := by omega
      obtain rfl : k = xs.length := by omega
      rw [asl_take] at hrow
      go_wp2
      go_ret
      exact ⟨_, rfl, hrow, hb⟩
end Go.Proofs.YtgnmnoadfjdjdaaDoor

namespace Go.Proofs.YtgnmnoadfjdjdaaDoor
open Go.RowKit Go.Shelf Sh

theorem cuts_two {w : World} (i n : Nat) : Bx ((w.alloc (.cells #[.int .i64 ((i : Nat) : Int)] 3)).alloc (.cells #[.int .i64 ((n : Nat) : Int)] 3)) w.heap.size 3 (.int .i64 ((i : Nat) : Int)) ∧ Bx ((w.alloc (.cells #[.int .i64 ((i : Nat) : Int)] 3)).alloc (.cells #[.int .i64 ((n : Nat) : Int)] 3)) (w.heap.size + 1) 3 (.int .i64 ((n : Nat) : Int)) ∧ Below w.heap.size w ((w.alloc (.cells #[.int .i64 ((i : Nat) : Int)] 3)).alloc (.cells #[.int .i64 ((n : Nat) : Int)] 3)) ∧ ((w.alloc (.cells #[.int .i64 ((i : Nat) : Int)] 3)).alloc (.cells #[.int .i64 ((n : Nat) : Int)] 3)).heap.size = w.heap.size + 2 := by
  refine ⟨(Bx.new _ _ _).alloc _, ?_, ((Below.refl _ _).alloc (Nat.le_refl _) _).alloc (by simp) _, by simp⟩
  have := Bx.new (w.alloc (.cells #[.int .i64 ((i : Nat) : Int)] 3)) 3 (.int .i64 ((n : Nat) : Int))
  rwa [World.size_alloc] at this
theorem own_weak {w : World} {base base' : Nat} {e : TypeId} {size : Nat} {v : Value} {n : Nat} {xs : List Value} (h : w.ownsRow base' e size v n xs) (hb : base ≤ base') : w.ownsRow base e size v n xs := by
  refine ⟨h.1, ?_⟩
  rcases h.2 with h2 | ⟨g, cap, cur, h1, h2, h3⟩
  · exact .inl h2
  · exact .inr ⟨g, cap, cur, h1, Nat.le_trans hb h2, h3⟩
/-- An error's value. -/
def ev (k : Int) : Value := .iface 29 (.int .i64 k)
set_option maxHeartbeats 4000000 in
theorem path_bad {a : Option Addr} {n cap : Nat} {i : Int} {w : World} (h : i < 0 ∨ (n : Int) ≤ i) : Calls Tryd.prog 19 #[.slice a n cap, .int .i64 i] w fun e W' => e = .returned (.tuple #[.slice none 0 0, ev 2]) ∧ W' = w := by
  by_cases h0 : i < 0
  · go_enter Tryd.func19, Tryd.ntmps19
    go_wp2
    go_ret2
    exact ⟨rfl, rfl⟩
  · have h1 : (n : Int) ≤ i := by omega
    go_enter Tryd.func19, Tryd.ntmps19
    go_wp2
    go_ret2
    exact ⟨rfl, rfl⟩
set_option maxHeartbeats 4000000 in
theorem path_d {a : Option Addr} {n cap i : Nat} {L : List (Nat → Nat)} {w : World} (hg : Gl w) (hi : i < n) (hL : L.length = n) (hn : n ≤ 1000000) (hcap : n ≤ cap) (hS : SsAt w a L) :
    Calls Tryd.prog 19 #[.slice a n cap, .int .i64 ((i : Nat) : Int)] w fun e W' => ∃ v, e = .returned (.tuple #[v, .nilIface]) ∧ W'.ownsRow w.heap.size 34 32 v (way i n).length (ssv (asl L (way i n))) ∧ Below w.heap.size w W' := by
  obtain ⟨b, off, rfl, _⟩ := hS.2 (by omega)
  have h0 : ¬ (i : Int) < 0 := by omega
  have h1 : ¬ (n : Int) ≤ (i : Int) := by omega
  obtain ⟨q1, q2, q3, q4⟩ := cuts_two (w := w) i n
  have hx := way_le i n
  have ha := asides_d (gf := 70) (enters_of Tryd.func70 (by kernel_rfl) rfl) (cuts_seq (by omega) q1 q2) (fun j hj => by rcases hj with rfl | rfl <;> omega) (by omega) (gl_b hg q3) hL hn hcap (hS.later q3) (way_ok i n)
  have hz := q3.size
  clear q1 q2 q4
  go_enter Tryd.func19, Tryd.ntmps19
  go_wp2_with fail
  refine (cuts_d _ _ _).mono ?_
  rintro e w' ⟨rfl, rfl⟩
  go_wp2_with fail
  refine ha.mono ?_
  rintro e w1 ⟨v, rfl, ho, hb⟩
  go_wp2
  go_ret2
  exact ⟨v, rfl, own_weak ho hz, blw q3 hb⟩
end Go.Proofs.YtgnmnoadfjdjdaaDoor

namespace Go.Proofs.YtgnmnoadfjdjdaaDoor
open Go.RowKit Go.Shelf Sh

/-- What a leaf's digest comes to, put together with the digests ps by the cuts cs. -/
def comeL : List Cu → List (Nat → Nat) → (Nat → Nat) → (Nat → Nat)
  | c :: cs, p :: ps, F => comeL cs ps (jn c.r F p)
  | _, _, F => F
theorem comeL_snoc : ∀ (cs : List Cu) (ps : List (Nat → Nat)) (F : Nat → Nat) (c : Cu) (p : Nat → Nat), cs.length = ps.length → comeL (cs ++ [c]) (ps ++ [p]) F = jn c.r (comeL cs ps F) p
  | [], [], F, c, p, _ => rfl
  | c' :: cs, p' :: ps, F, c, p, h => comeL_snoc cs ps _ c p (by simpa using h)
  | [], _ :: _, _, _, _, h => by simp at h
  | _ :: _, [], _, _, _, h => by simp at h
theorem comeL_lt {F : Nat → Nat} (hF : ∀ i, F i < 256) : ∀ (cs : List Cu) (ps : List (Nat → Nat)), ∀ i, comeL cs ps F i < 256 := by
  intro cs
  induction cs generalizing F with
  | nil => intro ps; cases ps <;> exact hF
  | cons c cs ih =>
    intro ps
    cases ps with
    | nil => exact hF
    | cons p ps => exact ih (jn_lt _ _ _) ps
theorem sum_zero (w : World) : (Instr.build 34 #[]).run Tryd.prog w = .ok (.agg (ab 32 fun _ => 0)) w := by kernel_rfl
/-- The engine: what a call has laid is counted to what is kept. -/
structure Bsd (W V : Wd) : Prop where
  kw : ∀ v, KW V v → KW W v
  sub : ∀ k, W.S k → V.S k
  pn : V.pn = W.pn
theorem St.unb {W V : Wd} {s : List SV} {m : List Blk} {β : Nat → Nat} {a : Act} {w : World} (h : St V s m β a w) (hk : Bsd W V) : St W s m β a w :=
  ⟨h.tm, hk.kw _ h.bel, h.row, fun b hb hs => h.old b hb (hk.sub _ hs), h.inj, h.live, fun b q e => h.pin b q (by rw [hk.pn]; exact e)⟩
theorem St.lt {W : Wd} {s : List SV} {m : List Blk} {β : Nat → Nat} {a : Act} {w : World} (h : St W s m β a w) {b : Nat} (hb : b < m.length) : β b < w.heap.size := by
  obtain ⟨x, hx⟩ : ∃ x, m[b]? = some x := ⟨_, List.getElem?_eq_getElem hb⟩
  exact (Array.getElem?_eq_some_iff.1 (h.row b x hx)).1
theorem go_base {W : Wd} {s : List SV} {m : List Blk} {β : Nat → Nat} {a : Act} {w : World} {Q : Exit → Act → World → Prop} (h : St W s m β a w) (s' : List SV) {a' : Act} {w' : World} (hb : Below w.heap.size w w')
    (hk : ∀ (V : Wd) (a : Act) (n : Nat), w.heap.size = n → Bsd W V → (∀ v, KW V v → ∀ j, n ≤ j → j < w'.heap.size → v.heap[j]? = w'.heap[j]?) → St V s' m β a w' → Q .normal a w') (ha : a' = { tmps := (s'.map (den β)).toArray, defers := [] }) (hl : liveB s' m.length = true := by kernel_rfl) : Q .normal a' w' := by
  have hlt := fun b (hb : b < m.length) => h.lt hb
  refine hk ⟨w', fun k => k < w'.heap.size ∧ ∀ b, b < m.length → β b ≠ k, fun _ h => h.1, W.pn⟩ a' _ rfl ⟨fun v hv => ?_, fun k hk => ⟨Nat.lt_of_lt_of_le (W.lt k hk) (Nat.le_trans h.bel.size hb.size), fun b hb' e => h.old b hb' (e ▸ hk)⟩, rfl⟩ (fun v hv j h1 h2 => hv.block j ⟨h2, fun b hb' e => by have := hlt b hb'; omega⟩)
    ⟨ha, ⟨rfl, rfl, rfl, Nat.le_refl _, fun _ _ => rfl⟩, fun b c hc => (hb.block _ (hlt b (List.getElem?_eq_some_iff.1 hc).1)).trans (h.row b c hc), fun b hb' hs => hs.2 b hb' rfl, h.inj, live_of hl, h.pin⟩
  exact ⟨hv.os.trans (hb.os.trans h.bel.os), hv.tape.trans (hb.tape.trans h.bel.tape), hv.output.trans (hb.output.trans h.bel.output), Nat.le_trans h.bel.size (Nat.le_trans hb.size hv.size), fun k hk => by
    have hkw := W.lt k hk
    have h0 := h.bel.size
    rw [hv.block k ⟨by have := hb.size; show k < w'.heap.size; omega, fun b hb' e => h.old b hb' (e ▸ hk)⟩]
    exact (hb.block k (by omega)).trans (h.bel.block k hk)⟩
theorem CsAt.far {w v : World} {n : Nat} {a : Option Addr} {L : List Cu} (h : CsAt w a L) (hb : ∀ p, 0 < L.length → a = some p → n ≤ p.block) (hf : ∀ j, n ≤ j → j < w.heap.size → v.heap[j]? = w.heap[j]?) : CsAt v a L := fun hl => by
  obtain ⟨b, c, e, h1, hc⟩ := h hl
  exact ⟨b, c, e, (hf b (hb _ hl e) (Array.getElem?_eq_some_iff.1 h1).1).trans h1, hc⟩
def cvA (c : Cu) : Array Value := #[.int .i64 ((c.f : Nat) : Int), .int .i64 ((c.a : Nat) : Int), .int .i64 ((c.e : Nat) : Int), .bool c.r]
theorem alC (w : World) : (Instr.alloc 73 true (.tuple #[])).run Tryd.prog w = .ok (.pointer (some ⟨w.heap.size, 0, none⟩)) (w.alloc (.cells (cvA ⟨0, 0, 0, false⟩) 73)) := by kernel_rfl
theorem stC {c : Cu} {d : Array Value} (t0 : TypeId) (hd : d.size = 4) (w : World) (q : Nat) (h : w.heap[q]? = some (.cells d t0 (0, 0))) : (Instr.storeAt 73 (.pointer (some ⟨q, 0, none⟩)) (.agg (cvA c))).run Tryd.prog w = .ok () (w.setRow q (cvA c)) := by
  have hr := run_storeVar_row (P := Tryd.prog) w q t0 73 d (cvA c) h (by kernel_rfl) hd (by kernel_rfl)
  simp only [Instr.storeAt, Instr.sureAddr, Sem.run_bind, Sem.run_pure, Result.andThen_ok, hr]
theorem ldC {c : Cu} (t0 : TypeId) (w : World) (q : Nat) (h : w.heap[q]? = some (.cells (cvA c) t0 (0, 0))) : (Instr.loadAt 73 (.pointer (some ⟨q, 0, none⟩))).run Tryd.prog w = .ok (.agg (cvA c)) w := by
  have hr := run_loadVar_row (P := Tryd.prog) w q t0 73 (cvA c) (0, 0) _ h Tryd.underlying73 rfl (by kernel_rfl)
  simp only [Instr.loadAt, Instr.sureAddr, Sem.run_bind, Sem.run_pure, Result.andThen_ok, hr]
theorem ix_cs {b n cap i : Nat} (hi : i < n) (w : World) : (Instr.indexAt 70 (.slice (some ⟨b, 0, none⟩) n cap) (.int .i64 ((i : Nat) : Int))).run Tryd.prog w = .ok (.pointer (some ⟨b, i * 4, none⟩)) w := by
  simp [Instr.indexAt, go_sem, hi]
theorem ld_cs {w : World} {b i : Nat} {L : List Cu} (h : CsAt w (some ⟨b, 0, none⟩) L) (hi : i < L.length) : (Instr.loadAt 73 (.pointer (some ⟨b, i * 4, none⟩))).run Tryd.prog w = .ok (.agg (cvA (L.getD i default))) w := by
  obtain ⟨k0, k1, k2, k3⟩ := h.cell hi
  have e : L.getD i default = L[i] := by simp [List.getD_eq_getElem?_getD, hi]
  rw [e]
  generalize L[i] = c at *
  refine run_loadAt_mid w b _ 73 (cc c) _ (fun j v hj => ?_) Tryd.underlying73 rfl (by kernel_rfl)
  match j, hj with
  | 0, hj => cases hj; exact k0
  | 1, hj => cases hj; exact k1
  | 2, hj => cases hj; exact k2
  | 3, hj => cases hj; exact k3
  | _ + 4, hj => cases hj
end Go.Proofs.YtgnmnoadfjdjdaaDoor

namespace Go.Proofs.YtgnmnoadfjdjdaaDoor
open Go.RowKit Go.Maps Sh

theorem ix_ct {a : Option Addr} {b n cap i : Nat} (ea : 0 < n → a = some ⟨b, 0, none⟩) (hi : i < n) (w : World) : (Instr.indexAt 70 (.slice a n cap) (.int .i64 ((i : Nat) : Int))).run Tryd.prog w = .ok (.pointer (some ⟨b, i * 4, none⟩)) w := by
  rw [ea (by omega)]; exact ix_cs hi w
theorem ld_ct {w : World} {a : Option Addr} {n b i : Nat} {L : List Cu} (h : CsAt w a L) (ea : 0 < n → a = some ⟨b, 0, none⟩) (hi : i < L.length ∧ i < n) : (Instr.loadAt 73 (.pointer (some ⟨b, i * 4, none⟩))).run Tryd.prog w = .ok (.agg (cvA (L.getD i default))) w := by
  rw [ea (by omega)] at h; exact ld_cs h hi.1
theorem cs_ad {w : World} {a : Option Addr} {N : Nat} {L : List Cu} (h : CsAt w a L) (hN : L.length = N) : ∃ cb, 0 < N → a = some ⟨cb, 0, none⟩ := by
  rcases Nat.eq_zero_or_pos N with h0 | h0
  · exact ⟨0, fun h => by omega⟩
  · obtain ⟨b, _, e, _⟩ := h (by omega)
    exact ⟨b, fun _ => e⟩
theorem ss_ad {w : World} {a : Option Addr} {N : Nat} {L : List (Nat → Nat)} (h : SsAt w a L) (hN : L.length = N) : ∃ pb po, 0 < N → a = some ⟨pb, po, none⟩ := by
  rcases Nat.eq_zero_or_pos N with h0 | h0
  · exact ⟨0, 0, fun h => by omega⟩
  · obtain ⟨b, off, e, _⟩ := h.2 (by omega)
    exact ⟨b, off, fun _ => e⟩
theorem ix_st2 {a : Option Addr} {b off n cap i : Nat} (ea : 0 < n → a = some ⟨b, off, none⟩) (hi : i < n) (w : World) : (Instr.indexAt 22 (.slice a n cap) (.int .i64 ((i : Nat) : Int))).run Tryd.prog w = .ok (.pointer (some ⟨b, off + 32 * i, none⟩)) w := by
  rw [ea (by omega)]; exact ix_ss hi w
theorem ld_st2 {w : World} {a : Option Addr} {b off n i : Nat} {L : List (Nat → Nat)} (h : SsAt w a L) (ea : 0 < n → a = some ⟨b, off, none⟩) (hi : i < L.length ∧ i < n) : (Instr.loadAt 34 (.pointer (some ⟨b, off + 32 * i, none⟩))).run Tryd.prog w = .ok (.agg (ab 32 (L.getD i fun _ => 0))) w := by
  rw [ea (by omega)] at h
  rw [show (L.getD i fun _ => 0) = L[i]'hi.1 by simp [List.getD_eq_getElem?_getD, hi.1]]
  exact ld_ss h hi.1
theorem getD_lt {L : List (Nat → Nat)} (h : ∀ P ∈ L, ∀ j, P j < 256) (k : Nat) : ∀ j, (L.getD k fun _ => 0) j < 256 := by
  intro j
  rw [List.getD_eq_getElem?_getD]
  cases e : L[k]? with
  | none => show 0 < 256; decide
  | some x => exact h x (List.mem_of_getElem? e) j
theorem come_step {cs : List Cu} {ps : List (Nat → Nat)} {F : Nat → Nat} {N k : Nat} (lc : cs.length = N) (lp : ps.length = N) (hk : k < N) : jn (cs.getD k default).r (comeL (cs.take k) (ps.take k) F) (ps.getD k fun _ => 0) = comeL (cs.take (k + 1)) (ps.take (k + 1)) F := by
  rw [List.take_succ_eq_append_getElem (by omega), List.take_succ_eq_append_getElem (l := ps) (by omega), comeL_snoc _ _ _ _ _ (by rw [List.length_take, List.length_take]; omega)]
  simp [List.getD_eq_getElem?_getD, show k < cs.length by omega, show k < ps.length by omega]
theorem len_cs {ad : Option Addr} {n c : Nat} (ty : TypeId) (w : World) : (Builtin.len_ #[70] ty #[.slice ad n c]).run Tryd.prog w = .ok (.int .i64 ((n : Nat) : Int)) w := by
  simp [Builtin.len_, go_sem]
section
variable {P : Program} {W : Wd} {ops : Array Oper} {s0 s1 : List SV} {z : List Blk} {y : List (Array Value)} {o : Oper}
/-- A value put into an interface. -/
theorem k_mi {t : TypeId} {x : Operand} {d : Tmp} (x1 v : Value) (hr : ∀ w, (Instr.makeInterface t x1).run P w = .ok v w) (ho : o.op = .makeInterface t x) (hd : o.dst = some d)
    (hw : wantF ops s1 o = true := by kernel_rfl) (hpx : plainB s1 x = true := by kernel_rfl) (hx1 : evS s1 x = x1 := by kernel_rfl) (hs : slot s1 d = .inl v := by kernel_rfl) : Ok1 P W ops s0 s1 z y o ⟨none, none, none, false⟩ := by
  refine ok_val hw hd hs (fun β a w ha => ?_)
  have e1 : a.eval x = x1 := by rw [← hx1]; exact ev_plain ha (by rw [ho]; simp [Op.operands]) hpx
  simp only [execOp, ho, e1, Sem.run_bind, hr w, Result.andThen_ok, Sem.run_pure]
end
section
variable {x u : Operand}
theorem eqS_v {b : Bool} {F G : Nat → Nat} (h : eqD F G = b) (w : World) : (do eqGuard .eql 34 x u (.agg (ab 32 F)) (.agg (ab 32 G)); binOp .eql 34 (.agg (ab 32 F)) (.agg (ab 32 G))).run Tryd.prog w = .ok (.bool b) w := by
  rw [eqS, h]
theorem eqN_t (w : World) : (do eqGuard .eql 25 x (.const .nilIface) .nilIface .nilIface; binOp .eql 25 .nilIface .nilIface).run Tryd.prog w = .ok (.bool true) w := by
  cases x <;> kernel_rfl
theorem eqN_f (k : Int) (w : World) : (do eqGuard .eql 25 x (.const .nilIface) (ev k) .nilIface; binOp .eql 25 (ev k) .nilIface).run Tryd.prog w = .ok (.bool false) w := by
  cases x <;> kernel_rfl
end
end Go.Proofs.YtgnmnoadfjdjdaaDoor

namespace Go.Proofs.YtgnmnoadfjdjdaaDoor
end Go.Proofs.YtgnmnoadfjdjdaaDoor

namespace Go.Proofs.YtgnmnoadfjdjdaaDoor
open Go.RowKit Go.Shelf Sh

end Go.Proofs.YtgnmnoadfjdjdaaDoor

namespace Go.Proofs.YtgnmnoadfjdjdaaDoor
open Go.RowKit Sh

theorem wayN_fuel : ∀ (q q' i f e : Nat), e - f ≤ q → e - f ≤ q' → wayN q i f e = wayN q' i f e
  | 0, q', i, f, e, h, _ => by rw [wayN_0 (by omega), wayN_0 (by omega)]
  | q + 1, 0, i, f, e, _, h => by rw [wayN_0 (by omega), wayN_0 (by omega)]
  | q + 1, q' + 1, i, f, e, h, h' => by
    rcases Nat.lt_or_ge (f + 1) e with hl | hl
    · have hc := cut_in (n := e - f) (by omega)
      rw [wayN_s hl, wayN_s hl, wayN_fuel q q' i (f + cut (e - f)) e (by omega) (by omega), wayN_fuel q q' i f (f + cut (e - f)) (by omega) (by omega)]
    · rw [wayN_0 hl, wayN_0 hl]
def sh (s : Nat) (c : Cu) : Cu := ⟨c.f + s, c.a + s, c.e + s, c.r⟩
theorem wayN_sh (s : Nat) : ∀ (q i f e : Nat), wayN q (i + s) (f + s) (e + s) = (wayN q i f e).map (sh s)
  | 0, _, _, _ => rfl
  | q + 1, i, f, e => by
    rcases Nat.lt_or_ge (f + 1) e with hl | hl
    · rw [wayN_s hl, wayN_s (by omega), show e + s - (f + s) = e - f by omega, show f + s + cut (e - f) = f + cut (e - f) + s by omega, wayN_sh s q i (f + cut (e - f)) e, wayN_sh s q i f (f + cut (e - f)), List.map_cons]
      by_cases h : f + cut (e - f) ≤ i
      · rw [if_pos (by omega), if_pos h, decide_eq_true h, decide_eq_true (by omega : f + cut (e - f) + s ≤ i + s)]; rfl
      · rw [if_neg (by omega), if_neg h, decide_eq_false h, decide_eq_false (by omega : ¬ f + cut (e - f) + s ≤ i + s)]; rfl
    · rw [wayN_0 hl, wayN_0 (by omega)]; rfl
theorem way_1 (i : Nat) : way i 1 = [] := wayN_0 (by omega)
theorem way_lo {i n : Nat} (hn : 2 ≤ n) (h : i < cut n) : way i n = ⟨0, cut n, n, false⟩ :: way i (cut n) := by
  have hc := cut_in hn
  unfold way
  obtain ⟨m, rfl⟩ : ∃ m, n = m + 1 := ⟨n - 1, by omega⟩
  rw [wayN_s (by omega), if_neg (by simp; omega), decide_eq_false (by simp; omega)]
  simp only [Nat.sub_zero, Nat.zero_add]
  rw [wayN_fuel m (cut (m + 1)) i 0 (cut (m + 1)) (by omega) (by omega)]
theorem way_hi {i n : Nat} (hn : 2 ≤ n) (h : cut n ≤ i) : way i n = ⟨0, cut n, n, true⟩ :: (way (i - cut n) (n - cut n)).map (sh (cut n)) := by
  have hc := cut_in hn
  unfold way
  obtain ⟨m, rfl⟩ : ∃ m, n = m + 1 := ⟨n - 1, by omega⟩
  rw [wayN_s (by omega), if_pos (by simp; omega), decide_eq_true (by simp; omega)]
  simp only [Nat.sub_zero, Nat.zero_add]
  rw [wayN_fuel m (m + 1 - cut (m + 1)) i (cut (m + 1)) (m + 1) (by omega) (by omega)]
  have := wayN_sh (cut (m + 1)) (m + 1 - cut (m + 1)) (i - cut (m + 1)) 0 (m + 1 - cut (m + 1))
  rw [show i - cut (m + 1) + cut (m + 1) = i by omega, Nat.zero_add, show m + 1 - cut (m + 1) + cut (m + 1) = m + 1 by omega] at this
  rw [this]
theorem part_sh (L : List (Nat → Nat)) (s f e : Nat) : part L (f + s) (e + s) = part (L.drop s) f e := by
  unfold part
  rw [List.take_drop, List.drop_drop, Nat.add_comm s e, Nat.add_comm s f]
theorem asd_sh (L : List (Nat → Nat)) (s : Nat) (c : Cu) : asd L (sh s c) = asd (L.drop s) c := by
  unfold asd sh
  cases c.r
  · simp only [Bool.false_eq_true, if_false]; rw [part_sh]
  · simp only [if_true]; rw [part_sh]
theorem part_lo {L : List (Nat → Nat)} {k f e : Nat} (h : e ≤ k) : part (L.take k) f e = part L f e := by
  unfold part; rw [List.take_take, Nat.min_eq_left h]
theorem asd_lo {L : List (Nat → Nat)} {k : Nat} {c : Cu} (h : CuOk k c) : asd (L.take k) c = asd L c := by
  obtain ⟨h1, h2, h3⟩ := h
  unfold asd
  rw [part_lo (by omega), part_lo h3]
theorem asl_map (L : List (Nat → Nat)) (s : Nat) (xs : List Cu) : asl L (xs.map (sh s)) = asl (L.drop s) xs := by
  unfold asl
  rw [← List.map_reverse, List.map_map]
  exact List.map_congr_left fun c _ => asd_sh L s c
theorem asl_cons (L : List (Nat → Nat)) (c : Cu) (xs : List Cu) : asl L (c :: xs) = asl L xs ++ [asd L c] := by unfold asl; simp
theorem asl_lo {L : List (Nat → Nat)} {i n : Nat} (hL : L.length = n) (hn : 2 ≤ n) (h : i < cut n) : asl L (way i n) = asl (L.take (cut n)) (way i (cut n)) ++ [root (L.drop (cut n))] := by
  have hc := cut_in hn
  rw [way_lo hn h, asl_cons]
  congr 1
  · unfold asl
    exact List.map_congr_left fun c hc' => (asd_lo (way_ok i (cut n) c (List.mem_reverse.1 hc'))).symm
  · unfold asd part
    simp only [Bool.false_eq_true, if_false]
    rw [List.take_of_length_le (by omega)]
theorem asl_hi {L : List (Nat → Nat)} {i n : Nat} (hn : 2 ≤ n) (h : cut n ≤ i) : asl L (way i n) = asl (L.drop (cut n)) (way (i - cut n) (n - cut n)) ++ [root (L.take (cut n))] := by
  rw [way_hi hn h, asl_cons, asl_map]
  congr 1
theorem comeL_map (s : Nat) : ∀ (cs : List Cu) (ps : List (Nat → Nat)) (F : Nat → Nat), comeL (cs.map (sh s)) ps F = comeL cs ps F
  | [], [], _ => rfl
  | [], _ :: _, _ => rfl
  | _ :: _, [], _ => rfl
  | c :: cs, p :: ps, F => comeL_map s cs ps (jn c.r F p)
theorem asl_len (L : List (Nat → Nat)) (xs : List Cu) : (asl L xs).length = xs.length := by unfold asl; simp
/-- What a path comes to, by the document's recursion. -/
theorem come_lo {i n : Nat} {ps : List (Nat → Nat)} {p F : Nat → Nat} (hn : 2 ≤ n) (h : i < cut n) (hl : ps.length = (way i (cut n)).length) : comeL (way i n).reverse (ps ++ [p]) F = nd (comeL (way i (cut n)).reverse ps F) p := by
  rw [way_lo hn h, List.reverse_cons, comeL_snoc _ _ _ _ _ (by rw [List.length_reverse]; exact hl.symm)]; rfl
theorem come_hi {i n : Nat} {ps : List (Nat → Nat)} {p F : Nat → Nat} (hn : 2 ≤ n) (h : cut n ≤ i) (hl : ps.length = (way (i - cut n) (n - cut n)).length) : comeL (way i n).reverse (ps ++ [p]) F = nd p (comeL (way (i - cut n) (n - cut n)).reverse ps F) := by
  rw [way_hi hn h, List.reverse_cons, comeL_snoc _ _ _ _ _ (by rw [List.length_reverse, List.length_map]; exact hl.symm), ← List.map_reverse, comeL_map]; rfl
theorem come_root : ∀ (n i : Nat) (L : List (Nat → Nat)), L.length = n → i < n → comeL (way i n).reverse (asl L (way i n)) (L.getD i fun _ => 0) = root L := by
  intro n
  induction n using Nat.strongRecOn with
  | ind n ih =>
    intro i L hL hi
    rcases Nat.lt_or_ge n 2 with h2 | h2
    · obtain rfl : n = 1 := by omega
      obtain rfl : i = 0 := by omega
      obtain ⟨x, rfl⟩ : ∃ x, L = [x] := List.length_eq_one_iff.1 hL
      rw [way_1, root_1]; rfl
    · have hc := cut_in h2
      rw [root_n (by omega), hL]
      rcases Nat.lt_or_ge i (cut n) with h | h
      · rw [asl_lo hL h2 h, come_lo h2 h (by rw [asl_len]), ← ih (cut n) hc.2.1 i (L.take (cut n)) (by rw [List.length_take]; omega) h]
        congr 2
        simp [List.getD_eq_getElem?_getD, h]
      · rw [asl_hi h2 h, come_hi h2 h (by rw [asl_len]), ← ih (n - cut n) (by omega) (i - cut n) (L.drop (cut n)) (by rw [List.length_drop]; omega) (by omega)]
        congr 2
        simp [List.getD_eq_getElem?_getD, List.getElem?_drop, show cut n + (i - cut n) = i by omega]
theorem way_len_lo {i n : Nat} (hn : 2 ≤ n) (h : i < cut n) : (way i n).length = 1 + (way i (cut n)).length := by rw [way_lo hn h, List.length_cons]; omega
theorem way_len_hi {i n : Nat} (hn : 2 ≤ n) (h : cut n ≤ i) : (way i n).length = 1 + (way (i - cut n) (n - cut n)).length := by rw [way_hi hn h, List.length_cons, List.length_map]; omega
end Go.Proofs.YtgnmnoadfjdjdaaDoor

namespace Go.Proofs.YtgnmnoadfjdjdaaDoor
open Go.RowKit Sh

/-- The same 32 bytes. -/
def Eq32 (F G : Nat → Nat) : Prop := ∀ i, i < 32 → F i = G i
theorem eq_root : ∀ (n : Nat) (L M : List (Nat → Nat)), L.length = n → M.length = n → (∀ i, i < n → Eq32 (L.getD i fun _ => 0) (M.getD i fun _ => 0)) → Eq32 (root L) (root M) := by
  intro n
  induction n using Nat.strongRecOn with
  | ind n ih =>
    intro L M hL hM h
    rcases Nat.lt_or_ge n 2 with h2 | h2
    · rcases Nat.lt_or_ge n 1 with h1 | h1
      · obtain rfl := List.eq_nil_of_length_eq_zero (show L.length = 0 by omega)
        obtain rfl := List.eq_nil_of_length_eq_zero (show M.length = 0 by omega)
        exact fun _ _ => rfl
      · obtain ⟨x, rfl⟩ : ∃ x, L = [x] := List.length_eq_one_iff.1 (by omega)
        obtain ⟨y, rfl⟩ : ∃ y, M = [y] := List.length_eq_one_iff.1 (by omega)
        rw [root_1, root_1]
        exact h 0 (by omega)
    · have hk := cut_in h2
      have g : ∀ (N : List (Nat → Nat)) (i k : Nat), (N.drop k).getD i (fun _ => 0) = N.getD (k + i) fun _ => 0 := fun N i k => by simp [List.getD_eq_getElem?_getD, List.getElem?_drop]
      have g2 : ∀ (N : List (Nat → Nat)) (i k : Nat), i < k → (N.take k).getD i (fun _ => 0) = N.getD i fun _ => 0 := fun N i k hi => by simp [List.getD_eq_getElem?_getD, hi]
      have e1 := ih (cut n) hk.2.1 (L.take (cut n)) (M.take (cut n)) (by rw [List.length_take]; omega) (by rw [List.length_take]; omega) (fun i hi => by rw [g2 _ _ _ hi, g2 _ _ _ hi]; exact h i (by omega))
      have e2 := ih (n - cut n) (by omega) (L.drop (cut n)) (M.drop (cut n)) (by rw [List.length_drop]; omega) (by rw [List.length_drop]; omega) (fun i hi => by rw [g, g]; exact h _ (by omega))
      rw [root_n (l := L) (by omega), root_n (l := M) (by omega), hL, hM]
      have : nd (root (L.take (cut n))) (root (L.drop (cut n))) = nd (root (M.take (cut n))) (root (M.drop (cut n))) := by
        refine dg_cong fun i hi => ?_
        unfold txt
        by_cases c0 : i = 0
        · rw [if_pos c0, if_pos c0]
        · rw [if_neg c0, if_neg c0]
          by_cases c1 : i < 33
          · rw [if_pos c1, if_pos c1, e1 (i - 1) (by omega)]
          · rw [if_neg c1, if_neg c1, e2 (i - 33) (by omega)]
      rw [this]
      exact fun _ _ => rfl
/-- The texts of digests of two that go into a row's digest. -/
def texts (l : List (Nat → Nat)) : List (Nat → Nat) :=
  if _h : l.length < 2 then [] else texts (l.take (cut l.length)) ++ texts (l.drop (cut l.length)) ++ [txt (root (l.take (cut l.length))) (root (l.drop (cut l.length)))]
termination_by l.length
decreasing_by
  · have := cut_in (n := l.length) (by omega); rw [List.length_take]; omega
  · have := cut_in (n := l.length) (by omega); rw [List.length_drop]; omega
theorem texts_s {l : List (Nat → Nat)} (h : l.length < 2) : texts l = [] := by rw [texts, dif_pos h]
theorem texts_n {l : List (Nat → Nat)} (h : 2 ≤ l.length) : texts l = texts (l.take (cut l.length)) ++ texts (l.drop (cut l.length)) ++ [txt (root (l.take (cut l.length))) (root (l.drop (cut l.length)))] := by
  rw [texts, dif_neg (by omega)]
theorem texts_len : ∀ (n : Nat) (l : List (Nat → Nat)), l.length = n → (texts l).length ≤ n := by
  intro n
  induction n using Nat.strongRecOn with
  | ind n ih =>
    intro l hl
    rcases Nat.lt_or_ge n 2 with h2 | h2
    · rw [texts_s (by omega)]; simp
    · have hk := cut_in h2
      rw [texts_n (by omega), hl]
      have a := ih (cut n) hk.2.1 (l.take (cut n)) (by rw [List.length_take]; omega)
      have b := ih (n - cut n) (by omega) (l.drop (cut n)) (by rw [List.length_drop]; omega)
      have c : n - 1 < n := by omega
      simp only [List.length_append, List.length_cons, List.length_nil]
      have key : ∀ (m : Nat) (k : List (Nat → Nat)), m < n → k.length = m → 1 ≤ m → (texts k).length ≤ m - 1 ∨ (texts k).length ≤ m := fun m k hm hk' _ => .inr (ih m hm k hk')
      have t1 : ∀ (m : Nat) (k : List (Nat → Nat)), k.length = m → 1 ≤ m → (texts k).length + 1 ≤ m := by
        intro m
        induction m using Nat.strongRecOn with
        | ind m ih2 =>
          intro k hk' h1
          rcases Nat.lt_or_ge m 2 with h3 | h3
          · rw [texts_s (by omega)]; simpa using h1
          · have hq := cut_in h3
            rw [texts_n (by omega), hk']
            have a := ih2 (cut m) hq.2.1 (k.take (cut m)) (by rw [List.length_take]; omega) (by omega)
            have b := ih2 (m - cut m) (by omega) (k.drop (cut m)) (by rw [List.length_drop]; omega) (by omega)
            simp only [List.length_append, List.length_cons, List.length_nil]
            omega
      have a1 := t1 (cut n) (l.take (cut n)) (by rw [List.length_take]; omega) (by omega)
      have b1 := t1 (n - cut n) (l.drop (cut n)) (by rw [List.length_drop]; omega) (by omega)
      omega
theorem texts_lt : ∀ (n : Nat) (l : List (Nat → Nat)), l.length = n → (∀ F ∈ l, ∀ j, F j < 256) → ∀ T ∈ texts l, ∀ j, T j < 256 := by
  intro n
  induction n using Nat.strongRecOn with
  | ind n ih =>
    intro l hl hb T hT j
    rcases Nat.lt_or_ge n 2 with h2 | h2
    · rw [texts_s (by omega)] at hT; cases hT
    · have hk := cut_in h2
      rw [texts_n (by omega), hl] at hT
      have b1 : ∀ F ∈ l.take (cut n), ∀ j, F j < 256 := fun F hF => hb F (List.mem_of_mem_take hF)
      have b2 : ∀ F ∈ l.drop (cut n), ∀ j, F j < 256 := fun F hF => hb F (List.mem_of_mem_drop hF)
      rcases List.mem_append.1 hT with hT | hT
      · rcases List.mem_append.1 hT with hT | hT
        · exact ih (cut n) hk.2.1 _ (by rw [List.length_take]; omega) b1 T hT j
        · exact ih (n - cut n) (by omega) _ (by rw [List.length_drop]; omega) b2 T hT j
      · rw [List.mem_singleton] at hT
        rw [hT]
        unfold txt
        split
        · decide
        · split
          · exact root_lt _ _ rfl b1 _
          · exact root_lt _ _ rfl b2 _
/-- Two unlike texts with one digest. -/
def Clash (T U : Nat → Nat) : Prop := Eq32 (dg 65 T) (dg 65 U) ∧ ∃ i, i < 65 ∧ T i ≠ U i
theorem clash : ∀ (n : Nat) (L M : List (Nat → Nat)), L.length = n → M.length = n → Eq32 (root L) (root M) → (∃ i, i < n ∧ ¬ Eq32 (L.getD i fun _ => 0) (M.getD i fun _ => 0)) → ∃ T ∈ texts L, ∃ U ∈ texts M, Clash T U := by
  intro n
  induction n using Nat.strongRecOn with
  | ind n ih =>
    intro L M hL hM hr hd
    rcases Nat.lt_or_ge n 2 with h2 | h2
    · exfalso
      obtain ⟨i, hi, hne⟩ := hd
      obtain rfl : n = 1 := by omega
      obtain rfl : i = 0 := by omega
      obtain ⟨x, rfl⟩ : ∃ x, L = [x] := List.length_eq_one_iff.1 hL
      obtain ⟨y, rfl⟩ : ∃ y, M = [y] := List.length_eq_one_iff.1 hM
      rw [root_1, root_1] at hr
      exact hne hr
    · have hk := cut_in h2
      have g : ∀ (N : List (Nat → Nat)) (i k : Nat), (N.drop k).getD i (fun _ => 0) = N.getD (k + i) fun _ => 0 := fun N i k => by simp [List.getD_eq_getElem?_getD, List.getElem?_drop]
      have g2 : ∀ (N : List (Nat → Nat)) (i k : Nat), i < k → (N.take k).getD i (fun _ => 0) = N.getD i fun _ => 0 := fun N i k hi => by simp [List.getD_eq_getElem?_getD, hi]
      rw [texts_n (l := L) (by omega), texts_n (l := M) (by omega), hL, hM]
      rw [root_n (l := L) (by omega), root_n (l := M) (by omega), hL, hM] at hr
      generalize hA1 : root (L.take (cut n)) = A1 at *
      generalize hA2 : root (L.drop (cut n)) = A2 at *
      generalize hB1 : root (M.take (cut n)) = B1 at *
      generalize hB2 : root (M.drop (cut n)) = B2 at *
      by_cases hT : ∃ i, i < 65 ∧ txt A1 A2 i ≠ txt B1 B2 i
      · exact ⟨txt A1 A2, by simp, txt B1 B2, by simp, hr, hT⟩
      · have hTe : ∀ i, i < 65 → txt A1 A2 i = txt B1 B2 i := fun i hi => Classical.byContradiction fun h => hT ⟨i, hi, h⟩
        have e1 : Eq32 A1 B1 := fun i hi => by
          have := hTe (i + 1) (by omega)
          unfold txt at this
          rwa [if_neg (by omega), if_pos (by omega), if_neg (by omega), if_pos (by omega), show i + 1 - 1 = i by omega] at this
        have e2 : Eq32 A2 B2 := fun i hi => by
          have := hTe (i + 33) (by omega)
          unfold txt at this
          rwa [if_neg (by omega), if_neg (by omega), if_neg (by omega), if_neg (by omega), show i + 33 - 33 = i by omega] at this
        obtain ⟨i, hi, hne⟩ := hd
        rcases Nat.lt_or_ge i (cut n) with hc | hc
        · obtain ⟨T, hT1, U, hU1, hcl⟩ := ih (cut n) hk.2.1 (L.take (cut n)) (M.take (cut n)) (by rw [List.length_take]; omega) (by rw [List.length_take]; omega) (by rw [hA1, hB1]; exact e1) ⟨i, hc, by rw [g2 _ _ _ hc, g2 _ _ _ hc]; exact hne⟩
          exact ⟨T, by simp [hT1], U, by simp [hU1], hcl⟩
        · obtain ⟨T, hT1, U, hU1, hcl⟩ := ih (n - cut n) (by omega) (L.drop (cut n)) (M.drop (cut n)) (by rw [List.length_drop]; omega) (by rw [List.length_drop]; omega) (by rw [hA2, hB2]; exact e2) ⟨i - cut n, by omega, by rw [g, g, show cut n + (i - cut n) = i by omega]; exact hne⟩
          exact ⟨T, by simp [hT1], U, by simp [hU1], hcl⟩
end Go.Proofs.YtgnmnoadfjdjdaaDoor

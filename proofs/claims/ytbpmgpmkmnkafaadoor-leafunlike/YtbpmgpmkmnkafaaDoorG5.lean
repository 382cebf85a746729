/- LRoot, LA5, LA6, LA7, LA8, LA9, LAb, LAc, LAd, LSums, LAlive, LAe, LAf, LAg, LAh, LAi: laid together. -/
import Derived.ProofKit
import Derived.OpenShut
import Derived.LaidMore
import Derived.Stop.Joined
import Derived.WalkKit
import Derived.ShutString
import Derived.ChangeOld
import Derived.Below
import Derived.Deep.Slices
import Derived.Maps.Own
import Derived.Maps.Views
import Derived.DeepKeys4
import Derived.Test.YtbpmgpmkmnkafaaDoorG4
namespace Go.Proofs.YtbpmgpmkmnkafaaDoor
open Go.RowKit Go.Maps Sh

set_option maxHeartbeats 4000000 in
theorem root_d_0 {a0 : Option Addr} {cap : Nat} {W0 : World} {E0 : Nat → Nat} (hem : ∀ w, KW (wd W0) w → Calls Tryd.prog 14 #[] w fun e w' => e = .returned (.agg (ab 32 E0)) ∧ Below w.heap.size w w') : Calls Tryd.prog 19 #[.slice a0 0 cap] W0 fun e w' => e = .returned (.agg (ab 32 E0)) ∧ Below W0.heap.size W0 w' := by
  refine s_in Tryd.func19 Tryd.ntmps19 rfl [.inl (.slice a0 0 cap)] ?_
  intro β a h
  refine sym_seq ?_
  refine St.rg h [(2, .inr (0, pt 0))] [(ab 32 (fun _ => 0), 24)] [] [eN 0] ?_ ?_
  · exact oc (k_al 0 alS rfl rfl) <|
    ok_nil
  clear h; intro β a w h
  refine sym_then ?_
  refine sym_seq ?_
  refine sym_seq ?_
  refine St.r0 h [(4, .inl (.slice a0 0 cap)), (5, .inl (.int .i64 ((0 : Nat) : Int)))] [] ?_ ?_
  · exact oz (k_mv (.inl rfl) rfl) <|
    oz (k_ln (ad := a0) 0 cap rfl rfl (fun w => len_ss _ w)) <|
    ok_nil
  clear h; intro β a w h
  refine sym_then ?_
  refine blk_in ?_
  refine sym_seq ?_
  refine St.r0 h [(7, .inl (.bool true)), (6, .inl (.bool true))] [] ?_ ?_
  · exact oz (k_bi (.int .i64 ((0 : Nat) : Int)) (.int .i64 ((0 : Nat) : Int)) (.bool true) (eq_i (m := ((0 : Nat) : Int)) (n := ((0 : Nat) : Int)) (decide_eq_true (by omega))) rfl rfl) <|
    oz (k_mv (.inr rfl) rfl) <|
    ok_nil
  clear h; intro β a w h
  refine sym_then ?_
  refine s_ct h ?_
  refine sym_seq ?_
  refine St.rg h [(8, .inl (.agg (ab 32 E0)))] [] [(0, ab 32 E0)] [nn, eS 0] ?_ ?_
  · exact oc (k_cw 14 #[] (.agg (ab 32 E0)) (fun w hw => hem w hw) rfl rfl) <|
    oc (k_st 0 0 (.agg (ab 32 E0)) (c := ab 32 (fun _ => 0)) (n := ab 32 E0) (stS (F := E0) (c := ab 32 (fun _ => 0)) 24 (ab_size _ _)) rfl rfl) <|
    ok_nil
  clear h; intro β a w h
  refine sym_then ?_
  refine wp_ret ?_
  refine blk_ret ?_
  refine then_ret ?_
  exact s_rc (b := 0) (t0 := 24) (c := ab 32 E0) h Tryd.results19 Tryd.underlying24 (fun hb => ⟨rfl, hb⟩) (by rw [ab_size]; kernel_rfl)
set_option maxHeartbeats 4000000 in
theorem root_d_1 {b off cap : Nat} {W0 : World} {L0 : Nat → Nat} (ld0 : ∀ w, KW (wd W0) w → (Instr.loadAt 24 (.pointer (some ⟨b, off + 32 * 0, none⟩))).run Tryd.prog w = .ok (.agg (ab 32 L0)) w) : Calls Tryd.prog 19 #[.slice (some ⟨b, off, none⟩) 1 cap] W0 fun e w' => e = .returned (.agg (ab 32 L0)) ∧ Below W0.heap.size W0 w' := by
  refine s_in Tryd.func19 Tryd.ntmps19 rfl [.inl (.slice (some ⟨b, off, none⟩) 1 cap)] ?_
  intro β a h
  refine sym_seq ?_
  refine St.rg h [(2, .inr (0, pt 0))] [(ab 32 (fun _ => 0), 24)] [] [eN 0] ?_ ?_
  · exact oc (k_al 0 alS rfl rfl) <|
    ok_nil
  clear h; intro β a w h
  refine sym_then ?_
  refine sym_seq ?_
  refine sym_seq ?_
  refine St.r0 h [(4, .inl (.slice (some ⟨b, off, none⟩) 1 cap)), (5, .inl (.int .i64 ((1 : Nat) : Int)))] [] ?_ ?_
  · exact oz (k_mv (.inl rfl) rfl) <|
    oz (k_ln (ad := (some ⟨b, off, none⟩)) 1 cap rfl rfl (fun w => len_ss _ w)) <|
    ok_nil
  clear h; intro β a w h
  refine sym_then ?_
  refine blk_in ?_
  refine sym_seq ?_
  refine St.r0 h [(7, .inl (.bool false)), (6, .inl (.bool false))] [] ?_ ?_
  · exact oz (k_bi (.int .i64 ((1 : Nat) : Int)) (.int .i64 ((0 : Nat) : Int)) (.bool false) (eq_i (m := ((1 : Nat) : Int)) (n := ((0 : Nat) : Int)) (decide_eq_false (by omega))) rfl rfl) <|
    oz (k_mv (.inr rfl) rfl) <|
    ok_nil
  clear h; intro β a w h
  refine sym_then ?_
  refine s_cf h ?_
  refine sym_seq ?_
  refine St.r0 h [(10, .inl (.bool true)), (9, .inl (.bool true))] [] ?_ ?_
  · exact oz (k_bi (.int .i64 ((1 : Nat) : Int)) (.int .i64 ((1 : Nat) : Int)) (.bool true) (eq_i (m := ((1 : Nat) : Int)) (n := ((1 : Nat) : Int)) (decide_eq_true (by omega))) rfl rfl) <|
    oz (k_mv (.inr rfl) rfl) <|
    ok_nil
  clear h; intro β a w h
  refine sym_then ?_
  refine s_ct h ?_
  refine sym_seq ?_
  refine St.rg h [(11, .inl (.slice (some ⟨b, off, none⟩) 1 cap)), (12, .inl (.pointer (some ⟨b, off + 32 * 0, none⟩))), (13, .inl (.agg (ab 32 L0)))] [] [(0, ab 32 L0)] [nn, nn, nn, eS 0] ?_ ?_
  · exact oc (k_mv (.inl rfl) rfl) <|
    oc (k_is (.slice (some ⟨b, off, none⟩) 1 cap) (.int .i64 ((0 : Nat) : Int)) (.pointer (some ⟨b, off + 32 * 0, none⟩)) (fun w => ix_ss (i := 0) (by omega) w) rfl rfl) <|
    oc (k_lf (.pointer (some ⟨b, off + 32 * 0, none⟩)) (.agg (ab 32 L0)) (fun w hw => ld0 w hw) rfl rfl) <|
    oc (k_st 0 0 (.agg (ab 32 L0)) (c := ab 32 (fun _ => 0)) (n := ab 32 L0) (stS (F := L0) (c := ab 32 (fun _ => 0)) 24 (ab_size _ _)) rfl rfl) <|
    ok_nil
  clear h; intro β a w h
  refine sym_then ?_
  refine wp_ret ?_
  refine blk_ret ?_
  refine then_ret ?_
  exact s_rc (b := 0) (t0 := 24) (c := ab 32 L0) h Tryd.results19 Tryd.underlying24 (fun hb => ⟨rfl, hb⟩) (by rw [ab_size]; kernel_rfl)
set_option maxHeartbeats 4000000 in
theorem root_d_2 {b off n cap : Nat} {W0 : World} {Rlo Rhi : Nat → Nat} (hn : 2 ≤ n) (hm : n ≤ 1000000) (hcap : n ≤ cap) (hk : 1 ≤ cut n ∧ cut n < n ∧ n ≤ 2 * cut n)
    (hlo : ∀ w, KW (wd W0) w → Calls Tryd.prog 19 #[.slice (some ⟨b, off, none⟩) (cut n) cap] w fun e w' => e = .returned (.agg (ab 32 Rlo)) ∧ Below w.heap.size w w')
    (hhi : ∀ w, KW (wd W0) w → Calls Tryd.prog 19 #[.slice (some ⟨b, off + 32 * cut n, none⟩) (n - cut n) (cap - cut n)] w fun e w' => e = .returned (.agg (ab 32 Rhi)) ∧ Below w.heap.size w w')
    (hnd : ∀ w, KW (wd W0) w → Calls Tryd.prog 12 #[.agg (ab 32 Rlo), .agg (ab 32 Rhi)] w fun e w' => e = .returned (.agg (ab 32 (nd Rlo Rhi))) ∧ Below w.heap.size w w') : Calls Tryd.prog 19 #[.slice (some ⟨b, off, none⟩) n cap] W0 fun e w' => e = .returned (.agg (ab 32 (nd Rlo Rhi))) ∧ Below W0.heap.size W0 w' := by
  obtain ⟨hk1, hk2, hk3⟩ := hk
  refine s_in Tryd.func19 Tryd.ntmps19 rfl [.inl (.slice (some ⟨b, off, none⟩) n cap)] ?_
  intro β a h
  refine sym_seq ?_
  refine St.rg h [(2, .inr (0, pt 0))] [(ab 32 (fun _ => 0), 24)] [] [eN 0] ?_ ?_
  · exact oc (k_al 0 alS rfl rfl) <|
    ok_nil
  clear h; intro β a w h
  refine sym_then ?_
  refine sym_seq ?_
  refine sym_seq ?_
  refine St.r0 h [(4, .inl (.slice (some ⟨b, off, none⟩) n cap)), (5, .inl (.int .i64 ((n : Nat) : Int)))] [] ?_ ?_
  · exact oz (k_mv (.inl rfl) rfl) <|
    oz (k_ln (ad := (some ⟨b, off, none⟩)) n cap rfl rfl (fun w => len_ss _ w)) <|
    ok_nil
  clear h; intro β a w h
  refine sym_then ?_
  refine blk_in ?_
  refine sym_seq ?_
  refine St.r0 h [(7, .inl (.bool false)), (6, .inl (.bool false))] [] ?_ ?_
  · exact oz (k_bi (.int .i64 ((n : Nat) : Int)) (.int .i64 ((0 : Nat) : Int)) (.bool false) (eq_i (m := ((n : Nat) : Int)) (n := ((0 : Nat) : Int)) (decide_eq_false (by omega))) rfl rfl) <|
    oz (k_mv (.inr rfl) rfl) <|
    ok_nil
  clear h; intro β a w h
  refine sym_then ?_
  refine s_cf h ?_
  refine sym_seq ?_
  refine St.r0 h [(10, .inl (.bool false)), (9, .inl (.bool false))] [] ?_ ?_
  · exact oz (k_bi (.int .i64 ((n : Nat) : Int)) (.int .i64 ((1 : Nat) : Int)) (.bool false) (eq_i (m := ((n : Nat) : Int)) (n := ((1 : Nat) : Int)) (decide_eq_false (by omega))) rfl rfl) <|
    oz (k_mv (.inr rfl) rfl) <|
    ok_nil
  clear h; intro β a w h
  refine sym_then ?_
  refine s_cf h ?_
  refine wp_skip ?_
  refine blk_norm ?_
  refine sym_then ?_
  refine sym_seq ?_
  refine St.r0 h [(14, .inl (.slice (some ⟨b, off, none⟩) n cap)), (15, .inl (.int .i64 ((n : Nat) : Int))), (16, .inl (.int .i64 (((cut n) : Nat) : Int))), (3, .inl (.int .i64 (((cut n) : Nat) : Int)))] [] ?_ ?_
  · exact oz (k_mv (.inl rfl) rfl) <|
    oz (k_ln (ad := (some ⟨b, off, none⟩)) n cap rfl rfl (fun w => len_ss _ w)) <|
    oz (k_ca 17 #[.int .i64 ((n : Nat) : Int)] (.int .i64 (((cut n) : Nat) : Int)) (fun w => cut_k n (by omega) w) rfl rfl) <|
    oz (k_mv (.inr rfl) rfl) <|
    ok_nil
  clear h; intro β a w h
  refine sym_then ?_
  refine sym_seq ?_
  refine St.rg h [(17, .inl (.slice (some ⟨b, off, none⟩) n cap)), (18, .inl (.int .i64 (((cut n) : Nat) : Int))), (19, .inl (.slice (some ⟨b, off, none⟩) (cut n) cap)), (20, .inl (.agg (ab 32 Rlo))), (21, .inl (.slice (some ⟨b, off, none⟩) n cap)), (22, .inl (.int .i64 (((cut n) : Nat) : Int))), (23, .inl (.slice (some ⟨b, off + 32 * (cut n), none⟩) (n - (cut n)) (cap - (cut n)))), (24, .inl (.agg (ab 32 Rhi))), (25, .inl (.agg (ab 32 (nd Rlo Rhi))))] [] [(0, ab 32 (nd Rlo Rhi))] [nn, nn, nn, nn, nn, nn, nn, nn, nn, eS 0] ?_ ?_
  · exact oc (k_mv (.inl rfl) rfl) <|
    oc (k_mv (.inl rfl) rfl) <|
    oc (k_sw (.slice (some ⟨b, off, none⟩) n cap) (.slice (some ⟨b, off, none⟩) (cut n) cap) none (some (.int .i64 (((cut n) : Nat) : Int))) (sl_lo (by omega) hcap) rfl rfl) <|
    oc (k_cw 19 #[.slice (some ⟨b, off, none⟩) (cut n) cap] (.agg (ab 32 Rlo)) (fun w hw => hlo w hw) rfl rfl) <|
    oc (k_mv (.inl rfl) rfl) <|
    oc (k_mv (.inl rfl) rfl) <|
    oc (k_sw (.slice (some ⟨b, off, none⟩) n cap) (.slice (some ⟨b, off + 32 * (cut n), none⟩) (n - (cut n)) (cap - (cut n))) (some (.int .i64 (((cut n) : Nat) : Int))) none (sl_hi (by omega) hcap) rfl rfl) <|
    oc (k_cw 19 #[.slice (some ⟨b, off + 32 * (cut n), none⟩) (n - (cut n)) (cap - (cut n))] (.agg (ab 32 Rhi)) (fun w hw => hhi w hw) rfl rfl) <|
    oc (k_cw 12 #[.agg (ab 32 Rlo), .agg (ab 32 Rhi)] (.agg (ab 32 (nd Rlo Rhi))) (fun w hw => hnd w hw) rfl rfl) <|
    oc (k_st 0 0 (.agg (ab 32 (nd Rlo Rhi))) (c := ab 32 (fun _ => 0)) (n := ab 32 (nd Rlo Rhi)) (stS (F := (nd Rlo Rhi)) (c := ab 32 (fun _ => 0)) 24 (ab_size _ _)) rfl rfl) <|
    ok_nil
  clear h; intro β a w h
  refine sym_then ?_
  refine wp_ret ?_
  exact s_rc (b := 0) (t0 := 24) (c := ab 32 (nd Rlo Rhi)) h Tryd.results19 Tryd.underlying24 (fun hb => ⟨rfl, hb⟩) (by rw [ab_size]; kernel_rfl)
theorem root_d : ∀ (n : Nat) (L : List (Nat → Nat)) (a : Option Addr) (cap : Nat) (W0 : World), L.length = n → n ≤ 1000000 → Gl W0 → SsAt W0 a L → n ≤ cap → Calls Tryd.prog 19 #[.slice a n cap] W0 fun e w' => e = .returned (.agg (ab 32 (root L))) ∧ Below W0.heap.size W0 w' := by
  intro n
  induction n using Nat.strongRecOn with
  | ind n ih =>
    intro L a cap W0 hL hm hg hs hcap
    rcases Nat.lt_or_ge n 2 with h2 | h2
    · rcases Nat.lt_or_ge n 1 with h1 | h1
      · obtain rfl : n = 0 := by omega
        obtain rfl := List.eq_nil_of_length_eq_zero hL
        rw [root_0]
        exact root_d_0 (fun w hw => empty_d (gl_b hg hw.below))
      · obtain rfl : n = 1 := by omega
        obtain ⟨b, off, rfl, hc⟩ := hs.2 (by omega)
        obtain ⟨x, rfl⟩ : ∃ x, L = [x] := List.length_eq_one_iff.1 hL
        rw [root_1]
        exact root_d_1 (fun w hw => ld_ss (i := 0) (hs.later hw.below) (by simp))
    · obtain ⟨b, off, rfl, hc⟩ := hs.2 (by omega)
      have hk := cut_in h2
      have l1 : (L.take (cut n)).length = cut n := by rw [List.length_take]; omega
      have l2 : (L.drop (cut n)).length = n - cut n := by rw [List.length_drop]; omega
      have b1 := root_lt _ (L.take (cut n)) rfl (fun F hF => hs.1 F (List.mem_of_mem_take hF))
      have b2 := root_lt _ (L.drop (cut n)) rfl (fun F hF => hs.1 F (List.mem_of_mem_drop hF))
      rw [root_n (by omega), hL]
      exact root_d_2 h2 hm hcap hk (fun w hw => ih (cut n) hk.2.1 (L.take (cut n)) _ cap w l1 (by omega) (gl_b hg hw.below) (hs.lo.later hw.below) (by omega))
        (fun w hw => ih (n - cut n) (by omega) (L.drop (cut n)) _ (cap - cut n) w l2 (by omega) (gl_b hg hw.below) (hs.hi.later hw.below) (by omega))
        (fun w hw => node_d (gl_b hg hw.below) b1 b2)

set_option maxHeartbeats 4000000 in
theorem root_r_0 {a0 : Option Addr} {cap : Nat} {W0 : World} {E0 : Nat → Nat} (hem : ∀ w, KW (wd W0) w → Calls Tryd.prog 15 #[.slice none 0 0] w fun e w' => e = .returned (.agg (ab 32 E0)) ∧ Below w.heap.size w w') : Calls Tryd.prog 20 #[.slice a0 0 cap] W0 fun e w' => e = .returned (.agg (ab 32 E0)) ∧ Below W0.heap.size W0 w' := by
  refine s_in Tryd.func20 Tryd.ntmps20 rfl [.inl (.slice a0 0 cap)] ?_
  intro β a h
  refine sym_seq ?_
  refine St.rg h [(2, .inr (0, pt 0))] [(ab 32 (fun _ => 0), 24)] [] [eN 0] ?_ ?_
  · exact oc (k_al 0 alS rfl rfl) <|
    ok_nil
  clear h; intro β a w h
  refine sym_then ?_
  refine sym_seq ?_
  refine sym_seq ?_
  refine St.r0 h [(4, .inl (.slice a0 0 cap)), (5, .inl (.int .i64 ((0 : Nat) : Int))), (6, .inl (.bool true))] [] ?_ ?_
  · exact oz (k_mv (.inl rfl) rfl) <|
    oz (k_ln (ad := a0) 0 cap rfl rfl (fun w => len_ss _ w)) <|
    oz (k_bi (.int .i64 ((0 : Nat) : Int)) (.int .i64 ((0 : Nat) : Int)) (.bool true) (eq_i (m := ((0 : Nat) : Int)) (n := ((0 : Nat) : Int)) (decide_eq_true (by omega))) rfl rfl) <|
    ok_nil
  clear h; intro β a w h
  refine sym_then ?_
  refine s_ct h ?_
  refine sym_seq ?_
  refine St.rg h [(7, .inl (.agg (ab 32 E0)))] [] [(0, ab 32 E0)] [nn, eS 0] ?_ ?_
  · exact oc (k_cw 15 #[.slice none 0 0] (.agg (ab 32 E0)) (fun w hw => hem w hw) rfl rfl) <|
    oc (k_st 0 0 (.agg (ab 32 E0)) (c := ab 32 (fun _ => 0)) (n := ab 32 E0) (stS (F := E0) (c := ab 32 (fun _ => 0)) 24 (ab_size _ _)) rfl rfl) <|
    ok_nil
  clear h; intro β a w h
  refine sym_then ?_
  refine wp_ret ?_
  refine then_ret ?_
  exact s_rc (b := 0) (t0 := 24) (c := ab 32 E0) h Tryd.results20 Tryd.underlying24 (fun hb => ⟨rfl, hb⟩) (by rw [ab_size]; kernel_rfl)
set_option maxHeartbeats 4000000 in
theorem root_r_1 {b off cap : Nat} {W0 : World} {L0 : Nat → Nat} (ld0 : ∀ w, KW (wd W0) w → (Instr.loadAt 24 (.pointer (some ⟨b, off + 32 * 0, none⟩))).run Tryd.prog w = .ok (.agg (ab 32 L0)) w) : Calls Tryd.prog 20 #[.slice (some ⟨b, off, none⟩) 1 cap] W0 fun e w' => e = .returned (.agg (ab 32 L0)) ∧ Below W0.heap.size W0 w' := by
  refine s_in Tryd.func20 Tryd.ntmps20 rfl [.inl (.slice (some ⟨b, off, none⟩) 1 cap)] ?_
  intro β a h
  refine sym_seq ?_
  refine St.rg h [(2, .inr (0, pt 0))] [(ab 32 (fun _ => 0), 24)] [] [eN 0] ?_ ?_
  · exact oc (k_al 0 alS rfl rfl) <|
    ok_nil
  clear h; intro β a w h
  refine sym_then ?_
  refine sym_seq ?_
  refine sym_seq ?_
  refine St.r0 h [(4, .inl (.slice (some ⟨b, off, none⟩) 1 cap)), (5, .inl (.int .i64 ((1 : Nat) : Int))), (6, .inl (.bool false))] [] ?_ ?_
  · exact oz (k_mv (.inl rfl) rfl) <|
    oz (k_ln (ad := (some ⟨b, off, none⟩)) 1 cap rfl rfl (fun w => len_ss _ w)) <|
    oz (k_bi (.int .i64 ((1 : Nat) : Int)) (.int .i64 ((0 : Nat) : Int)) (.bool false) (eq_i (m := ((1 : Nat) : Int)) (n := ((0 : Nat) : Int)) (decide_eq_false (by omega))) rfl rfl) <|
    ok_nil
  clear h; intro β a w h
  refine sym_then ?_
  refine s_cf h ?_
  refine wp_skip ?_
  refine sym_then ?_
  refine sym_seq ?_
  refine sym_seq ?_
  refine St.r0 h [(8, .inl (.slice (some ⟨b, off, none⟩) 1 cap)), (9, .inl (.int .i64 ((1 : Nat) : Int))), (10, .inl (.bool true))] [] ?_ ?_
  · exact oz (k_mv (.inl rfl) rfl) <|
    oz (k_ln (ad := (some ⟨b, off, none⟩)) 1 cap rfl rfl (fun w => len_ss _ w)) <|
    oz (k_bi (.int .i64 ((1 : Nat) : Int)) (.int .i64 ((1 : Nat) : Int)) (.bool true) (eq_i (m := ((1 : Nat) : Int)) (n := ((1 : Nat) : Int)) (decide_eq_true (by omega))) rfl rfl) <|
    ok_nil
  clear h; intro β a w h
  refine sym_then ?_
  refine s_ct h ?_
  refine sym_seq ?_
  refine St.rg h [(11, .inl (.slice (some ⟨b, off, none⟩) 1 cap)), (12, .inl (.pointer (some ⟨b, off + 32 * 0, none⟩))), (13, .inl (.agg (ab 32 L0)))] [] [(0, ab 32 L0)] [nn, nn, nn, eS 0] ?_ ?_
  · exact oc (k_mv (.inl rfl) rfl) <|
    oc (k_is (.slice (some ⟨b, off, none⟩) 1 cap) (.int .i64 ((0 : Nat) : Int)) (.pointer (some ⟨b, off + 32 * 0, none⟩)) (fun w => ix_ss (i := 0) (by omega) w) rfl rfl) <|
    oc (k_lf (.pointer (some ⟨b, off + 32 * 0, none⟩)) (.agg (ab 32 L0)) (fun w hw => ld0 w hw) rfl rfl) <|
    oc (k_st 0 0 (.agg (ab 32 L0)) (c := ab 32 (fun _ => 0)) (n := ab 32 L0) (stS (F := L0) (c := ab 32 (fun _ => 0)) 24 (ab_size _ _)) rfl rfl) <|
    ok_nil
  clear h; intro β a w h
  refine sym_then ?_
  refine wp_ret ?_
  refine then_ret ?_
  exact s_rc (b := 0) (t0 := 24) (c := ab 32 L0) h Tryd.results20 Tryd.underlying24 (fun hb => ⟨rfl, hb⟩) (by rw [ab_size]; kernel_rfl)
set_option maxHeartbeats 4000000 in
theorem root_r_2 {b off n cap : Nat} {W0 : World} {Rlo Rhi : Nat → Nat} (hn : 2 ≤ n) (hm : n ≤ 1000000) (hcap : n ≤ cap) (hk : 1 ≤ cut n ∧ cut n < n ∧ n ≤ 2 * cut n)
    (hlo : ∀ w, KW (wd W0) w → Calls Tryd.prog 20 #[.slice (some ⟨b, off, none⟩) (cut n) cap] w fun e w' => e = .returned (.agg (ab 32 Rlo)) ∧ Below w.heap.size w w')
    (hhi : ∀ w, KW (wd W0) w → Calls Tryd.prog 20 #[.slice (some ⟨b, off + 32 * cut n, none⟩) (n - cut n) (cap - cut n)] w fun e w' => e = .returned (.agg (ab 32 Rhi)) ∧ Below w.heap.size w w')
    (hnd : ∀ w, KW (wd W0) w → Calls Tryd.prog 13 #[.agg (ab 32 Rlo), .agg (ab 32 Rhi)] w fun e w' => e = .returned (.agg (ab 32 (nd Rlo Rhi))) ∧ Below w.heap.size w w') : Calls Tryd.prog 20 #[.slice (some ⟨b, off, none⟩) n cap] W0 fun e w' => e = .returned (.agg (ab 32 (nd Rlo Rhi))) ∧ Below W0.heap.size W0 w' := by
  obtain ⟨hk1, hk2, hk3⟩ := hk
  refine s_in Tryd.func20 Tryd.ntmps20 rfl [.inl (.slice (some ⟨b, off, none⟩) n cap)] ?_
  intro β a h
  refine sym_seq ?_
  refine St.rg h [(2, .inr (0, pt 0))] [(ab 32 (fun _ => 0), 24)] [] [eN 0] ?_ ?_
  · exact oc (k_al 0 alS rfl rfl) <|
    ok_nil
  clear h; intro β a w h
  refine sym_then ?_
  refine sym_seq ?_
  refine sym_seq ?_
  refine St.r0 h [(4, .inl (.slice (some ⟨b, off, none⟩) n cap)), (5, .inl (.int .i64 ((n : Nat) : Int))), (6, .inl (.bool false))] [] ?_ ?_
  · exact oz (k_mv (.inl rfl) rfl) <|
    oz (k_ln (ad := (some ⟨b, off, none⟩)) n cap rfl rfl (fun w => len_ss _ w)) <|
    oz (k_bi (.int .i64 ((n : Nat) : Int)) (.int .i64 ((0 : Nat) : Int)) (.bool false) (eq_i (m := ((n : Nat) : Int)) (n := ((0 : Nat) : Int)) (decide_eq_false (by omega))) rfl rfl) <|
    ok_nil
  clear h; intro β a w h
  refine sym_then ?_
  refine s_cf h ?_
  refine wp_skip ?_
  refine sym_then ?_
  refine sym_seq ?_
  refine sym_seq ?_
  refine St.r0 h [(8, .inl (.slice (some ⟨b, off, none⟩) n cap)), (9, .inl (.int .i64 ((n : Nat) : Int))), (10, .inl (.bool false))] [] ?_ ?_
  · exact oz (k_mv (.inl rfl) rfl) <|
    oz (k_ln (ad := (some ⟨b, off, none⟩)) n cap rfl rfl (fun w => len_ss _ w)) <|
    oz (k_bi (.int .i64 ((n : Nat) : Int)) (.int .i64 ((1 : Nat) : Int)) (.bool false) (eq_i (m := ((n : Nat) : Int)) (n := ((1 : Nat) : Int)) (decide_eq_false (by omega))) rfl rfl) <|
    ok_nil
  clear h; intro β a w h
  refine sym_then ?_
  refine s_cf h ?_
  refine wp_skip ?_
  refine sym_then ?_
  refine sym_seq ?_
  refine St.r0 h [(14, .inl (.slice (some ⟨b, off, none⟩) n cap)), (15, .inl (.int .i64 ((n : Nat) : Int))), (16, .inl (.int .i64 (((cut n) : Nat) : Int))), (3, .inl (.int .i64 (((cut n) : Nat) : Int)))] [] ?_ ?_
  · exact oz (k_mv (.inl rfl) rfl) <|
    oz (k_ln (ad := (some ⟨b, off, none⟩)) n cap rfl rfl (fun w => len_ss _ w)) <|
    oz (k_ca 18 #[.int .i64 ((n : Nat) : Int)] (.int .i64 (((cut n) : Nat) : Int)) (fun w => cut_kr n (by omega) w) rfl rfl) <|
    oz (k_mv (.inr rfl) rfl) <|
    ok_nil
  clear h; intro β a w h
  refine sym_then ?_
  refine sym_seq ?_
  refine St.rg h [(17, .inl (.slice (some ⟨b, off, none⟩) n cap)), (18, .inl (.int .i64 (((cut n) : Nat) : Int))), (19, .inl (.slice (some ⟨b, off, none⟩) (cut n) cap)), (20, .inl (.agg (ab 32 Rlo))), (21, .inl (.slice (some ⟨b, off, none⟩) n cap)), (22, .inl (.int .i64 (((cut n) : Nat) : Int))), (23, .inl (.slice (some ⟨b, off + 32 * (cut n), none⟩) (n - (cut n)) (cap - (cut n)))), (24, .inl (.agg (ab 32 Rhi))), (25, .inl (.agg (ab 32 (nd Rlo Rhi))))] [] [(0, ab 32 (nd Rlo Rhi))] [nn, nn, nn, nn, nn, nn, nn, nn, nn, eS 0] ?_ ?_
  · exact oc (k_mv (.inl rfl) rfl) <|
    oc (k_mv (.inl rfl) rfl) <|
    oc (k_sw (.slice (some ⟨b, off, none⟩) n cap) (.slice (some ⟨b, off, none⟩) (cut n) cap) none (some (.int .i64 (((cut n) : Nat) : Int))) (sl_lo (by omega) hcap) rfl rfl) <|
    oc (k_cw 20 #[.slice (some ⟨b, off, none⟩) (cut n) cap] (.agg (ab 32 Rlo)) (fun w hw => hlo w hw) rfl rfl) <|
    oc (k_mv (.inl rfl) rfl) <|
    oc (k_mv (.inl rfl) rfl) <|
    oc (k_sw (.slice (some ⟨b, off, none⟩) n cap) (.slice (some ⟨b, off + 32 * (cut n), none⟩) (n - (cut n)) (cap - (cut n))) (some (.int .i64 (((cut n) : Nat) : Int))) none (sl_hi (by omega) hcap) rfl rfl) <|
    oc (k_cw 20 #[.slice (some ⟨b, off + 32 * (cut n), none⟩) (n - (cut n)) (cap - (cut n))] (.agg (ab 32 Rhi)) (fun w hw => hhi w hw) rfl rfl) <|
    oc (k_cw 13 #[.agg (ab 32 Rlo), .agg (ab 32 Rhi)] (.agg (ab 32 (nd Rlo Rhi))) (fun w hw => hnd w hw) rfl rfl) <|
    oc (k_st 0 0 (.agg (ab 32 (nd Rlo Rhi))) (c := ab 32 (fun _ => 0)) (n := ab 32 (nd Rlo Rhi)) (stS (F := (nd Rlo Rhi)) (c := ab 32 (fun _ => 0)) 24 (ab_size _ _)) rfl rfl) <|
    ok_nil
  clear h; intro β a w h
  refine sym_then ?_
  refine wp_ret ?_
  exact s_rc (b := 0) (t0 := 24) (c := ab 32 (nd Rlo Rhi)) h Tryd.results20 Tryd.underlying24 (fun hb => ⟨rfl, hb⟩) (by rw [ab_size]; kernel_rfl)
theorem root_r : ∀ (n : Nat) (L : List (Nat → Nat)) (a : Option Addr) (cap : Nat) (W0 : World), L.length = n → n ≤ 1000000 → SsAt W0 a L → n ≤ cap → Calls Tryd.prog 20 #[.slice a n cap] W0 fun e w' => e = .returned (.agg (ab 32 (root L))) ∧ Below W0.heap.size W0 w' := by
  intro n
  induction n using Nat.strongRecOn with
  | ind n ih =>
    intro L a cap W0 hL hm hs hcap
    rcases Nat.lt_or_ge n 2 with h2 | h2
    · rcases Nat.lt_or_ge n 1 with h1 | h1
      · obtain rfl : n = 0 := by omega
        obtain rfl := List.eq_nil_of_length_eq_zero hL
        rw [root_0]
        exact root_r_0 (fun w hw => refShort_d (f := fun _ => 0) ⟨fun _ => (by decide : 0 < 256), fun h => absurd h (by omega)⟩ (by omega))
      · obtain rfl : n = 1 := by omega
        obtain ⟨b, off, rfl, hc⟩ := hs.2 (by omega)
        obtain ⟨x, rfl⟩ : ∃ x, L = [x] := List.length_eq_one_iff.1 hL
        rw [root_1]
        exact root_r_1 (fun w hw => ld_ss (i := 0) (hs.later hw.below) (by simp))
    · obtain ⟨b, off, rfl, hc⟩ := hs.2 (by omega)
      have hk := cut_in h2
      have l1 : (L.take (cut n)).length = cut n := by rw [List.length_take]; omega
      have l2 : (L.drop (cut n)).length = n - cut n := by rw [List.length_drop]; omega
      have b1 := root_lt _ (L.take (cut n)) rfl (fun F hF => hs.1 F (List.mem_of_mem_take hF))
      have b2 := root_lt _ (L.drop (cut n)) rfl (fun F hF => hs.1 F (List.mem_of_mem_drop hF))
      rw [root_n (by omega), hL]
      exact root_r_2 h2 hm hcap hk (fun w hw => ih (cut n) hk.2.1 (L.take (cut n)) _ cap w l1 (by omega) (hs.lo.later hw.below) (by omega))
        (fun w hw => ih (n - cut n) (by omega) (L.drop (cut n)) _ (cap - cut n) w l2 (by omega) (hs.hi.later hw.below) (by omega))
        (fun w hw => node_r b1 b2)
end Go.Proofs.YtbpmgpmkmnkafaaDoor

namespace Go.Proofs.YtbpmgpmkmnkafaaDoor
open Go.ChangeShapes Go.WideShapes Go.ChangeAt Go.RowKit Sh

def eqD (F G : Nat → Nat) : Bool := (List.range 32).all fun i => F i == G i
theorem eqD_iff {F G : Nat → Nat} : eqD F G = true ↔ ∀ i, i < 32 → F i = G i := by
  unfold eqD
  rw [List.all_eq_true]
  constructor
  · intro h i hi
    exact beq_iff_eq.1 (h i (List.mem_range.2 hi))
  · intro h i hi
    exact beq_iff_eq.2 (h i (List.mem_range.1 hi))
section
variable {x u : Operand}
theorem eqS_run (F G : Nat → Nat) (w : World) : (Op.equalIn 10000 24 (.agg (ab 32 F)) (.agg (ab 32 G))).run Tryd.prog w = .ok (eqD F G) w := by
  have h1 := eq_ints (P := Tryd.prog) (t := 24) (e := 5) (n := 32) (k := .u8) (k' := .u8) Tryd.underlying24 (inf := _) rfl (by kernel_rfl) Tryd.underlying5 (fun _ => by kernel_rfl) (ab 32 F) (ab 32 G) (fun i => (F i : Int)) (fun i => (G i : Int)) (fun i hi => arr_get _ _ _ hi) (fun i hi => arr_get _ _ _ hi) w
  rw [h1]
  congr 1
  rw [Bool.eq_iff_iff, eqD_iff, decide_eq_true_eq]
  constructor <;> intro hh i hi <;> have := hh i hi <;> omega
theorem eqS (F G : Nat → Nat) (w : World) : (do eqGuard .eql 24 x u (.agg (ab 32 F)) (.agg (ab 32 G)); binOp .eql 24 (.agg (ab 32 F)) (.agg (ab 32 G))).run Tryd.prog w = .ok (.bool (eqD F G)) w := by
  simp [eqGuard, binOp, go_sem, Op.equal, Op.maxDepth, eqS_run F G w]
theorem neS (F G : Nat → Nat) (w : World) : (do eqGuard .neq 24 x u (.agg (ab 32 F)) (.agg (ab 32 G)); binOp .neq 24 (.agg (ab 32 F)) (.agg (ab 32 G))).run Tryd.prog w = .ok (.bool (!eqD F G)) w := by
  simp [eqGuard, binOp, go_sem, Op.equal, Op.maxDepth, eqS_run F G w]
theorem eqS_t {F G : Nat → Nat} (h : ∀ i, i < 32 → F i = G i) (w : World) : (do eqGuard .eql 24 x u (.agg (ab 32 F)) (.agg (ab 32 G)); binOp .eql 24 (.agg (ab 32 F)) (.agg (ab 32 G))).run Tryd.prog w = .ok (.bool true) w := by
  rw [eqS, eqD_iff.2 h]
theorem eqB_t {m n : Nat} (h : m = n) (w : World) : (do eqGuard .eql 5 x u (.int .u8 ((m : Nat) : Int)) (.int .u8 ((n : Nat) : Int)); binOp .eql 5 (.int .u8 ((m : Nat) : Int)) (.int .u8 ((n : Nat) : Int))).run Tryd.prog w = .ok (.bool true) w := by
  subst h
  simp [eqGuard, binOp, go_sem]
end
theorem ld_abv {t0 : TypeId} {N i v : Nat} {F : Nat → Nat} (hi : i < N) (hv : F i = v) (w : World) (q : Nat) (h : w.heap[q]? = some (.cells (ab N F) t0 (0, 0))) : (Instr.loadAt 5 (.pointer (some ⟨q, i, none⟩))).run Tryd.prog w = .ok (.int .u8 ((v : Nat) : Int)) w := by
  have h1 : w.cell? ⟨q, i, none⟩ = some (.int .u8 ((v : Nat) : Int)) := by rw [cell_of_row _ _ _ _ _ _ h, ← hv]; exact arr_get _ _ _ hi
  simp [Instr.loadAt, Instr.sureAddr, go_sem, h1]
/-! The tables. -/
def laidL : List (String × DataW Unit) := [("cachet/sum.cubes", Rows.laid_cachet_sum_cubes), ("cachet/sum.squares", Rows.laid_cachet_sum_squares)]
theorem gCubes : Tryd.prog.globalNamed "cachet/sum.cubes" = some 1 := by kernel_rfl
theorem gSquares : Tryd.prog.globalNamed "cachet/sum.squares" = some 0 := by kernel_rfl
theorem tCubes : (Tryd.prog.globals[1]?).map (·.type) = some 70 := by kernel_rfl
theorem tSquares : (Tryd.prog.globals[0]?).map (·.type) = some 63 := by kernel_rfl
/-- A row of words that reads as it was laid. -/
theorem row_cells {W : World} {fuel n t : Nat} {cs : List Value} {ns : List Nat} {ps : List MemPlace} {base : Nat} {sp : Nat → Bool} {held : Bool} {enc : TypeId × Value → Unit} (ht : Tryd.prog.underlying t = some (.array n 48)) (h : DataW.trod enc Tryd.prog W base sp held fuel t cs = some (.agg (ns.map fun k => .lit (.int .u64 ((k : Nat) : Int))), ps)) (hn : ns.length = n) :
    ∀ i, i < n → cs[i]? = some (.int .u64 ((ns.getD i 0 : Nat) : Int)) := by
  obtain ⟨xs, m, rfl, hx, hlen, hxs, hel⟩ := DataW.trod_array ht h
  have c1 : Tryd.prog.cellsOf 48 = 1 := by kernel_rfl
  intro i hi
  have h1 := hel i hi
  rw [c1, Nat.mul_one] at h1
  simp only [Prod.mk.injEq, DataW.agg.injEq] at hx
  have hxi : xs[i]? = some xs[i] := List.getElem?_eq_getElem (by omega)
  rw [hxi] at h1
  obtain ⟨k, e1, e2, _⟩ := DataW.trod_int Tryd.underlying48 h1
  have h3 := congrArg (·[i]?) hx.1
  simp only [List.getElem?_map] at h3
  rw [hxi, List.getElem?_eq_getElem (l := ns) (show i < ns.length by omega)] at h3
  simp only [Option.map_some, Option.some.injEq] at h3
  rw [e2] at h3
  have h4 : ((ns[i] : Nat) : Int) = k := by simpa using h3
  have h5 : cs[i]? = (cs.drop i)[0]? := by simp
  have h6 : ((cs.drop i).take 1)[0]? = (cs.drop i)[0]? := by rw [List.getElem?_take]; simp
  rw [h5, ← h6, e1, List.getD_eq_getElem?_getD, List.getElem?_eq_getElem (l := ns) (show i < ns.length by omega), Option.getD_some, h4]
  rfl
theorem cubes_L : (Rows.laid_cachet_sum_cubes : DataW Unit) = .agg (cuL.map fun k => .lit (.int .u64 ((k : Nat) : Int))) := by kernel_rfl
theorem squares_L : (Rows.laid_cachet_sum_squares : DataW Unit) = .agg (sqL.map fun k => .lit (.int .u64 ((k : Nat) : Int))) := by kernel_rfl
theorem of_laid {W : World} (h : laidMetH Tryd.prog laidL W) : Gl W := by
  rw [MakeChecks.laidMetH_plain _ _ _ (by kernel_rfl)] at h
  obtain ⟨ps, ⟨g0, t0, cs0, f0, p0, q0, hg0, ht0, hv0, hd0, ⟨g1, t1, cs1, f1, p1, q1, hg1, ht1, hv1, hd1, _, _⟩, _⟩, _, _⟩ := h
  obtain rfl := Option.some.inj (gCubes.symm.trans hg0)
  obtain rfl := Option.some.inj (gSquares.symm.trans hg1)
  obtain rfl := Option.some.inj (tCubes.symm.trans ht0)
  obtain rfl := Option.some.inj (tSquares.symm.trans ht1)
  rw [cubes_L] at hd0
  rw [squares_L] at hd1
  refine ⟨fun i hi => ?_, fun i hi => ?_⟩
  · rw [World.var?_cell hg1 hv1 i, ← Array.getElem?_toList]
    exact row_cells Tryd.underlying63 hd1 (by kernel_rfl) i hi
  · rw [World.var?_cell hg0 hv0 i, ← Array.getElem?_toList]
    exact row_cells Tryd.underlying70 hd0 (by kernel_rfl) i hi
theorem door_met (os : Os) (args : Array Value) : laidMetH Tryd.prog laidL ((World.doorLaid Tryd.prog 400 os).forCall (fun _ _ => 0) ⟨#[], args, []⟩).memory :=
  laidMetH_of_parts3 (fuel := 8) (laidMet_of_run' 8 (by kernel_rfl) (by kernel_rfl)) (by kernel_rfl) (by kernel_rfl)
end Go.Proofs.YtbpmgpmkmnkafaaDoor

namespace Go.Proofs.YtbpmgpmkmnkafaaDoor
open Go.RowKit Go.Maps Sh

def numsF (len : Nat) (f : Nat → Nat) : List Int := (List.range len).map fun i => ((f i : Nat) : Int)
/-- Bytes as a text. -/
theorem conv_f {w : World} {a : Option Addr} {len : Nat} {f : Nat → Nat} (h : Bs w a len f) (cap : Nat) : (convert 22 9 (.slice a len cap)).run Tryd.prog w = .ok (.string (strOfNums (numsF len f))) w := by
  rcases Nat.eq_zero_or_pos len with rfl | hp
  · cases a with
    | none => exact run_convert_bytes_nil w 22 5 Tryd.underlying22 Tryd.underlying5 0 cap 9 Tryd.underlying9
    | some x =>
      rw [run_convert_bytes_string w 22 9 5 _ 0 cap Tryd.underlying22 Tryd.underlying5 Tryd.underlying9, run_bytesToString w x 0 cap [] (run_loadCells_list (P := Tryd.prog) w x [] (fun j v hj => by simp at hj))]
      rfl
  · obtain ⟨b, off, rfl, hc⟩ := h.2 hp
    refine run_convert_bytes_arg w 22 5 Tryd.underlying22 Tryd.underlying5 b off len cap (numsF len f) (by simp [numsF]) (fun j hj => ?_) 9 Tryd.underlying9
    rw [hc j hj]
    simp [numsF, List.getD_eq_getElem?_getD, hj]
theorem nums_cong {len : Nat} {f g : Nat → Nat} (h : ∀ i, i < len → f i = g i) : numsF len f = numsF len g := by
  unfold numsF
  exact List.map_congr_left fun i hi => by rw [h i (List.mem_range.1 hi)]
/-- What a copy holds, with its marks. -/
def cpM (f : Nat → Nat) (len i : Nat) : Nat := if i < len then f i else if i = len then 165 else 90
theorem bs_2 (w : World) : Bs (w.alloc (.cells #[.int .u8 165, .int .u8 90] 5)) (some ⟨w.heap.size, 0, none⟩) 2 (fun i => if i = 0 then 165 else 90) :=
  ⟨fun i => by dsimp only; split <;> omega, fun _ => ⟨_, 0, rfl, fun i hi => by
    have h := (MapKept.heap_alloc w (.cells #[.int .u8 165, .int .u8 90] 5)).1
    rw [cell_of_row _ _ _ _ _ _ h]
    have hc : i = 0 ∨ i = 1 := by omega
    rcases hc with rfl | rfl <;> rfl⟩⟩
set_option maxHeartbeats 1000000 in
set_option maxRecDepth 100000 in
theorem copy_f {a : Option Addr} {len cap : Nat} {f : Nat → Nat} {w : World} (hb : Bs w a len f) (hm : len ≤ 1000000) :
    Calls Tryd.prog 9 #[.slice a len cap] w fun e w' => ∃ c q len' cap', e = .returned (.slice (some ⟨q, 0, none⟩) len' cap') ∧ w.heap.size ≤ q ∧ w'.heap[q]? = some (.cells c 5 (0, 0)) ∧ Below w.heap.size w w' ∧ (len' = len ∧ len + 2 ≤ cap' ∧ cap' ≤ c.size ∧ ∀ i, i < len + 2 → c[i]? = some (.int .u8 ((cpM f len i : Nat) : Int))) := by
  obtain ⟨i0, hi, hz0, hz1, hz2⟩ := info_parts info_u8
  obtain ⟨w1, hmk, hown0, hg0⟩ := run_make_own (P := Tryd.prog) w w.heap.size 22 5 i0 (.int .u8 0) 1 Tryd.underlying22 hi hz0 hz1 .i64 .i64 (len + 2) (by rw [hz2]; omega) (by unfold maxLen; omega) (Nat.le_refl _)
  have ec : ((len + 2 : Nat) : Int) = (len : Int) + 2 := by omega
  rw [ec] at hmk
  have hb1 : Below w.heap.size w w1 := (Below.refl _ _).grown hg0 (Nat.le_refl _) (fun k e => by cases e)
  have hbs1 := hb.later hb1
  have hX : ([] : List Value) ++ bvs len f ++ bvs 2 (fun i => if i = 0 then 165 else 90) = bvs (len + 2) (cpM f len) := by
    rw [List.nil_append, show bvs len f = bvs len (cpM f len) from bvs_cong fun i hi => by unfold cpM; rw [if_pos hi]]
    refine bvs_app fun i hi => ?_
    unfold cpM
    rw [if_neg (by omega : ¬ len + i < len)]
    by_cases e : i = 0
    · rw [if_pos e, if_pos (by omega : len + i = len)]
    · rw [if_neg e, if_neg (by omega : ¬ len + i = len)]
  clear ec hi hz0 hz1 hz2 hg0
  go_enter Tryd.func9, Tryd.ntmps9
  go_wp2_with (first
    | (at_builtin; refine wpList_append_f rfl (.tmp 6) (.tmp 7) rfl w.heap.size (.slice (some ⟨w.heap.size, 0, none⟩) 0 (len + 2)) 0 [] rfl hown0 a len cap f rfl hbs1 (by omega) hb1.size ?_; intro v2 w2 hown2 hg2 _; have hb2 := below_app hb1 hb1.size hown0 hg2)
    | (at_builtin; refine wpList_append_f rfl (.tmp 8) (.tmp 9) rfl w.heap.size v2 (0 + len) ([] ++ bvs len f) rfl (hown2.alloc _) _ 2 2 (fun i => if i = 0 then 165 else 90) rfl (bs_2 _) (by omega) (by have := hb2.size; simp; omega) ?_
       intro v3 w3 hown3 hg3 _
       have hb3 := below_app (hb2.alloc hb2.size _) (by have := hb2.size; simp; omega) (hown2.alloc _) hg3
       rw [hX, Nat.zero_add] at hown3
       rcases hown3.2 with ⟨_, h0⟩ | ⟨q, cap3, cur, rfl, hbq, hgq, hnc, hcm, hcs, hty⟩
       · exfalso; omega
       have hlen3 : ((len : Nat) : Int) ≤ ((cap3 : Nat) : Int) := by omega
       clear hg3 hg2 hown2))
  go_ret
  refine ⟨cur, q, len, cap3, rfl, hbq, hgq, hb3, rfl, hnc, ?_, fun i hi => ?_⟩
  · omega
  · have h1 := hown3.cellAt i (by omega)
    rw [bvs_get _ hi] at h1
    rw [← h1, cell_of_row _ _ _ _ _ _ hgq]
end Go.Proofs.YtbpmgpmkmnkafaaDoor

namespace Go.Proofs.YtbpmgpmkmnkafaaDoor
open Go.RowKit Go.Maps Sh

theorem gt_s {x u : Operand} {m n : Int} {b : Bool} (h : decide (n < m) = b) (w : World) : (do eqGuard .gtr 3 x u (.int .i64 m) (.int .i64 n); binOp .gtr 3 (.int .i64 m) (.int .i64 n)).run Tryd.prog w = .ok (.bool b) w := by
  subst h; simp [eqGuard, binOp, go_sem]
theorem bs_c {w : World} {c : Array Value} {q len : Nat} {f : Nat → Nat} {t : TypeId} (hf : ∀ i, f i < 256) (hq : w.heap[q]? = some (.cells c t (0, 0))) (hc : ∀ i, i < len + 2 → c[i]? = some (.int .u8 ((cpM f len i : Nat) : Int))) : Bs w (some ⟨q, 0, none⟩) len f :=
  ⟨hf, fun _ => ⟨q, 0, rfl, fun i hi => by
    rw [cell_of_row _ _ _ _ _ _ hq]
    show c[0 + i]? = _
    rw [Nat.zero_add, hc i (by omega)]
    unfold cpM
    rw [if_pos hi]⟩⟩
set_option maxHeartbeats 1000000 in
set_option maxRecDepth 100000 in
theorem kept_f {w : World} {c : Array Value} {q len cap' cap : Nat} {a : Option Addr} {f : Nat → Nat} (hb : Bs w a len f) (hq : w.heap[q]? = some (.cells c 5 (0, 0))) (hm : len ≤ 1000000) (hcap : len + 2 ≤ cap') (hc : ∀ i, i < len + 2 → c[i]? = some (.int .u8 ((cpM f len i : Nat) : Int))) :
    Calls Tryd.prog 16 #[.slice (some ⟨q, 0, none⟩) len cap', .slice a len cap] w fun e w' => e = .returned (.bool true) ∧ Below w.heap.size w w' := by
  have k1 := conv_f (bs_c hb.1 hq hc) cap'
  have k2 := conv_f hb cap
  have c1 : w.cell? ⟨q, len, none⟩ = some (.int .u8 165) := by
    rw [cell_of_row _ _ _ _ _ _ hq]
    show c[len]? = _
    rw [hc len (by omega)]
    unfold cpM
    rw [if_neg (by omega), if_pos rfl]
    rfl
  have c2 : w.cell? ⟨q, len + 1, none⟩ = some (.int .u8 90) := by
    rw [cell_of_row _ _ _ _ _ _ hq]
    show c[len + 1]? = _
    rw [hc (len + 1) (by omega)]
    unfold cpM
    rw [if_neg (by omega), if_neg (by omega)]
    rfl
  generalize strOfNums (numsF len f) = s at *
  clear hc hq hb
  go_enter Tryd.func16, Tryd.ntmps16
  go_wp2
  go_ret
  exact ⟨rfl, Below.refl _ _⟩
end Go.Proofs.YtbpmgpmkmnkafaaDoor

namespace Go.Proofs.YtbpmgpmkmnkafaaDoor
open Go.ChangeShapes Go.WideShapes Go.ChangeAt Go.RowKit Sh

theorem bs_zs {w : World} {x : Addr} {len : Nat} {zs : List Int} (hl : len ≤ zs.length) (hcell : ∀ i, i < zs.length → w.cell? (x.add i) = some (.int .u8 (zs.getD i 0))) (hwz : ∀ n ∈ zs, (Lit.int .u8 n).wf = true) : ∃ f, Bs w (some x) len f := by
  have hby : ∀ i, i < zs.length → 0 ≤ zs.getD i 0 ∧ zs.getD i 0 < 256 := by
    intro i hi
    have hm : zs.getD i 0 ∈ zs := by rw [List.getD_eq_getElem?_getD, List.getElem?_eq_getElem hi]; exact List.getElem_mem hi
    have := hwz _ hm
    simp only [Lit.wf, Bool.and_eq_true, decide_eq_true_eq] at this
    have e1 : IntKind.u8.min = 0 := rfl
    have e2 : IntKind.u8.max = 255 := rfl
    omega
  refine ⟨fun i => (zs.getD i 0).toNat % 256, fun i => Nat.mod_lt _ (by omega), fun hp => ?_⟩
  obtain ⟨b, off, spot⟩ := x
  have hc := hcell 0 (by omega)
  have hspot : spot = none := by simpa [Addr.add] using World.cell?_spot hc
  subst hspot
  refine ⟨b, off, rfl, fun i hi => ?_⟩
  have h1 := hcell i (by omega)
  rw [Addr.add_lit] at h1
  rw [h1]
  show _ = some (Value.int .u8 (((zs.getD i 0).toNat % 256 : Nat) : Int))
  have h2 := hby i (by omega)
  generalize zs.getD i 0 = z at *
  have h3 : ((z.toNat % 256 : Nat) : Int) = z := by omega
  rw [h3]
theorem ck_ab (b : Nat → Nat) : ck b = ab 32 b := rfl
section
variable {H : Type} {enc : TypeId × Value → H} {W : World} {held : Bool}
/-- Bytes. -/
theorem bytes_in {a : Option Addr} {len cap : Nat} {d : DataW H} {p : List MemPlace} (h : DataW.Trod enc Tryd.prog W 0 (fun _ => true) held 22 (.slice a len cap) d p) : ∃ f, Bs W a len f ∧ len ≤ cap ∧ ∀ x, a = some x → 0 < len → x.block < W.heap.size := by
  obtain ⟨fuel, hf⟩ := h
  rcases open_ints Tryd.underlying22 Tryd.underlying5 (by kernel_rfl) hf with ⟨hcs, _⟩ | ⟨x, l, c, zs, hcs, _, hl, hm, hz, _, hcell, hwz⟩
  · simp [Value.cells] at hcs
    obtain ⟨rfl, rfl, rfl⟩ := hcs
    exact ⟨fun _ => 0, ⟨fun _ => (by decide : 0 < 256), fun h => absurd h (by omega)⟩, Nat.le_refl _, fun x e => by cases e⟩
  · simp [Value.cells] at hcs
    obtain ⟨rfl, rfl, rfl⟩ := hcs
    obtain ⟨f, hb⟩ := bs_zs (w := W) (x := x) (len := len) (zs := zs) (by simp at hz; omega) hcell hwz
    refine ⟨f, hb, hl, fun y e hp => ?_⟩
    obtain ⟨b, off, e2, hc⟩ := hb.2 hp
    rw [e2] at e
    cases e
    exact cell_lt (hc 0 hp)
/-- One digest in a row. -/
theorem sum_in {n b o : Nat} {cs : List Value} {x : DataW H × List MemPlace} (h1 : W.cells? 0 ⟨b, o, none⟩ 32 = some cs) (h2 : DataW.trod enc Tryd.prog W 0 (fun _ => true) held n 24 cs = some x) : ∃ F : Nat → Nat, (∀ j, F j < 256) ∧ ∀ j, j < 32 → W.cell? ⟨b, o + j, none⟩ = some (.int .u8 ((F j : Nat) : Int)) := by
  obtain ⟨_, hl, hc⟩ := World.cells?_some h1
  obtain ⟨xs, m, rfl, -, hlen, hx, hi⟩ := DataW.trod_array Tryd.underlying24 h2
  have hce : Tryd.prog.cellsOf 5 = 1 := by kernel_rfl
  have hcell : ∀ i, i < 32 → ∃ n : Nat, n < 256 ∧ cs[i]? = some (.int .u8 (n : Int)) := by
    intro i hi32
    have h1 := hi i hi32
    have h2 : xs[i]? = some xs[i] := by simp [hx, hi32]
    rw [h2, hce, Nat.mul_one] at h1
    obtain ⟨n, hc, -, hw⟩ := DataW.trod_int Tryd.underlying5 h1
    have h3 : cs[i]? = some (.int .u8 n) := by
      have := congrArg (·[0]?) hc
      simpa [List.getElem?_take, List.getElem?_drop] using this
    simp only [Lit.wf, Bool.and_eq_true, decide_eq_true_eq] at hw
    have e1 : IntKind.u8.min = 0 := rfl
    have e2 : IntKind.u8.max = 255 := rfl
    refine ⟨n.toNat, by omega, ?_⟩
    rw [h3, show ((n.toNat : Nat) : Int) = n by omega]
  obtain ⟨F, hF⟩ := Deep.choose_lt hcell
  refine ⟨fun j => F j % 256, fun j => Nat.mod_lt _ (by decide), fun j hj => ?_⟩
  obtain ⟨h3, h4⟩ := hF j hj
  have h5 := hc j (by omega)
  rw [Addr.add_lit] at h5
  rw [h5, h4]
  show _ = some (Value.int .u8 ((F j % 256 : Nat) : Int))
  rw [Nat.mod_eq_of_lt h3]
/-- Rows of digests. -/
theorem sums_in {a0 : Option Addr} {len0 cap0 : Nat} {d : DataW H} {p : List MemPlace} (h : DataW.Trod enc Tryd.prog W 0 (fun _ => true) held 34 (.slice a0 len0 cap0) d p) : ∃ L : List (Nat → Nat), SsAt W a0 L ∧ L.length = len0 ∧ len0 ≤ cap0 := by
  obtain ⟨fuel, hf⟩ := h
  have c5 : Tryd.prog.cellsOf 24 = 32 := by kernel_rfl
  rcases Deep.open_slice Tryd.underlying34 hf with ⟨hcs, _⟩ | ⟨a, len, cap, m, k, D, Pl, hcs, _, hl, hm, hmm, _, hx⟩
  · simp [Value.cells] at hcs
    obtain ⟨rfl, rfl, rfl⟩ := hcs
    exact ⟨[], ⟨fun F h => (by cases h), fun h => absurd h (by simp)⟩, rfl, Nat.le_refl _⟩
  · simp [Value.cells] at hcs
    obtain ⟨rfl, rfl, rfl⟩ := hcs
    rw [if_pos rfl] at hmm
    subst hmm
    rw [c5] at hx
    obtain ⟨b, off, spot⟩ := a
    by_cases hp : 0 < len0
    · obtain rfl : spot = none := by
        obtain ⟨cs', h1, _⟩ := hx 0 (by omega)
        obtain ⟨_, hl1, hc1⟩ := World.cells?_some h1
        have h2 := hc1 0 (by omega)
        rw [List.getElem?_eq_getElem (by omega)] at h2
        simpa [Addr.add] using World.cell?_spot h2
      have hex : ∀ i, i < len0 → ∃ F : Nat → Nat, (∀ j, F j < 256) ∧ ∀ j, j < 32 → W.cell? ⟨b, off + i * 32 + j, none⟩ = some (.int .u8 ((F j : Nat) : Int)) := fun i hi => by
        obtain ⟨cs', h1, h2⟩ := hx i (by omega)
        rw [Addr.add_lit] at h1
        exact sum_in h1 h2
      obtain ⟨f, hf⟩ := Deep.choose_lt hex
      refine ⟨(List.range len0).map f, ⟨fun F hF => ?_, fun _ => ⟨b, off, rfl, fun i hi j hj => ?_⟩⟩, by simp, hl⟩
      · obtain ⟨i, hi, rfl⟩ := List.mem_map.1 hF
        exact (hf i (List.mem_range.1 hi)).1
      · simp only [List.length_map, List.length_range] at hi
        have := (hf i hi).2 j hj
        rw [Nat.mul_comm] at this
        simpa using this
    · obtain rfl : len0 = 0 := by omega
      exact ⟨[], ⟨fun F h => (by cases h), fun h => absurd h (by simp)⟩, rfl, hl⟩
end
end Go.Proofs.YtbpmgpmkmnkafaaDoor

namespace Go.Proofs.YtbpmgpmkmnkafaaDoor
open Go.RowKit Go.Maps Sh

theorem ix_st {a : Option Addr} {b off n cap i : Nat} (e : a = some ⟨b, off, none⟩) (hi : i < n) (w : World) : (Instr.indexAt 34 (.slice a n cap) (.int .i64 ((i : Nat) : Int))).run Tryd.prog w = .ok (.pointer (some ⟨b, off + 32 * i, none⟩)) w := by
  subst e; exact ix_ss hi w
theorem ld_st {w : World} {a : Option Addr} {b off i : Nat} {L : List (Nat → Nat)} (h : SsAt w a L) (e : a = some ⟨b, off, none⟩) (hi : i < L.length) : (Instr.loadAt 24 (.pointer (some ⟨b, off + 32 * i, none⟩))).run Tryd.prog w = .ok (.agg (ab 32 (L.getD i fun _ => 0))) w := by
  subst e
  rw [ld_ss h hi, List.getD_eq_getElem?_getD, List.getElem?_eq_getElem hi]; rfl
section
variable {x u : Operand}
theorem neS_f {F G : Nat → Nat} (h : eqD F G = true) (w : World) : (do eqGuard .neq 24 x u (.agg (ab 32 F)) (.agg (ab 32 G)); binOp .neq 24 (.agg (ab 32 F)) (.agg (ab 32 G))).run Tryd.prog w = .ok (.bool false) w := by
  rw [neS, h]; rfl
theorem neS_t {F G : Nat → Nat} (h : eqD F G = false) (w : World) : (do eqGuard .neq 24 x u (.agg (ab 32 F)) (.agg (ab 32 G)); binOp .neq 24 (.agg (ab 32 F)) (.agg (ab 32 G))).run Tryd.prog w = .ok (.bool true) w := by
  rw [neS, h]; rfl
end
/-- The same digests. -/
def eqLs : List (Nat → Nat) → List (Nat → Nat) → Bool
  | [], [] => true
  | F :: r, G :: s => eqD F G && eqLs r s
  | _, _ => false
theorem eqLs_refl : ∀ L : List (Nat → Nat), eqLs L L = true
  | [] => rfl
  | F :: r => by
    show (eqD F F && eqLs r r) = true
    rw [eqLs_refl r, eqD_iff.2 fun _ _ => rfl]; rfl
theorem eqLs_len : ∀ {L M : List (Nat → Nat)}, L.length ≠ M.length → eqLs L M = false
  | [], [], h => absurd rfl h
  | [], _ :: _, _ => rfl
  | _ :: _, [], _ => rfl
  | F :: r, G :: s, h => by
    show (eqD F G && eqLs r s) = false
    rw [eqLs_len (L := r) (M := s) (by simpa using h), Bool.and_false]
/-- Either all are the same, or there is a first one that isn't. -/
theorem eqLs_cases : ∀ {L M : List (Nat → Nat)}, L.length = M.length → (eqLs L M = true ∧ ∀ i, i < L.length → eqD (L.getD i fun _ => 0) (M.getD i fun _ => 0) = true) ∨ (eqLs L M = false ∧ ∃ k, k < L.length ∧ eqD (L.getD k fun _ => 0) (M.getD k fun _ => 0) = false ∧ ∀ i, i < k → eqD (L.getD i fun _ => 0) (M.getD i fun _ => 0) = true)
  | [], [], _ => .inl ⟨rfl, fun i h => absurd h (by simp)⟩
  | F :: r, G :: s, h => by
    cases e : eqD F G with
    | false => exact .inr ⟨by show (eqD F G && eqLs r s) = false; rw [e]; rfl, 0, by simp, e, fun i hi => absurd hi (by omega)⟩
    | true =>
      rcases eqLs_cases (L := r) (M := s) (by simpa using h) with ⟨h1, h2⟩ | ⟨h1, k, hk, h2, h3⟩
      · refine .inl ⟨by show (eqD F G && eqLs r s) = true; rw [e, h1]; rfl, fun i hi => ?_⟩
        rcases i with _ | i
        · exact e
        · exact h2 i (by simpa using hi)
      · refine .inr ⟨by show (eqD F G && eqLs r s) = false; rw [e, h1]; rfl, k + 1, by simpa using hk, h2, fun i hi => ?_⟩
        rcases i with _ | i
        · exact e
        · exact h3 i (by omega)
/-- Two digests held against one another, in a plain region. -/
theorem wpList_eqS {w : World} {ops : Array Oper} {rest : List Oper} {o : Oper} {a : Act} {Q : Exit → Act → World → Prop} (hgd : o.guard = none) (x u : Operand) {t' : TypeId} (ho : o.op = .binOp .eql 24 x u t') {F G : Nat → Nat} (hx : a.eval x = .agg (ab 32 F)) (hu : a.eval u = .agg (ab 32 G)) (h : wpList Tryd.prog ops Q rest (a.put o.dst (.bool (eqD F G))) w) : wpList Tryd.prog ops Q (o :: rest) a w := by
  refine wpList_plain hgd fun K hK => ?_
  have h3 := eqS (x := x) (u := u) F G w
  unfold Oper.wp
  simp only [execOp, ho, hx, hu, Sem.run_bind, h3, Result.andThen_ok, Sem.run_pure, Oper.upon_value]
  exact hK _ _ h
theorem wpList_neS {w : World} {ops : Array Oper} {rest : List Oper} {o : Oper} {a : Act} {Q : Exit → Act → World → Prop} (hgd : o.guard = none) (x u : Operand) {t' : TypeId} (ho : o.op = .binOp .neq 24 x u t') {F G : Nat → Nat} (hx : a.eval x = .agg (ab 32 F)) (hu : a.eval u = .agg (ab 32 G)) (h : wpList Tryd.prog ops Q rest (a.put o.dst (.bool (!eqD F G))) w) : wpList Tryd.prog ops Q (o :: rest) a w := by
  refine wpList_plain hgd fun K hK => ?_
  have h3 := neS (x := x) (u := u) F G w
  unfold Oper.wp
  simp only [execOp, ho, hx, hu, Sem.run_bind, h3, Result.andThen_ok, Sem.run_pure, Oper.upon_value]
  exact hK _ _ h
set_option maxHeartbeats 1000000 in
theorem sums_z {a a2 : Option Addr} {cap cap2 : Nat} {W0 : World} : Calls Tryd.prog 21 #[.slice a 0 cap, .slice a2 0 cap2] W0 fun e w' => e = .returned (.bool true) ∧ Below W0.heap.size W0 w' := by
  go_enter Tryd.func21, Tryd.ntmps21
  go_wp2
  refine wp_loop_rounds 1 ?_
  rw [rounds_succ]
  go_wp2
  go_ret
  exact ⟨rfl, Below.refl _ _⟩
end Go.Proofs.YtbpmgpmkmnkafaaDoor

namespace Go.Proofs.YtbpmgpmkmnkafaaDoor
open Go.RowKit Sh

/-- The same 32 bytes. -/
def Eq32 (F G : Nat → Nat) : Prop := ∀ i, i < 32 → F i = G i
theorem eq_root : ∀ (n : Nat) (L M : List (Nat → Nat)), L.length = n → M.length = n → (∀ i, i < n → Eq32 (L.getD i fun _ => 0) (M.getD i fun _ => 0)) → Eq32 (root L) (root M) := by
  intro n
  induction n using Nat.strongRecOn with
  | ind n ih =>
    intro L M hL hM h
    rcases Nat.lt_or_ge n 2 with h2 | h2
    · rcases Nat.lt_or_ge n 1 with h1 | h1
      · obtain rfl := List.eq_nil_of_length_eq_zero (show L.length = 0 by omega)
        obtain rfl := List.eq_nil_of_length_eq_zero (show M.length = 0 by omega)
        exact fun _ _ => rfl
      · obtain ⟨x, rfl⟩ : ∃ x, L = [x] := List.length_eq_one_iff.1 (by omega)
        obtain ⟨y, rfl⟩ : ∃ y, M = [y] := List.length_eq_one_iff.1 (by omega)
        rw [root_1, root_1]
        exact h 0 (by omega)
    · have hk := cut_in h2
      have g : ∀ (N : List (Nat → Nat)) (i k : Nat), (N.drop k).getD i (fun _ => 0) = N.getD (k + i) fun _ => 0 := fun N i k => by simp [List.getD_eq_getElem?_getD, List.getElem?_drop]
      have g2 : ∀ (N : List (Nat → Nat)) (i k : Nat), i < k → (N.take k).getD i (fun _ => 0) = N.getD i fun _ => 0 := fun N i k hi => by simp [List.getD_eq_getElem?_getD, hi]
      have e1 := ih (cut n) hk.2.1 (L.take (cut n)) (M.take (cut n)) (by rw [List.length_take]; omega) (by rw [List.length_take]; omega) (fun i hi => by rw [g2 _ _ _ hi, g2 _ _ _ hi]; exact h i (by omega))
      have e2 := ih (n - cut n) (by omega) (L.drop (cut n)) (M.drop (cut n)) (by rw [List.length_drop]; omega) (by rw [List.length_drop]; omega) (fun i hi => by rw [g, g]; exact h _ (by omega))
      rw [root_n (l := L) (by omega), root_n (l := M) (by omega), hL, hM]
      have : nd (root (L.take (cut n))) (root (L.drop (cut n))) = nd (root (M.take (cut n))) (root (M.drop (cut n))) := by
        refine dg_cong fun i hi => ?_
        unfold txt
        by_cases c0 : i = 0
        · rw [if_pos c0, if_pos c0]
        · rw [if_neg c0, if_neg c0]
          by_cases c1 : i < 33
          · rw [if_pos c1, if_pos c1, e1 (i - 1) (by omega)]
          · rw [if_neg c1, if_neg c1, e2 (i - 33) (by omega)]
      rw [this]
      exact fun _ _ => rfl
/-- The texts of digests of two that go into a row's digest. -/
def texts (l : List (Nat → Nat)) : List (Nat → Nat) :=
  if _h : l.length < 2 then [] else texts (l.take (cut l.length)) ++ texts (l.drop (cut l.length)) ++ [txt (root (l.take (cut l.length))) (root (l.drop (cut l.length)))]
termination_by l.length
decreasing_by
  · have := cut_in (n := l.length) (by omega); rw [List.length_take]; omega
  · have := cut_in (n := l.length) (by omega); rw [List.length_drop]; omega
theorem texts_s {l : List (Nat → Nat)} (h : l.length < 2) : texts l = [] := by rw [texts, dif_pos h]
theorem texts_n {l : List (Nat → Nat)} (h : 2 ≤ l.length) : texts l = texts (l.take (cut l.length)) ++ texts (l.drop (cut l.length)) ++ [txt (root (l.take (cut l.length))) (root (l.drop (cut l.length)))] := by
  rw [texts, dif_neg (by omega)]
theorem texts_len : ∀ (n : Nat) (l : List (Nat → Nat)), l.length = n → (texts l).length ≤ n := by
  intro n
  induction n using Nat.strongRecOn with
  | ind n ih =>
    intro l hl
    rcases Nat.lt_or_ge n 2 with h2 | h2
    · rw [texts_s (by omega)]; simp
    · have hk := cut_in h2
      rw [texts_n (by omega), hl]
      have a := ih (cut n) hk.2.1 (l.take (cut n)) (by rw [List.length_take]; omega)
      have b := ih (n - cut n) (by omega) (l.drop (cut n)) (by rw [List.length_drop]; omega)
      have c : n - 1 < n := by omega
      simp only [List.length_append, List.length_cons, List.length_nil]
      have key : ∀ (m : Nat) (k : List (Nat → Nat)), m < n → k.length = m → 1 ≤ m → (texts k).length ≤ m - 1 ∨ (texts k).length ≤ m := fun m k hm hk' _ => .inr (ih m hm k hk')
      have t1 : ∀ (m : Nat) (k : List (Nat → Nat)), k.length = m → 1 ≤ m → (texts k).length + 1 ≤ m := by
        intro m
        induction m using Nat.strongRecOn with
        | ind m ih2 =>
          intro k hk' h1
          rcases Nat.lt_or_ge m 2 with h3 | h3
          · rw [texts_s (by omega)]; simpa using h1
          · have hq := cut_in h3
            rw [texts_n (by omega), hk']
            have a := ih2 (cut m) hq.2.1 (k.take (cut m)) (by rw [List.length_take]; omega) (by omega)
            have b := ih2 (m - cut m) (by omega) (k.drop (cut m)) (by rw [List.length_drop]; omega) (by omega)
            simp only [List.length_append, List.length_cons, List.length_nil]
            omega
      have a1 := t1 (cut n) (l.take (cut n)) (by rw [List.length_take]; omega) (by omega)
      have b1 := t1 (n - cut n) (l.drop (cut n)) (by rw [List.length_drop]; omega) (by omega)
      omega
theorem texts_lt : ∀ (n : Nat) (l : List (Nat → Nat)), l.length = n → (∀ F ∈ l, ∀ j, F j < 256) → ∀ T ∈ texts l, ∀ j, T j < 256 := by
  intro n
  induction n using Nat.strongRecOn with
  | ind n ih =>
    intro l hl hb T hT j
    rcases Nat.lt_or_ge n 2 with h2 | h2
    · rw [texts_s (by omega)] at hT; cases hT
    · have hk := cut_in h2
      rw [texts_n (by omega), hl] at hT
      have b1 : ∀ F ∈ l.take (cut n), ∀ j, F j < 256 := fun F hF => hb F (List.mem_of_mem_take hF)
      have b2 : ∀ F ∈ l.drop (cut n), ∀ j, F j < 256 := fun F hF => hb F (List.mem_of_mem_drop hF)
      rcases List.mem_append.1 hT with hT | hT
      · rcases List.mem_append.1 hT with hT | hT
        · exact ih (cut n) hk.2.1 _ (by rw [List.length_take]; omega) b1 T hT j
        · exact ih (n - cut n) (by omega) _ (by rw [List.length_drop]; omega) b2 T hT j
      · rw [List.mem_singleton] at hT
        rw [hT]
        unfold txt
        split
        · decide
        · split
          · exact root_lt _ _ rfl b1 _
          · exact root_lt _ _ rfl b2 _
/-- Two unlike texts with one digest. -/
def Clash (T U : Nat → Nat) : Prop := Eq32 (dg 65 T) (dg 65 U) ∧ ∃ i, i < 65 ∧ T i ≠ U i
theorem clash : ∀ (n : Nat) (L M : List (Nat → Nat)), L.length = n → M.length = n → Eq32 (root L) (root M) → (∃ i, i < n ∧ ¬ Eq32 (L.getD i fun _ => 0) (M.getD i fun _ => 0)) → ∃ T ∈ texts L, ∃ U ∈ texts M, Clash T U := by
  intro n
  induction n using Nat.strongRecOn with
  | ind n ih =>
    intro L M hL hM hr hd
    rcases Nat.lt_or_ge n 2 with h2 | h2
    · exfalso
      obtain ⟨i, hi, hne⟩ := hd
      obtain rfl : n = 1 := by omega
      obtain rfl : i = 0 := by omega
      obtain ⟨x, rfl⟩ : ∃ x, L = [x] := List.length_eq_one_iff.1 hL
      obtain ⟨y, rfl⟩ : ∃ y, M = [y] := List.length_eq_one_iff.1 hM
      rw [root_1, root_1] at hr
      exact hne hr
    · have hk := cut_in h2
      have g : ∀ (N : List (Nat → Nat)) (i k : Nat), (N.drop k).getD i (fun _ => 0) = N.getD (k + i) fun _ => 0 := fun N i k => by simp [List.getD_eq_getElem?_getD, List.getElem?_drop]
      have g2 : ∀ (N : List (Nat → Nat)) (i k : Nat), i < k → (N.take k).getD i (fun _ => 0) = N.getD i fun _ => 0 := fun N i k hi => by simp [List.getD_eq_getElem?_getD, hi]
      rw [texts_n (l := L) (by omega), texts_n (l := M) (by omega), hL, hM]
      rw [root_n (l := L) (by omega), root_n (l := M) (by omega), hL, hM] at hr
      generalize hA1 : root (L.take (cut n)) = A1 at *
      generalize hA2 : root (L.drop (cut n)) = A2 at *
      generalize hB1 : root (M.take (cut n)) = B1 at *
      generalize hB2 : root (M.drop (cut n)) = B2 at *
      by_cases hT : ∃ i, i < 65 ∧ txt A1 A2 i ≠ txt B1 B2 i
      · exact ⟨txt A1 A2, by simp, txt B1 B2, by simp, hr, hT⟩
      · have hTe : ∀ i, i < 65 → txt A1 A2 i = txt B1 B2 i := fun i hi => Classical.byContradiction fun h => hT ⟨i, hi, h⟩
        have e1 : Eq32 A1 B1 := fun i hi => by
          have := hTe (i + 1) (by omega)
          unfold txt at this
          rwa [if_neg (by omega), if_pos (by omega), if_neg (by omega), if_pos (by omega), show i + 1 - 1 = i by omega] at this
        have e2 : Eq32 A2 B2 := fun i hi => by
          have := hTe (i + 33) (by omega)
          unfold txt at this
          rwa [if_neg (by omega), if_neg (by omega), if_neg (by omega), if_neg (by omega), show i + 33 - 33 = i by omega] at this
        obtain ⟨i, hi, hne⟩ := hd
        rcases Nat.lt_or_ge i (cut n) with hc | hc
        · obtain ⟨T, hT1, U, hU1, hcl⟩ := ih (cut n) hk.2.1 (L.take (cut n)) (M.take (cut n)) (by rw [List.length_take]; omega) (by rw [List.length_take]; omega) (by rw [hA1, hB1]; exact e1) ⟨i, hc, by rw [g2 _ _ _ hc, g2 _ _ _ hc]; exact hne⟩
          exact ⟨T, by simp [hT1], U, by simp [hU1], hcl⟩
        · obtain ⟨T, hT1, U, hU1, hcl⟩ := ih (n - cut n) (by omega) (L.drop (cut n)) (M.drop (cut n)) (by rw [List.length_drop]; omega) (by rw [List.length_drop]; omega) (by rw [hA2, hB2]; exact e2) ⟨i - cut n, by omega, by rw [g, g, show cut n + (i - cut n) = i by omega]; exact hne⟩
          exact ⟨T, by simp [hT1], U, by simp [hU1], hcl⟩
end Go.Proofs.YtbpmgpmkmnkafaaDoor

namespace Go.Proofs.YtbpmgpmkmnkafaaDoor
open Go.RowKit Go.Maps Sh

/-- A text of 65 bytes in a block of its own. -/
def TxV (w : World) (B : Nat) (r : Value) (T : Nat → Nat) : Prop := ∃ b c cap, r = .slice (some ⟨b, 0, none⟩) 65 cap ∧ B ≤ b ∧ 65 ≤ cap ∧ w.heap[b]? = some (.cells c 5 (0, 0)) ∧ ∀ j, j < 65 → c[j]? = some (.int .u8 ((T j : Nat) : Int))
theorem tx_own {w : World} {base B : Nat} {v : Value} {T : Nat → Nat} (hB : B ≤ base) (h : w.ownsRow base 5 1 v 65 (bvs 65 T)) : TxV w B v T := by
  rcases h.2 with ⟨_, h0⟩ | ⟨q, cap, cur, rfl, hbq, hgq, hnc, hcm, hcs, hty⟩
  · exfalso; omega
  · refine ⟨q, cur, cap, rfl, by omega, hnc, hgq, fun j hj => ?_⟩
    have h1 := h.cellAt j (by omega)
    rw [bvs_get T hj] at h1
    rw [← h1, cell_of_row _ _ _ _ _ _ hgq]
theorem TxV.later {w w' : World} {B : Nat} {r : Value} {T : Nat → Nat} (h : TxV w B r T) (hb : Below w.heap.size w w') : TxV w' B r T := by
  obtain ⟨b, c, cap, e, h1, h2, h3, h4⟩ := h
  exact ⟨b, c, cap, e, h1, h2, (hb.block b (Array.getElem?_eq_some_iff.1 h3).1).trans h3, h4⟩
theorem TxV.mono {w : World} {B B' : Nat} {r : Value} {T : Nat → Nat} (h : TxV w B r T) (hB : B' ≤ B) : TxV w B' r T := by
  obtain ⟨b, c, cap, e, h1, h2, h3, h4⟩ := h
  exact ⟨b, c, cap, e, by omega, h2, h3, h4⟩
/-- .. where a row of slices has grown. -/
theorem TxV.grown {w w' : World} {B : Nat} {r : Value} {T : Nat → Nat} {o : Option Nat} (h : TxV w B r T) (hg : w.grownBy w' o) (ho : ∀ g, o = some g → ∃ c, w.heap[g]? = some (.cells c 22 (0, 0))) : TxV w' B r T := by
  obtain ⟨b, c, cap, e, h1, h2, h3, h4⟩ := h
  refine ⟨b, c, cap, e, h1, h2, ?_, h4⟩
  have hne : some b ≠ o := by
    intro e2
    obtain ⟨c2, hc2⟩ := ho b e2.symm
    rw [h3] at hc2
    cases hc2
  exact (hg.block b (Array.getElem?_eq_some_iff.1 h3).1 hne).trans h3
theorem TxV.bs {w : World} {B : Nat} {r : Value} {T : Nat → Nat} (h : TxV w B r T) (hT : ∀ i, T i < 256) : ∃ a cap, r = .slice a 65 cap ∧ Bs w a 65 T := by
  obtain ⟨b, c, cap, e, h1, h2, h3, h4⟩ := h
  refine ⟨_, cap, e, hT, fun _ => ⟨b, 0, rfl, fun i hi => ?_⟩⟩
  rw [cell_of_row _ _ _ _ _ _ h3, Nat.zero_add]
  exact h4 i hi
/-- Texts, in the order of a row of slices. -/
def TsAt (w : World) (B : Nat) (xs : List Value) (T : List (Nat → Nat)) : Prop := xs.length = T.length ∧ ∀ i, i < T.length → TxV w B (xs.getD i undef) (T.getD i fun _ => 0)
theorem TsAt.app {w : World} {B : Nat} {xs ys : List Value} {T U : List (Nat → Nat)} (h : TsAt w B xs T) (k : TsAt w B ys U) : TsAt w B (xs ++ ys) (T ++ U) := by
  refine ⟨by rw [List.length_append, List.length_append, h.1, k.1], fun i hi => ?_⟩
  rw [List.length_append] at hi
  rcases Nat.lt_or_ge i T.length with h1 | h1
  · have := h.2 i h1
    simp only [List.getD_eq_getElem?_getD] at this ⊢
    rw [List.getElem?_append_left (by rw [h.1]; exact h1), List.getElem?_append_left h1]
    exact this
  · have := k.2 (i - T.length) (by omega)
    simp only [List.getD_eq_getElem?_getD] at this ⊢
    rw [List.getElem?_append_right (by rw [h.1]; exact h1), List.getElem?_append_right h1, h.1]
    exact this
theorem TsAt.map {w w' : World} {B B' : Nat} {xs : List Value} {T : List (Nat → Nat)} (h : TsAt w B xs T) (f : ∀ {r T}, TxV w B r T → TxV w' B' r T) : TsAt w' B' xs T := ⟨h.1, fun i hi => f (h.2 i hi)⟩
theorem TsAt.one {w : World} {B : Nat} {r : Value} {T : Nat → Nat} (h : TxV w B r T) : TsAt w B [r] [T] := ⟨rfl, fun i hi => by
  obtain rfl : i = 0 := by simp at hi; omega
  exact h⟩
theorem TsAt.none (w : World) (B : Nat) : TsAt w B [] [] := ⟨rfl, fun i hi => absurd hi (by simp)⟩
theorem info_sl : (Tryd.prog.info? 22).map (fun i => (i.zero, i.size, i.bytes)) = some (some (.slice none 0 0), 1, 24) := by kernel_rfl
theorem TsAt.cells {w : World} {B : Nat} {xs : List Value} {T : List (Nat → Nat)} (h : TsAt w B xs T) : ∀ v ∈ xs, v.oneCell' = true := by
  intro v hv
  obtain ⟨i, hi, rfl⟩ := List.getElem_of_mem hv
  obtain ⟨b, c, cap, e, _⟩ := h.2 i (by rw [← h.1]; exact hi)
  rw [List.getD_eq_getElem?_getD, List.getElem?_eq_getElem hi, Option.getD_some] at e
  rw [e]; rfl
/-- Slices are put behind a row of slices of the call's own. -/
theorem run_append_sl (w : World) (base ty : Nat) (v : Value) (n : Nat) (xs : List Value) (hown : w.ownsRow base 22 1 v n xs) (u : Value) (m : Nat) (ys : List Value) (hu : w.ownsRow 0 22 1 u m ys) (h1 : ∀ y ∈ ys, y.oneCell' = true)
    (hbytes : n + m ≤ 1000000) (hbase : base ≤ w.heap.size) :
    ∃ v' w', (Builtin.append_ #[39, 39] ty #[v, u]).run Tryd.prog w = .ok v' w' ∧ w'.ownsRow base 22 1 v' (n + m) (xs ++ ys) ∧ w.grownBy w' v.ownBlock := by
  obtain ⟨i0, hi, hz0, hz1, hz2⟩ := info_parts info_sl
  rcases hu.2 with ⟨rfl, rfl⟩ | ⟨gu, cu, curu, rfl, _, hgu, hnu, _, hcsu, htu⟩
  · obtain rfl : ys = [] := List.eq_nil_of_length_eq_zero (by rw [hu.1])
    refine ⟨v, w, ?_, by simpa using hown, ⟨rfl, rfl, rfl, Nat.le_refl _, fun _ _ _ => rfl⟩⟩
    rcases hown.2 with ⟨rfl, rfl⟩ | ⟨g, cap, cur, rfl, _, _, hnc, _⟩
    · simp [Builtin.append_, run_underlying Tryd.underlying39, sizeOf, typeInfo, hi, Builtin.lenOf, Builtin.firstCells]
    · simp [Builtin.append_, run_underlying Tryd.underlying39, sizeOf, typeInfo, hi, Builtin.lenOf, Builtin.firstCells, hnc, storeCells]
  · have hnews : ∀ j x, ys[j]? = some x → w.cell? ((⟨gu, 0, none⟩ : Addr).add j) = some x := by
      intro j x hj
      rw [← htu, List.getElem?_take] at hj
      split at hj
      · rw [Addr.add_lit, cell_of_row _ _ _ _ _ _ hgu, Nat.zero_add, ← Array.getElem?_toList]; exact hj
      · cases hj
    obtain ⟨v', w', hr, h4, h5, _, h6⟩ := run_append_own_at (P := Tryd.prog) w base 39 ty 22 i0 _ 1 24 Tryd.underlying39 hi hz0 hz1 hz2 rfl (by decide) v n xs hown ⟨gu, 0, none⟩ m cu ys (by rw [hu.1]) hnews
      h1 (by unfold maxLen; omega) (by omega) hbase
    exact ⟨v', w', hr, h4, h5⟩
theorem step_append_sl {w : World} {ops : Array Oper} {o : Oper} {a : Act} {K : Act → World → Prop} {Q : Exit → Act → World → Prop} {E : Prop} (hgd : o.guard = none) (s x : Operand)
    (ho : o.op = .call { callee := .builtin .append, args := #[s, x], argTypes := #[39, 39] }) (base : Nat)
    (v : Value) (n : Nat) (xs : List Value) (hs : a.eval s = v) (hown : w.ownsRow base 22 1 v n xs) (u : Value) (m : Nat) (ys : List Value) (hx : a.eval x = u) (hu : w.ownsRow 0 22 1 u m ys) (h1 : ∀ y ∈ ys, y.oneCell' = true)
    (hbytes : n + m ≤ 1000000) (hbase : base ≤ w.heap.size)
    (h : ∀ v' w', w'.ownsRow base 22 1 v' (n + m) (xs ++ ys) → w.grownBy w' v.ownBlock → K (a.put o.dst v') w') : if Region.wanted o (yielded ops a.tmps) = true then Oper.wp Tryd.prog o a w K Q else E := by
  have hw : Region.wanted o (yielded ops a.tmps) = true := by simp [Region.wanted, hgd]
  rw [if_pos hw]
  obtain ⟨v', w', hr, h2, h3⟩ := run_append_sl w base o.type v n xs hown u m ys hu h1 hbytes hbase
  unfold Oper.wp execOp
  simp only [ho, resolve, invoke, builtin, Sem.run_bind, Sem.run_pure, Result.andThen_ok, List.map_toArray, List.map_cons, List.map_nil, hs, hx, hr]
  exact h v' w' h2 h3
/-- A call in a region that draws, whatever it answers. -/
theorem step_any1 {w : World} {ops : Array Oper} {o : Oper} {a : Act} {K : Act → World → Prop} {Q : Exit → Act → World → Prop} {E : Prop} (hgd : o.guard = none) (f : FuncId) (x : Operand) {tys : Array TypeId} (ho : o.op = .call { callee := .value (.func f), args := #[x], argTypes := tys }) {v : Value} {J : Value → World → Prop} (hx : a.eval x = v)
    (he : ∀ w, (callFunc f #[v]).run Tryd.prog w = .ok (.enter f #[v]) w) (hc : Calls Tryd.prog f #[v] w fun e w' => ∃ r, e = .returned r ∧ J r w') (h : ∀ r w', J r w' → K (a.put o.dst r) w') : if Region.wanted o (yielded ops a.tmps) = true then Oper.wp Tryd.prog o a w K Q else E := by
  have hw : Region.wanted o (yielded ops a.tmps) = true := by simp [Region.wanted, hgd]
  rw [if_pos hw]
  have hev : a.eval (.func f) = .func (.func f) #[] #[] := rfl
  have hv : #[x].map a.eval = #[v] := by simp [hx]
  unfold Oper.wp execOp
  simp only [ho, resolve, invoke, Sem.run_bind, hv, hev, Deferred.ofValue, Sem.run_pure, Result.andThen_ok, Array.append_empty, Array.empty_append, he, Oper.upon_enter]
  exact hc.mono (by rintro e w' ⟨r, rfl, hJ⟩; exact h r w' hJ)
theorem step_any2 {w : World} {ops : Array Oper} {o : Oper} {a : Act} {K : Act → World → Prop} {Q : Exit → Act → World → Prop} {E : Prop} (hgd : o.guard = none) (f : FuncId) (x y : Operand) {tys : Array TypeId} (ho : o.op = .call { callee := .value (.func f), args := #[x, y], argTypes := tys }) {v u : Value} {J : Value → World → Prop} (hx : a.eval x = v) (hy : a.eval y = u)
    (he : ∀ w, (callFunc f #[v, u]).run Tryd.prog w = .ok (.enter f #[v, u]) w) (hc : Calls Tryd.prog f #[v, u] w fun e w' => ∃ r, e = .returned r ∧ J r w') (h : ∀ r w', J r w' → K (a.put o.dst r) w') : if Region.wanted o (yielded ops a.tmps) = true then Oper.wp Tryd.prog o a w K Q else E := by
  have hw : Region.wanted o (yielded ops a.tmps) = true := by simp [Region.wanted, hgd]
  rw [if_pos hw]
  have hev : a.eval (.func f) = .func (.func f) #[] #[] := rfl
  have hv : #[x, y].map a.eval = #[v, u] := by simp [hx, hy]
  unfold Oper.wp execOp
  simp only [ho, resolve, invoke, Sem.run_bind, hv, hev, Deferred.ofValue, Sem.run_pure, Result.andThen_ok, Array.append_empty, Array.empty_append, he, Oper.upon_enter]
  exact hc.mono (by rintro e w' ⟨r, rfl, hJ⟩; exact h r w' hJ)
set_option maxHeartbeats 4000000 in
set_option maxRecDepth 100000 in
theorem text_h {F G : Nat → Nat} {W0 : World} (hF : ∀ i, F i < 256) (hG : ∀ i, G i < 256) : Calls Tryd.prog 24 #[.agg (ab 32 F), .agg (ab 32 G)] W0 fun e w' => ∃ r, e = .returned r ∧ TxV w' W0.heap.size r (txt F G) ∧ Below W0.heap.size W0 w' := by
  obtain ⟨A, hA⟩ : ∃ A, Hid (A = ab 32 F) := ⟨_, hide1 rfl⟩
  obtain ⟨B, hB⟩ : ∃ B, Hid (B = ab 32 G) := ⟨_, hide1 rfl⟩
  obtain ⟨T, hT⟩ : ∃ T, Hid (T = txt F G) := ⟨_, hide1 rfl⟩
  have hTl : ∀ i, T i < 256 := by rw [hT.out]; exact txt_b hF hG
  have hX1 : bvs 1 (fun _ => 1) ++ bvs 32 F = bvs 33 T := by
    rw [show bvs 1 (fun _ => 1) = bvs 1 T from bvs_cong fun i hi => by rw [hT.out]; unfold txt; rw [if_pos (by omega)]]
    exact bvs_app fun i hi => by rw [hT.out]; unfold txt; rw [if_neg (by omega), if_pos (by omega), show 1 + i - 1 = i by omega]
  have hX2 : bvs 33 T ++ bvs 32 G = bvs 65 T := bvs_app fun i hi => by rw [hT.out]; unfold txt; rw [if_neg (by omega), if_neg (by omega), show 33 + i - 33 = i by omega]
  rw [← hA.out, ← hB.out, ← hT.out]
  have bxA : ∀ w : World, (Instr.box 24 (.agg A)).run Tryd.prog w = .ok (.pointer (some ⟨w.heap.size, 0, none⟩)) (w.alloc (.cells A 24)) := fun w => bx_agg w
  have bxB : ∀ w : World, (Instr.box 24 (.agg B)).run Tryd.prog w = .ok (.pointer (some ⟨w.heap.size, 0, none⟩)) (w.alloc (.cells B 24)) := fun w => bx_agg w
  obtain ⟨w1, hw1⟩ : ∃ w1, Hid (w1 = (W0.alloc (.cells A 24)).alloc (.cells B 24)) := ⟨_, hide1 rfl⟩
  have h1 : Below W0.heap.size W0 w1 := by rw [hw1.out]; exact ((Below.refl _ _).alloc (Nat.le_refl _) _).alloc (by simp) _
  have rA : w1.heap[W0.heap.size]? = some (.cells A 24 (0, 0)) := by
    rw [hw1.out, Below.heap_alloc _ _ _ (by simp)]; exact (MapKept.heap_alloc W0 _).1
  have rB : w1.heap[W0.heap.size + 1]? = some (.cells B 24 (0, 0)) := by
    rw [hw1.out]
    have := (MapKept.heap_alloc (W0.alloc (.cells A 24)) (.cells B 24)).1
    rwa [show (W0.alloc (.cells A 24)).heap.size = W0.heap.size + 1 by simp] at this
  have bA : ∀ w', Below w1.heap.size w1 w' → Bs w' (some ⟨W0.heap.size, 0, none⟩) 32 F := fun w' hb => by
    have := bs_ab (off := 0) (n := 32) hF (by rw [hA.out] at rA; exact rA) (Nat.le_refl _)
    simpa using this.later hb
  have bB : ∀ w', Below w1.heap.size w1 w' → Bs w' (some ⟨W0.heap.size + 1, 0, none⟩) 32 G := fun w' hb => by
    have := bs_ab (off := 0) (n := 32) hG (by rw [hB.out] at rB; exact rB) (Nat.le_refl _)
    simpa using this.later hb
  have hs1 := h1.size
  have hoX : ∀ w' : World, w'.heap = (w1.alloc (.cells #[.int .u8 1] 5)).heap → w'.ownsRow w1.heap.size 5 1 (.slice (some ⟨w1.heap.size, 0, none⟩) 1 1) 1 (bvs 1 fun _ => 1) := fun w' hw => by
    have h := own_one w1 1
    exact ⟨h.1, by
      rcases h.2 with e | ⟨g, cap, cur, r1, r2, r3, r4⟩
      · exact .inl e
      · exact .inr ⟨g, cap, cur, r1, r2, by rw [hw]; exact r3, r4⟩⟩
  go_enter Tryd.func24, Tryd.ntmps24
  go_upto_region 1 with fail
  rw [← hw1.out]
  replace hoX := hide1 hoX
  clear bxA bxB rA rB
  go_region_law (first
    | (refine step_append_f rfl (.tmp 5) (.tmp 6) rfl w1.heap.size _ 1 _ (by first | (simp [Act.eval]; done) | (simp [Act.eval, Act.put]; done) | rfl) (hoX.out _ rfl) _ 32 32 F (by first | (simp [Act.eval]; done) | (simp [Act.eval, Act.put]; done) | rfl) (bA _ (((Below.refl _ _).alloc (Nat.le_refl _) _).drew)) (by omega) (by simp) ?_
       intro v1 w2 ho2 hg2 _
       rw [hX1] at ho2
       have hw2 := below_app (((Below.refl _ _).alloc (Nat.le_refl _) _).drew) (by simp) (hoX.out _ rfl) hg2
       obtain ⟨a1, c1, rfl, -, -⟩ := bs_own ho2 hTl
       have hs2 := hide1 hw2.size
       clear hg2)
    | (refine step_append_f rfl (.tmp 7) (.tmp 8) rfl w1.heap.size _ 33 _ (by first | (simp [Act.eval]; done) | (simp [Act.eval, Act.put]; done) | rfl) ho2 _ 32 32 G (by first | (simp [Act.eval]; done) | (simp [Act.eval, Act.put]; done) | rfl) (bB _ hw2) (by omega) hs2.out ?_
       intro v2 w3 ho3 hg3 _
       rw [hX2] at ho3
       have hw3 := below_app hw2 hs2.out ho2 hg3
       have ht3 := tx_own hs1 ho3
       have hf3 := h1.trans (hw3.mono hs1)
       replace ht3 := hide1 ht3
       replace hf3 := hide1 hf3
       clear hg3 ho3 ho2))
  all_goals
    go_wp2
    go_ret
    exact ⟨_, rfl, ht3.out, hf3.out⟩
end Go.Proofs.YtbpmgpmkmnkafaaDoor

namespace Go.Proofs.YtbpmgpmkmnkafaaDoor
open Go.RowKit Go.Maps Sh

/-- What Texts answers. -/
def TsO (W0 : World) (T : List (Nat → Nat)) (r : Value) (w' : World) : Prop := ∃ xs, w'.ownsRow W0.heap.size 22 1 r T.length xs ∧ TsAt w' W0.heap.size xs T ∧ Below W0.heap.size W0 w'
theorem own_any {w : World} {base : Nat} {e : TypeId} {v : Value} {n : Nat} {xs : List Value} (h : w.ownsRow base e 1 v n xs) : w.ownsRow 0 e 1 v n xs := by
  refine ⟨h.1, ?_⟩
  rcases h.2 with h2 | ⟨g, cap, cur, e1, _, r⟩
  · exact .inl h2
  · exact .inr ⟨g, cap, cur, e1, Nat.zero_le _, r⟩
theorem own_at {w w' : World} {base : Nat} {e : TypeId} {v : Value} {n : Nat} {xs : List Value} (h : w.ownsRow base e 1 v n xs) (hb : Below w.heap.size w w') : w'.ownsRow base e 1 v n xs := by
  refine ⟨h.1, ?_⟩
  rcases h.2 with h2 | ⟨g, cap, cur, e1, hb', hg, r⟩
  · exact .inl h2
  · exact .inr ⟨g, cap, cur, e1, hb', (hb.block g (Array.getElem?_eq_some_iff.1 hg).1).trans hg, r⟩
theorem own_mono {w : World} {base base' : Nat} {e : TypeId} {v : Value} {n : Nat} {xs : List Value} (h : w.ownsRow base e 1 v n xs) (hb : base' ≤ base) : w.ownsRow base' e 1 v n xs := by
  refine ⟨h.1, ?_⟩
  rcases h.2 with h2 | ⟨g, cap, cur, e1, hb', r⟩
  · exact .inl h2
  · exact .inr ⟨g, cap, cur, e1, by omega, r⟩
theorem own_ty {w : World} {base : Nat} {e : TypeId} {v : Value} {n : Nat} {xs : List Value} (h : w.ownsRow base e 1 v n xs) : ∀ g, v.ownBlock = some g → ∃ c, w.heap[g]? = some (.cells c e (0, 0)) := by
  intro g hg
  rcases h.2 with ⟨rfl, _⟩ | ⟨q, cap, cur, rfl, _, hq, _⟩
  · cases hg
  · cases hg; exact ⟨cur, hq⟩
set_option maxHeartbeats 4000000 in
set_option maxRecDepth 100000 in
theorem texts_2 {b off n cap : Nat} {W0 : World} {L : List (Nat → Nat)} (hL : L.length = n) (hn : 2 ≤ n) (hm : n ≤ 1000) (hcap : n ≤ cap) (hs : SsAt W0 (some ⟨b, off, none⟩) L)
    (hlo : ∀ w, Below W0.heap.size W0 w → Calls Tryd.prog 22 #[.slice (some ⟨b, off, none⟩) (cut n) cap] w fun e w' => ∃ r, e = .returned r ∧ TsO w (texts (L.take (cut n))) r w')
    (hhi : ∀ w, Below W0.heap.size W0 w → Calls Tryd.prog 22 #[.slice (some ⟨b, off + 32 * cut n, none⟩) (n - cut n) (cap - cut n)] w fun e w' => ∃ r, e = .returned r ∧ TsO w (texts (L.drop (cut n))) r w') :
    Calls Tryd.prog 22 #[.slice (some ⟨b, off, none⟩) n cap] W0 fun e w' => ∃ r, e = .returned r ∧ TsO W0 (texts L) r w' := by
  have hk := cut_in hn
  have ht := texts_n (l := L) (by omega)
  rw [hL] at ht
  have l1 : (L.take (cut n)).length = cut n := by rw [List.length_take]; omega
  have l2 : (L.drop (cut n)).length = n - cut n := by rw [List.length_drop]; omega
  have b1 := root_lt _ (L.take (cut n)) rfl (fun F hF => hs.1 F (List.mem_of_mem_take hF))
  have b2 := root_lt _ (L.drop (cut n)) rfl (fun F hF => hs.1 F (List.mem_of_mem_drop hF))
  have tl1 := texts_len _ (L.take (cut n)) l1
  have tl2 := texts_len _ (L.drop (cut n)) l2
  have r1 := fun w (hb : Below W0.heap.size W0 w) => root_r (cut n) (L.take (cut n)) _ cap w l1 (by omega) (hs.lo.later hb) (by omega)
  have r2 := fun w (hb : Below W0.heap.size W0 w) => root_r (n - cut n) (L.drop (cut n)) _ (cap - cut n) w l2 (by omega) (hs.hi.later hb) (by omega)
  have s1 := fun w => sl_lo (b := b) (off := off) (n := n) (cap := cap) (k := cut n) (by omega) hcap w
  have s2 := fun w => sl_hi (b := b) (off := off) (n := n) (cap := cap) (k := cut n) (by omega) hcap w
  have ck := cut_r (n : Int) (by omega)
  rw [Int.toNat_natCast] at ck
  generalize hA : root (L.take (cut n)) = A at *
  generalize hB : root (L.drop (cut n)) = B at *
  have tx := fun w => text_h (W0 := w) b1 b2
  generalize hU : txt A B = U at *
  generalize hT1 : texts (L.take (cut n)) = T1 at *
  generalize hT2 : texts (L.drop (cut n)) = T2 at *
  have hnl : ¬ ((n : Int) < 2) := by omega
  rw [ht]
  replace ht := hide1 ht
  replace hA := hide1 hA
  replace hB := hide1 hB
  replace hU := hide1 hU
  replace hT1 := hide1 hT1
  replace hT2 := hide1 hT2
  replace l1 := hide1 l1
  replace l2 := hide1 l2
  generalize cut n = k at *
  obtain ⟨hk1, hk2, hk3⟩ := hk
  go_enter Tryd.func22, Tryd.ntmps22
  go_wp2_with fail
  refine (ck _).mono ?_
  rintro e w1 ⟨rfl, rfl⟩
  go_wp2_with fail
  have hbd : Below w1.heap.size w1 w1.drew := (Below.refl _ _).drew
  go_region_law (first
    | (refine step_any1 rfl 22 (.tmp 13) rfl (by first | (simp [Act.eval]; done) | (simp [Act.eval, Act.put]; done) | rfl) (fun w => by kernel_rfl) (hlo _ hbd) ?_
       rintro q1 w2 ⟨xs, ho1, ht1, hb2⟩
       replace hb2 := hbd.trans (hb2.mono (Nat.le_refl _))
       replace ho1 := hide1 ho1
       replace ht1 := hide1 ht1)
    | (refine step_any1 rfl 22 (.tmp 17) rfl (by first | (simp [Act.eval]; done) | (simp [Act.eval, Act.put]; done) | rfl) (fun w => by kernel_rfl) (hhi _ hb2) ?_
       rintro q2 w3 ⟨ys, ho2, ht2, hb3⟩
       have hs2 := hb2.size
       have ho13 := own_at ho1.out hb3
       have ht13 := ht1.out.map fun h => h.later hb3
       have hb13 := hb2.trans (hb3.mono hs2)
       have ho2a := own_any ho2
       have ht2a := ht2.map fun h => h.mono hs2
       replace ho13 := hide1 ho13
       replace ho2a := hide1 ho2a
       replace ht13 := hide1 ht13
       replace ht2a := hide1 ht2a
       replace hs2 := hide1 hs2
       clear ho1 ht1 ho2 ht2 hb3 hb2)
    | (refine step_append_sl rfl (.tmp 14) (.tmp 18) rfl w1.heap.size _ T1.length xs (by first | (simp [Act.eval]; done) | (simp [Act.eval, Act.put]; done) | rfl) ho13.out _ T2.length ys (by first | (simp [Act.eval]; done) | (simp [Act.eval, Act.put]; done) | rfl) ho2a.out ht2a.out.cells (by omega) hb13.size ?_
       intro q3 w4 ho4 hg4
       have ht4 := (ht13.out.map fun h => h.grown hg4 (own_ty ho13.out)).app (ht2a.out.map fun h => h.grown hg4 (own_ty ho13.out))
       have hb4 : Below w1.heap.size w1 w4 := hb13.grown hg4 hb13.size (fun g e => (ho13.out.lt g e).1)
       replace ho4 := hide1 ho4
       replace ht4 := hide1 ht4
       clear hg4 ho13 ho2a ht13 ht2a hb13))
  all_goals
    clear hlo hhi hbd
    go_wp2_with fail
    have hb4d : Below w1.heap.size w1 w4.drew := hb4.drew
    have r1d := fun w hb => (r1 w hb).mono (R' := fun e w' => ∃ r, e = .returned r ∧ (r = .agg (ab 32 A) ∧ Below w.heap.size w w')) fun e w' h => ⟨_, h.1, rfl, h.2⟩
    have r2d := fun w hb => (r2 w hb).mono (R' := fun e w' => ∃ r, e = .returned r ∧ (r = .agg (ab 32 B) ∧ Below w.heap.size w w')) fun e w' h => ⟨_, h.1, rfl, h.2⟩
    clear r1 r2
    have ho4d : Hid (w4.drew.ownsRow w1.heap.size 22 1 q3 (T1.length + T2.length) (xs ++ ys)) := ho4
    have ht4d : Hid (TsAt w4.drew w1.heap.size (xs ++ ys) (T1 ++ T2)) := ht4
    clear ho4 ht4 hb4
    go_region_law (first
      | (refine step_any1 rfl 20 (.tmp 23) rfl (by first | (simp [Act.eval]; done) | (simp [Act.eval, Act.put]; done) | rfl) (fun w => by kernel_rfl) (r1d _ hb4d) ?_
         rintro _ w5 ⟨rfl, hb5⟩
         have hb15 := hb4d.trans (hb5.mono hb4d.size)
         have ho5 := hide1 (own_at ho4d.out hb5)
         have ht5 := hide1 (ht4d.out.map fun h => h.later hb5))
      | (refine step_any1 rfl 20 (.tmp 27) rfl (by first | (simp [Act.eval]; done) | (simp [Act.eval, Act.put]; done) | rfl) (fun w => by kernel_rfl) (r2d _ hb15) ?_
         rintro _ w6 ⟨rfl, hb6⟩
         have hb16 := hb15.trans (hb6.mono hb15.size)
         have ho6 := hide1 (own_at ho5.out hb6)
         have ht6 := hide1 (ht5.out.map fun h => h.later hb6))
      | (refine step_any2 rfl 24 (.tmp 24) (.tmp 28) rfl (by first | rfl | (simp [Act.eval]; done)) (by first | rfl | (simp [Act.eval]; done)) (fun w => by kernel_rfl) (tx w6) ?_
         rintro rt w7 ⟨htx, hb7⟩
         have htx2 := htx
         obtain ⟨tb, _, tcap, rfl, _⟩ := htx2
         have hb17 := hb16.trans (hb7.mono hb16.size)
         have ho7 := hide1 (own_at ho6.out hb7)
         have ht7 := hide1 (ht6.out.map fun h => h.later hb7)
         have hal : Below w7.heap.size w7 (w7.alloc (.cells #[.slice (some ⟨tb, 0, none⟩) 65 tcap] 22)) := (Below.refl _ _).alloc (Nat.le_refl _) _
         have ho8 := hide1 (own_at ho7.out hal)
         have ht8 := hide1 ((ht7.out.map fun h => h.later hal).app (TsAt.one ((htx.mono hb16.size).later hal)))
         have hb18 := hb17.trans (hal.mono hb17.size)
         have hu8 : Hid ((w7.alloc (.cells #[.slice (some ⟨tb, 0, none⟩) 65 tcap] 22)).ownsRow 0 22 1 (.slice (some ⟨w7.heap.size, 0, none⟩) 1 1) 1 [.slice (some ⟨tb, 0, none⟩) 65 tcap]) := hide1 ⟨rfl, .inr ⟨w7.heap.size, 1, _, rfl, Nat.zero_le _, (MapKept.heap_alloc w7 _).1, Nat.le_refl _, by decide, rfl, rfl⟩⟩
         have hc8 : ∀ y ∈ [Value.slice (some ⟨tb, 0, none⟩) 65 tcap], y.oneCell' = true := (TsAt.one htx).cells
         clear htx hal ho7 ht7 ho6 ht6 ho5 ht5)
      | (refine step_append_sl rfl (.tmp 20) (.tmp 30) rfl w1.heap.size _ (T1.length + T2.length) (xs ++ ys) (by first | (simp [Act.eval]; done) | (simp [Act.eval, Act.put]; done) | rfl) ho8.out _ 1 [.slice (some ⟨tb, 0, none⟩) 65 tcap] (by first | (simp [Act.eval]; done) | (simp [Act.eval, Act.put]; done) | rfl) hu8.out hc8 (by omega) hb18.size ?_
         intro r9 w9 ho9 hg9
         have ht9 := hide1 (ht8.out.map fun h => h.grown hg9 (own_ty ho8.out))
         have hb9 : Below w1.heap.size w1 w9 := hb18.grown hg9 hb18.size (fun g e => (ho8.out.lt g e).1)
         replace ho9 := hide1 ho9
         clear hg9))
    all_goals
      go_wp2
      go_ret
      refine ⟨_, rfl, _, ?_, ht9.out, hb9⟩
      rw [List.length_append, List.length_append]
      exact ho9.out
theorem texts_r : ∀ (n : Nat) (L : List (Nat → Nat)) (a : Option Addr) (cap : Nat) (W0 : World), L.length = n → n ≤ 1000 → SsAt W0 a L → n ≤ cap → Calls Tryd.prog 22 #[.slice a n cap] W0 fun e w' => ∃ r, e = .returned r ∧ TsO W0 (texts L) r w' := by
  intro n
  induction n using Nat.strongRecOn with
  | ind n ih =>
    intro L a cap W0 hL hm hs hcap
    rcases Nat.lt_or_ge n 2 with h2 | h2
    · rw [texts_s (by omega)]
      have hnl : (n : Int) < 2 := by omega
      go_enter Tryd.func22, Tryd.ntmps22
      go_wp2
      go_ret
      exact ⟨_, rfl, [], ⟨rfl, .inl ⟨rfl, rfl⟩⟩, TsAt.none _ _, Below.refl _ _⟩
    · obtain ⟨b, off, rfl, hc⟩ := hs.2 (by omega)
      have hk := cut_in h2
      exact texts_2 hL h2 hm hcap hs
        (fun w hw => ih (cut n) hk.2.1 (L.take (cut n)) _ cap w (by rw [List.length_take]; omega) (by omega) (hs.lo.later hw) (by omega))
        (fun w hw => ih (n - cut n) (by omega) (L.drop (cut n)) _ (cap - cut n) w (by rw [List.length_drop]; omega) (by omega) (hs.hi.later hw) (by omega))
end Go.Proofs.YtbpmgpmkmnkafaaDoor

namespace Go.Proofs.YtbpmgpmkmnkafaaDoor
open Go.RowKit Go.Maps Sh
set_option maxHeartbeats 4000000 in
theorem sums_n {aa a2 : Option Addr} {n m cap cap2 : Nat} {W0 : World} (hne : n ≠ m) : Calls Tryd.prog 21 #[.slice aa n cap, .slice a2 m cap2] W0 fun e w' => e = .returned (.bool false) ∧ Below W0.heap.size W0 w' := by
  refine s_in Tryd.func21 Tryd.ntmps21 rfl [.inl (.slice aa n cap), .inl (.slice a2 m cap2)] ?_
  intro β a h
  refine sym_seq ?_
  refine St.r0 h [(4, .inl (.bool false))] [] ?_ ?_
  · exact oz (k_mv (.inr rfl) rfl) <|
    ok_nil
  clear h; intro β a w h
  refine sym_then ?_
  refine sym_seq ?_
  refine sym_seq ?_
  refine St.r0 h [(6, .inl (.slice aa n cap)), (7, .inl (.int .i64 ((n : Nat) : Int))), (8, .inl (.slice a2 m cap2)), (9, .inl (.int .i64 ((m : Nat) : Int))), (10, .inl (.bool true))] [] ?_ ?_
  · exact oz (k_mv (.inl rfl) rfl) <|
    oz (k_ln (ad := aa) n cap rfl rfl (fun w => len_ss _ w)) <|
    oz (k_mv (.inl rfl) rfl) <|
    oz (k_ln (ad := a2) m cap2 rfl rfl (fun w => len_ss _ w)) <|
    oz (k_bi (.int .i64 ((n : Nat) : Int)) (.int .i64 ((m : Nat) : Int)) (.bool true) (ne_i (m := ((n : Nat) : Int)) (n := ((m : Nat) : Int)) (decide_eq_true (by omega))) rfl rfl) <|
    ok_nil
  clear h; intro β a w h
  refine sym_then ?_
  refine s_ct h ?_
  refine sym_seq ?_
  refine St.r0 h [] [] ?_ ?_
  · exact oz (k_mv (.inr rfl) rfl) <|
    ok_nil
  clear h; intro β a w h
  refine sym_then ?_
  refine wp_ret ?_
  refine then_ret ?_
  exact s_rt h Tryd.results21 (fun hb => ⟨rfl, hb⟩)
set_option maxHeartbeats 4000000 in
theorem sums_t {aa a2 : Option Addr} {b off b2 off2 n cap cap2 : Nat} {L M : List (Nat → Nat)} {W0 : World} (hL : SsAt W0 aa L) (hM : SsAt W0 a2 M) (lL : L.length = n) (lM : M.length = n) (hm : n ≤ 1000000) (ea : aa = some ⟨b, off, none⟩) (eb : a2 = some ⟨b2, off2, none⟩) (heq : ∀ i, i < n → eqD (L.getD i fun _ => 0) (M.getD i fun _ => 0) = true) : Calls Tryd.prog 21 #[.slice aa n cap, .slice a2 n cap2] W0 fun e w' => e = .returned (.bool true) ∧ Below W0.heap.size W0 w' := by
  refine s_in Tryd.func21 Tryd.ntmps21 rfl [.inl (.slice aa n cap), .inl (.slice a2 n cap2)] ?_
  intro β a h
  refine sym_seq ?_
  refine St.r0 h [(4, .inl (.bool false))] [] ?_ ?_
  · exact oz (k_mv (.inr rfl) rfl) <|
    ok_nil
  clear h; intro β a w h
  refine sym_then ?_
  refine sym_seq ?_
  refine sym_seq ?_
  refine St.r0 h [(6, .inl (.slice aa n cap)), (7, .inl (.int .i64 ((n : Nat) : Int))), (8, .inl (.slice a2 n cap2)), (9, .inl (.int .i64 ((n : Nat) : Int))), (10, .inl (.bool false))] [] ?_ ?_
  · exact oz (k_mv (.inl rfl) rfl) <|
    oz (k_ln (ad := aa) n cap rfl rfl (fun w => len_ss _ w)) <|
    oz (k_mv (.inl rfl) rfl) <|
    oz (k_ln (ad := a2) n cap2 rfl rfl (fun w => len_ss _ w)) <|
    oz (k_bi (.int .i64 ((n : Nat) : Int)) (.int .i64 ((n : Nat) : Int)) (.bool false) (ne_i (m := ((n : Nat) : Int)) (n := ((n : Nat) : Int)) (decide_eq_false (by omega))) rfl rfl) <|
    ok_nil
  clear h; intro β a w h
  refine sym_then ?_
  refine s_cf h ?_
  refine wp_skip ?_
  refine sym_then ?_
  refine sym_seq ?_
  refine sym_seq ?_
  refine St.r0 h [(11, .inl (.slice aa n cap)), (12, .inl (.int .i64 ((n : Nat) : Int))), (13, .inl (.int .i64 ((0 : Nat) : Int)))] [] ?_ ?_
  · exact oz (k_mv (.inl rfl) rfl) <|
    oz (k_ln (ad := aa) n cap rfl rfl (fun w => len_ss _ w)) <|
    oz (k_mv (.inl rfl) rfl) <|
    ok_nil
  clear h; intro β a w h
  refine sym_then ?_
  refine blk_in ?_
  obtain ⟨x, h⟩ := St.jn (n := 26) h [0, 1, 6, 7, 8, 9, 10, 11, 12, 13] [.inl (.slice aa n cap), .inl (.slice a2 n cap2), .inl (.slice aa n cap), .inl (.int .i64 ((n : Nat) : Int)), .inl (.slice a2 n cap2), .inl (.int .i64 ((n : Nat) : Int)), .inl (.bool false), .inl (.slice aa n cap), .inl (.int .i64 ((n : Nat) : Int)), .inl (.int .i64 ((0 : Nat) : Int))] [] (by kernel_rfl) (by kernel_rfl) (by kernel_rfl)
  refine loop_up n (fun i a w => ∃ (x : Nat → SV) (β : Nat → Nat), St (wd W0) (ov (jk 26 x) ([0, 1, 6, 7, 8, 9, 10, 11, 12, 13].zip [.inl (.slice aa n cap), .inl (.slice a2 n cap2), .inl (.slice aa n cap), .inl (.int .i64 ((n : Nat) : Int)), .inl (.slice a2 n cap2), .inl (.int .i64 ((n : Nat) : Int)), .inl (.bool false), .inl (.slice aa n cap), .inl (.int .i64 ((n : Nat) : Int)), .inl (.int .i64 ((i : Nat) : Int))])) [] β a w) ⟨x, _, h⟩ ?_
  clear h; rintro i a w hki ⟨x, β, h⟩
  rcases Nat.lt_or_ge i n with hlti | hgei
  · refine sym_seq ?_
    refine St.r0 h [(14, .inl (.bool true))] [] ?_ ?_
    · exact oz (k_bi (.int .i64 ((i : Nat) : Int)) (.int .i64 ((n : Nat) : Int)) (.bool true) (lt_i (m := ((i : Nat) : Int)) (n := ((n : Nat) : Int)) (decide_eq_true (by omega))) rfl rfl) <|
      ok_nil
    clear h; intro β a w h
    refine sym_then ?_
    refine sym_seq ?_
    refine s_ct h ?_
    refine wp_skip ?_
    refine sym_then ?_
    refine sym_seq ?_
    refine blk_in ?_
    refine sym_seq ?_
    refine St.r0 h [(15, .inl (.int .i64 ((i : Nat) : Int))), (5, .inl (.int .i64 ((i : Nat) : Int)))] [] ?_ ?_
    · exact oz (k_mv (.inl rfl) rfl) <|
      oz (k_mv (.inr rfl) rfl) <|
      ok_nil
    clear h; intro β a w h
    refine sym_then ?_
    refine sym_seq ?_
    refine St.r0 h [(16, .inl (.slice aa n cap)), (17, .inl (.int .i64 ((i : Nat) : Int))), (18, .inl (.pointer (some ⟨b, off + 32 * i, none⟩))), (19, .inl (.agg (ab 32 (L.getD i fun _ => 0)))), (20, .inl (.slice a2 n cap2)), (21, .inl (.int .i64 ((i : Nat) : Int))), (22, .inl (.pointer (some ⟨b2, off2 + 32 * i, none⟩))), (23, .inl (.agg (ab 32 (M.getD i fun _ => 0)))), (24, .inl (.bool false))] [] ?_ ?_
    · exact oz (k_mv (.inl rfl) rfl) <|
      oz (k_mv (.inl rfl) rfl) <|
      oz (k_is (.slice aa n cap) (.int .i64 ((i : Nat) : Int)) (.pointer (some ⟨b, off + 32 * i, none⟩)) (fun w => ix_st ea (i := i) (by omega) w) rfl rfl) <|
      oz (k_lf (.pointer (some ⟨b, off + 32 * i, none⟩)) (.agg (ab 32 (L.getD i fun _ => 0))) (fun w hw => ld_st (hL.later hw.below) ea (by omega)) rfl rfl) <|
      oz (k_mv (.inl rfl) rfl) <|
      oz (k_mv (.inl rfl) rfl) <|
      oz (k_is (.slice a2 n cap2) (.int .i64 ((i : Nat) : Int)) (.pointer (some ⟨b2, off2 + 32 * i, none⟩)) (fun w => ix_st eb (i := i) (by omega) w) rfl rfl) <|
      oz (k_lf (.pointer (some ⟨b2, off2 + 32 * i, none⟩)) (.agg (ab 32 (M.getD i fun _ => 0))) (fun w hw => ld_st (hM.later hw.below) eb (by omega)) rfl rfl) <|
      oz (k_bi (.agg (ab 32 (L.getD i fun _ => 0))) (.agg (ab 32 (M.getD i fun _ => 0))) (.bool false) (neS_f (heq i (by omega))) rfl rfl) <|
      ok_nil
    clear h; intro β a w h
    refine sym_then ?_
    refine s_cf h ?_
    refine wp_skip ?_
    refine blk_norm ?_
    refine sym_then ?_
    refine St.r0 h [(25, .inl (.int .i64 (((i + 1) : Nat) : Int))), (13, .inl (.int .i64 (((i + 1) : Nat) : Int)))] [eO] ?_ ?_
    · exact oc (k_b0 (.int .i64 ((i : Nat) : Int)) (.int .i64 ((1 : Nat) : Int)) (.int .i64 (((i + 1) : Nat) : Int)) (ad_i (m := i) (n := 1) (by omega)) rfl rfl) <|
      oz (k_mv (.inl rfl) rfl) <|
      ok_nil
    clear h; intro β a w h
    obtain ⟨x, h⟩ := St.jn (n := 26) h [0, 1, 6, 7, 8, 9, 10, 11, 12, 13] [.inl (.slice aa n cap), .inl (.slice a2 n cap2), .inl (.slice aa n cap), .inl (.int .i64 ((n : Nat) : Int)), .inl (.slice a2 n cap2), .inl (.int .i64 ((n : Nat) : Int)), .inl (.bool false), .inl (.slice aa n cap), .inl (.int .i64 ((n : Nat) : Int)), .inl (.int .i64 (((i + 1) : Nat) : Int))] [] (by kernel_rfl) (by kernel_rfl) (by kernel_rfl)
    exact ⟨hlti, x, _, h⟩
  · obtain rfl : n = i := by omega
    refine sym_seq ?_
    refine St.r0 h [(14, .inl (.bool false))] [] ?_ ?_
    · exact oz (k_bi (.int .i64 ((n : Nat) : Int)) (.int .i64 ((n : Nat) : Int)) (.bool false) (lt_i (m := ((n : Nat) : Int)) (n := ((n : Nat) : Int)) (decide_eq_false (by omega))) rfl rfl) <|
      ok_nil
    clear h; intro β a w h
    refine sym_then ?_
    refine sym_seq ?_
    refine s_cf h ?_
    refine wp_exit ?_
    refine then_exit ?_
    refine then_exit ?_
    refine blk_exit ?_
    refine sym_then ?_
    refine sym_seq ?_
    refine St.r0 h [(4, .inl (.bool true))] [] ?_ ?_
    · exact oz (k_mv (.inr rfl) rfl) <|
      ok_nil
    clear h; intro β a w h
    refine sym_then ?_
    refine wp_ret ?_
    exact s_rt h Tryd.results21 (fun hb => ⟨rfl, hb⟩)
set_option maxHeartbeats 4000000 in
theorem sums_f {aa a2 : Option Addr} {b off b2 off2 n k cap cap2 : Nat} {L M : List (Nat → Nat)} {W0 : World} (hL : SsAt W0 aa L) (hM : SsAt W0 a2 M) (lL : L.length = n) (lM : M.length = n) (hm : n ≤ 1000000) (ea : aa = some ⟨b, off, none⟩) (eb : a2 = some ⟨b2, off2, none⟩) (hk : k < n) (hdif : eqD (L.getD k fun _ => 0) (M.getD k fun _ => 0) = false) (heq : ∀ i, i < k → eqD (L.getD i fun _ => 0) (M.getD i fun _ => 0) = true) : Calls Tryd.prog 21 #[.slice aa n cap, .slice a2 n cap2] W0 fun e w' => e = .returned (.bool false) ∧ Below W0.heap.size W0 w' := by
  refine s_in Tryd.func21 Tryd.ntmps21 rfl [.inl (.slice aa n cap), .inl (.slice a2 n cap2)] ?_
  intro β a h
  refine sym_seq ?_
  refine St.r0 h [(4, .inl (.bool false))] [] ?_ ?_
  · exact oz (k_mv (.inr rfl) rfl) <|
    ok_nil
  clear h; intro β a w h
  refine sym_then ?_
  refine sym_seq ?_
  refine sym_seq ?_
  refine St.r0 h [(6, .inl (.slice aa n cap)), (7, .inl (.int .i64 ((n : Nat) : Int))), (8, .inl (.slice a2 n cap2)), (9, .inl (.int .i64 ((n : Nat) : Int))), (10, .inl (.bool false))] [] ?_ ?_
  · exact oz (k_mv (.inl rfl) rfl) <|
    oz (k_ln (ad := aa) n cap rfl rfl (fun w => len_ss _ w)) <|
    oz (k_mv (.inl rfl) rfl) <|
    oz (k_ln (ad := a2) n cap2 rfl rfl (fun w => len_ss _ w)) <|
    oz (k_bi (.int .i64 ((n : Nat) : Int)) (.int .i64 ((n : Nat) : Int)) (.bool false) (ne_i (m := ((n : Nat) : Int)) (n := ((n : Nat) : Int)) (decide_eq_false (by omega))) rfl rfl) <|
    ok_nil
  clear h; intro β a w h
  refine sym_then ?_
  refine s_cf h ?_
  refine wp_skip ?_
  refine sym_then ?_
  refine sym_seq ?_
  refine sym_seq ?_
  refine St.r0 h [(11, .inl (.slice aa n cap)), (12, .inl (.int .i64 ((n : Nat) : Int))), (13, .inl (.int .i64 ((0 : Nat) : Int)))] [] ?_ ?_
  · exact oz (k_mv (.inl rfl) rfl) <|
    oz (k_ln (ad := aa) n cap rfl rfl (fun w => len_ss _ w)) <|
    oz (k_mv (.inl rfl) rfl) <|
    ok_nil
  clear h; intro β a w h
  refine sym_then ?_
  refine blk_in ?_
  obtain ⟨x, h⟩ := St.jn (n := 26) h [0, 1, 6, 7, 8, 9, 10, 11, 12, 13] [.inl (.slice aa n cap), .inl (.slice a2 n cap2), .inl (.slice aa n cap), .inl (.int .i64 ((n : Nat) : Int)), .inl (.slice a2 n cap2), .inl (.int .i64 ((n : Nat) : Int)), .inl (.bool false), .inl (.slice aa n cap), .inl (.int .i64 ((n : Nat) : Int)), .inl (.int .i64 ((0 : Nat) : Int))] [] (by kernel_rfl) (by kernel_rfl) (by kernel_rfl)
  refine loop_up k (fun i a w => ∃ (x : Nat → SV) (β : Nat → Nat), St (wd W0) (ov (jk 26 x) ([0, 1, 6, 7, 8, 9, 10, 11, 12, 13].zip [.inl (.slice aa n cap), .inl (.slice a2 n cap2), .inl (.slice aa n cap), .inl (.int .i64 ((n : Nat) : Int)), .inl (.slice a2 n cap2), .inl (.int .i64 ((n : Nat) : Int)), .inl (.bool false), .inl (.slice aa n cap), .inl (.int .i64 ((n : Nat) : Int)), .inl (.int .i64 ((i : Nat) : Int))])) [] β a w) ⟨x, _, h⟩ ?_
  clear h; rintro i a w hki ⟨x, β, h⟩
  rcases Nat.lt_or_ge i k with hlti | hgei
  · refine sym_seq ?_
    refine St.r0 h [(14, .inl (.bool true))] [] ?_ ?_
    · exact oz (k_bi (.int .i64 ((i : Nat) : Int)) (.int .i64 ((n : Nat) : Int)) (.bool true) (lt_i (m := ((i : Nat) : Int)) (n := ((n : Nat) : Int)) (decide_eq_true (by omega))) rfl rfl) <|
      ok_nil
    clear h; intro β a w h
    refine sym_then ?_
    refine sym_seq ?_
    refine s_ct h ?_
    refine wp_skip ?_
    refine sym_then ?_
    refine sym_seq ?_
    refine blk_in ?_
    refine sym_seq ?_
    refine St.r0 h [(15, .inl (.int .i64 ((i : Nat) : Int))), (5, .inl (.int .i64 ((i : Nat) : Int)))] [] ?_ ?_
    · exact oz (k_mv (.inl rfl) rfl) <|
      oz (k_mv (.inr rfl) rfl) <|
      ok_nil
    clear h; intro β a w h
    refine sym_then ?_
    refine sym_seq ?_
    refine St.r0 h [(16, .inl (.slice aa n cap)), (17, .inl (.int .i64 ((i : Nat) : Int))), (18, .inl (.pointer (some ⟨b, off + 32 * i, none⟩))), (19, .inl (.agg (ab 32 (L.getD i fun _ => 0)))), (20, .inl (.slice a2 n cap2)), (21, .inl (.int .i64 ((i : Nat) : Int))), (22, .inl (.pointer (some ⟨b2, off2 + 32 * i, none⟩))), (23, .inl (.agg (ab 32 (M.getD i fun _ => 0)))), (24, .inl (.bool false))] [] ?_ ?_
    · exact oz (k_mv (.inl rfl) rfl) <|
      oz (k_mv (.inl rfl) rfl) <|
      oz (k_is (.slice aa n cap) (.int .i64 ((i : Nat) : Int)) (.pointer (some ⟨b, off + 32 * i, none⟩)) (fun w => ix_st ea (i := i) (by omega) w) rfl rfl) <|
      oz (k_lf (.pointer (some ⟨b, off + 32 * i, none⟩)) (.agg (ab 32 (L.getD i fun _ => 0))) (fun w hw => ld_st (hL.later hw.below) ea (by omega)) rfl rfl) <|
      oz (k_mv (.inl rfl) rfl) <|
      oz (k_mv (.inl rfl) rfl) <|
      oz (k_is (.slice a2 n cap2) (.int .i64 ((i : Nat) : Int)) (.pointer (some ⟨b2, off2 + 32 * i, none⟩)) (fun w => ix_st eb (i := i) (by omega) w) rfl rfl) <|
      oz (k_lf (.pointer (some ⟨b2, off2 + 32 * i, none⟩)) (.agg (ab 32 (M.getD i fun _ => 0))) (fun w hw => ld_st (hM.later hw.below) eb (by omega)) rfl rfl) <|
      oz (k_bi (.agg (ab 32 (L.getD i fun _ => 0))) (.agg (ab 32 (M.getD i fun _ => 0))) (.bool false) (neS_f (heq i (by omega))) rfl rfl) <|
      ok_nil
    clear h; intro β a w h
    refine sym_then ?_
    refine s_cf h ?_
    refine wp_skip ?_
    refine blk_norm ?_
    refine sym_then ?_
    refine St.r0 h [(25, .inl (.int .i64 (((i + 1) : Nat) : Int))), (13, .inl (.int .i64 (((i + 1) : Nat) : Int)))] [eO] ?_ ?_
    · exact oc (k_b0 (.int .i64 ((i : Nat) : Int)) (.int .i64 ((1 : Nat) : Int)) (.int .i64 (((i + 1) : Nat) : Int)) (ad_i (m := i) (n := 1) (by omega)) rfl rfl) <|
      oz (k_mv (.inl rfl) rfl) <|
      ok_nil
    clear h; intro β a w h
    obtain ⟨x, h⟩ := St.jn (n := 26) h [0, 1, 6, 7, 8, 9, 10, 11, 12, 13] [.inl (.slice aa n cap), .inl (.slice a2 n cap2), .inl (.slice aa n cap), .inl (.int .i64 ((n : Nat) : Int)), .inl (.slice a2 n cap2), .inl (.int .i64 ((n : Nat) : Int)), .inl (.bool false), .inl (.slice aa n cap), .inl (.int .i64 ((n : Nat) : Int)), .inl (.int .i64 (((i + 1) : Nat) : Int))] [] (by kernel_rfl) (by kernel_rfl) (by kernel_rfl)
    exact ⟨hlti, x, _, h⟩
  · obtain rfl : k = i := by omega
    refine sym_seq ?_
    refine St.r0 h [(14, .inl (.bool true))] [] ?_ ?_
    · exact oz (k_bi (.int .i64 ((k : Nat) : Int)) (.int .i64 ((n : Nat) : Int)) (.bool true) (lt_i (m := ((k : Nat) : Int)) (n := ((n : Nat) : Int)) (decide_eq_true (by omega))) rfl rfl) <|
      ok_nil
    clear h; intro β a w h
    refine sym_then ?_
    refine sym_seq ?_
    refine s_ct h ?_
    refine wp_skip ?_
    refine sym_then ?_
    refine sym_seq ?_
    refine blk_in ?_
    refine sym_seq ?_
    refine St.r0 h [(15, .inl (.int .i64 ((k : Nat) : Int))), (5, .inl (.int .i64 ((k : Nat) : Int)))] [] ?_ ?_
    · exact oz (k_mv (.inl rfl) rfl) <|
      oz (k_mv (.inr rfl) rfl) <|
      ok_nil
    clear h; intro β a w h
    refine sym_then ?_
    refine sym_seq ?_
    refine St.r0 h [(16, .inl (.slice aa n cap)), (17, .inl (.int .i64 ((k : Nat) : Int))), (18, .inl (.pointer (some ⟨b, off + 32 * k, none⟩))), (19, .inl (.agg (ab 32 (L.getD k fun _ => 0)))), (20, .inl (.slice a2 n cap2)), (21, .inl (.int .i64 ((k : Nat) : Int))), (22, .inl (.pointer (some ⟨b2, off2 + 32 * k, none⟩))), (23, .inl (.agg (ab 32 (M.getD k fun _ => 0)))), (24, .inl (.bool true))] [] ?_ ?_
    · exact oz (k_mv (.inl rfl) rfl) <|
      oz (k_mv (.inl rfl) rfl) <|
      oz (k_is (.slice aa n cap) (.int .i64 ((k : Nat) : Int)) (.pointer (some ⟨b, off + 32 * k, none⟩)) (fun w => ix_st ea (i := k) (by omega) w) rfl rfl) <|
      oz (k_lf (.pointer (some ⟨b, off + 32 * k, none⟩)) (.agg (ab 32 (L.getD k fun _ => 0))) (fun w hw => ld_st (hL.later hw.below) ea (by omega)) rfl rfl) <|
      oz (k_mv (.inl rfl) rfl) <|
      oz (k_mv (.inl rfl) rfl) <|
      oz (k_is (.slice a2 n cap2) (.int .i64 ((k : Nat) : Int)) (.pointer (some ⟨b2, off2 + 32 * k, none⟩)) (fun w => ix_st eb (i := k) (by omega) w) rfl rfl) <|
      oz (k_lf (.pointer (some ⟨b2, off2 + 32 * k, none⟩)) (.agg (ab 32 (M.getD k fun _ => 0))) (fun w hw => ld_st (hM.later hw.below) eb (by omega)) rfl rfl) <|
      oz (k_bi (.agg (ab 32 (L.getD k fun _ => 0))) (.agg (ab 32 (M.getD k fun _ => 0))) (.bool true) (neS_t hdif) rfl rfl) <|
      ok_nil
    clear h; intro β a w h
    refine sym_then ?_
    refine s_ct h ?_
    refine sym_seq ?_
    refine St.r0 h [(4, .inl (.bool false))] [] ?_ ?_
    · exact oz (k_mv (.inr rfl) rfl) <|
      ok_nil
    clear h; intro β a w h
    refine sym_then ?_
    refine wp_ret ?_
    refine blk_ret ?_
    refine then_ret ?_
    refine then_ret ?_
    refine blk_ret ?_
    refine then_ret ?_
    exact s_rt h Tryd.results21 (fun hb => ⟨rfl, hb⟩)
theorem sums_d {aa a2 : Option Addr} {n m cap cap2 : Nat} {L M : List (Nat → Nat)} {W0 : World} (hL : SsAt W0 aa L) (hM : SsAt W0 a2 M) (lL : L.length = n) (lM : M.length = m) (hm : n ≤ 1000000) : Calls Tryd.prog 21 #[.slice aa n cap, .slice a2 m cap2] W0 fun e w' => e = .returned (.bool (eqLs L M)) ∧ Below W0.heap.size W0 w' := by
  by_cases hne : n = m
  · subst hne
    rcases Nat.eq_zero_or_pos n with h0 | h0
    · subst h0
      obtain rfl := List.eq_nil_of_length_eq_zero lL
      obtain rfl := List.eq_nil_of_length_eq_zero lM
      exact sums_z
    · obtain ⟨b, off, ea, _⟩ := hL.2 (by omega)
      obtain ⟨b2, off2, eb, _⟩ := hM.2 (by omega)
      rcases eqLs_cases (L := L) (M := M) (by omega) with ⟨h1, h2⟩ | ⟨h1, k, hk, h2, h3⟩
      · rw [h1]; exact sums_t hL hM lL lM hm ea eb (fun i hi => h2 i (by omega))
      · rw [h1]; exact sums_f hL hM lL lM hm ea eb (by omega) h2 h3
  · rw [eqLs_len (by omega)]
    exact sums_n hne
end Go.Proofs.YtbpmgpmkmnkafaaDoor

namespace Go.Proofs.YtbpmgpmkmnkafaaDoor
open Go.RowKit Go.Maps Sh
set_option maxHeartbeats 4000000 in
theorem alive_w {W0 : World} {LF E0 : Nat → Nat} (hLF0 : LF 0 = 110) (hLF1 : LF 1 = 52) (hleaf : ∀ w, KW (wd W0) w → Calls Tryd.prog 10 #[.slice none 0 0] w fun e w' => e = .returned (.agg (ab 32 LF)) ∧ Below w.heap.size w w')
    (hcut : ∀ w, Calls Tryd.prog 17 #[.int .i64 ((5 : Nat) : Int)] w fun e w' => e = .returned (.int .i64 ((4 : Nat) : Int)) ∧ Below w.heap.size w w') (hroot : ∀ w, KW (wd W0) w → Calls Tryd.prog 19 #[.slice none 0 0] w fun e w' => e = .returned (.agg (ab 32 E0)) ∧ Below w.heap.size w w')
    (hshort : ∀ w, KW (wd W0) w → Calls Tryd.prog 15 #[.slice none 0 0] w fun e w' => e = .returned (.agg (ab 32 E0)) ∧ Below w.heap.size w w') : Calls Tryd.prog 8 #[] W0 fun e w' => e = .returned (.bool true) ∧ Below W0.heap.size W0 w' := by
  refine s_in Tryd.func8 Tryd.ntmps8 rfl [] ?_
  intro β a h
  refine sym_seq ?_
  refine St.r0 h [(0, .inl (.bool false))] [] ?_ ?_
  · exact oz (k_mv (.inr rfl) rfl) <|
    ok_nil
  clear h; intro β a w h
  refine sym_then ?_
  refine sym_seq ?_
  refine St.rg h [(2, .inl (.agg (ab 32 LF))), (1, .inr (0, pt 0))] [(ab 32 (fun _ => 0), 24)] [(0, ab 32 LF)] [nn, eN 0, eS 0] ?_ ?_
  · exact oc (k_cw 10 #[.slice none 0 0] (.agg (ab 32 LF)) (fun w hw => hleaf w hw) rfl rfl) <|
    oc (k_al 0 alS rfl rfl) <|
    oc (k_st 0 0 (.agg (ab 32 LF)) (c := ab 32 (fun _ => 0)) (n := ab 32 LF) (stS (F := LF) (c := ab 32 (fun _ => 0)) 24 (ab_size _ _)) rfl rfl) <|
    ok_nil
  clear h; intro β a w h
  refine sym_then ?_
  refine sym_seq ?_
  refine St.r0 h [(3, .inr (0, pt 0)), (4, .inl (.int .u8 ((110 : Nat) : Int))), (5, .inl (.bool true)), (6, .inl (.bool true)), (7, .inr (0, pt 1)), (8, .inl (.int .u8 ((52 : Nat) : Int))), (9, .inl (.bool true)), (10, .inl (.bool true)), (11, .inl (.bool true)), (12, .inl (.int .i64 ((4 : Nat) : Int))), (13, .inl (.bool true)), (14, .inl (.bool true)), (15, .inl (.bool true)), (16, .inl (.agg (ab 32 E0))), (17, .inl (.agg (ab 32 E0))), (18, .inl (.bool true)), (19, .inl (.bool true)), (0, .inl (.bool true))] [nn, eR 0, nn, nn, nn, eR 0] ?_ ?_
  · exact oc (k_ia 0 0 0 (.int .i64 ((0 : Nat) : Int)) (ixS (i := 0) (by omega)) rfl rfl) <|
    oc (k_ld 0 0 (.int .u8 ((110 : Nat) : Int)) (c := ab 32 LF) (ld_abv (N := 32) (F := LF) (i := 0) (v := 110) (t0 := 24) (by omega) hLF0) rfl rfl) <|
    oc (k_bi (.int .u8 ((110 : Nat) : Int)) (.int .u8 ((110 : Nat) : Int)) (.bool true) (eqB_t rfl) rfl rfl) <|
    oc (k_mv (.inl rfl) rfl) <|
    oc (k_ia 0 0 1 (.int .i64 ((1 : Nat) : Int)) (ixS (i := 1) (by omega)) rfl rfl) <|
    oc (k_ld 0 1 (.int .u8 ((52 : Nat) : Int)) (c := ab 32 LF) (ld_abv (N := 32) (F := LF) (i := 1) (v := 52) (t0 := 24) (by omega) hLF1) rfl rfl) <|
    oz (k_bi (.int .u8 ((52 : Nat) : Int)) (.int .u8 ((52 : Nat) : Int)) (.bool true) (eqB_t rfl) rfl rfl) <|
    oz (k_pt rfl rfl) <|
    oz (k_mv (.inl rfl) rfl) <|
    oz (k_ca 17 #[.int .i64 ((5 : Nat) : Int)] (.int .i64 ((4 : Nat) : Int)) (fun w => hcut w) rfl rfl) <|
    oz (k_bi (.int .i64 ((4 : Nat) : Int)) (.int .i64 ((4 : Nat) : Int)) (.bool true) (eq_i (m := ((4 : Nat) : Int)) (n := ((4 : Nat) : Int)) (decide_eq_true rfl)) rfl rfl) <|
    oz (k_pt rfl rfl) <|
    oz (k_mv (.inl rfl) rfl) <|
    oz (k_cw 19 #[.slice none 0 0] (.agg (ab 32 E0)) (fun w hw => hroot w hw) rfl rfl) <|
    oz (k_cw 15 #[.slice none 0 0] (.agg (ab 32 E0)) (fun w hw => hshort w hw) rfl rfl) <|
    oz (k_bi (.agg (ab 32 E0)) (.agg (ab 32 E0)) (.bool true) (eqS_t (fun _ _ => rfl)) rfl rfl) <|
    oz (k_pt rfl rfl) <|
    oz (k_mv (.inr rfl) rfl) <|
    ok_nil
  clear h; intro β a w h
  refine sym_then ?_
  refine wp_ret ?_
  exact s_rt h Tryd.results8 (fun hb => ⟨rfl, hb⟩)
theorem nil_bs (w : World) : Bs w none 0 (fun _ => 0) := ⟨fun _ => (by decide : 0 < 256), fun h => absurd h (by omega)⟩
theorem nil_ss (w : World) : SsAt w none [] := ⟨fun F h => (by cases h), fun h => absurd h (by simp)⟩
theorem lf_nil : dg (1 + 0) (lfF fun _ => 0) = dg 1 (fun _ => 0) := dg_cong fun i hi => by unfold lfF; split <;> rfl
theorem cut5 : cut 5 = 4 := by decide +kernel
theorem alive_t {W0 : World} (hg : Gl W0) : Calls Tryd.prog 8 #[] W0 fun e w' => e = .returned (.bool true) ∧ Below W0.heap.size W0 w' :=
  alive_w leaf0.1 leaf0.2 (fun w hw => by have := leaf_d (cap := 0) (gl_b hg hw.below) (nil_bs w) (Nat.le_refl _) (fun x e => by cases e) (by omega); rwa [lf_nil] at this)
    (fun w => by have := cut_k 5 (by omega) w; rwa [cut5] at this)
    (fun w hw => by have := root_d 0 [] none 0 w rfl (by omega) (gl_b hg hw.below) (nil_ss w) (Nat.le_refl _); rwa [root_0] at this)
    (fun w _ => refShort_d (nil_bs w) (by omega))
end Go.Proofs.YtbpmgpmkmnkafaaDoor

namespace Go.Proofs.YtbpmgpmkmnkafaaDoor
open Go.RowKit Go.Maps Sh

theorem laidO : laidOutB Tryd.prog = true := by kernel_rfl
theorem rowK : (24 : TypeId) < Tryd.prog.types.size := of_decide_eq_true (by kernel_rfl)
theorem wideK : (match Tryd.prog.underlying 24 with | some (.array _ _) | some (.struct _) => true | _ => false) = true := by rw [Tryd.underlying24]
theorem keyL : Keyed Tryd.prog 24 := Keyed.of_law (deep_law_laid laidO (m := 3) (by omega) rowK (by kernel_rfl) wideK)
theorem mapM_some {α β : Type} {f : α → Option β} {g : α → β} : ∀ l : List α, (∀ x ∈ l, f x = some (g x)) → l.mapM f = some (l.map g)
  | [], _ => rfl
  | x :: r, h => by
    rw [List.mapM_cons, h x (by simp), mapM_some r (fun y hy => h y (by simp [hy]))]; rfl
theorem key_s (F : Nat → Nat) (hF : ∀ i, F i < 256) : ∃ kl, keyOf Tryd.prog 24 (.agg (ab 32 F)) = some kl := by
  have h1 : Tryd.prog.keyType 24 = true := by kernel_rfl
  have c1 : Tryd.prog.cellsOf 5 = 1 := by kernel_rfl
  have c2 : Tryd.prog.cellsOf 24 = 32 := by kernel_rfl
  have h2 : (Value.agg (ab 32 F)).formed Tryd.prog 24 = true := by simp [Value.formed, Tryd.underlying24, c2, ab_size]
  have hl : (Value.agg (ab 32 F)).cells.toList = (List.range 32).map fun j => Value.int .u8 ((F j : Nat) : Int) := by
    show (ab 32 F).toList = _
    rw [ab_list]
  have h3 : Tryd.prog.keyLits (Tryd.prog.types.size + 1) 24 (Value.agg (ab 32 F)).cells.toList = some (((List.range 32).map fun i => [Lit.int .u8 ((F i : Nat) : Int)]).flatten) := by
    rw [hl]
    unfold Program.keyLits
    rw [Tryd.underlying24]
    have hm : (List.range 32).mapM (fun i => Tryd.prog.keyLits Tryd.prog.types.size 5 ((((List.range 32).map fun j => Value.int .u8 ((F j : Nat) : Int)).drop (i * Tryd.prog.cellsOf 5)).take (Tryd.prog.cellsOf 5))) = some ((List.range 32).map fun i => [Lit.int .u8 ((F i : Nat) : Int)]) := by
      refine mapM_some _ fun i hi => ?_
      have hi := List.mem_range.1 hi
      rw [c1, Nat.mul_one]
      have e : (((List.range 32).map fun j => Value.int .u8 ((F j : Nat) : Int)).drop i).take 1 = [Value.int .u8 ((F i : Nat) : Int)] := by
        rw [List.take_one, List.head?_drop, List.getElem?_map, List.getElem?_range hi]; rfl
      rw [e]
      obtain ⟨k, hk⟩ : ∃ k, Tryd.prog.types.size = k + 1 := ⟨Tryd.prog.types.size - 1, (Nat.succ_pred_eq_of_pos (Nat.lt_of_le_of_lt (Nat.zero_le _) rowK)).symm⟩
      rw [hk]
      unfold Program.keyLits
      rw [Tryd.underlying5]
      have hw : (Lit.int .u8 ((F i : Nat) : Int)).wf = true := by
        have := hF i
        simp only [Lit.wf, Bool.and_eq_true, decide_eq_true_eq]
        have e1 : IntKind.u8.min = 0 := rfl
        have e2 : IntKind.u8.max = 255 := rfl
        omega
      simp [hw]
    simp only [List.length_map, List.length_range, c2, if_true, hm, Option.map_some]
  refine ⟨.string (keyBytes (((List.range 32).map fun i => [Lit.int .u8 ((F i : Nat) : Int)]).flatten)), ?_⟩
  unfold keyOf
  rw [Tryd.underlying24]
  simp only [h1, h2, Bool.and_self, if_true, h3, Option.map_some]
end Go.Proofs.YtbpmgpmkmnkafaaDoor

namespace Go.Proofs.YtbpmgpmkmnkafaaDoor
open Go.RowKit Go.Maps Sh

theorem str_inj {x y : List Int} (hx : ∀ z ∈ x, 0 ≤ z ∧ z < 256) (hy : ∀ z ∈ y, 0 ≤ z ∧ z < 256) (h : (strOfNums x).data.toList = (strOfNums y).data.toList) : x = y := by
  have h1 : x.map (fun n => UInt8.ofNat n.toNat) = y.map (fun n => UInt8.ofNat n.toNat) := by
    rw [← strOfNums_data, ← strOfNums_data]; exact h
  have h2 : ∀ l : List Int, (∀ z ∈ l, 0 ≤ z ∧ z < 256) → (l.map (fun n => UInt8.ofNat n.toNat)).map (fun u => ((u.toNat : Nat) : Int)) = l := by
    intro l hl
    rw [List.map_map]
    conv => rhs; rw [← List.map_id l]
    apply List.map_congr_left
    intro z hz
    have := hl z hz
    simp
    omega
  rw [← h2 x hx, ← h2 y hy, h1]
/-- A text's string. -/
def stT (T : Nat → Nat) : ByteArray := strOfNums (numsF 65 T)
theorem stT_inj {T U : Nat → Nat} (hT : ∀ i, T i < 256) (hU : ∀ i, U i < 256) (h : (stT T).data.toList = (stT U).data.toList) : ∀ i, i < 65 → T i = U i := by
  have hb : ∀ {V : Nat → Nat}, (∀ i, V i < 256) → ∀ z ∈ numsF 65 V, 0 ≤ z ∧ z < 256 := by
    intro V hV z hz
    obtain ⟨i, _, rfl⟩ := List.mem_map.1 hz
    have := hV i
    omega
  have h1 := str_inj (hb hT) (hb hU) h
  intro i hi
  have h2 := congrArg (·[i]?) h1
  simp only [numsF, List.getElem?_map, List.getElem?_range hi, Option.map_some, Option.some.injEq] at h2
  omega
theorem stT_size (T : Nat → Nat) : (stT T).size ≤ maxLen := by
  have h1 : (stT T).data.toList.length = 65 := by
    unfold stT
    rw [strOfNums_data]; simp [numsF]
  have h2 : (stT T).size = 65 := by
    rw [Array.length_toList] at h1
    exact h1
  unfold maxLen; omega
/-- What the rounds have seen: each text's string stands at its digest. -/
def Seen (D : DataW Unit) (key : Nat → Lit) (T : List (Nat → Nat)) (k : Nat) : Prop := ∀ i, i < k → D.atKey (key i) .nil = .lit (.string (stT (T.getD i fun _ => 0)).data.toList)
theorem isMap_own {w : World} {P : Program} {k : TypeId} {R : Value → Option (DataW Unit × List MemPlace)} {b n : Nat} {D : DataW Unit} (h : w.ownsMap P k R b n D) : IsMap D := by
  obtain ⟨es, clock, _, _, _, rfl⟩ := h
  exact ⟨_, rfl⟩
/-- A look-up: nothing there, or a text's string. -/
theorem look_s {w : World} {b n : Nat} {D : DataW Unit} {F : Nat → Nat} {kl : Lit} (h : w.ownsMap Tryd.prog 24 (plainElem Tryd.prog 9) b n D) (hk : keyOf Tryd.prog 24 (.agg (ab 32 F)) = some kl) :
    ((Instr.lookup 38 (.map (some b)) (.agg (ab 32 F)) true).run Tryd.prog w = .ok (.tuple #[.string ByteArray.empty, .bool false]) w ∧ ∀ z, D.atKey kl z = z) ∨
    ∃ s, (Instr.lookup 38 (.map (some b)) (.agg (ab 32 F)) true).run Tryd.prog w = .ok (.tuple #[.string s, .bool true]) w ∧ ∀ z, D.atKey kl z = .lit (.string s.data.toList) := by
  obtain ⟨es, clock, hb, hF, _, rfl⟩ := h
  have hz : (zeroValue 9).run Tryd.prog w = .ok (.string ByteArray.empty) w := by kernel_rfl
  rcases fit_look true keyL Tryd.underlying38 hz hb hF hk with ⟨h1, _, h2⟩ | ⟨e0, y, _, _, h1, h2, h3, _⟩
  · exact .inl ⟨h1, h2⟩
  · refine .inr ?_
    have hy : ∃ s, e0.val = .string s ∧ y.1 = .lit (.string s.data.toList) := by
      unfold plainElem at h2
      rw [Tryd.underlying9] at h2
      cases hv : e0.val with
      | string s =>
        rw [hv] at h2
        simp only at h2
        split at h2
        · cases h2; exact ⟨s, rfl, rfl⟩
        · cases h2
      | _ => rw [hv] at h2; simp at h2
    obtain ⟨s, e1, e2⟩ := hy
    refine ⟨s, by rw [h1, e1]; rfl, fun z => by rw [h3 z, e2]⟩
end Go.Proofs.YtbpmgpmkmnkafaaDoor

namespace Go.Proofs.YtbpmgpmkmnkafaaDoor
open Go.RowKit Go.Maps Sh

set_option maxHeartbeats 4000000 in
set_option maxRecDepth 100000 in
theorem unlike_a {a1 a2 : Option Addr} {n m cap1 cap2 : Nat} {W0 : World} (hg : Gl W0) (h : n ≠ m ∨ 100 < n) : Calls Tryd.prog 6 #[.slice a1 n cap1, .slice a2 m cap2] W0 fun e w' => e = .returned (.bool true) ∧ Below W0.heap.size W0 w' := by
  by_cases hne : n = m
  · subst hne
    have hq : (100 : Int) < (n : Int) := by omega
    go_enter Tryd.func6, Tryd.ntmps6
    go_wp2_with fail
    refine (alive_t hg).mono ?_
    rintro e w1 ⟨rfl, hb1⟩
    go_wp2
    go_ret
    exact ⟨rfl, hb1⟩
  · have hq : ((n : Int) != (m : Int)) = true := by simp; omega
    go_enter Tryd.func6, Tryd.ntmps6
    go_wp2_with fail
    refine (alive_t hg).mono ?_
    rintro e w1 ⟨rfl, hb1⟩
    go_wp2
    go_ret
    exact ⟨rfl, hb1⟩
set_option maxHeartbeats 4000000 in
set_option maxRecDepth 100000 in
theorem unlike_b {a1 a2 : Option Addr} {n cap1 cap2 : Nat} {L M : List (Nat → Nat)} {W0 : World} (hg : Gl W0) (h100 : n ≤ 100) (hL : L.length = n) (hM : M.length = n) (hs1 : SsAt W0 a1 L) (hs2 : SsAt W0 a2 M) (hc1 : n ≤ cap1) (hc2 : n ≤ cap2) (h : eqLs L M = true ∨ eqD (root L) (root M) = false) : Calls Tryd.prog 6 #[.slice a1 n cap1, .slice a2 n cap2] W0 fun e w' => e = .returned (.bool true) ∧ Below W0.heap.size W0 w' := by
  have hq : ¬ (100 : Int) < (n : Int) := by omega
  have hr1 := fun w (hb : Below W0.heap.size W0 w) => root_d n L a1 cap1 w hL (by omega) (gl_b hg hb) (hs1.later hb) hc1
  have hr2 := fun w (hb : Below W0.heap.size W0 w) => root_d n M a2 cap2 w hM (by omega) (gl_b hg hb) (hs2.later hb) hc2
  by_cases hls : eqLs L M = true
  · have hed : eqD (root L) (root M) = true := by
      refine eqD_iff.2 (eq_root n L M hL hM fun i hi => ?_)
      rcases eqLs_cases (L := L) (M := M) (by omega) with ⟨_, h2⟩ | ⟨h1, _⟩
      · exact eqD_iff.1 (h2 i (by omega))
      · rw [h1] at hls; cases hls
    generalize root L = A at *
    generalize root M = B at *
    go_enter Tryd.func6, Tryd.ntmps6
    go_wp2_with fail
    refine (alive_t hg).mono ?_
    rintro e w1 ⟨rfl, hb1⟩
    have hsu := sums_d (cap := cap1) (cap2 := cap2) (W0 := w1) (hs1.later hb1) (hs2.later hb1) hL hM (by omega)
    rw [hls] at hsu
    go_wp2_with fail
    refine hsu.mono ?_
    rintro e w2 ⟨rfl, hb2⟩
    have hb02 := hb1.trans (hb2.mono hb1.size)
    go_wp2_with fail
    refine (hr1 w2 hb02).mono ?_
    rintro e w3 ⟨rfl, hb3⟩
    have hb03 := hb02.trans (hb3.mono hb02.size)
    go_wp2_with fail
    refine (hr2 w3 hb03).mono ?_
    rintro e w4 ⟨rfl, hb4⟩
    have hb04 := hb03.trans (hb4.mono hb03.size)
    clear hr1 hr2 hsu
    go_wp2_with (refine wpList_eqS rfl (.tmp 27) (.tmp 29) rfl (F := A) (G := B) rfl rfl ?_; rw [hed])
    go_ret
    exact ⟨rfl, hb04⟩
  · have hls : eqLs L M = false := by simpa using hls
    have hed : eqD (root L) (root M) = false := by
      rcases h with h | h
      · rw [hls] at h; cases h
      · exact h
    generalize root L = A at *
    generalize root M = B at *
    go_enter Tryd.func6, Tryd.ntmps6
    go_wp2_with fail
    refine (alive_t hg).mono ?_
    rintro e w1 ⟨rfl, hb1⟩
    have hsu := sums_d (cap := cap1) (cap2 := cap2) (W0 := w1) (hs1.later hb1) (hs2.later hb1) hL hM (by omega)
    rw [hls] at hsu
    go_wp2_with fail
    refine hsu.mono ?_
    rintro e w2 ⟨rfl, hb2⟩
    have hb02 := hb1.trans (hb2.mono hb1.size)
    go_wp2_with fail
    refine (hr1 w2 hb02).mono ?_
    rintro e w3 ⟨rfl, hb3⟩
    have hb03 := hb02.trans (hb3.mono hb02.size)
    go_wp2_with fail
    refine (hr2 w3 hb03).mono ?_
    rintro e w4 ⟨rfl, hb4⟩
    have hb04 := hb03.trans (hb4.mono hb03.size)
    clear hr1 hr2 hsu
    go_wp2_with (refine wpList_neS rfl (.tmp 32) (.tmp 34) rfl (F := A) (G := B) rfl rfl ?_; rw [hed])
    go_ret
    exact ⟨rfl, hb04⟩
end Go.Proofs.YtbpmgpmkmnkafaaDoor

namespace Go.Proofs.YtbpmgpmkmnkafaaDoor
open Go.RowKit Go.Maps Sh

theorem wpList_append_sl {w : World} {ops : Array Oper} {rest : List Oper} {o : Oper} {a : Act} {Q : Exit → Act → World → Prop} (hgd : o.guard = none) (s x : Operand)
    (ho : o.op = .call { callee := .builtin .append, args := #[s, x], argTypes := #[39, 39] }) (base : Nat)
    (v : Value) (n : Nat) (xs : List Value) (hs : a.eval s = v) (hown : w.ownsRow base 22 1 v n xs) (u : Value) (m : Nat) (ys : List Value) (hx : a.eval x = u) (hu : w.ownsRow 0 22 1 u m ys) (h1 : ∀ y ∈ ys, y.oneCell' = true)
    (hbytes : n + m ≤ 1000000) (hbase : base ≤ w.heap.size)
    (h : ∀ v' w', w'.ownsRow base 22 1 v' (n + m) (xs ++ ys) → w.grownBy w' v.ownBlock → wpList Tryd.prog ops Q rest (a.put o.dst v') w') : wpList Tryd.prog ops Q (o :: rest) a w := by
  refine wpList_plain hgd fun K hK => ?_
  obtain ⟨v', w', hr, h2, h3⟩ := run_append_sl w base o.type v n xs hown u m ys hu h1 hbytes hbase
  unfold Oper.wp execOp
  simp only [ho, resolve, invoke, builtin, Sem.run_bind, Sem.run_pure, Result.andThen_ok, List.map_toArray, List.map_cons, List.map_nil, hs, hx, hr]
  exact hK _ _ (h v' w' h2 h3)
/-- What stands while the texts are gone through. -/
structure Un (W0 w : World) (bm g cap : Nat) (xs : List Value) (T : List (Nat → Nat)) (key : Nat → Lit) (k : Nat) (D : DataW Unit) : Prop where
  row : w.ownsRow W0.heap.size 22 1 (.slice (some ⟨g, 0, none⟩) T.length cap) T.length xs
  ts : TsAt w W0.heap.size xs T
  bl : Below W0.heap.size W0 w
  mp : w.ownsMap Tryd.prog 24 (plainElem Tryd.prog 9) bm k D
  mb : W0.heap.size ≤ bm
  sn : Seen D key T k
theorem Un.later {W0 w w' : World} {bm g cap : Nat} {xs : List Value} {T : List (Nat → Nat)} {key : Nat → Lit} {k : Nat} {D : DataW Unit} (h : Un W0 w bm g cap xs T key k D) (hb : Below w.heap.size w w') : Un W0 w' bm g cap xs T key k D :=
  ⟨own_at h.row hb, h.ts.map fun t => t.later hb, h.bl.trans (hb.mono h.bl.size), by
    obtain ⟨es, clock, h1, h2⟩ := h.mp
    exact ⟨es, clock, (hb.block bm (Array.getElem?_eq_some_iff.1 h1).1).trans h1, h2⟩, h.mb, h.sn⟩
/-- .. behind a store into the map. -/
theorem Un.next {W0 w w' : World} {bm g cap : Nat} {xs : List Value} {T : List (Nat → Nat)} {key : Nat → Lit} {k : Nat} {D : DataW Unit} (h : Un W0 w bm g cap xs T key k D) (hg : w.grownBy w' (some bm)) (hm : w'.ownsMap Tryd.prog 24 (plainElem Tryd.prog 9) bm (k + 1) (D.put (key k) (.lit (.string (stT (T.getD k fun _ => 0)).data.toList)))) (hk : WideAt.IsKeyLit (key k)) (hsn : ∀ i, i < k → key i = key k → (stT (T.getD i fun _ => 0)).data.toList = (stT (T.getD k fun _ => 0)).data.toList) :
    Un W0 w' bm g cap xs T key (k + 1) (D.put (key k) (.lit (.string (stT (T.getD k fun _ => 0)).data.toList))) := by
  obtain ⟨es, clock, hm1, _⟩ := h.mp
  have hne : ∀ q c t, w.heap[q]? = some (.cells c t (0, 0)) → some q ≠ some bm := by
    intro q c t hq e
    cases e
    rw [hm1] at hq; cases hq
  refine ⟨⟨h.row.1, ?_⟩, h.ts.map fun t => ?_, h.bl.grown hg h.bl.size (fun q e => by cases e; exact h.mb), hm, h.mb, fun i hi => ?_⟩
  · rcases h.row.2 with ⟨e, _⟩ | ⟨q, c, cur, e1, hb', hq, r⟩
    · cases e
    · exact .inr ⟨q, c, cur, e1, hb', (hg.block q (Array.getElem?_eq_some_iff.1 hq).1 (hne _ _ _ hq)).trans hq, r⟩
  · obtain ⟨b, c, cp, e, h1, h2, h3, h4⟩ := t
    exact ⟨b, c, cp, e, h1, h2, (hg.block b (Array.getElem?_eq_some_iff.1 h3).1 (hne _ _ _ h3)).trans h3, h4⟩
  · by_cases e : key i = key k
    · rw [e, atKey_put_same (isMap_own h.mp) hk]
      by_cases e2 : i = k
      · rw [e2]
      · rw [hsn i (by omega) e]
    · rw [atKey_put_other e]
      exact h.sn i (by
        have : i ≠ k := fun e2 => e (by rw [e2])
        omega)
set_option maxHeartbeats 8000000 in
set_option maxRecDepth 100000 in
theorem unlike_c {a1 a2 : Option Addr} {n cap1 cap2 : Nat} {L M : List (Nat → Nat)} {W0 : World} (hg : Gl W0) (h100 : n ≤ 100) (hL : L.length = n) (hM : M.length = n) (hs1 : SsAt W0 a1 L) (hs2 : SsAt W0 a2 M) (hc1 : n ≤ cap1) (hc2 : n ≤ cap2) (hls : eqLs L M = false) (hed : eqD (root L) (root M) = true) : Calls Tryd.prog 6 #[.slice a1 n cap1, .slice a2 n cap2] W0 fun e w' => e = .returned (.bool true) ∧ Below W0.heap.size W0 w' := by
  have hq : ¬ (100 : Int) < (n : Int) := by omega
  have hr1 := fun w (hb : Below W0.heap.size W0 w) => root_d n L a1 cap1 w hL (by omega) (gl_b hg hb) (hs1.later hb) hc1
  have hr2 := fun w (hb : Below W0.heap.size W0 w) => root_d n M a2 cap2 w hM (by omega) (gl_b hg hb) (hs2.later hb) hc2
  have ht1 := fun w (hb : Below W0.heap.size W0 w) => texts_r n L a1 cap1 w hL (by omega) (hs1.later hb) hc1
  have ht2 := fun w (hb : Below W0.heap.size W0 w) => texts_r n M a2 cap2 w hM (by omega) (hs2.later hb) hc2
  obtain ⟨T0, hT0, U0, hU0, hcl⟩ := clash n L M hL hM (eqD_iff.1 hed) (by
    rcases eqLs_cases (L := L) (M := M) (by omega) with ⟨h1, _⟩ | ⟨_, k, hk, h2, _⟩
    · rw [h1] at hls; cases hls
    · exact ⟨k, by omega, fun h => by rw [eqD_iff.2 h] at h2; cases h2⟩)
  have hl1 := texts_len n L hL
  have hl2 := texts_len n M hM
  have hTl : ∀ V ∈ texts L ++ texts M, ∀ j, V j < 256 := fun V hV => by
    rcases List.mem_append.1 hV with h | h
    · exact texts_lt n L hL hs1.1 V h
    · exact texts_lt n M hM hs2.1 V h
  have hTg : ∀ i j, ((texts L ++ texts M).getD i fun _ => 0) j < 256 := fun i j => by
    rw [List.getD_eq_getElem?_getD]
    rcases Nat.lt_or_ge i (texts L ++ texts M).length with h | h
    · rw [List.getElem?_eq_getElem h]; exact hTl _ (List.getElem_mem h) j
    · rw [List.getElem?_eq_none h]; show 0 < 256; decide
  have hex : ∃ i j, i < (texts L ++ texts M).length ∧ j < (texts L ++ texts M).length ∧ Clash ((texts L ++ texts M).getD i fun _ => 0) ((texts L ++ texts M).getD j fun _ => 0) := by
    obtain ⟨i, hi, rfl⟩ := List.getElem_of_mem hT0
    obtain ⟨j, hj, rfl⟩ := List.getElem_of_mem hU0
    refine ⟨i, (texts L).length + j, by rw [List.length_append]; omega, by rw [List.length_append]; omega, ?_⟩
    rw [List.getD_eq_getElem?_getD, List.getD_eq_getElem?_getD, List.getElem?_append_left hi, List.getElem?_append_right (by omega), show (texts L).length + j - (texts L).length = j by omega, List.getElem?_eq_getElem hi, List.getElem?_eq_getElem hj]
    exact hcl
  have hkx : ∀ i, ∃ kl, keyOf Tryd.prog 24 (.agg (ab 32 (dg 65 ((texts L ++ texts M).getD i fun _ => 0)))) = some kl := fun i => key_s _ (dg_lt _ _)
  obtain ⟨key, hkey⟩ : ∃ key : Nat → Lit, ∀ i, keyOf Tryd.prog 24 (.agg (ab 32 (dg 65 ((texts L ++ texts M).getD i fun _ => 0)))) = some (key i) := ⟨fun i => Classical.choose (hkx i), fun i => Classical.choose_spec (hkx i)⟩
  have hsh := fun (w : World) a cap i (hb : Bs w a 65 ((texts L ++ texts M).getD i fun _ => 0)) => refShort_d (cap := cap) hb (by omega)
  obtain ⟨ci, cj, hci, hcj, hc⟩ := hex
  have hkeq : key ci = key cj := by
    have e : ab 32 (dg 65 ((texts L ++ texts M).getD ci fun _ => 0)) = ab 32 (dg 65 ((texts L ++ texts M).getD cj fun _ => 0)) := arr_congr fun i hi => by rw [hc.1 i hi]
    have h1 := hkey ci
    rw [e, hkey cj] at h1
    exact (Option.some.inj h1).symm
  have hsne : (stT ((texts L ++ texts M).getD ci fun _ => 0)).data.toList ≠ (stT ((texts L ++ texts M).getD cj fun _ => 0)).data.toList := fun h => by
    obtain ⟨i, hi, hne⟩ := hc.2
    exact hne (stT_inj (hTg ci) (hTg cj) h i hi)
  have hcv : ∀ (w : World) (a : Option Addr) (i cap : Nat), Bs w a 65 ((texts L ++ texts M).getD i fun _ => 0) → (convert 22 9 (.slice a 65 cap)).run Tryd.prog w = .ok (.string (stT ((texts L ++ texts M).getD i fun _ => 0))) w := fun w a i cap hb => conv_f hb cap
  have hap : (texts L).length + (texts M).length = (texts L ++ texts M).length := by rw [List.length_append]
  have hN : (texts L ++ texts M).length ≤ 200 := by rw [List.length_append]; omega
  have hsu := fun w (hb : Below W0.heap.size W0 w) => sums_d (cap := cap1) (cap2 := cap2) (W0 := w) (hs1.later hb) (hs2.later hb) hL hM (by omega)
  rw [hls] at hsu
  have hmm := @run_makeMap Tryd.prog
  generalize root L = A at *
  generalize root M = B at *
  have hal0 := alive_t hg
  generalize hTT : texts L ++ texts M = TT at *
  generalize texts L = T1 at *
  generalize texts M = T2 at *
  replace hTT := hide1 hTT
  replace hap := hide1 hap
  have hNp : 0 < TT.length := by omega
  clear hkx hTl hc hcl hT0 hU0 hls hs1 hs2 hg
  go_enter Tryd.func6, Tryd.ntmps6
  go_wp2_with fail
  refine hal0.mono ?_
  rintro e w1 ⟨rfl, hb1⟩
  go_wp2_with fail
  refine (hsu w1 hb1).mono ?_
  rintro e w2 ⟨rfl, hb2⟩
  replace hb2 := hb1.trans (hb2.mono hb1.size)
  go_wp2_with fail
  refine (hr1 w2 hb2).mono ?_
  rintro e w3 ⟨rfl, hb3⟩
  replace hb3 := hb2.trans (hb3.mono hb2.size)
  go_wp2_with fail
  refine (hr2 w3 hb3).mono ?_
  rintro e w4 ⟨rfl, hb4⟩
  replace hb4 := hb3.trans (hb4.mono hb3.size)
  clear hr1 hr2 hsu hal0
  have hal5 : Below w4.heap.size w4 (w4.alloc (.map #[] 0)) := (Below.refl _ _).alloc (Nat.le_refl _) _
  have hb5 := hb4.trans (hal5.mono hb4.size)
  have hmp5 := World.ownsMap_made w4 Tryd.prog 24 (plainElem (H := Unit) Tryd.prog 9)
  have hmb := hb4.size
  go_wp2_with (first
    | (refine wpList_neS rfl (.tmp 32) (.tmp 34) rfl (F := A) (G := B) rfl rfl ?_; rw [hed])
    | fail)
  refine (ht1 _ hb5).mono ?_
  rintro e w6 ⟨q1, rfl, xs, ho6, hts6, hb6⟩
  go_wp2_with fail
  refine (ht2 w6 (hb5.trans (hb6.mono hb5.size))).mono ?_
  rintro e w7 ⟨q2, rfl, ys, ho7, hts7, hb7⟩
  have hs5 := hb5.size
  have hb57 := hb6.trans (hb7.mono hb6.size)
  have hb07 := hb5.trans (hb57.mono hb5.size)
  have hr7 := own_mono (own_at ho6 hb7) hs5
  have hu7 := own_any ho7
  have hty7 := own_ty hr7
  have hm7 : w7.ownsMap Tryd.prog 24 (plainElem (H := Unit) Tryd.prog 9) w4.heap.size 0 (.map []) := by
    obtain ⟨es, clock, h1, h2⟩ := hmp5
    exact ⟨es, clock, (hb57.block _ (Array.getElem?_eq_some_iff.1 h1).1).trans h1, h2⟩
  have hb6s := hb6.size
  have hts7a := hts7.map fun h => h.mono (Nat.le_trans hs5 hb6s)
  have hts6a := (hts6.map fun h => h.later hb7).map fun h => h.mono hs5
  clear hmp5 ho6 ho7 hts6 hts7 hb57 hb6 hb7 hb5 hal5 ht1 ht2 hmm hb6s
  replace hts6a := hide1 hts6a
  replace hts7a := hide1 hts7a
  replace hm7 := hide1 hm7
  replace hty7 := hide1 hty7
  go_wp2_with (at_builtin; refine wpList_append_sl rfl (.tmp 38) (.tmp 40) rfl W0.heap.size _ T1.length xs rfl hr7 _ T2.length ys rfl hu7 hts7a.out.cells (by omega) hb07.size ?_
               intro q3 w8 ho8 hg8
               have hts8 := (hts6a.out.map fun h => h.grown hg8 hty7.out).app (hts7a.out.map fun h => h.grown hg8 hty7.out)
               have hm8 := hm7.out.kept hg8 (fun e => by
                 obtain ⟨c, hc⟩ := hty7.out _ e.symm
                 obtain ⟨es, clock, h1, _⟩ := hm7.out
                 rw [h1] at hc; cases hc)
               have hb8 : Below W0.heap.size W0 w8 := hb07.grown hg8 hb07.size (fun g e => (hr7.lt g e).1)
               rw [hap.out] at ho8
               rw [hTT.out] at hts8
               have ho8' := ho8
               rcases ho8.2 with ⟨_, h0⟩ | ⟨g, cap, cur, rfl, _⟩
               · exfalso; omega
               clear hg8 hr7 hu7 hty7 hm7 hts6a hts7a hb07 ho8)
  have hU : Un W0 w8 w4.heap.size g cap (xs ++ ys) TT key 0 (.map []) := ⟨ho8', hts8, hb8, hm8, hmb, fun i hi => absurd hi (by omega)⟩
  clear ho8' hts8 hb8 hm8
  generalize w4.heap.size = bm at *
  generalize xs ++ ys = zs at *
  go_loopw [43] (fun v wr => ∃ (k : Nat) (D : DataW Unit), k ≤ TT.length ∧ v = .int .i64 k ∧ Un W0 wr bm g cap zs TT key k D) (fun v _ => TT.length - (intOf v).toNat)
  case atStart => exact ⟨0, _, Nat.zero_le _, rfl, hU⟩
  case round =>
    clear hU
    obtain ⟨k, D, hk, rfl, hU⟩ := hrel
    by_cases hlt : k < TT.length
    · have hcl := hU.row.cellAt k (by omega)
      obtain ⟨tb, tc, tcap, htv, _, _, _, _⟩ := hU.ts.2 k hlt
      have hzl := hU.ts.1
      rw [List.getD_eq_getElem?_getD] at htv
      have hzk : zs[k]? = some (.slice (some ⟨tb, 0, none⟩) 65 tcap) := by
        rw [List.getElem?_eq_getElem (by omega)] at htv ⊢
        exact congrArg some htv
      replace hcl : wr.cell? ⟨g, k, none⟩ = some (.slice (some ⟨tb, 0, none⟩) 65 tcap) := by rw [← hzk]; exact hcl
      obtain ⟨ta, tcap2, e2, htb⟩ := (hU.ts.2 k hlt).bs (hTg k)
      rw [List.getD_eq_getElem?_getD, hzk, Option.getD_some] at e2
      cases e2
      clear htv hzk hzl
      have hsk := hsh wr _ tcap k htb
      have hky := hkey k
      have hkl : WideAt.IsKeyLit (key k) := keyL.key hky
      obtain ⟨S, hS⟩ : ∃ S, Hid (S = stT (TT.getD k fun _ => 0)) := ⟨_, hide1 rfl⟩
      have hSs : S.size ≤ maxLen := by rw [hS.out]; exact stT_size _
      generalize dg 65 (TT.getD k fun _ => 0) = F at *
      have hzs : ∀ w : World, (zeroValue 24).run Tryd.prog w = .ok (.agg (ab 32 fun _ => 0)) w := fun w => by kernel_rfl
      go_wp2_with fail
      refine hsk.mono ?_
      rintro e w9 ⟨rfl, hb9⟩
      have hal9 : Below w9.heap.size w9 (w9.alloc (.cells (ab 32 fun _ => 0) 24)) := (Below.refl _ _).alloc (Nat.le_refl _) _
      have hr9 := (MapKept.heap_alloc w9 (.cells (ab 32 fun _ => 0) 24)).1
      have hw10 := wrt_row (c' := ab 32 F) hr9
      have hb10 : Below w9.heap.size w9 ((w9.alloc (.cells (ab 32 fun _ => 0) 24)).setRow w9.heap.size (ab 32 F)) := below_wrt hal9 hw10 (Nat.le_refl _) hal9.size
      have hr10 := hw10.row
      have hU10 := hU.later (hb9.trans (hb10.mono hb9.size))
      have htb10 := htb.later (hb9.trans (hb10.mono hb9.size))
      have hcv10 := hcv _ _ k tcap htb10
      rw [← hS.out] at hcv10
      clear hsk hal9 hw10 htb htb10 hb9 hb10
      go_upto_region 14 with (refine wpList_store_row rfl 24 (.tmp 8) (.tmp 48) rfl w9.heap.size (ab 32 F) (ab 32 fun _ => 0) 24 rfl rfl (sum_sz F) hr9 (by rw [ab_size, ab_size]) (ab_one _ _) rfl ?_)
      generalize (w9.alloc (.cells (ab 32 fun _ => 0) 24)).setRow w9.heap.size (ab 32 F) = w10 at hr10 hU10 hcv10 ⊢
      clear hr9
      generalize w9.heap.size = qd at *
      have hput : plainElem (H := Unit) Tryd.prog 9 (.string S) = some (.lit (.string S.data.toList), []) := plainElem_string Tryd.underlying9 hSs
      rcases look_s hU10.mp hky with ⟨hrun, hat⟩ | ⟨s, hrun, hat⟩
      · have hsn : ∀ i, i < k → key i = key k → (stT (TT.getD i fun _ => 0)).data.toList = S.data.toList := fun i hi e => by
          have h1 := hU10.sn i hi
          rw [e, hat .nil] at h1
          cases h1
        replace hsn := hide1 hsn
        replace hky := hide1 hky
        clear hat
        go_wp2_with (first
          | (refine wpList_load_row rfl 24 (.tmp 8) rfl qd (ab 32 F) 24 rfl Tryd.underlying24 (sum_sz F) hr10 ?_)
          | (refine wpList_mapUpdate_own (H := Unit) w10 rfl (.tmp 62) (.tmp 63) (.tmp 65) 38 rfl 24 9 keyL Tryd.underlying38 (plainElem Tryd.prog 9) bm k D rfl hU10.mp (by unfold maxLen; omega) (.agg (ab 32 F)) (.string S) (key k) rfl rfl hky.out _ [] hput ?_
             intro w11 hm11 hg11
             have hU11 := hU10.next hg11 (by rw [← hS.out]; exact hm11) hkl (by rw [← hS.out]; exact hsn.out)
             clear hm11 hg11))
        exact ⟨⟨k + 1, _, by omega, by go_num, hU11⟩, by simp [intOf]; omega⟩
      · by_cases hse : s.data.toList = S.data.toList
        · have hsn : ∀ i, i < k → key i = key k → (stT (TT.getD i fun _ => 0)).data.toList = S.data.toList := fun i hi e => by
            have h1 := hU10.sn i hi
            rw [e, hat .nil] at h1
            simp only [DataW.lit.injEq, Lit.string.injEq] at h1
            rw [← h1, hse]
          have hbe : (s.toList == S.toList) = true := by rw [ByteArray.toList_eq, ByteArray.toList_eq, hse]; simp
          replace hsn := hide1 hsn
          replace hky := hide1 hky
          replace hse := hide1 hse
          clear hat
          go_wp2_with (first
            | (refine wpList_load_row rfl 24 (.tmp 8) rfl qd (ab 32 F) 24 rfl Tryd.underlying24 (sum_sz F) hr10 ?_)
            | (refine wpList_mapUpdate_own (H := Unit) w10 rfl (.tmp 62) (.tmp 63) (.tmp 65) 38 rfl 24 9 keyL Tryd.underlying38 (plainElem Tryd.prog 9) bm k D rfl hU10.mp (by unfold maxLen; omega) (.agg (ab 32 F)) (.string S) (key k) rfl rfl hky.out _ [] hput ?_
               intro w11 hm11 hg11
               have hU11 := hU10.next hg11 (by rw [← hS.out]; exact hm11) hkl (by rw [← hS.out]; exact hsn.out)
               clear hm11 hg11))
          exact ⟨⟨k + 1, _, by omega, by go_num, hU11⟩, by simp [intOf]; omega⟩
        · have hbe : (s.toList == S.toList) = false := by
            rw [ByteArray.toList_eq, ByteArray.toList_eq]
            exact beq_eq_false_iff_ne.2 hse
          have hfin := hide1 hU10.bl
          replace hky := hide1 hky
          clear hat hse
          go_wp2_with (refine wpList_load_row rfl 24 (.tmp 8) rfl qd (ab 32 F) 24 rfl Tryd.underlying24 (sum_sz F) hr10 ?_)
          go_ret
          exact ⟨rfl, hfin.out⟩
    · obtain rfl : k = TT.length := by omega
      exfalso
      have h1 := hU.sn ci hci
      have h2 := hU.sn cj hcj
      rw [hkeq, h2] at h1
      simp only [DataW.lit.injEq, Lit.string.injEq] at h1
      exact hsne h1.symm
end Go.Proofs.YtbpmgpmkmnkafaaDoor

namespace Go.Proofs.YtbpmgpmkmnkafaaDoor
open Go.RowKit Sh

theorem unlike_walk {a1 a2 : Option Addr} {n m cap1 cap2 : Nat} {L M : List (Nat → Nat)} {W0 : World} (hL : L.length = n) (hs1 : SsAt W0 a1 L) (hc1 : n ≤ cap1) (hM : M.length = m) (hs2 : SsAt W0 a2 M) (hc2 : m ≤ cap2) (hg : Gl W0) : Calls Tryd.prog 6 #[.slice a1 n cap1, .slice a2 m cap2] W0 fun e w' => e = .returned (.bool true) ∧ Below W0.heap.size W0 w' := by
  by_cases h : n ≠ m ∨ 100 < n
  · exact unlike_a hg h
  · obtain rfl : n = m := Classical.byContradiction fun e => h (.inl e)
    have h100 : n ≤ 100 := Nat.le_of_not_lt fun e => h (.inr e)
    by_cases h2 : eqLs L M = true ∨ eqD (root L) (root M) = false
    · exact unlike_b hg h100 hL hM hs1 hs2 hc1 hc2 h2
    · have e1 : eqLs L M = false := by cases e : eqLs L M with
        | false => rfl
        | true => exact absurd (.inl e) h2
      have e2 : eqD (root L) (root M) = true := by cases e : eqD (root L) (root M) with
        | true => rfl
        | false => exact absurd (.inr e) h2
      exact unlike_c hg h100 hL hM hs1 hs2 hc1 hc2 e1 e2
end Go.Proofs.YtbpmgpmkmnkafaaDoor

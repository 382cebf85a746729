/- LRoot, LA5, LA6, LA7, LA8, LA9, LSums, LAlive, LAa: laid together. -/
import Derived.ProofKit
import Derived.OpenShut
import Derived.LaidMore
import Derived.Stop.Joined
import Derived.WalkKit
import Derived.ShutString
import Derived.ChangeOld
import Derived.Below
import Derived.Deep.Slices
import Derived.Test.YtbpmgpmkmnkafaaDoorG4
namespace Go.Proofs.YtbpmgpmkmnkafaaDoor
open Go.RowKit Go.Maps Sh

set_option maxHeartbeats 4000000 in
theorem root_d_0 {a0 : Option Addr} {cap : Nat} {W0 : World} {E0 : Nat → Nat} (hem : ∀ w, KW (wd W0) w → Calls Tryd.prog 14 #[] w fun e w' => e = .returned (.agg (ab 32 E0)) ∧ Below w.heap.size w w') : Calls Tryd.prog 19 #[.slice a0 0 cap] W0 fun e w' => e = .returned (.agg (ab 32 E0)) ∧ Below W0.heap.size W0 w' := by
  refine s_in Tryd.func19 Tryd.ntmps19 rfl [.inl (.slice a0 0 cap)] ?_
  intro β a h
  refine sym_seq ?_
  refine St.rg h [(2, .inr (0, pt 0))] [(ab 32 (fun _ => 0), 24)] [] [eN 0] ?_ ?_
  · exact oc (k_al 0 alS rfl rfl) <|
    ok_nil
  clear h; intro β a w h
  refine sym_then ?_
  refine sym_seq ?_
  refine sym_seq ?_
  refine St.r0 h [(4, .inl (.slice a0 0 cap)), (5, .inl (.int .i64 ((0 : Nat) : Int)))] [] ?_ ?_
  · exact oz (k_mv (.inl rfl) rfl) <|
    oz (k_ln (ad := a0) 0 cap rfl rfl (fun w => len_ss _ w)) <|
    ok_nil
  clear h; intro β a w h
  refine sym_then ?_
  refine blk_in ?_
  refine sym_seq ?_
  refine St.r0 h [(7, .inl (.bool true)), (6, .inl (.bool true))] [] ?_ ?_
  · exact oz (k_bi (.int .i64 ((0 : Nat) : Int)) (.int .i64 ((0 : Nat) : Int)) (.bool true) (eq_i (m := ((0 : Nat) : Int)) (n := ((0 : Nat) : Int)) (decide_eq_true (by omega))) rfl rfl) <|
    oz (k_mv (.inr rfl) rfl) <|
    ok_nil
  clear h; intro β a w h
  refine sym_then ?_
  refine s_ct h ?_
  refine sym_seq ?_
  refine St.rg h [(8, .inl (.agg (ab 32 E0)))] [] [(0, ab 32 E0)] [nn, eS 0] ?_ ?_
  · exact oc (k_cw 14 #[] (.agg (ab 32 E0)) (fun w hw => hem w hw) rfl rfl) <|
    oc (k_st 0 0 (.agg (ab 32 E0)) (c := ab 32 (fun _ => 0)) (n := ab 32 E0) (stS (F := E0) (c := ab 32 (fun _ => 0)) 24 (ab_size _ _)) rfl rfl) <|
    ok_nil
  clear h; intro β a w h
  refine sym_then ?_
  refine wp_ret ?_
  refine blk_ret ?_
  refine then_ret ?_
  exact s_rc (b := 0) (t0 := 24) (c := ab 32 E0) h Tryd.results19 Tryd.underlying24 (fun hb => ⟨rfl, hb⟩) (by rw [ab_size]; kernel_rfl)
set_option maxHeartbeats 4000000 in
theorem root_d_1 {b off cap : Nat} {W0 : World} {L0 : Nat → Nat} (ld0 : ∀ w, KW (wd W0) w → (Instr.loadAt 24 (.pointer (some ⟨b, off + 32 * 0, none⟩))).run Tryd.prog w = .ok (.agg (ab 32 L0)) w) : Calls Tryd.prog 19 #[.slice (some ⟨b, off, none⟩) 1 cap] W0 fun e w' => e = .returned (.agg (ab 32 L0)) ∧ Below W0.heap.size W0 w' := by
  refine s_in Tryd.func19 Tryd.ntmps19 rfl [.inl (.slice (some ⟨b, off, none⟩) 1 cap)] ?_
  intro β a h
  refine sym_seq ?_
  refine St.rg h [(2, .inr (0, pt 0))] [(ab 32 (fun _ => 0), 24)] [] [eN 0] ?_ ?_
  · exact oc (k_al 0 alS rfl rfl) <|
    ok_nil
  clear h; intro β a w h
  refine sym_then ?_
  refine sym_seq ?_
  refine sym_seq ?_
  refine St.r0 h [(4, .inl (.slice (some ⟨b, off, none⟩) 1 cap)), (5, .inl (.int .i64 ((1 : Nat) : Int)))] [] ?_ ?_
  · exact oz (k_mv (.inl rfl) rfl) <|
    oz (k_ln (ad := (some ⟨b, off, none⟩)) 1 cap rfl rfl (fun w => len_ss _ w)) <|
    ok_nil
  clear h; intro β a w h
  refine sym_then ?_
  refine blk_in ?_
  refine sym_seq ?_
  refine St.r0 h [(7, .inl (.bool false)), (6, .inl (.bool false))] [] ?_ ?_
  · exact oz (k_bi (.int .i64 ((1 : Nat) : Int)) (.int .i64 ((0 : Nat) : Int)) (.bool false) (eq_i (m := ((1 : Nat) : Int)) (n := ((0 : Nat) : Int)) (decide_eq_false (by omega))) rfl rfl) <|
    oz (k_mv (.inr rfl) rfl) <|
    ok_nil
  clear h; intro β a w h
  refine sym_then ?_
  refine s_cf h ?_
  refine sym_seq ?_
  refine St.r0 h [(10, .inl (.bool true)), (9, .inl (.bool true))] [] ?_ ?_
  · exact oz (k_bi (.int .i64 ((1 : Nat) : Int)) (.int .i64 ((1 : Nat) : Int)) (.bool true) (eq_i (m := ((1 : Nat) : Int)) (n := ((1 : Nat) : Int)) (decide_eq_true (by omega))) rfl rfl) <|
    oz (k_mv (.inr rfl) rfl) <|
    ok_nil
  clear h; intro β a w h
  refine sym_then ?_
  refine s_ct h ?_
  refine sym_seq ?_
  refine St.rg h [(11, .inl (.slice (some ⟨b, off, none⟩) 1 cap)), (12, .inl (.pointer (some ⟨b, off + 32 * 0, none⟩))), (13, .inl (.agg (ab 32 L0)))] [] [(0, ab 32 L0)] [nn, nn, nn, eS 0] ?_ ?_
  · exact oc (k_mv (.inl rfl) rfl) <|
    oc (k_is (.slice (some ⟨b, off, none⟩) 1 cap) (.int .i64 ((0 : Nat) : Int)) (.pointer (some ⟨b, off + 32 * 0, none⟩)) (fun w => ix_ss (i := 0) (by omega) w) rfl rfl) <|
    oc (k_lf (.pointer (some ⟨b, off + 32 * 0, none⟩)) (.agg (ab 32 L0)) (fun w hw => ld0 w hw) rfl rfl) <|
    oc (k_st 0 0 (.agg (ab 32 L0)) (c := ab 32 (fun _ => 0)) (n := ab 32 L0) (stS (F := L0) (c := ab 32 (fun _ => 0)) 24 (ab_size _ _)) rfl rfl) <|
    ok_nil
  clear h; intro β a w h
  refine sym_then ?_
  refine wp_ret ?_
  refine blk_ret ?_
  refine then_ret ?_
  exact s_rc (b := 0) (t0 := 24) (c := ab 32 L0) h Tryd.results19 Tryd.underlying24 (fun hb => ⟨rfl, hb⟩) (by rw [ab_size]; kernel_rfl)
set_option maxHeartbeats 4000000 in
theorem root_d_2 {b off n cap : Nat} {W0 : World} {Rlo Rhi : Nat → Nat} (hn : 2 ≤ n) (hm : n ≤ 1000000) (hcap : n ≤ cap) (hk : 1 ≤ cut n ∧ cut n < n ∧ n ≤ 2 * cut n)
    (hlo : ∀ w, KW (wd W0) w → Calls Tryd.prog 19 #[.slice (some ⟨b, off, none⟩) (cut n) cap] w fun e w' => e = .returned (.agg (ab 32 Rlo)) ∧ Below w.heap.size w w')
    (hhi : ∀ w, KW (wd W0) w → Calls Tryd.prog 19 #[.slice (some ⟨b, off + 32 * cut n, none⟩) (n - cut n) (cap - cut n)] w fun e w' => e = .returned (.agg (ab 32 Rhi)) ∧ Below w.heap.size w w')
    (hnd : ∀ w, KW (wd W0) w → Calls Tryd.prog 12 #[.agg (ab 32 Rlo), .agg (ab 32 Rhi)] w fun e w' => e = .returned (.agg (ab 32 (nd Rlo Rhi))) ∧ Below w.heap.size w w') : Calls Tryd.prog 19 #[.slice (some ⟨b, off, none⟩) n cap] W0 fun e w' => e = .returned (.agg (ab 32 (nd Rlo Rhi))) ∧ Below W0.heap.size W0 w' := by
  obtain ⟨hk1, hk2, hk3⟩ := hk
  refine s_in Tryd.func19 Tryd.ntmps19 rfl [.inl (.slice (some ⟨b, off, none⟩) n cap)] ?_
  intro β a h
  refine sym_seq ?_
  refine St.rg h [(2, .inr (0, pt 0))] [(ab 32 (fun _ => 0), 24)] [] [eN 0] ?_ ?_
  · exact oc (k_al 0 alS rfl rfl) <|
    ok_nil
  clear h; intro β a w h
  refine sym_then ?_
  refine sym_seq ?_
  refine sym_seq ?_
  refine St.r0 h [(4, .inl (.slice (some ⟨b, off, none⟩) n cap)), (5, .inl (.int .i64 ((n : Nat) : Int)))] [] ?_ ?_
  · exact oz (k_mv (.inl rfl) rfl) <|
    oz (k_ln (ad := (some ⟨b, off, none⟩)) n cap rfl rfl (fun w => len_ss _ w)) <|
    ok_nil
  clear h; intro β a w h
  refine sym_then ?_
  refine blk_in ?_
  refine sym_seq ?_
  refine St.r0 h [(7, .inl (.bool false)), (6, .inl (.bool false))] [] ?_ ?_
  · exact oz (k_bi (.int .i64 ((n : Nat) : Int)) (.int .i64 ((0 : Nat) : Int)) (.bool false) (eq_i (m := ((n : Nat) : Int)) (n := ((0 : Nat) : Int)) (decide_eq_false (by omega))) rfl rfl) <|
    oz (k_mv (.inr rfl) rfl) <|
    ok_nil
  clear h; intro β a w h
  refine sym_then ?_
  refine s_cf h ?_
  refine sym_seq ?_
  refine St.r0 h [(10, .inl (.bool false)), (9, .inl (.bool false))] [] ?_ ?_
  · exact oz (k_bi (.int .i64 ((n : Nat) : Int)) (.int .i64 ((1 : Nat) : Int)) (.bool false) (eq_i (m := ((n : Nat) : Int)) (n := ((1 : Nat) : Int)) (decide_eq_false (by omega))) rfl rfl) <|
    oz (k_mv (.inr rfl) rfl) <|
    ok_nil
  clear h; intro β a w h
  refine sym_then ?_
  refine s_cf h ?_
  refine wp_skip ?_
  refine blk_norm ?_
  refine sym_then ?_
  refine sym_seq ?_
  refine St.r0 h [(14, .inl (.slice (some ⟨b, off, none⟩) n cap)), (15, .inl (.int .i64 ((n : Nat) : Int))), (16, .inl (.int .i64 (((cut n) : Nat) : Int))), (3, .inl (.int .i64 (((cut n) : Nat) : Int)))] [] ?_ ?_
  · exact oz (k_mv (.inl rfl) rfl) <|
    oz (k_ln (ad := (some ⟨b, off, none⟩)) n cap rfl rfl (fun w => len_ss _ w)) <|
    oz (k_ca 17 #[.int .i64 ((n : Nat) : Int)] (.int .i64 (((cut n) : Nat) : Int)) (fun w => cut_k n (by omega) w) rfl rfl) <|
    oz (k_mv (.inr rfl) rfl) <|
    ok_nil
  clear h; intro β a w h
  refine sym_then ?_
  refine sym_seq ?_
  refine St.rg h [(17, .inl (.slice (some ⟨b, off, none⟩) n cap)), (18, .inl (.int .i64 (((cut n) : Nat) : Int))), (19, .inl (.slice (some ⟨b, off, none⟩) (cut n) cap)), (20, .inl (.agg (ab 32 Rlo))), (21, .inl (.slice (some ⟨b, off, none⟩) n cap)), (22, .inl (.int .i64 (((cut n) : Nat) : Int))), (23, .inl (.slice (some ⟨b, off + 32 * (cut n), none⟩) (n - (cut n)) (cap - (cut n)))), (24, .inl (.agg (ab 32 Rhi))), (25, .inl (.agg (ab 32 (nd Rlo Rhi))))] [] [(0, ab 32 (nd Rlo Rhi))] [nn, nn, nn, nn, nn, nn, nn, nn, nn, eS 0] ?_ ?_
  · exact oc (k_mv (.inl rfl) rfl) <|
    oc (k_mv (.inl rfl) rfl) <|
    oc (k_sw (.slice (some ⟨b, off, none⟩) n cap) (.slice (some ⟨b, off, none⟩) (cut n) cap) none (some (.int .i64 (((cut n) : Nat) : Int))) (sl_lo (by omega) hcap) rfl rfl) <|
    oc (k_cw 19 #[.slice (some ⟨b, off, none⟩) (cut n) cap] (.agg (ab 32 Rlo)) (fun w hw => hlo w hw) rfl rfl) <|
    oc (k_mv (.inl rfl) rfl) <|
    oc (k_mv (.inl rfl) rfl) <|
    oc (k_sw (.slice (some ⟨b, off, none⟩) n cap) (.slice (some ⟨b, off + 32 * (cut n), none⟩) (n - (cut n)) (cap - (cut n))) (some (.int .i64 (((cut n) : Nat) : Int))) none (sl_hi (by omega) hcap) rfl rfl) <|
    oc (k_cw 19 #[.slice (some ⟨b, off + 32 * (cut n), none⟩) (n - (cut n)) (cap - (cut n))] (.agg (ab 32 Rhi)) (fun w hw => hhi w hw) rfl rfl) <|
    oc (k_cw 12 #[.agg (ab 32 Rlo), .agg (ab 32 Rhi)] (.agg (ab 32 (nd Rlo Rhi))) (fun w hw => hnd w hw) rfl rfl) <|
    oc (k_st 0 0 (.agg (ab 32 (nd Rlo Rhi))) (c := ab 32 (fun _ => 0)) (n := ab 32 (nd Rlo Rhi)) (stS (F := (nd Rlo Rhi)) (c := ab 32 (fun _ => 0)) 24 (ab_size _ _)) rfl rfl) <|
    ok_nil
  clear h; intro β a w h
  refine sym_then ?_
  refine wp_ret ?_
  exact s_rc (b := 0) (t0 := 24) (c := ab 32 (nd Rlo Rhi)) h Tryd.results19 Tryd.underlying24 (fun hb => ⟨rfl, hb⟩) (by rw [ab_size]; kernel_rfl)
theorem root_d : ∀ (n : Nat) (L : List (Nat → Nat)) (a : Option Addr) (cap : Nat) (W0 : World), L.length = n → n ≤ 1000000 → Gl W0 → SsAt W0 a L → n ≤ cap → Calls Tryd.prog 19 #[.slice a n cap] W0 fun e w' => e = .returned (.agg (ab 32 (root L))) ∧ Below W0.heap.size W0 w' := by
  intro n
  induction n using Nat.strongRecOn with
  | ind n ih =>
    intro L a cap W0 hL hm hg hs hcap
    rcases Nat.lt_or_ge n 2 with h2 | h2
    · rcases Nat.lt_or_ge n 1 with h1 | h1
      · obtain rfl : n = 0 := by omega
        obtain rfl := List.eq_nil_of_length_eq_zero hL
        rw [root_0]
        exact root_d_0 (fun w hw => empty_d (gl_b hg hw.below))
      · obtain rfl : n = 1 := by omega
        obtain ⟨b, off, rfl, hc⟩ := hs.2 (by omega)
        obtain ⟨x, rfl⟩ : ∃ x, L = [x] := List.length_eq_one_iff.1 hL
        rw [root_1]
        exact root_d_1 (fun w hw => ld_ss (i := 0) (hs.later hw.below) (by simp))
    · obtain ⟨b, off, rfl, hc⟩ := hs.2 (by omega)
      have hk := cut_in h2
      have l1 : (L.take (cut n)).length = cut n := by rw [List.length_take]; omega
      have l2 : (L.drop (cut n)).length = n - cut n := by rw [List.length_drop]; omega
      have b1 := root_lt _ (L.take (cut n)) rfl (fun F hF => hs.1 F (List.mem_of_mem_take hF))
      have b2 := root_lt _ (L.drop (cut n)) rfl (fun F hF => hs.1 F (List.mem_of_mem_drop hF))
      rw [root_n (by omega), hL]
      exact root_d_2 h2 hm hcap hk (fun w hw => ih (cut n) hk.2.1 (L.take (cut n)) _ cap w l1 (by omega) (gl_b hg hw.below) (hs.lo.later hw.below) (by omega))
        (fun w hw => ih (n - cut n) (by omega) (L.drop (cut n)) _ (cap - cut n) w l2 (by omega) (gl_b hg hw.below) (hs.hi.later hw.below) (by omega))
        (fun w hw => node_d (gl_b hg hw.below) b1 b2)

set_option maxHeartbeats 4000000 in
theorem root_r_0 {a0 : Option Addr} {cap : Nat} {W0 : World} {E0 : Nat → Nat} (hem : ∀ w, KW (wd W0) w → Calls Tryd.prog 15 #[.slice none 0 0] w fun e w' => e = .returned (.agg (ab 32 E0)) ∧ Below w.heap.size w w') : Calls Tryd.prog 20 #[.slice a0 0 cap] W0 fun e w' => e = .returned (.agg (ab 32 E0)) ∧ Below W0.heap.size W0 w' := by
  refine s_in Tryd.func20 Tryd.ntmps20 rfl [.inl (.slice a0 0 cap)] ?_
  intro β a h
  refine sym_seq ?_
  refine St.rg h [(2, .inr (0, pt 0))] [(ab 32 (fun _ => 0), 24)] [] [eN 0] ?_ ?_
  · exact oc (k_al 0 alS rfl rfl) <|
    ok_nil
  clear h; intro β a w h
  refine sym_then ?_
  refine sym_seq ?_
  refine sym_seq ?_
  refine St.r0 h [(4, .inl (.slice a0 0 cap)), (5, .inl (.int .i64 ((0 : Nat) : Int))), (6, .inl (.bool true))] [] ?_ ?_
  · exact oz (k_mv (.inl rfl) rfl) <|
    oz (k_ln (ad := a0) 0 cap rfl rfl (fun w => len_ss _ w)) <|
    oz (k_bi (.int .i64 ((0 : Nat) : Int)) (.int .i64 ((0 : Nat) : Int)) (.bool true) (eq_i (m := ((0 : Nat) : Int)) (n := ((0 : Nat) : Int)) (decide_eq_true (by omega))) rfl rfl) <|
    ok_nil
  clear h; intro β a w h
  refine sym_then ?_
  refine s_ct h ?_
  refine sym_seq ?_
  refine St.rg h [(7, .inl (.agg (ab 32 E0)))] [] [(0, ab 32 E0)] [nn, eS 0] ?_ ?_
  · exact oc (k_cw 15 #[.slice none 0 0] (.agg (ab 32 E0)) (fun w hw => hem w hw) rfl rfl) <|
    oc (k_st 0 0 (.agg (ab 32 E0)) (c := ab 32 (fun _ => 0)) (n := ab 32 E0) (stS (F := E0) (c := ab 32 (fun _ => 0)) 24 (ab_size _ _)) rfl rfl) <|
    ok_nil
  clear h; intro β a w h
  refine sym_then ?_
  refine wp_ret ?_
  refine then_ret ?_
  exact s_rc (b := 0) (t0 := 24) (c := ab 32 E0) h Tryd.results20 Tryd.underlying24 (fun hb => ⟨rfl, hb⟩) (by rw [ab_size]; kernel_rfl)
set_option maxHeartbeats 4000000 in
theorem root_r_1 {b off cap : Nat} {W0 : World} {L0 : Nat → Nat} (ld0 : ∀ w, KW (wd W0) w → (Instr.loadAt 24 (.pointer (some ⟨b, off + 32 * 0, none⟩))).run Tryd.prog w = .ok (.agg (ab 32 L0)) w) : Calls Tryd.prog 20 #[.slice (some ⟨b, off, none⟩) 1 cap] W0 fun e w' => e = .returned (.agg (ab 32 L0)) ∧ Below W0.heap.size W0 w' := by
  refine s_in Tryd.func20 Tryd.ntmps20 rfl [.inl (.slice (some ⟨b, off, none⟩) 1 cap)] ?_
  intro β a h
  refine sym_seq ?_
  refine St.rg h [(2, .inr (0, pt 0))] [(ab 32 (fun _ => 0), 24)] [] [eN 0] ?_ ?_
  · exact oc (k_al 0 alS rfl rfl) <|
    ok_nil
  clear h; intro β a w h
  refine sym_then ?_
  refine sym_seq ?_
  refine sym_seq ?_
  refine St.r0 h [(4, .inl (.slice (some ⟨b, off, none⟩) 1 cap)), (5, .inl (.int .i64 ((1 : Nat) : Int))), (6, .inl (.bool false))] [] ?_ ?_
  · exact oz (k_mv (.inl rfl) rfl) <|
    oz (k_ln (ad := (some ⟨b, off, none⟩)) 1 cap rfl rfl (fun w => len_ss _ w)) <|
    oz (k_bi (.int .i64 ((1 : Nat) : Int)) (.int .i64 ((0 : Nat) : Int)) (.bool false) (eq_i (m := ((1 : Nat) : Int)) (n := ((0 : Nat) : Int)) (decide_eq_false (by omega))) rfl rfl) <|
    ok_nil
  clear h; intro β a w h
  refine sym_then ?_
  refine s_cf h ?_
  refine wp_skip ?_
  refine sym_then ?_
  refine sym_seq ?_
  refine sym_seq ?_
  refine St.r0 h [(8, .inl (.slice (some ⟨b, off, none⟩) 1 cap)), (9, .inl (.int .i64 ((1 : Nat) : Int))), (10, .inl (.bool true))] [] ?_ ?_
  · exact oz (k_mv (.inl rfl) rfl) <|
    oz (k_ln (ad := (some ⟨b, off, none⟩)) 1 cap rfl rfl (fun w => len_ss _ w)) <|
    oz (k_bi (.int .i64 ((1 : Nat) : Int)) (.int .i64 ((1 : Nat) : Int)) (.bool true) (eq_i (m := ((1 : Nat) : Int)) (n := ((1 : Nat) : Int)) (decide_eq_true (by omega))) rfl rfl) <|
    ok_nil
  clear h; intro β a w h
  refine sym_then ?_
  refine s_ct h ?_
  refine sym_seq ?_
  refine St.rg h [(11, .inl (.slice (some ⟨b, off, none⟩) 1 cap)), (12, .inl (.pointer (some ⟨b, off + 32 * 0, none⟩))), (13, .inl (.agg (ab 32 L0)))] [] [(0, ab 32 L0)] [nn, nn, nn, eS 0] ?_ ?_
  · exact oc (k_mv (.inl rfl) rfl) <|
    oc (k_is (.slice (some ⟨b, off, none⟩) 1 cap) (.int .i64 ((0 : Nat) : Int)) (.pointer (some ⟨b, off + 32 * 0, none⟩)) (fun w => ix_ss (i := 0) (by omega) w) rfl rfl) <|
    oc (k_lf (.pointer (some ⟨b, off + 32 * 0, none⟩)) (.agg (ab 32 L0)) (fun w hw => ld0 w hw) rfl rfl) <|
    oc (k_st 0 0 (.agg (ab 32 L0)) (c := ab 32 (fun _ => 0)) (n := ab 32 L0) (stS (F := L0) (c := ab 32 (fun _ => 0)) 24 (ab_size _ _)) rfl rfl) <|
    ok_nil
  clear h; intro β a w h
  refine sym_then ?_
  refine wp_ret ?_
  refine then_ret ?_
  exact s_rc (b := 0) (t0 := 24) (c := ab 32 L0) h Tryd.results20 Tryd.underlying24 (fun hb => ⟨rfl, hb⟩) (by rw [ab_size]; kernel_rfl)
set_option maxHeartbeats 4000000 in
theorem root_r_2 {b off n cap : Nat} {W0 : World} {Rlo Rhi : Nat → Nat} (hn : 2 ≤ n) (hm : n ≤ 1000000) (hcap : n ≤ cap) (hk : 1 ≤ cut n ∧ cut n < n ∧ n ≤ 2 * cut n)
    (hlo : ∀ w, KW (wd W0) w → Calls Tryd.prog 20 #[.slice (some ⟨b, off, none⟩) (cut n) cap] w fun e w' => e = .returned (.agg (ab 32 Rlo)) ∧ Below w.heap.size w w')
    (hhi : ∀ w, KW (wd W0) w → Calls Tryd.prog 20 #[.slice (some ⟨b, off + 32 * cut n, none⟩) (n - cut n) (cap - cut n)] w fun e w' => e = .returned (.agg (ab 32 Rhi)) ∧ Below w.heap.size w w')
    (hnd : ∀ w, KW (wd W0) w → Calls Tryd.prog 13 #[.agg (ab 32 Rlo), .agg (ab 32 Rhi)] w fun e w' => e = .returned (.agg (ab 32 (nd Rlo Rhi))) ∧ Below w.heap.size w w') : Calls Tryd.prog 20 #[.slice (some ⟨b, off, none⟩) n cap] W0 fun e w' => e = .returned (.agg (ab 32 (nd Rlo Rhi))) ∧ Below W0.heap.size W0 w' := by
  obtain ⟨hk1, hk2, hk3⟩ := hk
  refine s_in Tryd.func20 Tryd.ntmps20 rfl [.inl (.slice (some ⟨b, off, none⟩) n cap)] ?_
  intro β a h
  refine sym_seq ?_
  refine St.rg h [(2, .inr (0, pt 0))] [(ab 32 (fun _ => 0), 24)] [] [eN 0] ?_ ?_
  · exact oc (k_al 0 alS rfl rfl) <|
    ok_nil
  clear h; intro β a w h
  refine sym_then ?_
  refine sym_seq ?_
  refine sym_seq ?_
  refine St.r0 h [(4, .inl (.slice (some ⟨b, off, none⟩) n cap)), (5, .inl (.int .i64 ((n : Nat) : Int))), (6, .inl (.bool false))] [] ?_ ?_
  · exact oz (k_mv (.inl rfl) rfl) <|
    oz (k_ln (ad := (some ⟨b, off, none⟩)) n cap rfl rfl (fun w => len_ss _ w)) <|
    oz (k_bi (.int .i64 ((n : Nat) : Int)) (.int .i64 ((0 : Nat) : Int)) (.bool false) (eq_i (m := ((n : Nat) : Int)) (n := ((0 : Nat) : Int)) (decide_eq_false (by omega))) rfl rfl) <|
    ok_nil
  clear h; intro β a w h
  refine sym_then ?_
  refine s_cf h ?_
  refine wp_skip ?_
  refine sym_then ?_
  refine sym_seq ?_
  refine sym_seq ?_
  refine St.r0 h [(8, .inl (.slice (some ⟨b, off, none⟩) n cap)), (9, .inl (.int .i64 ((n : Nat) : Int))), (10, .inl (.bool false))] [] ?_ ?_
  · exact oz (k_mv (.inl rfl) rfl) <|
    oz (k_ln (ad := (some ⟨b, off, none⟩)) n cap rfl rfl (fun w => len_ss _ w)) <|
    oz (k_bi (.int .i64 ((n : Nat) : Int)) (.int .i64 ((1 : Nat) : Int)) (.bool false) (eq_i (m := ((n : Nat) : Int)) (n := ((1 : Nat) : Int)) (decide_eq_false (by omega))) rfl rfl) <|
    ok_nil
  clear h; intro β a w h
  refine sym_then ?_
  refine s_cf h ?_
  refine wp_skip ?_
  refine sym_then ?_
  refine sym_seq ?_
  refine St.r0 h [(14, .inl (.slice (some ⟨b, off, none⟩) n cap)), (15, .inl (.int .i64 ((n : Nat) : Int))), (16, .inl (.int .i64 (((cut n) : Nat) : Int))), (3, .inl (.int .i64 (((cut n) : Nat) : Int)))] [] ?_ ?_
  · exact oz (k_mv (.inl rfl) rfl) <|
    oz (k_ln (ad := (some ⟨b, off, none⟩)) n cap rfl rfl (fun w => len_ss _ w)) <|
    oz (k_ca 18 #[.int .i64 ((n : Nat) : Int)] (.int .i64 (((cut n) : Nat) : Int)) (fun w => cut_kr n (by omega) w) rfl rfl) <|
    oz (k_mv (.inr rfl) rfl) <|
    ok_nil
  clear h; intro β a w h
  refine sym_then ?_
  refine sym_seq ?_
  refine St.rg h [(17, .inl (.slice (some ⟨b, off, none⟩) n cap)), (18, .inl (.int .i64 (((cut n) : Nat) : Int))), (19, .inl (.slice (some ⟨b, off, none⟩) (cut n) cap)), (20, .inl (.agg (ab 32 Rlo))), (21, .inl (.slice (some ⟨b, off, none⟩) n cap)), (22, .inl (.int .i64 (((cut n) : Nat) : Int))), (23, .inl (.slice (some ⟨b, off + 32 * (cut n), none⟩) (n - (cut n)) (cap - (cut n)))), (24, .inl (.agg (ab 32 Rhi))), (25, .inl (.agg (ab 32 (nd Rlo Rhi))))] [] [(0, ab 32 (nd Rlo Rhi))] [nn, nn, nn, nn, nn, nn, nn, nn, nn, eS 0] ?_ ?_
  · exact oc (k_mv (.inl rfl) rfl) <|
    oc (k_mv (.inl rfl) rfl) <|
    oc (k_sw (.slice (some ⟨b, off, none⟩) n cap) (.slice (some ⟨b, off, none⟩) (cut n) cap) none (some (.int .i64 (((cut n) : Nat) : Int))) (sl_lo (by omega) hcap) rfl rfl) <|
    oc (k_cw 20 #[.slice (some ⟨b, off, none⟩) (cut n) cap] (.agg (ab 32 Rlo)) (fun w hw => hlo w hw) rfl rfl) <|
    oc (k_mv (.inl rfl) rfl) <|
    oc (k_mv (.inl rfl) rfl) <|
    oc (k_sw (.slice (some ⟨b, off, none⟩) n cap) (.slice (some ⟨b, off + 32 * (cut n), none⟩) (n - (cut n)) (cap - (cut n))) (some (.int .i64 (((cut n) : Nat) : Int))) none (sl_hi (by omega) hcap) rfl rfl) <|
    oc (k_cw 20 #[.slice (some ⟨b, off + 32 * (cut n), none⟩) (n - (cut n)) (cap - (cut n))] (.agg (ab 32 Rhi)) (fun w hw => hhi w hw) rfl rfl) <|
    oc (k_cw 13 #[.agg (ab 32 Rlo), .agg (ab 32 Rhi)] (.agg (ab 32 (nd Rlo Rhi))) (fun w hw => hnd w hw) rfl rfl) <|
    oc (k_st 0 0 (.agg (ab 32 (nd Rlo Rhi))) (c := ab 32 (fun _ => 0)) (n := ab 32 (nd Rlo Rhi)) (stS (F := (nd Rlo Rhi)) (c := ab 32 (fun _ => 0)) 24 (ab_size _ _)) rfl rfl) <|
    ok_nil
  clear h; intro β a w h
  refine sym_then ?_
  refine wp_ret ?_
  exact s_rc (b := 0) (t0 := 24) (c := ab 32 (nd Rlo Rhi)) h Tryd.results20 Tryd.underlying24 (fun hb => ⟨rfl, hb⟩) (by rw [ab_size]; kernel_rfl)
theorem root_r : ∀ (n : Nat) (L : List (Nat → Nat)) (a : Option Addr) (cap : Nat) (W0 : World), L.length = n → n ≤ 1000000 → SsAt W0 a L → n ≤ cap → Calls Tryd.prog 20 #[.slice a n cap] W0 fun e w' => e = .returned (.agg (ab 32 (root L))) ∧ Below W0.heap.size W0 w' := by
  intro n
  induction n using Nat.strongRecOn with
  | ind n ih =>
    intro L a cap W0 hL hm hs hcap
    rcases Nat.lt_or_ge n 2 with h2 | h2
    · rcases Nat.lt_or_ge n 1 with h1 | h1
      · obtain rfl : n = 0 := by omega
        obtain rfl := List.eq_nil_of_length_eq_zero hL
        rw [root_0]
        exact root_r_0 (fun w hw => refShort_d (f := fun _ => 0) ⟨fun _ => (by decide : 0 < 256), fun h => absurd h (by omega)⟩ (by omega))
      · obtain rfl : n = 1 := by omega
        obtain ⟨b, off, rfl, hc⟩ := hs.2 (by omega)
        obtain ⟨x, rfl⟩ : ∃ x, L = [x] := List.length_eq_one_iff.1 hL
        rw [root_1]
        exact root_r_1 (fun w hw => ld_ss (i := 0) (hs.later hw.below) (by simp))
    · obtain ⟨b, off, rfl, hc⟩ := hs.2 (by omega)
      have hk := cut_in h2
      have l1 : (L.take (cut n)).length = cut n := by rw [List.length_take]; omega
      have l2 : (L.drop (cut n)).length = n - cut n := by rw [List.length_drop]; omega
      have b1 := root_lt _ (L.take (cut n)) rfl (fun F hF => hs.1 F (List.mem_of_mem_take hF))
      have b2 := root_lt _ (L.drop (cut n)) rfl (fun F hF => hs.1 F (List.mem_of_mem_drop hF))
      rw [root_n (by omega), hL]
      exact root_r_2 h2 hm hcap hk (fun w hw => ih (cut n) hk.2.1 (L.take (cut n)) _ cap w l1 (by omega) (hs.lo.later hw.below) (by omega))
        (fun w hw => ih (n - cut n) (by omega) (L.drop (cut n)) _ (cap - cut n) w l2 (by omega) (hs.hi.later hw.below) (by omega))
        (fun w hw => node_r b1 b2)
end Go.Proofs.YtbpmgpmkmnkafaaDoor

namespace Go.Proofs.YtbpmgpmkmnkafaaDoor
open Go.ChangeShapes Go.WideShapes Go.ChangeAt Go.RowKit Sh

def eqD (F G : Nat → Nat) : Bool := (List.range 32).all fun i => F i == G i
theorem eqD_iff {F G : Nat → Nat} : eqD F G = true ↔ ∀ i, i < 32 → F i = G i := by
  unfold eqD
  rw [List.all_eq_true]
  constructor
  · intro h i hi
    exact beq_iff_eq.1 (h i (List.mem_range.2 hi))
  · intro h i hi
    exact beq_iff_eq.2 (h i (List.mem_range.1 hi))
section
variable {x u : Operand}
theorem eqS_run (F G : Nat → Nat) (w : World) : (Op.equalIn 10000 24 (.agg (ab 32 F)) (.agg (ab 32 G))).run Tryd.prog w = .ok (eqD F G) w := by
  have h1 := eq_ints (P := Tryd.prog) (t := 24) (e := 5) (n := 32) (k := .u8) (k' := .u8) Tryd.underlying24 (inf := _) rfl (by kernel_rfl) Tryd.underlying5 (fun _ => by kernel_rfl) (ab 32 F) (ab 32 G) (fun i => (F i : Int)) (fun i => (G i : Int)) (fun i hi => arr_get _ _ _ hi) (fun i hi => arr_get _ _ _ hi) w
  rw [h1]
  congr 1
  rw [Bool.eq_iff_iff, eqD_iff, decide_eq_true_eq]
  constructor <;> intro hh i hi <;> have := hh i hi <;> omega
theorem eqS (F G : Nat → Nat) (w : World) : (do eqGuard .eql 24 x u (.agg (ab 32 F)) (.agg (ab 32 G)); binOp .eql 24 (.agg (ab 32 F)) (.agg (ab 32 G))).run Tryd.prog w = .ok (.bool (eqD F G)) w := by
  simp [eqGuard, binOp, go_sem, Op.equal, Op.maxDepth, eqS_run F G w]
theorem neS (F G : Nat → Nat) (w : World) : (do eqGuard .neq 24 x u (.agg (ab 32 F)) (.agg (ab 32 G)); binOp .neq 24 (.agg (ab 32 F)) (.agg (ab 32 G))).run Tryd.prog w = .ok (.bool (!eqD F G)) w := by
  simp [eqGuard, binOp, go_sem, Op.equal, Op.maxDepth, eqS_run F G w]
theorem eqS_t {F G : Nat → Nat} (h : ∀ i, i < 32 → F i = G i) (w : World) : (do eqGuard .eql 24 x u (.agg (ab 32 F)) (.agg (ab 32 G)); binOp .eql 24 (.agg (ab 32 F)) (.agg (ab 32 G))).run Tryd.prog w = .ok (.bool true) w := by
  rw [eqS, eqD_iff.2 h]
theorem eqB_t {m n : Nat} (h : m = n) (w : World) : (do eqGuard .eql 5 x u (.int .u8 ((m : Nat) : Int)) (.int .u8 ((n : Nat) : Int)); binOp .eql 5 (.int .u8 ((m : Nat) : Int)) (.int .u8 ((n : Nat) : Int))).run Tryd.prog w = .ok (.bool true) w := by
  subst h
  simp [eqGuard, binOp, go_sem]
end
theorem ld_abv {t0 : TypeId} {N i v : Nat} {F : Nat → Nat} (hi : i < N) (hv : F i = v) (w : World) (q : Nat) (h : w.heap[q]? = some (.cells (ab N F) t0 (0, 0))) : (Instr.loadAt 5 (.pointer (some ⟨q, i, none⟩))).run Tryd.prog w = .ok (.int .u8 ((v : Nat) : Int)) w := by
  have h1 : w.cell? ⟨q, i, none⟩ = some (.int .u8 ((v : Nat) : Int)) := by rw [cell_of_row _ _ _ _ _ _ h, ← hv]; exact arr_get _ _ _ hi
  simp [Instr.loadAt, Instr.sureAddr, go_sem, h1]
/-! The tables. -/
def laidL : List (String × DataW Unit) := [("cachet/sum.cubes", Rows.laid_cachet_sum_cubes), ("cachet/sum.squares", Rows.laid_cachet_sum_squares)]
theorem gCubes : Tryd.prog.globalNamed "cachet/sum.cubes" = some 1 := by kernel_rfl
theorem gSquares : Tryd.prog.globalNamed "cachet/sum.squares" = some 0 := by kernel_rfl
theorem tCubes : (Tryd.prog.globals[1]?).map (·.type) = some 70 := by kernel_rfl
theorem tSquares : (Tryd.prog.globals[0]?).map (·.type) = some 63 := by kernel_rfl
/-- A row of words that reads as it was laid. -/
theorem row_cells {W : World} {fuel n t : Nat} {cs : List Value} {ns : List Nat} {ps : List MemPlace} {base : Nat} {sp : Nat → Bool} {held : Bool} {enc : TypeId × Value → Unit} (ht : Tryd.prog.underlying t = some (.array n 48)) (h : DataW.trod enc Tryd.prog W base sp held fuel t cs = some (.agg (ns.map fun k => .lit (.int .u64 ((k : Nat) : Int))), ps)) (hn : ns.length = n) :
    ∀ i, i < n → cs[i]? = some (.int .u64 ((ns.getD i 0 : Nat) : Int)) := by
  obtain ⟨xs, m, rfl, hx, hlen, hxs, hel⟩ := DataW.trod_array ht h
  have c1 : Tryd.prog.cellsOf 48 = 1 := by kernel_rfl
  intro i hi
  have h1 := hel i hi
  rw [c1, Nat.mul_one] at h1
  simp only [Prod.mk.injEq, DataW.agg.injEq] at hx
  have hxi : xs[i]? = some xs[i] := List.getElem?_eq_getElem (by omega)
  rw [hxi] at h1
  obtain ⟨k, e1, e2, _⟩ := DataW.trod_int Tryd.underlying48 h1
  have h3 := congrArg (·[i]?) hx.1
  simp only [List.getElem?_map] at h3
  rw [hxi, List.getElem?_eq_getElem (l := ns) (show i < ns.length by omega)] at h3
  simp only [Option.map_some, Option.some.injEq] at h3
  rw [e2] at h3
  have h4 : ((ns[i] : Nat) : Int) = k := by simpa using h3
  have h5 : cs[i]? = (cs.drop i)[0]? := by simp
  have h6 : ((cs.drop i).take 1)[0]? = (cs.drop i)[0]? := by rw [List.getElem?_take]; simp
  rw [h5, ← h6, e1, List.getD_eq_getElem?_getD, List.getElem?_eq_getElem (l := ns) (show i < ns.length by omega), Option.getD_some, h4]
  rfl
theorem cubes_L : (Rows.laid_cachet_sum_cubes : DataW Unit) = .agg (cuL.map fun k => .lit (.int .u64 ((k : Nat) : Int))) := by kernel_rfl
theorem squares_L : (Rows.laid_cachet_sum_squares : DataW Unit) = .agg (sqL.map fun k => .lit (.int .u64 ((k : Nat) : Int))) := by kernel_rfl
theorem of_laid {W : World} (h : laidMetH Tryd.prog laidL W) : Gl W := by
  rw [MakeChecks.laidMetH_plain _ _ _ (by kernel_rfl)] at h
  obtain ⟨ps, ⟨g0, t0, cs0, f0, p0, q0, hg0, ht0, hv0, hd0, ⟨g1, t1, cs1, f1, p1, q1, hg1, ht1, hv1, hd1, _, _⟩, _⟩, _, _⟩ := h
  obtain rfl := Option.some.inj (gCubes.symm.trans hg0)
  obtain rfl := Option.some.inj (gSquares.symm.trans hg1)
  obtain rfl := Option.some.inj (tCubes.symm.trans ht0)
  obtain rfl := Option.some.inj (tSquares.symm.trans ht1)
  rw [cubes_L] at hd0
  rw [squares_L] at hd1
  refine ⟨fun i hi => ?_, fun i hi => ?_⟩
  · rw [World.var?_cell hg1 hv1 i, ← Array.getElem?_toList]
    exact row_cells Tryd.underlying63 hd1 (by kernel_rfl) i hi
  · rw [World.var?_cell hg0 hv0 i, ← Array.getElem?_toList]
    exact row_cells Tryd.underlying70 hd0 (by kernel_rfl) i hi
theorem door_met (os : Os) (args : Array Value) : laidMetH Tryd.prog laidL ((World.doorLaid Tryd.prog 400 os).forCall (fun _ _ => 0) ⟨#[], args, []⟩).memory :=
  laidMetH_of_parts3 (fuel := 8) (laidMet_of_run' 8 (by kernel_rfl) (by kernel_rfl)) (by kernel_rfl) (by kernel_rfl)
end Go.Proofs.YtbpmgpmkmnkafaaDoor

namespace Go.Proofs.YtbpmgpmkmnkafaaDoor
open Go.RowKit Go.Maps Sh

def numsF (len : Nat) (f : Nat → Nat) : List Int := (List.range len).map fun i => ((f i : Nat) : Int)
/-- Bytes as a text. -/
theorem conv_f {w : World} {a : Option Addr} {len : Nat} {f : Nat → Nat} (h : Bs w a len f) (cap : Nat) : (convert 22 9 (.slice a len cap)).run Tryd.prog w = .ok (.string (strOfNums (numsF len f))) w := by
  rcases Nat.eq_zero_or_pos len with rfl | hp
  · cases a with
    | none => exact run_convert_bytes_nil w 22 5 Tryd.underlying22 Tryd.underlying5 0 cap 9 Tryd.underlying9
    | some x =>
      rw [run_convert_bytes_string w 22 9 5 _ 0 cap Tryd.underlying22 Tryd.underlying5 Tryd.underlying9, run_bytesToString w x 0 cap [] (run_loadCells_list (P := Tryd.prog) w x [] (fun j v hj => by simp at hj))]
      rfl
  · obtain ⟨b, off, rfl, hc⟩ := h.2 hp
    refine run_convert_bytes_arg w 22 5 Tryd.underlying22 Tryd.underlying5 b off len cap (numsF len f) (by simp [numsF]) (fun j hj => ?_) 9 Tryd.underlying9
    rw [hc j hj]
    simp [numsF, List.getD_eq_getElem?_getD, hj]
theorem nums_cong {len : Nat} {f g : Nat → Nat} (h : ∀ i, i < len → f i = g i) : numsF len f = numsF len g := by
  unfold numsF
  exact List.map_congr_left fun i hi => by rw [h i (List.mem_range.1 hi)]
/-- What a copy holds, with its marks. -/
def cpM (f : Nat → Nat) (len i : Nat) : Nat := if i < len then f i else if i = len then 165 else 90
theorem bs_2 (w : World) : Bs (w.alloc (.cells #[.int .u8 165, .int .u8 90] 5)) (some ⟨w.heap.size, 0, none⟩) 2 (fun i => if i = 0 then 165 else 90) :=
  ⟨fun i => by dsimp only; split <;> omega, fun _ => ⟨_, 0, rfl, fun i hi => by
    have h := (MapKept.heap_alloc w (.cells #[.int .u8 165, .int .u8 90] 5)).1
    rw [cell_of_row _ _ _ _ _ _ h]
    have hc : i = 0 ∨ i = 1 := by omega
    rcases hc with rfl | rfl <;> rfl⟩⟩
set_option maxHeartbeats 1000000 in
set_option maxRecDepth 100000 in
theorem copy_f {a : Option Addr} {len cap : Nat} {f : Nat → Nat} {w : World} (hb : Bs w a len f) (hm : len ≤ 1000000) :
    Calls Tryd.prog 9 #[.slice a len cap] w fun e w' => ∃ c q len' cap', e = .returned (.slice (some ⟨q, 0, none⟩) len' cap') ∧ w.heap.size ≤ q ∧ w'.heap[q]? = some (.cells c 5 (0, 0)) ∧ Below w.heap.size w w' ∧ (len' = len ∧ len + 2 ≤ cap' ∧ cap' ≤ c.size ∧ ∀ i, i < len + 2 → c[i]? = some (.int .u8 ((cpM f len i : Nat) : Int))) := by
  obtain ⟨i0, hi, hz0, hz1, hz2⟩ := info_parts info_u8
  obtain ⟨w1, hmk, hown0, hg0⟩ := run_make_own (P := Tryd.prog) w w.heap.size 22 5 i0 (.int .u8 0) 1 Tryd.underlying22 hi hz0 hz1 .i64 .i64 (len + 2) (by rw [hz2]; omega) (by unfold maxLen; omega) (Nat.le_refl _)
  have ec : ((len + 2 : Nat) : Int) = (len : Int) + 2 := by omega
  rw [ec] at hmk
  have hb1 : Below w.heap.size w w1 := (Below.refl _ _).grown hg0 (Nat.le_refl _) (fun k e => by cases e)
  have hbs1 := hb.later hb1
  have hX : ([] : List Value) ++ bvs len f ++ bvs 2 (fun i => if i = 0 then 165 else 90) = bvs (len + 2) (cpM f len) := by
    rw [List.nil_append, show bvs len f = bvs len (cpM f len) from bvs_cong fun i hi => by unfold cpM; rw [if_pos hi]]
    refine bvs_app fun i hi => ?_
    unfold cpM
    rw [if_neg (by omega : ¬ len + i < len)]
    by_cases e : i = 0
    · rw [if_pos e, if_pos (by omega : len + i = len)]
    · rw [if_neg e, if_neg (by omega : ¬ len + i = len)]
  clear ec hi hz0 hz1 hz2 hg0
  go_enter Tryd.func9, Tryd.ntmps9
  go_wp2_with (first
    | (at_builtin; refine wpList_append_f rfl (.tmp 6) (.tmp 7) rfl w.heap.size (.slice (some ⟨w.heap.size, 0, none⟩) 0 (len + 2)) 0 [] rfl hown0 a len cap f rfl hbs1 (by omega) hb1.size ?_; intro v2 w2 hown2 hg2 _; have hb2 := below_app hb1 hb1.size hown0 hg2)
    | (at_builtin; refine wpList_append_f rfl (.tmp 8) (.tmp 9) rfl w.heap.size v2 (0 + len) ([] ++ bvs len f) rfl (hown2.alloc _) _ 2 2 (fun i => if i = 0 then 165 else 90) rfl (bs_2 _) (by omega) (by have := hb2.size; simp; omega) ?_
       intro v3 w3 hown3 hg3 _
       have hb3 := below_app (hb2.alloc hb2.size _) (by have := hb2.size; simp; omega) (hown2.alloc _) hg3
       rw [hX, Nat.zero_add] at hown3
       rcases hown3.2 with ⟨_, h0⟩ | ⟨q, cap3, cur, rfl, hbq, hgq, hnc, hcm, hcs, hty⟩
       · exfalso; omega
       have hlen3 : ((len : Nat) : Int) ≤ ((cap3 : Nat) : Int) := by omega
       clear hg3 hg2 hown2))
  go_ret
  refine ⟨cur, q, len, cap3, rfl, hbq, hgq, hb3, rfl, hnc, ?_, fun i hi => ?_⟩
  · omega
  · have h1 := hown3.cellAt i (by omega)
    rw [bvs_get _ hi] at h1
    rw [← h1, cell_of_row _ _ _ _ _ _ hgq]
end Go.Proofs.YtbpmgpmkmnkafaaDoor

namespace Go.Proofs.YtbpmgpmkmnkafaaDoor
open Go.RowKit Go.Maps Sh

theorem gt_s {x u : Operand} {m n : Int} {b : Bool} (h : decide (n < m) = b) (w : World) : (do eqGuard .gtr 3 x u (.int .i64 m) (.int .i64 n); binOp .gtr 3 (.int .i64 m) (.int .i64 n)).run Tryd.prog w = .ok (.bool b) w := by
  subst h; simp [eqGuard, binOp, go_sem]
theorem bs_c {w : World} {c : Array Value} {q len : Nat} {f : Nat → Nat} {t : TypeId} (hf : ∀ i, f i < 256) (hq : w.heap[q]? = some (.cells c t (0, 0))) (hc : ∀ i, i < len + 2 → c[i]? = some (.int .u8 ((cpM f len i : Nat) : Int))) : Bs w (some ⟨q, 0, none⟩) len f :=
  ⟨hf, fun _ => ⟨q, 0, rfl, fun i hi => by
    rw [cell_of_row _ _ _ _ _ _ hq]
    show c[0 + i]? = _
    rw [Nat.zero_add, hc i (by omega)]
    unfold cpM
    rw [if_pos hi]⟩⟩
set_option maxHeartbeats 1000000 in
set_option maxRecDepth 100000 in
theorem kept_f {w : World} {c : Array Value} {q len cap' cap : Nat} {a : Option Addr} {f : Nat → Nat} (hb : Bs w a len f) (hq : w.heap[q]? = some (.cells c 5 (0, 0))) (hm : len ≤ 1000000) (hcap : len + 2 ≤ cap') (hc : ∀ i, i < len + 2 → c[i]? = some (.int .u8 ((cpM f len i : Nat) : Int))) :
    Calls Tryd.prog 16 #[.slice (some ⟨q, 0, none⟩) len cap', .slice a len cap] w fun e w' => e = .returned (.bool true) ∧ Below w.heap.size w w' := by
  have k1 := conv_f (bs_c hb.1 hq hc) cap'
  have k2 := conv_f hb cap
  have c1 : w.cell? ⟨q, len, none⟩ = some (.int .u8 165) := by
    rw [cell_of_row _ _ _ _ _ _ hq]
    show c[len]? = _
    rw [hc len (by omega)]
    unfold cpM
    rw [if_neg (by omega), if_pos rfl]
    rfl
  have c2 : w.cell? ⟨q, len + 1, none⟩ = some (.int .u8 90) := by
    rw [cell_of_row _ _ _ _ _ _ hq]
    show c[len + 1]? = _
    rw [hc (len + 1) (by omega)]
    unfold cpM
    rw [if_neg (by omega), if_neg (by omega)]
    rfl
  generalize strOfNums (numsF len f) = s at *
  clear hc hq hb
  go_enter Tryd.func16, Tryd.ntmps16
  go_wp2
  go_ret
  exact ⟨rfl, Below.refl _ _⟩
end Go.Proofs.YtbpmgpmkmnkafaaDoor

namespace Go.Proofs.YtbpmgpmkmnkafaaDoor
open Go.ChangeShapes Go.WideShapes Go.ChangeAt Go.RowKit Sh

theorem bs_zs {w : World} {x : Addr} {len : Nat} {zs : List Int} (hl : len ≤ zs.length) (hcell : ∀ i, i < zs.length → w.cell? (x.add i) = some (.int .u8 (zs.getD i 0))) (hwz : ∀ n ∈ zs, (Lit.int .u8 n).wf = true) : ∃ f, Bs w (some x) len f := by
  have hby : ∀ i, i < zs.length → 0 ≤ zs.getD i 0 ∧ zs.getD i 0 < 256 := by
    intro i hi
    have hm : zs.getD i 0 ∈ zs := by rw [List.getD_eq_getElem?_getD, List.getElem?_eq_getElem hi]; exact List.getElem_mem hi
    have := hwz _ hm
    simp only [Lit.wf, Bool.and_eq_true, decide_eq_true_eq] at this
    have e1 : IntKind.u8.min = 0 := rfl
    have e2 : IntKind.u8.max = 255 := rfl
    omega
  refine ⟨fun i => (zs.getD i 0).toNat % 256, fun i => Nat.mod_lt _ (by omega), fun hp => ?_⟩
  obtain ⟨b, off, spot⟩ := x
  have hc := hcell 0 (by omega)
  have hspot : spot = none := by simpa [Addr.add] using World.cell?_spot hc
  subst hspot
  refine ⟨b, off, rfl, fun i hi => ?_⟩
  have h1 := hcell i (by omega)
  rw [Addr.add_lit] at h1
  rw [h1]
  show _ = some (Value.int .u8 (((zs.getD i 0).toNat % 256 : Nat) : Int))
  have h2 := hby i (by omega)
  generalize zs.getD i 0 = z at *
  have h3 : ((z.toNat % 256 : Nat) : Int) = z := by omega
  rw [h3]
theorem ck_ab (b : Nat → Nat) : ck b = ab 32 b := rfl
section
variable {H : Type} {enc : TypeId × Value → H} {W : World} {held : Bool}
/-- Bytes. -/
theorem bytes_in {a : Option Addr} {len cap : Nat} {d : DataW H} {p : List MemPlace} (h : DataW.Trod enc Tryd.prog W 0 (fun _ => true) held 22 (.slice a len cap) d p) : ∃ f, Bs W a len f ∧ len ≤ cap ∧ ∀ x, a = some x → 0 < len → x.block < W.heap.size := by
  obtain ⟨fuel, hf⟩ := h
  rcases open_ints Tryd.underlying22 Tryd.underlying5 (by kernel_rfl) hf with ⟨hcs, _⟩ | ⟨x, l, c, zs, hcs, _, hl, hm, hz, _, hcell, hwz⟩
  · simp [Value.cells] at hcs
    obtain ⟨rfl, rfl, rfl⟩ := hcs
    exact ⟨fun _ => 0, ⟨fun _ => (by decide : 0 < 256), fun h => absurd h (by omega)⟩, Nat.le_refl _, fun x e => by cases e⟩
  · simp [Value.cells] at hcs
    obtain ⟨rfl, rfl, rfl⟩ := hcs
    obtain ⟨f, hb⟩ := bs_zs (w := W) (x := x) (len := len) (zs := zs) (by simp at hz; omega) hcell hwz
    refine ⟨f, hb, hl, fun y e hp => ?_⟩
    obtain ⟨b, off, e2, hc⟩ := hb.2 hp
    rw [e2] at e
    cases e
    exact cell_lt (hc 0 hp)
/-- One digest in a row. -/
theorem sum_in {n b o : Nat} {cs : List Value} {x : DataW H × List MemPlace} (h1 : W.cells? 0 ⟨b, o, none⟩ 32 = some cs) (h2 : DataW.trod enc Tryd.prog W 0 (fun _ => true) held n 24 cs = some x) : ∃ F : Nat → Nat, (∀ j, F j < 256) ∧ ∀ j, j < 32 → W.cell? ⟨b, o + j, none⟩ = some (.int .u8 ((F j : Nat) : Int)) := by
  obtain ⟨_, hl, hc⟩ := World.cells?_some h1
  obtain ⟨xs, m, rfl, -, hlen, hx, hi⟩ := DataW.trod_array Tryd.underlying24 h2
  have hce : Tryd.prog.cellsOf 5 = 1 := by kernel_rfl
  have hcell : ∀ i, i < 32 → ∃ n : Nat, n < 256 ∧ cs[i]? = some (.int .u8 (n : Int)) := by
    intro i hi32
    have h1 := hi i hi32
    have h2 : xs[i]? = some xs[i] := by simp [hx, hi32]
    rw [h2, hce, Nat.mul_one] at h1
    obtain ⟨n, hc, -, hw⟩ := DataW.trod_int Tryd.underlying5 h1
    have h3 : cs[i]? = some (.int .u8 n) := by
      have := congrArg (·[0]?) hc
      simpa [List.getElem?_take, List.getElem?_drop] using this
    simp only [Lit.wf, Bool.and_eq_true, decide_eq_true_eq] at hw
    have e1 : IntKind.u8.min = 0 := rfl
    have e2 : IntKind.u8.max = 255 := rfl
    refine ⟨n.toNat, by omega, ?_⟩
    rw [h3, show ((n.toNat : Nat) : Int) = n by omega]
  obtain ⟨F, hF⟩ := Deep.choose_lt hcell
  refine ⟨fun j => F j % 256, fun j => Nat.mod_lt _ (by decide), fun j hj => ?_⟩
  obtain ⟨h3, h4⟩ := hF j hj
  have h5 := hc j (by omega)
  rw [Addr.add_lit] at h5
  rw [h5, h4]
  show _ = some (Value.int .u8 ((F j % 256 : Nat) : Int))
  rw [Nat.mod_eq_of_lt h3]
/-- Rows of digests. -/
theorem sums_in {a0 : Option Addr} {len0 cap0 : Nat} {d : DataW H} {p : List MemPlace} (h : DataW.Trod enc Tryd.prog W 0 (fun _ => true) held 34 (.slice a0 len0 cap0) d p) : ∃ L : List (Nat → Nat), SsAt W a0 L ∧ L.length = len0 ∧ len0 ≤ cap0 := by
  obtain ⟨fuel, hf⟩ := h
  have c5 : Tryd.prog.cellsOf 24 = 32 := by kernel_rfl
  rcases Deep.open_slice Tryd.underlying34 hf with ⟨hcs, _⟩ | ⟨a, len, cap, m, k, D, Pl, hcs, _, hl, hm, hmm, _, hx⟩
  · simp [Value.cells] at hcs
    obtain ⟨rfl, rfl, rfl⟩ := hcs
    exact ⟨[], ⟨fun F h => (by cases h), fun h => absurd h (by simp)⟩, rfl, Nat.le_refl _⟩
  · simp [Value.cells] at hcs
    obtain ⟨rfl, rfl, rfl⟩ := hcs
    rw [if_pos rfl] at hmm
    subst hmm
    rw [c5] at hx
    obtain ⟨b, off, spot⟩ := a
    by_cases hp : 0 < len0
    · obtain rfl : spot = none := by
        obtain ⟨cs', h1, _⟩ := hx 0 (by omega)
        obtain ⟨_, hl1, hc1⟩ := World.cells?_some h1
        have h2 := hc1 0 (by omega)
        rw [List.getElem?_eq_getElem (by omega)] at h2
        simpa [Addr.add] using World.cell?_spot h2
      have hex : ∀ i, i < len0 → ∃ F : Nat → Nat, (∀ j, F j < 256) ∧ ∀ j, j < 32 → W.cell? ⟨b, off + i * 32 + j, none⟩ = some (.int .u8 ((F j : Nat) : Int)) := fun i hi => by
        obtain ⟨cs', h1, h2⟩ := hx i (by omega)
        rw [Addr.add_lit] at h1
        exact sum_in h1 h2
      obtain ⟨f, hf⟩ := Deep.choose_lt hex
      refine ⟨(List.range len0).map f, ⟨fun F hF => ?_, fun _ => ⟨b, off, rfl, fun i hi j hj => ?_⟩⟩, by simp, hl⟩
      · obtain ⟨i, hi, rfl⟩ := List.mem_map.1 hF
        exact (hf i (List.mem_range.1 hi)).1
      · simp only [List.length_map, List.length_range] at hi
        have := (hf i hi).2 j hj
        rw [Nat.mul_comm] at this
        simpa using this
    · obtain rfl : len0 = 0 := by omega
      exact ⟨[], ⟨fun F h => (by cases h), fun h => absurd h (by simp)⟩, rfl, hl⟩
end
end Go.Proofs.YtbpmgpmkmnkafaaDoor

namespace Go.Proofs.YtbpmgpmkmnkafaaDoor
open Go.RowKit Go.Maps Sh

theorem ix_st {a : Option Addr} {b off n cap i : Nat} (e : a = some ⟨b, off, none⟩) (hi : i < n) (w : World) : (Instr.indexAt 34 (.slice a n cap) (.int .i64 ((i : Nat) : Int))).run Tryd.prog w = .ok (.pointer (some ⟨b, off + 32 * i, none⟩)) w := by
  subst e; exact ix_ss hi w
theorem ld_st {w : World} {a : Option Addr} {b off i : Nat} {L : List (Nat → Nat)} (h : SsAt w a L) (e : a = some ⟨b, off, none⟩) (hi : i < L.length) : (Instr.loadAt 24 (.pointer (some ⟨b, off + 32 * i, none⟩))).run Tryd.prog w = .ok (.agg (ab 32 (L.getD i fun _ => 0))) w := by
  subst e
  rw [ld_ss h hi, List.getD_eq_getElem?_getD, List.getElem?_eq_getElem hi]; rfl
section
variable {x u : Operand}
theorem neS_f {F G : Nat → Nat} (h : eqD F G = true) (w : World) : (do eqGuard .neq 24 x u (.agg (ab 32 F)) (.agg (ab 32 G)); binOp .neq 24 (.agg (ab 32 F)) (.agg (ab 32 G))).run Tryd.prog w = .ok (.bool false) w := by
  rw [neS, h]; rfl
theorem neS_t {F G : Nat → Nat} (h : eqD F G = false) (w : World) : (do eqGuard .neq 24 x u (.agg (ab 32 F)) (.agg (ab 32 G)); binOp .neq 24 (.agg (ab 32 F)) (.agg (ab 32 G))).run Tryd.prog w = .ok (.bool true) w := by
  rw [neS, h]; rfl
end
/-- The same digests. -/
def eqLs : List (Nat → Nat) → List (Nat → Nat) → Bool
  | [], [] => true
  | F :: r, G :: s => eqD F G && eqLs r s
  | _, _ => false
theorem eqLs_refl : ∀ L : List (Nat → Nat), eqLs L L = true
  | [] => rfl
  | F :: r => by
    show (eqD F F && eqLs r r) = true
    rw [eqLs_refl r, eqD_iff.2 fun _ _ => rfl]; rfl
theorem eqLs_len : ∀ {L M : List (Nat → Nat)}, L.length ≠ M.length → eqLs L M = false
  | [], [], h => absurd rfl h
  | [], _ :: _, _ => rfl
  | _ :: _, [], _ => rfl
  | F :: r, G :: s, h => by
    show (eqD F G && eqLs r s) = false
    rw [eqLs_len (L := r) (M := s) (by simpa using h), Bool.and_false]
/-- Either all are the same, or there is a first one that isn't. -/
theorem eqLs_cases : ∀ {L M : List (Nat → Nat)}, L.length = M.length → (eqLs L M = true ∧ ∀ i, i < L.length → eqD (L.getD i fun _ => 0) (M.getD i fun _ => 0) = true) ∨ (eqLs L M = false ∧ ∃ k, k < L.length ∧ eqD (L.getD k fun _ => 0) (M.getD k fun _ => 0) = false ∧ ∀ i, i < k → eqD (L.getD i fun _ => 0) (M.getD i fun _ => 0) = true)
  | [], [], _ => .inl ⟨rfl, fun i h => absurd h (by simp)⟩
  | F :: r, G :: s, h => by
    cases e : eqD F G with
    | false => exact .inr ⟨by show (eqD F G && eqLs r s) = false; rw [e]; rfl, 0, by simp, e, fun i hi => absurd hi (by omega)⟩
    | true =>
      rcases eqLs_cases (L := r) (M := s) (by simpa using h) with ⟨h1, h2⟩ | ⟨h1, k, hk, h2, h3⟩
      · refine .inl ⟨by show (eqD F G && eqLs r s) = true; rw [e, h1]; rfl, fun i hi => ?_⟩
        rcases i with _ | i
        · exact e
        · exact h2 i (by simpa using hi)
      · refine .inr ⟨by show (eqD F G && eqLs r s) = false; rw [e, h1]; rfl, k + 1, by simpa using hk, h2, fun i hi => ?_⟩
        rcases i with _ | i
        · exact e
        · exact h3 i (by omega)
/-- Two digests held against one another, in a plain region. -/
theorem wpList_eqS {w : World} {ops : Array Oper} {rest : List Oper} {o : Oper} {a : Act} {Q : Exit → Act → World → Prop} (hgd : o.guard = none) (x u : Operand) {t' : TypeId} (ho : o.op = .binOp .eql 24 x u t') {F G : Nat → Nat} (hx : a.eval x = .agg (ab 32 F)) (hu : a.eval u = .agg (ab 32 G)) (h : wpList Tryd.prog ops Q rest (a.put o.dst (.bool (eqD F G))) w) : wpList Tryd.prog ops Q (o :: rest) a w := by
  refine wpList_plain hgd fun K hK => ?_
  have h3 := eqS (x := x) (u := u) F G w
  unfold Oper.wp
  simp only [execOp, ho, hx, hu, Sem.run_bind, h3, Result.andThen_ok, Sem.run_pure, Oper.upon_value]
  exact hK _ _ h
theorem wpList_neS {w : World} {ops : Array Oper} {rest : List Oper} {o : Oper} {a : Act} {Q : Exit → Act → World → Prop} (hgd : o.guard = none) (x u : Operand) {t' : TypeId} (ho : o.op = .binOp .neq 24 x u t') {F G : Nat → Nat} (hx : a.eval x = .agg (ab 32 F)) (hu : a.eval u = .agg (ab 32 G)) (h : wpList Tryd.prog ops Q rest (a.put o.dst (.bool (!eqD F G))) w) : wpList Tryd.prog ops Q (o :: rest) a w := by
  refine wpList_plain hgd fun K hK => ?_
  have h3 := neS (x := x) (u := u) F G w
  unfold Oper.wp
  simp only [execOp, ho, hx, hu, Sem.run_bind, h3, Result.andThen_ok, Sem.run_pure, Oper.upon_value]
  exact hK _ _ h
set_option maxHeartbeats 1000000 in
theorem sums_z {a a2 : Option Addr} {cap cap2 : Nat} {W0 : World} : Calls Tryd.prog 21 #[.slice a 0 cap, .slice a2 0 cap2] W0 fun e w' => e = .returned (.bool true) ∧ Below W0.heap.size W0 w' := by
  go_enter Tryd.func21, Tryd.ntmps21
  go_wp2
  refine wp_loop_rounds 1 ?_
  rw [rounds_succ]
  go_wp2
  go_ret
  exact ⟨rfl, Below.refl _ _⟩
end Go.Proofs.YtbpmgpmkmnkafaaDoor

namespace Go.Proofs.YtbpmgpmkmnkafaaDoor
open Go.RowKit Go.Maps Sh
set_option maxHeartbeats 4000000 in
theorem sums_n {aa a2 : Option Addr} {n m cap cap2 : Nat} {W0 : World} (hne : n ≠ m) : Calls Tryd.prog 21 #[.slice aa n cap, .slice a2 m cap2] W0 fun e w' => e = .returned (.bool false) ∧ Below W0.heap.size W0 w' := by
  refine s_in Tryd.func21 Tryd.ntmps21 rfl [.inl (.slice aa n cap), .inl (.slice a2 m cap2)] ?_
  intro β a h
  refine sym_seq ?_
  refine St.r0 h [(4, .inl (.bool false))] [] ?_ ?_
  · exact oz (k_mv (.inr rfl) rfl) <|
    ok_nil
  clear h; intro β a w h
  refine sym_then ?_
  refine sym_seq ?_
  refine sym_seq ?_
  refine St.r0 h [(6, .inl (.slice aa n cap)), (7, .inl (.int .i64 ((n : Nat) : Int))), (8, .inl (.slice a2 m cap2)), (9, .inl (.int .i64 ((m : Nat) : Int))), (10, .inl (.bool true))] [] ?_ ?_
  · exact oz (k_mv (.inl rfl) rfl) <|
    oz (k_ln (ad := aa) n cap rfl rfl (fun w => len_ss _ w)) <|
    oz (k_mv (.inl rfl) rfl) <|
    oz (k_ln (ad := a2) m cap2 rfl rfl (fun w => len_ss _ w)) <|
    oz (k_bi (.int .i64 ((n : Nat) : Int)) (.int .i64 ((m : Nat) : Int)) (.bool true) (ne_i (m := ((n : Nat) : Int)) (n := ((m : Nat) : Int)) (decide_eq_true (by omega))) rfl rfl) <|
    ok_nil
  clear h; intro β a w h
  refine sym_then ?_
  refine s_ct h ?_
  refine sym_seq ?_
  refine St.r0 h [] [] ?_ ?_
  · exact oz (k_mv (.inr rfl) rfl) <|
    ok_nil
  clear h; intro β a w h
  refine sym_then ?_
  refine wp_ret ?_
  refine then_ret ?_
  exact s_rt h Tryd.results21 (fun hb => ⟨rfl, hb⟩)
set_option maxHeartbeats 4000000 in
theorem sums_t {aa a2 : Option Addr} {b off b2 off2 n cap cap2 : Nat} {L M : List (Nat → Nat)} {W0 : World} (hL : SsAt W0 aa L) (hM : SsAt W0 a2 M) (lL : L.length = n) (lM : M.length = n) (hm : n ≤ 1000000) (ea : aa = some ⟨b, off, none⟩) (eb : a2 = some ⟨b2, off2, none⟩) (heq : ∀ i, i < n → eqD (L.getD i fun _ => 0) (M.getD i fun _ => 0) = true) : Calls Tryd.prog 21 #[.slice aa n cap, .slice a2 n cap2] W0 fun e w' => e = .returned (.bool true) ∧ Below W0.heap.size W0 w' := by
  refine s_in Tryd.func21 Tryd.ntmps21 rfl [.inl (.slice aa n cap), .inl (.slice a2 n cap2)] ?_
  intro β a h
  refine sym_seq ?_
  refine St.r0 h [(4, .inl (.bool false))] [] ?_ ?_
  · exact oz (k_mv (.inr rfl) rfl) <|
    ok_nil
  clear h; intro β a w h
  refine sym_then ?_
  refine sym_seq ?_
  refine sym_seq ?_
  refine St.r0 h [(6, .inl (.slice aa n cap)), (7, .inl (.int .i64 ((n : Nat) : Int))), (8, .inl (.slice a2 n cap2)), (9, .inl (.int .i64 ((n : Nat) : Int))), (10, .inl (.bool false))] [] ?_ ?_
  · exact oz (k_mv (.inl rfl) rfl) <|
    oz (k_ln (ad := aa) n cap rfl rfl (fun w => len_ss _ w)) <|
    oz (k_mv (.inl rfl) rfl) <|
    oz (k_ln (ad := a2) n cap2 rfl rfl (fun w => len_ss _ w)) <|
    oz (k_bi (.int .i64 ((n : Nat) : Int)) (.int .i64 ((n : Nat) : Int)) (.bool false) (ne_i (m := ((n : Nat) : Int)) (n := ((n : Nat) : Int)) (decide_eq_false (by omega))) rfl rfl) <|
    ok_nil
  clear h; intro β a w h
  refine sym_then ?_
  refine s_cf h ?_
  refine wp_skip ?_
  refine sym_then ?_
  refine sym_seq ?_
  refine sym_seq ?_
  refine St.r0 h [(11, .inl (.slice aa n cap)), (12, .inl (.int .i64 ((n : Nat) : Int))), (13, .inl (.int .i64 ((0 : Nat) : Int)))] [] ?_ ?_
  · exact oz (k_mv (.inl rfl) rfl) <|
    oz (k_ln (ad := aa) n cap rfl rfl (fun w => len_ss _ w)) <|
    oz (k_mv (.inl rfl) rfl) <|
    ok_nil
  clear h; intro β a w h
  refine sym_then ?_
  refine blk_in ?_
  obtain ⟨x, h⟩ := St.jn (n := 26) h [0, 1, 6, 7, 8, 9, 10, 11, 12, 13] [.inl (.slice aa n cap), .inl (.slice a2 n cap2), .inl (.slice aa n cap), .inl (.int .i64 ((n : Nat) : Int)), .inl (.slice a2 n cap2), .inl (.int .i64 ((n : Nat) : Int)), .inl (.bool false), .inl (.slice aa n cap), .inl (.int .i64 ((n : Nat) : Int)), .inl (.int .i64 ((0 : Nat) : Int))] [] (by kernel_rfl) (by kernel_rfl) (by kernel_rfl)
  refine loop_up n (fun i a w => ∃ (x : Nat → SV) (β : Nat → Nat), St (wd W0) (ov (jk 26 x) ([0, 1, 6, 7, 8, 9, 10, 11, 12, 13].zip [.inl (.slice aa n cap), .inl (.slice a2 n cap2), .inl (.slice aa n cap), .inl (.int .i64 ((n : Nat) : Int)), .inl (.slice a2 n cap2), .inl (.int .i64 ((n : Nat) : Int)), .inl (.bool false), .inl (.slice aa n cap), .inl (.int .i64 ((n : Nat) : Int)), .inl (.int .i64 ((i : Nat) : Int))])) [] β a w) ⟨x, _, h⟩ ?_
  clear h; rintro i a w hki ⟨x, β, h⟩
  rcases Nat.lt_or_ge i n with hlti | hgei
  · refine sym_seq ?_
    refine St.r0 h [(14, .inl (.bool true))] [] ?_ ?_
    · exact oz (k_bi (.int .i64 ((i : Nat) : Int)) (.int .i64 ((n : Nat) : Int)) (.bool true) (lt_i (m := ((i : Nat) : Int)) (n := ((n : Nat) : Int)) (decide_eq_true (by omega))) rfl rfl) <|
      ok_nil
    clear h; intro β a w h
    refine sym_then ?_
    refine sym_seq ?_
    refine s_ct h ?_
    refine wp_skip ?_
    refine sym_then ?_
    refine sym_seq ?_
    refine blk_in ?_
    refine sym_seq ?_
    refine St.r0 h [(15, .inl (.int .i64 ((i : Nat) : Int))), (5, .inl (.int .i64 ((i : Nat) : Int)))] [] ?_ ?_
    · exact oz (k_mv (.inl rfl) rfl) <|
      oz (k_mv (.inr rfl) rfl) <|
      ok_nil
    clear h; intro β a w h
    refine sym_then ?_
    refine sym_seq ?_
    refine St.r0 h [(16, .inl (.slice aa n cap)), (17, .inl (.int .i64 ((i : Nat) : Int))), (18, .inl (.pointer (some ⟨b, off + 32 * i, none⟩))), (19, .inl (.agg (ab 32 (L.getD i fun _ => 0)))), (20, .inl (.slice a2 n cap2)), (21, .inl (.int .i64 ((i : Nat) : Int))), (22, .inl (.pointer (some ⟨b2, off2 + 32 * i, none⟩))), (23, .inl (.agg (ab 32 (M.getD i fun _ => 0)))), (24, .inl (.bool false))] [] ?_ ?_
    · exact oz (k_mv (.inl rfl) rfl) <|
      oz (k_mv (.inl rfl) rfl) <|
      oz (k_is (.slice aa n cap) (.int .i64 ((i : Nat) : Int)) (.pointer (some ⟨b, off + 32 * i, none⟩)) (fun w => ix_st ea (i := i) (by omega) w) rfl rfl) <|
      oz (k_lf (.pointer (some ⟨b, off + 32 * i, none⟩)) (.agg (ab 32 (L.getD i fun _ => 0))) (fun w hw => ld_st (hL.later hw.below) ea (by omega)) rfl rfl) <|
      oz (k_mv (.inl rfl) rfl) <|
      oz (k_mv (.inl rfl) rfl) <|
      oz (k_is (.slice a2 n cap2) (.int .i64 ((i : Nat) : Int)) (.pointer (some ⟨b2, off2 + 32 * i, none⟩)) (fun w => ix_st eb (i := i) (by omega) w) rfl rfl) <|
      oz (k_lf (.pointer (some ⟨b2, off2 + 32 * i, none⟩)) (.agg (ab 32 (M.getD i fun _ => 0))) (fun w hw => ld_st (hM.later hw.below) eb (by omega)) rfl rfl) <|
      oz (k_bi (.agg (ab 32 (L.getD i fun _ => 0))) (.agg (ab 32 (M.getD i fun _ => 0))) (.bool false) (neS_f (heq i (by omega))) rfl rfl) <|
      ok_nil
    clear h; intro β a w h
    refine sym_then ?_
    refine s_cf h ?_
    refine wp_skip ?_
    refine blk_norm ?_
    refine sym_then ?_
    refine St.r0 h [(25, .inl (.int .i64 (((i + 1) : Nat) : Int))), (13, .inl (.int .i64 (((i + 1) : Nat) : Int)))] [eO] ?_ ?_
    · exact oc (k_b0 (.int .i64 ((i : Nat) : Int)) (.int .i64 ((1 : Nat) : Int)) (.int .i64 (((i + 1) : Nat) : Int)) (ad_i (m := i) (n := 1) (by omega)) rfl rfl) <|
      oz (k_mv (.inl rfl) rfl) <|
      ok_nil
    clear h; intro β a w h
    obtain ⟨x, h⟩ := St.jn (n := 26) h [0, 1, 6, 7, 8, 9, 10, 11, 12, 13] [.inl (.slice aa n cap), .inl (.slice a2 n cap2), .inl (.slice aa n cap), .inl (.int .i64 ((n : Nat) : Int)), .inl (.slice a2 n cap2), .inl (.int .i64 ((n : Nat) : Int)), .inl (.bool false), .inl (.slice aa n cap), .inl (.int .i64 ((n : Nat) : Int)), .inl (.int .i64 (((i + 1) : Nat) : Int))] [] (by kernel_rfl) (by kernel_rfl) (by kernel_rfl)
    exact ⟨hlti, x, _, h⟩
  · obtain rfl : n = i := by omega
    refine sym_seq ?_
    refine St.r0 h [(14, .inl (.bool false))] [] ?_ ?_
    · exact oz (k_bi (.int .i64 ((n : Nat) : Int)) (.int .i64 ((n : Nat) : Int)) (.bool false) (lt_i (m := ((n : Nat) : Int)) (n := ((n : Nat) : Int)) (decide_eq_false (by omega))) rfl rfl) <|
      ok_nil
    clear h; intro β a w h
    refine sym_then ?_
    refine sym_seq ?_
    refine s_cf h ?_
    refine wp_exit ?_
    refine then_exit ?_
    refine then_exit ?_
    refine blk_exit ?_
    refine sym_then ?_
    refine sym_seq ?_
    refine St.r0 h [(4, .inl (.bool true))] [] ?_ ?_
    · exact oz (k_mv (.inr rfl) rfl) <|
      ok_nil
    clear h; intro β a w h
    refine sym_then ?_
    refine wp_ret ?_
    exact s_rt h Tryd.results21 (fun hb => ⟨rfl, hb⟩)
set_option maxHeartbeats 4000000 in
theorem sums_f {aa a2 : Option Addr} {b off b2 off2 n k cap cap2 : Nat} {L M : List (Nat → Nat)} {W0 : World} (hL : SsAt W0 aa L) (hM : SsAt W0 a2 M) (lL : L.length = n) (lM : M.length = n) (hm : n ≤ 1000000) (ea : aa = some ⟨b, off, none⟩) (eb : a2 = some ⟨b2, off2, none⟩) (hk : k < n) (hdif : eqD (L.getD k fun _ => 0) (M.getD k fun _ => 0) = false) (heq : ∀ i, i < k → eqD (L.getD i fun _ => 0) (M.getD i fun _ => 0) = true) : Calls Tryd.prog 21 #[.slice aa n cap, .slice a2 n cap2] W0 fun e w' => e = .returned (.bool false) ∧ Below W0.heap.size W0 w' := by
  refine s_in Tryd.func21 Tryd.ntmps21 rfl [.inl (.slice aa n cap), .inl (.slice a2 n cap2)] ?_
  intro β a h
  refine sym_seq ?_
  refine St.r0 h [(4, .inl (.bool false))] [] ?_ ?_
  · exact oz (k_mv (.inr rfl) rfl) <|
    ok_nil
  clear h; intro β a w h
  refine sym_then ?_
  refine sym_seq ?_
  refine sym_seq ?_
  refine St.r0 h [(6, .inl (.slice aa n cap)), (7, .inl (.int .i64 ((n : Nat) : Int))), (8, .inl (.slice a2 n cap2)), (9, .inl (.int .i64 ((n : Nat) : Int))), (10, .inl (.bool false))] [] ?_ ?_
  · exact oz (k_mv (.inl rfl) rfl) <|
    oz (k_ln (ad := aa) n cap rfl rfl (fun w => len_ss _ w)) <|
    oz (k_mv (.inl rfl) rfl) <|
    oz (k_ln (ad := a2) n cap2 rfl rfl (fun w => len_ss _ w)) <|
    oz (k_bi (.int .i64 ((n : Nat) : Int)) (.int .i64 ((n : Nat) : Int)) (.bool false) (ne_i (m := ((n : Nat) : Int)) (n := ((n : Nat) : Int)) (decide_eq_false (by omega))) rfl rfl) <|
    ok_nil
  clear h; intro β a w h
  refine sym_then ?_
  refine s_cf h ?_
  refine wp_skip ?_
  refine sym_then ?_
  refine sym_seq ?_
  refine sym_seq ?_
  refine St.r0 h [(11, .inl (.slice aa n cap)), (12, .inl (.int .i64 ((n : Nat) : Int))), (13, .inl (.int .i64 ((0 : Nat) : Int)))] [] ?_ ?_
  · exact oz (k_mv (.inl rfl) rfl) <|
    oz (k_ln (ad := aa) n cap rfl rfl (fun w => len_ss _ w)) <|
    oz (k_mv (.inl rfl) rfl) <|
    ok_nil
  clear h; intro β a w h
  refine sym_then ?_
  refine blk_in ?_
  obtain ⟨x, h⟩ := St.jn (n := 26) h [0, 1, 6, 7, 8, 9, 10, 11, 12, 13] [.inl (.slice aa n cap), .inl (.slice a2 n cap2), .inl (.slice aa n cap), .inl (.int .i64 ((n : Nat) : Int)), .inl (.slice a2 n cap2), .inl (.int .i64 ((n : Nat) : Int)), .inl (.bool false), .inl (.slice aa n cap), .inl (.int .i64 ((n : Nat) : Int)), .inl (.int .i64 ((0 : Nat) : Int))] [] (by kernel_rfl) (by kernel_rfl) (by kernel_rfl)
  refine loop_up k (fun i a w => ∃ (x : Nat → SV) (β : Nat → Nat), St (wd W0) (ov (jk 26 x) ([0, 1, 6, 7, 8, 9, 10, 11, 12, 13].zip [.inl (.slice aa n cap), .inl (.slice a2 n cap2), .inl (.slice aa n cap), .inl (.int .i64 ((n : Nat) : Int)), .inl (.slice a2 n cap2), .inl (.int .i64 ((n : Nat) : Int)), .inl (.bool false), .inl (.slice aa n cap), .inl (.int .i64 ((n : Nat) : Int)), .inl (.int .i64 ((i : Nat) : Int))])) [] β a w) ⟨x, _, h⟩ ?_
  clear h; rintro i a w hki ⟨x, β, h⟩
  rcases Nat.lt_or_ge i k with hlti | hgei
  · refine sym_seq ?_
    refine St.r0 h [(14, .inl (.bool true))] [] ?_ ?_
    · exact oz (k_bi (.int .i64 ((i : Nat) : Int)) (.int .i64 ((n : Nat) : Int)) (.bool true) (lt_i (m := ((i : Nat) : Int)) (n := ((n : Nat) : Int)) (decide_eq_true (by omega))) rfl rfl) <|
      ok_nil
    clear h; intro β a w h
    refine sym_then ?_
    refine sym_seq ?_
    refine s_ct h ?_
    refine wp_skip ?_
    refine sym_then ?_
    refine sym_seq ?_
    refine blk_in ?_
    refine sym_seq ?_
    refine St.r0 h [(15, .inl (.int .i64 ((i : Nat) : Int))), (5, .inl (.int .i64 ((i : Nat) : Int)))] [] ?_ ?_
    · exact oz (k_mv (.inl rfl) rfl) <|
      oz (k_mv (.inr rfl) rfl) <|
      ok_nil
    clear h; intro β a w h
    refine sym_then ?_
    refine sym_seq ?_
    refine St.r0 h [(16, .inl (.slice aa n cap)), (17, .inl (.int .i64 ((i : Nat) : Int))), (18, .inl (.pointer (some ⟨b, off + 32 * i, none⟩))), (19, .inl (.agg (ab 32 (L.getD i fun _ => 0)))), (20, .inl (.slice a2 n cap2)), (21, .inl (.int .i64 ((i : Nat) : Int))), (22, .inl (.pointer (some ⟨b2, off2 + 32 * i, none⟩))), (23, .inl (.agg (ab 32 (M.getD i fun _ => 0)))), (24, .inl (.bool false))] [] ?_ ?_
    · exact oz (k_mv (.inl rfl) rfl) <|
      oz (k_mv (.inl rfl) rfl) <|
      oz (k_is (.slice aa n cap) (.int .i64 ((i : Nat) : Int)) (.pointer (some ⟨b, off + 32 * i, none⟩)) (fun w => ix_st ea (i := i) (by omega) w) rfl rfl) <|
      oz (k_lf (.pointer (some ⟨b, off + 32 * i, none⟩)) (.agg (ab 32 (L.getD i fun _ => 0))) (fun w hw => ld_st (hL.later hw.below) ea (by omega)) rfl rfl) <|
      oz (k_mv (.inl rfl) rfl) <|
      oz (k_mv (.inl rfl) rfl) <|
      oz (k_is (.slice a2 n cap2) (.int .i64 ((i : Nat) : Int)) (.pointer (some ⟨b2, off2 + 32 * i, none⟩)) (fun w => ix_st eb (i := i) (by omega) w) rfl rfl) <|
      oz (k_lf (.pointer (some ⟨b2, off2 + 32 * i, none⟩)) (.agg (ab 32 (M.getD i fun _ => 0))) (fun w hw => ld_st (hM.later hw.below) eb (by omega)) rfl rfl) <|
      oz (k_bi (.agg (ab 32 (L.getD i fun _ => 0))) (.agg (ab 32 (M.getD i fun _ => 0))) (.bool false) (neS_f (heq i (by omega))) rfl rfl) <|
      ok_nil
    clear h; intro β a w h
    refine sym_then ?_
    refine s_cf h ?_
    refine wp_skip ?_
    refine blk_norm ?_
    refine sym_then ?_
    refine St.r0 h [(25, .inl (.int .i64 (((i + 1) : Nat) : Int))), (13, .inl (.int .i64 (((i + 1) : Nat) : Int)))] [eO] ?_ ?_
    · exact oc (k_b0 (.int .i64 ((i : Nat) : Int)) (.int .i64 ((1 : Nat) : Int)) (.int .i64 (((i + 1) : Nat) : Int)) (ad_i (m := i) (n := 1) (by omega)) rfl rfl) <|
      oz (k_mv (.inl rfl) rfl) <|
      ok_nil
    clear h; intro β a w h
    obtain ⟨x, h⟩ := St.jn (n := 26) h [0, 1, 6, 7, 8, 9, 10, 11, 12, 13] [.inl (.slice aa n cap), .inl (.slice a2 n cap2), .inl (.slice aa n cap), .inl (.int .i64 ((n : Nat) : Int)), .inl (.slice a2 n cap2), .inl (.int .i64 ((n : Nat) : Int)), .inl (.bool false), .inl (.slice aa n cap), .inl (.int .i64 ((n : Nat) : Int)), .inl (.int .i64 (((i + 1) : Nat) : Int))] [] (by kernel_rfl) (by kernel_rfl) (by kernel_rfl)
    exact ⟨hlti, x, _, h⟩
  · obtain rfl : k = i := by omega
    refine sym_seq ?_
    refine St.r0 h [(14, .inl (.bool true))] [] ?_ ?_
    · exact oz (k_bi (.int .i64 ((k : Nat) : Int)) (.int .i64 ((n : Nat) : Int)) (.bool true) (lt_i (m := ((k : Nat) : Int)) (n := ((n : Nat) : Int)) (decide_eq_true (by omega))) rfl rfl) <|
      ok_nil
    clear h; intro β a w h
    refine sym_then ?_
    refine sym_seq ?_
    refine s_ct h ?_
    refine wp_skip ?_
    refine sym_then ?_
    refine sym_seq ?_
    refine blk_in ?_
    refine sym_seq ?_
    refine St.r0 h [(15, .inl (.int .i64 ((k : Nat) : Int))), (5, .inl (.int .i64 ((k : Nat) : Int)))] [] ?_ ?_
    · exact oz (k_mv (.inl rfl) rfl) <|
      oz (k_mv (.inr rfl) rfl) <|
      ok_nil
    clear h; intro β a w h
    refine sym_then ?_
    refine sym_seq ?_
    refine St.r0 h [(16, .inl (.slice aa n cap)), (17, .inl (.int .i64 ((k : Nat) : Int))), (18, .inl (.pointer (some ⟨b, off + 32 * k, none⟩))), (19, .inl (.agg (ab 32 (L.getD k fun _ => 0)))), (20, .inl (.slice a2 n cap2)), (21, .inl (.int .i64 ((k : Nat) : Int))), (22, .inl (.pointer (some ⟨b2, off2 + 32 * k, none⟩))), (23, .inl (.agg (ab 32 (M.getD k fun _ => 0)))), (24, .inl (.bool true))] [] ?_ ?_
    · exact oz (k_mv (.inl rfl) rfl) <|
      oz (k_mv (.inl rfl) rfl) <|
      oz (k_is (.slice aa n cap) (.int .i64 ((k : Nat) : Int)) (.pointer (some ⟨b, off + 32 * k, none⟩)) (fun w => ix_st ea (i := k) (by omega) w) rfl rfl) <|
      oz (k_lf (.pointer (some ⟨b, off + 32 * k, none⟩)) (.agg (ab 32 (L.getD k fun _ => 0))) (fun w hw => ld_st (hL.later hw.below) ea (by omega)) rfl rfl) <|
      oz (k_mv (.inl rfl) rfl) <|
      oz (k_mv (.inl rfl) rfl) <|
      oz (k_is (.slice a2 n cap2) (.int .i64 ((k : Nat) : Int)) (.pointer (some ⟨b2, off2 + 32 * k, none⟩)) (fun w => ix_st eb (i := k) (by omega) w) rfl rfl) <|
      oz (k_lf (.pointer (some ⟨b2, off2 + 32 * k, none⟩)) (.agg (ab 32 (M.getD k fun _ => 0))) (fun w hw => ld_st (hM.later hw.below) eb (by omega)) rfl rfl) <|
      oz (k_bi (.agg (ab 32 (L.getD k fun _ => 0))) (.agg (ab 32 (M.getD k fun _ => 0))) (.bool true) (neS_t hdif) rfl rfl) <|
      ok_nil
    clear h; intro β a w h
    refine sym_then ?_
    refine s_ct h ?_
    refine sym_seq ?_
    refine St.r0 h [(4, .inl (.bool false))] [] ?_ ?_
    · exact oz (k_mv (.inr rfl) rfl) <|
      ok_nil
    clear h; intro β a w h
    refine sym_then ?_
    refine wp_ret ?_
    refine blk_ret ?_
    refine then_ret ?_
    refine then_ret ?_
    refine blk_ret ?_
    refine then_ret ?_
    exact s_rt h Tryd.results21 (fun hb => ⟨rfl, hb⟩)
theorem sums_d {aa a2 : Option Addr} {n m cap cap2 : Nat} {L M : List (Nat → Nat)} {W0 : World} (hL : SsAt W0 aa L) (hM : SsAt W0 a2 M) (lL : L.length = n) (lM : M.length = m) (hm : n ≤ 1000000) : Calls Tryd.prog 21 #[.slice aa n cap, .slice a2 m cap2] W0 fun e w' => e = .returned (.bool (eqLs L M)) ∧ Below W0.heap.size W0 w' := by
  by_cases hne : n = m
  · subst hne
    rcases Nat.eq_zero_or_pos n with h0 | h0
    · subst h0
      obtain rfl := List.eq_nil_of_length_eq_zero lL
      obtain rfl := List.eq_nil_of_length_eq_zero lM
      exact sums_z
    · obtain ⟨b, off, ea, _⟩ := hL.2 (by omega)
      obtain ⟨b2, off2, eb, _⟩ := hM.2 (by omega)
      rcases eqLs_cases (L := L) (M := M) (by omega) with ⟨h1, h2⟩ | ⟨h1, k, hk, h2, h3⟩
      · rw [h1]; exact sums_t hL hM lL lM hm ea eb (fun i hi => h2 i (by omega))
      · rw [h1]; exact sums_f hL hM lL lM hm ea eb (by omega) h2 h3
  · rw [eqLs_len (by omega)]
    exact sums_n hne
end Go.Proofs.YtbpmgpmkmnkafaaDoor

namespace Go.Proofs.YtbpmgpmkmnkafaaDoor
open Go.RowKit Go.Maps Sh
set_option maxHeartbeats 4000000 in
theorem alive_w {W0 : World} {LF E0 : Nat → Nat} (hLF0 : LF 0 = 110) (hLF1 : LF 1 = 52) (hleaf : ∀ w, KW (wd W0) w → Calls Tryd.prog 10 #[.slice none 0 0] w fun e w' => e = .returned (.agg (ab 32 LF)) ∧ Below w.heap.size w w')
    (hcut : ∀ w, Calls Tryd.prog 17 #[.int .i64 ((5 : Nat) : Int)] w fun e w' => e = .returned (.int .i64 ((4 : Nat) : Int)) ∧ Below w.heap.size w w') (hroot : ∀ w, KW (wd W0) w → Calls Tryd.prog 19 #[.slice none 0 0] w fun e w' => e = .returned (.agg (ab 32 E0)) ∧ Below w.heap.size w w')
    (hshort : ∀ w, KW (wd W0) w → Calls Tryd.prog 15 #[.slice none 0 0] w fun e w' => e = .returned (.agg (ab 32 E0)) ∧ Below w.heap.size w w') : Calls Tryd.prog 8 #[] W0 fun e w' => e = .returned (.bool true) ∧ Below W0.heap.size W0 w' := by
  refine s_in Tryd.func8 Tryd.ntmps8 rfl [] ?_
  intro β a h
  refine sym_seq ?_
  refine St.r0 h [(0, .inl (.bool false))] [] ?_ ?_
  · exact oz (k_mv (.inr rfl) rfl) <|
    ok_nil
  clear h; intro β a w h
  refine sym_then ?_
  refine sym_seq ?_
  refine St.rg h [(2, .inl (.agg (ab 32 LF))), (1, .inr (0, pt 0))] [(ab 32 (fun _ => 0), 24)] [(0, ab 32 LF)] [nn, eN 0, eS 0] ?_ ?_
  · exact oc (k_cw 10 #[.slice none 0 0] (.agg (ab 32 LF)) (fun w hw => hleaf w hw) rfl rfl) <|
    oc (k_al 0 alS rfl rfl) <|
    oc (k_st 0 0 (.agg (ab 32 LF)) (c := ab 32 (fun _ => 0)) (n := ab 32 LF) (stS (F := LF) (c := ab 32 (fun _ => 0)) 24 (ab_size _ _)) rfl rfl) <|
    ok_nil
  clear h; intro β a w h
  refine sym_then ?_
  refine sym_seq ?_
  refine St.r0 h [(3, .inr (0, pt 0)), (4, .inl (.int .u8 ((110 : Nat) : Int))), (5, .inl (.bool true)), (6, .inl (.bool true)), (7, .inr (0, pt 1)), (8, .inl (.int .u8 ((52 : Nat) : Int))), (9, .inl (.bool true)), (10, .inl (.bool true)), (11, .inl (.bool true)), (12, .inl (.int .i64 ((4 : Nat) : Int))), (13, .inl (.bool true)), (14, .inl (.bool true)), (15, .inl (.bool true)), (16, .inl (.agg (ab 32 E0))), (17, .inl (.agg (ab 32 E0))), (18, .inl (.bool true)), (19, .inl (.bool true)), (0, .inl (.bool true))] [nn, eR 0, nn, nn, nn, eR 0] ?_ ?_
  · exact oc (k_ia 0 0 0 (.int .i64 ((0 : Nat) : Int)) (ixS (i := 0) (by omega)) rfl rfl) <|
    oc (k_ld 0 0 (.int .u8 ((110 : Nat) : Int)) (c := ab 32 LF) (ld_abv (N := 32) (F := LF) (i := 0) (v := 110) (t0 := 24) (by omega) hLF0) rfl rfl) <|
    oc (k_bi (.int .u8 ((110 : Nat) : Int)) (.int .u8 ((110 : Nat) : Int)) (.bool true) (eqB_t rfl) rfl rfl) <|
    oc (k_mv (.inl rfl) rfl) <|
    oc (k_ia 0 0 1 (.int .i64 ((1 : Nat) : Int)) (ixS (i := 1) (by omega)) rfl rfl) <|
    oc (k_ld 0 1 (.int .u8 ((52 : Nat) : Int)) (c := ab 32 LF) (ld_abv (N := 32) (F := LF) (i := 1) (v := 52) (t0 := 24) (by omega) hLF1) rfl rfl) <|
    oz (k_bi (.int .u8 ((52 : Nat) : Int)) (.int .u8 ((52 : Nat) : Int)) (.bool true) (eqB_t rfl) rfl rfl) <|
    oz (k_pt rfl rfl) <|
    oz (k_mv (.inl rfl) rfl) <|
    oz (k_ca 17 #[.int .i64 ((5 : Nat) : Int)] (.int .i64 ((4 : Nat) : Int)) (fun w => hcut w) rfl rfl) <|
    oz (k_bi (.int .i64 ((4 : Nat) : Int)) (.int .i64 ((4 : Nat) : Int)) (.bool true) (eq_i (m := ((4 : Nat) : Int)) (n := ((4 : Nat) : Int)) (decide_eq_true rfl)) rfl rfl) <|
    oz (k_pt rfl rfl) <|
    oz (k_mv (.inl rfl) rfl) <|
    oz (k_cw 19 #[.slice none 0 0] (.agg (ab 32 E0)) (fun w hw => hroot w hw) rfl rfl) <|
    oz (k_cw 15 #[.slice none 0 0] (.agg (ab 32 E0)) (fun w hw => hshort w hw) rfl rfl) <|
    oz (k_bi (.agg (ab 32 E0)) (.agg (ab 32 E0)) (.bool true) (eqS_t (fun _ _ => rfl)) rfl rfl) <|
    oz (k_pt rfl rfl) <|
    oz (k_mv (.inr rfl) rfl) <|
    ok_nil
  clear h; intro β a w h
  refine sym_then ?_
  refine wp_ret ?_
  exact s_rt h Tryd.results8 (fun hb => ⟨rfl, hb⟩)
theorem nil_bs (w : World) : Bs w none 0 (fun _ => 0) := ⟨fun _ => (by decide : 0 < 256), fun h => absurd h (by omega)⟩
theorem nil_ss (w : World) : SsAt w none [] := ⟨fun F h => (by cases h), fun h => absurd h (by simp)⟩
theorem lf_nil : dg (1 + 0) (lfF fun _ => 0) = dg 1 (fun _ => 0) := dg_cong fun i hi => by unfold lfF; split <;> rfl
theorem cut5 : cut 5 = 4 := by decide +kernel
theorem alive_t {W0 : World} (hg : Gl W0) : Calls Tryd.prog 8 #[] W0 fun e w' => e = .returned (.bool true) ∧ Below W0.heap.size W0 w' :=
  alive_w leaf0.1 leaf0.2 (fun w hw => by have := leaf_d (cap := 0) (gl_b hg hw.below) (nil_bs w) (Nat.le_refl _) (fun x e => by cases e) (by omega); rwa [lf_nil] at this)
    (fun w => by have := cut_k 5 (by omega) w; rwa [cut5] at this)
    (fun w hw => by have := root_d 0 [] none 0 w rfl (by omega) (gl_b hg hw.below) (nil_ss w) (Nat.le_refl _); rwa [root_0] at this)
    (fun w _ => refShort_d (nil_bs w) (by omega))
end Go.Proofs.YtbpmgpmkmnkafaaDoor

namespace Go.Proofs.YtbpmgpmkmnkafaaDoor
open Go.RowKit Go.Maps Sh

/-- The cells of a row of digests. -/
def ssv (L : List (Nat → Nat)) : List Value := L.flatMap fun F => (List.range 32).map fun j => Value.int .u8 ((F j : Nat) : Int)
theorem ssv_len : ∀ L : List (Nat → Nat), (ssv L).length = L.length * 32
  | [] => rfl
  | F :: r => by
    show ((List.range 32).map _ ++ ssv r).length = _
    rw [List.length_append, ssv_len r, List.length_map, List.length_range, List.length_cons]; omega
theorem ssv_get : ∀ (L : List (Nat → Nat)) (i j : Nat) (h : i < L.length), j < 32 → (ssv L)[32 * i + j]? = some (.int .u8 ((L[i] j : Nat) : Int))
  | F :: r, 0, j, h, hj => by
    show ((List.range 32).map _ ++ ssv r)[32 * 0 + j]? = _
    rw [List.getElem?_append_left (by simp; omega), List.getElem?_map, show 32 * 0 + j = j by omega, List.getElem?_range hj]; rfl
  | F :: r, i + 1, j, h, hj => by
    show ((List.range 32).map _ ++ ssv r)[32 * (i + 1) + j]? = _
    rw [List.getElem?_append_right (by simp; omega), List.length_map, List.length_range, show 32 * (i + 1) + j - 32 = 32 * i + j by omega, ssv_get r i j (by simpa using h) hj]; rfl
theorem ssv_one (L : List (Nat → Nat)) : ∀ v ∈ ssv L, v.oneCell' = true := by
  intro v hv
  obtain ⟨F, _, hv⟩ := List.mem_flatMap.1 hv
  obtain ⟨j, _, rfl⟩ := List.mem_map.1 hv
  rfl
theorem info_sum : (Tryd.prog.info? 24).map (fun i => (i.zero, i.size, i.bytes)) = some (some (.agg (ab 32 fun _ => 0)), 32, 32) := by kernel_rfl
/-- An owned row of digests reads so. -/
theorem ss_own {w : World} {base : Nat} {v : Value} {n : Nat} {L : List (Nat → Nat)} (hL : ∀ F ∈ L, ∀ j, F j < 256) (hn : L.length = n) (h : w.ownsRow base 24 32 v n (ssv L)) : ∃ a cap, v = .slice a n cap ∧ SsAt w a L ∧ n ≤ cap := by
  rcases h.2 with ⟨rfl, rfl⟩ | ⟨g, cap, cur, rfl, hb, hg, hnc, hcm, hcs, ht⟩
  · exact ⟨none, 0, rfl, ⟨hL, fun h => absurd h (by omega)⟩, Nat.le_refl _⟩
  · refine ⟨_, cap, rfl, ⟨hL, fun _ => ⟨g, 0, rfl, fun i hi j hj => ?_⟩⟩, hnc⟩
    have h1 := ssv_get L i j hi hj
    rw [← ht, List.getElem?_take] at h1
    rw [cell_of_row _ _ _ _ _ _ hg, Nat.zero_add, ← Array.getElem?_toList]
    split at h1
    · exact h1
    · cases h1
/-- Digests are put behind a row of the call's own. -/
theorem run_append_ss (w : World) (base ty : Nat) (v : Value) (n : Nat) (xs : List Value) (hown : w.ownsRow base 24 32 v n xs) (a : Option Addr) (m c : Nat) (L : List (Nat → Nat)) (hb : SsAt w a L) (hm : L.length = m)
    (hbytes : n + m ≤ 1000000) (hbase : base ≤ w.heap.size) :
    ∃ v' w', (Builtin.append_ #[34, 34] ty #[v, .slice a m c]).run Tryd.prog w = .ok v' w' ∧ w'.ownsRow base 24 32 v' (n + m) (xs ++ ssv L) ∧ w.grownBy w' v.ownBlock := by
  obtain ⟨i0, hi, hz0, hz1, hz2⟩ := info_parts info_sum
  obtain ⟨h2, h3⟩ := hb
  cases a with
  | none =>
    obtain rfl : m = 0 := by
      rcases Nat.eq_zero_or_pos m with h | h
      · exact h
      · obtain ⟨_, _, e, _⟩ := h3 (by omega); cases e
    obtain rfl := List.eq_nil_of_length_eq_zero hm
    refine ⟨v, w, ?_, by simpa [ssv] using hown, ⟨rfl, rfl, rfl, Nat.le_refl _, fun _ _ _ => rfl⟩⟩
    rcases hown.2 with ⟨rfl, rfl⟩ | ⟨g, cap, cur, rfl, _, _, hnc, _⟩
    · simp [Builtin.append_, run_underlying Tryd.underlying34, sizeOf, typeInfo, hi, Builtin.lenOf, Builtin.firstCells]
    · simp [Builtin.append_, run_underlying Tryd.underlying34, sizeOf, typeInfo, hi, Builtin.lenOf, Builtin.firstCells, hnc, storeCells]
  | some ad =>
    have hnews : ∀ j u, (ssv L)[j]? = some u → w.cell? (ad.add j) = some u := by
      intro j u hj
      have hjl : j < m * 32 := by have := (List.getElem?_eq_some_iff.1 hj).1; rwa [ssv_len, hm] at this
      obtain ⟨b, off, e, hc⟩ := h3 (by omega)
      cases e
      have h4 := hc (j / 32) (by omega) (j % 32) (by omega)
      have h5 := ssv_get L (j / 32) (j % 32) (by omega) (by omega)
      rw [show 32 * (j / 32) + j % 32 = j by omega] at h5
      rw [show off + 32 * (j / 32) + j % 32 = off + j by omega] at h4
      rw [Addr.add_lit, h4, ← h5, hj]
    obtain ⟨v', w', hr, h4, h5, _, h6⟩ := run_append_own_at (P := Tryd.prog) w base 34 ty 24 i0 _ 32 32 Tryd.underlying34 hi hz0 hz1 hz2 (ab_size _ _) (by decide) v n xs hown ad m c (ssv L) (by rw [ssv_len, hm]) hnews
      (ssv_one L) (by unfold maxLen; omega) (by omega) hbase
    exact ⟨v', w', hr, h4, h5⟩
theorem wpList_append_ss {w : World} {ops : Array Oper} {rest : List Oper} {o : Oper} {a : Act} {Q : Exit → Act → World → Prop} (hgd : o.guard = none) (s x : Operand)
    (ho : o.op = .call { callee := .builtin .append, args := #[s, x], argTypes := #[34, 34] }) (base : Nat)
    (v : Value) (n : Nat) (xs : List Value) (hs : a.eval s = v) (hown : w.ownsRow base 24 32 v n xs) (ad : Option Addr) (m c : Nat) (L : List (Nat → Nat)) (hx : a.eval x = .slice ad m c) (hb : SsAt w ad L) (hm : L.length = m)
    (hbytes : n + m ≤ 1000000) (hbase : base ≤ w.heap.size)
    (h : ∀ v' w', w'.ownsRow base 24 32 v' (n + m) (xs ++ ssv L) → w.grownBy w' v.ownBlock → wpList Tryd.prog ops Q rest (a.put o.dst v') w') : wpList Tryd.prog ops Q (o :: rest) a w := by
  refine wpList_plain hgd fun K hK => ?_
  obtain ⟨v', w', hr, h2, h3⟩ := run_append_ss w base o.type v n xs hown ad m c L hb hm hbytes hbase
  unfold Oper.wp execOp
  simp only [ho, resolve, invoke, builtin, Sem.run_bind, Sem.run_pure, Result.andThen_ok, List.map_toArray, List.map_cons, List.map_nil, hs, hx, hr]
  exact hK _ _ (h v' w' h2 h3)
set_option maxHeartbeats 4000000 in
set_option maxRecDepth 100000 in
theorem roots_walk {aa : Option Addr} {n cap : Nat} {L : List (Nat → Nat)} {W0 : World} (hL : L.length = n) (hs : SsAt W0 aa L) (hcap : n ≤ cap) (hg : Gl W0) : Calls Tryd.prog 5 #[.slice aa n cap] W0 fun e w' => e = .returned (.bool true) ∧ Below W0.heap.size W0 w' := by
  by_cases h200 : 200 < n
  · have hq : (200 : Int) < (n : Int) := by omega
    go_enter Tryd.func5, Tryd.ntmps5
    go_wp2_with fail
    refine (alive_t hg).mono ?_
    rintro e w1 ⟨rfl, hb1⟩
    go_wp2
    go_ret
    exact ⟨rfl, hb1⟩
  · have hq : ¬ (200 : Int) < (n : Int) := by omega
    obtain ⟨R, hR⟩ : ∃ R, Hid (R = root L) := ⟨_, hide1 rfl⟩
    go_enter Tryd.func5, Tryd.ntmps5
    go_wp2_with fail
    refine (alive_t hg).mono ?_
    rintro e w1 ⟨rfl, hb1⟩
    have hst : (w1.alloc (.cells #[] 24)).ownsRow w1.heap.size 24 32 (.slice (some ⟨w1.heap.size, 0, none⟩) 0 0) 0 [] := ⟨rfl, .inr ⟨w1.heap.size, 0, #[], rfl, Nat.le_refl _, (MapKept.heap_alloc w1 _).1, Nat.le_refl _, by decide, rfl, rfl⟩⟩
    have hal : Below w1.heap.size w1 (w1.alloc (.cells #[] 24)) := (Below.refl _ _).alloc (Nat.le_refl _) _
    have hs1 := hs.later hb1
    have hs2 := hs1.later hal
    go_wp2_with (at_builtin; refine wpList_append_ss rfl (.tmp 9) (.tmp 10) rfl w1.heap.size _ 0 [] rfl hst aa n cap L rfl hs2 hL (by omega) hal.size ?_
                 intro v2 w2 ho2 hg2
                 rw [List.nil_append, Nat.zero_add] at ho2
                 have hw2 : Below w1.heap.size w1 w2 := hal.grown hg2 hal.size (fun k e => (hst.lt k e).1)
                 obtain ⟨ac, cc, rfl, hsc, hnc⟩ := ss_own hs.1 hL ho2
                 clear hg2 ho2 hst)
    have hb02 := hb1.trans (hw2.mono hb1.size)
    have hr1 := root_d n L ac cc w2 hL (by omega) (gl_b hg hb02) hsc hnc
    rw [← hR.out] at hr1
    refine hr1.mono ?_
    rintro e w3 ⟨rfl, hb3⟩
    have hb03 := hb02.trans (hb3.mono hb02.size)
    have hr2 := root_r n L aa cap w3 hL (by omega) (hs.later hb03) hcap
    rw [← hR.out] at hr2
    go_wp2_with fail
    refine hr2.mono ?_
    rintro e w4 ⟨rfl, hb4⟩
    have hb04 := hb03.trans (hb4.mono hb03.size)
    have hsu := sums_d (cap := cc) (cap2 := cap) (W0 := w4) (hsc.later (hb3.trans (hb4.mono hb3.size))) (hs.later hb04) hL hL (by omega)
    rw [eqLs_refl] at hsu
    have heq : eqD R R = true := eqD_iff.2 fun _ _ => rfl
    clear hr1 hr2
    go_wp2_with (first
      | (refine wpList_eqS rfl (.tmp 13) (.tmp 15) rfl (F := R) (G := R) rfl rfl ?_; rw [heq])
      | fail)
    refine hsu.mono ?_
    rintro e w5 ⟨rfl, hb5⟩
    have hb05 := hb04.trans (hb5.mono hb04.size)
    go_wp2
    go_ret
    exact ⟨rfl, hb05⟩
end Go.Proofs.YtbpmgpmkmnkafaaDoor

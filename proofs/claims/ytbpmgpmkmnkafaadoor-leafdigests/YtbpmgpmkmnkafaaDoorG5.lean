/- LRoot, LA5, LA6, LA7, LA8, LAlive, LDigests: laid together. -/
import Derived.ProofKit
import Derived.OpenShut
import Derived.LaidMore
import Derived.Stop.Joined
import Derived.WalkKit
import Derived.ShutString
import Derived.ChangeOld
import Derived.Below
import Derived.Deep.Slices
import Derived.Test.YtbpmgpmkmnkafaaDoorG4
namespace Go.Proofs.YtbpmgpmkmnkafaaDoor
open Go.RowKit Go.Maps Sh

set_option maxHeartbeats 4000000 in
theorem root_d_0 {a0 : Option Addr} {cap : Nat} {W0 : World} {E0 : Nat → Nat} (hem : ∀ w, KW (wd W0) w → Calls Tryd.prog 14 #[] w fun e w' => e = .returned (.agg (ab 32 E0)) ∧ Below w.heap.size w w') : Calls Tryd.prog 19 #[.slice a0 0 cap] W0 fun e w' => e = .returned (.agg (ab 32 E0)) ∧ Below W0.heap.size W0 w' := by
  refine s_in Tryd.func19 Tryd.ntmps19 rfl [.inl (.slice a0 0 cap)] ?_
  intro β a h
  refine sym_seq ?_
  refine St.rg h [(2, .inr (0, pt 0))] [(ab 32 (fun _ => 0), 24)] [] [eN 0] ?_ ?_
  · exact oc (k_al 0 alS rfl rfl) <|
    ok_nil
  clear h; intro β a w h
  refine sym_then ?_
  refine sym_seq ?_
  refine sym_seq ?_
  refine St.r0 h [(4, .inl (.slice a0 0 cap)), (5, .inl (.int .i64 ((0 : Nat) : Int)))] [] ?_ ?_
  · exact oz (k_mv (.inl rfl) rfl) <|
    oz (k_ln (ad := a0) 0 cap rfl rfl (fun w => len_ss _ w)) <|
    ok_nil
  clear h; intro β a w h
  refine sym_then ?_
  refine blk_in ?_
  refine sym_seq ?_
  refine St.r0 h [(7, .inl (.bool true)), (6, .inl (.bool true))] [] ?_ ?_
  · exact oz (k_bi (.int .i64 ((0 : Nat) : Int)) (.int .i64 ((0 : Nat) : Int)) (.bool true) (eq_i (m := ((0 : Nat) : Int)) (n := ((0 : Nat) : Int)) (decide_eq_true (by omega))) rfl rfl) <|
    oz (k_mv (.inr rfl) rfl) <|
    ok_nil
  clear h; intro β a w h
  refine sym_then ?_
  refine s_ct h ?_
  refine sym_seq ?_
  refine St.rg h [(8, .inl (.agg (ab 32 E0)))] [] [(0, ab 32 E0)] [nn, eS 0] ?_ ?_
  · exact oc (k_cw 14 #[] (.agg (ab 32 E0)) (fun w hw => hem w hw) rfl rfl) <|
    oc (k_st 0 0 (.agg (ab 32 E0)) (c := ab 32 (fun _ => 0)) (n := ab 32 E0) (stS (F := E0) (c := ab 32 (fun _ => 0)) 24 (ab_size _ _)) rfl rfl) <|
    ok_nil
  clear h; intro β a w h
  refine sym_then ?_
  refine wp_ret ?_
  refine blk_ret ?_
  refine then_ret ?_
  exact s_rc (b := 0) (t0 := 24) (c := ab 32 E0) h Tryd.results19 Tryd.underlying24 (fun hb => ⟨rfl, hb⟩) (by rw [ab_size]; kernel_rfl)
set_option maxHeartbeats 4000000 in
theorem root_d_1 {b off cap : Nat} {W0 : World} {L0 : Nat → Nat} (ld0 : ∀ w, KW (wd W0) w → (Instr.loadAt 24 (.pointer (some ⟨b, off + 32 * 0, none⟩))).run Tryd.prog w = .ok (.agg (ab 32 L0)) w) : Calls Tryd.prog 19 #[.slice (some ⟨b, off, none⟩) 1 cap] W0 fun e w' => e = .returned (.agg (ab 32 L0)) ∧ Below W0.heap.size W0 w' := by
  refine s_in Tryd.func19 Tryd.ntmps19 rfl [.inl (.slice (some ⟨b, off, none⟩) 1 cap)] ?_
  intro β a h
  refine sym_seq ?_
  refine St.rg h [(2, .inr (0, pt 0))] [(ab 32 (fun _ => 0), 24)] [] [eN 0] ?_ ?_
  · exact oc (k_al 0 alS rfl rfl) <|
    ok_nil
  clear h; intro β a w h
  refine sym_then ?_
  refine sym_seq ?_
  refine sym_seq ?_
  refine St.r0 h [(4, .inl (.slice (some ⟨b, off, none⟩) 1 cap)), (5, .inl (.int .i64 ((1 : Nat) : Int)))] [] ?_ ?_
  · exact oz (k_mv (.inl rfl) rfl) <|
    oz (k_ln (ad := (some ⟨b, off, none⟩)) 1 cap rfl rfl (fun w => len_ss _ w)) <|
    ok_nil
  clear h; intro β a w h
  refine sym_then ?_
  refine blk_in ?_
  refine sym_seq ?_
  refine St.r0 h [(7, .inl (.bool false)), (6, .inl (.bool false))] [] ?_ ?_
  · exact oz (k_bi (.int .i64 ((1 : Nat) : Int)) (.int .i64 ((0 : Nat) : Int)) (.bool false) (eq_i (m := ((1 : Nat) : Int)) (n := ((0 : Nat) : Int)) (decide_eq_false (by omega))) rfl rfl) <|
    oz (k_mv (.inr rfl) rfl) <|
    ok_nil
  clear h; intro β a w h
  refine sym_then ?_
  refine s_cf h ?_
  refine sym_seq ?_
  refine St.r0 h [(10, .inl (.bool true)), (9, .inl (.bool true))] [] ?_ ?_
  · exact oz (k_bi (.int .i64 ((1 : Nat) : Int)) (.int .i64 ((1 : Nat) : Int)) (.bool true) (eq_i (m := ((1 : Nat) : Int)) (n := ((1 : Nat) : Int)) (decide_eq_true (by omega))) rfl rfl) <|
    oz (k_mv (.inr rfl) rfl) <|
    ok_nil
  clear h; intro β a w h
  refine sym_then ?_
  refine s_ct h ?_
  refine sym_seq ?_
  refine St.rg h [(11, .inl (.slice (some ⟨b, off, none⟩) 1 cap)), (12, .inl (.pointer (some ⟨b, off + 32 * 0, none⟩))), (13, .inl (.agg (ab 32 L0)))] [] [(0, ab 32 L0)] [nn, nn, nn, eS 0] ?_ ?_
  · exact oc (k_mv (.inl rfl) rfl) <|
    oc (k_is (.slice (some ⟨b, off, none⟩) 1 cap) (.int .i64 ((0 : Nat) : Int)) (.pointer (some ⟨b, off + 32 * 0, none⟩)) (fun w => ix_ss (i := 0) (by omega) w) rfl rfl) <|
    oc (k_lf (.pointer (some ⟨b, off + 32 * 0, none⟩)) (.agg (ab 32 L0)) (fun w hw => ld0 w hw) rfl rfl) <|
    oc (k_st 0 0 (.agg (ab 32 L0)) (c := ab 32 (fun _ => 0)) (n := ab 32 L0) (stS (F := L0) (c := ab 32 (fun _ => 0)) 24 (ab_size _ _)) rfl rfl) <|
    ok_nil
  clear h; intro β a w h
  refine sym_then ?_
  refine wp_ret ?_
  refine blk_ret ?_
  refine then_ret ?_
  exact s_rc (b := 0) (t0 := 24) (c := ab 32 L0) h Tryd.results19 Tryd.underlying24 (fun hb => ⟨rfl, hb⟩) (by rw [ab_size]; kernel_rfl)
set_option maxHeartbeats 4000000 in
theorem root_d_2 {b off n cap : Nat} {W0 : World} {Rlo Rhi : Nat → Nat} (hn : 2 ≤ n) (hm : n ≤ 1000000) (hcap : n ≤ cap) (hk : 1 ≤ cut n ∧ cut n < n ∧ n ≤ 2 * cut n)
    (hlo : ∀ w, KW (wd W0) w → Calls Tryd.prog 19 #[.slice (some ⟨b, off, none⟩) (cut n) cap] w fun e w' => e = .returned (.agg (ab 32 Rlo)) ∧ Below w.heap.size w w')
    (hhi : ∀ w, KW (wd W0) w → Calls Tryd.prog 19 #[.slice (some ⟨b, off + 32 * cut n, none⟩) (n - cut n) (cap - cut n)] w fun e w' => e = .returned (.agg (ab 32 Rhi)) ∧ Below w.heap.size w w')
    (hnd : ∀ w, KW (wd W0) w → Calls Tryd.prog 12 #[.agg (ab 32 Rlo), .agg (ab 32 Rhi)] w fun e w' => e = .returned (.agg (ab 32 (nd Rlo Rhi))) ∧ Below w.heap.size w w') : Calls Tryd.prog 19 #[.slice (some ⟨b, off, none⟩) n cap] W0 fun e w' => e = .returned (.agg (ab 32 (nd Rlo Rhi))) ∧ Below W0.heap.size W0 w' := by
  obtain ⟨hk1, hk2, hk3⟩ := hk
  refine s_in Tryd.func19 Tryd.ntmps19 rfl [.inl (.slice (some ⟨b, off, none⟩) n cap)] ?_
  intro β a h
  refine sym_seq ?_
  refine St.rg h [(2, .inr (0, pt 0))] [(ab 32 (fun _ => 0), 24)] [] [eN 0] ?_ ?_
  · exact oc (k_al 0 alS rfl rfl) <|
    ok_nil
  clear h; intro β a w h
  refine sym_then ?_
  refine sym_seq ?_
  refine sym_seq ?_
  refine St.r0 h [(4, .inl (.slice (some ⟨b, off, none⟩) n cap)), (5, .inl (.int .i64 ((n : Nat) : Int)))] [] ?_ ?_
  · exact oz (k_mv (.inl rfl) rfl) <|
    oz (k_ln (ad := (some ⟨b, off, none⟩)) n cap rfl rfl (fun w => len_ss _ w)) <|
    ok_nil
  clear h; intro β a w h
  refine sym_then ?_
  refine blk_in ?_
  refine sym_seq ?_
  refine St.r0 h [(7, .inl (.bool false)), (6, .inl (.bool false))] [] ?_ ?_
  · exact oz (k_bi (.int .i64 ((n : Nat) : Int)) (.int .i64 ((0 : Nat) : Int)) (.bool false) (eq_i (m := ((n : Nat) : Int)) (n := ((0 : Nat) : Int)) (decide_eq_false (by omega))) rfl rfl) <|
    oz (k_mv (.inr rfl) rfl) <|
    ok_nil
  clear h; intro β a w h
  refine sym_then ?_
  refine s_cf h ?_
  refine sym_seq ?_
  refine St.r0 h [(10, .inl (.bool false)), (9, .inl (.bool false))] [] ?_ ?_
  · exact oz (k_bi (.int .i64 ((n : Nat) : Int)) (.int .i64 ((1 : Nat) : Int)) (.bool false) (eq_i (m := ((n : Nat) : Int)) (n := ((1 : Nat) : Int)) (decide_eq_false (by omega))) rfl rfl) <|
    oz (k_mv (.inr rfl) rfl) <|
    ok_nil
  clear h; intro β a w h
  refine sym_then ?_
  refine s_cf h ?_
  refine wp_skip ?_
  refine blk_norm ?_
  refine sym_then ?_
  refine sym_seq ?_
  refine St.r0 h [(14, .inl (.slice (some ⟨b, off, none⟩) n cap)), (15, .inl (.int .i64 ((n : Nat) : Int))), (16, .inl (.int .i64 (((cut n) : Nat) : Int))), (3, .inl (.int .i64 (((cut n) : Nat) : Int)))] [] ?_ ?_
  · exact oz (k_mv (.inl rfl) rfl) <|
    oz (k_ln (ad := (some ⟨b, off, none⟩)) n cap rfl rfl (fun w => len_ss _ w)) <|
    oz (k_ca 17 #[.int .i64 ((n : Nat) : Int)] (.int .i64 (((cut n) : Nat) : Int)) (fun w => cut_k n (by omega) w) rfl rfl) <|
    oz (k_mv (.inr rfl) rfl) <|
    ok_nil
  clear h; intro β a w h
  refine sym_then ?_
  refine sym_seq ?_
  refine St.rg h [(17, .inl (.slice (some ⟨b, off, none⟩) n cap)), (18, .inl (.int .i64 (((cut n) : Nat) : Int))), (19, .inl (.slice (some ⟨b, off, none⟩) (cut n) cap)), (20, .inl (.agg (ab 32 Rlo))), (21, .inl (.slice (some ⟨b, off, none⟩) n cap)), (22, .inl (.int .i64 (((cut n) : Nat) : Int))), (23, .inl (.slice (some ⟨b, off + 32 * (cut n), none⟩) (n - (cut n)) (cap - (cut n)))), (24, .inl (.agg (ab 32 Rhi))), (25, .inl (.agg (ab 32 (nd Rlo Rhi))))] [] [(0, ab 32 (nd Rlo Rhi))] [nn, nn, nn, nn, nn, nn, nn, nn, nn, eS 0] ?_ ?_
  · exact oc (k_mv (.inl rfl) rfl) <|
    oc (k_mv (.inl rfl) rfl) <|
    oc (k_sw (.slice (some ⟨b, off, none⟩) n cap) (.slice (some ⟨b, off, none⟩) (cut n) cap) none (some (.int .i64 (((cut n) : Nat) : Int))) (sl_lo (by omega) hcap) rfl rfl) <|
    oc (k_cw 19 #[.slice (some ⟨b, off, none⟩) (cut n) cap] (.agg (ab 32 Rlo)) (fun w hw => hlo w hw) rfl rfl) <|
    oc (k_mv (.inl rfl) rfl) <|
    oc (k_mv (.inl rfl) rfl) <|
    oc (k_sw (.slice (some ⟨b, off, none⟩) n cap) (.slice (some ⟨b, off + 32 * (cut n), none⟩) (n - (cut n)) (cap - (cut n))) (some (.int .i64 (((cut n) : Nat) : Int))) none (sl_hi (by omega) hcap) rfl rfl) <|
    oc (k_cw 19 #[.slice (some ⟨b, off + 32 * (cut n), none⟩) (n - (cut n)) (cap - (cut n))] (.agg (ab 32 Rhi)) (fun w hw => hhi w hw) rfl rfl) <|
    oc (k_cw 12 #[.agg (ab 32 Rlo), .agg (ab 32 Rhi)] (.agg (ab 32 (nd Rlo Rhi))) (fun w hw => hnd w hw) rfl rfl) <|
    oc (k_st 0 0 (.agg (ab 32 (nd Rlo Rhi))) (c := ab 32 (fun _ => 0)) (n := ab 32 (nd Rlo Rhi)) (stS (F := (nd Rlo Rhi)) (c := ab 32 (fun _ => 0)) 24 (ab_size _ _)) rfl rfl) <|
    ok_nil
  clear h; intro β a w h
  refine sym_then ?_
  refine wp_ret ?_
  exact s_rc (b := 0) (t0 := 24) (c := ab 32 (nd Rlo Rhi)) h Tryd.results19 Tryd.underlying24 (fun hb => ⟨rfl, hb⟩) (by rw [ab_size]; kernel_rfl)
theorem root_d : ∀ (n : Nat) (L : List (Nat → Nat)) (a : Option Addr) (cap : Nat) (W0 : World), L.length = n → n ≤ 1000000 → Gl W0 → SsAt W0 a L → n ≤ cap → Calls Tryd.prog 19 #[.slice a n cap] W0 fun e w' => e = .returned (.agg (ab 32 (root L))) ∧ Below W0.heap.size W0 w' := by
  intro n
  induction n using Nat.strongRecOn with
  | ind n ih =>
    intro L a cap W0 hL hm hg hs hcap
    rcases Nat.lt_or_ge n 2 with h2 | h2
    · rcases Nat.lt_or_ge n 1 with h1 | h1
      · obtain rfl : n = 0 := by omega
        obtain rfl := List.eq_nil_of_length_eq_zero hL
        rw [root_0]
        exact root_d_0 (fun w hw => empty_d (gl_b hg hw.below))
      · obtain rfl : n = 1 := by omega
        obtain ⟨b, off, rfl, hc⟩ := hs.2 (by omega)
        obtain ⟨x, rfl⟩ : ∃ x, L = [x] := List.length_eq_one_iff.1 hL
        rw [root_1]
        exact root_d_1 (fun w hw => ld_ss (i := 0) (hs.later hw.below) (by simp))
    · obtain ⟨b, off, rfl, hc⟩ := hs.2 (by omega)
      have hk := cut_in h2
      have l1 : (L.take (cut n)).length = cut n := by rw [List.length_take]; omega
      have l2 : (L.drop (cut n)).length = n - cut n := by rw [List.length_drop]; omega
      have b1 := root_lt _ (L.take (cut n)) rfl (fun F hF => hs.1 F (List.mem_of_mem_take hF))
      have b2 := root_lt _ (L.drop (cut n)) rfl (fun F hF => hs.1 F (List.mem_of_mem_drop hF))
      rw [root_n (by omega), hL]
      exact root_d_2 h2 hm hcap hk (fun w hw => ih (cut n) hk.2.1 (L.take (cut n)) _ cap w l1 (by omega) (gl_b hg hw.below) (hs.lo.later hw.below) (by omega))
        (fun w hw => ih (n - cut n) (by omega) (L.drop (cut n)) _ (cap - cut n) w l2 (by omega) (gl_b hg hw.below) (hs.hi.later hw.below) (by omega))
        (fun w hw => node_d (gl_b hg hw.below) b1 b2)

set_option maxHeartbeats 4000000 in
theorem root_r_0 {a0 : Option Addr} {cap : Nat} {W0 : World} {E0 : Nat → Nat} (hem : ∀ w, KW (wd W0) w → Calls Tryd.prog 15 #[.slice none 0 0] w fun e w' => e = .returned (.agg (ab 32 E0)) ∧ Below w.heap.size w w') : Calls Tryd.prog 20 #[.slice a0 0 cap] W0 fun e w' => e = .returned (.agg (ab 32 E0)) ∧ Below W0.heap.size W0 w' := by
  refine s_in Tryd.func20 Tryd.ntmps20 rfl [.inl (.slice a0 0 cap)] ?_
  intro β a h
  refine sym_seq ?_
  refine St.rg h [(2, .inr (0, pt 0))] [(ab 32 (fun _ => 0), 24)] [] [eN 0] ?_ ?_
  · exact oc (k_al 0 alS rfl rfl) <|
    ok_nil
  clear h; intro β a w h
  refine sym_then ?_
  refine sym_seq ?_
  refine sym_seq ?_
  refine St.r0 h [(4, .inl (.slice a0 0 cap)), (5, .inl (.int .i64 ((0 : Nat) : Int))), (6, .inl (.bool true))] [] ?_ ?_
  · exact oz (k_mv (.inl rfl) rfl) <|
    oz (k_ln (ad := a0) 0 cap rfl rfl (fun w => len_ss _ w)) <|
    oz (k_bi (.int .i64 ((0 : Nat) : Int)) (.int .i64 ((0 : Nat) : Int)) (.bool true) (eq_i (m := ((0 : Nat) : Int)) (n := ((0 : Nat) : Int)) (decide_eq_true (by omega))) rfl rfl) <|
    ok_nil
  clear h; intro β a w h
  refine sym_then ?_
  refine s_ct h ?_
  refine sym_seq ?_
  refine St.rg h [(7, .inl (.agg (ab 32 E0)))] [] [(0, ab 32 E0)] [nn, eS 0] ?_ ?_
  · exact oc (k_cw 15 #[.slice none 0 0] (.agg (ab 32 E0)) (fun w hw => hem w hw) rfl rfl) <|
    oc (k_st 0 0 (.agg (ab 32 E0)) (c := ab 32 (fun _ => 0)) (n := ab 32 E0) (stS (F := E0) (c := ab 32 (fun _ => 0)) 24 (ab_size _ _)) rfl rfl) <|
    ok_nil
  clear h; intro β a w h
  refine sym_then ?_
  refine wp_ret ?_
  refine then_ret ?_
  exact s_rc (b := 0) (t0 := 24) (c := ab 32 E0) h Tryd.results20 Tryd.underlying24 (fun hb => ⟨rfl, hb⟩) (by rw [ab_size]; kernel_rfl)
set_option maxHeartbeats 4000000 in
theorem root_r_1 {b off cap : Nat} {W0 : World} {L0 : Nat → Nat} (ld0 : ∀ w, KW (wd W0) w → (Instr.loadAt 24 (.pointer (some ⟨b, off + 32 * 0, none⟩))).run Tryd.prog w = .ok (.agg (ab 32 L0)) w) : Calls Tryd.prog 20 #[.slice (some ⟨b, off, none⟩) 1 cap] W0 fun e w' => e = .returned (.agg (ab 32 L0)) ∧ Below W0.heap.size W0 w' := by
  refine s_in Tryd.func20 Tryd.ntmps20 rfl [.inl (.slice (some ⟨b, off, none⟩) 1 cap)] ?_
  intro β a h
  refine sym_seq ?_
  refine St.rg h [(2, .inr (0, pt 0))] [(ab 32 (fun _ => 0), 24)] [] [eN 0] ?_ ?_
  · exact oc (k_al 0 alS rfl rfl) <|
    ok_nil
  clear h; intro β a w h
  refine sym_then ?_
  refine sym_seq ?_
  refine sym_seq ?_
  refine St.r0 h [(4, .inl (.slice (some ⟨b, off, none⟩) 1 cap)), (5, .inl (.int .i64 ((1 : Nat) : Int))), (6, .inl (.bool false))] [] ?_ ?_
  · exact oz (k_mv (.inl rfl) rfl) <|
    oz (k_ln (ad := (some ⟨b, off, none⟩)) 1 cap rfl rfl (fun w => len_ss _ w)) <|
    oz (k_bi (.int .i64 ((1 : Nat) : Int)) (.int .i64 ((0 : Nat) : Int)) (.bool false) (eq_i (m := ((1 : Nat) : Int)) (n := ((0 : Nat) : Int)) (decide_eq_false (by omega))) rfl rfl) <|
    ok_nil
  clear h; intro β a w h
  refine sym_then ?_
  refine s_cf h ?_
  refine wp_skip ?_
  refine sym_then ?_
  refine sym_seq ?_
  refine sym_seq ?_
  refine St.r0 h [(8, .inl (.slice (some ⟨b, off, none⟩) 1 cap)), (9, .inl (.int .i64 ((1 : Nat) : Int))), (10, .inl (.bool true))] [] ?_ ?_
  · exact oz (k_mv (.inl rfl) rfl) <|
    oz (k_ln (ad := (some ⟨b, off, none⟩)) 1 cap rfl rfl (fun w => len_ss _ w)) <|
    oz (k_bi (.int .i64 ((1 : Nat) : Int)) (.int .i64 ((1 : Nat) : Int)) (.bool true) (eq_i (m := ((1 : Nat) : Int)) (n := ((1 : Nat) : Int)) (decide_eq_true (by omega))) rfl rfl) <|
    ok_nil
  clear h; intro β a w h
  refine sym_then ?_
  refine s_ct h ?_
  refine sym_seq ?_
  refine St.rg h [(11, .inl (.slice (some ⟨b, off, none⟩) 1 cap)), (12, .inl (.pointer (some ⟨b, off + 32 * 0, none⟩))), (13, .inl (.agg (ab 32 L0)))] [] [(0, ab 32 L0)] [nn, nn, nn, eS 0] ?_ ?_
  · exact oc (k_mv (.inl rfl) rfl) <|
    oc (k_is (.slice (some ⟨b, off, none⟩) 1 cap) (.int .i64 ((0 : Nat) : Int)) (.pointer (some ⟨b, off + 32 * 0, none⟩)) (fun w => ix_ss (i := 0) (by omega) w) rfl rfl) <|
    oc (k_lf (.pointer (some ⟨b, off + 32 * 0, none⟩)) (.agg (ab 32 L0)) (fun w hw => ld0 w hw) rfl rfl) <|
    oc (k_st 0 0 (.agg (ab 32 L0)) (c := ab 32 (fun _ => 0)) (n := ab 32 L0) (stS (F := L0) (c := ab 32 (fun _ => 0)) 24 (ab_size _ _)) rfl rfl) <|
    ok_nil
  clear h; intro β a w h
  refine sym_then ?_
  refine wp_ret ?_
  refine then_ret ?_
  exact s_rc (b := 0) (t0 := 24) (c := ab 32 L0) h Tryd.results20 Tryd.underlying24 (fun hb => ⟨rfl, hb⟩) (by rw [ab_size]; kernel_rfl)
set_option maxHeartbeats 4000000 in
theorem root_r_2 {b off n cap : Nat} {W0 : World} {Rlo Rhi : Nat → Nat} (hn : 2 ≤ n) (hm : n ≤ 1000000) (hcap : n ≤ cap) (hk : 1 ≤ cut n ∧ cut n < n ∧ n ≤ 2 * cut n)
    (hlo : ∀ w, KW (wd W0) w → Calls Tryd.prog 20 #[.slice (some ⟨b, off, none⟩) (cut n) cap] w fun e w' => e = .returned (.agg (ab 32 Rlo)) ∧ Below w.heap.size w w')
    (hhi : ∀ w, KW (wd W0) w → Calls Tryd.prog 20 #[.slice (some ⟨b, off + 32 * cut n, none⟩) (n - cut n) (cap - cut n)] w fun e w' => e = .returned (.agg (ab 32 Rhi)) ∧ Below w.heap.size w w')
    (hnd : ∀ w, KW (wd W0) w → Calls Tryd.prog 13 #[.agg (ab 32 Rlo), .agg (ab 32 Rhi)] w fun e w' => e = .returned (.agg (ab 32 (nd Rlo Rhi))) ∧ Below w.heap.size w w') : Calls Tryd.prog 20 #[.slice (some ⟨b, off, none⟩) n cap] W0 fun e w' => e = .returned (.agg (ab 32 (nd Rlo Rhi))) ∧ Below W0.heap.size W0 w' := by
  obtain ⟨hk1, hk2, hk3⟩ := hk
  refine s_in Tryd.func20 Tryd.ntmps20 rfl [.inl (.slice (some ⟨b, off, none⟩) n cap)] ?_
  intro β a h
  refine sym_seq ?_
  refine St.rg h [(2, .inr (0, pt 0))] [(ab 32 (fun _ => 0), 24)] [] [eN 0] ?_ ?_
  · exact oc (k_al 0 alS rfl rfl) <|
    ok_nil
  clear h; intro β a w h
  refine sym_then ?_
  refine sym_seq ?_
  refine sym_seq ?_
  refine St.r0 h [(4, .inl (.slice (some ⟨b, off, none⟩) n cap)), (5, .inl (.int .i64 ((n : Nat) : Int))), (6, .inl (.bool false))] [] ?_ ?_
  · exact oz (k_mv (.inl rfl) rfl) <|
    oz (k_ln (ad := (some ⟨b, off, none⟩)) n cap rfl rfl (fun w => len_ss _ w)) <|
    oz (k_bi (.int .i64 ((n : Nat) : Int)) (.int .i64 ((0 : Nat) : Int)) (.bool false) (eq_i (m := ((n : Nat) : Int)) (n := ((0 : Nat) : Int)) (decide_eq_false (by omega))) rfl rfl) <|
    ok_nil
  clear h; intro β a w h
  refine sym_then ?_
  refine s_cf h ?_
  refine wp_skip ?_
  refine sym_then ?_
  refine sym_seq ?_
  refine sym_seq ?_
  refine St.r0 h [(8, .inl (.slice (some ⟨b, off, none⟩) n cap)), (9, .inl (.int .i64 ((n : Nat) : Int))), (10, .inl (.bool false))] [] ?_ ?_
  · exact oz (k_mv (.inl rfl) rfl) <|
    oz (k_ln (ad := (some ⟨b, off, none⟩)) n cap rfl rfl (fun w => len_ss _ w)) <|
    oz (k_bi (.int .i64 ((n : Nat) : Int)) (.int .i64 ((1 : Nat) : Int)) (.bool false) (eq_i (m := ((n : Nat) : Int)) (n := ((1 : Nat) : Int)) (decide_eq_false (by omega))) rfl rfl) <|
    ok_nil
  clear h; intro β a w h
  refine sym_then ?_
  refine s_cf h ?_
  refine wp_skip ?_
  refine sym_then ?_
  refine sym_seq ?_
  refine St.r0 h [(14, .inl (.slice (some ⟨b, off, none⟩) n cap)), (15, .inl (.int .i64 ((n : Nat) : Int))), (16, .inl (.int .i64 (((cut n) : Nat) : Int))), (3, .inl (.int .i64 (((cut n) : Nat) : Int)))] [] ?_ ?_
  · exact oz (k_mv (.inl rfl) rfl) <|
    oz (k_ln (ad := (some ⟨b, off, none⟩)) n cap rfl rfl (fun w => len_ss _ w)) <|
    oz (k_ca 18 #[.int .i64 ((n : Nat) : Int)] (.int .i64 (((cut n) : Nat) : Int)) (fun w => cut_kr n (by omega) w) rfl rfl) <|
    oz (k_mv (.inr rfl) rfl) <|
    ok_nil
  clear h; intro β a w h
  refine sym_then ?_
  refine sym_seq ?_
  refine St.rg h [(17, .inl (.slice (some ⟨b, off, none⟩) n cap)), (18, .inl (.int .i64 (((cut n) : Nat) : Int))), (19, .inl (.slice (some ⟨b, off, none⟩) (cut n) cap)), (20, .inl (.agg (ab 32 Rlo))), (21, .inl (.slice (some ⟨b, off, none⟩) n cap)), (22, .inl (.int .i64 (((cut n) : Nat) : Int))), (23, .inl (.slice (some ⟨b, off + 32 * (cut n), none⟩) (n - (cut n)) (cap - (cut n)))), (24, .inl (.agg (ab 32 Rhi))), (25, .inl (.agg (ab 32 (nd Rlo Rhi))))] [] [(0, ab 32 (nd Rlo Rhi))] [nn, nn, nn, nn, nn, nn, nn, nn, nn, eS 0] ?_ ?_
  · exact oc (k_mv (.inl rfl) rfl) <|
    oc (k_mv (.inl rfl) rfl) <|
    oc (k_sw (.slice (some ⟨b, off, none⟩) n cap) (.slice (some ⟨b, off, none⟩) (cut n) cap) none (some (.int .i64 (((cut n) : Nat) : Int))) (sl_lo (by omega) hcap) rfl rfl) <|
    oc (k_cw 20 #[.slice (some ⟨b, off, none⟩) (cut n) cap] (.agg (ab 32 Rlo)) (fun w hw => hlo w hw) rfl rfl) <|
    oc (k_mv (.inl rfl) rfl) <|
    oc (k_mv (.inl rfl) rfl) <|
    oc (k_sw (.slice (some ⟨b, off, none⟩) n cap) (.slice (some ⟨b, off + 32 * (cut n), none⟩) (n - (cut n)) (cap - (cut n))) (some (.int .i64 (((cut n) : Nat) : Int))) none (sl_hi (by omega) hcap) rfl rfl) <|
    oc (k_cw 20 #[.slice (some ⟨b, off + 32 * (cut n), none⟩) (n - (cut n)) (cap - (cut n))] (.agg (ab 32 Rhi)) (fun w hw => hhi w hw) rfl rfl) <|
    oc (k_cw 13 #[.agg (ab 32 Rlo), .agg (ab 32 Rhi)] (.agg (ab 32 (nd Rlo Rhi))) (fun w hw => hnd w hw) rfl rfl) <|
    oc (k_st 0 0 (.agg (ab 32 (nd Rlo Rhi))) (c := ab 32 (fun _ => 0)) (n := ab 32 (nd Rlo Rhi)) (stS (F := (nd Rlo Rhi)) (c := ab 32 (fun _ => 0)) 24 (ab_size _ _)) rfl rfl) <|
    ok_nil
  clear h; intro β a w h
  refine sym_then ?_
  refine wp_ret ?_
  exact s_rc (b := 0) (t0 := 24) (c := ab 32 (nd Rlo Rhi)) h Tryd.results20 Tryd.underlying24 (fun hb => ⟨rfl, hb⟩) (by rw [ab_size]; kernel_rfl)
theorem root_r : ∀ (n : Nat) (L : List (Nat → Nat)) (a : Option Addr) (cap : Nat) (W0 : World), L.length = n → n ≤ 1000000 → SsAt W0 a L → n ≤ cap → Calls Tryd.prog 20 #[.slice a n cap] W0 fun e w' => e = .returned (.agg (ab 32 (root L))) ∧ Below W0.heap.size W0 w' := by
  intro n
  induction n using Nat.strongRecOn with
  | ind n ih =>
    intro L a cap W0 hL hm hs hcap
    rcases Nat.lt_or_ge n 2 with h2 | h2
    · rcases Nat.lt_or_ge n 1 with h1 | h1
      · obtain rfl : n = 0 := by omega
        obtain rfl := List.eq_nil_of_length_eq_zero hL
        rw [root_0]
        exact root_r_0 (fun w hw => refShort_d (f := fun _ => 0) ⟨fun _ => (by decide : 0 < 256), fun h => absurd h (by omega)⟩ (by omega))
      · obtain rfl : n = 1 := by omega
        obtain ⟨b, off, rfl, hc⟩ := hs.2 (by omega)
        obtain ⟨x, rfl⟩ : ∃ x, L = [x] := List.length_eq_one_iff.1 hL
        rw [root_1]
        exact root_r_1 (fun w hw => ld_ss (i := 0) (hs.later hw.below) (by simp))
    · obtain ⟨b, off, rfl, hc⟩ := hs.2 (by omega)
      have hk := cut_in h2
      have l1 : (L.take (cut n)).length = cut n := by rw [List.length_take]; omega
      have l2 : (L.drop (cut n)).length = n - cut n := by rw [List.length_drop]; omega
      have b1 := root_lt _ (L.take (cut n)) rfl (fun F hF => hs.1 F (List.mem_of_mem_take hF))
      have b2 := root_lt _ (L.drop (cut n)) rfl (fun F hF => hs.1 F (List.mem_of_mem_drop hF))
      rw [root_n (by omega), hL]
      exact root_r_2 h2 hm hcap hk (fun w hw => ih (cut n) hk.2.1 (L.take (cut n)) _ cap w l1 (by omega) (hs.lo.later hw.below) (by omega))
        (fun w hw => ih (n - cut n) (by omega) (L.drop (cut n)) _ (cap - cut n) w l2 (by omega) (hs.hi.later hw.below) (by omega))
        (fun w hw => node_r b1 b2)
end Go.Proofs.YtbpmgpmkmnkafaaDoor

namespace Go.Proofs.YtbpmgpmkmnkafaaDoor
open Go.ChangeShapes Go.WideShapes Go.ChangeAt Go.RowKit Sh

def eqD (F G : Nat → Nat) : Bool := (List.range 32).all fun i => F i == G i
theorem eqD_iff {F G : Nat → Nat} : eqD F G = true ↔ ∀ i, i < 32 → F i = G i := by
  unfold eqD
  rw [List.all_eq_true]
  constructor
  · intro h i hi
    exact beq_iff_eq.1 (h i (List.mem_range.2 hi))
  · intro h i hi
    exact beq_iff_eq.2 (h i (List.mem_range.1 hi))
section
variable {x u : Operand}
theorem eqS_run (F G : Nat → Nat) (w : World) : (Op.equalIn 10000 24 (.agg (ab 32 F)) (.agg (ab 32 G))).run Tryd.prog w = .ok (eqD F G) w := by
  have h1 := eq_ints (P := Tryd.prog) (t := 24) (e := 5) (n := 32) (k := .u8) (k' := .u8) Tryd.underlying24 (inf := _) rfl (by kernel_rfl) Tryd.underlying5 (fun _ => by kernel_rfl) (ab 32 F) (ab 32 G) (fun i => (F i : Int)) (fun i => (G i : Int)) (fun i hi => arr_get _ _ _ hi) (fun i hi => arr_get _ _ _ hi) w
  rw [h1]
  congr 1
  rw [Bool.eq_iff_iff, eqD_iff, decide_eq_true_eq]
  constructor <;> intro hh i hi <;> have := hh i hi <;> omega
theorem eqS (F G : Nat → Nat) (w : World) : (do eqGuard .eql 24 x u (.agg (ab 32 F)) (.agg (ab 32 G)); binOp .eql 24 (.agg (ab 32 F)) (.agg (ab 32 G))).run Tryd.prog w = .ok (.bool (eqD F G)) w := by
  simp [eqGuard, binOp, go_sem, Op.equal, Op.maxDepth, eqS_run F G w]
theorem neS (F G : Nat → Nat) (w : World) : (do eqGuard .neq 24 x u (.agg (ab 32 F)) (.agg (ab 32 G)); binOp .neq 24 (.agg (ab 32 F)) (.agg (ab 32 G))).run Tryd.prog w = .ok (.bool (!eqD F G)) w := by
  simp [eqGuard, binOp, go_sem, Op.equal, Op.maxDepth, eqS_run F G w]
theorem eqS_t {F G : Nat → Nat} (h : ∀ i, i < 32 → F i = G i) (w : World) : (do eqGuard .eql 24 x u (.agg (ab 32 F)) (.agg (ab 32 G)); binOp .eql 24 (.agg (ab 32 F)) (.agg (ab 32 G))).run Tryd.prog w = .ok (.bool true) w := by
  rw [eqS, eqD_iff.2 h]
theorem eqB_t {m n : Nat} (h : m = n) (w : World) : (do eqGuard .eql 5 x u (.int .u8 ((m : Nat) : Int)) (.int .u8 ((n : Nat) : Int)); binOp .eql 5 (.int .u8 ((m : Nat) : Int)) (.int .u8 ((n : Nat) : Int))).run Tryd.prog w = .ok (.bool true) w := by
  subst h
  simp [eqGuard, binOp, go_sem]
end
theorem ld_abv {t0 : TypeId} {N i v : Nat} {F : Nat → Nat} (hi : i < N) (hv : F i = v) (w : World) (q : Nat) (h : w.heap[q]? = some (.cells (ab N F) t0 (0, 0))) : (Instr.loadAt 5 (.pointer (some ⟨q, i, none⟩))).run Tryd.prog w = .ok (.int .u8 ((v : Nat) : Int)) w := by
  have h1 : w.cell? ⟨q, i, none⟩ = some (.int .u8 ((v : Nat) : Int)) := by rw [cell_of_row _ _ _ _ _ _ h, ← hv]; exact arr_get _ _ _ hi
  simp [Instr.loadAt, Instr.sureAddr, go_sem, h1]
/-! The tables. -/
def laidL : List (String × DataW Unit) := [("cachet/sum.cubes", Rows.laid_cachet_sum_cubes), ("cachet/sum.squares", Rows.laid_cachet_sum_squares)]
theorem gCubes : Tryd.prog.globalNamed "cachet/sum.cubes" = some 1 := by kernel_rfl
theorem gSquares : Tryd.prog.globalNamed "cachet/sum.squares" = some 0 := by kernel_rfl
theorem tCubes : (Tryd.prog.globals[1]?).map (·.type) = some 70 := by kernel_rfl
theorem tSquares : (Tryd.prog.globals[0]?).map (·.type) = some 63 := by kernel_rfl
/-- A row of words that reads as it was laid. -/
theorem row_cells {W : World} {fuel n t : Nat} {cs : List Value} {ns : List Nat} {ps : List MemPlace} {base : Nat} {sp : Nat → Bool} {held : Bool} {enc : TypeId × Value → Unit} (ht : Tryd.prog.underlying t = some (.array n 48)) (h : DataW.trod enc Tryd.prog W base sp held fuel t cs = some (.agg (ns.map fun k => .lit (.int .u64 ((k : Nat) : Int))), ps)) (hn : ns.length = n) :
    ∀ i, i < n → cs[i]? = some (.int .u64 ((ns.getD i 0 : Nat) : Int)) := by
  obtain ⟨xs, m, rfl, hx, hlen, hxs, hel⟩ := DataW.trod_array ht h
  have c1 : Tryd.prog.cellsOf 48 = 1 := by kernel_rfl
  intro i hi
  have h1 := hel i hi
  rw [c1, Nat.mul_one] at h1
  simp only [Prod.mk.injEq, DataW.agg.injEq] at hx
  have hxi : xs[i]? = some xs[i] := List.getElem?_eq_getElem (by omega)
  rw [hxi] at h1
  obtain ⟨k, e1, e2, _⟩ := DataW.trod_int Tryd.underlying48 h1
  have h3 := congrArg (·[i]?) hx.1
  simp only [List.getElem?_map] at h3
  rw [hxi, List.getElem?_eq_getElem (l := ns) (show i < ns.length by omega)] at h3
  simp only [Option.map_some, Option.some.injEq] at h3
  rw [e2] at h3
  have h4 : ((ns[i] : Nat) : Int) = k := by simpa using h3
  have h5 : cs[i]? = (cs.drop i)[0]? := by simp
  have h6 : ((cs.drop i).take 1)[0]? = (cs.drop i)[0]? := by rw [List.getElem?_take]; simp
  rw [h5, ← h6, e1, List.getD_eq_getElem?_getD, List.getElem?_eq_getElem (l := ns) (show i < ns.length by omega), Option.getD_some, h4]
  rfl
theorem cubes_L : (Rows.laid_cachet_sum_cubes : DataW Unit) = .agg (cuL.map fun k => .lit (.int .u64 ((k : Nat) : Int))) := by kernel_rfl
theorem squares_L : (Rows.laid_cachet_sum_squares : DataW Unit) = .agg (sqL.map fun k => .lit (.int .u64 ((k : Nat) : Int))) := by kernel_rfl
theorem of_laid {W : World} (h : laidMetH Tryd.prog laidL W) : Gl W := by
  rw [MakeChecks.laidMetH_plain _ _ _ (by kernel_rfl)] at h
  obtain ⟨ps, ⟨g0, t0, cs0, f0, p0, q0, hg0, ht0, hv0, hd0, ⟨g1, t1, cs1, f1, p1, q1, hg1, ht1, hv1, hd1, _, _⟩, _⟩, _, _⟩ := h
  obtain rfl := Option.some.inj (gCubes.symm.trans hg0)
  obtain rfl := Option.some.inj (gSquares.symm.trans hg1)
  obtain rfl := Option.some.inj (tCubes.symm.trans ht0)
  obtain rfl := Option.some.inj (tSquares.symm.trans ht1)
  rw [cubes_L] at hd0
  rw [squares_L] at hd1
  refine ⟨fun i hi => ?_, fun i hi => ?_⟩
  · rw [World.var?_cell hg1 hv1 i, ← Array.getElem?_toList]
    exact row_cells Tryd.underlying63 hd1 (by kernel_rfl) i hi
  · rw [World.var?_cell hg0 hv0 i, ← Array.getElem?_toList]
    exact row_cells Tryd.underlying70 hd0 (by kernel_rfl) i hi
theorem door_met (os : Os) (args : Array Value) : laidMetH Tryd.prog laidL ((World.doorLaid Tryd.prog 400 os).forCall (fun _ _ => 0) ⟨#[], args, []⟩).memory :=
  laidMetH_of_parts3 (fuel := 8) (laidMet_of_run' 8 (by kernel_rfl) (by kernel_rfl)) (by kernel_rfl) (by kernel_rfl)
end Go.Proofs.YtbpmgpmkmnkafaaDoor

namespace Go.Proofs.YtbpmgpmkmnkafaaDoor
open Go.RowKit Go.Maps Sh

def numsF (len : Nat) (f : Nat → Nat) : List Int := (List.range len).map fun i => ((f i : Nat) : Int)
/-- Bytes as a text. -/
theorem conv_f {w : World} {a : Option Addr} {len : Nat} {f : Nat → Nat} (h : Bs w a len f) (cap : Nat) : (convert 22 9 (.slice a len cap)).run Tryd.prog w = .ok (.string (strOfNums (numsF len f))) w := by
  rcases Nat.eq_zero_or_pos len with rfl | hp
  · cases a with
    | none => exact run_convert_bytes_nil w 22 5 Tryd.underlying22 Tryd.underlying5 0 cap 9 Tryd.underlying9
    | some x =>
      rw [run_convert_bytes_string w 22 9 5 _ 0 cap Tryd.underlying22 Tryd.underlying5 Tryd.underlying9, run_bytesToString w x 0 cap [] (run_loadCells_list (P := Tryd.prog) w x [] (fun j v hj => by simp at hj))]
      rfl
  · obtain ⟨b, off, rfl, hc⟩ := h.2 hp
    refine run_convert_bytes_arg w 22 5 Tryd.underlying22 Tryd.underlying5 b off len cap (numsF len f) (by simp [numsF]) (fun j hj => ?_) 9 Tryd.underlying9
    rw [hc j hj]
    simp [numsF, List.getD_eq_getElem?_getD, hj]
theorem nums_cong {len : Nat} {f g : Nat → Nat} (h : ∀ i, i < len → f i = g i) : numsF len f = numsF len g := by
  unfold numsF
  exact List.map_congr_left fun i hi => by rw [h i (List.mem_range.1 hi)]
/-- What a copy holds, with its marks. -/
def cpM (f : Nat → Nat) (len i : Nat) : Nat := if i < len then f i else if i = len then 165 else 90
theorem bs_2 (w : World) : Bs (w.alloc (.cells #[.int .u8 165, .int .u8 90] 5)) (some ⟨w.heap.size, 0, none⟩) 2 (fun i => if i = 0 then 165 else 90) :=
  ⟨fun i => by dsimp only; split <;> omega, fun _ => ⟨_, 0, rfl, fun i hi => by
    have h := (MapKept.heap_alloc w (.cells #[.int .u8 165, .int .u8 90] 5)).1
    rw [cell_of_row _ _ _ _ _ _ h]
    have hc : i = 0 ∨ i = 1 := by omega
    rcases hc with rfl | rfl <;> rfl⟩⟩
set_option maxHeartbeats 1000000 in
set_option maxRecDepth 100000 in
theorem copy_f {a : Option Addr} {len cap : Nat} {f : Nat → Nat} {w : World} (hb : Bs w a len f) (hm : len ≤ 1000000) :
    Calls Tryd.prog 9 #[.slice a len cap] w fun e w' => ∃ c q len' cap', e = .returned (.slice (some ⟨q, 0, none⟩) len' cap') ∧ w.heap.size ≤ q ∧ w'.heap[q]? = some (.cells c 5 (0, 0)) ∧ Below w.heap.size w w' ∧ (len' = len ∧ len + 2 ≤ cap' ∧ cap' ≤ c.size ∧ ∀ i, i < len + 2 → c[i]? = some (.int .u8 ((cpM f len i : Nat) : Int))) := by
  obtain ⟨i0, hi, hz0, hz1, hz2⟩ := info_parts info_u8
  obtain ⟨w1, hmk, hown0, hg0⟩ := run_make_own (P := Tryd.prog) w w.heap.size 22 5 i0 (.int .u8 0) 1 Tryd.underlying22 hi hz0 hz1 .i64 .i64 (len + 2) (by rw [hz2]; omega) (by unfold maxLen; omega) (Nat.le_refl _)
  have ec : ((len + 2 : Nat) : Int) = (len : Int) + 2 := by omega
  rw [ec] at hmk
  have hb1 : Below w.heap.size w w1 := (Below.refl _ _).grown hg0 (Nat.le_refl _) (fun k e => by cases e)
  have hbs1 := hb.later hb1
  have hX : ([] : List Value) ++ bvs len f ++ bvs 2 (fun i => if i = 0 then 165 else 90) = bvs (len + 2) (cpM f len) := by
    rw [List.nil_append, show bvs len f = bvs len (cpM f len) from bvs_cong fun i hi => by unfold cpM; rw [if_pos hi]]
    refine bvs_app fun i hi => ?_
    unfold cpM
    rw [if_neg (by omega : ¬ len + i < len)]
    by_cases e : i = 0
    · rw [if_pos e, if_pos (by omega : len + i = len)]
    · rw [if_neg e, if_neg (by omega : ¬ len + i = len)]
  clear ec hi hz0 hz1 hz2 hg0
  go_enter Tryd.func9, Tryd.ntmps9
  go_wp2_with (first
    | (at_builtin; refine wpList_append_f rfl (.tmp 6) (.tmp 7) rfl w.heap.size (.slice (some ⟨w.heap.size, 0, none⟩) 0 (len + 2)) 0 [] rfl hown0 a len cap f rfl hbs1 (by omega) hb1.size ?_; intro v2 w2 hown2 hg2 _; have hb2 := below_app hb1 hb1.size hown0 hg2)
    | (at_builtin; refine wpList_append_f rfl (.tmp 8) (.tmp 9) rfl w.heap.size v2 (0 + len) ([] ++ bvs len f) rfl (hown2.alloc _) _ 2 2 (fun i => if i = 0 then 165 else 90) rfl (bs_2 _) (by omega) (by have := hb2.size; simp; omega) ?_
       intro v3 w3 hown3 hg3 _
       have hb3 := below_app (hb2.alloc hb2.size _) (by have := hb2.size; simp; omega) (hown2.alloc _) hg3
       rw [hX, Nat.zero_add] at hown3
       rcases hown3.2 with ⟨_, h0⟩ | ⟨q, cap3, cur, rfl, hbq, hgq, hnc, hcm, hcs, hty⟩
       · exfalso; omega
       have hlen3 : ((len : Nat) : Int) ≤ ((cap3 : Nat) : Int) := by omega
       clear hg3 hg2 hown2))
  go_ret
  refine ⟨cur, q, len, cap3, rfl, hbq, hgq, hb3, rfl, hnc, ?_, fun i hi => ?_⟩
  · omega
  · have h1 := hown3.cellAt i (by omega)
    rw [bvs_get _ hi] at h1
    rw [← h1, cell_of_row _ _ _ _ _ _ hgq]
end Go.Proofs.YtbpmgpmkmnkafaaDoor

namespace Go.Proofs.YtbpmgpmkmnkafaaDoor
open Go.RowKit Go.Maps Sh

theorem gt_s {x u : Operand} {m n : Int} {b : Bool} (h : decide (n < m) = b) (w : World) : (do eqGuard .gtr 3 x u (.int .i64 m) (.int .i64 n); binOp .gtr 3 (.int .i64 m) (.int .i64 n)).run Tryd.prog w = .ok (.bool b) w := by
  subst h; simp [eqGuard, binOp, go_sem]
theorem bs_c {w : World} {c : Array Value} {q len : Nat} {f : Nat → Nat} {t : TypeId} (hf : ∀ i, f i < 256) (hq : w.heap[q]? = some (.cells c t (0, 0))) (hc : ∀ i, i < len + 2 → c[i]? = some (.int .u8 ((cpM f len i : Nat) : Int))) : Bs w (some ⟨q, 0, none⟩) len f :=
  ⟨hf, fun _ => ⟨q, 0, rfl, fun i hi => by
    rw [cell_of_row _ _ _ _ _ _ hq]
    show c[0 + i]? = _
    rw [Nat.zero_add, hc i (by omega)]
    unfold cpM
    rw [if_pos hi]⟩⟩
set_option maxHeartbeats 1000000 in
set_option maxRecDepth 100000 in
theorem kept_f {w : World} {c : Array Value} {q len cap' cap : Nat} {a : Option Addr} {f : Nat → Nat} (hb : Bs w a len f) (hq : w.heap[q]? = some (.cells c 5 (0, 0))) (hm : len ≤ 1000000) (hcap : len + 2 ≤ cap') (hc : ∀ i, i < len + 2 → c[i]? = some (.int .u8 ((cpM f len i : Nat) : Int))) :
    Calls Tryd.prog 16 #[.slice (some ⟨q, 0, none⟩) len cap', .slice a len cap] w fun e w' => e = .returned (.bool true) ∧ Below w.heap.size w w' := by
  have k1 := conv_f (bs_c hb.1 hq hc) cap'
  have k2 := conv_f hb cap
  have c1 : w.cell? ⟨q, len, none⟩ = some (.int .u8 165) := by
    rw [cell_of_row _ _ _ _ _ _ hq]
    show c[len]? = _
    rw [hc len (by omega)]
    unfold cpM
    rw [if_neg (by omega), if_pos rfl]
    rfl
  have c2 : w.cell? ⟨q, len + 1, none⟩ = some (.int .u8 90) := by
    rw [cell_of_row _ _ _ _ _ _ hq]
    show c[len + 1]? = _
    rw [hc (len + 1) (by omega)]
    unfold cpM
    rw [if_neg (by omega), if_neg (by omega)]
    rfl
  generalize strOfNums (numsF len f) = s at *
  clear hc hq hb
  go_enter Tryd.func16, Tryd.ntmps16
  go_wp2
  go_ret
  exact ⟨rfl, Below.refl _ _⟩
end Go.Proofs.YtbpmgpmkmnkafaaDoor

namespace Go.Proofs.YtbpmgpmkmnkafaaDoor
open Go.ChangeShapes Go.WideShapes Go.ChangeAt Go.RowKit Sh

theorem bs_zs {w : World} {x : Addr} {len : Nat} {zs : List Int} (hl : len ≤ zs.length) (hcell : ∀ i, i < zs.length → w.cell? (x.add i) = some (.int .u8 (zs.getD i 0))) (hwz : ∀ n ∈ zs, (Lit.int .u8 n).wf = true) : ∃ f, Bs w (some x) len f := by
  have hby : ∀ i, i < zs.length → 0 ≤ zs.getD i 0 ∧ zs.getD i 0 < 256 := by
    intro i hi
    have hm : zs.getD i 0 ∈ zs := by rw [List.getD_eq_getElem?_getD, List.getElem?_eq_getElem hi]; exact List.getElem_mem hi
    have := hwz _ hm
    simp only [Lit.wf, Bool.and_eq_true, decide_eq_true_eq] at this
    have e1 : IntKind.u8.min = 0 := rfl
    have e2 : IntKind.u8.max = 255 := rfl
    omega
  refine ⟨fun i => (zs.getD i 0).toNat % 256, fun i => Nat.mod_lt _ (by omega), fun hp => ?_⟩
  obtain ⟨b, off, spot⟩ := x
  have hc := hcell 0 (by omega)
  have hspot : spot = none := by simpa [Addr.add] using World.cell?_spot hc
  subst hspot
  refine ⟨b, off, rfl, fun i hi => ?_⟩
  have h1 := hcell i (by omega)
  rw [Addr.add_lit] at h1
  rw [h1]
  show _ = some (Value.int .u8 (((zs.getD i 0).toNat % 256 : Nat) : Int))
  have h2 := hby i (by omega)
  generalize zs.getD i 0 = z at *
  have h3 : ((z.toNat % 256 : Nat) : Int) = z := by omega
  rw [h3]
theorem ck_ab (b : Nat → Nat) : ck b = ab 32 b := rfl
section
variable {H : Type} {enc : TypeId × Value → H} {W : World} {held : Bool}
/-- Bytes. -/
theorem bytes_in {a : Option Addr} {len cap : Nat} {d : DataW H} {p : List MemPlace} (h : DataW.Trod enc Tryd.prog W 0 (fun _ => true) held 22 (.slice a len cap) d p) : ∃ f, Bs W a len f ∧ len ≤ cap ∧ ∀ x, a = some x → 0 < len → x.block < W.heap.size := by
  obtain ⟨fuel, hf⟩ := h
  rcases open_ints Tryd.underlying22 Tryd.underlying5 (by kernel_rfl) hf with ⟨hcs, _⟩ | ⟨x, l, c, zs, hcs, _, hl, hm, hz, _, hcell, hwz⟩
  · simp [Value.cells] at hcs
    obtain ⟨rfl, rfl, rfl⟩ := hcs
    exact ⟨fun _ => 0, ⟨fun _ => (by decide : 0 < 256), fun h => absurd h (by omega)⟩, Nat.le_refl _, fun x e => by cases e⟩
  · simp [Value.cells] at hcs
    obtain ⟨rfl, rfl, rfl⟩ := hcs
    obtain ⟨f, hb⟩ := bs_zs (w := W) (x := x) (len := len) (zs := zs) (by simp at hz; omega) hcell hwz
    refine ⟨f, hb, hl, fun y e hp => ?_⟩
    obtain ⟨b, off, e2, hc⟩ := hb.2 hp
    rw [e2] at e
    cases e
    exact cell_lt (hc 0 hp)
/-- One digest in a row. -/
theorem sum_in {n b o : Nat} {cs : List Value} {x : DataW H × List MemPlace} (h1 : W.cells? 0 ⟨b, o, none⟩ 32 = some cs) (h2 : DataW.trod enc Tryd.prog W 0 (fun _ => true) held n 24 cs = some x) : ∃ F : Nat → Nat, (∀ j, F j < 256) ∧ ∀ j, j < 32 → W.cell? ⟨b, o + j, none⟩ = some (.int .u8 ((F j : Nat) : Int)) := by
  obtain ⟨_, hl, hc⟩ := World.cells?_some h1
  obtain ⟨xs, m, rfl, -, hlen, hx, hi⟩ := DataW.trod_array Tryd.underlying24 h2
  have hce : Tryd.prog.cellsOf 5 = 1 := by kernel_rfl
  have hcell : ∀ i, i < 32 → ∃ n : Nat, n < 256 ∧ cs[i]? = some (.int .u8 (n : Int)) := by
    intro i hi32
    have h1 := hi i hi32
    have h2 : xs[i]? = some xs[i] := by simp [hx, hi32]
    rw [h2, hce, Nat.mul_one] at h1
    obtain ⟨n, hc, -, hw⟩ := DataW.trod_int Tryd.underlying5 h1
    have h3 : cs[i]? = some (.int .u8 n) := by
      have := congrArg (·[0]?) hc
      simpa [List.getElem?_take, List.getElem?_drop] using this
    simp only [Lit.wf, Bool.and_eq_true, decide_eq_true_eq] at hw
    have e1 : IntKind.u8.min = 0 := rfl
    have e2 : IntKind.u8.max = 255 := rfl
    refine ⟨n.toNat, by omega, ?_⟩
    rw [h3, show ((n.toNat : Nat) : Int) = n by omega]
  obtain ⟨F, hF⟩ := Deep.choose_lt hcell
  refine ⟨fun j => F j % 256, fun j => Nat.mod_lt _ (by decide), fun j hj => ?_⟩
  obtain ⟨h3, h4⟩ := hF j hj
  have h5 := hc j (by omega)
  rw [Addr.add_lit] at h5
  rw [h5, h4]
  show _ = some (Value.int .u8 ((F j % 256 : Nat) : Int))
  rw [Nat.mod_eq_of_lt h3]
/-- Rows of digests. -/
theorem sums_in {a0 : Option Addr} {len0 cap0 : Nat} {d : DataW H} {p : List MemPlace} (h : DataW.Trod enc Tryd.prog W 0 (fun _ => true) held 34 (.slice a0 len0 cap0) d p) : ∃ L : List (Nat → Nat), SsAt W a0 L ∧ L.length = len0 ∧ len0 ≤ cap0 := by
  obtain ⟨fuel, hf⟩ := h
  have c5 : Tryd.prog.cellsOf 24 = 32 := by kernel_rfl
  rcases Deep.open_slice Tryd.underlying34 hf with ⟨hcs, _⟩ | ⟨a, len, cap, m, k, D, Pl, hcs, _, hl, hm, hmm, _, hx⟩
  · simp [Value.cells] at hcs
    obtain ⟨rfl, rfl, rfl⟩ := hcs
    exact ⟨[], ⟨fun F h => (by cases h), fun h => absurd h (by simp)⟩, rfl, Nat.le_refl _⟩
  · simp [Value.cells] at hcs
    obtain ⟨rfl, rfl, rfl⟩ := hcs
    rw [if_pos rfl] at hmm
    subst hmm
    rw [c5] at hx
    obtain ⟨b, off, spot⟩ := a
    by_cases hp : 0 < len0
    · obtain rfl : spot = none := by
        obtain ⟨cs', h1, _⟩ := hx 0 (by omega)
        obtain ⟨_, hl1, hc1⟩ := World.cells?_some h1
        have h2 := hc1 0 (by omega)
        rw [List.getElem?_eq_getElem (by omega)] at h2
        simpa [Addr.add] using World.cell?_spot h2
      have hex : ∀ i, i < len0 → ∃ F : Nat → Nat, (∀ j, F j < 256) ∧ ∀ j, j < 32 → W.cell? ⟨b, off + i * 32 + j, none⟩ = some (.int .u8 ((F j : Nat) : Int)) := fun i hi => by
        obtain ⟨cs', h1, h2⟩ := hx i (by omega)
        rw [Addr.add_lit] at h1
        exact sum_in h1 h2
      obtain ⟨f, hf⟩ := Deep.choose_lt hex
      refine ⟨(List.range len0).map f, ⟨fun F hF => ?_, fun _ => ⟨b, off, rfl, fun i hi j hj => ?_⟩⟩, by simp, hl⟩
      · obtain ⟨i, hi, rfl⟩ := List.mem_map.1 hF
        exact (hf i (List.mem_range.1 hi)).1
      · simp only [List.length_map, List.length_range] at hi
        have := (hf i hi).2 j hj
        rw [Nat.mul_comm] at this
        simpa using this
    · obtain rfl : len0 = 0 := by omega
      exact ⟨[], ⟨fun F h => (by cases h), fun h => absurd h (by simp)⟩, rfl, hl⟩
end
end Go.Proofs.YtbpmgpmkmnkafaaDoor

namespace Go.Proofs.YtbpmgpmkmnkafaaDoor
open Go.RowKit Go.Maps Sh
set_option maxHeartbeats 4000000 in
theorem alive_w {W0 : World} {LF E0 : Nat → Nat} (hLF0 : LF 0 = 110) (hLF1 : LF 1 = 52) (hleaf : ∀ w, KW (wd W0) w → Calls Tryd.prog 10 #[.slice none 0 0] w fun e w' => e = .returned (.agg (ab 32 LF)) ∧ Below w.heap.size w w')
    (hcut : ∀ w, Calls Tryd.prog 17 #[.int .i64 ((5 : Nat) : Int)] w fun e w' => e = .returned (.int .i64 ((4 : Nat) : Int)) ∧ Below w.heap.size w w') (hroot : ∀ w, KW (wd W0) w → Calls Tryd.prog 19 #[.slice none 0 0] w fun e w' => e = .returned (.agg (ab 32 E0)) ∧ Below w.heap.size w w')
    (hshort : ∀ w, KW (wd W0) w → Calls Tryd.prog 15 #[.slice none 0 0] w fun e w' => e = .returned (.agg (ab 32 E0)) ∧ Below w.heap.size w w') : Calls Tryd.prog 8 #[] W0 fun e w' => e = .returned (.bool true) ∧ Below W0.heap.size W0 w' := by
  refine s_in Tryd.func8 Tryd.ntmps8 rfl [] ?_
  intro β a h
  refine sym_seq ?_
  refine St.r0 h [(0, .inl (.bool false))] [] ?_ ?_
  · exact oz (k_mv (.inr rfl) rfl) <|
    ok_nil
  clear h; intro β a w h
  refine sym_then ?_
  refine sym_seq ?_
  refine St.rg h [(2, .inl (.agg (ab 32 LF))), (1, .inr (0, pt 0))] [(ab 32 (fun _ => 0), 24)] [(0, ab 32 LF)] [nn, eN 0, eS 0] ?_ ?_
  · exact oc (k_cw 10 #[.slice none 0 0] (.agg (ab 32 LF)) (fun w hw => hleaf w hw) rfl rfl) <|
    oc (k_al 0 alS rfl rfl) <|
    oc (k_st 0 0 (.agg (ab 32 LF)) (c := ab 32 (fun _ => 0)) (n := ab 32 LF) (stS (F := LF) (c := ab 32 (fun _ => 0)) 24 (ab_size _ _)) rfl rfl) <|
    ok_nil
  clear h; intro β a w h
  refine sym_then ?_
  refine sym_seq ?_
  refine St.r0 h [(3, .inr (0, pt 0)), (4, .inl (.int .u8 ((110 : Nat) : Int))), (5, .inl (.bool true)), (6, .inl (.bool true)), (7, .inr (0, pt 1)), (8, .inl (.int .u8 ((52 : Nat) : Int))), (9, .inl (.bool true)), (10, .inl (.bool true)), (11, .inl (.bool true)), (12, .inl (.int .i64 ((4 : Nat) : Int))), (13, .inl (.bool true)), (14, .inl (.bool true)), (15, .inl (.bool true)), (16, .inl (.agg (ab 32 E0))), (17, .inl (.agg (ab 32 E0))), (18, .inl (.bool true)), (19, .inl (.bool true)), (0, .inl (.bool true))] [nn, eR 0, nn, nn, nn, eR 0] ?_ ?_
  · exact oc (k_ia 0 0 0 (.int .i64 ((0 : Nat) : Int)) (ixS (i := 0) (by omega)) rfl rfl) <|
    oc (k_ld 0 0 (.int .u8 ((110 : Nat) : Int)) (c := ab 32 LF) (ld_abv (N := 32) (F := LF) (i := 0) (v := 110) (t0 := 24) (by omega) hLF0) rfl rfl) <|
    oc (k_bi (.int .u8 ((110 : Nat) : Int)) (.int .u8 ((110 : Nat) : Int)) (.bool true) (eqB_t rfl) rfl rfl) <|
    oc (k_mv (.inl rfl) rfl) <|
    oc (k_ia 0 0 1 (.int .i64 ((1 : Nat) : Int)) (ixS (i := 1) (by omega)) rfl rfl) <|
    oc (k_ld 0 1 (.int .u8 ((52 : Nat) : Int)) (c := ab 32 LF) (ld_abv (N := 32) (F := LF) (i := 1) (v := 52) (t0 := 24) (by omega) hLF1) rfl rfl) <|
    oz (k_bi (.int .u8 ((52 : Nat) : Int)) (.int .u8 ((52 : Nat) : Int)) (.bool true) (eqB_t rfl) rfl rfl) <|
    oz (k_pt rfl rfl) <|
    oz (k_mv (.inl rfl) rfl) <|
    oz (k_ca 17 #[.int .i64 ((5 : Nat) : Int)] (.int .i64 ((4 : Nat) : Int)) (fun w => hcut w) rfl rfl) <|
    oz (k_bi (.int .i64 ((4 : Nat) : Int)) (.int .i64 ((4 : Nat) : Int)) (.bool true) (eq_i (m := ((4 : Nat) : Int)) (n := ((4 : Nat) : Int)) (decide_eq_true rfl)) rfl rfl) <|
    oz (k_pt rfl rfl) <|
    oz (k_mv (.inl rfl) rfl) <|
    oz (k_cw 19 #[.slice none 0 0] (.agg (ab 32 E0)) (fun w hw => hroot w hw) rfl rfl) <|
    oz (k_cw 15 #[.slice none 0 0] (.agg (ab 32 E0)) (fun w hw => hshort w hw) rfl rfl) <|
    oz (k_bi (.agg (ab 32 E0)) (.agg (ab 32 E0)) (.bool true) (eqS_t (fun _ _ => rfl)) rfl rfl) <|
    oz (k_pt rfl rfl) <|
    oz (k_mv (.inr rfl) rfl) <|
    ok_nil
  clear h; intro β a w h
  refine sym_then ?_
  refine wp_ret ?_
  exact s_rt h Tryd.results8 (fun hb => ⟨rfl, hb⟩)
theorem nil_bs (w : World) : Bs w none 0 (fun _ => 0) := ⟨fun _ => (by decide : 0 < 256), fun h => absurd h (by omega)⟩
theorem nil_ss (w : World) : SsAt w none [] := ⟨fun F h => (by cases h), fun h => absurd h (by simp)⟩
theorem lf_nil : dg (1 + 0) (lfF fun _ => 0) = dg 1 (fun _ => 0) := dg_cong fun i hi => by unfold lfF; split <;> rfl
theorem cut5 : cut 5 = 4 := by decide +kernel
theorem alive_t {W0 : World} (hg : Gl W0) : Calls Tryd.prog 8 #[] W0 fun e w' => e = .returned (.bool true) ∧ Below W0.heap.size W0 w' :=
  alive_w leaf0.1 leaf0.2 (fun w hw => by have := leaf_d (cap := 0) (gl_b hg hw.below) (nil_bs w) (Nat.le_refl _) (fun x e => by cases e) (by omega); rwa [lf_nil] at this)
    (fun w => by have := cut_k 5 (by omega) w; rwa [cut5] at this)
    (fun w hw => by have := root_d 0 [] none 0 w rfl (by omega) (gl_b hg hw.below) (nil_ss w) (Nat.le_refl _); rwa [root_0] at this)
    (fun w _ => refShort_d (nil_bs w) (by omega))
end Go.Proofs.YtbpmgpmkmnkafaaDoor

namespace Go.Proofs.YtbpmgpmkmnkafaaDoor
open Go.RowKit Go.Maps Sh
set_option maxHeartbeats 4000000 in
theorem digests_b {aa : Option Addr} {len cap : Nat} {F G : Nat → Nat} {W0 : World} (hg : Gl W0) (hn : 5000 < len) : Calls Tryd.prog 3 #[.slice aa len cap, .agg (ab 32 F), .agg (ab 32 G)] W0 fun e w' => e = .returned (.bool true) ∧ Below W0.heap.size W0 w' := by
  refine s_in Tryd.func3 Tryd.ntmps3 rfl [.inl (.slice aa len cap), .inl (.agg (ab 32 F)), .inl (.agg (ab 32 G))] ?_
  intro β a h
  refine sym_seq ?_
  refine St.rg h [(4, .inr (0, pt 0)), (5, .inr (1, pt 0)), (6, .inl (.bool false))] [(ab 32 F, 24), (ab 32 G, 24)] [] [eN 0, eN 1] ?_ ?_
  · exact oc (k_bx 0 (.agg (ab 32 F)) (bx_agg (P := Tryd.prog)) rfl rfl) <|
    oc (k_bx 1 (.agg (ab 32 G)) (bx_agg (P := Tryd.prog)) rfl rfl) <|
    oz (k_mv (.inr rfl) rfl) <|
    ok_nil
  clear h; intro β a w h
  refine sym_then ?_
  refine sym_seq ?_
  refine sym_seq ?_
  refine St.r0 h [(8, .inl (.bool true)), (9, .inl (.bool false))] [] ?_ ?_
  · exact oz (k_cw 8 #[] (.bool true) (fun w hw => alive_t (gl_b hg hw.below)) rfl rfl) <|
    oz (k_nt true rfl rfl) <|
    ok_nil
  clear h; intro β a w h
  refine sym_then ?_
  refine s_cf h ?_
  refine wp_skip ?_
  refine sym_then ?_
  refine sym_seq ?_
  refine sym_seq ?_
  refine St.r0 h [(10, .inl (.slice aa len cap)), (11, .inl (.int .i64 ((len : Nat) : Int))), (12, .inl (.bool true))] [] ?_ ?_
  · exact oz (k_mv (.inl rfl) rfl) <|
    oz (k_ln (ad := aa) len cap rfl rfl (fun w => len_b _ w)) <|
    oz (k_bi (.int .i64 ((len : Nat) : Int)) (.int .i64 ((5000 : Nat) : Int)) (.bool true) (gt_s (m := ((len : Nat) : Int)) (n := ((5000 : Nat) : Int)) (decide_eq_true (by omega))) rfl rfl) <|
    ok_nil
  clear h; intro β a w h
  refine sym_then ?_
  refine s_ct h ?_
  refine sym_seq ?_
  refine St.r0 h [(6, .inl (.bool true))] [] ?_ ?_
  · exact oz (k_mv (.inr rfl) rfl) <|
    ok_nil
  clear h; intro β a w h
  refine sym_then ?_
  refine wp_ret ?_
  refine then_ret ?_
  exact s_rt h Tryd.results3 (fun hb => ⟨rfl, hb⟩)
set_option maxHeartbeats 8000000 in
theorem digests_s {aa : Option Addr} {len cap : Nat} {f F G LF E0 : Nat → Nat} {W0 : World} (hg : Gl W0) (hn : len ≤ 5000) (hb : Bs W0 aa len f) (hF : ∀ i, F i < 256) (hG : ∀ i, G i < 256) 
    (hleaf0 : ∀ (w : World) (q : Nat) (c : Array Value) (cc : Nat), KW (wd W0) w → w.heap[q]? = some (.cells c 5 (0, 0)) → (∀ i, i < len + 2 → c[i]? = some (.int .u8 ((cpM f len i : Nat) : Int))) → len + 2 ≤ cc → Calls Tryd.prog 10 #[.slice (some ⟨q, 0, none⟩) len cc] w fun e w' => e = .returned (.agg (ab 32 LF)) ∧ Below w.heap.size w w')
    (hrleaf : ∀ w, KW (wd W0) w → Calls Tryd.prog 11 #[.slice aa len cap] w fun e w' => e = .returned (.agg (ab 32 LF)) ∧ Below w.heap.size w w') (hem : ∀ w, KW (wd W0) w → Calls Tryd.prog 14 #[] w fun e w' => e = .returned (.agg (ab 32 E0)) ∧ Below w.heap.size w w') (hsh : ∀ w, KW (wd W0) w → Calls Tryd.prog 15 #[.slice none 0 0] w fun e w' => e = .returned (.agg (ab 32 E0)) ∧ Below w.heap.size w w') : Calls Tryd.prog 3 #[.slice aa len cap, .agg (ab 32 F), .agg (ab 32 G)] W0 fun e w' => e = .returned (.bool true) ∧ Below W0.heap.size W0 w' := by
  refine s_in Tryd.func3 Tryd.ntmps3 rfl [.inl (.slice aa len cap), .inl (.agg (ab 32 F)), .inl (.agg (ab 32 G))] ?_
  intro β a h
  refine sym_seq ?_
  refine St.rg h [(4, .inr (0, pt 0)), (5, .inr (1, pt 0)), (6, .inl (.bool false))] [(ab 32 F, 24), (ab 32 G, 24)] [] [eN 0, eN 1] ?_ ?_
  · exact oc (k_bx 0 (.agg (ab 32 F)) (bx_agg (P := Tryd.prog)) rfl rfl) <|
    oc (k_bx 1 (.agg (ab 32 G)) (bx_agg (P := Tryd.prog)) rfl rfl) <|
    oz (k_mv (.inr rfl) rfl) <|
    ok_nil
  clear h; intro β a w h
  refine sym_then ?_
  refine sym_seq ?_
  refine sym_seq ?_
  refine St.r0 h [(8, .inl (.bool true)), (9, .inl (.bool false))] [] ?_ ?_
  · exact oz (k_cw 8 #[] (.bool true) (fun w hw => alive_t (gl_b hg hw.below)) rfl rfl) <|
    oz (k_nt true rfl rfl) <|
    ok_nil
  clear h; intro β a w h
  refine sym_then ?_
  refine s_cf h ?_
  refine wp_skip ?_
  refine sym_then ?_
  refine sym_seq ?_
  refine sym_seq ?_
  refine St.r0 h [(10, .inl (.slice aa len cap)), (11, .inl (.int .i64 ((len : Nat) : Int))), (12, .inl (.bool false))] [] ?_ ?_
  · exact oz (k_mv (.inl rfl) rfl) <|
    oz (k_ln (ad := aa) len cap rfl rfl (fun w => len_b _ w)) <|
    oz (k_bi (.int .i64 ((len : Nat) : Int)) (.int .i64 ((5000 : Nat) : Int)) (.bool false) (gt_s (m := ((len : Nat) : Int)) (n := ((5000 : Nat) : Int)) (decide_eq_false (by omega))) rfl rfl) <|
    ok_nil
  clear h; intro β a w h
  refine sym_then ?_
  refine s_cf h ?_
  refine wp_skip ?_
  refine sym_then ?_
  refine sym_seq ?_
  refine reg_c3 h (.slice aa len cap) 5 (fun c l k => l = len ∧ len + 2 ≤ k ∧ k ≤ c.size ∧ ∀ i, i < len + 2 → c[i]? = some (.int .u8 ((cpM f len i : Nat) : Int))) (copy_f (cap := cap) (hb.later h.bel.below) (by omega)) ?_ rfl rfl rfl rfl rfl rfl rfl rfl rfl (hxs := fun a' e => by simp only [List.map_toArray, List.map_cons, List.map_nil, e])
  clear h; rintro c l cc β a w ⟨hl, hcc, _, hc⟩ h; rw [hl] at h; clear hl
  have hleaf := fun w q hw hq => hleaf0 w q c cc hw hq hc hcc
  refine sym_then ?_
  refine sym_seq ?_
  refine St.r0 h [(15, .inr (2, sl 0 len cc)), (16, .inl (.agg (ab 32 LF))), (17, .inl (.slice aa len cap)), (18, .inl (.agg (ab 32 LF))), (19, .inl (.bool true)), (20, .inl (.bool true)), (21, .inl (.agg (ab 32 F))), (22, .inl (.agg (ab 32 G))), (23, .inl (.agg (ab 32 (nd F G)))), (24, .inl (.agg (ab 32 F))), (25, .inl (.agg (ab 32 G))), (26, .inl (.agg (ab 32 (nd F G)))), (27, .inl (.bool true)), (28, .inl (.bool true)), (29, .inl (.bool true)), (30, .inl (.agg (ab 32 E0))), (31, .inl (.agg (ab 32 E0))), (32, .inl (.bool true)), (33, .inl (.bool true)), (34, .inl (.bool true)), (35, .inr (2, sl 0 len cc)), (36, .inl (.slice aa len cap)), (37, .inl (.bool true)), (38, .inl (.bool true)), (6, .inl (.bool true))] [nn, eR 2, nn, nn, nn, nn, eR 0, eR 1, nn, eR 0, eR 1, nn, nn, nn, nn, nn, nn, nn, nn, nn, nn, nn, eR 2] ?_ ?_
  · exact oc (k_mp 2 (sl 0 len cc) (.inl rfl) rfl) <|
    oc (k_cb 10 (fun q => #[.slice (some ⟨q, 0, none⟩) len cc]) (.agg (ab 32 LF)) 2 15 (fun w q hw hq => hleaf w q hw hq) rfl rfl (by simp) (fm := sl 0 len cc) (t0 := 5) (c := c)) <|
    oc (k_mv (.inl rfl) rfl) <|
    oc (k_cw 11 #[.slice aa len cap] (.agg (ab 32 LF)) (fun w hw => hrleaf w hw) rfl rfl) <|
    oc (k_bi (.agg (ab 32 LF)) (.agg (ab 32 LF)) (.bool true) (eqS_t (fun _ _ => rfl)) rfl rfl) <|
    oc (k_mv (.inl rfl) rfl) <|
    oc (k_ld 0 0 (.agg (ab 32 F)) (c := ab 32 F) (ldS (F := F) 24) rfl rfl) <|
    oc (k_ld 1 0 (.agg (ab 32 G)) (c := ab 32 G) (ldS (F := G) 24) rfl rfl) <|
    oc (k_cw 12 #[.agg (ab 32 F), .agg (ab 32 G)] (.agg (ab 32 (nd F G))) (fun w hw => node_d (gl_b hg hw.below) hF hG) rfl rfl) <|
    oc (k_ld 0 0 (.agg (ab 32 F)) (c := ab 32 F) (ldS (F := F) 24) rfl rfl) <|
    oc (k_ld 1 0 (.agg (ab 32 G)) (c := ab 32 G) (ldS (F := G) 24) rfl rfl) <|
    oc (k_cw 13 #[.agg (ab 32 F), .agg (ab 32 G)] (.agg (ab 32 (nd F G))) (fun w hw => node_r hF hG) rfl rfl) <|
    oc (k_bi (.agg (ab 32 (nd F G))) (.agg (ab 32 (nd F G))) (.bool true) (eqS_t (fun _ _ => rfl)) rfl rfl) <|
    oc (k_pt rfl rfl) <|
    oc (k_mv (.inl rfl) rfl) <|
    oc (k_cw 14 #[] (.agg (ab 32 E0)) (fun w hw => hem w hw) rfl rfl) <|
    oc (k_cw 15 #[.slice none 0 0] (.agg (ab 32 E0)) (fun w hw => hsh w hw) rfl rfl) <|
    oc (k_bi (.agg (ab 32 E0)) (.agg (ab 32 E0)) (.bool true) (eqS_t (fun _ _ => rfl)) rfl rfl) <|
    oc (k_pt rfl rfl) <|
    oc (k_mv (.inl rfl) rfl) <|
    oc (k_mp 2 (sl 0 len cc) (.inl rfl) rfl) <|
    oc (k_mv (.inl rfl) rfl) <|
    oc (k_cb 16 (fun q => #[.slice (some ⟨q, 0, none⟩) len cc, .slice aa len cap]) (.bool true) 2 35 (fun w q hw hq => kept_f (hb.later hw.below) hq (by omega) hcc hc) rfl rfl (by simp) (fm := sl 0 len cc) (t0 := 5) (c := c)) <|
    oz (k_pt rfl rfl) <|
    oz (k_mv (.inr rfl) rfl) <|
    ok_nil
  clear h; intro β a w h
  refine sym_then ?_
  refine wp_ret ?_
  exact s_rt h Tryd.results3 (fun hb => ⟨rfl, hb⟩)
theorem ck_ab' (b : Nat → Nat) : ck b = ab 32 b := rfl
theorem digests_walk {aa : Option Addr} {len cap : Nat} {f F G : Nat → Nat} {W0 : World} (hb : Bs W0 aa len f) (hF : ∀ i, F i < 256) (hG : ∀ i, G i < 256) (hg : Gl W0) : Calls Tryd.prog 3 #[.slice aa len cap, .agg (ck F), .agg (ck G)] W0 fun e w' => e = .returned (.bool true) ∧ Below W0.heap.size W0 w' := by
  rw [ck_ab', ck_ab']
  rcases Nat.lt_or_ge 5000 len with h | h
  · exact digests_b hg h
  · exact digests_s hg h hb hF hG (fun w q c cc hw hq hc hcc => leaf_d (gl_b hg hw.below) (bs_c hb.1 hq hc) (by omega) (fun x e => by cases e; exact (Array.getElem?_eq_some_iff.1 hq).1) (by omega)) (fun w hw => leaf_r (hb.later hw.below) (by omega)) (fun w hw => empty_d (gl_b hg hw.below)) (fun w _ => refShort_d (nil_bs w) (by omega))
end Go.Proofs.YtbpmgpmkmnkafaaDoor

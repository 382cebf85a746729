/- CurveTimesWalk: laid together. -/
import Derived.Test.YtpogmflgmpifoaaG3
namespace Go.Proofs.Ytpogmflgmpifoaa
open Go.RowKit Go.Shelf
theorem kl0_lt {l : List Nat} (h : ∀ x ∈ l, x < 256) (i : Nat) : kl0 l i < 256 := by
  unfold kl0
  by_cases hi : i < l.length
  · rw [List.getD_eq_getElem?_getD, List.getElem?_eq_getElem hi]; exact h _ (List.getElem_mem hi)
  · rw [List.getD_eq_getElem?_getD, List.getElem?_eq_none (by omega)]; decide
theorem eq_bb {x u : Operand} (b : Bool) (w : World) : (do eqGuard .eql 4 x u (.bool b) (.bool b); binOp .eql 4 (.bool b) (.bool b)).run Try.prog w = .ok (.bool true) w := by
  cases b <;> kernel_rfl
set_option maxHeartbeats 4000000 in
theorem curveTimes_t {f0 f1 f2 : Nat → Nat} (hf0 : ∀ i, f0 i < 256) (hf1 : ∀ i, f1 i < 256) (hf2 : ∀ i, f2 i < 256) (hk : ∀ i, i < 32 → kq (nB f0 32 % oL) i = f0 i) (W0 : World) : Calls Try.prog 6 #[.agg (ck f0), .agg (ck f1), .agg (ck f2)] W0 fun e w' => e = .returned (.bool true) ∧ Below W0.heap.size W0 w' := by
  refine s_in Try.func6 Try.ntmps6 rfl [.inl (.agg (ck f0)), .inl (.agg (ck f1)), .inl (.agg (ck f2))] ?_
  intro β a h
  refine sym_seq ?_
  refine St.rg h [(3, .inr (0, pt 0)), (4, .inr (1, pt 0)), (5, .inr (2, pt 0)), (6, .inl (.bool false))] [(ck f0, 23), (ck f1, 23), (ck f2, 23)] [] [eN 0, eN 1, eN 2] ?_ ?_
  · exact oc (k_bx 0 (.agg (ck f0)) (bxK (b := f0)) rfl rfl) <|
    oc (k_bx 1 (.agg (ck f1)) (bxK (b := f1)) rfl rfl) <|
    oc (k_bx 2 (.agg (ck f2)) (bxK (b := f2)) rfl rfl) <|
    oz (k_mv (.inr rfl) rfl) <|
    ok_nil
  clear h; intro β a w h
  refine sym_then ?_
  refine sym_seq ?_
  refine St.r0 h [(7, .inl (.agg (ck (kl0 [3])))), (8, .inl (.agg (ck (kl0 [4])))), (9, .inl (.agg (ck (kl0 [5])))), (10, .inl (.agg (ck (kq ((nB (kl0 [3]) 32 * nB (kl0 [4]) 32 + nB (kl0 [5]) 32) % oL))))), (11, .inl (.agg (ck (kl0 [17])))), (12, .inl (.bool true)), (13, .inl (.bool true)), (14, .inl (.agg (ck f0))), (15, .inl (.agg (ck f1))), (16, .inl (.agg (ck f2))), (17, .inl (.agg (ck (kq ((nB f0 32 * nB f1 32 + nB f2 32) % oL))))), (18, .inl (.agg (ck f0))), (19, .inl (.agg (ck f1))), (20, .inl (.agg (ck f2))), (21, .inl (.agg (ck (kq ((nB f0 32 * nB f1 32 + nB f2 32) % oL))))), (22, .inl (.bool true)), (23, .inl (.bool true)), (24, .inl (.bool true)), (25, .inl (.agg (ck f0))), (26, .inl (.bool true)), (27, .inr (0, sl 0 32 32)), (28, .inl (.agg (ck (kq (nB f0 32 % oL))))), (29, .inl (.agg (ck f0))), (30, .inl (.bool true)), (31, .inl (.bool true)), (32, .inl (.bool true)), (6, .inl (.bool true))] [nn, nn, nn, nn, nn, nn, nn, eR 0, eR 1, eR 2, nn, eR 0, eR 1, eR 2, nn, nn, nn, nn, eR 0, nn, nn, eR 0, eR 0] ?_ ?_
  · exact oc (k_bu #[(0, .int .u8 ((3 : Nat) : Int))] (.agg (ck (kl0 [3]))) (fun w => by kernel_rfl) rfl rfl) <|
    oc (k_bu #[(0, .int .u8 ((4 : Nat) : Int))] (.agg (ck (kl0 [4]))) (fun w => by kernel_rfl) rfl rfl) <|
    oc (k_bu #[(0, .int .u8 ((5 : Nat) : Int))] (.agg (ck (kl0 [5]))) (fun w => by kernel_rfl) rfl rfl) <|
    oc (k_ca 19 #[.agg (ck (kl0 [3])), .agg (ck (kl0 [4])), .agg (ck (kl0 [5]))] (.agg (ck (kq ((nB (kl0 [3]) 32 * nB (kl0 [4]) 32 + nB (kl0 [5]) 32) % oL)))) (fun w => times_K (kl0_lt (by decide)) (kl0_lt (by decide)) (kl0_lt (by decide)) w) rfl rfl) <|
    oc (k_bu #[(0, .int .u8 ((17 : Nat) : Int))] (.agg (ck (kl0 [17]))) (fun w => by kernel_rfl) rfl rfl) <|
    oc (k_bi (.agg (ck (kq ((nB (kl0 [3]) 32 * nB (kl0 [4]) 32 + nB (kl0 [5]) 32) % oL)))) (.agg (ck (kl0 [17]))) (.bool true) (eqK_t (F := (kq ((nB (kl0 [3]) 32 * nB (kl0 [4]) 32 + nB (kl0 [5]) 32) % oL))) (G := (kl0 [17])) (by decide +kernel)) rfl rfl) <|
    oc (k_mv (.inl rfl) rfl) <|
    oc (k_ld 0 0 (.agg (ck f0)) (c := ck f0) (ldK (b := f0) 23) rfl rfl) <|
    oc (k_ld 1 0 (.agg (ck f1)) (c := ck f1) (ldK (b := f1) 23) rfl rfl) <|
    oc (k_ld 2 0 (.agg (ck f2)) (c := ck f2) (ldK (b := f2) 23) rfl rfl) <|
    oc (k_ca 19 #[.agg (ck f0), .agg (ck f1), .agg (ck f2)] (.agg (ck (kq ((nB f0 32 * nB f1 32 + nB f2 32) % oL)))) (fun w => times_K hf0 hf1 hf2 w) rfl rfl) <|
    oc (k_ld 0 0 (.agg (ck f0)) (c := ck f0) (ldK (b := f0) 23) rfl rfl) <|
    oc (k_ld 1 0 (.agg (ck f1)) (c := ck f1) (ldK (b := f1) 23) rfl rfl) <|
    oc (k_ld 2 0 (.agg (ck f2)) (c := ck f2) (ldK (b := f2) 23) rfl rfl) <|
    oc (k_ca 24 #[.agg (ck f0), .agg (ck f1), .agg (ck f2)] (.agg (ck (kq ((nB f0 32 * nB f1 32 + nB f2 32) % oL)))) (fun w => times_R hf0 hf1 hf2 w) rfl rfl) <|
    oc (k_bi (.agg (ck (kq ((nB f0 32 * nB f1 32 + nB f2 32) % oL)))) (.agg (ck (kq ((nB f0 32 * nB f1 32 + nB f2 32) % oL)))) (.bool true) (eqK_t (F := (kq ((nB f0 32 * nB f1 32 + nB f2 32) % oL))) (G := (kq ((nB f0 32 * nB f1 32 + nB f2 32) % oL))) (fun _ _ => rfl)) rfl rfl) <|
    oc (k_pt rfl rfl) <|
    oc (k_mv (.inl rfl) rfl) <|
    oc (k_ld 0 0 (.agg (ck f0)) (c := ck f0) (ldK (b := f0) 23) rfl rfl) <|
    oc (k_ca 23 #[.agg (ck f0)] (.bool true) (fun w => least_t hf0 hk w) rfl rfl) <|
    oc (k_sl 0 32 rfl rfl sl_k) <|
    oc (k_cb 22 (fun q => #[.slice (some ⟨q, 0, none⟩) 32 32]) (.agg (ck (kq (nB f0 32 % oL)))) 0 27 (fun w q _ hq => residue_R (by omega) w (bs_key hf0 hq)) rfl rfl (by simp) (fm := sl 0 32 32) (t0 := 23)) <|
    oc (k_ld 0 0 (.agg (ck f0)) (c := ck f0) (ldK (b := f0) 23) rfl rfl) <|
    oz (k_bi (.agg (ck (kq (nB f0 32 % oL)))) (.agg (ck f0)) (.bool true) (eqK_t (F := (kq (nB f0 32 % oL))) (G := f0) hk) rfl rfl) <|
    oz (k_bi (.bool true) (.bool true) (.bool true) (eq_bb true) rfl rfl) <|
    oz (k_pt rfl rfl) <|
    oz (k_mv (.inr rfl) rfl) <|
    ok_nil
  clear h; intro β a w h
  refine sym_then ?_
  refine wp_ret ?_
  exact s_rt h Try.results6 (fun hb => ⟨rfl, hb⟩)
set_option maxHeartbeats 4000000 in
theorem curveTimes_f {f0 f1 f2 : Nat → Nat} (hf0 : ∀ i, f0 i < 256) (hf1 : ∀ i, f1 i < 256) (hf2 : ∀ i, f2 i < 256) (hk : ¬ ∀ i, i < 32 → kq (nB f0 32 % oL) i = f0 i) (W0 : World) : Calls Try.prog 6 #[.agg (ck f0), .agg (ck f1), .agg (ck f2)] W0 fun e w' => e = .returned (.bool true) ∧ Below W0.heap.size W0 w' := by
  refine s_in Try.func6 Try.ntmps6 rfl [.inl (.agg (ck f0)), .inl (.agg (ck f1)), .inl (.agg (ck f2))] ?_
  intro β a h
  refine sym_seq ?_
  refine St.rg h [(3, .inr (0, pt 0)), (4, .inr (1, pt 0)), (5, .inr (2, pt 0)), (6, .inl (.bool false))] [(ck f0, 23), (ck f1, 23), (ck f2, 23)] [] [eN 0, eN 1, eN 2] ?_ ?_
  · exact oc (k_bx 0 (.agg (ck f0)) (bxK (b := f0)) rfl rfl) <|
    oc (k_bx 1 (.agg (ck f1)) (bxK (b := f1)) rfl rfl) <|
    oc (k_bx 2 (.agg (ck f2)) (bxK (b := f2)) rfl rfl) <|
    oz (k_mv (.inr rfl) rfl) <|
    ok_nil
  clear h; intro β a w h
  refine sym_then ?_
  refine sym_seq ?_
  refine St.r0 h [(7, .inl (.agg (ck (kl0 [3])))), (8, .inl (.agg (ck (kl0 [4])))), (9, .inl (.agg (ck (kl0 [5])))), (10, .inl (.agg (ck (kq ((nB (kl0 [3]) 32 * nB (kl0 [4]) 32 + nB (kl0 [5]) 32) % oL))))), (11, .inl (.agg (ck (kl0 [17])))), (12, .inl (.bool true)), (13, .inl (.bool true)), (14, .inl (.agg (ck f0))), (15, .inl (.agg (ck f1))), (16, .inl (.agg (ck f2))), (17, .inl (.agg (ck (kq ((nB f0 32 * nB f1 32 + nB f2 32) % oL))))), (18, .inl (.agg (ck f0))), (19, .inl (.agg (ck f1))), (20, .inl (.agg (ck f2))), (21, .inl (.agg (ck (kq ((nB f0 32 * nB f1 32 + nB f2 32) % oL))))), (22, .inl (.bool true)), (23, .inl (.bool true)), (24, .inl (.bool true)), (25, .inl (.agg (ck f0))), (26, .inl (.bool false)), (27, .inr (0, sl 0 32 32)), (28, .inl (.agg (ck (kq (nB f0 32 % oL))))), (29, .inl (.agg (ck f0))), (30, .inl (.bool false)), (31, .inl (.bool true)), (32, .inl (.bool true)), (6, .inl (.bool true))] [nn, nn, nn, nn, nn, nn, nn, eR 0, eR 1, eR 2, nn, eR 0, eR 1, eR 2, nn, nn, nn, nn, eR 0, nn, nn, eR 0, eR 0] ?_ ?_
  · exact oc (k_bu #[(0, .int .u8 ((3 : Nat) : Int))] (.agg (ck (kl0 [3]))) (fun w => by kernel_rfl) rfl rfl) <|
    oc (k_bu #[(0, .int .u8 ((4 : Nat) : Int))] (.agg (ck (kl0 [4]))) (fun w => by kernel_rfl) rfl rfl) <|
    oc (k_bu #[(0, .int .u8 ((5 : Nat) : Int))] (.agg (ck (kl0 [5]))) (fun w => by kernel_rfl) rfl rfl) <|
    oc (k_ca 19 #[.agg (ck (kl0 [3])), .agg (ck (kl0 [4])), .agg (ck (kl0 [5]))] (.agg (ck (kq ((nB (kl0 [3]) 32 * nB (kl0 [4]) 32 + nB (kl0 [5]) 32) % oL)))) (fun w => times_K (kl0_lt (by decide)) (kl0_lt (by decide)) (kl0_lt (by decide)) w) rfl rfl) <|
    oc (k_bu #[(0, .int .u8 ((17 : Nat) : Int))] (.agg (ck (kl0 [17]))) (fun w => by kernel_rfl) rfl rfl) <|
    oc (k_bi (.agg (ck (kq ((nB (kl0 [3]) 32 * nB (kl0 [4]) 32 + nB (kl0 [5]) 32) % oL)))) (.agg (ck (kl0 [17]))) (.bool true) (eqK_t (F := (kq ((nB (kl0 [3]) 32 * nB (kl0 [4]) 32 + nB (kl0 [5]) 32) % oL))) (G := (kl0 [17])) (by decide +kernel)) rfl rfl) <|
    oc (k_mv (.inl rfl) rfl) <|
    oc (k_ld 0 0 (.agg (ck f0)) (c := ck f0) (ldK (b := f0) 23) rfl rfl) <|
    oc (k_ld 1 0 (.agg (ck f1)) (c := ck f1) (ldK (b := f1) 23) rfl rfl) <|
    oc (k_ld 2 0 (.agg (ck f2)) (c := ck f2) (ldK (b := f2) 23) rfl rfl) <|
    oc (k_ca 19 #[.agg (ck f0), .agg (ck f1), .agg (ck f2)] (.agg (ck (kq ((nB f0 32 * nB f1 32 + nB f2 32) % oL)))) (fun w => times_K hf0 hf1 hf2 w) rfl rfl) <|
    oc (k_ld 0 0 (.agg (ck f0)) (c := ck f0) (ldK (b := f0) 23) rfl rfl) <|
    oc (k_ld 1 0 (.agg (ck f1)) (c := ck f1) (ldK (b := f1) 23) rfl rfl) <|
    oc (k_ld 2 0 (.agg (ck f2)) (c := ck f2) (ldK (b := f2) 23) rfl rfl) <|
    oc (k_ca 24 #[.agg (ck f0), .agg (ck f1), .agg (ck f2)] (.agg (ck (kq ((nB f0 32 * nB f1 32 + nB f2 32) % oL)))) (fun w => times_R hf0 hf1 hf2 w) rfl rfl) <|
    oc (k_bi (.agg (ck (kq ((nB f0 32 * nB f1 32 + nB f2 32) % oL)))) (.agg (ck (kq ((nB f0 32 * nB f1 32 + nB f2 32) % oL)))) (.bool true) (eqK_t (F := (kq ((nB f0 32 * nB f1 32 + nB f2 32) % oL))) (G := (kq ((nB f0 32 * nB f1 32 + nB f2 32) % oL))) (fun _ _ => rfl)) rfl rfl) <|
    oc (k_pt rfl rfl) <|
    oc (k_mv (.inl rfl) rfl) <|
    oc (k_ld 0 0 (.agg (ck f0)) (c := ck f0) (ldK (b := f0) 23) rfl rfl) <|
    oc (k_ca 23 #[.agg (ck f0)] (.bool false) (fun w => least_f hf0 hk w) rfl rfl) <|
    oc (k_sl 0 32 rfl rfl sl_k) <|
    oc (k_cb 22 (fun q => #[.slice (some ⟨q, 0, none⟩) 32 32]) (.agg (ck (kq (nB f0 32 % oL)))) 0 27 (fun w q _ hq => residue_R (by omega) w (bs_key hf0 hq)) rfl rfl (by simp) (fm := sl 0 32 32) (t0 := 23)) <|
    oc (k_ld 0 0 (.agg (ck f0)) (c := ck f0) (ldK (b := f0) 23) rfl rfl) <|
    oz (k_bi (.agg (ck (kq (nB f0 32 % oL)))) (.agg (ck f0)) (.bool false) (eqK_f2 (F := (kq (nB f0 32 % oL))) (G := f0) hk) rfl rfl) <|
    oz (k_bi (.bool false) (.bool false) (.bool true) (eq_bb false) rfl rfl) <|
    oz (k_pt rfl rfl) <|
    oz (k_mv (.inr rfl) rfl) <|
    ok_nil
  clear h; intro β a w h
  refine sym_then ?_
  refine wp_ret ?_
  exact s_rt h Try.results6 (fun hb => ⟨rfl, hb⟩)
theorem curveTimes_walk (a : Nat → Nat) (ha : ∀ i, a i < 256) (b : Nat → Nat) (hb : ∀ i, b i < 256) (c : Nat → Nat) (hc : ∀ i, c i < 256) (W0 : World) : Calls Try.prog 6 #[.agg (ck a), .agg (ck b), .agg (ck c)] W0 fun e w' => e = .returned (.bool true) ∧ Below W0.heap.size W0 w' := by
  by_cases hk : ∀ i, i < 32 → kq (nB a 32 % oL) i = a i
  · exact curveTimes_t ha hb hc hk W0
  · exact curveTimes_f ha hb hc hk W0
end Go.Proofs.Ytpogmflgmpifoaa

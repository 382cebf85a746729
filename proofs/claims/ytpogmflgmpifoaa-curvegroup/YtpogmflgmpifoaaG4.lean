/- M5, Ref3, M6, Ref4, M7, X7, X9, Ref5, M8: laid together. -/
import Derived.Laws.CopyRow
import Derived.Test.YtpogmflgmpifoaaG3
namespace Go.Proofs.Ytpogmflgmpifoaa

/-- What one more round leaves: 2^255 counts 19. -/
def SS (U : Nat) : Nat := U % (8 * 4096 ^ 21) + 19 * (U / (8 * 4096 ^ 21))
/-- The figures behind the first three statements of a round. -/
def hF (U j : Nat) : Nat := if j = 0 then dg U 0 + 19 * (dg U 21 / 8) else if j = 21 then dg U 21 % 8 else dg U j
theorem hF_upd (U : Nat) : ∀ i, updN (updN (dg U) 21 (dg U 21 % 8)) 0 (updN (dg U) 21 (dg U 21 % 8) 0 + 19 * (dg U 21 / 8)) i = hF U i := by
  intro i
  unfold updN hF
  by_cases h : i = 0
  · subst h; simp
  · rw [if_neg h, if_neg h]
theorem hF_lt (U i : Nat) : hF U i < 1099511627776 := by
  unfold hF
  have := dg_lt U 0; have := dg_lt U 21; have := dg_lt U i
  split
  · omega
  · split <;> omega
theorem pv_upd (F : Nat → Nat) (i v : Nat) : ∀ k, i < k → pv (updN F i v) k + F i * 4096 ^ i = pv F k + v * 4096 ^ i := by
  intro k
  induction k with
  | zero => intro h; omega
  | succ k ih =>
    intro h
    by_cases e : i = k
    · subst e
      have h1 : pv (updN F i v) i = pv F i := pv_congr i fun j hj => by unfold updN; rw [if_neg (by omega)]
      have h2 : updN F i v i = v := by simp [updN]
      rw [pv, pv, h1, h2]; omega
    · have h1 := ih (by omega)
      have h2 : updN F i v k = F k := by unfold updN; rw [if_neg (by omega)]
      rw [pv, pv, h2]; omega
theorem hF_arith {P S U y z d D over m8 : Nat} (h1 : P + z = y + (z + 19 * over)) (h2 : y + d * D = U + m8 * D) (h5 : S + 8 * D * over = U) (hd : m8 + 8 * over = d) : P = S + 19 * over := by
  have e : (m8 + 8 * over) * D = m8 * D + 8 * D * over := by rw [Nat.add_mul, Nat.mul_assoc, Nat.mul_assoc, Nat.mul_comm over]
  rw [← hd, e] at h2
  omega
theorem pv_hF {U : Nat} (h : U < 4096 ^ 22) : pv (hF U) 22 = SS U := by
  have h0 : pv (hF U) 22 = pv (updN (updN (dg U) 21 (dg U 21 % 8)) 0 (updN (dg U) 21 (dg U 21 % 8) 0 + 19 * (dg U 21 / 8))) 22 := pv_congr 22 fun i _ => (hF_upd U i).symm
  have h1 := pv_upd (updN (dg U) 21 (dg U 21 % 8)) 0 (updN (dg U) 21 (dg U 21 % 8) 0 + 19 * (dg U 21 / 8)) 22 (by omega)
  have h2 := pv_upd (dg U) 21 (dg U 21 % 8) 22 (by omega)
  rw [pv_dg, Nat.mod_eq_of_lt h] at h2
  rw [← h0, Nat.pow_zero, Nat.mul_one, Nat.mul_one] at h1
  have h3 : dg U 21 = U / 4096 ^ 21 := div_top h
  have h4 : dg U 21 / 8 = U / (8 * 4096 ^ 21) := by rw [h3, Nat.div_div_eq_div_mul, Nat.mul_comm]
  have h5 := Nat.mod_add_div U (8 * 4096 ^ 21)
  rw [← h4] at h5
  have h7 := hF_arith h1 h2 h5 (Nat.mod_add_div _ _)
  rw [h7, h4]; rfl

/-- The pass whose carries stand in the row, k figures done. -/
def seF (H : Nat → Nat) (k j : Nat) : Nat := if j < k then dg (pv H k) j else if j = k then H k + cr H k else H j
theorem seF_at (H : Nat → Nat) (k : Nat) : seF H k k = H k + cr H k := by unfold seF; rw [if_neg (by omega), if_pos rfl]
theorem seF_nx (H : Nat → Nat) (k : Nat) : seF H k (k + 1) = H (k + 1) := by unfold seF; rw [if_neg (by omega), if_neg (by omega)]
theorem seF_zero {G H : Nat → Nat} (h : ∀ i, G i = H i) : ai 44 G = ai 44 (seF H 0) := ai_congr fun i _ => by
  unfold seF; rw [if_neg (by omega), h]
  split
  · rename_i e; subst e; rw [cr_zero]; rfl
  · rfl
theorem seF_next {H : Nat → Nat} {k : Nat} : ai 44 (updN (updN (seF H k) (k + 1) (seF H k (k + 1) + seF H k k / 4096)) k (updN (seF H k) (k + 1) (seF H k (k + 1) + seF H k k / 4096) k % 4096)) = ai 44 (seF H (k + 1)) := ai_congr fun i _ => by
  have e0 : updN (seF H k) (k + 1) (seF H k (k + 1) + seF H k k / 4096) k = seF H k k := by unfold updN; rw [if_neg (by omega)]
  rw [e0, seF_nx, seF_at, cr_next, cr_dig]
  unfold updN
  by_cases e1 : i = k
  · subst e1; rw [if_pos rfl]; unfold seF; rw [if_pos (by omega)]
  · rw [if_neg e1]
    by_cases e2 : i = k + 1
    · subst e2; rw [if_pos rfl]; unfold seF; rw [if_neg (by omega), if_pos rfl]
    · rw [if_neg e2]; unfold seF
      by_cases h1 : i < k
      · rw [if_pos h1, if_pos (by omega), pv_low H h1]
      · rw [if_neg h1, if_neg e1, if_neg (show ¬ i < k + 1 by omega), if_neg e2]
theorem SS_lt {U : Nat} (h : U < 4096 ^ 22) : SS U < 8 * 4096 ^ 21 + 9728 := by
  have h1 : U % (8 * 4096 ^ 21) < 8 * 4096 ^ 21 := Nat.mod_lt _ (by have := p4 21; omega)
  have h2 : U / (8 * 4096 ^ 21) < 512 := by
    rw [Nat.div_lt_iff_lt_mul (by have := p4 21; omega)]
    rw [show 512 * (8 * 4096 ^ 21) = 4096 ^ 22 by decide +kernel]; exact h
  unfold SS; omega
theorem SS_lt2 {U : Nat} (h : U < 4096 ^ 22) : SS (SS U) < 8 * 4096 ^ 21 := by
  have h1 := SS_lt h
  have hp : (4096 : Nat) ^ 21 = 7237005577332262213973186563042994240829374041602535252466099000494570602496 := by decide +kernel
  by_cases hlt : SS U < 8 * 4096 ^ 21
  · unfold SS at *
    rw [Nat.mod_eq_of_lt hlt, Nat.div_eq_of_lt hlt]; omega
  · have e1 : SS U / (8 * 4096 ^ 21) = 1 := Nat.div_eq_of_lt_le (by omega) (by rw [hp] at h1 ⊢; omega)
    have e2 : SS U % (8 * 4096 ^ 21) = SS U - 8 * 4096 ^ 21 := by
      have := Nat.mod_add_div (SS U) (8 * 4096 ^ 21)
      rw [e1] at this; omega
    show SS U % _ + 19 * (SS U / _) < _
    rw [e1, e2, hp] at *; omega
theorem SS_big {U : Nat} (h : U < 4096 ^ 22) : SS U < 4096 ^ 22 := Nat.lt_trans (SS_lt h) (by decide +kernel)
theorem SS_mod (V : Nat) : SS V % pp = V % pp := by
  have h0 : (8 * 4096 ^ 21) % pp = 19 := by decide +kernel
  have h1 : V = V % (8 * 4096 ^ 21) + (8 * 4096 ^ 21) * (V / (8 * 4096 ^ 21)) := (Nat.mod_add_div _ _).symm
  have h2 : V % pp = (V % (8 * 4096 ^ 21) + (8 * 4096 ^ 21) * (V / (8 * 4096 ^ 21))) % pp := by rw [← h1]
  have h3 : 19 % pp = 19 := Nat.mod_eq_of_lt (by decide +kernel)
  unfold SS
  rw [h2, Nat.add_mod, Nat.mul_mod 19, Nat.add_mod (V % (8 * 4096 ^ 21)), Nat.mul_mod (8 * 4096 ^ 21), h0, h3]
def uV (U : Nat) : Nat → Nat
  | 0 => U
  | r + 1 => SS (uV U r)
theorem uV_lt {U : Nat} (h : U < 4096 ^ 22) : ∀ r, uV U r < 4096 ^ 22 := by
  intro r
  induction r with
  | zero => exact h
  | succ r ih => exact SS_big ih
theorem seF_end {U : Nat} (h : U < 4096 ^ 22) : ai 44 (seF (hF U) 21) = ai 44 (dg (SS U)) := ai_congr fun i _ => by
  have hp := pv_hF h
  have hb := SS_big h
  unfold seF
  by_cases h1 : i < 21
  · rw [if_pos h1, ← hp, pv_low _ h1]
  · rw [if_neg h1]
    by_cases h2 : i = 21
    · subst h2; rw [if_pos rfl, cr_sum, hp, div_top hb]
    · rw [if_neg h2, dg_big hb i (by omega)]
      unfold hF
      rw [if_neg (by omega), if_neg h2, dg_big h i (by omega)]
/-- A copy, k figures done. -/
def cpF (V k j : Nat) : Nat := if j < k then dg V j else 0
theorem cpF_zero (V : Nat) : ai 22 (fun _ => 0) = ai 22 (cpF V 0) := ai_congr fun i _ => by simp [cpF]
theorem cpF_next (V k : Nat) : ai 22 (updN (cpF V k) k (dg V k)) = ai 22 (cpF V (k + 1)) := ai_congr fun i _ => by
  unfold updN cpF
  by_cases e : i = k
  · subst e; simp
  · have : (i < k + 1) = (i < k) := by simp; omega
    simp [e, this]
theorem cpF_end (V : Nat) : ai 22 (cpF V 22) = ai 22 (dg (V - 0 * pp)) := ai_congr fun i hi => by simp [cpF, hi]
theorem q_lt {V k : Nat} (h : k < V / pp) : pp ≤ V - k * pp := by
  have h1 : (k + 1) * pp ≤ V / pp * pp := Nat.mul_le_mul_right _ h
  have h2 : V / pp * pp ≤ V := Nat.div_mul_le_self V pp
  rw [Nat.add_mul, Nat.one_mul] at h1
  omega
theorem q_end (V : Nat) : V - V / pp * pp = V % pp := by
  have := Nat.mod_add_div V pp
  rw [Nat.mul_comm] at this; omega
theorem q_next (V k : Nat) : V - k * pp - pp = V - (k + 1) * pp := by rw [Nat.add_mul, Nat.one_mul]; omega
theorem sub_big {V k : Nat} (h : V < 4096 ^ 22) : V - k * pp < 4096 ^ 22 := Nat.lt_of_le_of_lt (Nat.sub_le _ _) h
theorem pp_big : pp < 4096 ^ 22 := by decide +kernel
end Go.Proofs.Ytpogmflgmpifoaa

namespace Go.Proofs.Ytpogmflgmpifoaa
open Go.RowKit
theorem below_b {m n : Nat} {b : Bool} (hm : m < 4096 ^ 22) (hn : n < 4096 ^ 22) (h : decide (m < n) = b) (w : World) : Calls Try.prog 81 #[.agg (ai 22 (dg m)), .agg (ai 22 (dg n))] w fun e w' => e = .returned (.bool b) ∧ Below w.heap.size w w' := by
  rw [← h]; exact below_r hm hn w
set_option maxHeartbeats 8000000 in
theorem least_r {F : Nat → Nat} {N : Nat} (hFl : ∀ i, F i < 1099511627776) (hN : pv F 44 = N) (hb : N < 4096 ^ 44) (W0 : World) : Calls Try.prog 65 #[.agg (ai 44 F)] W0 fun e w' => e = .returned (.agg (ai 22 (dg (N % pp)))) ∧ Below W0.heap.size W0 w' := by
  obtain ⟨U, HU⟩ : ∃ U, Hid (U = tV N 3) := ⟨_, hide1 rfl⟩
  have hU : U < 4096 ^ 22 := by rw [HU.out]; exact (tV_three hb).2.2
  obtain ⟨V, HV⟩ : ∃ V, Hid (uV U 2 = V) := ⟨_, hide1 rfl⟩
  have hV : V < 4096 ^ 22 := by rw [← HV.out]; exact uV_lt hU 2
  have hend : N % pp = V - V / pp * pp := by
    rw [q_end, ← HV.out]; show _ = SS (SS U) % pp
    rw [SS_mod, SS_mod, HU.out, tV_mod]
  rw [hend]
  have oF_end' := oF_end F hb
  rw [← HU.out] at oF_end'
  refine s_in Try.func65 Try.ntmps65 rfl [.inl (.agg (ai 44 F))] ?_
  intro β a h
  refine sym_seq ?_
  refine St.rg h [(1, .inr (0, pt 0)), (2, .inr (1, pt 0))] [(ai 44 F, 95), (ai 22 (fun _ => 0), 35)] [] [eN 0, eN 1] ?_ ?_
  · exact oc (k_bx 0 (.agg (ai 44 F)) (bx44 (F := F)) rfl rfl) <|
    oc (k_al 1 al22 rfl rfl) <|
    ok_nil
  clear h; intro β a w h
  refine sym_then ?_
  refine sym_seq ?_
  refine sym_seq ?_
  refine St.r0 h [(3, .inl (.int .i64 ((0 : Nat) : Int)))] [] ?_ ?_
  · exact oz (k_mv (.inr rfl) rfl) <|
    ok_nil
  clear h; intro β a w h
  refine sym_then ?_
  refine blk_in ?_
  replace h := St.sm h 0 (ai 44 (oF F N 0)) (c := ai 44 F) (t := 95) rfl
  replace h := St.cs h (s' := [.inl (.agg (ai 44 F)), .inr (0, pt 0), .inr (1, pt 0), .inl (.int .i64 ((0 : Nat) : Int)), uu, uu, uu, uu, uu, uu, uu, uu, uu, uu, uu, uu, uu, uu, uu, uu, uu, uu, uu, uu, uu, uu, uu, uu, uu, uu, uu, uu, uu, uu, uu, uu, uu, uu, uu, uu, uu, uu, uu, uu, uu, uu, uu, uu, uu, uu, uu, uu, uu, uu, uu, uu, uu, uu, uu, uu, uu, uu, uu, uu, uu, uu, uu, uu, uu, uu, uu, uu, uu, uu, uu, uu, uu, uu, uu, uu, uu, uu, uu, uu, uu, uu, uu, uu, uu, uu, uu, uu, uu, uu, uu, uu, uu, uu, uu, uu, uu, uu, uu, uu, uu, uu]) (m' := [(ai 44 (oF F N 0), 95), (ai 22 (fun _ => 0), 35)]) (by kernel_rfl) (by kernel_rfl)
  refine loop_up 5 (fun r a w => ∃ (x4 x5 x6 x7 x13 x14 x15 x16 x17 x18 x19 x20 x21 x22 x23 x24 x25 x26 x27 x28 x29 x30 x31 x32 x33 x34 x35 x36 x37 x38 x39 x40 x41 x42 x43 x44 x45 x46 x47 x48 x49 : SV) (β : Nat → Nat), St (wd W0) [.inl (.agg (ai 44 F)), .inr (0, pt 0), .inr (1, pt 0), .inl (.int .i64 ((r : Nat) : Int)), x4, x5, x6, x7, uu, uu, uu, uu, uu, x13, x14, x15, x16, x17, x18, x19, x20, x21, x22, x23, x24, x25, x26, x27, x28, x29, x30, x31, x32, x33, x34, x35, x36, x37, x38, x39, x40, x41, x42, x43, x44, x45, x46, x47, x48, x49, uu, uu, uu, uu, uu, uu, uu, uu, uu, uu, uu, uu, uu, uu, uu, uu, uu, uu, uu, uu, uu, uu, uu, uu, uu, uu, uu, uu, uu, uu, uu, uu, uu, uu, uu, uu, uu, uu, uu, uu, uu, uu, uu, uu, uu, uu, uu, uu, uu, uu, uu, uu, uu, uu, uu, uu] [(ai 44 (oF F N r), 95), (ai 22 (fun _ => 0), 35)] β a w) ⟨_, _, _, _, _, _, _, _, _, _, _, _, _, _, _, _, _, _, _, _, _, _, _, _, _, _, _, _, _, _, _, _, _, _, _, _, _, _, _, _, _, β, h⟩ ?_
  clear h; rintro r a w hkr ⟨x4, x5, x6, x7, x13, x14, x15, x16, x17, x18, x19, x20, x21, x22, x23, x24, x25, x26, x27, x28, x29, x30, x31, x32, x33, x34, x35, x36, x37, x38, x39, x40, x41, x42, x43, x44, x45, x46, x47, x48, x49, β, h⟩; replace h := h.o0
  rcases Nat.lt_or_ge r 5 with hltr | hger
  · refine sym_seq ?_
    refine sym_seq ?_
    refine St.r0 h [(13, .inl (.int .i64 ((r : Nat) : Int))), (14, .inl (.bool true))] [] ?_ ?_
    · exact oz (k_mv (.inl rfl) rfl) <|
      oz (k_bi (.int .i64 ((r : Nat) : Int)) (.int .i64 ((5 : Nat) : Int)) (.bool true) (lt_i (m := ((r : Nat) : Int)) (n := ((5 : Nat) : Int)) (decide_eq_true (by omega))) rfl rfl) <|
      ok_nil
    clear h; intro β a w h
    refine sym_then ?_
    refine s_ct h ?_
    refine wp_skip ?_
    refine sym_then ?_
    refine sym_seq ?_
    refine blk_in ?_
    refine sym_seq ?_
    refine St.r0 h [(4, .inl (.int .i64 ((0 : Nat) : Int)))] [] ?_ ?_
    · exact oz (k_mv (.inr rfl) rfl) <|
      ok_nil
    clear h; intro β a w h
    refine sym_then ?_
    refine sym_seq ?_
    refine sym_seq ?_
    refine St.r0 h [(5, .inl (.int .i64 ((0 : Nat) : Int)))] [] ?_ ?_
    · exact oz (k_mv (.inr rfl) rfl) <|
      ok_nil
    clear h; intro β a w h
    refine sym_then ?_
    refine blk_in ?_
    replace h := St.sm h 0 (ai 44 (cyF (oF F N r) 0)) (c := ai 44 (oF F N r)) (t := 95) (cyF_zero _)
    replace h := St.ss h 4 (.int .i64 (((cr (oF F N r) 0) : Nat) : Int)) (v := .int .i64 ((0 : Nat) : Int)) (ic (cr_zero _).symm)
    replace h := St.cs h (s' := [.inl (.agg (ai 44 F)), .inr (0, pt 0), .inr (1, pt 0), .inl (.int .i64 ((r : Nat) : Int)), .inl (.int .i64 (((cr (oF F N r) 0) : Nat) : Int)), .inl (.int .i64 ((0 : Nat) : Int)), x6, x7, uu, uu, uu, uu, uu, .inl (.int .i64 ((r : Nat) : Int)), .inl (.bool true), x15, x16, x17, x18, x19, x20, x21, x22, x23, x24, x25, x26, x27, x28, x29, x30, x31, x32, x33, x34, x35, x36, x37, x38, x39, x40, x41, x42, x43, x44, x45, x46, x47, x48, x49, uu, uu, uu, uu, uu, uu, uu, uu, uu, uu, uu, uu, uu, uu, uu, uu, uu, uu, uu, uu, uu, uu, uu, uu, uu, uu, uu, uu, uu, uu, uu, uu, uu, uu, uu, uu, uu, uu, uu, uu, uu, uu, uu, uu, uu, uu, uu, uu, uu, uu, uu, uu, uu, uu, uu, uu]) (m' := [(ai 44 (cyF (oF F N r) 0), 95), (ai 22 (fun _ => 0), 35)]) (by kernel_rfl) (by kernel_rfl)
    refine loop_up 44 (fun c a w => ∃ (x6 x17 x18 x19 x20 x21 x22 x23 x24 x25 x26 x27 x28 x29 x30 x31 : SV) (β : Nat → Nat), St (wd W0) [.inl (.agg (ai 44 F)), .inr (0, pt 0), .inr (1, pt 0), .inl (.int .i64 ((r : Nat) : Int)), .inl (.int .i64 (((cr (oF F N r) c) : Nat) : Int)), .inl (.int .i64 ((c : Nat) : Int)), x6, x7, uu, uu, uu, uu, uu, .inl (.int .i64 ((r : Nat) : Int)), .inl (.bool true), x15, x16, x17, x18, x19, x20, x21, x22, x23, x24, x25, x26, x27, x28, x29, x30, x31, x32, x33, x34, x35, x36, x37, x38, x39, x40, x41, x42, x43, x44, x45, x46, x47, x48, x49, uu, uu, uu, uu, uu, uu, uu, uu, uu, uu, uu, uu, uu, uu, uu, uu, uu, uu, uu, uu, uu, uu, uu, uu, uu, uu, uu, uu, uu, uu, uu, uu, uu, uu, uu, uu, uu, uu, uu, uu, uu, uu, uu, uu, uu, uu, uu, uu, uu, uu, uu, uu, uu, uu, uu, uu] [(ai 44 (cyF (oF F N r) c), 95), (ai 22 (fun _ => 0), 35)] β a w) ⟨_, _, _, _, _, _, _, _, _, _, _, _, _, _, _, _, β, h⟩ ?_
    clear h; rintro c a w hkc ⟨x6, x17, x18, x19, x20, x21, x22, x23, x24, x25, x26, x27, x28, x29, x30, x31, β, h⟩; replace h := h.o0
    have g1 := oF_lt hFl N r c
    have g2 := cr_lt (oF_lt hFl N r) c
    have g3 := cyF_at (oF F N r) c
    rcases Nat.lt_or_ge c 44 with hltc | hgec
    · refine sym_seq ?_
      refine sym_seq ?_
      refine St.r0 h [(17, .inl (.int .i64 ((c : Nat) : Int))), (18, .inl (.bool true))] [] ?_ ?_
      · exact oz (k_mv (.inl rfl) rfl) <|
        oz (k_bi (.int .i64 ((c : Nat) : Int)) (.int .i64 ((44 : Nat) : Int)) (.bool true) (lt_i (m := ((c : Nat) : Int)) (n := ((44 : Nat) : Int)) (decide_eq_true (by omega))) rfl rfl) <|
        ok_nil
      clear h; intro β a w h
      refine sym_then ?_
      refine s_ct h ?_
      refine wp_skip ?_
      refine sym_then ?_
      refine sym_seq ?_
      refine blk_in ?_
      refine sym_seq ?_
      refine St.r0 h [(21, .inl (.int .i64 ((c : Nat) : Int))), (22, .inr (0, pt c)), (23, .inl (.int .i64 ((((cyF (oF F N r) c) c) : Nat) : Int))), (24, .inl (.int .i64 (((cr (oF F N r) c) : Nat) : Int))), (25, .inl (.int .i64 (((((cyF (oF F N r) c) c) + (cr (oF F N r) c)) : Nat) : Int))), (6, .inl (.int .i64 (((((cyF (oF F N r) c) c) + (cr (oF F N r) c)) : Nat) : Int)))] [nn, nn, eR 0] ?_ ?_
      · exact oc (k_mv (.inl rfl) rfl) <|
        oc (k_ia 0 0 c (.int .i64 ((c : Nat) : Int)) (ix44 (i := c) (by omega)) rfl rfl) <|
        oc (k_ld 0 c (.int .i64 ((((cyF (oF F N r) c) c) : Nat) : Int)) (c := ai 44 (cyF (oF F N r) c)) (ld_at (n := 44) (F := (cyF (oF F N r) c)) (i := c) (t0 := 95) (by omega)) rfl rfl) <|
        oz (k_mv (.inl rfl) rfl) <|
        oz (k_bi (.int .i64 ((((cyF (oF F N r) c) c) : Nat) : Int)) (.int .i64 (((cr (oF F N r) c) : Nat) : Int)) (.int .i64 (((((cyF (oF F N r) c) c) + (cr (oF F N r) c)) : Nat) : Int)) (ad_i (m := ((cyF (oF F N r) c) c)) (n := (cr (oF F N r) c)) (by omega)) rfl rfl) <|
        oz (k_mv (.inr rfl) rfl) <|
        ok_nil
      clear h; intro β a w h
      refine sym_then ?_
      refine sym_seq ?_
      refine St.rg h [(26, .inl (.int .i64 ((c : Nat) : Int))), (27, .inl (.int .i64 (((((cyF (oF F N r) c) c) + (cr (oF F N r) c)) : Nat) : Int))), (28, .inl (.int .i64 ((((((cyF (oF F N r) c) c) + (cr (oF F N r) c)) % 4096) : Nat) : Int))), (29, .inr (0, pt c))] [] [(0, ai 44 (updN (cyF (oF F N r) c) c ((((cyF (oF F N r) c) c) + (cr (oF F N r) c)) % 4096)))] [nn, nn, nn, nn, eS 0] ?_ ?_
      · exact oc (k_mv (.inl rfl) rfl) <|
        oc (k_mv (.inl rfl) rfl) <|
        oc (k_bi (.int .i64 (((((cyF (oF F N r) c) c) + (cr (oF F N r) c)) : Nat) : Int)) (.int .i64 ((4096 : Nat) : Int)) (.int .i64 ((((((cyF (oF F N r) c) c) + (cr (oF F N r) c)) % 4096) : Nat) : Int)) (re_i (m := (((cyF (oF F N r) c) c) + (cr (oF F N r) c))) (n := 4096) (by decide)) rfl rfl) <|
        oc (k_ia 0 0 c (.int .i64 ((c : Nat) : Int)) (ix44 (i := c) (by omega)) rfl rfl) <|
        oc (k_st 0 c (.int .i64 ((((((cyF (oF F N r) c) c) + (cr (oF F N r) c)) % 4096) : Nat) : Int)) (c := ai 44 (cyF (oF F N r) c)) (n := ai 44 (updN (cyF (oF F N r) c) c ((((cyF (oF F N r) c) c) + (cr (oF F N r) c)) % 4096))) (st_at (n := 44) (F := (cyF (oF F N r) c)) (i := c) (v := ((((cyF (oF F N r) c) c) + (cr (oF F N r) c)) % 4096)) (t0 := 95) (by omega)) rfl rfl) <|
        ok_nil
      clear h; intro β a w h
      refine sym_then ?_
      refine St.r0 h [(30, .inl (.int .i64 (((((cyF (oF F N r) c) c) + (cr (oF F N r) c)) : Nat) : Int))), (31, .inl (.int .i64 ((((((cyF (oF F N r) c) c) + (cr (oF F N r) c)) / 4096) : Nat) : Int))), (4, .inl (.int .i64 ((((((cyF (oF F N r) c) c) + (cr (oF F N r) c)) / 4096) : Nat) : Int)))] [] ?_ ?_
      · exact oz (k_mv (.inl rfl) rfl) <|
        oz (k_bi (.int .i64 (((((cyF (oF F N r) c) c) + (cr (oF F N r) c)) : Nat) : Int)) (.int .i64 ((4096 : Nat) : Int)) (.int .i64 ((((((cyF (oF F N r) c) c) + (cr (oF F N r) c)) / 4096) : Nat) : Int)) (qu_i (m := (((cyF (oF F N r) c) c) + (cr (oF F N r) c))) (n := 4096) (by decide) (by omega)) rfl rfl) <|
        oz (k_mv (.inr rfl) rfl) <|
        ok_nil
      clear h; intro β a w h
      refine blk_norm ?_
      refine sym_then ?_
      refine St.r0 h [(19, .inl (.int .i64 ((c : Nat) : Int))), (20, .inl (.int .i64 (((c + 1) : Nat) : Int))), (5, .inl (.int .i64 (((c + 1) : Nat) : Int)))] [eO] ?_ ?_
      · exact oc (k_m0 rfl rfl) <|
        oz (k_bi (.int .i64 ((c : Nat) : Int)) (.int .i64 ((1 : Nat) : Int)) (.int .i64 (((c + 1) : Nat) : Int)) (ad_i (m := c) (n := 1) (by omega)) rfl rfl) <|
        oz (k_mv (.inr rfl) rfl) <|
        ok_nil
      clear h; intro β a w h
      replace h := St.sm h 0 (ai 44 (cyF (oF F N r) (c + 1))) (c := ai 44 (updN (cyF (oF F N r) c) c ((((cyF (oF F N r) c) c) + (cr (oF F N r) c)) % 4096))) (t := 95) (cyF_next _ _)
      replace h := St.ss h 4 (.int .i64 (((cr (oF F N r) (c + 1)) : Nat) : Int)) (v := .int .i64 ((((((cyF (oF F N r) c) c) + (cr (oF F N r) c)) / 4096) : Nat) : Int)) (ic (by rw [cyF_at]; exact cr_next _ _))
      replace h := St.cs h (s' := [.inl (.agg (ai 44 F)), .inr (0, pt 0), .inr (1, pt 0), .inl (.int .i64 ((r : Nat) : Int)), .inl (.int .i64 (((cr (oF F N r) (c + 1)) : Nat) : Int)), .inl (.int .i64 (((c + 1) : Nat) : Int)), .inl (.int .i64 (((((cyF (oF F N r) c) c) + (cr (oF F N r) c)) : Nat) : Int)), x7, uu, uu, uu, uu, uu, .inl (.int .i64 ((r : Nat) : Int)), .inl (.bool true), x15, x16, .inl (.int .i64 ((c : Nat) : Int)), .inl (.bool true), .inl (.int .i64 ((c : Nat) : Int)), .inl (.int .i64 (((c + 1) : Nat) : Int)), .inl (.int .i64 ((c : Nat) : Int)), .inr (0, pt c), .inl (.int .i64 ((((cyF (oF F N r) c) c) : Nat) : Int)), .inl (.int .i64 (((cr (oF F N r) c) : Nat) : Int)), .inl (.int .i64 (((((cyF (oF F N r) c) c) + (cr (oF F N r) c)) : Nat) : Int)), .inl (.int .i64 ((c : Nat) : Int)), .inl (.int .i64 (((((cyF (oF F N r) c) c) + (cr (oF F N r) c)) : Nat) : Int)), .inl (.int .i64 ((((((cyF (oF F N r) c) c) + (cr (oF F N r) c)) % 4096) : Nat) : Int)), .inr (0, pt c), .inl (.int .i64 (((((cyF (oF F N r) c) c) + (cr (oF F N r) c)) : Nat) : Int)), .inl (.int .i64 ((((((cyF (oF F N r) c) c) + (cr (oF F N r) c)) / 4096) : Nat) : Int)), x32, x33, x34, x35, x36, x37, x38, x39, x40, x41, x42, x43, x44, x45, x46, x47, x48, x49, uu, uu, uu, uu, uu, uu, uu, uu, uu, uu, uu, uu, uu, uu, uu, uu, uu, uu, uu, uu, uu, uu, uu, uu, uu, uu, uu, uu, uu, uu, uu, uu, uu, uu, uu, uu, uu, uu, uu, uu, uu, uu, uu, uu, uu, uu, uu, uu, uu, uu, uu, uu, uu, uu, uu, uu]) (m' := [(ai 44 (cyF (oF F N r) (c + 1)), 95), (ai 22 (fun _ => 0), 35)]) (by kernel_rfl) (by kernel_rfl)
      exact ⟨hltc, _, _, _, _, _, _, _, _, _, _, _, _, _, _, _, _, _, h⟩
    · obtain rfl : c = 44 := by omega
      refine sym_seq ?_
      refine sym_seq ?_
      refine St.r0 h [(17, .inl (.int .i64 ((44 : Nat) : Int))), (18, .inl (.bool false))] [] ?_ ?_
      · exact oz (k_mv (.inl rfl) rfl) <|
        oz (k_bi (.int .i64 ((44 : Nat) : Int)) (.int .i64 ((44 : Nat) : Int)) (.bool false) (lt_i (m := ((44 : Nat) : Int)) (n := ((44 : Nat) : Int)) (decide_eq_false (by omega))) rfl rfl) <|
        ok_nil
      clear h; intro β a w h
      refine sym_then ?_
      refine s_cf h ?_
      refine wp_exit ?_
      refine then_exit ?_
      refine then_exit ?_
      refine blk_exit ?_
      refine sym_then ?_
      refine sym_seq ?_
      refine St.r0 h [(7, .inl (.int .i64 ((0 : Nat) : Int)))] [] ?_ ?_
      · exact oz (k_mv (.inr rfl) rfl) <|
        ok_nil
      clear h; intro β a w h
      refine sym_then ?_
      refine blk_in ?_
      replace h := St.sm h 0 (ai 44 (foF (tV N r) 0)) (c := ai 44 (cyF (oF F N r) 44)) (t := 95) ((cyF_end (oF_pv hN hb r)).trans (foF_zero _))
      replace h := St.cs h (s' := [.inl (.agg (ai 44 F)), .inr (0, pt 0), .inr (1, pt 0), .inl (.int .i64 ((r : Nat) : Int)), .inl (.int .i64 (((cr (oF F N r) 44) : Nat) : Int)), .inl (.int .i64 ((44 : Nat) : Int)), x6, .inl (.int .i64 ((0 : Nat) : Int)), uu, uu, uu, uu, uu, .inl (.int .i64 ((r : Nat) : Int)), .inl (.bool true), x15, x16, .inl (.int .i64 ((44 : Nat) : Int)), .inl (.bool false), x19, x20, x21, x22, x23, x24, x25, x26, x27, x28, x29, x30, x31, x32, x33, x34, x35, x36, x37, x38, x39, x40, x41, x42, x43, x44, x45, x46, x47, x48, x49, uu, uu, uu, uu, uu, uu, uu, uu, uu, uu, uu, uu, uu, uu, uu, uu, uu, uu, uu, uu, uu, uu, uu, uu, uu, uu, uu, uu, uu, uu, uu, uu, uu, uu, uu, uu, uu, uu, uu, uu, uu, uu, uu, uu, uu, uu, uu, uu, uu, uu, uu, uu, uu, uu, uu, uu]) (m' := [(ai 44 (foF (tV N r) 0), 95), (ai 22 (fun _ => 0), 35)]) (by kernel_rfl) (by kernel_rfl)
      refine loop_up 22 (fun f a w => ∃ (x32 x33 x34 x35 x36 x37 x38 x39 x40 x41 x42 x43 x44 x45 x46 x47 x48 x49 : SV) (β : Nat → Nat), St (wd W0) [.inl (.agg (ai 44 F)), .inr (0, pt 0), .inr (1, pt 0), .inl (.int .i64 ((r : Nat) : Int)), .inl (.int .i64 (((cr (oF F N r) 44) : Nat) : Int)), .inl (.int .i64 ((44 : Nat) : Int)), x6, .inl (.int .i64 ((f : Nat) : Int)), uu, uu, uu, uu, uu, .inl (.int .i64 ((r : Nat) : Int)), .inl (.bool true), x15, x16, .inl (.int .i64 ((44 : Nat) : Int)), .inl (.bool false), x19, x20, x21, x22, x23, x24, x25, x26, x27, x28, x29, x30, x31, x32, x33, x34, x35, x36, x37, x38, x39, x40, x41, x42, x43, x44, x45, x46, x47, x48, x49, uu, uu, uu, uu, uu, uu, uu, uu, uu, uu, uu, uu, uu, uu, uu, uu, uu, uu, uu, uu, uu, uu, uu, uu, uu, uu, uu, uu, uu, uu, uu, uu, uu, uu, uu, uu, uu, uu, uu, uu, uu, uu, uu, uu, uu, uu, uu, uu, uu, uu, uu, uu, uu, uu, uu, uu] [(ai 44 (foF (tV N r) f), 95), (ai 22 (fun _ => 0), 35)] β a w) ⟨_, _, _, _, _, _, _, _, _, _, _, _, _, _, _, _, _, _, β, h⟩ ?_
      clear h; rintro f a w hkf ⟨x32, x33, x34, x35, x36, x37, x38, x39, x40, x41, x42, x43, x44, x45, x46, x47, x48, x49, β, h⟩; replace h := h.o0
      have g1 := dg_lt (tV N r) f
      have g2 := dg_lt (tV N r) (f + 22)
      have g3 := fun h : f < 22 => foF_a (V := tV N r) h
      have g4 := foF_b (tV N r) f
      rcases Nat.lt_or_ge f 22 with hltf | hgef
      · refine sym_seq ?_
        refine sym_seq ?_
        refine St.r0 h [(32, .inl (.int .i64 ((f : Nat) : Int))), (33, .inl (.bool true))] [] ?_ ?_
        · exact oz (k_mv (.inl rfl) rfl) <|
          oz (k_bi (.int .i64 ((f : Nat) : Int)) (.int .i64 ((22 : Nat) : Int)) (.bool true) (lt_i (m := ((f : Nat) : Int)) (n := ((22 : Nat) : Int)) (decide_eq_true (by omega))) rfl rfl) <|
          ok_nil
        clear h; intro β a w h
        refine sym_then ?_
        refine s_ct h ?_
        refine wp_skip ?_
        refine sym_then ?_
        refine sym_seq ?_
        refine blk_in ?_
        refine sym_seq ?_
        refine St.rg h [(36, .inl (.int .i64 ((f : Nat) : Int))), (37, .inl (.int .i64 ((f : Nat) : Int))), (38, .inr (0, pt f)), (39, .inl (.int .i64 ((((foF (tV N r) f) f) : Nat) : Int))), (40, .inl (.int .i64 ((f : Nat) : Int))), (41, .inl (.int .i64 (((f + 22) : Nat) : Int))), (42, .inr (0, pt (f + 22))), (43, .inl (.int .i64 ((((foF (tV N r) f) (f + 22)) : Nat) : Int))), (44, .inl (.int .i64 (((9728 * ((foF (tV N r) f) (f + 22))) : Nat) : Int))), (45, .inl (.int .i64 (((((foF (tV N r) f) f) + (9728 * ((foF (tV N r) f) (f + 22)))) : Nat) : Int))), (46, .inr (0, pt f))] [] [(0, ai 44 (updN (foF (tV N r) f) f (((foF (tV N r) f) f) + (9728 * ((foF (tV N r) f) (f + 22))))))] [nn, nn, nn, eR 0, nn, nn, nn, eR 0, nn, nn, nn, eS 0] ?_ ?_
        · exact oc (k_mv (.inl rfl) rfl) <|
          oc (k_mv (.inl rfl) rfl) <|
          oc (k_ia 0 0 f (.int .i64 ((f : Nat) : Int)) (ix44 (i := f) (by omega)) rfl rfl) <|
          oc (k_ld 0 f (.int .i64 ((((foF (tV N r) f) f) : Nat) : Int)) (c := ai 44 (foF (tV N r) f)) (ld_at (n := 44) (F := (foF (tV N r) f)) (i := f) (t0 := 95) (by omega)) rfl rfl) <|
          oc (k_mv (.inl rfl) rfl) <|
          oc (k_bi (.int .i64 ((f : Nat) : Int)) (.int .i64 ((22 : Nat) : Int)) (.int .i64 (((f + 22) : Nat) : Int)) (ad_i (m := f) (n := 22) (by omega)) rfl rfl) <|
          oc (k_ia 0 0 ((f + 22)) (.int .i64 (((f + 22) : Nat) : Int)) (ix44 (i := (f + 22)) (by omega)) rfl rfl) <|
          oc (k_ld 0 ((f + 22)) (.int .i64 ((((foF (tV N r) f) (f + 22)) : Nat) : Int)) (c := ai 44 (foF (tV N r) f)) (ld_at (n := 44) (F := (foF (tV N r) f)) (i := (f + 22)) (t0 := 95) (by omega)) rfl rfl) <|
          oc (k_bi (.int .i64 ((9728 : Nat) : Int)) (.int .i64 ((((foF (tV N r) f) (f + 22)) : Nat) : Int)) (.int .i64 (((9728 * ((foF (tV N r) f) (f + 22))) : Nat) : Int)) (mu_i (m := 9728) (n := ((foF (tV N r) f) (f + 22))) (by omega)) rfl rfl) <|
          oc (k_bi (.int .i64 ((((foF (tV N r) f) f) : Nat) : Int)) (.int .i64 (((9728 * ((foF (tV N r) f) (f + 22))) : Nat) : Int)) (.int .i64 (((((foF (tV N r) f) f) + (9728 * ((foF (tV N r) f) (f + 22)))) : Nat) : Int)) (ad_i (m := ((foF (tV N r) f) f)) (n := (9728 * ((foF (tV N r) f) (f + 22)))) (by omega)) rfl rfl) <|
          oc (k_ia 0 0 f (.int .i64 ((f : Nat) : Int)) (ix44 (i := f) (by omega)) rfl rfl) <|
          oc (k_st 0 f (.int .i64 (((((foF (tV N r) f) f) + (9728 * ((foF (tV N r) f) (f + 22)))) : Nat) : Int)) (c := ai 44 (foF (tV N r) f)) (n := ai 44 (updN (foF (tV N r) f) f (((foF (tV N r) f) f) + (9728 * ((foF (tV N r) f) (f + 22)))))) (st_at (n := 44) (F := (foF (tV N r) f)) (i := f) (v := (((foF (tV N r) f) f) + (9728 * ((foF (tV N r) f) (f + 22))))) (t0 := 95) (by omega)) rfl rfl) <|
          ok_nil
        clear h; intro β a w h
        refine sym_then ?_
        refine St.rg h [(47, .inl (.int .i64 ((f : Nat) : Int))), (48, .inl (.int .i64 (((f + 22) : Nat) : Int))), (49, .inr (0, pt (f + 22)))] [] [(0, ai 44 (updN (updN (foF (tV N r) f) f (((foF (tV N r) f) f) + (9728 * ((foF (tV N r) f) (f + 22))))) (f + 22) 0))] [nn, nn, nn, eS 0] ?_ ?_
        · exact oc (k_mv (.inl rfl) rfl) <|
          oc (k_bi (.int .i64 ((f : Nat) : Int)) (.int .i64 ((22 : Nat) : Int)) (.int .i64 (((f + 22) : Nat) : Int)) (ad_i (m := f) (n := 22) (by omega)) rfl rfl) <|
          oc (k_ia 0 0 ((f + 22)) (.int .i64 (((f + 22) : Nat) : Int)) (ix44 (i := (f + 22)) (by omega)) rfl rfl) <|
          oc (k_st 0 ((f + 22)) (.int .i64 ((0 : Nat) : Int)) (c := ai 44 (updN (foF (tV N r) f) f (((foF (tV N r) f) f) + (9728 * ((foF (tV N r) f) (f + 22)))))) (n := ai 44 (updN (updN (foF (tV N r) f) f (((foF (tV N r) f) f) + (9728 * ((foF (tV N r) f) (f + 22))))) (f + 22) 0)) (st_at (n := 44) (F := (updN (foF (tV N r) f) f (((foF (tV N r) f) f) + (9728 * ((foF (tV N r) f) (f + 22)))))) (i := (f + 22)) (v := 0) (t0 := 95) (by omega)) rfl rfl) <|
          ok_nil
        clear h; intro β a w h
        refine blk_norm ?_
        refine sym_then ?_
        refine St.r0 h [(34, .inl (.int .i64 ((f : Nat) : Int))), (35, .inl (.int .i64 (((f + 1) : Nat) : Int))), (7, .inl (.int .i64 (((f + 1) : Nat) : Int)))] [eO] ?_ ?_
        · exact oc (k_m0 rfl rfl) <|
          oz (k_bi (.int .i64 ((f : Nat) : Int)) (.int .i64 ((1 : Nat) : Int)) (.int .i64 (((f + 1) : Nat) : Int)) (ad_i (m := f) (n := 1) (by omega)) rfl rfl) <|
          oz (k_mv (.inr rfl) rfl) <|
          ok_nil
        clear h; intro β a w h
        replace h := St.sm h 0 (ai 44 (foF (tV N r) (f + 1))) (c := ai 44 (updN (updN (foF (tV N r) f) f (((foF (tV N r) f) f) + (9728 * ((foF (tV N r) f) (f + 22))))) (f + 22) 0)) (t := 95) (foF_next hltf)
        replace h := St.cs h (s' := [.inl (.agg (ai 44 F)), .inr (0, pt 0), .inr (1, pt 0), .inl (.int .i64 ((r : Nat) : Int)), .inl (.int .i64 (((cr (oF F N r) 44) : Nat) : Int)), .inl (.int .i64 ((44 : Nat) : Int)), x6, .inl (.int .i64 (((f + 1) : Nat) : Int)), uu, uu, uu, uu, uu, .inl (.int .i64 ((r : Nat) : Int)), .inl (.bool true), x15, x16, .inl (.int .i64 ((44 : Nat) : Int)), .inl (.bool false), x19, x20, x21, x22, x23, x24, x25, x26, x27, x28, x29, x30, x31, .inl (.int .i64 ((f : Nat) : Int)), .inl (.bool true), .inl (.int .i64 ((f : Nat) : Int)), .inl (.int .i64 (((f + 1) : Nat) : Int)), .inl (.int .i64 ((f : Nat) : Int)), .inl (.int .i64 ((f : Nat) : Int)), .inr (0, pt f), .inl (.int .i64 ((((foF (tV N r) f) f) : Nat) : Int)), .inl (.int .i64 ((f : Nat) : Int)), .inl (.int .i64 (((f + 22) : Nat) : Int)), .inr (0, pt (f + 22)), .inl (.int .i64 ((((foF (tV N r) f) (f + 22)) : Nat) : Int)), .inl (.int .i64 (((9728 * ((foF (tV N r) f) (f + 22))) : Nat) : Int)), .inl (.int .i64 (((((foF (tV N r) f) f) + (9728 * ((foF (tV N r) f) (f + 22)))) : Nat) : Int)), .inr (0, pt f), .inl (.int .i64 ((f : Nat) : Int)), .inl (.int .i64 (((f + 22) : Nat) : Int)), .inr (0, pt (f + 22)), uu, uu, uu, uu, uu, uu, uu, uu, uu, uu, uu, uu, uu, uu, uu, uu, uu, uu, uu, uu, uu, uu, uu, uu, uu, uu, uu, uu, uu, uu, uu, uu, uu, uu, uu, uu, uu, uu, uu, uu, uu, uu, uu, uu, uu, uu, uu, uu, uu, uu, uu, uu, uu, uu, uu, uu]) (m' := [(ai 44 (foF (tV N r) (f + 1)), 95), (ai 22 (fun _ => 0), 35)]) (by kernel_rfl) (by kernel_rfl)
        exact ⟨hltf, _, _, _, _, _, _, _, _, _, _, _, _, _, _, _, _, _, _, _, h⟩
      · obtain rfl : f = 22 := by omega
        refine sym_seq ?_
        refine sym_seq ?_
        refine St.r0 h [(32, .inl (.int .i64 ((22 : Nat) : Int))), (33, .inl (.bool false))] [] ?_ ?_
        · exact oz (k_mv (.inl rfl) rfl) <|
          oz (k_bi (.int .i64 ((22 : Nat) : Int)) (.int .i64 ((22 : Nat) : Int)) (.bool false) (lt_i (m := ((22 : Nat) : Int)) (n := ((22 : Nat) : Int)) (decide_eq_false (by omega))) rfl rfl) <|
          ok_nil
        clear h; intro β a w h
        refine sym_then ?_
        refine s_cf h ?_
        refine wp_exit ?_
        refine then_exit ?_
        refine then_exit ?_
        refine blk_exit ?_
        refine blk_norm ?_
        refine sym_then ?_
        refine St.r0 h [(15, .inl (.int .i64 ((r : Nat) : Int))), (16, .inl (.int .i64 (((r + 1) : Nat) : Int))), (3, .inl (.int .i64 (((r + 1) : Nat) : Int)))] [eO] ?_ ?_
        · exact oc (k_m0 rfl rfl) <|
          oz (k_bi (.int .i64 ((r : Nat) : Int)) (.int .i64 ((1 : Nat) : Int)) (.int .i64 (((r + 1) : Nat) : Int)) (ad_i (m := r) (n := 1) (by omega)) rfl rfl) <|
          oz (k_mv (.inr rfl) rfl) <|
          ok_nil
        clear h; intro β a w h
        replace h := St.sm h 0 (ai 44 (oF F N (r + 1))) (c := ai 44 (foF (tV N r) 22)) (t := 95) (foF_end _)
        replace h := St.cs h (s' := [.inl (.agg (ai 44 F)), .inr (0, pt 0), .inr (1, pt 0), .inl (.int .i64 (((r + 1) : Nat) : Int)), .inl (.int .i64 (((cr (oF F N r) 44) : Nat) : Int)), .inl (.int .i64 ((44 : Nat) : Int)), x6, .inl (.int .i64 ((22 : Nat) : Int)), uu, uu, uu, uu, uu, .inl (.int .i64 ((r : Nat) : Int)), .inl (.bool true), .inl (.int .i64 ((r : Nat) : Int)), .inl (.int .i64 (((r + 1) : Nat) : Int)), .inl (.int .i64 ((44 : Nat) : Int)), .inl (.bool false), x19, x20, x21, x22, x23, x24, x25, x26, x27, x28, x29, x30, x31, .inl (.int .i64 ((22 : Nat) : Int)), .inl (.bool false), x34, x35, x36, x37, x38, x39, x40, x41, x42, x43, x44, x45, x46, x47, x48, x49, uu, uu, uu, uu, uu, uu, uu, uu, uu, uu, uu, uu, uu, uu, uu, uu, uu, uu, uu, uu, uu, uu, uu, uu, uu, uu, uu, uu, uu, uu, uu, uu, uu, uu, uu, uu, uu, uu, uu, uu, uu, uu, uu, uu, uu, uu, uu, uu, uu, uu, uu, uu, uu, uu, uu, uu]) (m' := [(ai 44 (oF F N (r + 1)), 95), (ai 22 (fun _ => 0), 35)]) (by kernel_rfl) (by kernel_rfl)
        exact ⟨hltr, _, _, _, _, _, _, _, _, _, _, _, _, _, _, _, _, _, _, _, _, _, _, _, _, _, _, _, _, _, _, _, _, _, _, _, _, _, _, _, _, _, _, h⟩
  · obtain rfl : r = 5 := by omega
    refine sym_seq ?_
    refine sym_seq ?_
    refine St.r0 h [(13, .inl (.int .i64 ((5 : Nat) : Int))), (14, .inl (.bool false))] [] ?_ ?_
    · exact oz (k_mv (.inl rfl) rfl) <|
      oz (k_bi (.int .i64 ((5 : Nat) : Int)) (.int .i64 ((5 : Nat) : Int)) (.bool false) (lt_i (m := ((5 : Nat) : Int)) (n := ((5 : Nat) : Int)) (decide_eq_false (by omega))) rfl rfl) <|
      ok_nil
    clear h; intro β a w h
    refine sym_then ?_
    refine s_cf h ?_
    refine wp_exit ?_
    refine then_exit ?_
    refine then_exit ?_
    refine blk_exit ?_
    refine sym_then ?_
    refine sym_seq ?_
    refine sym_seq ?_
    refine St.r0 h [(8, .inl (.int .i64 ((0 : Nat) : Int)))] [] ?_ ?_
    · exact oz (k_mv (.inr rfl) rfl) <|
      ok_nil
    clear h; intro β a w h
    refine sym_then ?_
    refine blk_in ?_
    replace h := St.sm h 0 (ai 44 (dg (uV U 0))) (c := ai 44 (oF F N 5)) (t := 95) oF_end'
    replace h := St.cs h (s' := [.inl (.agg (ai 44 F)), .inr (0, pt 0), .inr (1, pt 0), .inl (.int .i64 ((5 : Nat) : Int)), x4, x5, x6, x7, .inl (.int .i64 ((0 : Nat) : Int)), uu, uu, uu, uu, .inl (.int .i64 ((5 : Nat) : Int)), .inl (.bool false), x15, x16, x17, x18, x19, x20, x21, x22, x23, x24, x25, x26, x27, x28, x29, x30, x31, x32, x33, x34, x35, x36, x37, x38, x39, x40, x41, x42, x43, x44, x45, x46, x47, x48, x49, uu, uu, uu, uu, uu, uu, uu, uu, uu, uu, uu, uu, uu, uu, uu, uu, uu, uu, uu, uu, uu, uu, uu, uu, uu, uu, uu, uu, uu, uu, uu, uu, uu, uu, uu, uu, uu, uu, uu, uu, uu, uu, uu, uu, uu, uu, uu, uu, uu, uu, uu, uu, uu, uu, uu, uu]) (m' := [(ai 44 (dg (uV U 0)), 95), (ai 22 (fun _ => 0), 35)]) (by kernel_rfl) (by kernel_rfl)
    refine loop_up 2 (fun q a w => ∃ (x9 x10 x50 x51 x52 x53 x54 x55 x56 x57 x58 x59 x60 x61 x62 x63 x64 x65 x66 x67 x68 x69 x70 x71 x72 x73 x74 x75 x76 x77 x78 x79 x80 x81 x82 x83 x84 x85 x86 x87 x88 : SV) (β : Nat → Nat), St (wd W0) [.inl (.agg (ai 44 F)), .inr (0, pt 0), .inr (1, pt 0), .inl (.int .i64 ((5 : Nat) : Int)), x4, x5, x6, x7, .inl (.int .i64 ((q : Nat) : Int)), x9, x10, uu, uu, .inl (.int .i64 ((5 : Nat) : Int)), .inl (.bool false), x15, x16, x17, x18, x19, x20, x21, x22, x23, x24, x25, x26, x27, x28, x29, x30, x31, x32, x33, x34, x35, x36, x37, x38, x39, x40, x41, x42, x43, x44, x45, x46, x47, x48, x49, x50, x51, x52, x53, x54, x55, x56, x57, x58, x59, x60, x61, x62, x63, x64, x65, x66, x67, x68, x69, x70, x71, x72, x73, x74, x75, x76, x77, x78, x79, x80, x81, x82, x83, x84, x85, x86, x87, x88, uu, uu, uu, uu, uu, uu, uu, uu, uu, uu, uu, uu, uu, uu, uu, uu, uu] [(ai 44 (dg (uV U q)), 95), (ai 22 (fun _ => 0), 35)] β a w) ⟨_, _, _, _, _, _, _, _, _, _, _, _, _, _, _, _, _, _, _, _, _, _, _, _, _, _, _, _, _, _, _, _, _, _, _, _, _, _, _, _, _, β, h⟩ ?_
    clear h; rintro q a w hkq ⟨x9, x10, x50, x51, x52, x53, x54, x55, x56, x57, x58, x59, x60, x61, x62, x63, x64, x65, x66, x67, x68, x69, x70, x71, x72, x73, x74, x75, x76, x77, x78, x79, x80, x81, x82, x83, x84, x85, x86, x87, x88, β, h⟩; replace h := h.o0
    have g1 := dg_lt (uV U q) 21
    have g2 := dg_lt (uV U q) 0
    have g3 : updN (dg (uV U q)) 21 (dg (uV U q) 21 % 8) 0 = dg (uV U q) 0 := by simp [updN]
    rcases Nat.lt_or_ge q 2 with hltq | hgeq
    · refine sym_seq ?_
      refine sym_seq ?_
      refine St.r0 h [(50, .inl (.int .i64 ((q : Nat) : Int))), (51, .inl (.bool true))] [] ?_ ?_
      · exact oz (k_mv (.inl rfl) rfl) <|
        oz (k_bi (.int .i64 ((q : Nat) : Int)) (.int .i64 ((2 : Nat) : Int)) (.bool true) (lt_i (m := ((q : Nat) : Int)) (n := ((2 : Nat) : Int)) (decide_eq_true (by omega))) rfl rfl) <|
        ok_nil
      clear h; intro β a w h
      refine sym_then ?_
      refine s_ct h ?_
      refine wp_skip ?_
      refine sym_then ?_
      refine sym_seq ?_
      refine blk_in ?_
      refine sym_seq ?_
      refine St.r0 h [(54, .inr (0, pt 21)), (55, .inl (.int .i64 ((((dg (uV U q)) 21) : Nat) : Int))), (56, .inl (.int .i64 (((((dg (uV U q)) 21) / 8) : Nat) : Int))), (9, .inl (.int .i64 (((((dg (uV U q)) 21) / 8) : Nat) : Int)))] [nn, eR 0] ?_ ?_
      · exact oc (k_ia 0 0 21 (.int .i64 ((21 : Nat) : Int)) (ix44 (i := 21) (by omega)) rfl rfl) <|
        oc (k_ld 0 21 (.int .i64 ((((dg (uV U q)) 21) : Nat) : Int)) (c := ai 44 (dg (uV U q))) (ld_at (n := 44) (F := (dg (uV U q))) (i := 21) (t0 := 95) (by omega)) rfl rfl) <|
        oz (k_bi (.int .i64 ((((dg (uV U q)) 21) : Nat) : Int)) (.int .i64 ((8 : Nat) : Int)) (.int .i64 (((((dg (uV U q)) 21) / 8) : Nat) : Int)) (qu_i (m := ((dg (uV U q)) 21)) (n := 8) (by decide) (by omega)) rfl rfl) <|
        oz (k_mv (.inr rfl) rfl) <|
        ok_nil
      clear h; intro β a w h
      refine sym_then ?_
      refine sym_seq ?_
      refine St.rg h [(57, .inr (0, pt 21)), (58, .inl (.int .i64 ((((dg (uV U q)) 21) : Nat) : Int))), (59, .inl (.int .i64 (((((dg (uV U q)) 21) % 8) : Nat) : Int))), (60, .inr (0, pt 21))] [] [(0, ai 44 (updN (dg (uV U q)) 21 (((dg (uV U q)) 21) % 8)))] [nn, eR 0, nn, nn, eS 0] ?_ ?_
      · exact oc (k_ia 0 0 21 (.int .i64 ((21 : Nat) : Int)) (ix44 (i := 21) (by omega)) rfl rfl) <|
        oc (k_ld 0 21 (.int .i64 ((((dg (uV U q)) 21) : Nat) : Int)) (c := ai 44 (dg (uV U q))) (ld_at (n := 44) (F := (dg (uV U q))) (i := 21) (t0 := 95) (by omega)) rfl rfl) <|
        oc (k_bi (.int .i64 ((((dg (uV U q)) 21) : Nat) : Int)) (.int .i64 ((8 : Nat) : Int)) (.int .i64 (((((dg (uV U q)) 21) % 8) : Nat) : Int)) (re_i (m := ((dg (uV U q)) 21)) (n := 8) (by decide)) rfl rfl) <|
        oc (k_ia 0 0 21 (.int .i64 ((21 : Nat) : Int)) (ix44 (i := 21) (by omega)) rfl rfl) <|
        oc (k_st 0 21 (.int .i64 (((((dg (uV U q)) 21) % 8) : Nat) : Int)) (c := ai 44 (dg (uV U q))) (n := ai 44 (updN (dg (uV U q)) 21 (((dg (uV U q)) 21) % 8))) (st_at (n := 44) (F := (dg (uV U q))) (i := 21) (v := (((dg (uV U q)) 21) % 8)) (t0 := 95) (by omega)) rfl rfl) <|
        ok_nil
      clear h; intro β a w h
      refine sym_then ?_
      refine sym_seq ?_
      refine St.rg h [(61, .inr (0, pt 0)), (62, .inl (.int .i64 ((((updN (dg (uV U q)) 21 (((dg (uV U q)) 21) % 8)) 0) : Nat) : Int))), (63, .inl (.int .i64 (((((dg (uV U q)) 21) / 8) : Nat) : Int))), (64, .inl (.int .i64 (((19 * (((dg (uV U q)) 21) / 8)) : Nat) : Int))), (65, .inl (.int .i64 (((((updN (dg (uV U q)) 21 (((dg (uV U q)) 21) % 8)) 0) + (19 * (((dg (uV U q)) 21) / 8))) : Nat) : Int))), (66, .inr (0, pt 0))] [] [(0, ai 44 (updN (updN (dg (uV U q)) 21 (((dg (uV U q)) 21) % 8)) 0 (((updN (dg (uV U q)) 21 (((dg (uV U q)) 21) % 8)) 0) + (19 * (((dg (uV U q)) 21) / 8)))))] [nn, eR 0, nn, nn, nn, nn, eS 0] ?_ ?_
      · exact oc (k_ia 0 0 0 (.int .i64 ((0 : Nat) : Int)) (ix44 (i := 0) (by omega)) rfl rfl) <|
        oc (k_ld 0 0 (.int .i64 ((((updN (dg (uV U q)) 21 (((dg (uV U q)) 21) % 8)) 0) : Nat) : Int)) (c := ai 44 (updN (dg (uV U q)) 21 (((dg (uV U q)) 21) % 8))) (ld_at (n := 44) (F := (updN (dg (uV U q)) 21 (((dg (uV U q)) 21) % 8))) (i := 0) (t0 := 95) (by omega)) rfl rfl) <|
        oc (k_mv (.inl rfl) rfl) <|
        oc (k_bi (.int .i64 ((19 : Nat) : Int)) (.int .i64 (((((dg (uV U q)) 21) / 8) : Nat) : Int)) (.int .i64 (((19 * (((dg (uV U q)) 21) / 8)) : Nat) : Int)) (mu_i (m := 19) (n := (((dg (uV U q)) 21) / 8)) (by omega)) rfl rfl) <|
        oc (k_bi (.int .i64 ((((updN (dg (uV U q)) 21 (((dg (uV U q)) 21) % 8)) 0) : Nat) : Int)) (.int .i64 (((19 * (((dg (uV U q)) 21) / 8)) : Nat) : Int)) (.int .i64 (((((updN (dg (uV U q)) 21 (((dg (uV U q)) 21) % 8)) 0) + (19 * (((dg (uV U q)) 21) / 8))) : Nat) : Int)) (ad_i (m := ((updN (dg (uV U q)) 21 (((dg (uV U q)) 21) % 8)) 0)) (n := (19 * (((dg (uV U q)) 21) / 8))) (by omega)) rfl rfl) <|
        oc (k_ia 0 0 0 (.int .i64 ((0 : Nat) : Int)) (ix44 (i := 0) (by omega)) rfl rfl) <|
        oc (k_st 0 0 (.int .i64 (((((updN (dg (uV U q)) 21 (((dg (uV U q)) 21) % 8)) 0) + (19 * (((dg (uV U q)) 21) / 8))) : Nat) : Int)) (c := ai 44 (updN (dg (uV U q)) 21 (((dg (uV U q)) 21) % 8))) (n := ai 44 (updN (updN (dg (uV U q)) 21 (((dg (uV U q)) 21) % 8)) 0 (((updN (dg (uV U q)) 21 (((dg (uV U q)) 21) % 8)) 0) + (19 * (((dg (uV U q)) 21) / 8))))) (st_at (n := 44) (F := (updN (dg (uV U q)) 21 (((dg (uV U q)) 21) % 8))) (i := 0) (v := (((updN (dg (uV U q)) 21 (((dg (uV U q)) 21) % 8)) 0) + (19 * (((dg (uV U q)) 21) / 8)))) (t0 := 95) (by omega)) rfl rfl) <|
        ok_nil
      clear h; intro β a w h
      refine sym_then ?_
      refine sym_seq ?_
      refine St.r0 h [(10, .inl (.int .i64 ((0 : Nat) : Int)))] [] ?_ ?_
      · exact oz (k_mv (.inr rfl) rfl) <|
        ok_nil
      clear h; intro β a w h
      refine sym_then ?_
      refine blk_in ?_
      replace h := St.sm h 0 (ai 44 (seF (hF (uV U q)) 0)) (c := ai 44 (updN (updN (dg (uV U q)) 21 (((dg (uV U q)) 21) % 8)) 0 (((updN (dg (uV U q)) 21 (((dg (uV U q)) 21) % 8)) 0) + (19 * (((dg (uV U q)) 21) / 8))))) (t := 95) (seF_zero (hF_upd _))
      replace h := St.cs h (s' := [.inl (.agg (ai 44 F)), .inr (0, pt 0), .inr (1, pt 0), .inl (.int .i64 ((5 : Nat) : Int)), x4, x5, x6, x7, .inl (.int .i64 ((q : Nat) : Int)), .inl (.int .i64 (((((dg (uV U q)) 21) / 8) : Nat) : Int)), .inl (.int .i64 ((0 : Nat) : Int)), uu, uu, .inl (.int .i64 ((5 : Nat) : Int)), .inl (.bool false), x15, x16, x17, x18, x19, x20, x21, x22, x23, x24, x25, x26, x27, x28, x29, x30, x31, x32, x33, x34, x35, x36, x37, x38, x39, x40, x41, x42, x43, x44, x45, x46, x47, x48, x49, .inl (.int .i64 ((q : Nat) : Int)), .inl (.bool true), x52, x53, .inr (0, pt 21), .inl (.int .i64 ((((dg (uV U q)) 21) : Nat) : Int)), .inl (.int .i64 (((((dg (uV U q)) 21) / 8) : Nat) : Int)), .inr (0, pt 21), .inl (.int .i64 ((((dg (uV U q)) 21) : Nat) : Int)), .inl (.int .i64 (((((dg (uV U q)) 21) % 8) : Nat) : Int)), .inr (0, pt 21), .inr (0, pt 0), .inl (.int .i64 ((((updN (dg (uV U q)) 21 (((dg (uV U q)) 21) % 8)) 0) : Nat) : Int)), .inl (.int .i64 (((((dg (uV U q)) 21) / 8) : Nat) : Int)), .inl (.int .i64 (((19 * (((dg (uV U q)) 21) / 8)) : Nat) : Int)), .inl (.int .i64 (((((updN (dg (uV U q)) 21 (((dg (uV U q)) 21) % 8)) 0) + (19 * (((dg (uV U q)) 21) / 8))) : Nat) : Int)), .inr (0, pt 0), x67, x68, x69, x70, x71, x72, x73, x74, x75, x76, x77, x78, x79, x80, x81, x82, x83, x84, x85, x86, x87, x88, uu, uu, uu, uu, uu, uu, uu, uu, uu, uu, uu, uu, uu, uu, uu, uu, uu]) (m' := [(ai 44 (seF (hF (uV U q)) 0), 95), (ai 22 (fun _ => 0), 35)]) (by kernel_rfl) (by kernel_rfl)
      refine loop_up 21 (fun s a w => ∃ (x67 x68 x69 x70 x71 x72 x73 x74 x75 x76 x77 x78 x79 x80 x81 x82 x83 x84 x85 x86 x87 x88 : SV) (β : Nat → Nat), St (wd W0) [.inl (.agg (ai 44 F)), .inr (0, pt 0), .inr (1, pt 0), .inl (.int .i64 ((5 : Nat) : Int)), x4, x5, x6, x7, .inl (.int .i64 ((q : Nat) : Int)), .inl (.int .i64 (((((dg (uV U q)) 21) / 8) : Nat) : Int)), .inl (.int .i64 ((s : Nat) : Int)), uu, uu, .inl (.int .i64 ((5 : Nat) : Int)), .inl (.bool false), x15, x16, x17, x18, x19, x20, x21, x22, x23, x24, x25, x26, x27, x28, x29, x30, x31, x32, x33, x34, x35, x36, x37, x38, x39, x40, x41, x42, x43, x44, x45, x46, x47, x48, x49, .inl (.int .i64 ((q : Nat) : Int)), .inl (.bool true), x52, x53, .inr (0, pt 21), .inl (.int .i64 ((((dg (uV U q)) 21) : Nat) : Int)), .inl (.int .i64 (((((dg (uV U q)) 21) / 8) : Nat) : Int)), .inr (0, pt 21), .inl (.int .i64 ((((dg (uV U q)) 21) : Nat) : Int)), .inl (.int .i64 (((((dg (uV U q)) 21) % 8) : Nat) : Int)), .inr (0, pt 21), .inr (0, pt 0), .inl (.int .i64 ((((updN (dg (uV U q)) 21 (((dg (uV U q)) 21) % 8)) 0) : Nat) : Int)), .inl (.int .i64 (((((dg (uV U q)) 21) / 8) : Nat) : Int)), .inl (.int .i64 (((19 * (((dg (uV U q)) 21) / 8)) : Nat) : Int)), .inl (.int .i64 (((((updN (dg (uV U q)) 21 (((dg (uV U q)) 21) % 8)) 0) + (19 * (((dg (uV U q)) 21) / 8))) : Nat) : Int)), .inr (0, pt 0), x67, x68, x69, x70, x71, x72, x73, x74, x75, x76, x77, x78, x79, x80, x81, x82, x83, x84, x85, x86, x87, x88, uu, uu, uu, uu, uu, uu, uu, uu, uu, uu, uu, uu, uu, uu, uu, uu, uu] [(ai 44 (seF (hF (uV U q)) s), 95), (ai 22 (fun _ => 0), 35)] β a w) ⟨_, _, _, _, _, _, _, _, _, _, _, _, _, _, _, _, _, _, _, _, _, _, β, h⟩ ?_
      clear h; rintro s a w hks ⟨x67, x68, x69, x70, x71, x72, x73, x74, x75, x76, x77, x78, x79, x80, x81, x82, x83, x84, x85, x86, x87, x88, β, h⟩; replace h := h.o0
      have k1 := hF_lt (uV U q) s
      have k2 := hF_lt (uV U q) (s + 1)
      have k3 := cr_lt (hF_lt (uV U q)) s
      have k4 := seF_at (hF (uV U q)) s
      have k5 := seF_nx (hF (uV U q)) s
      rcases Nat.lt_or_ge s 21 with hlts | hges
      · refine sym_seq ?_
        refine sym_seq ?_
        refine St.r0 h [(67, .inl (.int .i64 ((s : Nat) : Int))), (68, .inl (.bool true))] [] ?_ ?_
        · exact oz (k_mv (.inl rfl) rfl) <|
          oz (k_bi (.int .i64 ((s : Nat) : Int)) (.int .i64 ((21 : Nat) : Int)) (.bool true) (lt_i (m := ((s : Nat) : Int)) (n := ((21 : Nat) : Int)) (decide_eq_true (by omega))) rfl rfl) <|
          ok_nil
        clear h; intro β a w h
        refine sym_then ?_
        refine s_ct h ?_
        refine wp_skip ?_
        refine sym_then ?_
        refine sym_seq ?_
        refine blk_in ?_
        refine sym_seq ?_
        refine St.rg h [(71, .inl (.int .i64 ((s : Nat) : Int))), (72, .inl (.int .i64 (((s + 1) : Nat) : Int))), (73, .inl (.int .i64 ((s : Nat) : Int))), (74, .inl (.int .i64 (((s + 1) : Nat) : Int))), (75, .inr (0, pt (s + 1))), (76, .inl (.int .i64 ((((seF (hF (uV U q)) s) (s + 1)) : Nat) : Int))), (77, .inl (.int .i64 ((s : Nat) : Int))), (78, .inr (0, pt s)), (79, .inl (.int .i64 ((((seF (hF (uV U q)) s) s) : Nat) : Int))), (80, .inl (.int .i64 (((((seF (hF (uV U q)) s) s) / 4096) : Nat) : Int))), (81, .inl (.int .i64 (((((seF (hF (uV U q)) s) (s + 1)) + (((seF (hF (uV U q)) s) s) / 4096)) : Nat) : Int))), (82, .inr (0, pt (s + 1)))] [] [(0, ai 44 (updN (seF (hF (uV U q)) s) (s + 1) (((seF (hF (uV U q)) s) (s + 1)) + (((seF (hF (uV U q)) s) s) / 4096))))] [nn, nn, nn, nn, nn, eR 0, nn, nn, eR 0, nn, nn, nn, eS 0] ?_ ?_
        · exact oc (k_mv (.inl rfl) rfl) <|
          oc (k_bi (.int .i64 ((s : Nat) : Int)) (.int .i64 ((1 : Nat) : Int)) (.int .i64 (((s + 1) : Nat) : Int)) (ad_i (m := s) (n := 1) (by omega)) rfl rfl) <|
          oc (k_mv (.inl rfl) rfl) <|
          oc (k_bi (.int .i64 ((s : Nat) : Int)) (.int .i64 ((1 : Nat) : Int)) (.int .i64 (((s + 1) : Nat) : Int)) (ad_i (m := s) (n := 1) (by omega)) rfl rfl) <|
          oc (k_ia 0 0 ((s + 1)) (.int .i64 (((s + 1) : Nat) : Int)) (ix44 (i := (s + 1)) (by omega)) rfl rfl) <|
          oc (k_ld 0 ((s + 1)) (.int .i64 ((((seF (hF (uV U q)) s) (s + 1)) : Nat) : Int)) (c := ai 44 (seF (hF (uV U q)) s)) (ld_at (n := 44) (F := (seF (hF (uV U q)) s)) (i := (s + 1)) (t0 := 95) (by omega)) rfl rfl) <|
          oc (k_mv (.inl rfl) rfl) <|
          oc (k_ia 0 0 s (.int .i64 ((s : Nat) : Int)) (ix44 (i := s) (by omega)) rfl rfl) <|
          oc (k_ld 0 s (.int .i64 ((((seF (hF (uV U q)) s) s) : Nat) : Int)) (c := ai 44 (seF (hF (uV U q)) s)) (ld_at (n := 44) (F := (seF (hF (uV U q)) s)) (i := s) (t0 := 95) (by omega)) rfl rfl) <|
          oc (k_bi (.int .i64 ((((seF (hF (uV U q)) s) s) : Nat) : Int)) (.int .i64 ((4096 : Nat) : Int)) (.int .i64 (((((seF (hF (uV U q)) s) s) / 4096) : Nat) : Int)) (qu_i (m := ((seF (hF (uV U q)) s) s)) (n := 4096) (by decide) (by omega)) rfl rfl) <|
          oc (k_bi (.int .i64 ((((seF (hF (uV U q)) s) (s + 1)) : Nat) : Int)) (.int .i64 (((((seF (hF (uV U q)) s) s) / 4096) : Nat) : Int)) (.int .i64 (((((seF (hF (uV U q)) s) (s + 1)) + (((seF (hF (uV U q)) s) s) / 4096)) : Nat) : Int)) (ad_i (m := ((seF (hF (uV U q)) s) (s + 1))) (n := (((seF (hF (uV U q)) s) s) / 4096)) (by omega)) rfl rfl) <|
          oc (k_ia 0 0 ((s + 1)) (.int .i64 (((s + 1) : Nat) : Int)) (ix44 (i := (s + 1)) (by omega)) rfl rfl) <|
          oc (k_st 0 ((s + 1)) (.int .i64 (((((seF (hF (uV U q)) s) (s + 1)) + (((seF (hF (uV U q)) s) s) / 4096)) : Nat) : Int)) (c := ai 44 (seF (hF (uV U q)) s)) (n := ai 44 (updN (seF (hF (uV U q)) s) (s + 1) (((seF (hF (uV U q)) s) (s + 1)) + (((seF (hF (uV U q)) s) s) / 4096)))) (st_at (n := 44) (F := (seF (hF (uV U q)) s)) (i := (s + 1)) (v := (((seF (hF (uV U q)) s) (s + 1)) + (((seF (hF (uV U q)) s) s) / 4096))) (t0 := 95) (by omega)) rfl rfl) <|
          ok_nil
        clear h; intro β a w h
        refine sym_then ?_
        refine St.rg h [(83, .inl (.int .i64 ((s : Nat) : Int))), (84, .inl (.int .i64 ((s : Nat) : Int))), (85, .inr (0, pt s)), (86, .inl (.int .i64 ((((updN (seF (hF (uV U q)) s) (s + 1) (((seF (hF (uV U q)) s) (s + 1)) + (((seF (hF (uV U q)) s) s) / 4096))) s) : Nat) : Int))), (87, .inl (.int .i64 (((((updN (seF (hF (uV U q)) s) (s + 1) (((seF (hF (uV U q)) s) (s + 1)) + (((seF (hF (uV U q)) s) s) / 4096))) s) % 4096) : Nat) : Int))), (88, .inr (0, pt s))] [] [(0, ai 44 (updN (updN (seF (hF (uV U q)) s) (s + 1) (((seF (hF (uV U q)) s) (s + 1)) + (((seF (hF (uV U q)) s) s) / 4096))) s (((updN (seF (hF (uV U q)) s) (s + 1) (((seF (hF (uV U q)) s) (s + 1)) + (((seF (hF (uV U q)) s) s) / 4096))) s) % 4096)))] [nn, nn, nn, eR 0, nn, nn, eS 0] ?_ ?_
        · exact oc (k_mv (.inl rfl) rfl) <|
          oc (k_mv (.inl rfl) rfl) <|
          oc (k_ia 0 0 s (.int .i64 ((s : Nat) : Int)) (ix44 (i := s) (by omega)) rfl rfl) <|
          oc (k_ld 0 s (.int .i64 ((((updN (seF (hF (uV U q)) s) (s + 1) (((seF (hF (uV U q)) s) (s + 1)) + (((seF (hF (uV U q)) s) s) / 4096))) s) : Nat) : Int)) (c := ai 44 (updN (seF (hF (uV U q)) s) (s + 1) (((seF (hF (uV U q)) s) (s + 1)) + (((seF (hF (uV U q)) s) s) / 4096)))) (ld_at (n := 44) (F := (updN (seF (hF (uV U q)) s) (s + 1) (((seF (hF (uV U q)) s) (s + 1)) + (((seF (hF (uV U q)) s) s) / 4096)))) (i := s) (t0 := 95) (by omega)) rfl rfl) <|
          oc (k_bi (.int .i64 ((((updN (seF (hF (uV U q)) s) (s + 1) (((seF (hF (uV U q)) s) (s + 1)) + (((seF (hF (uV U q)) s) s) / 4096))) s) : Nat) : Int)) (.int .i64 ((4096 : Nat) : Int)) (.int .i64 (((((updN (seF (hF (uV U q)) s) (s + 1) (((seF (hF (uV U q)) s) (s + 1)) + (((seF (hF (uV U q)) s) s) / 4096))) s) % 4096) : Nat) : Int)) (re_i (m := ((updN (seF (hF (uV U q)) s) (s + 1) (((seF (hF (uV U q)) s) (s + 1)) + (((seF (hF (uV U q)) s) s) / 4096))) s)) (n := 4096) (by decide)) rfl rfl) <|
          oc (k_ia 0 0 s (.int .i64 ((s : Nat) : Int)) (ix44 (i := s) (by omega)) rfl rfl) <|
          oc (k_st 0 s (.int .i64 (((((updN (seF (hF (uV U q)) s) (s + 1) (((seF (hF (uV U q)) s) (s + 1)) + (((seF (hF (uV U q)) s) s) / 4096))) s) % 4096) : Nat) : Int)) (c := ai 44 (updN (seF (hF (uV U q)) s) (s + 1) (((seF (hF (uV U q)) s) (s + 1)) + (((seF (hF (uV U q)) s) s) / 4096)))) (n := ai 44 (updN (updN (seF (hF (uV U q)) s) (s + 1) (((seF (hF (uV U q)) s) (s + 1)) + (((seF (hF (uV U q)) s) s) / 4096))) s (((updN (seF (hF (uV U q)) s) (s + 1) (((seF (hF (uV U q)) s) (s + 1)) + (((seF (hF (uV U q)) s) s) / 4096))) s) % 4096))) (st_at (n := 44) (F := (updN (seF (hF (uV U q)) s) (s + 1) (((seF (hF (uV U q)) s) (s + 1)) + (((seF (hF (uV U q)) s) s) / 4096)))) (i := s) (v := (((updN (seF (hF (uV U q)) s) (s + 1) (((seF (hF (uV U q)) s) (s + 1)) + (((seF (hF (uV U q)) s) s) / 4096))) s) % 4096)) (t0 := 95) (by omega)) rfl rfl) <|
          ok_nil
        clear h; intro β a w h
        refine blk_norm ?_
        refine sym_then ?_
        refine St.r0 h [(69, .inl (.int .i64 ((s : Nat) : Int))), (70, .inl (.int .i64 (((s + 1) : Nat) : Int))), (10, .inl (.int .i64 (((s + 1) : Nat) : Int)))] [eO] ?_ ?_
        · exact oc (k_m0 rfl rfl) <|
          oz (k_bi (.int .i64 ((s : Nat) : Int)) (.int .i64 ((1 : Nat) : Int)) (.int .i64 (((s + 1) : Nat) : Int)) (ad_i (m := s) (n := 1) (by omega)) rfl rfl) <|
          oz (k_mv (.inr rfl) rfl) <|
          ok_nil
        clear h; intro β a w h
        replace h := St.sm h 0 (ai 44 (seF (hF (uV U q)) (s + 1))) (c := ai 44 (updN (updN (seF (hF (uV U q)) s) (s + 1) (((seF (hF (uV U q)) s) (s + 1)) + (((seF (hF (uV U q)) s) s) / 4096))) s (((updN (seF (hF (uV U q)) s) (s + 1) (((seF (hF (uV U q)) s) (s + 1)) + (((seF (hF (uV U q)) s) s) / 4096))) s) % 4096))) (t := 95) seF_next
        replace h := St.cs h (s' := [.inl (.agg (ai 44 F)), .inr (0, pt 0), .inr (1, pt 0), .inl (.int .i64 ((5 : Nat) : Int)), x4, x5, x6, x7, .inl (.int .i64 ((q : Nat) : Int)), .inl (.int .i64 (((((dg (uV U q)) 21) / 8) : Nat) : Int)), .inl (.int .i64 (((s + 1) : Nat) : Int)), uu, uu, .inl (.int .i64 ((5 : Nat) : Int)), .inl (.bool false), x15, x16, x17, x18, x19, x20, x21, x22, x23, x24, x25, x26, x27, x28, x29, x30, x31, x32, x33, x34, x35, x36, x37, x38, x39, x40, x41, x42, x43, x44, x45, x46, x47, x48, x49, .inl (.int .i64 ((q : Nat) : Int)), .inl (.bool true), x52, x53, .inr (0, pt 21), .inl (.int .i64 ((((dg (uV U q)) 21) : Nat) : Int)), .inl (.int .i64 (((((dg (uV U q)) 21) / 8) : Nat) : Int)), .inr (0, pt 21), .inl (.int .i64 ((((dg (uV U q)) 21) : Nat) : Int)), .inl (.int .i64 (((((dg (uV U q)) 21) % 8) : Nat) : Int)), .inr (0, pt 21), .inr (0, pt 0), .inl (.int .i64 ((((updN (dg (uV U q)) 21 (((dg (uV U q)) 21) % 8)) 0) : Nat) : Int)), .inl (.int .i64 (((((dg (uV U q)) 21) / 8) : Nat) : Int)), .inl (.int .i64 (((19 * (((dg (uV U q)) 21) / 8)) : Nat) : Int)), .inl (.int .i64 (((((updN (dg (uV U q)) 21 (((dg (uV U q)) 21) % 8)) 0) + (19 * (((dg (uV U q)) 21) / 8))) : Nat) : Int)), .inr (0, pt 0), .inl (.int .i64 ((s : Nat) : Int)), .inl (.bool true), .inl (.int .i64 ((s : Nat) : Int)), .inl (.int .i64 (((s + 1) : Nat) : Int)), .inl (.int .i64 ((s : Nat) : Int)), .inl (.int .i64 (((s + 1) : Nat) : Int)), .inl (.int .i64 ((s : Nat) : Int)), .inl (.int .i64 (((s + 1) : Nat) : Int)), .inr (0, pt (s + 1)), .inl (.int .i64 ((((seF (hF (uV U q)) s) (s + 1)) : Nat) : Int)), .inl (.int .i64 ((s : Nat) : Int)), .inr (0, pt s), .inl (.int .i64 ((((seF (hF (uV U q)) s) s) : Nat) : Int)), .inl (.int .i64 (((((seF (hF (uV U q)) s) s) / 4096) : Nat) : Int)), .inl (.int .i64 (((((seF (hF (uV U q)) s) (s + 1)) + (((seF (hF (uV U q)) s) s) / 4096)) : Nat) : Int)), .inr (0, pt (s + 1)), .inl (.int .i64 ((s : Nat) : Int)), .inl (.int .i64 ((s : Nat) : Int)), .inr (0, pt s), .inl (.int .i64 ((((updN (seF (hF (uV U q)) s) (s + 1) (((seF (hF (uV U q)) s) (s + 1)) + (((seF (hF (uV U q)) s) s) / 4096))) s) : Nat) : Int)), .inl (.int .i64 (((((updN (seF (hF (uV U q)) s) (s + 1) (((seF (hF (uV U q)) s) (s + 1)) + (((seF (hF (uV U q)) s) s) / 4096))) s) % 4096) : Nat) : Int)), .inr (0, pt s), uu, uu, uu, uu, uu, uu, uu, uu, uu, uu, uu, uu, uu, uu, uu, uu, uu]) (m' := [(ai 44 (seF (hF (uV U q)) (s + 1)), 95), (ai 22 (fun _ => 0), 35)]) (by kernel_rfl) (by kernel_rfl)
        exact ⟨hlts, _, _, _, _, _, _, _, _, _, _, _, _, _, _, _, _, _, _, _, _, _, _, _, h⟩
      · obtain rfl : s = 21 := by omega
        refine sym_seq ?_
        refine sym_seq ?_
        refine St.r0 h [(67, .inl (.int .i64 ((21 : Nat) : Int))), (68, .inl (.bool false))] [] ?_ ?_
        · exact oz (k_mv (.inl rfl) rfl) <|
          oz (k_bi (.int .i64 ((21 : Nat) : Int)) (.int .i64 ((21 : Nat) : Int)) (.bool false) (lt_i (m := ((21 : Nat) : Int)) (n := ((21 : Nat) : Int)) (decide_eq_false (by omega))) rfl rfl) <|
          ok_nil
        clear h; intro β a w h
        refine sym_then ?_
        refine s_cf h ?_
        refine wp_exit ?_
        refine then_exit ?_
        refine then_exit ?_
        refine blk_exit ?_
        refine blk_norm ?_
        refine sym_then ?_
        refine St.r0 h [(52, .inl (.int .i64 ((q : Nat) : Int))), (53, .inl (.int .i64 (((q + 1) : Nat) : Int))), (8, .inl (.int .i64 (((q + 1) : Nat) : Int)))] [eO] ?_ ?_
        · exact oc (k_m0 rfl rfl) <|
          oz (k_bi (.int .i64 ((q : Nat) : Int)) (.int .i64 ((1 : Nat) : Int)) (.int .i64 (((q + 1) : Nat) : Int)) (ad_i (m := q) (n := 1) (by omega)) rfl rfl) <|
          oz (k_mv (.inr rfl) rfl) <|
          ok_nil
        clear h; intro β a w h
        replace h := St.sm h 0 (ai 44 (dg (uV U (q + 1)))) (c := ai 44 (seF (hF (uV U q)) 21)) (t := 95) (seF_end (uV_lt hU q))
        replace h := St.cs h (s' := [.inl (.agg (ai 44 F)), .inr (0, pt 0), .inr (1, pt 0), .inl (.int .i64 ((5 : Nat) : Int)), x4, x5, x6, x7, .inl (.int .i64 (((q + 1) : Nat) : Int)), .inl (.int .i64 (((((dg (uV U q)) 21) / 8) : Nat) : Int)), .inl (.int .i64 ((21 : Nat) : Int)), uu, uu, .inl (.int .i64 ((5 : Nat) : Int)), .inl (.bool false), x15, x16, x17, x18, x19, x20, x21, x22, x23, x24, x25, x26, x27, x28, x29, x30, x31, x32, x33, x34, x35, x36, x37, x38, x39, x40, x41, x42, x43, x44, x45, x46, x47, x48, x49, .inl (.int .i64 ((q : Nat) : Int)), .inl (.bool true), .inl (.int .i64 ((q : Nat) : Int)), .inl (.int .i64 (((q + 1) : Nat) : Int)), .inr (0, pt 21), .inl (.int .i64 ((((dg (uV U q)) 21) : Nat) : Int)), .inl (.int .i64 (((((dg (uV U q)) 21) / 8) : Nat) : Int)), .inr (0, pt 21), .inl (.int .i64 ((((dg (uV U q)) 21) : Nat) : Int)), .inl (.int .i64 (((((dg (uV U q)) 21) % 8) : Nat) : Int)), .inr (0, pt 21), .inr (0, pt 0), .inl (.int .i64 ((((updN (dg (uV U q)) 21 (((dg (uV U q)) 21) % 8)) 0) : Nat) : Int)), .inl (.int .i64 (((((dg (uV U q)) 21) / 8) : Nat) : Int)), .inl (.int .i64 (((19 * (((dg (uV U q)) 21) / 8)) : Nat) : Int)), .inl (.int .i64 (((((updN (dg (uV U q)) 21 (((dg (uV U q)) 21) % 8)) 0) + (19 * (((dg (uV U q)) 21) / 8))) : Nat) : Int)), .inr (0, pt 0), .inl (.int .i64 ((21 : Nat) : Int)), .inl (.bool false), x69, x70, x71, x72, x73, x74, x75, x76, x77, x78, x79, x80, x81, x82, x83, x84, x85, x86, x87, x88, uu, uu, uu, uu, uu, uu, uu, uu, uu, uu, uu, uu, uu, uu, uu, uu, uu]) (m' := [(ai 44 (dg (uV U (q + 1))), 95), (ai 22 (fun _ => 0), 35)]) (by kernel_rfl) (by kernel_rfl)
        exact ⟨hltq, _, _, _, _, _, _, _, _, _, _, _, _, _, _, _, _, _, _, _, _, _, _, _, _, _, _, _, _, _, _, _, _, _, _, _, _, _, _, _, _, _, _, h⟩
    · obtain rfl : q = 2 := by omega
      refine sym_seq ?_
      refine sym_seq ?_
      refine St.r0 h [(50, .inl (.int .i64 ((2 : Nat) : Int))), (51, .inl (.bool false))] [] ?_ ?_
      · exact oz (k_mv (.inl rfl) rfl) <|
        oz (k_bi (.int .i64 ((2 : Nat) : Int)) (.int .i64 ((2 : Nat) : Int)) (.bool false) (lt_i (m := ((2 : Nat) : Int)) (n := ((2 : Nat) : Int)) (decide_eq_false (by omega))) rfl rfl) <|
        ok_nil
      clear h; intro β a w h
      refine sym_then ?_
      refine s_cf h ?_
      refine wp_exit ?_
      refine then_exit ?_
      refine then_exit ?_
      refine blk_exit ?_
      refine sym_then ?_
      refine sym_seq ?_
      refine St.rg h [(11, .inr (2, pt 0))] [(ai 22 (fun _ => 0), 35)] [] [eN 2] ?_ ?_
      · exact oc (k_al 2 al22 rfl rfl) <|
        ok_nil
      clear h; intro β a w h
      refine sym_then ?_
      refine sym_seq ?_
      refine sym_seq ?_
      refine St.r0 h [(12, .inl (.int .i64 ((0 : Nat) : Int)))] [] ?_ ?_
      · exact oz (k_mv (.inr rfl) rfl) <|
        ok_nil
      clear h; intro β a w h
      refine sym_then ?_
      refine blk_in ?_
      replace h := St.sm h 2 (ai 22 (cpF V 0)) (c := ai 22 (fun _ => 0)) (t := 35) (cpF_zero _)
      replace h := St.sm h 0 (ai 44 (dg V)) (c := ai 44 (dg (uV U 2))) (t := 95) (by rw [HV.out])
      replace h := St.cs h (s' := [.inl (.agg (ai 44 F)), .inr (0, pt 0), .inr (1, pt 0), .inl (.int .i64 ((5 : Nat) : Int)), x4, x5, x6, x7, .inl (.int .i64 ((2 : Nat) : Int)), x9, x10, .inr (2, pt 0), .inl (.int .i64 ((0 : Nat) : Int)), .inl (.int .i64 ((5 : Nat) : Int)), .inl (.bool false), x15, x16, x17, x18, x19, x20, x21, x22, x23, x24, x25, x26, x27, x28, x29, x30, x31, x32, x33, x34, x35, x36, x37, x38, x39, x40, x41, x42, x43, x44, x45, x46, x47, x48, x49, .inl (.int .i64 ((2 : Nat) : Int)), .inl (.bool false), x52, x53, x54, x55, x56, x57, x58, x59, x60, x61, x62, x63, x64, x65, x66, x67, x68, x69, x70, x71, x72, x73, x74, x75, x76, x77, x78, x79, x80, x81, x82, x83, x84, x85, x86, x87, x88, uu, uu, uu, uu, uu, uu, uu, uu, uu, uu, uu, uu, uu, uu, uu, uu, uu]) (m' := [(ai 44 (dg V), 95), (ai 22 (fun _ => 0), 35), (ai 22 (cpF V 0), 35)]) (by kernel_rfl) (by kernel_rfl)
      refine loop_up 22 (fun p a w => ∃ (x89 x90 x91 x92 x93 x94 x95 x96 x97 : SV) (β : Nat → Nat), St (wd W0) [.inl (.agg (ai 44 F)), .inr (0, pt 0), .inr (1, pt 0), .inl (.int .i64 ((5 : Nat) : Int)), x4, x5, x6, x7, .inl (.int .i64 ((2 : Nat) : Int)), x9, x10, .inr (2, pt 0), .inl (.int .i64 ((p : Nat) : Int)), .inl (.int .i64 ((5 : Nat) : Int)), .inl (.bool false), x15, x16, x17, x18, x19, x20, x21, x22, x23, x24, x25, x26, x27, x28, x29, x30, x31, x32, x33, x34, x35, x36, x37, x38, x39, x40, x41, x42, x43, x44, x45, x46, x47, x48, x49, .inl (.int .i64 ((2 : Nat) : Int)), .inl (.bool false), x52, x53, x54, x55, x56, x57, x58, x59, x60, x61, x62, x63, x64, x65, x66, x67, x68, x69, x70, x71, x72, x73, x74, x75, x76, x77, x78, x79, x80, x81, x82, x83, x84, x85, x86, x87, x88, x89, x90, x91, x92, x93, x94, x95, x96, x97, uu, uu, uu, uu, uu, uu, uu, uu] [(ai 44 (dg V), 95), (ai 22 (fun _ => 0), 35), (ai 22 (cpF V p), 35)] β a w) ⟨_, _, _, _, _, _, _, _, _, β, h⟩ ?_
      clear h; rintro p a w hkp ⟨x89, x90, x91, x92, x93, x94, x95, x96, x97, β, h⟩; replace h := h.o0
      rcases Nat.lt_or_ge p 22 with hltp | hgep
      · refine sym_seq ?_
        refine sym_seq ?_
        refine St.r0 h [(89, .inl (.int .i64 ((p : Nat) : Int))), (90, .inl (.bool true))] [] ?_ ?_
        · exact oz (k_mv (.inl rfl) rfl) <|
          oz (k_bi (.int .i64 ((p : Nat) : Int)) (.int .i64 ((22 : Nat) : Int)) (.bool true) (lt_i (m := ((p : Nat) : Int)) (n := ((22 : Nat) : Int)) (decide_eq_true (by omega))) rfl rfl) <|
          ok_nil
        clear h; intro β a w h
        refine sym_then ?_
        refine s_ct h ?_
        refine wp_skip ?_
        refine sym_then ?_
        refine sym_seq ?_
        refine blk_in ?_
        refine St.rg h [(93, .inl (.int .i64 ((p : Nat) : Int))), (94, .inl (.int .i64 ((p : Nat) : Int))), (95, .inr (0, pt p)), (96, .inl (.int .i64 ((((dg V) p) : Nat) : Int))), (97, .inr (2, pt p))] [] [(2, ai 22 (updN (cpF V p) p ((dg V) p)))] [nn, nn, nn, eR 0, nn, eS 2] ?_ ?_
        · exact oc (k_mv (.inl rfl) rfl) <|
          oc (k_mv (.inl rfl) rfl) <|
          oc (k_ia 0 0 p (.int .i64 ((p : Nat) : Int)) (ix44 (i := p) (by omega)) rfl rfl) <|
          oc (k_ld 0 p (.int .i64 ((((dg V) p) : Nat) : Int)) (c := ai 44 (dg V)) (ld_at (n := 44) (F := (dg V)) (i := p) (t0 := 95) (by omega)) rfl rfl) <|
          oc (k_ia 2 0 p (.int .i64 ((p : Nat) : Int)) (ix22 (i := p) (by omega)) rfl rfl) <|
          oc (k_st 2 p (.int .i64 ((((dg V) p) : Nat) : Int)) (c := ai 22 (cpF V p)) (n := ai 22 (updN (cpF V p) p ((dg V) p))) (st_at (n := 22) (F := (cpF V p)) (i := p) (v := ((dg V) p)) (t0 := 35) (by omega)) rfl rfl) <|
          ok_nil
        clear h; intro β a w h
        refine blk_norm ?_
        refine sym_then ?_
        refine St.r0 h [(91, .inl (.int .i64 ((p : Nat) : Int))), (92, .inl (.int .i64 (((p + 1) : Nat) : Int))), (12, .inl (.int .i64 (((p + 1) : Nat) : Int)))] [eO] ?_ ?_
        · exact oc (k_m0 rfl rfl) <|
          oz (k_bi (.int .i64 ((p : Nat) : Int)) (.int .i64 ((1 : Nat) : Int)) (.int .i64 (((p + 1) : Nat) : Int)) (ad_i (m := p) (n := 1) (by omega)) rfl rfl) <|
          oz (k_mv (.inr rfl) rfl) <|
          ok_nil
        clear h; intro β a w h
        replace h := St.sm h 2 (ai 22 (cpF V (p + 1))) (c := ai 22 (updN (cpF V p) p ((dg V) p))) (t := 35) (cpF_next _ _)
        replace h := St.cs h (s' := [.inl (.agg (ai 44 F)), .inr (0, pt 0), .inr (1, pt 0), .inl (.int .i64 ((5 : Nat) : Int)), x4, x5, x6, x7, .inl (.int .i64 ((2 : Nat) : Int)), x9, x10, .inr (2, pt 0), .inl (.int .i64 (((p + 1) : Nat) : Int)), .inl (.int .i64 ((5 : Nat) : Int)), .inl (.bool false), x15, x16, x17, x18, x19, x20, x21, x22, x23, x24, x25, x26, x27, x28, x29, x30, x31, x32, x33, x34, x35, x36, x37, x38, x39, x40, x41, x42, x43, x44, x45, x46, x47, x48, x49, .inl (.int .i64 ((2 : Nat) : Int)), .inl (.bool false), x52, x53, x54, x55, x56, x57, x58, x59, x60, x61, x62, x63, x64, x65, x66, x67, x68, x69, x70, x71, x72, x73, x74, x75, x76, x77, x78, x79, x80, x81, x82, x83, x84, x85, x86, x87, x88, .inl (.int .i64 ((p : Nat) : Int)), .inl (.bool true), .inl (.int .i64 ((p : Nat) : Int)), .inl (.int .i64 (((p + 1) : Nat) : Int)), .inl (.int .i64 ((p : Nat) : Int)), .inl (.int .i64 ((p : Nat) : Int)), .inr (0, pt p), .inl (.int .i64 ((((dg V) p) : Nat) : Int)), .inr (2, pt p), uu, uu, uu, uu, uu, uu, uu, uu]) (m' := [(ai 44 (dg V), 95), (ai 22 (fun _ => 0), 35), (ai 22 (cpF V (p + 1)), 35)]) (by kernel_rfl) (by kernel_rfl)
        exact ⟨hltp, _, _, _, _, _, _, _, _, _, _, h⟩
      · obtain rfl : p = 22 := by omega
        refine sym_seq ?_
        refine sym_seq ?_
        refine St.r0 h [(89, .inl (.int .i64 ((22 : Nat) : Int))), (90, .inl (.bool false))] [] ?_ ?_
        · exact oz (k_mv (.inl rfl) rfl) <|
          oz (k_bi (.int .i64 ((22 : Nat) : Int)) (.int .i64 ((22 : Nat) : Int)) (.bool false) (lt_i (m := ((22 : Nat) : Int)) (n := ((22 : Nat) : Int)) (decide_eq_false (by omega))) rfl rfl) <|
          ok_nil
        clear h; intro β a w h
        refine sym_then ?_
        refine s_cf h ?_
        refine wp_exit ?_
        refine then_exit ?_
        refine then_exit ?_
        refine blk_exit ?_
        refine sym_then ?_
        refine sym_seq ?_
        refine blk_in ?_
        replace h := St.sm h 2 (ai 22 (dg (V - 0 * pp))) (c := ai 22 (cpF V 22)) (t := 35) (cpF_end _)
        replace h := St.cs h (s' := [.inl (.agg (ai 44 F)), .inr (0, pt 0), .inr (1, pt 0), .inl (.int .i64 ((5 : Nat) : Int)), x4, x5, x6, x7, .inl (.int .i64 ((2 : Nat) : Int)), x9, x10, .inr (2, pt 0), .inl (.int .i64 ((22 : Nat) : Int)), .inl (.int .i64 ((5 : Nat) : Int)), .inl (.bool false), x15, x16, x17, x18, x19, x20, x21, x22, x23, x24, x25, x26, x27, x28, x29, x30, x31, x32, x33, x34, x35, x36, x37, x38, x39, x40, x41, x42, x43, x44, x45, x46, x47, x48, x49, .inl (.int .i64 ((2 : Nat) : Int)), .inl (.bool false), x52, x53, x54, x55, x56, x57, x58, x59, x60, x61, x62, x63, x64, x65, x66, x67, x68, x69, x70, x71, x72, x73, x74, x75, x76, x77, x78, x79, x80, x81, x82, x83, x84, x85, x86, x87, x88, .inl (.int .i64 ((22 : Nat) : Int)), .inl (.bool false), x91, x92, x93, x94, x95, x96, x97, uu, uu, uu, uu, uu, uu, uu, uu]) (m' := [(ai 44 (dg V), 95), (ai 22 (fun _ => 0), 35), (ai 22 (dg (V - 0 * pp)), 35)]) (by kernel_rfl) (by kernel_rfl)
        refine loop_up (V / pp) (fun e a w => ∃ (x98 x99 x100 x101 x102 x103 x104 : SV) (β : Nat → Nat), St (wd W0) [.inl (.agg (ai 44 F)), .inr (0, pt 0), .inr (1, pt 0), .inl (.int .i64 ((5 : Nat) : Int)), x4, x5, x6, x7, .inl (.int .i64 ((2 : Nat) : Int)), x9, x10, .inr (2, pt 0), .inl (.int .i64 ((22 : Nat) : Int)), .inl (.int .i64 ((5 : Nat) : Int)), .inl (.bool false), x15, x16, x17, x18, x19, x20, x21, x22, x23, x24, x25, x26, x27, x28, x29, x30, x31, x32, x33, x34, x35, x36, x37, x38, x39, x40, x41, x42, x43, x44, x45, x46, x47, x48, x49, .inl (.int .i64 ((2 : Nat) : Int)), .inl (.bool false), x52, x53, x54, x55, x56, x57, x58, x59, x60, x61, x62, x63, x64, x65, x66, x67, x68, x69, x70, x71, x72, x73, x74, x75, x76, x77, x78, x79, x80, x81, x82, x83, x84, x85, x86, x87, x88, .inl (.int .i64 ((22 : Nat) : Int)), .inl (.bool false), x91, x92, x93, x94, x95, x96, x97, x98, x99, x100, x101, x102, x103, x104, uu] [(ai 44 (dg V), 95), (ai 22 (fun _ => 0), 35), (ai 22 (dg (V - e * pp)), 35)] β a w) ⟨_, _, _, _, _, _, _, β, h⟩ ?_
        clear h; rintro e a w hke ⟨x98, x99, x100, x101, x102, x103, x104, β, h⟩; replace h := h.o0
        rcases Nat.lt_or_ge e (V / pp) with hlte | hgee
        · refine sym_seq ?_
          refine sym_seq ?_
          refine St.r0 h [(98, .inl (.agg (ai 22 (dg (V - e * pp))))), (99, .inl (.agg (ai 22 (dg pp)))), (100, .inl (.bool false)), (101, .inl (.bool true))] [eR 2] ?_ ?_
          · exact oc (k_ld 2 0 (.agg (ai 22 (dg (V - e * pp)))) (c := ai 22 (dg (V - e * pp))) (ld22 (F := (dg (V - e * pp))) 35) rfl rfl) <|
            oz (k_ca 66 #[] (.agg (ai 22 (dg pp))) prime_r rfl rfl) <|
            oz (k_ca 81 #[.agg (ai 22 (dg (V - e * pp))), .agg (ai 22 (dg pp))] (.bool false) (fun w => below_b (sub_big hV) pp_big (decide_eq_false (Nat.not_lt.2 (q_lt hlte))) w) rfl rfl) <|
            oz (k_nt false rfl rfl) <|
            ok_nil
          clear h; intro β a w h
          refine sym_then ?_
          refine s_ct h ?_
          refine wp_skip ?_
          refine sym_then ?_
          refine blk_in ?_
          refine St.rg h [(102, .inl (.agg (ai 22 (dg (V - e * pp))))), (103, .inl (.agg (ai 22 (dg pp)))), (104, .inl (.agg (ai 22 (dg ((V - e * pp) - pp)))))] [] [(2, ai 22 (dg ((V - e * pp) - pp)))] [eR 2, nn, nn, eS 2] ?_ ?_
          · exact oc (k_ld 2 0 (.agg (ai 22 (dg (V - e * pp)))) (c := ai 22 (dg (V - e * pp))) (ld22 (F := (dg (V - e * pp))) 35) rfl rfl) <|
            oc (k_ca 66 #[] (.agg (ai 22 (dg pp))) prime_r rfl rfl) <|
            oc (k_ca 69 #[.agg (ai 22 (dg (V - e * pp))), .agg (ai 22 (dg pp))] (.agg (ai 22 (dg ((V - e * pp) - pp)))) (fun w => less_r (m := V - e * pp) (n := pp) (q_lt hlte) w) rfl rfl) <|
            oc (k_st 2 0 (.agg (ai 22 (dg ((V - e * pp) - pp)))) (c := ai 22 (dg (V - e * pp))) (n := ai 22 (dg ((V - e * pp) - pp))) (st22 (F := (dg ((V - e * pp) - pp))) (c := ai 22 (dg (V - e * pp))) 35 (ai_size _ _)) rfl rfl) <|
            ok_nil
          clear h; intro β a w h
          refine blk_norm ?_
          replace h := St.sm h 2 (ai 22 (dg (V - (e + 1) * pp))) (c := ai 22 (dg ((V - e * pp) - pp))) (t := 35) (by rw [q_next])
          replace h := St.cs h (s' := [.inl (.agg (ai 44 F)), .inr (0, pt 0), .inr (1, pt 0), .inl (.int .i64 ((5 : Nat) : Int)), x4, x5, x6, x7, .inl (.int .i64 ((2 : Nat) : Int)), x9, x10, .inr (2, pt 0), .inl (.int .i64 ((22 : Nat) : Int)), .inl (.int .i64 ((5 : Nat) : Int)), .inl (.bool false), x15, x16, x17, x18, x19, x20, x21, x22, x23, x24, x25, x26, x27, x28, x29, x30, x31, x32, x33, x34, x35, x36, x37, x38, x39, x40, x41, x42, x43, x44, x45, x46, x47, x48, x49, .inl (.int .i64 ((2 : Nat) : Int)), .inl (.bool false), x52, x53, x54, x55, x56, x57, x58, x59, x60, x61, x62, x63, x64, x65, x66, x67, x68, x69, x70, x71, x72, x73, x74, x75, x76, x77, x78, x79, x80, x81, x82, x83, x84, x85, x86, x87, x88, .inl (.int .i64 ((22 : Nat) : Int)), .inl (.bool false), x91, x92, x93, x94, x95, x96, x97, .inl (.agg (ai 22 (dg (V - e * pp)))), .inl (.agg (ai 22 (dg pp))), .inl (.bool false), .inl (.bool true), .inl (.agg (ai 22 (dg (V - e * pp)))), .inl (.agg (ai 22 (dg pp))), .inl (.agg (ai 22 (dg ((V - e * pp) - pp)))), uu]) (m' := [(ai 44 (dg V), 95), (ai 22 (fun _ => 0), 35), (ai 22 (dg (V - (e + 1) * pp)), 35)]) (by kernel_rfl) (by kernel_rfl)
          exact ⟨hlte, _, _, _, _, _, _, _, _, h⟩
        · obtain rfl : e = (V / pp) := by omega
          refine sym_seq ?_
          refine sym_seq ?_
          refine St.r0 h [(98, .inl (.agg (ai 22 (dg (V - (V / pp) * pp))))), (99, .inl (.agg (ai 22 (dg pp)))), (100, .inl (.bool true)), (101, .inl (.bool false))] [eR 2] ?_ ?_
          · exact oc (k_ld 2 0 (.agg (ai 22 (dg (V - (V / pp) * pp)))) (c := ai 22 (dg (V - (V / pp) * pp))) (ld22 (F := (dg (V - (V / pp) * pp))) 35) rfl rfl) <|
            oz (k_ca 66 #[] (.agg (ai 22 (dg pp))) prime_r rfl rfl) <|
            oz (k_ca 81 #[.agg (ai 22 (dg (V - (V / pp) * pp))), .agg (ai 22 (dg pp))] (.bool true) (fun w => below_b (sub_big hV) pp_big (decide_eq_true (by rw [q_end]; exact mod_pp _)) w) rfl rfl) <|
            oz (k_nt true rfl rfl) <|
            ok_nil
          clear h; intro β a w h
          refine sym_then ?_
          refine s_cf h ?_
          refine wp_exit ?_
          refine then_exit ?_
          refine then_exit ?_
          refine blk_exit ?_
          refine sym_then ?_
          refine sym_seq ?_
          refine St.rg h [(105, .inl (.agg (ai 22 (dg (V - (V / pp) * pp)))))] [] [(1, ai 22 (dg (V - (V / pp) * pp)))] [eR 2, eS 1] ?_ ?_
          · exact oc (k_ld 2 0 (.agg (ai 22 (dg (V - (V / pp) * pp)))) (c := ai 22 (dg (V - (V / pp) * pp))) (ld22 (F := (dg (V - (V / pp) * pp))) 35) rfl rfl) <|
            oc (k_st 1 0 (.agg (ai 22 (dg (V - (V / pp) * pp)))) (c := ai 22 (fun _ => 0)) (n := ai 22 (dg (V - (V / pp) * pp))) (st22 (F := (dg (V - (V / pp) * pp))) (c := ai 22 (fun _ => 0)) 35 (ai_size _ _)) rfl rfl) <|
            ok_nil
          clear h; intro β a w h
          refine sym_then ?_
          refine wp_ret ?_
          exact s_rc (b := 1) (t0 := 35) (c := ai 22 (dg (V - (V / pp) * pp))) h Try.results65 Try.underlying35 (fun hb => ⟨rfl, hb⟩) (by rw [ai_size]; kernel_rfl)
end Go.Proofs.Ytpogmflgmpifoaa

namespace Go.Proofs.Ytpogmflgmpifoaa

def plF (m n k j : Nat) : Nat := if j < k then dg m j + dg n j else 0
theorem plF_zero (m n : Nat) : ai 44 (fun _ => 0) = ai 44 (plF m n 0) := ai_congr fun i _ => by simp [plF]
theorem plF_next (m n k : Nat) : ai 44 (updN (plF m n k) k (dg m k + dg n k)) = ai 44 (plF m n (k + 1)) := ai_congr fun i _ => by
  unfold updN plF
  by_cases e : i = k
  · subst e; simp
  · have : (i < k + 1) = (i < k) := by simp; omega
    simp [e, this]
theorem plF_lt (m n k i : Nat) : plF m n k i < 1099511627776 := by
  unfold plF
  have := dg_lt m i; have := dg_lt n i
  split <;> omega
theorem plF_pv {m n : Nat} (hm : m < 4096 ^ 22) (hn : n < 4096 ^ 22) : pv (plF m n 22) 44 = m + n := by
  have h1 : pv (plF m n 22) 44 = pv (plF m n 22) 22 := pv_zero (a := 22) 22 (fun j h1 _ => by unfold plF; rw [if_neg (by omega)])
  have h2 : pv (plF m n 22) 22 = pv (fun j => dg m j + 1 * dg n j) 22 := pv_congr 22 fun i hi => by unfold plF; rw [if_pos hi, Nat.one_mul]
  rw [h1, h2, pv_add, pv_dg, pv_dg, Nat.mod_eq_of_lt hm, Nat.mod_eq_of_lt hn, Nat.one_mul]
theorem plF_big {m n : Nat} (hm : m < 4096 ^ 22) (hn : n < 4096 ^ 22) : m + n < 4096 ^ 44 := by
  have : 4096 ^ 22 + 4096 ^ 22 < 4096 ^ 44 := by decide +kernel
  omega

theorem dm_le (m n i j : Nat) : dg m i * dg n j ≤ 16769025 := Nat.mul_le_mul (Nat.le_of_lt_succ (dg_lt m i)) (Nat.le_of_lt_succ (dg_lt n j))
/-- One row of a product, k figures done. -/
def roF (G : Nat → Nat) (i a n k j : Nat) : Nat := if i ≤ j ∧ j < i + k then G j + a * dg n (j - i) else G j
theorem roF_zero (G : Nat → Nat) (i a n : Nat) : ai 44 G = ai 44 (roF G i a n 0) := ai_congr fun j _ => by unfold roF; rw [if_neg (by omega)]
theorem roF_at (G : Nat → Nat) (i a n k : Nat) : roF G i a n k (i + k) = G (i + k) := by unfold roF; rw [if_neg (by omega)]
theorem roF_next (G : Nat → Nat) (i a n k : Nat) : ai 44 (updN (roF G i a n k) (i + k) (roF G i a n k (i + k) + a * dg n k)) = ai 44 (roF G i a n (k + 1)) := ai_congr fun j _ => by
  rw [roF_at]
  unfold updN
  by_cases e : j = i + k
  · subst e; rw [if_pos rfl]; unfold roF; rw [if_pos (by omega), show i + k - i = k by omega]
  · rw [if_neg e]; unfold roF
    by_cases h : i ≤ j ∧ j < i + k
    · rw [if_pos h, if_pos (by omega)]
    · rw [if_neg h, if_neg (by omega)]
/-- The rows of a product. -/
def tmF (m n : Nat) : Nat → Nat → Nat
  | 0 => fun _ => 0
  | i + 1 => roF (tmF m n i) i (dg m i) n 22
theorem tmF_lt (m n : Nat) : ∀ i j, tmF m n i j ≤ i * 16769025 := by
  intro i
  induction i with
  | zero => intro j; simp [tmF]
  | succ i ih =>
    intro j
    show roF (tmF m n i) i (dg m i) n 22 j ≤ _
    have h1 := ih j
    have h2 := dm_le m n i (j - i)
    rw [Nat.succ_mul]
    generalize i * 16769025 = y at *
    generalize dg m i * dg n (j - i) = x at *
    unfold roF
    split
    · generalize tmF m n i j = t at *
      show t + dg m i * dg n (j - i) ≤ _
      have h2 := dm_le m n i (j - i)
      omega
    · omega
theorem pv_roF (G : Nat → Nat) {i K : Nat} (n a : Nat) : ∀ k, i + k ≤ K → pv (roF G i a n k) K = pv G K + a * (n % 4096 ^ k) * 4096 ^ i := by
  intro k
  induction k with
  | zero =>
    intro _
    rw [pv_congr (G := G) K (fun j _ => by unfold roF; rw [if_neg (by omega)]), Nat.pow_zero, Nat.mod_one]; simp
  | succ k ih =>
    intro hk
    have ih := ih (by omega)
    have h1 : pv (roF G i a n (k + 1)) K = pv (updN (roF G i a n k) (i + k) (roF G i a n k (i + k) + a * dg n k)) K := pv_congr K fun j _ => by
      rw [roF_at]
      unfold updN
      by_cases e : j = i + k
      · subst e; rw [if_pos rfl]; unfold roF; rw [if_pos (by omega), show i + k - i = k by omega]
      · rw [if_neg e]; unfold roF
        by_cases h : i ≤ j ∧ j < i + k
        · rw [if_pos h, if_pos (by omega)]
        · rw [if_neg h, if_neg (by omega)]
    have h2 := pv_upd (roF G i a n k) (i + k) (roF G i a n k (i + k) + a * dg n k) K (by omega)
    rw [← h1, ih, Nat.add_mul] at h2
    have h3 : a * (n % 4096 ^ (k + 1)) * 4096 ^ i = a * (n % 4096 ^ k) * 4096 ^ i + a * dg n k * 4096 ^ (i + k) := by
      rw [mod_step, Nat.mul_add, Nat.add_mul, Nat.pow_add, Nat.mul_assoc a (dg n k), Nat.mul_comm (4096 ^ i) (4096 ^ k)]
      simp only [Nat.mul_assoc]
    omega
theorem pv_tmF {m n : Nat} (hn : n < 4096 ^ 22) : ∀ i, i ≤ 22 → pv (tmF m n i) 44 = (m % 4096 ^ i) * n := by
  intro i
  induction i with
  | zero =>
    intro _
    rw [Nat.pow_zero, Nat.mod_one, Nat.zero_mul]
    have h : ∀ k, pv (tmF m n 0) k = 0 := by
      intro k
      induction k with
      | zero => rfl
      | succ k ih => rw [pv, ih]; simp [tmF]
    exact h 44
  | succ i ih =>
    intro hi
    show pv (roF (tmF m n i) i (dg m i) n 22) 44 = _
    rw [pv_roF _ _ _ 22 (by omega), ih (by omega), Nat.mod_eq_of_lt hn, mod_step, Nat.add_mul]
    congr 1
    rw [Nat.mul_assoc, Nat.mul_comm n, ← Nat.mul_assoc]
theorem tmF_pv {m n : Nat} (hm : m < 4096 ^ 22) (hn : n < 4096 ^ 22) : pv (tmF m n 22) 44 = m * n := by
  rw [pv_tmF hn 22 (by omega), Nat.mod_eq_of_lt hm]
theorem tmF_big {m n : Nat} (hm : m < 4096 ^ 22) (hn : n < 4096 ^ 22) : m * n < 4096 ^ 44 := by
  rw [show 4096 ^ 44 = 4096 ^ 22 * 4096 ^ 22 from by decide +kernel]
  exact Nat.mul_lt_mul_of_lt_of_lt hm hn
theorem tmF_fl (m n i j : Nat) (hi : i ≤ 22) : tmF m n i j < 1099511627776 := by
  have := tmF_lt m n i j
  have : i * 16769025 ≤ 22 * 16769025 := Nat.mul_le_mul_right _ hi
  omega
end Go.Proofs.Ytpogmflgmpifoaa

namespace Go.Proofs.Ytpogmflgmpifoaa
open Go.RowKit
set_option maxHeartbeats 2000000 in
theorem plus_r {m n : Nat} (hm : m < 4096 ^ 22) (hn : n < 4096 ^ 22) (W0 : World) : Calls Try.prog 39 #[.agg (ai 22 (dg m)), .agg (ai 22 (dg n))] W0 fun e w' => e = .returned (.agg (ai 22 (dg ((m + n) % pp)))) ∧ Below W0.heap.size W0 w' := by
  refine s_in Try.func39 Try.ntmps39 rfl [.inl (.agg (ai 22 (dg m))), .inl (.agg (ai 22 (dg n)))] ?_
  intro β a h
  refine sym_seq ?_
  refine St.rg h [(2, .inr (0, pt 0)), (3, .inr (1, pt 0)), (4, .inr (2, pt 0))] [(ai 22 (dg m), 35), (ai 22 (dg n), 35), (ai 22 (fun _ => 0), 35)] [] [eN 0, eN 1, eN 2] ?_ ?_
  · exact oc (k_bx 0 (.agg (ai 22 (dg m))) (bx22 (F := (dg m))) rfl rfl) <|
    oc (k_bx 1 (.agg (ai 22 (dg n))) (bx22 (F := (dg n))) rfl rfl) <|
    oc (k_al 2 al22 rfl rfl) <|
    ok_nil
  clear h; intro β a w h
  refine sym_then ?_
  refine sym_seq ?_
  refine St.rg h [(5, .inr (3, pt 0))] [(ai 44 (fun _ => 0), 95)] [] [eN 3] ?_ ?_
  · exact oc (k_al 3 al44 rfl rfl) <|
    ok_nil
  clear h; intro β a w h
  refine sym_then ?_
  refine sym_seq ?_
  refine sym_seq ?_
  refine St.r0 h [(6, .inl (.int .i64 ((0 : Nat) : Int)))] [] ?_ ?_
  · exact oz (k_mv (.inr rfl) rfl) <|
    ok_nil
  clear h; intro β a w h
  refine sym_then ?_
  refine blk_in ?_
  replace h := St.sm h 3 (ai 44 (plF m n 0)) (c := ai 44 (fun _ => 0)) (t := 95) (plF_zero m n)
  replace h := St.cs h (s' := [.inl (.agg (ai 22 (dg m))), .inl (.agg (ai 22 (dg n))), .inr (0, pt 0), .inr (1, pt 0), .inr (2, pt 0), .inr (3, pt 0), .inl (.int .i64 ((0 : Nat) : Int)), uu, uu, uu, uu, uu, uu, uu, uu, uu, uu, uu, uu, uu, uu, uu]) (m' := [(ai 22 (dg m), 35), (ai 22 (dg n), 35), (ai 22 (fun _ => 0), 35), (ai 44 (plF m n 0), 95)]) (by kernel_rfl) (by kernel_rfl)
  refine loop_up 22 (fun k a w => ∃ (x7 x8 x9 x10 x11 x12 x13 x14 x15 x16 x17 x18 x19 : SV) (β : Nat → Nat), St (wd W0) [.inl (.agg (ai 22 (dg m))), .inl (.agg (ai 22 (dg n))), .inr (0, pt 0), .inr (1, pt 0), .inr (2, pt 0), .inr (3, pt 0), .inl (.int .i64 ((k : Nat) : Int)), x7, x8, x9, x10, x11, x12, x13, x14, x15, x16, x17, x18, x19, uu, uu] [(ai 22 (dg m), 35), (ai 22 (dg n), 35), (ai 22 (fun _ => 0), 35), (ai 44 (plF m n k), 95)] β a w) ⟨_, _, _, _, _, _, _, _, _, _, _, _, _, β, h⟩ ?_
  clear h; rintro k a w hkk ⟨x7, x8, x9, x10, x11, x12, x13, x14, x15, x16, x17, x18, x19, β, h⟩; replace h := h.o0
  have g1 := dg_lt m k
  have g2 := dg_lt n k
  rcases Nat.lt_or_ge k 22 with hltk | hgek
  · refine sym_seq ?_
    refine sym_seq ?_
    refine St.r0 h [(7, .inl (.int .i64 ((k : Nat) : Int))), (8, .inl (.bool true))] [] ?_ ?_
    · exact oz (k_mv (.inl rfl) rfl) <|
      oz (k_bi (.int .i64 ((k : Nat) : Int)) (.int .i64 ((22 : Nat) : Int)) (.bool true) (lt_i (m := ((k : Nat) : Int)) (n := ((22 : Nat) : Int)) (decide_eq_true (by omega))) rfl rfl) <|
      ok_nil
    clear h; intro β a w h
    refine sym_then ?_
    refine s_ct h ?_
    refine wp_skip ?_
    refine sym_then ?_
    refine sym_seq ?_
    refine blk_in ?_
    refine St.rg h [(11, .inl (.int .i64 ((k : Nat) : Int))), (12, .inl (.int .i64 ((k : Nat) : Int))), (13, .inr (0, pt k)), (14, .inl (.int .i64 ((((dg m) k) : Nat) : Int))), (15, .inl (.int .i64 ((k : Nat) : Int))), (16, .inr (1, pt k)), (17, .inl (.int .i64 ((((dg n) k) : Nat) : Int))), (18, .inl (.int .i64 (((((dg m) k) + ((dg n) k)) : Nat) : Int))), (19, .inr (3, pt k))] [] [(3, ai 44 (updN (plF m n k) k (((dg m) k) + ((dg n) k))))] [nn, nn, nn, eR 0, nn, nn, eR 1, nn, nn, eS 3] ?_ ?_
    · exact oc (k_mv (.inl rfl) rfl) <|
      oc (k_mv (.inl rfl) rfl) <|
      oc (k_ia 0 0 k (.int .i64 ((k : Nat) : Int)) (ix22 (i := k) (by omega)) rfl rfl) <|
      oc (k_ld 0 k (.int .i64 ((((dg m) k) : Nat) : Int)) (c := ai 22 (dg m)) (ld_at (n := 22) (F := (dg m)) (i := k) (t0 := 35) (by omega)) rfl rfl) <|
      oc (k_mv (.inl rfl) rfl) <|
      oc (k_ia 1 0 k (.int .i64 ((k : Nat) : Int)) (ix22 (i := k) (by omega)) rfl rfl) <|
      oc (k_ld 1 k (.int .i64 ((((dg n) k) : Nat) : Int)) (c := ai 22 (dg n)) (ld_at (n := 22) (F := (dg n)) (i := k) (t0 := 35) (by omega)) rfl rfl) <|
      oc (k_bi (.int .i64 ((((dg m) k) : Nat) : Int)) (.int .i64 ((((dg n) k) : Nat) : Int)) (.int .i64 (((((dg m) k) + ((dg n) k)) : Nat) : Int)) (ad_i (m := ((dg m) k)) (n := ((dg n) k)) (by omega)) rfl rfl) <|
      oc (k_ia 3 0 k (.int .i64 ((k : Nat) : Int)) (ix44 (i := k) (by omega)) rfl rfl) <|
      oc (k_st 3 k (.int .i64 (((((dg m) k) + ((dg n) k)) : Nat) : Int)) (c := ai 44 (plF m n k)) (n := ai 44 (updN (plF m n k) k (((dg m) k) + ((dg n) k)))) (st_at (n := 44) (F := (plF m n k)) (i := k) (v := (((dg m) k) + ((dg n) k))) (t0 := 95) (by omega)) rfl rfl) <|
      ok_nil
    clear h; intro β a w h
    refine blk_norm ?_
    refine sym_then ?_
    refine St.r0 h [(9, .inl (.int .i64 ((k : Nat) : Int))), (10, .inl (.int .i64 (((k + 1) : Nat) : Int))), (6, .inl (.int .i64 (((k + 1) : Nat) : Int)))] [eO] ?_ ?_
    · exact oc (k_m0 rfl rfl) <|
      oz (k_bi (.int .i64 ((k : Nat) : Int)) (.int .i64 ((1 : Nat) : Int)) (.int .i64 (((k + 1) : Nat) : Int)) (ad_i (m := k) (n := 1) (by omega)) rfl rfl) <|
      oz (k_mv (.inr rfl) rfl) <|
      ok_nil
    clear h; intro β a w h
    replace h := St.sm h 3 (ai 44 (plF m n (k + 1))) (c := ai 44 (updN (plF m n k) k (((dg m) k) + ((dg n) k)))) (t := 95) (plF_next m n k)
    replace h := St.cs h (s' := [.inl (.agg (ai 22 (dg m))), .inl (.agg (ai 22 (dg n))), .inr (0, pt 0), .inr (1, pt 0), .inr (2, pt 0), .inr (3, pt 0), .inl (.int .i64 (((k + 1) : Nat) : Int)), .inl (.int .i64 ((k : Nat) : Int)), .inl (.bool true), .inl (.int .i64 ((k : Nat) : Int)), .inl (.int .i64 (((k + 1) : Nat) : Int)), .inl (.int .i64 ((k : Nat) : Int)), .inl (.int .i64 ((k : Nat) : Int)), .inr (0, pt k), .inl (.int .i64 ((((dg m) k) : Nat) : Int)), .inl (.int .i64 ((k : Nat) : Int)), .inr (1, pt k), .inl (.int .i64 ((((dg n) k) : Nat) : Int)), .inl (.int .i64 (((((dg m) k) + ((dg n) k)) : Nat) : Int)), .inr (3, pt k), uu, uu]) (m' := [(ai 22 (dg m), 35), (ai 22 (dg n), 35), (ai 22 (fun _ => 0), 35), (ai 44 (plF m n (k + 1)), 95)]) (by kernel_rfl) (by kernel_rfl)
    exact ⟨hltk, _, _, _, _, _, _, _, _, _, _, _, _, _, _, h⟩
  · obtain rfl : k = 22 := by omega
    refine sym_seq ?_
    refine sym_seq ?_
    refine St.r0 h [(7, .inl (.int .i64 ((22 : Nat) : Int))), (8, .inl (.bool false))] [] ?_ ?_
    · exact oz (k_mv (.inl rfl) rfl) <|
      oz (k_bi (.int .i64 ((22 : Nat) : Int)) (.int .i64 ((22 : Nat) : Int)) (.bool false) (lt_i (m := ((22 : Nat) : Int)) (n := ((22 : Nat) : Int)) (decide_eq_false (by omega))) rfl rfl) <|
      ok_nil
    clear h; intro β a w h
    refine sym_then ?_
    refine s_cf h ?_
    refine wp_exit ?_
    refine then_exit ?_
    refine then_exit ?_
    refine blk_exit ?_
    refine sym_then ?_
    refine sym_seq ?_
    refine St.rg h [(20, .inl (.agg (ai 44 (plF m n 22)))), (21, .inl (.agg (ai 22 (dg ((m + n) % pp)))))] [] [(2, ai 22 (dg ((m + n) % pp)))] [eR 3, nn, eS 2] ?_ ?_
    · exact oc (k_ld 3 0 (.agg (ai 44 (plF m n 22))) (c := ai 44 (plF m n 22)) (ld44 (F := (plF m n 22)) 95) rfl rfl) <|
      oc (k_ca 65 #[.agg (ai 44 (plF m n 22))] (.agg (ai 22 (dg ((m + n) % pp)))) (fun w => least_r (plF_lt m n 22) (plF_pv hm hn) (plF_big hm hn) w) rfl rfl) <|
      oc (k_st 2 0 (.agg (ai 22 (dg ((m + n) % pp)))) (c := ai 22 (fun _ => 0)) (n := ai 22 (dg ((m + n) % pp))) (st22 (F := (dg ((m + n) % pp))) (c := ai 22 (fun _ => 0)) 35 (ai_size _ _)) rfl rfl) <|
      ok_nil
    clear h; intro β a w h
    refine sym_then ?_
    refine wp_ret ?_
    exact s_rc (b := 2) (t0 := 35) (c := ai 22 (dg ((m + n) % pp))) h Try.results39 Try.underlying35 (fun hb => ⟨rfl, hb⟩) (by rw [ai_size]; kernel_rfl)
set_option maxHeartbeats 2000000 in
theorem minus_r {m n : Nat} (hm : m < 4096 ^ 22) (hn : n ≤ pp) (W0 : World) : Calls Try.prog 38 #[.agg (ai 22 (dg m)), .agg (ai 22 (dg n))] W0 fun e w' => e = .returned (.agg (ai 22 (dg ((m + (pp - n)) % pp)))) ∧ Below W0.heap.size W0 w' := by
  have hpn : pp - n < 4096 ^ 22 := Nat.lt_of_le_of_lt (Nat.sub_le _ _) pp_big
  refine s_in Try.func38 Try.ntmps38 rfl [.inl (.agg (ai 22 (dg m))), .inl (.agg (ai 22 (dg n)))] ?_
  intro β a h
  refine sym_seq ?_
  refine St.rg h [(2, .inr (0, pt 0)), (3, .inr (1, pt 0)), (4, .inr (2, pt 0))] [(ai 22 (dg m), 35), (ai 22 (dg n), 35), (ai 22 (fun _ => 0), 35)] [] [eN 0, eN 1, eN 2] ?_ ?_
  · exact oc (k_bx 0 (.agg (ai 22 (dg m))) (bx22 (F := (dg m))) rfl rfl) <|
    oc (k_bx 1 (.agg (ai 22 (dg n))) (bx22 (F := (dg n))) rfl rfl) <|
    oc (k_al 2 al22 rfl rfl) <|
    ok_nil
  clear h; intro β a w h
  refine sym_then ?_
  refine sym_seq ?_
  refine St.rg h [(5, .inl (.agg (ai 22 (dg m)))), (6, .inl (.agg (ai 22 (dg pp)))), (7, .inl (.agg (ai 22 (dg n)))), (8, .inl (.agg (ai 22 (dg (pp - n))))), (9, .inl (.agg (ai 22 (dg ((m + (pp - n)) % pp)))))] [] [(2, ai 22 (dg ((m + (pp - n)) % pp)))] [eR 0, nn, eR 1, nn, nn, eS 2] ?_ ?_
  · exact oc (k_ld 0 0 (.agg (ai 22 (dg m))) (c := ai 22 (dg m)) (ld22 (F := (dg m)) 35) rfl rfl) <|
    oc (k_ca 66 #[] (.agg (ai 22 (dg pp))) prime_r rfl rfl) <|
    oc (k_ld 1 0 (.agg (ai 22 (dg n))) (c := ai 22 (dg n)) (ld22 (F := (dg n)) 35) rfl rfl) <|
    oc (k_ca 69 #[.agg (ai 22 (dg pp)), .agg (ai 22 (dg n))] (.agg (ai 22 (dg (pp - n)))) (fun w => less_r hn w) rfl rfl) <|
    oc (k_ca 39 #[.agg (ai 22 (dg m)), .agg (ai 22 (dg (pp - n)))] (.agg (ai 22 (dg ((m + (pp - n)) % pp)))) (fun w => plus_r hm hpn w) rfl rfl) <|
    oc (k_st 2 0 (.agg (ai 22 (dg ((m + (pp - n)) % pp)))) (c := ai 22 (fun _ => 0)) (n := ai 22 (dg ((m + (pp - n)) % pp))) (st22 (F := (dg ((m + (pp - n)) % pp))) (c := ai 22 (fun _ => 0)) 35 (ai_size _ _)) rfl rfl) <|
    ok_nil
  clear h; intro β a w h
  refine sym_then ?_
  refine wp_ret ?_
  exact s_rc (b := 2) (t0 := 35) (c := ai 22 (dg ((m + (pp - n)) % pp))) h Try.results38 Try.underlying35 (fun hb => ⟨rfl, hb⟩) (by rw [ai_size]; kernel_rfl)
set_option maxHeartbeats 2000000 in
theorem times_r {m n : Nat} (hm : m < 4096 ^ 22) (hn : n < 4096 ^ 22) (W0 : World) : Calls Try.prog 35 #[.agg (ai 22 (dg m)), .agg (ai 22 (dg n))] W0 fun e w' => e = .returned (.agg (ai 22 (dg (m * n % pp)))) ∧ Below W0.heap.size W0 w' := by
  refine s_in Try.func35 Try.ntmps35 rfl [.inl (.agg (ai 22 (dg m))), .inl (.agg (ai 22 (dg n)))] ?_
  intro β a h
  refine sym_seq ?_
  refine St.rg h [(2, .inr (0, pt 0)), (3, .inr (1, pt 0)), (4, .inr (2, pt 0))] [(ai 22 (dg m), 35), (ai 22 (dg n), 35), (ai 22 (fun _ => 0), 35)] [] [eN 0, eN 1, eN 2] ?_ ?_
  · exact oc (k_bx 0 (.agg (ai 22 (dg m))) (bx22 (F := (dg m))) rfl rfl) <|
    oc (k_bx 1 (.agg (ai 22 (dg n))) (bx22 (F := (dg n))) rfl rfl) <|
    oc (k_al 2 al22 rfl rfl) <|
    ok_nil
  clear h; intro β a w h
  refine sym_then ?_
  refine sym_seq ?_
  refine St.rg h [(5, .inr (3, pt 0))] [(ai 44 (fun _ => 0), 95)] [] [eN 3] ?_ ?_
  · exact oc (k_al 3 al44 rfl rfl) <|
    ok_nil
  clear h; intro β a w h
  refine sym_then ?_
  refine sym_seq ?_
  refine sym_seq ?_
  refine St.r0 h [(6, .inl (.int .i64 ((0 : Nat) : Int)))] [] ?_ ?_
  · exact oz (k_mv (.inr rfl) rfl) <|
    ok_nil
  clear h; intro β a w h
  refine sym_then ?_
  refine blk_in ?_
  replace h := St.sm h 3 (ai 44 (tmF m n 0)) (c := ai 44 (fun _ => 0)) (t := 95) rfl
  replace h := St.cs h (s' := [.inl (.agg (ai 22 (dg m))), .inl (.agg (ai 22 (dg n))), .inr (0, pt 0), .inr (1, pt 0), .inr (2, pt 0), .inr (3, pt 0), .inl (.int .i64 ((0 : Nat) : Int)), uu, uu, uu, uu, uu, uu, uu, uu, uu, uu, uu, uu, uu, uu, uu, uu, uu, uu, uu, uu, uu, uu, uu, uu, uu, uu, uu, uu]) (m' := [(ai 22 (dg m), 35), (ai 22 (dg n), 35), (ai 22 (fun _ => 0), 35), (ai 44 (tmF m n 0), 95)]) (by kernel_rfl) (by kernel_rfl)
  refine loop_up 22 (fun i a w => ∃ (x7 x8 x9 x10 x11 x12 x13 x14 x15 x16 x17 x18 x19 x20 x21 x22 x23 x24 x25 x26 x27 x28 x29 x30 x31 x32 : SV) (β : Nat → Nat), St (wd W0) [.inl (.agg (ai 22 (dg m))), .inl (.agg (ai 22 (dg n))), .inr (0, pt 0), .inr (1, pt 0), .inr (2, pt 0), .inr (3, pt 0), .inl (.int .i64 ((i : Nat) : Int)), x7, x8, x9, x10, x11, x12, x13, x14, x15, x16, x17, x18, x19, x20, x21, x22, x23, x24, x25, x26, x27, x28, x29, x30, x31, x32, uu, uu] [(ai 22 (dg m), 35), (ai 22 (dg n), 35), (ai 22 (fun _ => 0), 35), (ai 44 (tmF m n i), 95)] β a w) ⟨_, _, _, _, _, _, _, _, _, _, _, _, _, _, _, _, _, _, _, _, _, _, _, _, _, _, β, h⟩ ?_
  clear h; rintro i a w hki ⟨x7, x8, x9, x10, x11, x12, x13, x14, x15, x16, x17, x18, x19, x20, x21, x22, x23, x24, x25, x26, x27, x28, x29, x30, x31, x32, β, h⟩; replace h := h.o0
  rcases Nat.lt_or_ge i 22 with hlti | hgei
  · refine sym_seq ?_
    refine sym_seq ?_
    refine St.r0 h [(8, .inl (.int .i64 ((i : Nat) : Int))), (9, .inl (.bool true))] [] ?_ ?_
    · exact oz (k_mv (.inl rfl) rfl) <|
      oz (k_bi (.int .i64 ((i : Nat) : Int)) (.int .i64 ((22 : Nat) : Int)) (.bool true) (lt_i (m := ((i : Nat) : Int)) (n := ((22 : Nat) : Int)) (decide_eq_true (by omega))) rfl rfl) <|
      ok_nil
    clear h; intro β a w h
    refine sym_then ?_
    refine s_ct h ?_
    refine wp_skip ?_
    refine sym_then ?_
    refine sym_seq ?_
    refine blk_in ?_
    refine sym_seq ?_
    refine St.r0 h [(7, .inl (.int .i64 ((0 : Nat) : Int)))] [] ?_ ?_
    · exact oz (k_mv (.inr rfl) rfl) <|
      ok_nil
    clear h; intro β a w h
    refine sym_then ?_
    refine blk_in ?_
    replace h := St.sm h 3 (ai 44 (roF (tmF m n i) i (dg m i) n 0)) (c := ai 44 (tmF m n i)) (t := 95) (roF_zero _ _ _ _)
    replace h := St.cs h (s' := [.inl (.agg (ai 22 (dg m))), .inl (.agg (ai 22 (dg n))), .inr (0, pt 0), .inr (1, pt 0), .inr (2, pt 0), .inr (3, pt 0), .inl (.int .i64 ((i : Nat) : Int)), .inl (.int .i64 ((0 : Nat) : Int)), .inl (.int .i64 ((i : Nat) : Int)), .inl (.bool true), x10, x11, x12, x13, x14, x15, x16, x17, x18, x19, x20, x21, x22, x23, x24, x25, x26, x27, x28, x29, x30, x31, x32, uu, uu]) (m' := [(ai 22 (dg m), 35), (ai 22 (dg n), 35), (ai 22 (fun _ => 0), 35), (ai 44 (roF (tmF m n i) i (dg m i) n 0), 95)]) (by kernel_rfl) (by kernel_rfl)
    refine loop_up 22 (fun k a w => ∃ (x12 x13 x14 x15 x16 x17 x18 x19 x20 x21 x22 x23 x24 x25 x26 x27 x28 x29 x30 x31 x32 : SV) (β : Nat → Nat), St (wd W0) [.inl (.agg (ai 22 (dg m))), .inl (.agg (ai 22 (dg n))), .inr (0, pt 0), .inr (1, pt 0), .inr (2, pt 0), .inr (3, pt 0), .inl (.int .i64 ((i : Nat) : Int)), .inl (.int .i64 ((k : Nat) : Int)), .inl (.int .i64 ((i : Nat) : Int)), .inl (.bool true), x10, x11, x12, x13, x14, x15, x16, x17, x18, x19, x20, x21, x22, x23, x24, x25, x26, x27, x28, x29, x30, x31, x32, uu, uu] [(ai 22 (dg m), 35), (ai 22 (dg n), 35), (ai 22 (fun _ => 0), 35), (ai 44 (roF (tmF m n i) i (dg m i) n k), 95)] β a w) ⟨_, _, _, _, _, _, _, _, _, _, _, _, _, _, _, _, _, _, _, _, _, β, h⟩ ?_
    clear h; rintro k a w hkk ⟨x12, x13, x14, x15, x16, x17, x18, x19, x20, x21, x22, x23, x24, x25, x26, x27, x28, x29, x30, x31, x32, β, h⟩; replace h := h.o0
    have g1 := roF_at (tmF m n i) i (dg m i) n k
    have g2 := tmF_fl m n i (i + k) (by omega)
    have g3 := dm_le m n i k
    rcases Nat.lt_or_ge k 22 with hltk | hgek
    · refine sym_seq ?_
      refine sym_seq ?_
      refine St.r0 h [(12, .inl (.int .i64 ((k : Nat) : Int))), (13, .inl (.bool true))] [] ?_ ?_
      · exact oz (k_mv (.inl rfl) rfl) <|
        oz (k_bi (.int .i64 ((k : Nat) : Int)) (.int .i64 ((22 : Nat) : Int)) (.bool true) (lt_i (m := ((k : Nat) : Int)) (n := ((22 : Nat) : Int)) (decide_eq_true (by omega))) rfl rfl) <|
        ok_nil
      clear h; intro β a w h
      refine sym_then ?_
      refine s_ct h ?_
      refine wp_skip ?_
      refine sym_then ?_
      refine sym_seq ?_
      refine blk_in ?_
      refine St.rg h [(16, .inl (.int .i64 ((i : Nat) : Int))), (17, .inl (.int .i64 ((k : Nat) : Int))), (18, .inl (.int .i64 (((i + k) : Nat) : Int))), (19, .inl (.int .i64 ((i : Nat) : Int))), (20, .inl (.int .i64 ((k : Nat) : Int))), (21, .inl (.int .i64 (((i + k) : Nat) : Int))), (22, .inr (3, pt (i + k))), (23, .inl (.int .i64 ((((roF (tmF m n i) i (dg m i) n k) (i + k)) : Nat) : Int))), (24, .inl (.int .i64 ((i : Nat) : Int))), (25, .inr (0, pt i)), (26, .inl (.int .i64 ((((dg m) i) : Nat) : Int))), (27, .inl (.int .i64 ((k : Nat) : Int))), (28, .inr (1, pt k)), (29, .inl (.int .i64 ((((dg n) k) : Nat) : Int))), (30, .inl (.int .i64 (((((dg m) i) * ((dg n) k)) : Nat) : Int))), (31, .inl (.int .i64 (((((roF (tmF m n i) i (dg m i) n k) (i + k)) + (((dg m) i) * ((dg n) k))) : Nat) : Int))), (32, .inr (3, pt (i + k)))] [] [(3, ai 44 (updN (roF (tmF m n i) i (dg m i) n k) (i + k) (((roF (tmF m n i) i (dg m i) n k) (i + k)) + (((dg m) i) * ((dg n) k)))))] [nn, nn, nn, nn, nn, nn, nn, eR 3, nn, nn, eR 0, nn, nn, eR 1, nn, nn, nn, eS 3] ?_ ?_
      · exact oc (k_mv (.inl rfl) rfl) <|
        oc (k_mv (.inl rfl) rfl) <|
        oc (k_bi (.int .i64 ((i : Nat) : Int)) (.int .i64 ((k : Nat) : Int)) (.int .i64 (((i + k) : Nat) : Int)) (ad_i (m := i) (n := k) (by omega)) rfl rfl) <|
        oc (k_mv (.inl rfl) rfl) <|
        oc (k_mv (.inl rfl) rfl) <|
        oc (k_bi (.int .i64 ((i : Nat) : Int)) (.int .i64 ((k : Nat) : Int)) (.int .i64 (((i + k) : Nat) : Int)) (ad_i (m := i) (n := k) (by omega)) rfl rfl) <|
        oc (k_ia 3 0 ((i + k)) (.int .i64 (((i + k) : Nat) : Int)) (ix44 (i := (i + k)) (by omega)) rfl rfl) <|
        oc (k_ld 3 ((i + k)) (.int .i64 ((((roF (tmF m n i) i (dg m i) n k) (i + k)) : Nat) : Int)) (c := ai 44 (roF (tmF m n i) i (dg m i) n k)) (ld_at (n := 44) (F := (roF (tmF m n i) i (dg m i) n k)) (i := (i + k)) (t0 := 95) (by omega)) rfl rfl) <|
        oc (k_mv (.inl rfl) rfl) <|
        oc (k_ia 0 0 i (.int .i64 ((i : Nat) : Int)) (ix22 (i := i) (by omega)) rfl rfl) <|
        oc (k_ld 0 i (.int .i64 ((((dg m) i) : Nat) : Int)) (c := ai 22 (dg m)) (ld_at (n := 22) (F := (dg m)) (i := i) (t0 := 35) (by omega)) rfl rfl) <|
        oc (k_mv (.inl rfl) rfl) <|
        oc (k_ia 1 0 k (.int .i64 ((k : Nat) : Int)) (ix22 (i := k) (by omega)) rfl rfl) <|
        oc (k_ld 1 k (.int .i64 ((((dg n) k) : Nat) : Int)) (c := ai 22 (dg n)) (ld_at (n := 22) (F := (dg n)) (i := k) (t0 := 35) (by omega)) rfl rfl) <|
        oc (k_bi (.int .i64 ((((dg m) i) : Nat) : Int)) (.int .i64 ((((dg n) k) : Nat) : Int)) (.int .i64 (((((dg m) i) * ((dg n) k)) : Nat) : Int)) (mu_i (m := ((dg m) i)) (n := ((dg n) k)) (by omega)) rfl rfl) <|
        oc (k_bi (.int .i64 ((((roF (tmF m n i) i (dg m i) n k) (i + k)) : Nat) : Int)) (.int .i64 (((((dg m) i) * ((dg n) k)) : Nat) : Int)) (.int .i64 (((((roF (tmF m n i) i (dg m i) n k) (i + k)) + (((dg m) i) * ((dg n) k))) : Nat) : Int)) (ad_i (m := ((roF (tmF m n i) i (dg m i) n k) (i + k))) (n := (((dg m) i) * ((dg n) k))) (by omega)) rfl rfl) <|
        oc (k_ia 3 0 ((i + k)) (.int .i64 (((i + k) : Nat) : Int)) (ix44 (i := (i + k)) (by omega)) rfl rfl) <|
        oc (k_st 3 ((i + k)) (.int .i64 (((((roF (tmF m n i) i (dg m i) n k) (i + k)) + (((dg m) i) * ((dg n) k))) : Nat) : Int)) (c := ai 44 (roF (tmF m n i) i (dg m i) n k)) (n := ai 44 (updN (roF (tmF m n i) i (dg m i) n k) (i + k) (((roF (tmF m n i) i (dg m i) n k) (i + k)) + (((dg m) i) * ((dg n) k))))) (st_at (n := 44) (F := (roF (tmF m n i) i (dg m i) n k)) (i := (i + k)) (v := (((roF (tmF m n i) i (dg m i) n k) (i + k)) + (((dg m) i) * ((dg n) k)))) (t0 := 95) (by omega)) rfl rfl) <|
        ok_nil
      clear h; intro β a w h
      refine blk_norm ?_
      refine sym_then ?_
      refine St.r0 h [(14, .inl (.int .i64 ((k : Nat) : Int))), (15, .inl (.int .i64 (((k + 1) : Nat) : Int))), (7, .inl (.int .i64 (((k + 1) : Nat) : Int)))] [eO] ?_ ?_
      · exact oc (k_m0 rfl rfl) <|
        oz (k_bi (.int .i64 ((k : Nat) : Int)) (.int .i64 ((1 : Nat) : Int)) (.int .i64 (((k + 1) : Nat) : Int)) (ad_i (m := k) (n := 1) (by omega)) rfl rfl) <|
        oz (k_mv (.inr rfl) rfl) <|
        ok_nil
      clear h; intro β a w h
      replace h := St.sm h 3 (ai 44 (roF (tmF m n i) i (dg m i) n (k + 1))) (c := ai 44 (updN (roF (tmF m n i) i (dg m i) n k) (i + k) (((roF (tmF m n i) i (dg m i) n k) (i + k)) + (((dg m) i) * ((dg n) k))))) (t := 95) (roF_next _ _ _ _ _)
      replace h := St.cs h (s' := [.inl (.agg (ai 22 (dg m))), .inl (.agg (ai 22 (dg n))), .inr (0, pt 0), .inr (1, pt 0), .inr (2, pt 0), .inr (3, pt 0), .inl (.int .i64 ((i : Nat) : Int)), .inl (.int .i64 (((k + 1) : Nat) : Int)), .inl (.int .i64 ((i : Nat) : Int)), .inl (.bool true), x10, x11, .inl (.int .i64 ((k : Nat) : Int)), .inl (.bool true), .inl (.int .i64 ((k : Nat) : Int)), .inl (.int .i64 (((k + 1) : Nat) : Int)), .inl (.int .i64 ((i : Nat) : Int)), .inl (.int .i64 ((k : Nat) : Int)), .inl (.int .i64 (((i + k) : Nat) : Int)), .inl (.int .i64 ((i : Nat) : Int)), .inl (.int .i64 ((k : Nat) : Int)), .inl (.int .i64 (((i + k) : Nat) : Int)), .inr (3, pt (i + k)), .inl (.int .i64 ((((roF (tmF m n i) i (dg m i) n k) (i + k)) : Nat) : Int)), .inl (.int .i64 ((i : Nat) : Int)), .inr (0, pt i), .inl (.int .i64 ((((dg m) i) : Nat) : Int)), .inl (.int .i64 ((k : Nat) : Int)), .inr (1, pt k), .inl (.int .i64 ((((dg n) k) : Nat) : Int)), .inl (.int .i64 (((((dg m) i) * ((dg n) k)) : Nat) : Int)), .inl (.int .i64 (((((roF (tmF m n i) i (dg m i) n k) (i + k)) + (((dg m) i) * ((dg n) k))) : Nat) : Int)), .inr (3, pt (i + k)), uu, uu]) (m' := [(ai 22 (dg m), 35), (ai 22 (dg n), 35), (ai 22 (fun _ => 0), 35), (ai 44 (roF (tmF m n i) i (dg m i) n (k + 1)), 95)]) (by kernel_rfl) (by kernel_rfl)
      exact ⟨hltk, _, _, _, _, _, _, _, _, _, _, _, _, _, _, _, _, _, _, _, _, _, _, h⟩
    · obtain rfl : k = 22 := by omega
      refine sym_seq ?_
      refine sym_seq ?_
      refine St.r0 h [(12, .inl (.int .i64 ((22 : Nat) : Int))), (13, .inl (.bool false))] [] ?_ ?_
      · exact oz (k_mv (.inl rfl) rfl) <|
        oz (k_bi (.int .i64 ((22 : Nat) : Int)) (.int .i64 ((22 : Nat) : Int)) (.bool false) (lt_i (m := ((22 : Nat) : Int)) (n := ((22 : Nat) : Int)) (decide_eq_false (by omega))) rfl rfl) <|
        ok_nil
      clear h; intro β a w h
      refine sym_then ?_
      refine s_cf h ?_
      refine wp_exit ?_
      refine then_exit ?_
      refine then_exit ?_
      refine blk_exit ?_
      refine blk_norm ?_
      refine sym_then ?_
      refine St.r0 h [(10, .inl (.int .i64 ((i : Nat) : Int))), (11, .inl (.int .i64 (((i + 1) : Nat) : Int))), (6, .inl (.int .i64 (((i + 1) : Nat) : Int)))] [eO] ?_ ?_
      · exact oc (k_m0 rfl rfl) <|
        oz (k_bi (.int .i64 ((i : Nat) : Int)) (.int .i64 ((1 : Nat) : Int)) (.int .i64 (((i + 1) : Nat) : Int)) (ad_i (m := i) (n := 1) (by omega)) rfl rfl) <|
        oz (k_mv (.inr rfl) rfl) <|
        ok_nil
      clear h; intro β a w h
      replace h := St.sm h 3 (ai 44 (tmF m n (i + 1))) (c := ai 44 (roF (tmF m n i) i (dg m i) n 22)) (t := 95) rfl
      replace h := St.cs h (s' := [.inl (.agg (ai 22 (dg m))), .inl (.agg (ai 22 (dg n))), .inr (0, pt 0), .inr (1, pt 0), .inr (2, pt 0), .inr (3, pt 0), .inl (.int .i64 (((i + 1) : Nat) : Int)), .inl (.int .i64 ((22 : Nat) : Int)), .inl (.int .i64 ((i : Nat) : Int)), .inl (.bool true), .inl (.int .i64 ((i : Nat) : Int)), .inl (.int .i64 (((i + 1) : Nat) : Int)), .inl (.int .i64 ((22 : Nat) : Int)), .inl (.bool false), x14, x15, x16, x17, x18, x19, x20, x21, x22, x23, x24, x25, x26, x27, x28, x29, x30, x31, x32, uu, uu]) (m' := [(ai 22 (dg m), 35), (ai 22 (dg n), 35), (ai 22 (fun _ => 0), 35), (ai 44 (tmF m n (i + 1)), 95)]) (by kernel_rfl) (by kernel_rfl)
      exact ⟨hlti, _, _, _, _, _, _, _, _, _, _, _, _, _, _, _, _, _, _, _, _, _, _, _, _, _, _, _, h⟩
  · obtain rfl : i = 22 := by omega
    refine sym_seq ?_
    refine sym_seq ?_
    refine St.r0 h [(8, .inl (.int .i64 ((22 : Nat) : Int))), (9, .inl (.bool false))] [] ?_ ?_
    · exact oz (k_mv (.inl rfl) rfl) <|
      oz (k_bi (.int .i64 ((22 : Nat) : Int)) (.int .i64 ((22 : Nat) : Int)) (.bool false) (lt_i (m := ((22 : Nat) : Int)) (n := ((22 : Nat) : Int)) (decide_eq_false (by omega))) rfl rfl) <|
      ok_nil
    clear h; intro β a w h
    refine sym_then ?_
    refine s_cf h ?_
    refine wp_exit ?_
    refine then_exit ?_
    refine then_exit ?_
    refine blk_exit ?_
    refine sym_then ?_
    refine sym_seq ?_
    refine St.rg h [(33, .inl (.agg (ai 44 (tmF m n 22)))), (34, .inl (.agg (ai 22 (dg (m * n % pp)))))] [] [(2, ai 22 (dg (m * n % pp)))] [eR 3, nn, eS 2] ?_ ?_
    · exact oc (k_ld 3 0 (.agg (ai 44 (tmF m n 22))) (c := ai 44 (tmF m n 22)) (ld44 (F := (tmF m n 22)) 95) rfl rfl) <|
      oc (k_ca 65 #[.agg (ai 44 (tmF m n 22))] (.agg (ai 22 (dg (m * n % pp)))) (fun w => least_r (fun j => tmF_fl m n 22 j (by omega)) (tmF_pv hm hn) (tmF_big hm hn) w) rfl rfl) <|
      oc (k_st 2 0 (.agg (ai 22 (dg (m * n % pp)))) (c := ai 22 (fun _ => 0)) (n := ai 22 (dg (m * n % pp))) (st22 (F := (dg (m * n % pp))) (c := ai 22 (fun _ => 0)) 35 (ai_size _ _)) rfl rfl) <|
      ok_nil
    clear h; intro β a w h
    refine sym_then ?_
    refine wp_ret ?_
    exact s_rc (b := 2) (t0 := 35) (c := ai 22 (dg (m * n % pp))) h Try.results35 Try.underlying35 (fun hb => ⟨rfl, hb⟩) (by rw [ai_size]; kernel_rfl)
end Go.Proofs.Ytpogmflgmpifoaa

namespace Go.Proofs.Ytpogmflgmpifoaa

/-- Bit number i. -/
def bt (B i : Nat) : Nat := B / 2 ^ i % 2
theorem bt_lt (B i : Nat) : bt B i < 2 := Nat.mod_lt _ (by omega)
theorem bt_mod {B s r : Nat} (h : r < s) : bt (B % 2 ^ s) r = bt B r := by
  have h1 := Nat.testBit_mod_two_pow B s r
  rw [Nat.testBit_eq_decide_div_mod_eq, Nat.testBit_eq_decide_div_mod_eq] at h1
  simp only [h, decide_true, Bool.true_and, decide_eq_decide] at h1
  unfold bt
  omega
theorem bt_dig {B s i : Nat} (hs : 0 < s) : bt (B / (2 ^ s) ^ (i / s) % 2 ^ s) (i % s) = bt B i := by
  rw [bt_mod (Nat.mod_lt _ hs)]
  unfold bt
  rw [← Nat.pow_mul, Nat.div_div_eq_div_mul, ← Nat.pow_add, Nat.div_add_mod]
theorem mod_bit (B i : Nat) : B % 2 ^ (i + 1) = B % 2 ^ i + bt B i * 2 ^ i := by
  unfold bt
  rw [Nat.pow_succ, Nat.mod_mul, Nat.mul_comm]
/-- A digit of the first bits, one bit more. -/
theorem bit_step {s : Nat} (hs : 0 < s) (B i j : Nat) : B % 2 ^ (i + 1) / (2 ^ s) ^ j % 2 ^ s = if j = i / s then B % 2 ^ i / (2 ^ s) ^ j % 2 ^ s + bt B i * 2 ^ (i % s) else B % 2 ^ i / (2 ^ s) ^ j % 2 ^ s := by
  have hp : ∀ k, 0 < (2 ^ s) ^ k := fun k => Nat.pow_pos (Nat.pow_pos (by omega))
  have hr : i % s < s := Nat.mod_lt _ hs
  have hi : 2 ^ i = 2 ^ (i % s) * (2 ^ s) ^ (i / s) := by rw [← Nat.pow_mul, ← Nat.pow_add, Nat.mod_add_div]
  have hx : B % 2 ^ i < 2 ^ i := Nat.mod_lt _ (Nat.pow_pos (by omega))
  have hb := bt_lt B i
  rw [mod_bit, hi, ← Nat.mul_assoc]
  rw [hi] at hx
  generalize B % (2 ^ (i % s) * (2 ^ s) ^ (i / s)) = x at *
  generalize bt B i = c at *
  have hpr : 2 ^ (i % s) * 2 ≤ 2 ^ s := by rw [← Nat.pow_succ]; exact Nat.pow_le_pow_right (by omega) hr
  generalize i / s = q at *
  generalize i % s = r at *
  by_cases e : j = q
  · subst e
    rw [if_pos rfl, Nat.add_mul_div_right _ _ (hp j)]
    have h1 : x / (2 ^ s) ^ j < 2 ^ r := Nat.div_lt_of_lt_mul (by rw [Nat.mul_comm]; exact hx)
    have h2 : c * 2 ^ r ≤ 1 * 2 ^ r := Nat.mul_le_mul_right _ (by omega)
    rw [Nat.mod_eq_of_lt (by omega), Nat.mod_eq_of_lt (by omega)]
  · rw [if_neg e]
    rcases Nat.lt_or_ge j q with h | h
    · obtain ⟨d, rfl⟩ : ∃ d, q = d + 1 + j := ⟨q - (j + 1), by omega⟩
      have h1 : c * 2 ^ r * (2 ^ s) ^ (d + 1 + j) = c * 2 ^ r * (2 ^ s) ^ d * 2 ^ s * (2 ^ s) ^ j := by
        rw [Nat.pow_add, Nat.pow_succ]; simp only [Nat.mul_assoc]
      rw [h1, Nat.add_mul_div_right _ _ (hp j), Nat.add_mul_mod_self_right]
    · have hle : (2 ^ s) ^ (q + 1) ≤ (2 ^ s) ^ j := Nat.pow_le_pow_right (Nat.pow_pos (by omega)) (by omega)
      have h2 : c * 2 ^ r * (2 ^ s) ^ q ≤ 2 ^ r * (2 ^ s) ^ q := Nat.mul_le_mul_right _ (by have : c * 2 ^ r ≤ 1 * 2 ^ r := Nat.mul_le_mul_right _ (by omega); omega)
      have h3 : 2 ^ r * 2 * (2 ^ s) ^ q ≤ 2 ^ s * (2 ^ s) ^ q := Nat.mul_le_mul_right _ hpr
      have h4 : 2 ^ r * 2 * (2 ^ s) ^ q = 2 ^ r * (2 ^ s) ^ q + 2 ^ r * (2 ^ s) ^ q := by
        rw [Nat.mul_assoc, Nat.mul_comm 2, ← Nat.mul_assoc, Nat.mul_two]
      have h5 : (2 ^ s) ^ (q + 1) = 2 ^ s * (2 ^ s) ^ q := by rw [Nat.pow_succ, Nat.mul_comm]
      rw [Nat.div_eq_of_lt (by omega), Nat.div_eq_of_lt (by omega)]

/-- The figures of the first i bits. -/
def ofF (B i j : Nat) : Nat := dg (B % 2 ^ i) j
/-- A bit, so many times doubled. -/
def btk (B i k : Nat) : Nat := bt B i * 2 ^ k
theorem btk_le (B i : Nat) {k : Nat} (hk : k ≤ 11) : btk B i k ≤ 2048 := by
  have h1 := bt_lt B i
  have h2 : bt B i * 2 ^ k ≤ 1 * 2 ^ 11 := Nat.mul_le_mul (by omega) (Nat.pow_le_pow_right (by omega) hk)
  unfold btk; omega
theorem btk_next (B i k : Nat) : 2 * btk B i k = btk B i (k + 1) := by unfold btk; rw [Nat.pow_succ, Nat.mul_comm 2, Nat.mul_assoc]
theorem ofF_zero (B : Nat) : ai 44 (fun _ => 0) = ai 44 (ofF B 0) := ai_congr fun i _ => by simp [ofF, Nat.mod_one, dg]
theorem ofF_next (B i : Nat) : ai 44 (updN (ofF B i) (i / 12) (ofF B i (i / 12) + btk B i (i % 12))) = ai 44 (ofF B (i + 1)) := ai_congr fun j _ => by
  have h := bit_step (s := 12) (by omega) B i j
  rw [show (2 : Nat) ^ 12 = 4096 from rfl] at h
  unfold updN ofF btk dg
  rw [h]
  by_cases e : j = i / 12
  · rw [if_pos e, if_pos e, e]
  · rw [if_neg e, if_neg e]
theorem ofF_lt (B i j : Nat) : ofF B i j < 1099511627776 := by have := dg_lt (B % 2 ^ i) j; unfold ofF; omega
theorem ofF_small (B i j : Nat) : ofF B i j < 4096 := dg_lt _ _
theorem ofF_pv (B : Nat) : pv (ofF B 255) 44 = B % 2 ^ 255 := by
  have h : pv (ofF B 255) 44 = pv (dg (B % 2 ^ 255)) 44 := rfl
  rw [h, pv_dg]
  refine Nat.mod_eq_of_lt (Nat.lt_trans (Nat.mod_lt _ (Nat.pow_pos (by omega))) ?_)
  decide +kernel
theorem nb_low {b : Nat → Nat} (hb : ∀ i, b i < 256) : ∀ k j, j < k → nb b k / 256 ^ j % 256 = b j := by
  intro k
  induction k with
  | zero => intro j h; omega
  | succ k ih =>
    intro j h
    rw [nb]
    by_cases e : j = k
    · subst e
      rw [Nat.add_mul_div_right _ _ (Nat.pow_pos (by omega)), Nat.div_eq_of_lt (nb_lt hb j), Nat.zero_add, Nat.mod_eq_of_lt (hb j)]
    · obtain ⟨d, rfl⟩ : ∃ d, k = d + 1 + j := ⟨k - (j + 1), by omega⟩
      have h1 : b (d + 1 + j) * 256 ^ (d + 1 + j) = b (d + 1 + j) * 256 ^ d * 256 * 256 ^ j := by
        rw [Nat.pow_add, Nat.pow_succ]; simp only [Nat.mul_assoc]
      rw [h1, Nat.add_mul_div_right _ _ (Nat.pow_pos (by omega)), Nat.add_mul_mod_self_right]
      exact ih j (by omega)
theorem bt_byte {b : Nat → Nat} (hb : ∀ i, b i < 256) {i : Nat} (hi : i < 256) : b (i / 8) / 2 ^ (i % 8) % 2 = btk (nb b 32) i 0 := by
  have h := bt_dig (B := nb b 32) (s := 8) (i := i) (by omega)
  rw [show (2 : Nat) ^ 8 = 256 from rfl, nb_low hb 32 (i / 8) (by omega)] at h
  unfold btk
  rw [Nat.pow_zero, Nat.mul_one, ← h]; rfl
theorem bt_fig (n i : Nat) : dg n (i / 12) / 2 ^ (i % 12) % 2 = bt n i := by
  have h := bt_dig (B := n) (s := 12) (i := i) (by omega)
  rw [show (2 : Nat) ^ 12 = 4096 from rfl] at h
  rw [← h]; rfl
theorem ofb_eq (b : Nat → Nat) : nb b 32 % 2 ^ 255 % pp = ofb b := rfl

/-- The bytes of the first i bits. -/
def keF (n i j : Nat) : Nat := n % 2 ^ i / 256 ^ j % 256
theorem keF_lt (n i j : Nat) : keF n i j < 256 := Nat.mod_lt _ (by omega)
theorem keF_zero (n : Nat) : ck (fun _ => 0) = ck (keF n 0) := ck_congr fun i _ => by simp [keF, Nat.mod_one]
theorem keF_one {n i : Nat} (h : bt n i = 1) : ck (updN (keF n i) (i / 8) (keF n i (i / 8) + 2 ^ (i % 8))) = ck (keF n (i + 1)) := ck_congr fun j _ => by
  have h0 := bit_step (s := 8) (by omega) n i j
  rw [show (2 : Nat) ^ 8 = 256 from rfl, h, Nat.one_mul] at h0
  unfold updN keF
  rw [h0]
  by_cases e : j = i / 8
  · rw [if_pos e, if_pos e, e]
  · rw [if_neg e, if_neg e]
theorem keF_none {n i : Nat} (h : bt n i = 0) : ck (keF n i) = ck (keF n (i + 1)) := ck_congr fun j _ => by
  have h0 := bit_step (s := 8) (by omega) n i j
  rw [show (2 : Nat) ^ 8 = 256 from rfl, h, Nat.zero_mul, Nat.add_zero] at h0
  unfold keF
  rw [h0]; split <;> rfl
theorem keF_room {n i : Nat} (h : bt n i = 1) : keF n i (i / 8) + 2 ^ (i % 8) < 256 := by
  have h0 := bit_step (s := 8) (by omega) n i (i / 8)
  rw [if_pos rfl, show (2 : Nat) ^ 8 = 256 from rfl, h, Nat.one_mul] at h0
  unfold keF
  rw [← h0]; exact Nat.mod_lt _ (by omega)
/-- An element's text. -/
def kb (n j : Nat) : Nat := n / 256 ^ j % 256
theorem keF_end {n : Nat} (h : n < 2 ^ 256) : ck (keF n 256) = ck (kb n) := ck_congr fun j _ => by
  unfold keF kb; rw [Nat.mod_eq_of_lt h]
theorem byt_kb (n : Nat) : ∀ j, j < 32 → byt (dig n) j = kb n j := by
  intro j hj
  have hq : j / 8 = 0 ∨ j / 8 = 1 ∨ j / 8 = 2 ∨ j / 8 = 3 := by omega
  have hp : (256 : Nat) ^ j = 256 ^ (8 * (j / 8)) * 256 ^ (j % 8) := by rw [← Nat.pow_add, Nat.div_add_mod]
  unfold byt kb
  rw [hp, ← Nat.div_div_eq_div_mul]
  have hr : j % 8 < 8 := Nat.mod_lt _ (by omega)
  -- a word, and what stands above it
  have key : ∀ y, y % 18446744073709551616 / 256 ^ (j % 8) % 256 = y / 256 ^ (j % 8) % 256 := by
    intro y
    have e1 : y = y % 18446744073709551616 + 18446744073709551616 * (y / 18446744073709551616) := (Nat.mod_add_div _ _).symm
    have e2 : (18446744073709551616 : Nat) = 256 ^ (j % 8) * (256 ^ (7 - j % 8) * 256) := by
      rw [← Nat.pow_succ, ← Nat.pow_add, show j % 8 + (7 - j % 8).succ = 8 by omega]
    conv => rhs; rw [e1]
    conv => rhs; rw [show 18446744073709551616 * (y / 18446744073709551616) = 256 ^ (j % 8) * ((256 ^ (7 - j % 8) * (y / 18446744073709551616)) * 256) by
      conv => lhs; arg 1; rw [e2]
      simp only [Nat.mul_assoc, Nat.mul_comm 256 _]]
    rw [Nat.add_mul_div_left _ _ (Nat.pow_pos (by omega)), Nat.add_mul_mod_self_right]
  rcases hq with h | h | h | h <;> rw [h]
  · show n % 18446744073709551616 / _ % 256 = _
    rw [key]; simp
  · show n / 18446744073709551616 % 18446744073709551616 / _ % 256 = _
    rw [key]
  · show n / 340282366920938463463374607431768211456 % 18446744073709551616 / _ % 256 = _
    rw [key]
  · show n / 6277101735386680763835789423207666416102355444464034512896 % 18446744073709551616 / _ % 256 = _
    rw [key]
end Go.Proofs.Ytpogmflgmpifoaa

namespace Go.Proofs.Ytpogmflgmpifoaa
open Go.RowKit

section
variable {P : Program} {W : Wd} {ops : Array Oper} {s0 s1 : List SV} {z : List Blk} {y : List (Array Value)} {o : Oper}
theorem ok_un {p : UnOp} {t : TypeId} {x : Operand} {d : Tmp} {v x1 : Value} (hr : ∀ w, (Op.unary p x1).run P w = .ok v w) (ho : o.op = .unOp p t x) (hw : wantF ops s1 o = true) (hd : o.dst = some d) (hpx : plainB s1 x = true) (hx1 : evS s1 x = x1) (hs : slot s1 d = .inl v) : Ok1 P W ops s0 s1 z y o ⟨none, none, none, false⟩ := by
  refine ok_val hw hd hs (fun β a w ha => ?_)
  have h1 : a.eval x = x1 := by rw [← hx1]; exact ev_plain ha (by rw [ho]; simp [Op.operands]) hpx
  simp only [execOp, ho, h1, Sem.run_bind, hr w, Result.andThen_ok, Sem.run_pure]
end
theorem ng_z {z : Int} {k : Nat} (h : -z = (k : Int)) (hk : k < 9223372036854775808) (w : World) : (Op.unary .neg (.int .i64 z)).run Try.prog w = .ok (.int .i64 (k : Int)) w := by
  have h1 : IntKind.i64.wrap (-z) = (k : Int) := by rw [h]; exact wrapI _ (by omega) (by omega)
  simp [go_sem, h1]
theorem ad_z {x u : Operand} {m n : Int} (h1 : -9223372036854775808 ≤ m + n) (h2 : m + n < 9223372036854775808) (w : World) : (do eqGuard .add 3 x u (.int .i64 m) (.int .i64 n); binOp .add 3 (.int .i64 m) (.int .i64 n)).run Try.prog w = .ok (.int .i64 (m + n)) w := by
  have h3 := wrapI (m + n) h1 h2
  simp [eqGuard, binOp, go_sem, h3]
theorem bd22 (w : World) : (Instr.build 35 #[]).run Try.prog w = .ok (.agg (ai 22 (dg 0))) w := by
  have h : ai 22 (dg 0) = ⟨List.replicate 22 (.int .i64 0)⟩ := by
    rw [← ai_zero]; exact ai_congr fun i _ => by simp [dg]
  have h2 : (Instr.build 35 #[]).run Try.prog w = .ok (.agg ⟨List.replicate 22 (.int .i64 0)⟩) w := by kernel_rfl
  rw [h, h2]
theorem dg_inj {m n : Nat} (hm : m < 4096 ^ 22) (hn : n < 4096 ^ 22) (h : ∀ i, i < 22 → dg m i = dg n i) : m = n := by
  have := pv_congr (F := dg m) (G := dg n) 22 h
  rwa [pv_dg, pv_dg, Nat.mod_eq_of_lt hm, Nat.mod_eq_of_lt hn] at this
set_option maxRecDepth 100000 in
theorem eq22_run (m n : Nat) (w : World) : ∃ b : Bool, (b = true ↔ ∀ i, i < 22 → dg m i = dg n i) ∧ (Op.equalIn 10000 35 (.agg (ai 22 (dg m))) (.agg (ai 22 (dg n)))).run Try.prog w = .ok b w := by
  refine ⟨_, ?_, eq_ints (P := Try.prog) (t := 35) (e := 3) (n := 22) (k := .i64) (k' := .i64) Try.underlying35 (inf := _) rfl (by kernel_rfl) Try.underlying3 (fun _ => by kernel_rfl) (ai 22 (dg m)) (ai 22 (dg n)) (fun i => (dg m i : Int)) (fun i => (dg n i : Int)) (fun i hi => arr_get _ _ _ hi) (fun i hi => arr_get _ _ _ hi) w⟩
  rw [decide_eq_true_eq]
  constructor <;> intro hh i hi <;> have := hh i hi <;> omega
section
variable {x u : Operand}
theorem eq22_t (m : Nat) (w : World) : (do eqGuard .eql 35 x u (.agg (ai 22 (dg m))) (.agg (ai 22 (dg m))); binOp .eql 35 (.agg (ai 22 (dg m))) (.agg (ai 22 (dg m)))).run Try.prog w = .ok (.bool true) w := by
  obtain ⟨b, hb, h1⟩ := eq22_run m m w
  obtain rfl : b = true := hb.2 (fun _ _ => rfl)
  simp [eqGuard, binOp, go_sem, Op.equal, Op.maxDepth, h1]
theorem eq22_f {m n : Nat} (hm : m < 4096 ^ 22) (hn : n < 4096 ^ 22) (h : m ≠ n) (w : World) : (do eqGuard .eql 35 x u (.agg (ai 22 (dg m))) (.agg (ai 22 (dg n))); binOp .eql 35 (.agg (ai 22 (dg m))) (.agg (ai 22 (dg n)))).run Try.prog w = .ok (.bool false) w := by
  obtain ⟨b, hb, h1⟩ := eq22_run m n w
  obtain rfl : b = false := by
    cases b with
    | false => rfl
    | true => exact absurd (dg_inj hm hn (hb.1 rfl)) h
  simp [eqGuard, binOp, go_sem, Op.equal, Op.maxDepth, h1]
theorem ne22_f (m : Nat) (w : World) : (do eqGuard .neq 35 x u (.agg (ai 22 (dg m))) (.agg (ai 22 (dg m))); binOp .neq 35 (.agg (ai 22 (dg m))) (.agg (ai 22 (dg m)))).run Try.prog w = .ok (.bool false) w := by
  obtain ⟨b, hb, h1⟩ := eq22_run m m w
  obtain rfl : b = true := hb.2 (fun _ _ => rfl)
  simp [eqGuard, binOp, go_sem, Op.equal, Op.maxDepth, h1]
theorem ne22_t {m n : Nat} (hm : m < 4096 ^ 22) (hn : n < 4096 ^ 22) (h : m ≠ n) (w : World) : (do eqGuard .neq 35 x u (.agg (ai 22 (dg m))) (.agg (ai 22 (dg n))); binOp .neq 35 (.agg (ai 22 (dg m))) (.agg (ai 22 (dg n)))).run Try.prog w = .ok (.bool true) w := by
  obtain ⟨b, hb, h1⟩ := eq22_run m n w
  obtain rfl : b = false := by
    cases b with
    | false => rfl
    | true => exact absurd (dg_inj hm hn (hb.1 rfl)) h
  simp [eqGuard, binOp, go_sem, Op.equal, Op.maxDepth, h1]
end
theorem lt_big {m : Nat} (h : m < pp) : m < 4096 ^ 22 := Nat.lt_trans h pp_big

/-- A whole number's figures, k of them told. -/
def inF (N k j : Nat) : Nat := if j < k then dg N j else 0
def nq (N k : Nat) : Nat := N / 4096 ^ k
theorem nq_zero (N : Nat) : N = nq N 0 := by simp [nq]
theorem nq_next (N k : Nat) : nq N k / 4096 = nq N (k + 1) := by unfold nq; rw [Nat.div_div_eq_div_mul, ← Nat.pow_succ]
theorem nq_le (N k : Nat) : nq N k ≤ N := Nat.div_le_self _ _
theorem inF_zero (N : Nat) : ai 44 (fun _ => 0) = ai 44 (inF N 0) := ai_congr fun i _ => by simp [inF]
theorem inF_next (N k : Nat) : ai 44 (updN (inF N k) k (nq N k % 4096)) = ai 44 (inF N (k + 1)) := ai_congr fun i _ => by
  unfold updN inF nq
  by_cases e : i = k
  · subst e; simp [dg]
  · have : (i < k + 1) = (i < k) := by simp; omega
    simp [e, this]
theorem inF_lt (N k i : Nat) : inF N k i < 1099511627776 := by
  unfold inF
  have := dg_lt N i
  split <;> omega
theorem inF_pv {N : Nat} (h : N < 9223372036854775808) : pv (inF N 6) 44 = N := by
  have h1 : pv (inF N 6) 44 = pv (inF N 6) 6 := pv_zero (a := 6) 38 (fun j h1 _ => by unfold inF; rw [if_neg (by omega)])
  have h2 : pv (inF N 6) 6 = pv (dg N) 6 := pv_congr 6 fun i hi => by unfold inF; rw [if_pos hi]
  rw [h1, h2, pv_dg, Nat.mod_eq_of_lt (Nat.lt_trans h (by decide))]
end Go.Proofs.Ytpogmflgmpifoaa

namespace Go.Proofs.Ytpogmflgmpifoaa
open Go.RowKit

/-- The cells of several numbers, one behind the other. -/
def cis (l : List Nat) : Array Value := (l.flatMap fun n => (ai 22 (dg n)).toList).toArray
theorem ail (n : Nat) : (ai 22 (dg n)).toList.length = 22 := by simp [ai_size]
theorem cis_size (l : List Nat) : (cis l).size = 22 * l.length := by
  unfold cis
  simp only [List.size_toArray]
  induction l with
  | nil => rfl
  | cons n l ih => rw [List.flatMap_cons, List.length_append, ih, ail, List.length_cons]; omega
theorem cis_get : ∀ (l : List Nat) (k n j : Nat), l[k]? = some n → j < 22 → (cis l)[22 * k + j]? = some (.int .i64 ((dg n j : Nat) : Int)) := by
  intro l
  induction l with
  | nil => intro k n j h; simp at h
  | cons m l ih =>
    intro k n j h hj
    unfold cis at *
    simp only [List.getElem?_toArray, List.flatMap_cons]
    cases k with
    | zero =>
      simp at h; subst h
      rw [List.getElem?_append_left (by rw [ail]; omega)]
      have : (ai 22 (dg m))[j]? = some (.int .i64 ((dg m j : Nat) : Int)) := arr_get _ _ _ hj
      simpa using this
    | succ k =>
      rw [List.getElem?_append_right (by rw [ail]; omega)]
      have := ih k n j (by simpa using h) hj
      simp only [List.getElem?_toArray] at this
      rw [← this, ail]
      congr 1
      omega
theorem cis_one (l : List Nat) : (cis l).all (·.oneCell') = true := by
  rw [Array.all_eq_true_iff_forall_mem]
  intro v hv
  unfold cis at hv
  simp only [List.mem_toArray, List.mem_flatMap] at hv
  obtain ⟨n, _, h⟩ := hv
  exact Array.all_eq_true_iff_forall_mem.1 (ai_one 22 (dg n)) v (by simpa using h)
theorem load_part {P : Program} (u : World) (b off n : Nat) (f : Nat → Value) (h : ∀ j, j < n → u.cell? ⟨b, off + j, none⟩ = some (f j)) :
    (loadCells ⟨b, off, none⟩ n).run P u = .ok (arr n f) u := by
  have := run_loadCells_list (P := P) u ⟨b, off, none⟩ (arr n f).toList (fun j v hv => by
    have e : (⟨b, off, none⟩ : Addr).add j = ⟨b, off + j, none⟩ := by unfold Addr.add; split <;> simp_all
    rw [e]
    have hj : j < n := by
      have := (List.getElem?_eq_some_iff.1 hv).1
      simpa [arr] using this
    rw [h j hj]
    have : (arr n f)[j]? = some v := by simpa using hv
    rw [arr_get _ _ _ hj] at this
    exact this)
  simpa [arr] using this
theorem ld_cis {l : List Nat} {k n : Nat} (t0 : TypeId) (hk : l[k]? = some n) (w : World) (q : Nat) (h : w.heap[q]? = some (.cells (cis l) t0 (0, 0))) : (Instr.loadAt 35 (.pointer (some ⟨q, 22 * k, none⟩))).run Try.prog w = .ok (.agg (ai 22 (dg n))) w := by
  have h1 := load_part (P := Try.prog) w q (22 * k) 22 (fun j => .int .i64 ((dg n j : Nat) : Int)) (fun j hj => by
    rw [cell_of_row _ _ _ _ _ _ h, cis_get l k n j hk hj])
  have h0 : (isAgg 35).run Try.prog w = .ok true w := by kernel_rfl
  have h2 : (sizeOf 35).run Try.prog w = .ok 22 w := by kernel_rfl
  simp only [Instr.loadAt, Instr.sureAddr, loadVar, Sem.run_bind, Sem.run_pure, Result.andThen_ok, h0, if_true, h2, h1]
  rfl
theorem st_cis {c : Array Value} {v off : Nat} {n : Array Value} (t0 : TypeId) (hc : off + 22 ≤ c.size) (hn : (c.toList.take off ++ (ai 22 (dg v)).toList ++ c.toList.drop (off + 22)).toArray = n) (w : World) (q : Nat) (h : w.heap[q]? = some (.cells c t0 (0, 0))) : (Instr.storeAt 35 (.pointer (some ⟨q, off, none⟩)) (.agg (ai 22 (dg v)))).run Try.prog w = .ok () (w.setRow q n) := by
  have h1 := run_storeCells_at (P := Try.prog) q off t0 (ai 22 (dg v)).toList 0 c w h (by rw [ail]; omega) (fun x hx => Array.all_eq_true_iff_forall_mem.1 (ai_one 22 (dg v)) x (by simpa using hx))
  rw [ail, Nat.add_zero, hn] at h1
  have h2 : (sizeOf 35).run Try.prog w = .ok 22 w := by kernel_rfl
  have h3 : (Value.agg (ai 22 (dg v))).cells = ai 22 (dg v) := rfl
  simp only [Instr.storeAt, Instr.sureAddr, storeVar, Sem.run_bind, Sem.run_pure, Result.andThen_ok, h2, h3, ai_size, ne_eq, not_true_eq_false, if_false, h1]
theorem cis_set0 (a b c d v : Nat) : ((cis [a, b, c, d]).toList.take 0 ++ (ai 22 (dg v)).toList ++ (cis [a, b, c, d]).toList.drop (0 + 22)).toArray = cis [v, b, c, d] := by
  have := ail a
  simp only [cis, List.flatMap_cons, List.take_zero, List.nil_append, Nat.zero_add]
  rw [List.drop_append_of_le_length (by omega), List.drop_of_length_le (by omega), List.nil_append]
theorem cis_set3 (a b c d v : Nat) : ((cis [a, b, c, d]).toList.take 66 ++ (ai 22 (dg v)).toList ++ (cis [a, b, c, d]).toList.drop (66 + 22)).toArray = cis [a, b, c, v] := by
  have e : (cis [a, b, c, d]).toList = ((ai 22 (dg a)).toList ++ ((ai 22 (dg b)).toList ++ (ai 22 (dg c)).toList)) ++ (ai 22 (dg d)).toList := by simp [cis]
  rw [e, List.take_append_of_le_length (by simp [ai_size]), List.take_of_length_le (by simp [ai_size]), List.drop_of_length_le (by simp [ai_size])]
  simp [cis]
theorem ldR {a b c d : Nat} (t0 : TypeId) (w : World) (q : Nat) (h : w.heap[q]? = some (.cells (cis [a, b, c, d]) t0 (0, 0))) : (Instr.loadAt 37 (.pointer (some ⟨q, 0, none⟩))).run Try.prog w = .ok (.agg (cis [a, b, c, d])) w :=
  ld_row (c := cis [a, b, c, d]) Try.underlying37 rfl (by rw [cis_size]; kernel_rfl) w q h
theorem stR {a b c d : Nat} {e : Array Value} (t0 : TypeId) (hc : e.size = 88) (w : World) (q : Nat) (h : w.heap[q]? = some (.cells e t0 (0, 0))) : (Instr.storeAt 37 (.pointer (some ⟨q, 0, none⟩)) (.agg (cis [a, b, c, d]))).run Try.prog w = .ok () (w.setRow q (cis [a, b, c, d])) :=
  st_row (n := cis [a, b, c, d]) (by rw [cis_size]; kernel_rfl) (by rw [hc, cis_size]; rfl) (cis_one _) w q h
theorem bxR {a b c d : Nat} (w : World) : (Instr.box 37 (.agg (cis [a, b, c, d]))).run Try.prog w = .ok (.pointer (some ⟨w.heap.size, 0, none⟩)) (w.alloc (.cells (cis [a, b, c, d]) 37)) := bx_agg w
theorem cis_zero : cis [0, 0, 0, 0] = ⟨List.replicate 88 (.int .i64 0)⟩ := by
  have h : (ai 22 (dg 0)).toList = List.replicate 22 (.int .i64 0) := by
    have : ai 22 (dg 0) = ⟨List.replicate 22 (.int .i64 0)⟩ := by rw [← ai_zero]; exact ai_congr fun i _ => by simp [dg]
    rw [this]
  simp only [cis, List.flatMap_cons, List.flatMap_nil, h]
  simp
theorem alR (w : World) : (Instr.alloc 37 true (.tuple #[])).run Try.prog w = .ok (.pointer (some ⟨w.heap.size, 0, none⟩)) (w.alloc (.cells (cis [0, 0, 0, 0]) 37)) := by
  rw [cis_zero]
  simp [Instr.alloc, go_sem]
  rfl
theorem bdR {a b c d : Nat} (w : World) : (Instr.build 37 #[(0, .agg (ai 22 (dg a))), (1, .agg (ai 22 (dg b))), (2, .agg (ai 22 (dg c))), (3, .agg (ai 22 (dg d)))]).run Try.prog w = .ok (.agg (cis [a, b, c, d])) w := by kernel_rfl
theorem bdR2 {b c : Nat} (w : World) : (Instr.build 37 #[(1, .agg (ai 22 (dg b))), (2, .agg (ai 22 (dg c)))]).run Try.prog w = .ok (.agg (cis [0, b, c, 0])) w := by kernel_rfl
theorem ix_r {n : Nat} (w : World) : (Instr.index 35 (.agg (ai 22 (dg n))) (.int .i64 ((0 : Nat) : Int))).run Try.prog w = .ok (.int .i64 ((dg n 0 : Nat) : Int)) w := by
  have : (ai 22 (dg n))[0]? = some (.int .i64 ((dg n 0 : Nat) : Int)) := arr_get _ _ _ (by omega)
  simp [Instr.index, go_sem, this]
end Go.Proofs.Ytpogmflgmpifoaa

namespace Go.Proofs.Ytpogmflgmpifoaa
open Go.RowKit
theorem of_least (b : Nat → Nat) (w : World) : Calls Try.prog 65 #[.agg (ai 44 (ofF (nb b 32) 255))] w fun e w' => e = .returned (.agg (ai 22 (dg (ofb b)))) ∧ Below w.heap.size w w' := by
  have := least_r (ofF_lt (nb b 32) 255) (ofF_pv (nb b 32)) (Nat.lt_trans (Nat.mod_lt _ (Nat.pow_pos (by omega))) (by decide +kernel)) w
  rwa [ofb_eq] at this
theorem pp_256 {m : Nat} (h : m < pp) : m < 2 ^ 256 := Nat.lt_trans h (by decide +kernel)
set_option maxHeartbeats 4000000 in
theorem of_r {b : Nat → Nat} (hb : ∀ i, b i < 256) (W0 : World) : Calls Try.prog 31 #[.agg (ck b)] W0 fun e w' => e = .returned (.agg (ai 22 (dg (ofb b)))) ∧ Below W0.heap.size W0 w' := by
  refine s_in Try.func31 Try.ntmps31 rfl [.inl (.agg (ck b))] ?_
  intro β a h
  refine sym_seq ?_
  refine St.rg h [(1, .inr (0, pt 0)), (2, .inr (1, pt 0))] [(ck b, 23), (ai 22 (fun _ => 0), 35)] [] [eN 0, eN 1] ?_ ?_
  · exact oc (k_bx 0 (.agg (ck b)) (bxK (b := b)) rfl rfl) <|
    oc (k_al 1 al22 rfl rfl) <|
    ok_nil
  clear h; intro β a w h
  refine sym_then ?_
  refine sym_seq ?_
  refine St.rg h [(3, .inr (2, pt 0))] [(ai 44 (fun _ => 0), 95)] [] [eN 2] ?_ ?_
  · exact oc (k_al 2 al44 rfl rfl) <|
    ok_nil
  clear h; intro β a w h
  refine sym_then ?_
  refine sym_seq ?_
  refine sym_seq ?_
  refine St.r0 h [(4, .inl (.int .i64 ((0 : Nat) : Int)))] [] ?_ ?_
  · exact oz (k_mv (.inr rfl) rfl) <|
    ok_nil
  clear h; intro β a w h
  refine sym_then ?_
  refine blk_in ?_
  replace h := St.sm h 2 (ai 44 (ofF (nb b 32) 0)) (c := ai 44 (fun _ => 0)) (t := 95) (ofF_zero _)
  replace h := St.cs h (s' := [.inl (.agg (ck b)), .inr (0, pt 0), .inr (1, pt 0), .inr (2, pt 0), .inl (.int .i64 ((0 : Nat) : Int)), uu, uu, uu, uu, uu, uu, uu, uu, uu, uu, uu, uu, uu, uu, uu, uu, uu, uu, uu, uu, uu, uu, uu, uu, uu, uu, uu, uu, uu, uu, uu, uu, uu, uu, uu]) (m' := [(ck b, 23), (ai 22 (fun _ => 0), 35), (ai 44 (ofF (nb b 32) 0), 95)]) (by kernel_rfl) (by kernel_rfl)
  refine loop_up 255 (fun i a w => ∃ (x5 x6 x7 x8 x9 x10 x11 x12 x13 x14 x15 x16 x17 x18 x19 x20 x21 x22 x23 x24 x25 x26 x27 x28 x29 x30 x31 x32 x33 x34 x35 x36 x37 : SV) (β : Nat → Nat), St (wd W0) [.inl (.agg (ck b)), .inr (0, pt 0), .inr (1, pt 0), .inr (2, pt 0), .inl (.int .i64 ((i : Nat) : Int)), x5, x6, x7, x8, x9, x10, x11, x12, x13, x14, x15, x16, x17, x18, x19, x20, x21, x22, x23, x24, x25, x26, x27, x28, x29, x30, x31, x32, x33, x34, x35, x36, x37, uu, uu] [(ck b, 23), (ai 22 (fun _ => 0), 35), (ai 44 (ofF (nb b 32) i), 95)] β a w) ⟨_, _, _, _, _, _, _, _, _, _, _, _, _, _, _, _, _, _, _, _, _, _, _, _, _, _, _, _, _, _, _, _, _, β, h⟩ ?_
  clear h; rintro i a w hki ⟨x5, x6, x7, x8, x9, x10, x11, x12, x13, x14, x15, x16, x17, x18, x19, x20, x21, x22, x23, x24, x25, x26, x27, x28, x29, x30, x31, x32, x33, x34, x35, x36, x37, β, h⟩; replace h := h.o0
  have g1 := hb (i / 8)
  have g2 := ofF_small (nb b 32) i (i / 12)
  have g4 : i % 12 ≤ 11 := by omega
  have g3 := btk_le (nb b 32) i (k := i % 12) g4
  have g5 : i % 8 < 8 := by omega
  have g6 : b (i / 8) / 2 ^ (i % 8) < 256 := Nat.lt_of_le_of_lt (Nat.div_le_self _ _) (hb _)
  rcases Nat.lt_or_ge i 255 with hlti | hgei
  · refine sym_seq ?_
    refine sym_seq ?_
    refine St.r0 h [(7, .inl (.int .i64 ((i : Nat) : Int))), (8, .inl (.bool true))] [] ?_ ?_
    · exact oz (k_mv (.inl rfl) rfl) <|
      oz (k_bi (.int .i64 ((i : Nat) : Int)) (.int .i64 ((255 : Nat) : Int)) (.bool true) (lt_i (m := ((i : Nat) : Int)) (n := ((255 : Nat) : Int)) (decide_eq_true (by omega))) rfl rfl) <|
      ok_nil
    clear h; intro β a w h
    refine sym_then ?_
    refine s_ct h ?_
    refine wp_skip ?_
    refine sym_then ?_
    refine sym_seq ?_
    refine blk_in ?_
    refine sym_seq ?_
    refine St.r0 h [(11, .inl (.int .i64 ((i : Nat) : Int))), (12, .inl (.int .i64 (((i / 8) : Nat) : Int))), (13, .inr (0, pt (i / 8))), (14, .inl (.int .u8 (((b (i / 8)) : Nat) : Int))), (15, .inl (.int .i64 ((i : Nat) : Int))), (16, .inl (.int .i64 (((i % 8) : Nat) : Int))), (17, .inl (.int .u64 (((i % 8) : Nat) : Int))), (18, .inl (.int .u8 ((((b (i / 8)) / 2 ^ (i % 8)) : Nat) : Int))), (19, .inl (.int .i64 ((((b (i / 8)) / 2 ^ (i % 8)) : Nat) : Int))), (20, .inl (.int .i64 (((((b (i / 8)) / 2 ^ (i % 8)) % 2) : Nat) : Int))), (5, .inl (.int .i64 (((((b (i / 8)) / 2 ^ (i % 8)) % 2) : Nat) : Int)))] [nn, nn, nn, eR 0] ?_ ?_
    · exact oc (k_mv (.inl rfl) rfl) <|
      oc (k_bi (.int .i64 ((i : Nat) : Int)) (.int .i64 ((8 : Nat) : Int)) (.int .i64 (((i / 8) : Nat) : Int)) (qu_i (m := i) (n := 8) (by decide) (by omega)) rfl rfl) <|
      oc (k_ia 0 0 ((i / 8)) (.int .i64 (((i / 8) : Nat) : Int)) (ixK (i := (i / 8)) (by omega)) rfl rfl) <|
      oc (k_ld 0 ((i / 8)) (.int .u8 (((b (i / 8)) : Nat) : Int)) (c := ck b) (ld_k (F := b) (i := (i / 8)) (t0 := 23) (by omega)) rfl rfl) <|
      oz (k_mv (.inl rfl) rfl) <|
      oz (k_bi (.int .i64 ((i : Nat) : Int)) (.int .i64 ((8 : Nat) : Int)) (.int .i64 (((i % 8) : Nat) : Int)) (re_i (m := i) (n := 8) (by decide)) rfl rfl) <|
      oz (k_co (.int .i64 (((i % 8) : Nat) : Int)) (.int .u64 (((i % 8) : Nat) : Int)) (cv_iu (n := (i % 8)) (by omega)) rfl rfl) <|
      oz (k_bi (.int .u8 (((b (i / 8)) : Nat) : Int)) (.int .u64 (((i % 8) : Nat) : Int)) (.int .u8 ((((b (i / 8)) / 2 ^ (i % 8)) : Nat) : Int)) (sr_b (m := (b (i / 8))) (r := (i % 8)) (by omega)) rfl rfl) <|
      oz (k_co (.int .u8 ((((b (i / 8)) / 2 ^ (i % 8)) : Nat) : Int)) (.int .i64 ((((b (i / 8)) / 2 ^ (i % 8)) : Nat) : Int)) (cv_bi (n := ((b (i / 8)) / 2 ^ (i % 8))) (by omega)) rfl rfl) <|
      oz (k_bi (.int .i64 ((((b (i / 8)) / 2 ^ (i % 8)) : Nat) : Int)) (.int .i64 ((2 : Nat) : Int)) (.int .i64 (((((b (i / 8)) / 2 ^ (i % 8)) % 2) : Nat) : Int)) (re_i (m := ((b (i / 8)) / 2 ^ (i % 8))) (n := 2) (by decide)) rfl rfl) <|
      oz (k_mv (.inr rfl) rfl) <|
      ok_nil
    clear h; intro β a w h
    refine sym_then ?_
    refine sym_seq ?_
    refine sym_seq ?_
    refine St.r0 h [(6, .inl (.int .i64 ((0 : Nat) : Int)))] [] ?_ ?_
    · exact oz (k_mv (.inr rfl) rfl) <|
      ok_nil
    clear h; intro β a w h
    refine sym_then ?_
    refine blk_in ?_
    replace h := St.ss h 5 (.int .i64 (((btk (nb b 32) i 0) : Nat) : Int)) (v := .int .i64 (((((b (i / 8)) / 2 ^ (i % 8)) % 2) : Nat) : Int)) (ic (bt_byte hb (by omega)))
    replace h := St.cs h (s' := [.inl (.agg (ck b)), .inr (0, pt 0), .inr (1, pt 0), .inr (2, pt 0), .inl (.int .i64 ((i : Nat) : Int)), .inl (.int .i64 (((btk (nb b 32) i 0) : Nat) : Int)), .inl (.int .i64 ((0 : Nat) : Int)), .inl (.int .i64 ((i : Nat) : Int)), .inl (.bool true), x9, x10, .inl (.int .i64 ((i : Nat) : Int)), .inl (.int .i64 (((i / 8) : Nat) : Int)), .inr (0, pt (i / 8)), .inl (.int .u8 (((b (i / 8)) : Nat) : Int)), .inl (.int .i64 ((i : Nat) : Int)), .inl (.int .i64 (((i % 8) : Nat) : Int)), .inl (.int .u64 (((i % 8) : Nat) : Int)), .inl (.int .u8 ((((b (i / 8)) / 2 ^ (i % 8)) : Nat) : Int)), .inl (.int .i64 ((((b (i / 8)) / 2 ^ (i % 8)) : Nat) : Int)), .inl (.int .i64 (((((b (i / 8)) / 2 ^ (i % 8)) % 2) : Nat) : Int)), x21, x22, x23, x24, x25, x26, x27, x28, x29, x30, x31, x32, x33, x34, x35, x36, x37, uu, uu]) (m' := [(ck b, 23), (ai 22 (fun _ => 0), 35), (ai 44 (ofF (nb b 32) i), 95)]) (by kernel_rfl) (by kernel_rfl)
    refine loop_up (i % 12) (fun k a w => ∃ (x21 x22 x23 x24 x25 x26 x27 x28 : SV) (β : Nat → Nat), St (wd W0) [.inl (.agg (ck b)), .inr (0, pt 0), .inr (1, pt 0), .inr (2, pt 0), .inl (.int .i64 ((i : Nat) : Int)), .inl (.int .i64 (((btk (nb b 32) i k) : Nat) : Int)), .inl (.int .i64 ((k : Nat) : Int)), .inl (.int .i64 ((i : Nat) : Int)), .inl (.bool true), x9, x10, .inl (.int .i64 ((i : Nat) : Int)), .inl (.int .i64 (((i / 8) : Nat) : Int)), .inr (0, pt (i / 8)), .inl (.int .u8 (((b (i / 8)) : Nat) : Int)), .inl (.int .i64 ((i : Nat) : Int)), .inl (.int .i64 (((i % 8) : Nat) : Int)), .inl (.int .u64 (((i % 8) : Nat) : Int)), .inl (.int .u8 ((((b (i / 8)) / 2 ^ (i % 8)) : Nat) : Int)), .inl (.int .i64 ((((b (i / 8)) / 2 ^ (i % 8)) : Nat) : Int)), .inl (.int .i64 (((((b (i / 8)) / 2 ^ (i % 8)) % 2) : Nat) : Int)), x21, x22, x23, x24, x25, x26, x27, x28, x29, x30, x31, x32, x33, x34, x35, x36, x37, uu, uu] [(ck b, 23), (ai 22 (fun _ => 0), 35), (ai 44 (ofF (nb b 32) i), 95)] β a w) ⟨_, _, _, _, _, _, _, _, β, h⟩ ?_
    clear h; rintro k a w hkk ⟨x21, x22, x23, x24, x25, x26, x27, x28, β, h⟩; replace h := h.o0
    have g7 := btk_le (nb b 32) i (k := k) (by omega)
    rcases Nat.lt_or_ge k (i % 12) with hltk | hgek
    · refine sym_seq ?_
      refine sym_seq ?_
      refine St.r0 h [(21, .inl (.int .i64 ((k : Nat) : Int))), (22, .inl (.int .i64 ((i : Nat) : Int))), (23, .inl (.int .i64 (((i % 12) : Nat) : Int))), (24, .inl (.bool true))] [] ?_ ?_
      · exact oz (k_mv (.inl rfl) rfl) <|
        oz (k_mv (.inl rfl) rfl) <|
        oz (k_bi (.int .i64 ((i : Nat) : Int)) (.int .i64 ((12 : Nat) : Int)) (.int .i64 (((i % 12) : Nat) : Int)) (re_i (m := i) (n := 12) (by decide)) rfl rfl) <|
        oz (k_bi (.int .i64 ((k : Nat) : Int)) (.int .i64 (((i % 12) : Nat) : Int)) (.bool true) (lt_i (m := ((k : Nat) : Int)) (n := (((i % 12) : Nat) : Int)) (decide_eq_true (by omega))) rfl rfl) <|
        ok_nil
      clear h; intro β a w h
      refine sym_then ?_
      refine s_ct h ?_
      refine wp_skip ?_
      refine sym_then ?_
      refine sym_seq ?_
      refine blk_in ?_
      refine St.r0 h [(27, .inl (.int .i64 (((btk (nb b 32) i k) : Nat) : Int))), (28, .inl (.int .i64 (((2 * (btk (nb b 32) i k)) : Nat) : Int))), (5, .inl (.int .i64 (((2 * (btk (nb b 32) i k)) : Nat) : Int)))] [eO] ?_ ?_
      · exact oc (k_m0 rfl rfl) <|
        oz (k_bi (.int .i64 ((2 : Nat) : Int)) (.int .i64 (((btk (nb b 32) i k) : Nat) : Int)) (.int .i64 (((2 * (btk (nb b 32) i k)) : Nat) : Int)) (mu_i (m := 2) (n := (btk (nb b 32) i k)) (by omega)) rfl rfl) <|
        oz (k_mv (.inr rfl) rfl) <|
        ok_nil
      clear h; intro β a w h
      refine blk_norm ?_
      refine sym_then ?_
      refine St.r0 h [(25, .inl (.int .i64 ((k : Nat) : Int))), (26, .inl (.int .i64 (((k + 1) : Nat) : Int))), (6, .inl (.int .i64 (((k + 1) : Nat) : Int)))] [eO] ?_ ?_
      · exact oc (k_m0 rfl rfl) <|
        oz (k_bi (.int .i64 ((k : Nat) : Int)) (.int .i64 ((1 : Nat) : Int)) (.int .i64 (((k + 1) : Nat) : Int)) (ad_i (m := k) (n := 1) (by omega)) rfl rfl) <|
        oz (k_mv (.inr rfl) rfl) <|
        ok_nil
      clear h; intro β a w h
      replace h := St.ss h 5 (.int .i64 (((btk (nb b 32) i (k + 1)) : Nat) : Int)) (v := .int .i64 (((2 * (btk (nb b 32) i k)) : Nat) : Int)) (ic (btk_next _ _ _))
      replace h := St.cs h (s' := [.inl (.agg (ck b)), .inr (0, pt 0), .inr (1, pt 0), .inr (2, pt 0), .inl (.int .i64 ((i : Nat) : Int)), .inl (.int .i64 (((btk (nb b 32) i (k + 1)) : Nat) : Int)), .inl (.int .i64 (((k + 1) : Nat) : Int)), .inl (.int .i64 ((i : Nat) : Int)), .inl (.bool true), x9, x10, .inl (.int .i64 ((i : Nat) : Int)), .inl (.int .i64 (((i / 8) : Nat) : Int)), .inr (0, pt (i / 8)), .inl (.int .u8 (((b (i / 8)) : Nat) : Int)), .inl (.int .i64 ((i : Nat) : Int)), .inl (.int .i64 (((i % 8) : Nat) : Int)), .inl (.int .u64 (((i % 8) : Nat) : Int)), .inl (.int .u8 ((((b (i / 8)) / 2 ^ (i % 8)) : Nat) : Int)), .inl (.int .i64 ((((b (i / 8)) / 2 ^ (i % 8)) : Nat) : Int)), .inl (.int .i64 (((((b (i / 8)) / 2 ^ (i % 8)) % 2) : Nat) : Int)), .inl (.int .i64 ((k : Nat) : Int)), .inl (.int .i64 ((i : Nat) : Int)), .inl (.int .i64 (((i % 12) : Nat) : Int)), .inl (.bool true), .inl (.int .i64 ((k : Nat) : Int)), .inl (.int .i64 (((k + 1) : Nat) : Int)), .inl (.int .i64 (((btk (nb b 32) i k) : Nat) : Int)), .inl (.int .i64 (((2 * (btk (nb b 32) i k)) : Nat) : Int)), x29, x30, x31, x32, x33, x34, x35, x36, x37, uu, uu]) (m' := [(ck b, 23), (ai 22 (fun _ => 0), 35), (ai 44 (ofF (nb b 32) i), 95)]) (by kernel_rfl) (by kernel_rfl)
      exact ⟨hltk, _, _, _, _, _, _, _, _, _, h⟩
    · obtain rfl : k = (i % 12) := by omega
      refine sym_seq ?_
      refine sym_seq ?_
      refine St.r0 h [(21, .inl (.int .i64 (((i % 12) : Nat) : Int))), (22, .inl (.int .i64 ((i : Nat) : Int))), (23, .inl (.int .i64 (((i % 12) : Nat) : Int))), (24, .inl (.bool false))] [] ?_ ?_
      · exact oz (k_mv (.inl rfl) rfl) <|
        oz (k_mv (.inl rfl) rfl) <|
        oz (k_bi (.int .i64 ((i : Nat) : Int)) (.int .i64 ((12 : Nat) : Int)) (.int .i64 (((i % 12) : Nat) : Int)) (re_i (m := i) (n := 12) (by decide)) rfl rfl) <|
        oz (k_bi (.int .i64 (((i % 12) : Nat) : Int)) (.int .i64 (((i % 12) : Nat) : Int)) (.bool false) (lt_i (m := (((i % 12) : Nat) : Int)) (n := (((i % 12) : Nat) : Int)) (decide_eq_false (by omega))) rfl rfl) <|
        ok_nil
      clear h; intro β a w h
      refine sym_then ?_
      refine s_cf h ?_
      refine wp_exit ?_
      refine then_exit ?_
      refine then_exit ?_
      refine blk_exit ?_
      refine sym_then ?_
      refine St.rg h [(29, .inl (.int .i64 ((i : Nat) : Int))), (30, .inl (.int .i64 (((i / 12) : Nat) : Int))), (31, .inl (.int .i64 ((i : Nat) : Int))), (32, .inl (.int .i64 (((i / 12) : Nat) : Int))), (33, .inr (2, pt (i / 12))), (34, .inl (.int .i64 ((((ofF (nb b 32) i) (i / 12)) : Nat) : Int))), (35, .inl (.int .i64 (((btk (nb b 32) i (i % 12)) : Nat) : Int))), (36, .inl (.int .i64 (((((ofF (nb b 32) i) (i / 12)) + (btk (nb b 32) i (i % 12))) : Nat) : Int))), (37, .inr (2, pt (i / 12)))] [] [(2, ai 44 (updN (ofF (nb b 32) i) (i / 12) (((ofF (nb b 32) i) (i / 12)) + (btk (nb b 32) i (i % 12)))))] [nn, nn, nn, nn, nn, eR 2, nn, nn, nn, eS 2] ?_ ?_
      · exact oc (k_mv (.inl rfl) rfl) <|
        oc (k_bi (.int .i64 ((i : Nat) : Int)) (.int .i64 ((12 : Nat) : Int)) (.int .i64 (((i / 12) : Nat) : Int)) (qu_i (m := i) (n := 12) (by decide) (by omega)) rfl rfl) <|
        oc (k_mv (.inl rfl) rfl) <|
        oc (k_bi (.int .i64 ((i : Nat) : Int)) (.int .i64 ((12 : Nat) : Int)) (.int .i64 (((i / 12) : Nat) : Int)) (qu_i (m := i) (n := 12) (by decide) (by omega)) rfl rfl) <|
        oc (k_ia 2 0 ((i / 12)) (.int .i64 (((i / 12) : Nat) : Int)) (ix44 (i := (i / 12)) (by omega)) rfl rfl) <|
        oc (k_ld 2 ((i / 12)) (.int .i64 ((((ofF (nb b 32) i) (i / 12)) : Nat) : Int)) (c := ai 44 (ofF (nb b 32) i)) (ld_at (n := 44) (F := (ofF (nb b 32) i)) (i := (i / 12)) (t0 := 95) (by omega)) rfl rfl) <|
        oc (k_mv (.inl rfl) rfl) <|
        oc (k_bi (.int .i64 ((((ofF (nb b 32) i) (i / 12)) : Nat) : Int)) (.int .i64 (((btk (nb b 32) i (i % 12)) : Nat) : Int)) (.int .i64 (((((ofF (nb b 32) i) (i / 12)) + (btk (nb b 32) i (i % 12))) : Nat) : Int)) (ad_i (m := ((ofF (nb b 32) i) (i / 12))) (n := (btk (nb b 32) i (i % 12))) (by omega)) rfl rfl) <|
        oc (k_ia 2 0 ((i / 12)) (.int .i64 (((i / 12) : Nat) : Int)) (ix44 (i := (i / 12)) (by omega)) rfl rfl) <|
        oc (k_st 2 ((i / 12)) (.int .i64 (((((ofF (nb b 32) i) (i / 12)) + (btk (nb b 32) i (i % 12))) : Nat) : Int)) (c := ai 44 (ofF (nb b 32) i)) (n := ai 44 (updN (ofF (nb b 32) i) (i / 12) (((ofF (nb b 32) i) (i / 12)) + (btk (nb b 32) i (i % 12))))) (st_at (n := 44) (F := (ofF (nb b 32) i)) (i := (i / 12)) (v := (((ofF (nb b 32) i) (i / 12)) + (btk (nb b 32) i (i % 12)))) (t0 := 95) (by omega)) rfl rfl) <|
        ok_nil
      clear h; intro β a w h
      refine blk_norm ?_
      refine sym_then ?_
      refine St.r0 h [(9, .inl (.int .i64 ((i : Nat) : Int))), (10, .inl (.int .i64 (((i + 1) : Nat) : Int))), (4, .inl (.int .i64 (((i + 1) : Nat) : Int)))] [eO] ?_ ?_
      · exact oc (k_m0 rfl rfl) <|
        oz (k_bi (.int .i64 ((i : Nat) : Int)) (.int .i64 ((1 : Nat) : Int)) (.int .i64 (((i + 1) : Nat) : Int)) (ad_i (m := i) (n := 1) (by omega)) rfl rfl) <|
        oz (k_mv (.inr rfl) rfl) <|
        ok_nil
      clear h; intro β a w h
      replace h := St.sm h 2 (ai 44 (ofF (nb b 32) (i + 1))) (c := ai 44 (updN (ofF (nb b 32) i) (i / 12) (((ofF (nb b 32) i) (i / 12)) + (btk (nb b 32) i (i % 12))))) (t := 95) (ofF_next _ _)
      replace h := St.cs h (s' := [.inl (.agg (ck b)), .inr (0, pt 0), .inr (1, pt 0), .inr (2, pt 0), .inl (.int .i64 (((i + 1) : Nat) : Int)), .inl (.int .i64 (((btk (nb b 32) i (i % 12)) : Nat) : Int)), .inl (.int .i64 (((i % 12) : Nat) : Int)), .inl (.int .i64 ((i : Nat) : Int)), .inl (.bool true), .inl (.int .i64 ((i : Nat) : Int)), .inl (.int .i64 (((i + 1) : Nat) : Int)), .inl (.int .i64 ((i : Nat) : Int)), .inl (.int .i64 (((i / 8) : Nat) : Int)), .inr (0, pt (i / 8)), .inl (.int .u8 (((b (i / 8)) : Nat) : Int)), .inl (.int .i64 ((i : Nat) : Int)), .inl (.int .i64 (((i % 8) : Nat) : Int)), .inl (.int .u64 (((i % 8) : Nat) : Int)), .inl (.int .u8 ((((b (i / 8)) / 2 ^ (i % 8)) : Nat) : Int)), .inl (.int .i64 ((((b (i / 8)) / 2 ^ (i % 8)) : Nat) : Int)), .inl (.int .i64 (((((b (i / 8)) / 2 ^ (i % 8)) % 2) : Nat) : Int)), .inl (.int .i64 (((i % 12) : Nat) : Int)), .inl (.int .i64 ((i : Nat) : Int)), .inl (.int .i64 (((i % 12) : Nat) : Int)), .inl (.bool false), x25, x26, x27, x28, .inl (.int .i64 ((i : Nat) : Int)), .inl (.int .i64 (((i / 12) : Nat) : Int)), .inl (.int .i64 ((i : Nat) : Int)), .inl (.int .i64 (((i / 12) : Nat) : Int)), .inr (2, pt (i / 12)), .inl (.int .i64 ((((ofF (nb b 32) i) (i / 12)) : Nat) : Int)), .inl (.int .i64 (((btk (nb b 32) i (i % 12)) : Nat) : Int)), .inl (.int .i64 (((((ofF (nb b 32) i) (i / 12)) + (btk (nb b 32) i (i % 12))) : Nat) : Int)), .inr (2, pt (i / 12)), uu, uu]) (m' := [(ck b, 23), (ai 22 (fun _ => 0), 35), (ai 44 (ofF (nb b 32) (i + 1)), 95)]) (by kernel_rfl) (by kernel_rfl)
      exact ⟨hlti, _, _, _, _, _, _, _, _, _, _, _, _, _, _, _, _, _, _, _, _, _, _, _, _, _, _, _, _, _, _, _, _, _, _, h⟩
  · obtain rfl : i = 255 := by omega
    refine sym_seq ?_
    refine sym_seq ?_
    refine St.r0 h [(7, .inl (.int .i64 ((255 : Nat) : Int))), (8, .inl (.bool false))] [] ?_ ?_
    · exact oz (k_mv (.inl rfl) rfl) <|
      oz (k_bi (.int .i64 ((255 : Nat) : Int)) (.int .i64 ((255 : Nat) : Int)) (.bool false) (lt_i (m := ((255 : Nat) : Int)) (n := ((255 : Nat) : Int)) (decide_eq_false (by omega))) rfl rfl) <|
      ok_nil
    clear h; intro β a w h
    refine sym_then ?_
    refine s_cf h ?_
    refine wp_exit ?_
    refine then_exit ?_
    refine then_exit ?_
    refine blk_exit ?_
    refine sym_then ?_
    refine sym_seq ?_
    refine St.rg h [(38, .inl (.agg (ai 44 (ofF (nb b 32) 255)))), (39, .inl (.agg (ai 22 (dg (ofb b)))))] [] [(1, ai 22 (dg (ofb b)))] [eR 2, nn, eS 1] ?_ ?_
    · exact oc (k_ld 2 0 (.agg (ai 44 (ofF (nb b 32) 255))) (c := ai 44 (ofF (nb b 32) 255)) (ld44 (F := (ofF (nb b 32) 255)) 95) rfl rfl) <|
      oc (k_ca 65 #[.agg (ai 44 (ofF (nb b 32) 255))] (.agg (ai 22 (dg (ofb b)))) (fun w => of_least b w) rfl rfl) <|
      oc (k_st 1 0 (.agg (ai 22 (dg (ofb b)))) (c := ai 22 (fun _ => 0)) (n := ai 22 (dg (ofb b))) (st22 (F := (dg (ofb b))) (c := ai 22 (fun _ => 0)) 35 (ai_size _ _)) rfl rfl) <|
      ok_nil
    clear h; intro β a w h
    refine sym_then ?_
    refine wp_ret ?_
    exact s_rc (b := 1) (t0 := 35) (c := ai 22 (dg (ofb b))) h Try.results31 Try.underlying35 (fun hb => ⟨rfl, hb⟩) (by rw [ai_size]; kernel_rfl)
set_option maxHeartbeats 4000000 in
theorem key_r {n : Nat} (hn : n < 2 ^ 256) (W0 : World) : Calls Try.prog 32 #[.agg (ai 22 (dg n))] W0 fun e w' => e = .returned (.agg (ck (kb n))) ∧ Below W0.heap.size W0 w' := by
  rw [← keF_end hn]
  refine s_in Try.func32 Try.ntmps32 rfl [.inl (.agg (ai 22 (dg n)))] ?_
  intro β a h
  refine sym_seq ?_
  refine St.rg h [(1, .inr (0, pt 0)), (2, .inr (1, pt 0))] [(ai 22 (dg n), 35), (ck (fun _ => 0), 23)] [] [eN 0, eN 1] ?_ ?_
  · exact oc (k_bx 0 (.agg (ai 22 (dg n))) (bx22 (F := (dg n))) rfl rfl) <|
    oc (k_al 1 alK rfl rfl) <|
    ok_nil
  clear h; intro β a w h
  refine sym_then ?_
  refine sym_seq ?_
  refine St.rg h [(3, .inr (2, pt 0))] [(ck (fun _ => 0), 23)] [] [eN 2] ?_ ?_
  · exact oc (k_al 2 alK rfl rfl) <|
    ok_nil
  clear h; intro β a w h
  refine sym_then ?_
  refine sym_seq ?_
  refine sym_seq ?_
  refine St.r0 h [(4, .inl (.int .i64 ((0 : Nat) : Int)))] [] ?_ ?_
  · exact oz (k_mv (.inr rfl) rfl) <|
    ok_nil
  clear h; intro β a w h
  refine sym_then ?_
  refine blk_in ?_
  replace h := St.sm h 2 (ck (keF n 0)) (c := ck (fun _ => 0)) (t := 23) (keF_zero n)
  replace h := St.cs h (s' := [.inl (.agg (ai 22 (dg n))), .inr (0, pt 0), .inr (1, pt 0), .inr (2, pt 0), .inl (.int .i64 ((0 : Nat) : Int)), uu, uu, uu, uu, uu, uu, uu, uu, uu, uu, uu, uu, uu, uu, uu, uu, uu, uu, uu, uu, uu, uu, uu, uu, uu, uu, uu, uu, uu, uu, uu, uu]) (m' := [(ai 22 (dg n), 35), (ck (fun _ => 0), 23), (ck (keF n 0), 23)]) (by kernel_rfl) (by kernel_rfl)
  refine loop_up 256 (fun i a w => ∃ (x5 x6 x7 x8 x9 x10 x11 x12 x13 x14 x15 x16 x17 x18 x19 x20 x21 x22 x23 x24 x25 x26 x27 x28 x29 x30 x31 x32 x33 x34 x35 : SV) (β : Nat → Nat), St (wd W0) [.inl (.agg (ai 22 (dg n))), .inr (0, pt 0), .inr (1, pt 0), .inr (2, pt 0), .inl (.int .i64 ((i : Nat) : Int)), x5, x6, x7, x8, x9, x10, x11, x12, x13, x14, x15, x16, x17, x18, x19, x20, x21, x22, x23, x24, x25, x26, x27, x28, x29, x30, x31, x32, x33, x34, x35, uu] [(ai 22 (dg n), 35), (ck (fun _ => 0), 23), (ck (keF n i), 23)] β a w) ⟨_, _, _, _, _, _, _, _, _, _, _, _, _, _, _, _, _, _, _, _, _, _, _, _, _, _, _, _, _, _, _, β, h⟩ ?_
  clear h; rintro i a w hki ⟨x5, x6, x7, x8, x9, x10, x11, x12, x13, x14, x15, x16, x17, x18, x19, x20, x21, x22, x23, x24, x25, x26, x27, x28, x29, x30, x31, x32, x33, x34, x35, β, h⟩; replace h := h.o0
  have g1 := bt_fig n i
  have g2 := dg_lt n (i / 12)
  have g3 := keF_lt n i (i / 8)
  rcases Nat.lt_or_ge i 256 with hlti | hgei
  · rcases (show bt n i = 1 ∨ bt n i = 0 by have := bt_lt n i; omega) with hb1 | hb0
    · have g4 := keF_room hb1
      refine sym_seq ?_
      refine sym_seq ?_
      refine St.r0 h [(5, .inl (.int .i64 ((i : Nat) : Int))), (6, .inl (.bool true))] [] ?_ ?_
      · exact oz (k_mv (.inl rfl) rfl) <|
        oz (k_bi (.int .i64 ((i : Nat) : Int)) (.int .i64 ((256 : Nat) : Int)) (.bool true) (lt_i (m := ((i : Nat) : Int)) (n := ((256 : Nat) : Int)) (decide_eq_true (by omega))) rfl rfl) <|
        ok_nil
      clear h; intro β a w h
      refine sym_then ?_
      refine s_ct h ?_
      refine wp_skip ?_
      refine sym_then ?_
      refine sym_seq ?_
      refine blk_in ?_
      refine sym_seq ?_
      refine St.r0 h [(9, .inl (.int .i64 ((i : Nat) : Int))), (10, .inl (.int .i64 (((i / 12) : Nat) : Int))), (11, .inl (.bool true)), (12, .inl (.bool true)), (13, .inl (.int .i64 ((i : Nat) : Int))), (14, .inl (.int .i64 (((i / 12) : Nat) : Int))), (15, .inr (0, pt (i / 12))), (16, .inl (.int .i64 ((((dg n) (i / 12)) : Nat) : Int))), (17, .inl (.int .i64 ((i : Nat) : Int))), (18, .inl (.int .i64 (((i % 12) : Nat) : Int))), (19, .inl (.int .u64 (((i % 12) : Nat) : Int))), (20, .inl (.int .i64 (((((dg n) (i / 12)) / 2 ^ (i % 12)) : Nat) : Int))), (21, .inl (.int .i64 ((((((dg n) (i / 12)) / 2 ^ (i % 12)) % 2) : Nat) : Int))), (22, .inl (.bool true)), (23, .inl (.bool true))] [nn, nn, nn, nn, nn, nn, nn, eR 0] ?_ ?_
      · exact oc (k_mv (.inl rfl) rfl) <|
        oc (k_bi (.int .i64 ((i : Nat) : Int)) (.int .i64 ((12 : Nat) : Int)) (.int .i64 (((i / 12) : Nat) : Int)) (qu_i (m := i) (n := 12) (by decide) (by omega)) rfl rfl) <|
        oc (k_bi (.int .i64 (((i / 12) : Nat) : Int)) (.int .i64 ((22 : Nat) : Int)) (.bool true) (lt_i (m := (((i / 12) : Nat) : Int)) (n := ((22 : Nat) : Int)) (decide_eq_true (by omega))) rfl rfl) <|
        oc (k_mv (.inl rfl) rfl) <|
        oc (k_mv (.inl rfl) rfl) <|
        oc (k_bi (.int .i64 ((i : Nat) : Int)) (.int .i64 ((12 : Nat) : Int)) (.int .i64 (((i / 12) : Nat) : Int)) (qu_i (m := i) (n := 12) (by decide) (by omega)) rfl rfl) <|
        oc (k_ia 0 0 ((i / 12)) (.int .i64 (((i / 12) : Nat) : Int)) (ix22 (i := (i / 12)) (by omega)) rfl rfl) <|
        oc (k_ld 0 ((i / 12)) (.int .i64 ((((dg n) (i / 12)) : Nat) : Int)) (c := ai 22 (dg n)) (ld_at (n := 22) (F := (dg n)) (i := (i / 12)) (t0 := 35) (by omega)) rfl rfl) <|
        oz (k_mv (.inl rfl) rfl) <|
        oz (k_bi (.int .i64 ((i : Nat) : Int)) (.int .i64 ((12 : Nat) : Int)) (.int .i64 (((i % 12) : Nat) : Int)) (re_i (m := i) (n := 12) (by decide)) rfl rfl) <|
        oz (k_co (.int .i64 (((i % 12) : Nat) : Int)) (.int .u64 (((i % 12) : Nat) : Int)) (cv_iu (n := (i % 12)) (by omega)) rfl rfl) <|
        oz (k_bi (.int .i64 ((((dg n) (i / 12)) : Nat) : Int)) (.int .u64 (((i % 12) : Nat) : Int)) (.int .i64 (((((dg n) (i / 12)) / 2 ^ (i % 12)) : Nat) : Int)) (sr_i (m := ((dg n) (i / 12))) (r := (i % 12)) (by omega)) rfl rfl) <|
        oz (k_bi (.int .i64 (((((dg n) (i / 12)) / 2 ^ (i % 12)) : Nat) : Int)) (.int .i64 ((2 : Nat) : Int)) (.int .i64 ((((((dg n) (i / 12)) / 2 ^ (i % 12)) % 2) : Nat) : Int)) (re_i (m := (((dg n) (i / 12)) / 2 ^ (i % 12))) (n := 2) (by decide)) rfl rfl) <|
        oz (k_bi (.int .i64 ((((((dg n) (i / 12)) / 2 ^ (i % 12)) % 2) : Nat) : Int)) (.int .i64 ((1 : Nat) : Int)) (.bool true) (eq_i (m := ((((((dg n) (i / 12)) / 2 ^ (i % 12)) % 2) : Nat) : Int)) (n := ((1 : Nat) : Int)) (decide_eq_true (by omega))) rfl rfl) <|
        oz (k_pt rfl rfl) <|
        ok_nil
      clear h; intro β a w h
      refine sym_then ?_
      refine s_ct h ?_
      refine St.rg h [(24, .inl (.int .i64 ((i : Nat) : Int))), (25, .inl (.int .i64 (((i / 8) : Nat) : Int))), (26, .inl (.int .i64 ((i : Nat) : Int))), (27, .inl (.int .i64 (((i / 8) : Nat) : Int))), (28, .inr (2, pt (i / 8))), (29, .inl (.int .u8 ((((keF n i) (i / 8)) : Nat) : Int))), (30, .inl (.int .i64 ((i : Nat) : Int))), (31, .inl (.int .i64 (((i % 8) : Nat) : Int))), (32, .inl (.int .u64 (((i % 8) : Nat) : Int))), (33, .inl (.int .u8 (((2 ^ (i % 8)) : Nat) : Int))), (34, .inl (.int .u8 (((((keF n i) (i / 8)) + (2 ^ (i % 8))) : Nat) : Int))), (35, .inr (2, pt (i / 8)))] [] [(2, ck (updN (keF n i) (i / 8) (((keF n i) (i / 8)) + (2 ^ (i % 8)))))] [nn, nn, nn, nn, nn, eR 2, nn, nn, nn, nn, nn, nn, eS 2] ?_ ?_
      · exact oc (k_mv (.inl rfl) rfl) <|
        oc (k_bi (.int .i64 ((i : Nat) : Int)) (.int .i64 ((8 : Nat) : Int)) (.int .i64 (((i / 8) : Nat) : Int)) (qu_i (m := i) (n := 8) (by decide) (by omega)) rfl rfl) <|
        oc (k_mv (.inl rfl) rfl) <|
        oc (k_bi (.int .i64 ((i : Nat) : Int)) (.int .i64 ((8 : Nat) : Int)) (.int .i64 (((i / 8) : Nat) : Int)) (qu_i (m := i) (n := 8) (by decide) (by omega)) rfl rfl) <|
        oc (k_ia 2 0 ((i / 8)) (.int .i64 (((i / 8) : Nat) : Int)) (ixK (i := (i / 8)) (by omega)) rfl rfl) <|
        oc (k_ld 2 ((i / 8)) (.int .u8 ((((keF n i) (i / 8)) : Nat) : Int)) (c := ck (keF n i)) (ld_k (F := (keF n i)) (i := (i / 8)) (t0 := 23) (by omega)) rfl rfl) <|
        oc (k_mv (.inl rfl) rfl) <|
        oc (k_bi (.int .i64 ((i : Nat) : Int)) (.int .i64 ((8 : Nat) : Int)) (.int .i64 (((i % 8) : Nat) : Int)) (re_i (m := i) (n := 8) (by decide)) rfl rfl) <|
        oc (k_co (.int .i64 (((i % 8) : Nat) : Int)) (.int .u64 (((i % 8) : Nat) : Int)) (cv_iu (n := (i % 8)) (by omega)) rfl rfl) <|
        oc (k_bi (.int .u8 ((1 : Nat) : Int)) (.int .u64 (((i % 8) : Nat) : Int)) (.int .u8 (((2 ^ (i % 8)) : Nat) : Int)) (sl_b (r := (i % 8)) (by omega)) rfl rfl) <|
        oc (k_bi (.int .u8 ((((keF n i) (i / 8)) : Nat) : Int)) (.int .u8 (((2 ^ (i % 8)) : Nat) : Int)) (.int .u8 (((((keF n i) (i / 8)) + (2 ^ (i % 8))) : Nat) : Int)) (ad_b (m := ((keF n i) (i / 8))) (n := (2 ^ (i % 8))) (by omega)) rfl rfl) <|
        oc (k_ia 2 0 ((i / 8)) (.int .i64 (((i / 8) : Nat) : Int)) (ixK (i := (i / 8)) (by omega)) rfl rfl) <|
        oc (k_st 2 ((i / 8)) (.int .u8 (((((keF n i) (i / 8)) + (2 ^ (i % 8))) : Nat) : Int)) (c := ck (keF n i)) (n := ck (updN (keF n i) (i / 8) (((keF n i) (i / 8)) + (2 ^ (i % 8))))) (st_k (F := (keF n i)) (i := (i / 8)) (v := (((keF n i) (i / 8)) + (2 ^ (i % 8)))) (t0 := 23) (by omega)) rfl rfl) <|
        ok_nil
      clear h; intro β a w h
      refine blk_norm ?_
      refine sym_then ?_
      refine St.r0 h [(7, .inl (.int .i64 ((i : Nat) : Int))), (8, .inl (.int .i64 (((i + 1) : Nat) : Int))), (4, .inl (.int .i64 (((i + 1) : Nat) : Int)))] [eO] ?_ ?_
      · exact oc (k_m0 rfl rfl) <|
        oz (k_bi (.int .i64 ((i : Nat) : Int)) (.int .i64 ((1 : Nat) : Int)) (.int .i64 (((i + 1) : Nat) : Int)) (ad_i (m := i) (n := 1) (by omega)) rfl rfl) <|
        oz (k_mv (.inr rfl) rfl) <|
        ok_nil
      clear h; intro β a w h
      replace h := St.sm h 2 (ck (keF n (i + 1))) (c := ck (updN (keF n i) (i / 8) (((keF n i) (i / 8)) + (2 ^ (i % 8))))) (t := 23) (keF_one hb1)
      replace h := St.cs h (s' := [.inl (.agg (ai 22 (dg n))), .inr (0, pt 0), .inr (1, pt 0), .inr (2, pt 0), .inl (.int .i64 (((i + 1) : Nat) : Int)), .inl (.int .i64 ((i : Nat) : Int)), .inl (.bool true), .inl (.int .i64 ((i : Nat) : Int)), .inl (.int .i64 (((i + 1) : Nat) : Int)), .inl (.int .i64 ((i : Nat) : Int)), .inl (.int .i64 (((i / 12) : Nat) : Int)), .inl (.bool true), .inl (.bool true), .inl (.int .i64 ((i : Nat) : Int)), .inl (.int .i64 (((i / 12) : Nat) : Int)), .inr (0, pt (i / 12)), .inl (.int .i64 ((((dg n) (i / 12)) : Nat) : Int)), .inl (.int .i64 ((i : Nat) : Int)), .inl (.int .i64 (((i % 12) : Nat) : Int)), .inl (.int .u64 (((i % 12) : Nat) : Int)), .inl (.int .i64 (((((dg n) (i / 12)) / 2 ^ (i % 12)) : Nat) : Int)), .inl (.int .i64 ((((((dg n) (i / 12)) / 2 ^ (i % 12)) % 2) : Nat) : Int)), .inl (.bool true), .inl (.bool true), .inl (.int .i64 ((i : Nat) : Int)), .inl (.int .i64 (((i / 8) : Nat) : Int)), .inl (.int .i64 ((i : Nat) : Int)), .inl (.int .i64 (((i / 8) : Nat) : Int)), .inr (2, pt (i / 8)), .inl (.int .u8 ((((keF n i) (i / 8)) : Nat) : Int)), .inl (.int .i64 ((i : Nat) : Int)), .inl (.int .i64 (((i % 8) : Nat) : Int)), .inl (.int .u64 (((i % 8) : Nat) : Int)), .inl (.int .u8 (((2 ^ (i % 8)) : Nat) : Int)), .inl (.int .u8 (((((keF n i) (i / 8)) + (2 ^ (i % 8))) : Nat) : Int)), .inr (2, pt (i / 8)), uu]) (m' := [(ai 22 (dg n), 35), (ck (fun _ => 0), 23), (ck (keF n (i + 1)), 23)]) (by kernel_rfl) (by kernel_rfl)
      exact ⟨hlti, _, _, _, _, _, _, _, _, _, _, _, _, _, _, _, _, _, _, _, _, _, _, _, _, _, _, _, _, _, _, _, _, h⟩
    · refine sym_seq ?_
      refine sym_seq ?_
      refine St.r0 h [(5, .inl (.int .i64 ((i : Nat) : Int))), (6, .inl (.bool true))] [] ?_ ?_
      · exact oz (k_mv (.inl rfl) rfl) <|
        oz (k_bi (.int .i64 ((i : Nat) : Int)) (.int .i64 ((256 : Nat) : Int)) (.bool true) (lt_i (m := ((i : Nat) : Int)) (n := ((256 : Nat) : Int)) (decide_eq_true (by omega))) rfl rfl) <|
        ok_nil
      clear h; intro β a w h
      refine sym_then ?_
      refine s_ct h ?_
      refine wp_skip ?_
      refine sym_then ?_
      refine sym_seq ?_
      refine blk_in ?_
      refine sym_seq ?_
      refine St.r0 h [(9, .inl (.int .i64 ((i : Nat) : Int))), (10, .inl (.int .i64 (((i / 12) : Nat) : Int))), (11, .inl (.bool true)), (12, .inl (.bool true)), (13, .inl (.int .i64 ((i : Nat) : Int))), (14, .inl (.int .i64 (((i / 12) : Nat) : Int))), (15, .inr (0, pt (i / 12))), (16, .inl (.int .i64 ((((dg n) (i / 12)) : Nat) : Int))), (17, .inl (.int .i64 ((i : Nat) : Int))), (18, .inl (.int .i64 (((i % 12) : Nat) : Int))), (19, .inl (.int .u64 (((i % 12) : Nat) : Int))), (20, .inl (.int .i64 (((((dg n) (i / 12)) / 2 ^ (i % 12)) : Nat) : Int))), (21, .inl (.int .i64 ((((((dg n) (i / 12)) / 2 ^ (i % 12)) % 2) : Nat) : Int))), (22, .inl (.bool false)), (23, .inl (.bool false))] [nn, nn, nn, nn, nn, nn, nn, eR 0] ?_ ?_
      · exact oc (k_mv (.inl rfl) rfl) <|
        oc (k_bi (.int .i64 ((i : Nat) : Int)) (.int .i64 ((12 : Nat) : Int)) (.int .i64 (((i / 12) : Nat) : Int)) (qu_i (m := i) (n := 12) (by decide) (by omega)) rfl rfl) <|
        oc (k_bi (.int .i64 (((i / 12) : Nat) : Int)) (.int .i64 ((22 : Nat) : Int)) (.bool true) (lt_i (m := (((i / 12) : Nat) : Int)) (n := ((22 : Nat) : Int)) (decide_eq_true (by omega))) rfl rfl) <|
        oc (k_mv (.inl rfl) rfl) <|
        oc (k_mv (.inl rfl) rfl) <|
        oc (k_bi (.int .i64 ((i : Nat) : Int)) (.int .i64 ((12 : Nat) : Int)) (.int .i64 (((i / 12) : Nat) : Int)) (qu_i (m := i) (n := 12) (by decide) (by omega)) rfl rfl) <|
        oc (k_ia 0 0 ((i / 12)) (.int .i64 (((i / 12) : Nat) : Int)) (ix22 (i := (i / 12)) (by omega)) rfl rfl) <|
        oc (k_ld 0 ((i / 12)) (.int .i64 ((((dg n) (i / 12)) : Nat) : Int)) (c := ai 22 (dg n)) (ld_at (n := 22) (F := (dg n)) (i := (i / 12)) (t0 := 35) (by omega)) rfl rfl) <|
        oz (k_mv (.inl rfl) rfl) <|
        oz (k_bi (.int .i64 ((i : Nat) : Int)) (.int .i64 ((12 : Nat) : Int)) (.int .i64 (((i % 12) : Nat) : Int)) (re_i (m := i) (n := 12) (by decide)) rfl rfl) <|
        oz (k_co (.int .i64 (((i % 12) : Nat) : Int)) (.int .u64 (((i % 12) : Nat) : Int)) (cv_iu (n := (i % 12)) (by omega)) rfl rfl) <|
        oz (k_bi (.int .i64 ((((dg n) (i / 12)) : Nat) : Int)) (.int .u64 (((i % 12) : Nat) : Int)) (.int .i64 (((((dg n) (i / 12)) / 2 ^ (i % 12)) : Nat) : Int)) (sr_i (m := ((dg n) (i / 12))) (r := (i % 12)) (by omega)) rfl rfl) <|
        oz (k_bi (.int .i64 (((((dg n) (i / 12)) / 2 ^ (i % 12)) : Nat) : Int)) (.int .i64 ((2 : Nat) : Int)) (.int .i64 ((((((dg n) (i / 12)) / 2 ^ (i % 12)) % 2) : Nat) : Int)) (re_i (m := (((dg n) (i / 12)) / 2 ^ (i % 12))) (n := 2) (by decide)) rfl rfl) <|
        oz (k_bi (.int .i64 ((((((dg n) (i / 12)) / 2 ^ (i % 12)) % 2) : Nat) : Int)) (.int .i64 ((1 : Nat) : Int)) (.bool false) (eq_i (m := ((((((dg n) (i / 12)) / 2 ^ (i % 12)) % 2) : Nat) : Int)) (n := ((1 : Nat) : Int)) (decide_eq_false (by omega))) rfl rfl) <|
        oz (k_pt rfl rfl) <|
        ok_nil
      clear h; intro β a w h
      refine sym_then ?_
      refine s_cf h ?_
      refine wp_skip ?_
      refine blk_norm ?_
      refine sym_then ?_
      refine St.r0 h [(7, .inl (.int .i64 ((i : Nat) : Int))), (8, .inl (.int .i64 (((i + 1) : Nat) : Int))), (4, .inl (.int .i64 (((i + 1) : Nat) : Int)))] [eO] ?_ ?_
      · exact oc (k_m0 rfl rfl) <|
        oz (k_bi (.int .i64 ((i : Nat) : Int)) (.int .i64 ((1 : Nat) : Int)) (.int .i64 (((i + 1) : Nat) : Int)) (ad_i (m := i) (n := 1) (by omega)) rfl rfl) <|
        oz (k_mv (.inr rfl) rfl) <|
        ok_nil
      clear h; intro β a w h
      replace h := St.sm h 2 (ck (keF n (i + 1))) (c := ck (keF n i)) (t := 23) (keF_none hb0)
      replace h := St.cs h (s' := [.inl (.agg (ai 22 (dg n))), .inr (0, pt 0), .inr (1, pt 0), .inr (2, pt 0), .inl (.int .i64 (((i + 1) : Nat) : Int)), .inl (.int .i64 ((i : Nat) : Int)), .inl (.bool true), .inl (.int .i64 ((i : Nat) : Int)), .inl (.int .i64 (((i + 1) : Nat) : Int)), .inl (.int .i64 ((i : Nat) : Int)), .inl (.int .i64 (((i / 12) : Nat) : Int)), .inl (.bool true), .inl (.bool true), .inl (.int .i64 ((i : Nat) : Int)), .inl (.int .i64 (((i / 12) : Nat) : Int)), .inr (0, pt (i / 12)), .inl (.int .i64 ((((dg n) (i / 12)) : Nat) : Int)), .inl (.int .i64 ((i : Nat) : Int)), .inl (.int .i64 (((i % 12) : Nat) : Int)), .inl (.int .u64 (((i % 12) : Nat) : Int)), .inl (.int .i64 (((((dg n) (i / 12)) / 2 ^ (i % 12)) : Nat) : Int)), .inl (.int .i64 ((((((dg n) (i / 12)) / 2 ^ (i % 12)) % 2) : Nat) : Int)), .inl (.bool false), .inl (.bool false), x24, x25, x26, x27, x28, x29, x30, x31, x32, x33, x34, x35, uu]) (m' := [(ai 22 (dg n), 35), (ck (fun _ => 0), 23), (ck (keF n (i + 1)), 23)]) (by kernel_rfl) (by kernel_rfl)
      exact ⟨hlti, _, _, _, _, _, _, _, _, _, _, _, _, _, _, _, _, _, _, _, _, _, _, _, _, _, _, _, _, _, _, _, _, h⟩
  · obtain rfl : i = 256 := by omega
    refine sym_seq ?_
    refine sym_seq ?_
    refine St.r0 h [(5, .inl (.int .i64 ((256 : Nat) : Int))), (6, .inl (.bool false))] [] ?_ ?_
    · exact oz (k_mv (.inl rfl) rfl) <|
      oz (k_bi (.int .i64 ((256 : Nat) : Int)) (.int .i64 ((256 : Nat) : Int)) (.bool false) (lt_i (m := ((256 : Nat) : Int)) (n := ((256 : Nat) : Int)) (decide_eq_false (by omega))) rfl rfl) <|
      ok_nil
    clear h; intro β a w h
    refine sym_then ?_
    refine s_cf h ?_
    refine wp_exit ?_
    refine then_exit ?_
    refine then_exit ?_
    refine blk_exit ?_
    refine sym_then ?_
    refine sym_seq ?_
    refine St.rg h [(36, .inl (.agg (ck (keF n 256))))] [] [(1, ck (keF n 256))] [eR 2, eS 1] ?_ ?_
    · exact oc (k_ld 2 0 (.agg (ck (keF n 256))) (c := ck (keF n 256)) (ldK (b := (keF n 256)) 23) rfl rfl) <|
      oc (k_st 1 0 (.agg (ck (keF n 256))) (c := ck (fun _ => 0)) (n := ck (keF n 256)) (stK (F := (keF n 256)) (c := ck (fun _ => 0)) 23 (ck_size _)) rfl rfl) <|
      ok_nil
    clear h; intro β a w h
    refine sym_then ?_
    refine wp_ret ?_
    exact s_rc (b := 1) (t0 := 23) (c := ck (keF n 256)) h Try.results32 Try.underlying23 (fun hb => ⟨rfl, hb⟩) (by rw [ck_size]; kernel_rfl)
end Go.Proofs.Ytpogmflgmpifoaa

namespace Go.Proofs.Ytpogmflgmpifoaa

theorem half_dig (n k : Nat) : dg (n / 2) k = (dg n k + dg n (k + 1) % 2 * 4096) / 2 := by
  have h1 := div_step n k
  have h2 : n / 2 / 4096 ^ k = n / 4096 ^ k / 2 := by rw [Nat.div_div_eq_div_mul, Nat.div_div_eq_div_mul, Nat.mul_comm]
  have h3 : dg n (k + 1) = n / 4096 ^ (k + 1) % 4096 := rfl
  have h4 := dg_lt n k
  unfold dg at h4 ⊢
  rw [h2]
  unfold dg at h1 h3
  generalize n / 4096 ^ (k + 1) = q at *
  generalize n / 4096 ^ k = p at *
  omega
def haF (n k j : Nat) : Nat := if j < k then dg (n / 2) j else dg n j
theorem haF_at (n k : Nat) : haF n k k = dg n k := by simp [haF]
theorem haF_nx (n k : Nat) : haF n k (k + 1) = dg n (k + 1) := by unfold haF; rw [if_neg (by omega)]
theorem haF_zero (n : Nat) : ai 22 (dg n) = ai 22 (haF n 0) := ai_congr fun i _ => by simp [haF]
theorem haF_end (n : Nat) : ai 22 (haF n 22) = ai 22 (dg (n / 2)) := ai_congr fun i hi => by simp [haF, hi]
theorem haF_set {n k v : Nat} (h : v = dg (n / 2) k) : ai 22 (updN (haF n k) k v) = ai 22 (haF n (k + 1)) := ai_congr fun i _ => by
  unfold updN haF
  by_cases e : i = k
  · subst e; simp [h]
  · have : (i < k + 1) = (i < k) := by simp; omega
    simp [e, this]
theorem haF_next (n k : Nat) : ai 22 (updN (haF n k) k ((haF n k k + haF n k (k + 1) % 2 * 4096) / 2)) = ai 22 (haF n (k + 1)) := haF_set (by rw [haF_at, haF_nx, half_dig])
theorem haF_last {n : Nat} (hn : n < 4096 ^ 22) : ai 22 (updN (haF n 21) 21 (haF n 21 21 / 2)) = ai 22 (haF n 22) := haF_set (by rw [haF_at, half_dig, dg_big hn 22 (by omega)]; omega)

/-- Counting down from 254. -/
def dp (k : Nat) : Int := 254 - (k : Int)
theorem dp_ix {k : Nat} (h : k < 255) : dp k = ((254 - k : Nat) : Int) := by unfold dp; omega
theorem sb_dp {x u : Operand} {k : Nat} (h : k < 255) (w : World) : (do eqGuard .sub 3 x u (.int .i64 ((254 - k : Nat) : Int)) (.int .i64 ((1 : Nat) : Int)); binOp .sub 3 (.int .i64 ((254 - k : Nat) : Int)) (.int .i64 ((1 : Nat) : Int))).run Try.prog w = .ok (.int .i64 (dp (k + 1))) w := by
  have := sb_z (x := x) (u := u) (m := ((254 - k : Nat) : Int)) (n := ((1 : Nat) : Int)) (by omega) (by omega) w
  rwa [show ((254 - k : Nat) : Int) - ((1 : Nat) : Int) = dp (k + 1) by unfold dp; omega] at this
/-- The power by the highest k of 255 bits. -/
def pw (m e k : Nat) : Nat := m ^ (e / 2 ^ (255 - k)) % pp
theorem pw_lt (m e k : Nat) : pw m e k < pp := mod_pp _
theorem pw_zero {m e : Nat} (he : e < 2 ^ 255) : pw m e 0 = 1 := by
  unfold pw
  rw [Nat.div_eq_of_lt he, Nat.pow_zero]
  exact Nat.mod_eq_of_lt (by decide +kernel)
theorem pw_end (m e : Nat) : pw m e 255 = m ^ e % pp := by unfold pw; simp
theorem bits_next {e k : Nat} (hk : k < 255) : e / 2 ^ (255 - (k + 1)) = e / 2 ^ (255 - k) + e / 2 ^ (255 - k) + bt e (254 - k) := by
  have h1 : 255 - (k + 1) = 254 - k := by omega
  have h2 : 255 - k = 254 - k + 1 := by omega
  unfold bt
  rw [h1, h2, Nat.pow_succ, ← Nat.div_div_eq_div_mul]
  generalize e / 2 ^ (254 - k) = q
  omega
theorem pw_one {m e k : Nat} (hk : k < 255) (hb : bt e (254 - k) = 1) : pw m e k * pw m e k % pp * m % pp = pw m e (k + 1) := by
  unfold pw
  rw [bits_next hk, hb, Nat.pow_add, Nat.pow_add, Nat.pow_one, ← Nat.mul_mod, Nat.mod_mul_mod]
theorem pw_none {m e k : Nat} (hk : k < 255) (hb : bt e (254 - k) = 0) : pw m e k * pw m e k % pp = pw m e (k + 1) := by
  unfold pw
  rw [bits_next hk, hb, Nat.add_zero, Nat.pow_add, ← Nat.mul_mod]

theorem neg_eq {m : Nat} (h1 : 1 ≤ m) (h2 : m ≤ 9223372036854775808) : ((0 + (pp - (m - 1))) % pp + (pp - 1)) % pp = pp - m := by
  have hp : 9223372036854775808 < pp := by decide +kernel
  by_cases e : m = 1
  · subst e
    simp only [Nat.sub_self, Nat.sub_zero, Nat.zero_add, Nat.mod_self]
    exact Nat.mod_eq_of_lt (by omega)
  · rw [Nat.zero_add, Nat.mod_eq_of_lt (show pp - (m - 1) < pp by omega), show pp - (m - 1) + (pp - 1) = pp - m + pp by omega, Nat.add_mod_right, Nat.mod_eq_of_lt (by omega)]
theorem one_lt : 1 < pp := by decide +kernel
theorem two_lt : 2 < pp := by decide +kernel
end Go.Proofs.Ytpogmflgmpifoaa

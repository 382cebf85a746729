/- What stands beyond 255 bits, as the reference brings it down. -/
import Derived.Test.YtchbkkjjbdgdoaaM4
namespace Go.Proofs.Ytchbkkjjbdgdoaa

/-- What one more round leaves: 2^255 counts 19. -/
def SS (U : Nat) : Nat := U % (8 * 4096 ^ 21) + 19 * (U / (8 * 4096 ^ 21))
/-- The figures behind the first three statements of a round. -/
def hF (U j : Nat) : Nat := if j = 0 then dg U 0 + 19 * (dg U 21 / 8) else if j = 21 then dg U 21 % 8 else dg U j
theorem hF_upd (U : Nat) : ∀ i, updN (updN (dg U) 21 (dg U 21 % 8)) 0 (updN (dg U) 21 (dg U 21 % 8) 0 + 19 * (dg U 21 / 8)) i = hF U i := by
  intro i
  unfold updN hF
  by_cases h : i = 0
  · subst h; simp
  · rw [if_neg h, if_neg h]
theorem hF_lt (U i : Nat) : hF U i < 1099511627776 := by
  unfold hF
  have := dg_lt U 0; have := dg_lt U 21; have := dg_lt U i
  split
  · omega
  · split <;> omega
theorem pv_upd (F : Nat → Nat) (i v : Nat) : ∀ k, i < k → pv (updN F i v) k + F i * 4096 ^ i = pv F k + v * 4096 ^ i := by
  intro k
  induction k with
  | zero => intro h; omega
  | succ k ih =>
    intro h
    by_cases e : i = k
    · subst e
      have h1 : pv (updN F i v) i = pv F i := pv_congr i fun j hj => by unfold updN; rw [if_neg (by omega)]
      have h2 : updN F i v i = v := by simp [updN]
      rw [pv, pv, h1, h2]; omega
    · have h1 := ih (by omega)
      have h2 : updN F i v k = F k := by unfold updN; rw [if_neg (by omega)]
      rw [pv, pv, h2]; omega
theorem hF_arith {P S U y z d D over m8 : Nat} (h1 : P + z = y + (z + 19 * over)) (h2 : y + d * D = U + m8 * D) (h5 : S + 8 * D * over = U) (hd : m8 + 8 * over = d) : P = S + 19 * over := by
  have e : (m8 + 8 * over) * D = m8 * D + 8 * D * over := by rw [Nat.add_mul, Nat.mul_assoc, Nat.mul_assoc, Nat.mul_comm over]
  rw [← hd, e] at h2
  omega
theorem pv_hF {U : Nat} (h : U < 4096 ^ 22) : pv (hF U) 22 = SS U := by
  have h0 : pv (hF U) 22 = pv (updN (updN (dg U) 21 (dg U 21 % 8)) 0 (updN (dg U) 21 (dg U 21 % 8) 0 + 19 * (dg U 21 / 8))) 22 := pv_congr 22 fun i _ => (hF_upd U i).symm
  have h1 := pv_upd (updN (dg U) 21 (dg U 21 % 8)) 0 (updN (dg U) 21 (dg U 21 % 8) 0 + 19 * (dg U 21 / 8)) 22 (by omega)
  have h2 := pv_upd (dg U) 21 (dg U 21 % 8) 22 (by omega)
  rw [pv_dg, Nat.mod_eq_of_lt h] at h2
  rw [← h0, Nat.pow_zero, Nat.mul_one, Nat.mul_one] at h1
  have h3 : dg U 21 = U / 4096 ^ 21 := div_top h
  have h4 : dg U 21 / 8 = U / (8 * 4096 ^ 21) := by rw [h3, Nat.div_div_eq_div_mul, Nat.mul_comm]
  have h5 := Nat.mod_add_div U (8 * 4096 ^ 21)
  rw [← h4] at h5
  have h7 := hF_arith h1 h2 h5 (Nat.mod_add_div _ _)
  rw [h7, h4]; rfl

/-- The pass whose carries stand in the row, k figures done. -/
def seF (H : Nat → Nat) (k j : Nat) : Nat := if j < k then dg (pv H k) j else if j = k then H k + cr H k else H j
theorem seF_at (H : Nat → Nat) (k : Nat) : seF H k k = H k + cr H k := by unfold seF; rw [if_neg (by omega), if_pos rfl]
theorem seF_nx (H : Nat → Nat) (k : Nat) : seF H k (k + 1) = H (k + 1) := by unfold seF; rw [if_neg (by omega), if_neg (by omega)]
theorem seF_zero {G H : Nat → Nat} (h : ∀ i, G i = H i) : ai 44 G = ai 44 (seF H 0) := ai_congr fun i _ => by
  unfold seF; rw [if_neg (by omega), h]
  split
  · rename_i e; subst e; rw [cr_zero]; rfl
  · rfl
theorem seF_next {H : Nat → Nat} {k : Nat} : ai 44 (updN (updN (seF H k) (k + 1) (seF H k (k + 1) + seF H k k / 4096)) k (updN (seF H k) (k + 1) (seF H k (k + 1) + seF H k k / 4096) k % 4096)) = ai 44 (seF H (k + 1)) := ai_congr fun i _ => by
  have e0 : updN (seF H k) (k + 1) (seF H k (k + 1) + seF H k k / 4096) k = seF H k k := by unfold updN; rw [if_neg (by omega)]
  rw [e0, seF_nx, seF_at, cr_next, cr_dig]
  unfold updN
  by_cases e1 : i = k
  · subst e1; rw [if_pos rfl]; unfold seF; rw [if_pos (by omega)]
  · rw [if_neg e1]
    by_cases e2 : i = k + 1
    · subst e2; rw [if_pos rfl]; unfold seF; rw [if_neg (by omega), if_pos rfl]
    · rw [if_neg e2]; unfold seF
      by_cases h1 : i < k
      · rw [if_pos h1, if_pos (by omega), pv_low H h1]
      · rw [if_neg h1, if_neg e1, if_neg (show ¬ i < k + 1 by omega), if_neg e2]
theorem SS_lt {U : Nat} (h : U < 4096 ^ 22) : SS U < 8 * 4096 ^ 21 + 9728 := by
  have h1 : U % (8 * 4096 ^ 21) < 8 * 4096 ^ 21 := Nat.mod_lt _ (by have := p4 21; omega)
  have h2 : U / (8 * 4096 ^ 21) < 512 := by
    rw [Nat.div_lt_iff_lt_mul (by have := p4 21; omega)]
    rw [show 512 * (8 * 4096 ^ 21) = 4096 ^ 22 by decide +kernel]; exact h
  unfold SS; omega
theorem SS_lt2 {U : Nat} (h : U < 4096 ^ 22) : SS (SS U) < 8 * 4096 ^ 21 := by
  have h1 := SS_lt h
  have hp : (4096 : Nat) ^ 21 = 7237005577332262213973186563042994240829374041602535252466099000494570602496 := by decide +kernel
  by_cases hlt : SS U < 8 * 4096 ^ 21
  · unfold SS at *
    rw [Nat.mod_eq_of_lt hlt, Nat.div_eq_of_lt hlt]; omega
  · have e1 : SS U / (8 * 4096 ^ 21) = 1 := Nat.div_eq_of_lt_le (by omega) (by rw [hp] at h1 ⊢; omega)
    have e2 : SS U % (8 * 4096 ^ 21) = SS U - 8 * 4096 ^ 21 := by
      have := Nat.mod_add_div (SS U) (8 * 4096 ^ 21)
      rw [e1] at this; omega
    show SS U % _ + 19 * (SS U / _) < _
    rw [e1, e2, hp] at *; omega
theorem SS_big {U : Nat} (h : U < 4096 ^ 22) : SS U < 4096 ^ 22 := Nat.lt_trans (SS_lt h) (by decide +kernel)
theorem SS_mod (V : Nat) : SS V % pp = V % pp := by
  have h0 : (8 * 4096 ^ 21) % pp = 19 := by decide +kernel
  have h1 : V = V % (8 * 4096 ^ 21) + (8 * 4096 ^ 21) * (V / (8 * 4096 ^ 21)) := (Nat.mod_add_div _ _).symm
  have h2 : V % pp = (V % (8 * 4096 ^ 21) + (8 * 4096 ^ 21) * (V / (8 * 4096 ^ 21))) % pp := by rw [← h1]
  have h3 : 19 % pp = 19 := Nat.mod_eq_of_lt (by decide +kernel)
  unfold SS
  rw [h2, Nat.add_mod, Nat.mul_mod 19, Nat.add_mod (V % (8 * 4096 ^ 21)), Nat.mul_mod (8 * 4096 ^ 21), h0, h3]
def uV (U : Nat) : Nat → Nat
  | 0 => U
  | r + 1 => SS (uV U r)
theorem uV_lt {U : Nat} (h : U < 4096 ^ 22) : ∀ r, uV U r < 4096 ^ 22 := by
  intro r
  induction r with
  | zero => exact h
  | succ r ih => exact SS_big ih
theorem seF_end {U : Nat} (h : U < 4096 ^ 22) : ai 44 (seF (hF U) 21) = ai 44 (dg (SS U)) := ai_congr fun i _ => by
  have hp := pv_hF h
  have hb := SS_big h
  unfold seF
  by_cases h1 : i < 21
  · rw [if_pos h1, ← hp, pv_low _ h1]
  · rw [if_neg h1]
    by_cases h2 : i = 21
    · subst h2; rw [if_pos rfl, cr_sum, hp, div_top hb]
    · rw [if_neg h2, dg_big hb i (by omega)]
      unfold hF
      rw [if_neg (by omega), if_neg h2, dg_big h i (by omega)]
/-- A copy, k figures done. -/
def cpF (V k j : Nat) : Nat := if j < k then dg V j else 0
theorem cpF_zero (V : Nat) : ai 22 (fun _ => 0) = ai 22 (cpF V 0) := ai_congr fun i _ => by simp [cpF]
theorem cpF_next (V k : Nat) : ai 22 (updN (cpF V k) k (dg V k)) = ai 22 (cpF V (k + 1)) := ai_congr fun i _ => by
  unfold updN cpF
  by_cases e : i = k
  · subst e; simp
  · have : (i < k + 1) = (i < k) := by simp; omega
    simp [e, this]
theorem cpF_end (V : Nat) : ai 22 (cpF V 22) = ai 22 (dg (V - 0 * pp)) := ai_congr fun i hi => by simp [cpF, hi]
theorem q_lt {V k : Nat} (h : k < V / pp) : pp ≤ V - k * pp := by
  have h1 : (k + 1) * pp ≤ V / pp * pp := Nat.mul_le_mul_right _ h
  have h2 : V / pp * pp ≤ V := Nat.div_mul_le_self V pp
  rw [Nat.add_mul, Nat.one_mul] at h1
  omega
theorem q_end (V : Nat) : V - V / pp * pp = V % pp := by
  have := Nat.mod_add_div V pp
  rw [Nat.mul_comm] at this; omega
theorem q_next (V k : Nat) : V - k * pp - pp = V - (k + 1) * pp := by rw [Nat.add_mul, Nat.one_mul]; omega
theorem sub_big {V k : Nat} (h : V < 4096 ^ 22) : V - k * pp < 4096 ^ 22 := Nat.lt_of_le_of_lt (Nat.sub_le _ _) h
theorem pp_big : pp < 4096 ^ 22 := by decide +kernel
end Go.Proofs.Ytchbkkjjbdgdoaa

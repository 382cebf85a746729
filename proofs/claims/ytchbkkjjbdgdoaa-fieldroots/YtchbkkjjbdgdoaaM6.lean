/- Sums and products of numbers, figure by figure. -/
import Derived.Test.YtchbkkjjbdgdoaaRef3
namespace Go.Proofs.Ytchbkkjjbdgdoaa

def plF (m n k j : Nat) : Nat := if j < k then dg m j + dg n j else 0
theorem plF_zero (m n : Nat) : ai 44 (fun _ => 0) = ai 44 (plF m n 0) := ai_congr fun i _ => by simp [plF]
theorem plF_next (m n k : Nat) : ai 44 (updN (plF m n k) k (dg m k + dg n k)) = ai 44 (plF m n (k + 1)) := ai_congr fun i _ => by
  unfold updN plF
  by_cases e : i = k
  · subst e; simp
  · have : (i < k + 1) = (i < k) := by simp; omega
    simp [e, this]
theorem plF_lt (m n k i : Nat) : plF m n k i < 1099511627776 := by
  unfold plF
  have := dg_lt m i; have := dg_lt n i
  split <;> omega
theorem plF_pv {m n : Nat} (hm : m < 4096 ^ 22) (hn : n < 4096 ^ 22) : pv (plF m n 22) 44 = m + n := by
  have h1 : pv (plF m n 22) 44 = pv (plF m n 22) 22 := pv_zero (a := 22) 22 (fun j h1 _ => by unfold plF; rw [if_neg (by omega)])
  have h2 : pv (plF m n 22) 22 = pv (fun j => dg m j + 1 * dg n j) 22 := pv_congr 22 fun i hi => by unfold plF; rw [if_pos hi, Nat.one_mul]
  rw [h1, h2, pv_add, pv_dg, pv_dg, Nat.mod_eq_of_lt hm, Nat.mod_eq_of_lt hn, Nat.one_mul]
theorem plF_big {m n : Nat} (hm : m < 4096 ^ 22) (hn : n < 4096 ^ 22) : m + n < 4096 ^ 44 := by
  have : 4096 ^ 22 + 4096 ^ 22 < 4096 ^ 44 := by decide +kernel
  omega

theorem dm_le (m n i j : Nat) : dg m i * dg n j ≤ 16769025 := Nat.mul_le_mul (Nat.le_of_lt_succ (dg_lt m i)) (Nat.le_of_lt_succ (dg_lt n j))
/-- One row of a product, k figures done. -/
def roF (G : Nat → Nat) (i a n k j : Nat) : Nat := if i ≤ j ∧ j < i + k then G j + a * dg n (j - i) else G j
theorem roF_zero (G : Nat → Nat) (i a n : Nat) : ai 44 G = ai 44 (roF G i a n 0) := ai_congr fun j _ => by unfold roF; rw [if_neg (by omega)]
theorem roF_at (G : Nat → Nat) (i a n k : Nat) : roF G i a n k (i + k) = G (i + k) := by unfold roF; rw [if_neg (by omega)]
theorem roF_next (G : Nat → Nat) (i a n k : Nat) : ai 44 (updN (roF G i a n k) (i + k) (roF G i a n k (i + k) + a * dg n k)) = ai 44 (roF G i a n (k + 1)) := ai_congr fun j _ => by
  rw [roF_at]
  unfold updN
  by_cases e : j = i + k
  · subst e; rw [if_pos rfl]; unfold roF; rw [if_pos (by omega), show i + k - i = k by omega]
  · rw [if_neg e]; unfold roF
    by_cases h : i ≤ j ∧ j < i + k
    · rw [if_pos h, if_pos (by omega)]
    · rw [if_neg h, if_neg (by omega)]
/-- The rows of a product. -/
def tmF (m n : Nat) : Nat → Nat → Nat
  | 0 => fun _ => 0
  | i + 1 => roF (tmF m n i) i (dg m i) n 22
theorem tmF_lt (m n : Nat) : ∀ i j, tmF m n i j ≤ i * 16769025 := by
  intro i
  induction i with
  | zero => intro j; simp [tmF]
  | succ i ih =>
    intro j
    show roF (tmF m n i) i (dg m i) n 22 j ≤ _
    have h1 := ih j
    have h2 := dm_le m n i (j - i)
    rw [Nat.succ_mul]
    generalize i * 16769025 = y at *
    generalize dg m i * dg n (j - i) = x at *
    unfold roF
    split
    · generalize tmF m n i j = t at *
      show t + dg m i * dg n (j - i) ≤ _
      have h2 := dm_le m n i (j - i)
      omega
    · omega
theorem pv_roF (G : Nat → Nat) {i K : Nat} (n a : Nat) : ∀ k, i + k ≤ K → pv (roF G i a n k) K = pv G K + a * (n % 4096 ^ k) * 4096 ^ i := by
  intro k
  induction k with
  | zero =>
    intro _
    rw [pv_congr (G := G) K (fun j _ => by unfold roF; rw [if_neg (by omega)]), Nat.pow_zero, Nat.mod_one]; simp
  | succ k ih =>
    intro hk
    have ih := ih (by omega)
    have h1 : pv (roF G i a n (k + 1)) K = pv (updN (roF G i a n k) (i + k) (roF G i a n k (i + k) + a * dg n k)) K := pv_congr K fun j _ => by
      rw [roF_at]
      unfold updN
      by_cases e : j = i + k
      · subst e; rw [if_pos rfl]; unfold roF; rw [if_pos (by omega), show i + k - i = k by omega]
      · rw [if_neg e]; unfold roF
        by_cases h : i ≤ j ∧ j < i + k
        · rw [if_pos h, if_pos (by omega)]
        · rw [if_neg h, if_neg (by omega)]
    have h2 := pv_upd (roF G i a n k) (i + k) (roF G i a n k (i + k) + a * dg n k) K (by omega)
    rw [← h1, ih, Nat.add_mul] at h2
    have h3 : a * (n % 4096 ^ (k + 1)) * 4096 ^ i = a * (n % 4096 ^ k) * 4096 ^ i + a * dg n k * 4096 ^ (i + k) := by
      rw [mod_step, Nat.mul_add, Nat.add_mul, Nat.pow_add, Nat.mul_assoc a (dg n k), Nat.mul_comm (4096 ^ i) (4096 ^ k)]
      simp only [Nat.mul_assoc]
    omega
theorem pv_tmF {m n : Nat} (hn : n < 4096 ^ 22) : ∀ i, i ≤ 22 → pv (tmF m n i) 44 = (m % 4096 ^ i) * n := by
  intro i
  induction i with
  | zero =>
    intro _
    rw [Nat.pow_zero, Nat.mod_one, Nat.zero_mul]
    have h : ∀ k, pv (tmF m n 0) k = 0 := by
      intro k
      induction k with
      | zero => rfl
      | succ k ih => rw [pv, ih]; simp [tmF]
    exact h 44
  | succ i ih =>
    intro hi
    show pv (roF (tmF m n i) i (dg m i) n 22) 44 = _
    rw [pv_roF _ _ _ 22 (by omega), ih (by omega), Nat.mod_eq_of_lt hn, mod_step, Nat.add_mul]
    congr 1
    rw [Nat.mul_assoc, Nat.mul_comm n, ← Nat.mul_assoc]
theorem tmF_pv {m n : Nat} (hm : m < 4096 ^ 22) (hn : n < 4096 ^ 22) : pv (tmF m n 22) 44 = m * n := by
  rw [pv_tmF hn 22 (by omega), Nat.mod_eq_of_lt hm]
theorem tmF_big {m n : Nat} (hm : m < 4096 ^ 22) (hn : n < 4096 ^ 22) : m * n < 4096 ^ 44 := by
  rw [show 4096 ^ 44 = 4096 ^ 22 * 4096 ^ 22 from by decide +kernel]
  exact Nat.mul_lt_mul_of_lt_of_lt hm hn
theorem tmF_fl (m n i j : Nat) (hi : i ≤ 22) : tmF m n i j < 1099511627776 := by
  have := tmF_lt m n i j
  have : i * 16769025 ≤ 22 * 16769025 := Nat.mul_le_mul_right _ hi
  omega
end Go.Proofs.Ytchbkkjjbdgdoaa

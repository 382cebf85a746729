/- Numbers by their figures of 12 bits. -/
import Derived.Test.YtchbkkjjbdgdoaaRef1
namespace Go.Proofs.Ytchbkkjjbdgdoaa

/-- The number of the first k figures. -/
def pv (F : Nat → Nat) : Nat → Nat
  | 0 => 0
  | k + 1 => pv F k + F k * 4096 ^ k

theorem p4 (k : Nat) : 0 < 4096 ^ k := Nat.pow_pos (by omega)
theorem div_step (n k : Nat) : n / 4096 ^ k = dg n k + 4096 * (n / 4096 ^ (k + 1)) := by
  unfold dg
  rw [Nat.pow_succ, ← Nat.div_div_eq_div_mul]
  omega
theorem mod_step (n k : Nat) : n % 4096 ^ (k + 1) = n % 4096 ^ k + dg n k * 4096 ^ k := by
  unfold dg
  rw [Nat.pow_succ, Nat.mod_mul, Nat.mul_comm]
theorem pv_dg (n : Nat) : ∀ k, pv (dg n) k = n % 4096 ^ k := by
  intro k
  induction k with
  | zero => simp [pv, Nat.mod_one]
  | succ k ih => rw [pv, ih, mod_step]
theorem pv_congr {F G : Nat → Nat} : ∀ k, (∀ i, i < k → F i = G i) → pv F k = pv G k := by
  intro k
  induction k with
  | zero => intro _; rfl
  | succ k ih => intro h; rw [pv, pv, ih (fun i hi => h i (by omega)), h k (by omega)]
theorem dg_big {n k : Nat} (h : n < 4096 ^ k) (i : Nat) (hi : k ≤ i) : dg n i = 0 := by
  unfold dg
  rw [Nat.div_eq_of_lt (Nat.lt_of_lt_of_le h (Nat.pow_le_pow_right (by omega) hi))]
theorem div_top {n k : Nat} (h : n < 4096 ^ (k + 1)) : dg n k = n / 4096 ^ k := by
  unfold dg
  refine Nat.mod_eq_of_lt (Nat.div_lt_of_lt_mul ?_)
  rw [← Nat.pow_succ]; exact h

/-- Which is below: by the highest figure that differs. -/
theorem top_eq {m n k : Nat} (h : m / 4096 ^ (k + 1) = n / 4096 ^ (k + 1)) (hd : dg m k = dg n k) : m / 4096 ^ k = n / 4096 ^ k := by
  rw [div_step m k, div_step n k, h, hd]
theorem lt_of_div {m n d : Nat} (h : m / d < n / d) : m < n := by
  rcases Nat.lt_or_ge m n with h1 | h1
  · exact h1
  · exact absurd (Nat.div_le_div_right (c := d) h1) (by omega)
theorem top_lt {m n k : Nat} (h : m / 4096 ^ (k + 1) = n / 4096 ^ (k + 1)) (hd : dg m k < dg n k) : m < n := by
  refine lt_of_div (d := 4096 ^ k) ?_
  rw [div_step m k, div_step n k, h]; omega

/-- What is borrowed of figure number k. -/
def bo (m n k : Nat) : Nat := if m % 4096 ^ k < n % 4096 ^ k then 1 else 0
theorem bo_le (m n k : Nat) : bo m n k ≤ 1 := by unfold bo; split <;> omega
theorem bo_zero (m n : Nat) : bo m n 0 = 0 := by simp [bo, Nat.mod_one]
theorem bo_yes {m n k : Nat} (h : dg m k < dg n k + bo m n k) : bo m n (k + 1) = 1 := by
  unfold bo at *
  rw [if_pos]
  rw [mod_step m k, mod_step n k]
  have hm : m % 4096 ^ k < 4096 ^ k := Nat.mod_lt _ (p4 k)
  have hn : n % 4096 ^ k < 4096 ^ k := Nat.mod_lt _ (p4 k)
  split at h
  · have : dg m k * 4096 ^ k ≤ dg n k * 4096 ^ k := Nat.mul_le_mul_right _ (by omega)
    omega
  · have : (dg m k + 1) * 4096 ^ k ≤ dg n k * 4096 ^ k := Nat.mul_le_mul_right _ (by omega)
    rw [Nat.add_mul, Nat.one_mul] at this
    omega
theorem bo_no {m n k : Nat} (h : dg n k + bo m n k ≤ dg m k) : bo m n (k + 1) = 0 := by
  unfold bo at *
  rw [if_neg]
  rw [mod_step m k, mod_step n k]
  have hm : m % 4096 ^ k < 4096 ^ k := Nat.mod_lt _ (p4 k)
  have hn : n % 4096 ^ k < 4096 ^ k := Nat.mod_lt _ (p4 k)
  split at h
  · have : (dg n k + 1) * 4096 ^ k ≤ dg m k * 4096 ^ k := Nat.mul_le_mul_right _ (by omega)
    rw [Nat.add_mul, Nat.one_mul] at this
    omega
  · have : dg n k * 4096 ^ k ≤ dg m k * 4096 ^ k := Nat.mul_le_mul_right _ (by omega)
    omega
/-- A difference's quotients. -/
theorem sub_div {m n : Nat} (h : n ≤ m) : ∀ k, (m - n) / 4096 ^ k + n / 4096 ^ k + bo m n k = m / 4096 ^ k := by
  intro k
  have hp := p4 k
  have e1 : m = m / 4096 ^ k * 4096 ^ k + m % 4096 ^ k := (Nat.div_add_mod' m _).symm
  have e2 : n = n / 4096 ^ k * 4096 ^ k + n % 4096 ^ k := (Nat.div_add_mod' n _).symm
  have hm : m % 4096 ^ k < 4096 ^ k := Nat.mod_lt _ hp
  have hn : n % 4096 ^ k < 4096 ^ k := Nat.mod_lt _ hp
  unfold bo
  generalize 4096 ^ k = d at *
  generalize m / d = a at *
  generalize n / d = b at *
  generalize m % d = r at *
  generalize n % d = s at *
  have hab : b ≤ a := by
    rcases Nat.lt_or_ge a b with hlt | hge
    · exfalso
      have : (a + 1) * d ≤ b * d := Nat.mul_le_mul_right _ hlt
      rw [Nat.add_mul, Nat.one_mul] at this
      omega
    · exact hge
  obtain ⟨c, rfl⟩ : ∃ c, a = b + c := ⟨a - b, by omega⟩
  have e3 : (b + c) * d = b * d + c * d := Nat.add_mul _ _ _
  split
  · rename_i hlt
    have hc : 0 < c := by
      rcases Nat.eq_zero_or_pos c with h0 | h0
      · subst h0; rw [Nat.add_zero] at e1; omega
      · exact h0
    obtain ⟨c', rfl⟩ : ∃ c', c = c' + 1 := ⟨c - 1, by omega⟩
    have e4 : (c' + 1) * d = c' * d + d := by rw [Nat.add_mul, Nat.one_mul]
    have e5 : m - n = c' * d + (d + r - s) := by omega
    rw [e5, Nat.mul_comm, Nat.mul_add_div hp, Nat.div_eq_of_lt (by omega)]
    omega
  · have e5 : m - n = c * d + (r - s) := by omega
    rw [e5, Nat.mul_comm, Nat.mul_add_div hp, Nat.div_eq_of_lt (by omega)]
    omega
theorem sub_yes {m n k : Nat} (h : n ≤ m) (hb : dg m k < dg n k + bo m n k) : dg (m - n) k = dg m k + 4096 - (dg n k + bo m n k) := by
  have h1 := sub_div h k
  have h2 := sub_div h (k + 1)
  rw [bo_yes hb] at h2
  rw [div_step m k, div_step n k, div_step (m - n) k] at h1
  have := dg_lt (m - n) k; have := dg_lt m k; have := dg_lt n k
  omega
theorem sub_no {m n k : Nat} (h : n ≤ m) (hb : dg n k + bo m n k ≤ dg m k) : dg (m - n) k = dg m k - (dg n k + bo m n k) := by
  have h1 := sub_div h k
  have h2 := sub_div h (k + 1)
  rw [bo_no hb] at h2
  rw [div_step m k, div_step n k, div_step (m - n) k] at h1
  have := dg_lt (m - n) k; have := dg_lt m k; have := dg_lt n k
  omega
/-- A difference, so many figures of it done. -/
def suF (m n k j : Nat) : Nat := if j < k then dg (m - n) j else dg m j
theorem suF_at (m n k : Nat) : suF m n k k = dg m k := by simp [suF]
theorem suF_next {m n k v : Nat} (h : v = dg (m - n) k) : ai 22 (updN (suF m n k) k v) = ai 22 (suF m n (k + 1)) := ai_congr fun i _ => by
  unfold updN suF
  by_cases e : i = k
  · subst e; simp [h]
  · have : (i < k + 1) = (i < k) := by simp; omega
    simp [e, this]
theorem suF_zero (m n : Nat) : ai 22 (dg m) = ai 22 (suF m n 0) := ai_congr fun i _ => by simp [suF]
theorem suF_end (m n : Nat) : ai 22 (suF m n 22) = ai 22 (dg (m - n)) := ai_congr fun i hi => by simp [suF, hi]
end Go.Proofs.Ytchbkkjjbdgdoaa

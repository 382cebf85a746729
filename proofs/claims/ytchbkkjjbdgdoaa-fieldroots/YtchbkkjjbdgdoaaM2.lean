/- Which numbers are squares modulo the prime. -/
import Derived.Test.YtchbkkjjbdgdoaaAnyRoot
namespace Go.Proofs.Ytchbkkjjbdgdoaa

theorem pp_prm : Prm pp := prmP
theorem dvd_of_mod_eq {a b n : Nat} (h : a % n = b % n) : n ∣ a - b := Nat.dvd_of_mod_eq_zero (Nat.sub_mod_eq_zero_of_mod_eq h)

theorem sq_le {S m : Nat} (hS : S < pp) (hm : m ≤ S) (h : S * S % pp = m * m % pp) : S = m ∨ S + m = pp := by
  have h1 : pp ∣ S * S - m * m := dvd_of_mod_eq h
  rw [Nat.mul_self_sub_mul_self_eq] at h1
  rcases pp_prm.euclid h1 with h2 | h2
  · by_cases e : S + m = 0
    · left; omega
    · right
      have := Nat.le_of_dvd (by omega) h2
      obtain ⟨c, hc⟩ := h2
      have : c = 1 := by
        rcases Nat.lt_or_ge c 2 with h | h
        · match c, h with
          | 0, _ => simp at hc; omega
          | 1, _ => rfl
        · have : pp * 2 ≤ pp * c := Nat.mul_le_mul_left _ h
          omega
      subst this; omega
  · left
    by_cases e : S - m = 0
    · omega
    · have := Nat.le_of_dvd (by omega) h2; omega
theorem sq_eq {S m : Nat} (hS : S < pp) (hm : m < pp) (h : S * S % pp = m * m % pp) : S = m ∨ S + m = pp := by
  rcases Nat.le_total m S with h1 | h1
  · exact sq_le hS h1 h
  · rcases sq_le hm h1 h.symm with h2 | h2
    · exact Or.inl h2.symm
    · right; omega

theorem neg_mul {S : Nat} (hS : S < pp) : S * (pp - 1) % pp = (pp - S) % pp := by
  have h : S * (pp - 1) + S = S * pp := by
    have := pp_pos
    rw [← Nat.mul_succ, Nat.succ_eq_add_one, Nat.sub_add_cancel this]
  rcases Nat.eq_zero_or_pos S with h0 | h0
  · subst h0; simp
  · have h2 : S * (pp - 1) = (pp - S) + (S - 1) * pp := by
      have h3 : S * pp = (S - 1) * pp + pp := by
        rw [← Nat.succ_mul, Nat.succ_eq_add_one, Nat.sub_add_cancel h0]
      omega
    rw [h2, Nat.add_mul_mod_self_right]

theorem iRt_sq : iRt * iRt % pp = pp - 1 := by decide +kernel

theorem sq_neg {y : Nat} (hy : y ≤ pp) : (pp - y) * (pp - y) % pp = y * y % pp := by
  obtain ⟨d, hd⟩ : ∃ d, pp = y + d := ⟨pp - y, by omega⟩
  have e1 : (pp - y) * (pp - y) + y * pp = y * y + (pp - y) * pp := by
    have e2 : pp - y = d := by omega
    rw [e2, hd, Nat.mul_add, Nat.mul_add, Nat.mul_comm d y]
    omega
  have h1 : ((pp - y) * (pp - y) + y * pp) % pp = (pp - y) * (pp - y) % pp := Nat.add_mul_mod_self_right _ _ _
  have h2 : (y * y + (pp - y) * pp) % pp = y * y % pp := Nat.add_mul_mod_self_right _ _ _
  rw [← h1, e1, h2]

/-- Where the power is 1 there is a root. -/
theorem root_of_one {m h k R : Nat} (hm : m < pp) (hk : 4 * k = h + 2) (h1 : m ^ h % pp = 1) (hR : R = m ^ k % pp) : aRt R m * aRt R m % pp = m := by
  have hS : (R * R % pp) * (R * R % pp) % pp = m * m % pp := by
    have e : (R * R % pp) * (R * R % pp) % pp = m ^ (4 * k) % pp := by
      rw [← Nat.mul_mod, hR, ← Nat.mul_mod_mod, ← Nat.mod_mul_mod]
      have e1 : m ^ k % pp * (m ^ k % pp) % pp = m ^ (k + k) % pp := by rw [← Nat.mul_mod, Nat.pow_add]
      rw [e1, ← Nat.mul_mod, ← Nat.pow_add]
      congr 2
      omega
    rw [e, hk, Nat.pow_add, ← Nat.mod_mul_mod, h1, Nat.one_mul, Nat.pow_two]
  rcases sq_eq (mod_pp _) hm hS with h2 | h2
  · rw [aRt_t h2]; exact h2
  · by_cases h3 : R * R % pp = m
    · rw [aRt_t h3]; exact h3
    · rw [aRt_f h3]
      have e2 : R * iRt * (R * iRt) = R * R * (iRt * iRt) := by
        rw [Nat.mul_assoc, Nat.mul_assoc]; congr 1
        rw [← Nat.mul_assoc, ← Nat.mul_assoc, Nat.mul_comm iRt R]
      rw [← Nat.mul_mod, e2, ← Nat.mod_mul_mod, ← Nat.mul_mod_mod, iRt_sq, neg_mul (mod_pp _)]
      have : pp - R * R % pp = m := by omega
      rw [this, Nat.mod_eq_of_lt hm]
theorem one_of_root {m y h : Nat} (hh : 2 * h + 1 = pp) (h0 : m ≠ 0) (hy : y * y % pp = m) : m ^ h % pp = 1 := by
  have hd : ¬ pp ∣ y := by
    rintro ⟨c, rfl⟩
    rw [Nat.mul_assoc, Nat.mul_mod_right] at hy
    exact h0 hy.symm
  have hf := fermat pp_prm y hd
  rw [← hy, ← Nat.pow_mod, ← Nat.pow_two, ← Nat.pow_mul]
  rw [show 2 * h = pp - 1 by omega]; exact hf
theorem pm_one {m h : Nat} (hh : 2 * h + 1 = pp) (hm : m < pp) (h0 : m ≠ 0) : m ^ h % pp = 1 ∨ m ^ h % pp = pp - 1 := by
  have hd : ¬ pp ∣ m := fun hd => by have := Nat.le_of_dvd (by omega) hd; omega
  have hf := fermat pp_prm m hd
  have hS : (m ^ h % pp) * (m ^ h % pp) % pp = 1 * 1 % pp := by
    rw [← Nat.mul_mod, ← Nat.pow_add, show h + h = pp - 1 by omega, hf]; rfl
  have h1p : 1 < pp := by decide +kernel
  rcases sq_eq (mod_pp _) h1p hS with h1 | h1
  · exact Or.inl h1
  · right; omega
theorem mul_pow_mod {a b h : Nat} : (a * b % pp) ^ h % pp = (a ^ h % pp) * (b ^ h % pp) % pp := by
  rw [← Nat.pow_mod, Nat.mul_pow, ← Nat.mul_mod]
theorem mul_ne {a b : Nat} (ha : a < pp) (hb : b < pp) (h1 : a ≠ 0) (h2 : b ≠ 0) : a * b % pp ≠ 0 := by
  intro h
  rcases pp_prm.euclid (Nat.dvd_of_mod_eq_zero h) with h3 | h3
  · have := Nat.le_of_dvd (by omega) h3; omega
  · have := Nat.le_of_dvd (by omega) h3; omega

/-- The even one of a number and its opposite. -/
def evn (y : Nat) : Nat := if y % 2 = 0 then y else (0 + (pp - y)) % pp
theorem evn_t {y : Nat} (h : y % 2 = 0) : evn y = y := if_pos h
theorem evn_f {y : Nat} (h : ¬ y % 2 = 0) : evn y = (0 + (pp - y)) % pp := if_neg h
theorem pp_odd : pp % 2 = 1 := by decide +kernel
theorem evn_spec {y : Nat} (hy : y < pp) : evn y < pp ∧ evn y % 2 = 0 ∧ evn y * evn y % pp = y * y % pp := by
  by_cases h : y % 2 = 0
  · rw [evn_t h]; exact ⟨hy, h, rfl⟩
  · have h1 : (0 + (pp - y)) % pp = pp - y := by rw [Nat.zero_add, Nat.mod_eq_of_lt (by omega)]
    rw [evn_f h, h1]
    have := pp_odd
    exact ⟨by omega, by omega, sq_neg (by omega)⟩
end Go.Proofs.Ytchbkkjjbdgdoaa

/- Halves, and powers bit by bit. -/
import Derived.Test.YtchbkkjjbdgdoaaX7
import Derived.Test.YtchbkkjjbdgdoaaRef5
namespace Go.Proofs.Ytchbkkjjbdgdoaa

theorem half_dig (n k : Nat) : dg (n / 2) k = (dg n k + dg n (k + 1) % 2 * 4096) / 2 := by
  have h1 := div_step n k
  have h2 : n / 2 / 4096 ^ k = n / 4096 ^ k / 2 := by rw [Nat.div_div_eq_div_mul, Nat.div_div_eq_div_mul, Nat.mul_comm]
  have h3 : dg n (k + 1) = n / 4096 ^ (k + 1) % 4096 := rfl
  have h4 := dg_lt n k
  unfold dg at h4 ⊢
  rw [h2]
  unfold dg at h1 h3
  generalize n / 4096 ^ (k + 1) = q at *
  generalize n / 4096 ^ k = p at *
  omega
def haF (n k j : Nat) : Nat := if j < k then dg (n / 2) j else dg n j
theorem haF_at (n k : Nat) : haF n k k = dg n k := by simp [haF]
theorem haF_nx (n k : Nat) : haF n k (k + 1) = dg n (k + 1) := by unfold haF; rw [if_neg (by omega)]
theorem haF_zero (n : Nat) : ai 22 (dg n) = ai 22 (haF n 0) := ai_congr fun i _ => by simp [haF]
theorem haF_end (n : Nat) : ai 22 (haF n 22) = ai 22 (dg (n / 2)) := ai_congr fun i hi => by simp [haF, hi]
theorem haF_set {n k v : Nat} (h : v = dg (n / 2) k) : ai 22 (updN (haF n k) k v) = ai 22 (haF n (k + 1)) := ai_congr fun i _ => by
  unfold updN haF
  by_cases e : i = k
  · subst e; simp [h]
  · have : (i < k + 1) = (i < k) := by simp; omega
    simp [e, this]
theorem haF_next (n k : Nat) : ai 22 (updN (haF n k) k ((haF n k k + haF n k (k + 1) % 2 * 4096) / 2)) = ai 22 (haF n (k + 1)) := haF_set (by rw [haF_at, haF_nx, half_dig])
theorem haF_last {n : Nat} (hn : n < 4096 ^ 22) : ai 22 (updN (haF n 21) 21 (haF n 21 21 / 2)) = ai 22 (haF n 22) := haF_set (by rw [haF_at, half_dig, dg_big hn 22 (by omega)]; omega)

/-- Counting down from 254. -/
def dp (k : Nat) : Int := 254 - (k : Int)
theorem dp_ix {k : Nat} (h : k < 255) : dp k = ((254 - k : Nat) : Int) := by unfold dp; omega
theorem sb_dp {x u : Operand} {k : Nat} (h : k < 255) (w : World) : (do eqGuard .sub 3 x u (.int .i64 ((254 - k : Nat) : Int)) (.int .i64 ((1 : Nat) : Int)); binOp .sub 3 (.int .i64 ((254 - k : Nat) : Int)) (.int .i64 ((1 : Nat) : Int))).run Try.prog w = .ok (.int .i64 (dp (k + 1))) w := by
  have := sb_z (x := x) (u := u) (m := ((254 - k : Nat) : Int)) (n := ((1 : Nat) : Int)) (by omega) (by omega) w
  rwa [show ((254 - k : Nat) : Int) - ((1 : Nat) : Int) = dp (k + 1) by unfold dp; omega] at this
/-- The power by the highest k of 255 bits. -/
def pw (m e k : Nat) : Nat := m ^ (e / 2 ^ (255 - k)) % pp
theorem pw_lt (m e k : Nat) : pw m e k < pp := mod_pp _
theorem pw_zero {m e : Nat} (he : e < 2 ^ 255) : pw m e 0 = 1 := by
  unfold pw
  rw [Nat.div_eq_of_lt he, Nat.pow_zero]
  exact Nat.mod_eq_of_lt (by decide +kernel)
theorem pw_end (m e : Nat) : pw m e 255 = m ^ e % pp := by unfold pw; simp
theorem bits_next {e k : Nat} (hk : k < 255) : e / 2 ^ (255 - (k + 1)) = e / 2 ^ (255 - k) + e / 2 ^ (255 - k) + bt e (254 - k) := by
  have h1 : 255 - (k + 1) = 254 - k := by omega
  have h2 : 255 - k = 254 - k + 1 := by omega
  unfold bt
  rw [h1, h2, Nat.pow_succ, ← Nat.div_div_eq_div_mul]
  generalize e / 2 ^ (254 - k) = q
  omega
theorem pw_one {m e k : Nat} (hk : k < 255) (hb : bt e (254 - k) = 1) : pw m e k * pw m e k % pp * m % pp = pw m e (k + 1) := by
  unfold pw
  rw [bits_next hk, hb, Nat.pow_add, Nat.pow_add, Nat.pow_one, ← Nat.mul_mod, Nat.mod_mul_mod]
theorem pw_none {m e k : Nat} (hk : k < 255) (hb : bt e (254 - k) = 0) : pw m e k * pw m e k % pp = pw m e (k + 1) := by
  unfold pw
  rw [bits_next hk, hb, Nat.add_zero, Nat.pow_add, ← Nat.mul_mod]

theorem neg_eq {m : Nat} (h1 : 1 ≤ m) (h2 : m ≤ 9223372036854775808) : ((0 + (pp - (m - 1))) % pp + (pp - 1)) % pp = pp - m := by
  have hp : 9223372036854775808 < pp := by decide +kernel
  by_cases e : m = 1
  · subst e
    simp only [Nat.sub_self, Nat.sub_zero, Nat.zero_add, Nat.mod_self]
    exact Nat.mod_eq_of_lt (by omega)
  · rw [Nat.zero_add, Nat.mod_eq_of_lt (show pp - (m - 1) < pp by omega), show pp - (m - 1) + (pp - 1) = pp - m + pp by omega, Nat.add_mod_right, Nat.mod_eq_of_lt (by omega)]
theorem one_lt : 1 < pp := by decide +kernel
theorem two_lt : 2 < pp := by decide +kernel
end Go.Proofs.Ytchbkkjjbdgdoaa

/- The sum of points by numbers, program's against reference's. -/
import Derived.Test.YtgiemldmphbolaaCurveOfWalk
namespace Go.Proofs.Ytgiemldmphbolaa
open Go.RowKit
theorem ring_x {R : Type} [Lean.Grind.CommRing R] (x1 y1 x2 y2 d o t : R) : ((y1 + x1) * (y2 + x2) - (y1 - x1) * (y2 - x2)) * ((o * o + o * o) - (t * d + t * d)) = ((x1 * y2 + y1 * x2) * (o * o - d * t) + (x1 * y2 + y1 * x2) * (o * o - d * t)) + ((x1 * y2 + y1 * x2) * (o * o - d * t) + (x1 * y2 + y1 * x2) * (o * o - d * t)) := by grind
theorem ring_y {R : Type} [Lean.Grind.CommRing R] (x1 y1 x2 y2 d o t : R) : ((y1 + x1) * (y2 + x2) + (y1 - x1) * (y2 - x2)) * ((o * o + o * o) + (t * d + t * d)) = ((o * o + d * t) * (y1 * y2 + x1 * x2) + (o * o + d * t) * (y1 * y2 + x1 * x2)) + ((o * o + d * t) * (y1 * y2 + x1 * x2) + (o * o + d * t) * (y1 * y2 + x1 * x2)) := by grind
theorem ring_z {R : Type} [Lean.Grind.CommRing R] (d o t : R) : ((o * o + o * o) + (t * d + t * d)) * ((o * o + o * o) - (t * d + t * d)) = ((o * o - d * t) * (o * o + d * t) + (o * o - d * t) * (o * o + d * t)) + ((o * o - d * t) * (o * o + d * t) + (o * o - d * t) * (o * o + d * t)) := by grind
theorem ring_q {R : Type} [Lean.Grind.CommRing R] (f g o x w : R) (h1 : f * g = o) (h2 : o * (x * w) = x * w) : f * x * (o * (g * w)) = x * w := by grind
theorem ring_n {R : Type} [Lean.Grind.CommRing R] (z x y : R) (h : z * y = z) : z - x * y = (z - x) * y := by grind
instance : NeZero pp := ⟨by decide +kernel⟩
def cf (n : Nat) : Fin pp := Fin.ofNat pp n
theorem cf_mu (m n : Nat) : cf (mu m n) = cf m * cf n := by
  apply Fin.ext
  simp only [cf, mu, Fin.ofNat, Fin.val_mul]
  rw [Nat.mod_mod, Nat.mul_mod]
theorem cf_ad (m n : Nat) : cf (ad m n) = cf m + cf n := by
  apply Fin.ext
  simp only [cf, ad, Fin.ofNat, Fin.val_add]
  rw [Nat.mod_mod, Nat.add_mod]
theorem cf_sb {m n : Nat} (h : n < pp) : cf (sb m n) = cf m - cf n := by
  apply Fin.ext
  simp only [cf, sb, Fin.ofNat, Fin.sub_def]
  rw [Nat.mod_mod, Nat.mod_eq_of_lt h, Nat.add_mod_mod, Nat.add_comm]
theorem cf_inj {m n : Nat} (hm : m < pp) (hn : n < pp) (h : cf m = cf n) : m = n := by
  have := congrArg Fin.val h
  simp only [cf, Fin.ofNat] at this
  rwa [Nat.mod_eq_of_lt hm, Nat.mod_eq_of_lt hn] at this
def qd (n : Nat) : Nat := ad (ad n n) (ad n n)
theorem qd_mu (n : Nat) : qd n = mu 4 n := by
  unfold qd ad mu
  rw [← Nat.add_mod]
  exact congrArg (· % pp) (by omega)
theorem inv_mu (m n : Nat) : inv (mu m n) = mu (inv m) (inv n) := by
  obtain ⟨k, hk⟩ : ∃ k : Nat, k = 57896044618658097711785492504343953926634992332820282019728792003956564819947 := ⟨_, rfl⟩
  rw [← inv_pow_eq hk, ← inv_pow_eq hk, ← inv_pow_eq hk]
  exact mul_pow_mod
theorem one_mu {n : Nat} (h : n < pp) : mu 1 n = n := by unfold mu; rw [Nat.one_mul, Nat.mod_eq_of_lt h]
theorem four_inv : mu 4 (inv 4) = 1 := by decide +kernel
theorem quo {x z : Nat} : mu (qd x) (mu 1 (inv (qd z))) = mu x (inv z) := by
  rw [qd_mu, qd_mu, inv_mu]
  refine cf_inj (mu_lt _ _) (mu_lt _ _) ?_
  have h1 := congrArg cf four_inv
  have h2 := congrArg cf (one_mu (mu_lt x (inv z)))
  simp only [cf_mu] at h1 h2 ⊢
  exact ring_q _ _ _ _ _ h1 h2
theorem neg_mu {x y : Nat} (hx : x < pp) : sb 0 (mu x y) = mu (sb 0 x) y := by
  refine cf_inj (sb_lt _ _) (mu_lt _ _) ?_
  have h : mu 0 y = 0 := by unfold mu; rw [Nat.zero_mul, Nat.zero_mod]
  have h1 := congrArg cf h
  rw [cf_sb (mu_lt _ _), cf_mu, cf_mu, cf_sb hx]
  rw [cf_mu] at h1
  exact ring_n _ _ _ h1
def rX (x1 y1 x2 y2 t : Nat) : Nat := mu (ad (mu x1 y2) (mu y1 x2)) (sb (mu 1 1) (mu dN t))
def rY (x1 y1 x2 y2 t : Nat) : Nat := mu (ad (mu 1 1) (mu dN t)) (ad (mu y1 y2) (mu x1 x2))
def rZ (t : Nat) : Nat := mu (sb (mu 1 1) (mu dN t)) (ad (mu 1 1) (mu dN t))
theorem pX_eq {x1 y1 x2 y2 : Nat} (hx1 : x1 < pp) (hy1 : y1 < pp) (hx2 : x2 < pp) (hy2 : y2 < pp) : pX x1 (sb y1 1) x2 (sb y2 1) = qd (rX x1 y1 x2 y2 (mu (mu x1 y1) (mu x2 y2))) := by
  unfold pX rX
  rw [ad_sb hy1, ad_sb hy2]
  generalize ht : mu (mu x1 y1) (mu x2 y2) = t
  refine cf_inj (mu_lt _ _) (ad_lt _ _) ?_
  unfold qd
  rw [cf_mu, cf_sb (mu_lt _ _), cf_mu, cf_ad, cf_ad, cf_mu, cf_sb hx1, cf_sb hx2, cf_sb (ad_lt _ _), cf_ad, cf_ad, cf_ad, cf_ad, cf_mu, cf_mu, cf_mu, cf_ad, cf_mu, cf_mu, cf_sb (mu_lt _ _), cf_mu, cf_mu]
  exact ring_x _ _ _ _ _ _ _
theorem pY_eq {x1 y1 x2 y2 : Nat} (hx1 : x1 < pp) (hy1 : y1 < pp) (hx2 : x2 < pp) (hy2 : y2 < pp) : pY x1 (sb y1 1) x2 (sb y2 1) = qd (rY x1 y1 x2 y2 (mu (mu x1 y1) (mu x2 y2))) := by
  unfold pY rY
  rw [ad_sb hy1, ad_sb hy2]
  generalize ht : mu (mu x1 y1) (mu x2 y2) = t
  refine cf_inj (mu_lt _ _) (ad_lt _ _) ?_
  unfold qd
  simp only [cf_mu, cf_ad, cf_sb hx1, cf_sb hx2]
  exact ring_y _ _ _ _ _ _ _
theorem pZ_eq {x1 y1 x2 y2 : Nat} (hy1 : y1 < pp) (hy2 : y2 < pp) : pZ x1 (sb y1 1) x2 (sb y2 1) = qd (rZ (mu (mu x1 y1) (mu x2 y2))) := by
  unfold pZ rZ
  rw [ad_sb hy1, ad_sb hy2]
  generalize ht : mu (mu x1 y1) (mu x2 y2) = t
  refine cf_inj (mu_lt _ _) (ad_lt _ _) ?_
  unfold qd
  simp only [cf_mu, cf_ad, cf_sb (ad_lt _ _), cf_sb (mu_lt _ _)]
  exact ring_z _ _ _
theorem sx_eq {x1 y1 x2 y2 : Nat} (hx1 : x1 < pp) (hy1 : y1 < pp) (hx2 : x2 < pp) (hy2 : y2 < pp) : sx x1 (sb y1 1) x2 (sb y2 1) = mu (rX x1 y1 x2 y2 (mu (mu x1 y1) (mu x2 y2))) (inv (rZ (mu (mu x1 y1) (mu x2 y2)))) := by
  unfold sx
  rw [pX_eq hx1 hy1 hx2 hy2, pZ_eq hy1 hy2, quo]
theorem sy_eq {x1 y1 x2 y2 : Nat} (hx1 : x1 < pp) (hy1 : y1 < pp) (hx2 : x2 < pp) (hy2 : y2 < pp) : sy x1 (sb y1 1) x2 (sb y2 1) = mu (rY x1 y1 x2 y2 (mu (mu x1 y1) (mu x2 y2))) (inv (rZ (mu (mu x1 y1) (mu x2 y2)))) := by
  unfold sy
  rw [pY_eq hx1 hy1 hx2 hy2, pZ_eq hy1 hy2, quo]
/-- A point's text. -/
def tk (x y : Nat) : Nat → Nat := if x % 2 = 0 then kb y else updN (kb y) 31 (kb y 31 + 128)
theorem pk {x b : Nat} (hx : x < pp) (hb : b < pp) (W0 : World) : Calls Try.prog 12 #[.agg (ces [x, b])] W0 fun e w' => e = .returned (.agg (ck (tk x (ad b 1)))) ∧ Below W0.heap.size W0 w' := by
  unfold tk
  by_cases h : x % 2 = 0
  · have := pkey_e hx hb h W0
    rw [ck_congr (byt_kb _)] at this
    rw [if_pos h]; exact this
  · have := pkey_o hx hb h W0
    rw [ck_congr (G := updN (kb (ad b 1)) 31 (kb (ad b 1) 31 + 128)) (fun i hi => by
      unfold updN
      split
      · rw [byt_kb _ 31 (by omega)]
      · exact byt_kb _ i hi)] at this
    rw [if_neg h]; exact this
theorem rk {x1 y1 z1 t1 : Nat} (hx1 : x1 < pp) (hy1 : y1 < pp) (hz1 : z1 < pp) (W0 : World) : Calls Try.prog 13 #[.agg (cis [x1, y1, z1, t1])] W0 fun e w' => e = .returned (.agg (ck (tk (mu x1 (inv z1)) (mu y1 (inv z1))))) ∧ Below W0.heap.size W0 w' := by
  unfold tk
  by_cases h : mu x1 (inv z1) % 2 = 0
  · rw [if_pos h]; exact rkey_e hx1 hy1 hz1 h W0
  · rw [if_neg h]; exact rkey_o hx1 hy1 hz1 (by omega) W0
theorem kb_mod {m n : Nat} : ∀ k, (∀ i, i < k → kb m i = kb n i) → m % 256 ^ k = n % 256 ^ k
  | 0, _ => by rw [Nat.pow_zero, Nat.mod_one, Nat.mod_one]
  | k + 1, h => by
    rw [Nat.pow_succ, Nat.mod_mul, Nat.mod_mul, kb_mod k fun i hi => h i (by omega)]
    have := h k (by omega)
    unfold kb at this
    rw [this]
theorem kb_inj {m n : Nat} (hm : m < pp) (hn : n < pp) (h : ∀ i, i < 32 → kb m i = kb n i) : m = n := by
  have := kb_mod 32 h
  rwa [Nat.mod_eq_of_lt (pp_256 hm), Nat.mod_eq_of_lt (pp_256 hn)] at this
theorem tk_inj {x1 y1 x2 y2 : Nat} (hy1 : y1 < pp) (hy2 : y2 < pp) (h : ∀ i, i < 32 → tk x1 y1 i = tk x2 y2 i) : y1 = y2 ∧ x1 % 2 = x2 % 2 := by
  have t1 := kb_top hy1
  have t2 := kb_top hy2
  have e31 : ∀ x y, tk x y 31 = if x % 2 = 0 then kb y 31 else kb y 31 + 128 := by
    intro x y; unfold tk; split
    · rfl
    · unfold updN; rw [if_pos rfl]
  have eo : ∀ x y i, i ≠ 31 → tk x y i = kb y i := by
    intro x y i hi; unfold tk; split
    · rfl
    · unfold updN; rw [if_neg hi]
  have h31 := h 31 (by omega)
  rw [e31, e31] at h31
  have hp : x1 % 2 = x2 % 2 ∧ kb y1 31 = kb y2 31 := by
    split at h31 <;> split at h31 <;> omega
  refine ⟨kb_inj hy1 hy2 fun i hi => ?_, hp.1⟩
  by_cases e : i = 31
  · subst e; exact hp.2
  · have := h i hi
    rwa [eo _ _ _ e, eo _ _ _ e] at this
def uY (y : Nat) : Nat := mu (sb (mu y y) 1) (inv (ad (mu dN (mu y y)) 1))
theorem same_x {x1 x2 y : Nat} (hx1 : x1 < pp) (hx2 : x2 < pp) (h1 : mu x1 x1 = uY y) (h2 : mu x2 x2 = uY y) (hp : x1 % 2 = x2 % 2) : x1 = x2 := by
  rcases sq_eq hx1 hx2 (h1.trans h2.symm) with h | h
  · exact h
  · have := pp_odd
    omega
end Go.Proofs.Ytgiemldmphbolaa

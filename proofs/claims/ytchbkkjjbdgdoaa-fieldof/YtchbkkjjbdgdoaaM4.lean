/- Figures of any size made figures below 4096, and numbers modulo the prime, as the reference makes them. -/
import Derived.Test.YtchbkkjjbdgdoaaRef2
namespace Go.Proofs.Ytchbkkjjbdgdoaa

theorem ic {a b : Nat} (h : a = b) : Value.int .i64 ((a : Nat) : Int) = Value.int .i64 ((b : Nat) : Int) := by rw [h]
/-- What is carried behind k figures. -/
def cr (F : Nat → Nat) (k : Nat) : Nat := pv F k / 4096 ^ k
theorem cr_zero (F : Nat → Nat) : cr F 0 = 0 := by simp [cr, pv]
theorem cr_sum (F : Nat → Nat) (k : Nat) : F k + cr F k = pv F (k + 1) / 4096 ^ k := by
  unfold cr
  rw [pv, Nat.add_mul_div_right _ _ (p4 k), Nat.add_comm]
theorem cr_dig (F : Nat → Nat) (k : Nat) : (F k + cr F k) % 4096 = dg (pv F (k + 1)) k := by rw [cr_sum]; rfl
theorem cr_next (F : Nat → Nat) (k : Nat) : (F k + cr F k) / 4096 = cr F (k + 1) := by
  rw [cr_sum, Nat.div_div_eq_div_mul, ← Nat.pow_succ]; rfl
theorem pv_low (F : Nat → Nat) {k j : Nat} (h : j < k) : dg (pv F (k + 1)) j = dg (pv F k) j := by
  unfold dg
  obtain ⟨e, rfl⟩ : ∃ e, k = j + 1 + e := ⟨k - (j + 1), by omega⟩
  rw [pv]
  have h1 : F (j + 1 + e) * 4096 ^ (j + 1 + e) = F (j + 1 + e) * 4096 ^ e * 4096 * 4096 ^ j := by
    rw [show j + 1 + e = e + (1 + j) by omega, Nat.pow_add, Nat.pow_add, Nat.pow_one, Nat.mul_assoc, Nat.mul_assoc, ← Nat.mul_assoc (4096 ^ e)]
  rw [h1, Nat.add_mul_div_right _ _ (p4 j), Nat.add_mul_mod_self_right]
theorem pv_lt {F : Nat → Nat} {B : Nat} (h : ∀ i, F i < B) : ∀ k, pv F k < B * 4096 ^ k := by
  intro k
  have hB : 0 < B := Nat.lt_of_le_of_lt (Nat.zero_le _) (h 0)
  induction k with
  | zero => simpa [pv] using hB
  | succ k ih =>
    have h1 : F k * 4096 ^ k ≤ B * 4096 ^ k := Nat.mul_le_mul_right _ (Nat.le_of_lt (h k))
    have h2 : B * 4096 ^ (k + 1) = 4096 * (B * 4096 ^ k) := by rw [Nat.pow_succ, Nat.mul_comm 4096, Nat.mul_assoc]
    rw [pv, h2]; omega
theorem cr_lt {F : Nat → Nat} {B : Nat} (h : ∀ i, F i < B) (k : Nat) : cr F k < B := by
  unfold cr
  rw [Nat.div_lt_iff_lt_mul (p4 k)]
  exact pv_lt h k

/-- The pass that carries, k figures done. -/
def cyF (F : Nat → Nat) (k j : Nat) : Nat := if j < k then dg (pv F k) j else F j
theorem cyF_at (F : Nat → Nat) (k : Nat) : cyF F k k = F k := by simp [cyF]
theorem cyF_zero (F : Nat → Nat) : ai 44 F = ai 44 (cyF F 0) := ai_congr fun i _ => by simp [cyF]
theorem cyF_next (F : Nat → Nat) (k : Nat) : ai 44 (updN (cyF F k) k ((cyF F k k + cr F k) % 4096)) = ai 44 (cyF F (k + 1)) := ai_congr fun i _ => by
  rw [cyF_at, cr_dig]
  unfold updN cyF
  by_cases e : i = k
  · subst e; simp
  · by_cases h : i < k
    · have h1 : i < k + 1 := by omega
      rw [if_neg e, if_pos h, if_pos h1, pv_low F h]
    · have h1 : ¬ i < k + 1 := by omega
      rw [if_neg e, if_neg h, if_neg h1]
theorem cyF_end {F : Nat → Nat} {N : Nat} (h : pv F 44 = N) : ai 44 (cyF F 44) = ai 44 (dg N) := ai_congr fun i hi => by simp [cyF, hi, h]

/-- What stands beyond 264 bits, added below, k figures done. -/
def foF (V k j : Nat) : Nat := if j < k then dg V j + 9728 * dg V (j + 22) else if 22 ≤ j ∧ j < 22 + k then 0 else dg V j
theorem foF_a {V k : Nat} (h : k < 22) : foF V k k = dg V k := by
  unfold foF; rw [if_neg (by omega), if_neg (by omega)]
theorem foF_b (V k : Nat) : foF V k (k + 22) = dg V (k + 22) := by
  unfold foF; rw [if_neg (by omega), if_neg (by omega)]
theorem foF_zero (V : Nat) : ai 44 (dg V) = ai 44 (foF V 0) := ai_congr fun i _ => by
  unfold foF; rw [if_neg (by omega), if_neg (by omega)]
theorem foF_next {V k : Nat} (h : k < 22) : ai 44 (updN (updN (foF V k) k (foF V k k + 9728 * foF V k (k + 22))) (k + 22) 0) = ai 44 (foF V (k + 1)) := ai_congr fun i _ => by
  rw [foF_a h, foF_b V k]
  unfold updN
  by_cases e1 : i = k + 22
  · subst e1; rw [if_pos rfl]; unfold foF; rw [if_neg (by omega), if_pos (by omega)]
  · rw [if_neg e1]
    by_cases e2 : i = k
    · subst e2; rw [if_pos rfl]; unfold foF; rw [if_pos (by omega)]
    · rw [if_neg e2]; unfold foF
      by_cases h1 : i < k
      · rw [if_pos h1, if_pos (by omega)]
      · rw [if_neg h1, if_neg (show ¬ i < k + 1 by omega)]
        by_cases h2 : 22 ≤ i ∧ i < 22 + k
        · rw [if_pos h2, if_pos (by omega)]
        · rw [if_neg h2, if_neg (by omega)]
def FO (V j : Nat) : Nat := if j < 22 then dg V j + 9728 * dg V (j + 22) else 0
theorem FO_lt (V j : Nat) : FO V j < 1099511627776 := by
  unfold FO
  have := dg_lt V j; have := dg_lt V (j + 22)
  split <;> omega
theorem foF_end (V : Nat) : ai 44 (foF V 22) = ai 44 (FO V) := ai_congr fun i hi => by
  unfold foF FO
  by_cases h : i < 22
  · rw [if_pos h, if_pos h]
  · rw [if_neg h, if_neg h, if_pos (by omega)]

theorem dg_shift (V j : Nat) : dg V (j + 22) = dg (V / 4096 ^ 22) j := by
  unfold dg
  rw [Nat.div_div_eq_div_mul, ← Nat.pow_add, Nat.add_comm 22 j]
theorem pv_add (F G : Nat → Nat) (c : Nat) : ∀ k, pv (fun j => F j + c * G j) k = pv F k + c * pv G k := by
  intro k
  induction k with
  | zero => simp [pv]
  | succ k ih =>
    simp only [pv, ih]
    rw [Nat.add_mul, Nat.mul_add, Nat.mul_assoc]; omega
theorem pv_zero {F : Nat → Nat} {a : Nat} : ∀ b, (∀ j, a ≤ j → j < a + b → F j = 0) → pv F (a + b) = pv F a := by
  intro b
  induction b with
  | zero => intro _; rfl
  | succ b ih =>
    intro h
    rw [show a + (b + 1) = a + b + 1 from rfl, pv, h (a + b) (by omega) (by omega), ih (fun j h1 h2 => h j h1 (by omega))]
    simp
/-- What a round leaves. -/
def TT (V : Nat) : Nat := V % 4096 ^ 22 + 9728 * (V / 4096 ^ 22)
theorem pv_FO {V : Nat} (h : V < 4096 ^ 44) : pv (FO V) 44 = TT V := by
  have h1 : pv (FO V) 44 = pv (FO V) 22 := pv_zero (a := 22) 22 (fun j h1 _ => by unfold FO; rw [if_neg (by omega)])
  have h2 : pv (FO V) 22 = pv (fun j => dg V j + 9728 * dg (V / 4096 ^ 22) j) 22 := pv_congr 22 fun i hi => by
    unfold FO; rw [if_pos hi, dg_shift]
  have h3 : V / 4096 ^ 22 % 4096 ^ 22 = V / 4096 ^ 22 := Nat.mod_eq_of_lt (Nat.div_lt_of_lt_mul (by rw [← Nat.pow_add]; exact h))
  rw [h1, h2, pv_add, pv_dg, pv_dg, h3]; rfl
theorem TT_mod (V : Nat) : TT V % pp = V % pp := by
  have h0 : 4096 ^ 22 % pp = 9728 := by decide +kernel
  have h1 : V = V % 4096 ^ 22 + 4096 ^ 22 * (V / 4096 ^ 22) := (Nat.mod_add_div _ _).symm
  have h2 : V % pp = (V % 4096 ^ 22 + 4096 ^ 22 * (V / 4096 ^ 22)) % pp := by rw [← h1]
  have h3 : 9728 % pp = 9728 := Nat.mod_eq_of_lt (by decide +kernel)
  unfold TT
  rw [h2, Nat.add_mod, Nat.mul_mod 9728, Nat.add_mod (V % 4096 ^ 22), Nat.mul_mod (4096 ^ 22), h0, h3]
def tV (N : Nat) : Nat → Nat
  | 0 => N
  | r + 1 => TT (tV N r)
theorem tV_mod (N : Nat) : ∀ r, tV N r % pp = N % pp := by
  intro r
  induction r with
  | zero => rfl
  | succ r ih => rw [tV, TT_mod, ih]
theorem TT_of_lt {V : Nat} (h : V < 4096 ^ 22) : TT V = V := by
  unfold TT; rw [Nat.mod_eq_of_lt h, Nat.div_eq_of_lt h]; omega
theorem tV_three {N : Nat} (h : N < 4096 ^ 44) : tV N 1 < 4096 ^ 44 ∧ tV N 2 < 4096 ^ 44 ∧ tV N 3 < 4096 ^ 22 := by
  have hX : (4096 : Nat) ^ 22 = 29642774844752946028434172162224104410437116074403984394101141506025761187823616 := by decide +kernel
  have hY : (4096 : Nat) ^ 44 = 29642774844752946028434172162224104410437116074403984394101141506025761187823616 * 29642774844752946028434172162224104410437116074403984394101141506025761187823616 := by decide +kernel
  have h1 : N / 4096 ^ 22 < 4096 ^ 22 := Nat.div_lt_of_lt_mul (by rw [← Nat.pow_add]; exact h)
  have g1 : N % 4096 ^ 22 < 4096 ^ 22 := Nat.mod_lt _ (p4 22)
  have b1 : tV N 1 < 9729 * 4096 ^ 22 := by
    show TT N < _
    unfold TT
    omega
  have h2 : tV N 1 / 4096 ^ 22 < 9729 := by rw [Nat.div_lt_iff_lt_mul (p4 22)]; exact b1
  have g2 : tV N 1 % 4096 ^ 22 < 4096 ^ 22 := Nat.mod_lt _ (p4 22)
  have b2 : tV N 2 < 4096 ^ 22 + 94643713 := by
    show TT (tV N 1) < _
    unfold TT
    omega
  refine ⟨by rw [hX] at b1; rw [hY]; omega, by rw [hX] at b2; rw [hY]; omega, ?_⟩
  show TT (tV N 2) < _
  by_cases hlt : tV N 2 < 4096 ^ 22
  · rw [TT_of_lt hlt]; exact hlt
  · have e1 : tV N 2 / 4096 ^ 22 = 1 := by
      refine Nat.div_eq_of_lt_le (by omega) ?_
      rw [hX] at b2 ⊢; omega
    have e2 : tV N 2 % 4096 ^ 22 = tV N 2 - 4096 ^ 22 := by
      have := Nat.mod_add_div (tV N 2) (4096 ^ 22)
      rw [e1] at this; omega
    unfold TT
    rw [e1, e2]
    rw [hX] at *; omega
theorem tV_lt {N : Nat} (h : N < 4096 ^ 44) : ∀ r, tV N r < 4096 ^ 44 ∧ (3 ≤ r → tV N r = tV N 3) := by
  have h3 := tV_three h
  have hXY : (4096 : Nat) ^ 22 < 4096 ^ 44 := by decide +kernel
  have k3 : ∀ d, tV N (3 + d) = tV N 3 := by
    intro d
    induction d with
    | zero => rfl
    | succ d ih => show TT (tV N (3 + d)) = _; rw [ih]; exact TT_of_lt h3.2.2
  intro r
  match r with
  | 0 => exact ⟨h, fun h => by omega⟩
  | 1 => exact ⟨h3.1, fun h => by omega⟩
  | 2 => exact ⟨h3.2.1, fun h => by omega⟩
  | r + 3 => rw [Nat.add_comm r 3, k3 r]; exact ⟨Nat.lt_trans h3.2.2 hXY, fun _ => rfl⟩
/-- The figures at the head of round r. -/
def oF (F : Nat → Nat) (N : Nat) : Nat → Nat → Nat
  | 0 => F
  | r + 1 => FO (tV N r)
theorem oF_lt {F : Nat → Nat} (hF : ∀ i, F i < 1099511627776) (N r i : Nat) : oF F N r i < 1099511627776 := by
  cases r with
  | zero => exact hF i
  | succ r => exact FO_lt _ _
theorem oF_pv {F : Nat → Nat} {N : Nat} (hN : pv F 44 = N) (hb : N < 4096 ^ 44) (r : Nat) : pv (oF F N r) 44 = tV N r := by
  cases r with
  | zero => exact hN
  | succ r => exact pv_FO (tV_lt hb r).1
theorem oF_end (F : Nat → Nat) {N : Nat} (hb : N < 4096 ^ 44) : ai 44 (oF F N 5) = ai 44 (dg (tV N 3)) := ai_congr fun i _ => by
  show FO (tV N 4) i = _
  rw [(tV_lt hb 4).2 (by omega)]
  have h3 := (tV_three hb).2.2
  unfold FO
  by_cases h : i < 22
  · rw [if_pos h, dg_big h3 (i + 22) (by omega)]; omega
  · rw [if_neg h, dg_big h3 i (by omega)]
end Go.Proofs.Ytchbkkjjbdgdoaa

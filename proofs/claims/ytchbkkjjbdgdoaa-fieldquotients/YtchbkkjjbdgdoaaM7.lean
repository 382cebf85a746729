/- Numbers by their bits: bytes and figures. -/
import Derived.Test.YtchbkkjjbdgdoaaRef4
import Derived.Test.YtchbkkjjbdgdoaaX6
namespace Go.Proofs.Ytchbkkjjbdgdoaa

/-- Bit number i. -/
def bt (B i : Nat) : Nat := B / 2 ^ i % 2
theorem bt_lt (B i : Nat) : bt B i < 2 := Nat.mod_lt _ (by omega)
theorem bt_mod {B s r : Nat} (h : r < s) : bt (B % 2 ^ s) r = bt B r := by
  have h1 := Nat.testBit_mod_two_pow B s r
  rw [Nat.testBit_eq_decide_div_mod_eq, Nat.testBit_eq_decide_div_mod_eq] at h1
  simp only [h, decide_true, Bool.true_and, decide_eq_decide] at h1
  unfold bt
  omega
theorem bt_dig {B s i : Nat} (hs : 0 < s) : bt (B / (2 ^ s) ^ (i / s) % 2 ^ s) (i % s) = bt B i := by
  rw [bt_mod (Nat.mod_lt _ hs)]
  unfold bt
  rw [← Nat.pow_mul, Nat.div_div_eq_div_mul, ← Nat.pow_add, Nat.div_add_mod]
theorem mod_bit (B i : Nat) : B % 2 ^ (i + 1) = B % 2 ^ i + bt B i * 2 ^ i := by
  unfold bt
  rw [Nat.pow_succ, Nat.mod_mul, Nat.mul_comm]
/-- A digit of the first bits, one bit more. -/
theorem bit_step {s : Nat} (hs : 0 < s) (B i j : Nat) : B % 2 ^ (i + 1) / (2 ^ s) ^ j % 2 ^ s = if j = i / s then B % 2 ^ i / (2 ^ s) ^ j % 2 ^ s + bt B i * 2 ^ (i % s) else B % 2 ^ i / (2 ^ s) ^ j % 2 ^ s := by
  have hp : ∀ k, 0 < (2 ^ s) ^ k := fun k => Nat.pow_pos (Nat.pow_pos (by omega))
  have hr : i % s < s := Nat.mod_lt _ hs
  have hi : 2 ^ i = 2 ^ (i % s) * (2 ^ s) ^ (i / s) := by rw [← Nat.pow_mul, ← Nat.pow_add, Nat.mod_add_div]
  have hx : B % 2 ^ i < 2 ^ i := Nat.mod_lt _ (Nat.pow_pos (by omega))
  have hb := bt_lt B i
  rw [mod_bit, hi, ← Nat.mul_assoc]
  rw [hi] at hx
  generalize B % (2 ^ (i % s) * (2 ^ s) ^ (i / s)) = x at *
  generalize bt B i = c at *
  have hpr : 2 ^ (i % s) * 2 ≤ 2 ^ s := by rw [← Nat.pow_succ]; exact Nat.pow_le_pow_right (by omega) hr
  generalize i / s = q at *
  generalize i % s = r at *
  by_cases e : j = q
  · subst e
    rw [if_pos rfl, Nat.add_mul_div_right _ _ (hp j)]
    have h1 : x / (2 ^ s) ^ j < 2 ^ r := Nat.div_lt_of_lt_mul (by rw [Nat.mul_comm]; exact hx)
    have h2 : c * 2 ^ r ≤ 1 * 2 ^ r := Nat.mul_le_mul_right _ (by omega)
    rw [Nat.mod_eq_of_lt (by omega), Nat.mod_eq_of_lt (by omega)]
  · rw [if_neg e]
    rcases Nat.lt_or_ge j q with h | h
    · obtain ⟨d, rfl⟩ : ∃ d, q = d + 1 + j := ⟨q - (j + 1), by omega⟩
      have h1 : c * 2 ^ r * (2 ^ s) ^ (d + 1 + j) = c * 2 ^ r * (2 ^ s) ^ d * 2 ^ s * (2 ^ s) ^ j := by
        rw [Nat.pow_add, Nat.pow_succ]; simp only [Nat.mul_assoc]
      rw [h1, Nat.add_mul_div_right _ _ (hp j), Nat.add_mul_mod_self_right]
    · have hle : (2 ^ s) ^ (q + 1) ≤ (2 ^ s) ^ j := Nat.pow_le_pow_right (Nat.pow_pos (by omega)) (by omega)
      have h2 : c * 2 ^ r * (2 ^ s) ^ q ≤ 2 ^ r * (2 ^ s) ^ q := Nat.mul_le_mul_right _ (by have : c * 2 ^ r ≤ 1 * 2 ^ r := Nat.mul_le_mul_right _ (by omega); omega)
      have h3 : 2 ^ r * 2 * (2 ^ s) ^ q ≤ 2 ^ s * (2 ^ s) ^ q := Nat.mul_le_mul_right _ hpr
      have h4 : 2 ^ r * 2 * (2 ^ s) ^ q = 2 ^ r * (2 ^ s) ^ q + 2 ^ r * (2 ^ s) ^ q := by
        rw [Nat.mul_assoc, Nat.mul_comm 2, ← Nat.mul_assoc, Nat.mul_two]
      have h5 : (2 ^ s) ^ (q + 1) = 2 ^ s * (2 ^ s) ^ q := by rw [Nat.pow_succ, Nat.mul_comm]
      rw [Nat.div_eq_of_lt (by omega), Nat.div_eq_of_lt (by omega)]

/-- The figures of the first i bits. -/
def ofF (B i j : Nat) : Nat := dg (B % 2 ^ i) j
/-- A bit, so many times doubled. -/
def btk (B i k : Nat) : Nat := bt B i * 2 ^ k
theorem btk_le (B i : Nat) {k : Nat} (hk : k ≤ 11) : btk B i k ≤ 2048 := by
  have h1 := bt_lt B i
  have h2 : bt B i * 2 ^ k ≤ 1 * 2 ^ 11 := Nat.mul_le_mul (by omega) (Nat.pow_le_pow_right (by omega) hk)
  unfold btk; omega
theorem btk_next (B i k : Nat) : 2 * btk B i k = btk B i (k + 1) := by unfold btk; rw [Nat.pow_succ, Nat.mul_comm 2, Nat.mul_assoc]
theorem ofF_zero (B : Nat) : ai 44 (fun _ => 0) = ai 44 (ofF B 0) := ai_congr fun i _ => by simp [ofF, Nat.mod_one, dg]
theorem ofF_next (B i : Nat) : ai 44 (updN (ofF B i) (i / 12) (ofF B i (i / 12) + btk B i (i % 12))) = ai 44 (ofF B (i + 1)) := ai_congr fun j _ => by
  have h := bit_step (s := 12) (by omega) B i j
  rw [show (2 : Nat) ^ 12 = 4096 from rfl] at h
  unfold updN ofF btk dg
  rw [h]
  by_cases e : j = i / 12
  · rw [if_pos e, if_pos e, e]
  · rw [if_neg e, if_neg e]
theorem ofF_lt (B i j : Nat) : ofF B i j < 1099511627776 := by have := dg_lt (B % 2 ^ i) j; unfold ofF; omega
theorem ofF_small (B i j : Nat) : ofF B i j < 4096 := dg_lt _ _
theorem ofF_pv (B : Nat) : pv (ofF B 255) 44 = B % 2 ^ 255 := by
  have h : pv (ofF B 255) 44 = pv (dg (B % 2 ^ 255)) 44 := rfl
  rw [h, pv_dg]
  refine Nat.mod_eq_of_lt (Nat.lt_trans (Nat.mod_lt _ (Nat.pow_pos (by omega))) ?_)
  decide +kernel
theorem nb_low {b : Nat → Nat} (hb : ∀ i, b i < 256) : ∀ k j, j < k → nb b k / 256 ^ j % 256 = b j := by
  intro k
  induction k with
  | zero => intro j h; omega
  | succ k ih =>
    intro j h
    rw [nb]
    by_cases e : j = k
    · subst e
      rw [Nat.add_mul_div_right _ _ (Nat.pow_pos (by omega)), Nat.div_eq_of_lt (nb_lt hb j), Nat.zero_add, Nat.mod_eq_of_lt (hb j)]
    · obtain ⟨d, rfl⟩ : ∃ d, k = d + 1 + j := ⟨k - (j + 1), by omega⟩
      have h1 : b (d + 1 + j) * 256 ^ (d + 1 + j) = b (d + 1 + j) * 256 ^ d * 256 * 256 ^ j := by
        rw [Nat.pow_add, Nat.pow_succ]; simp only [Nat.mul_assoc]
      rw [h1, Nat.add_mul_div_right _ _ (Nat.pow_pos (by omega)), Nat.add_mul_mod_self_right]
      exact ih j (by omega)
theorem bt_byte {b : Nat → Nat} (hb : ∀ i, b i < 256) {i : Nat} (hi : i < 256) : b (i / 8) / 2 ^ (i % 8) % 2 = btk (nb b 32) i 0 := by
  have h := bt_dig (B := nb b 32) (s := 8) (i := i) (by omega)
  rw [show (2 : Nat) ^ 8 = 256 from rfl, nb_low hb 32 (i / 8) (by omega)] at h
  unfold btk
  rw [Nat.pow_zero, Nat.mul_one, ← h]; rfl
theorem bt_fig (n i : Nat) : dg n (i / 12) / 2 ^ (i % 12) % 2 = bt n i := by
  have h := bt_dig (B := n) (s := 12) (i := i) (by omega)
  rw [show (2 : Nat) ^ 12 = 4096 from rfl] at h
  rw [← h]; rfl
theorem ofb_eq (b : Nat → Nat) : nb b 32 % 2 ^ 255 % pp = ofb b := rfl

/-- The bytes of the first i bits. -/
def keF (n i j : Nat) : Nat := n % 2 ^ i / 256 ^ j % 256
theorem keF_lt (n i j : Nat) : keF n i j < 256 := Nat.mod_lt _ (by omega)
theorem keF_zero (n : Nat) : ck (fun _ => 0) = ck (keF n 0) := ck_congr fun i _ => by simp [keF, Nat.mod_one]
theorem keF_one {n i : Nat} (h : bt n i = 1) : ck (updN (keF n i) (i / 8) (keF n i (i / 8) + 2 ^ (i % 8))) = ck (keF n (i + 1)) := ck_congr fun j _ => by
  have h0 := bit_step (s := 8) (by omega) n i j
  rw [show (2 : Nat) ^ 8 = 256 from rfl, h, Nat.one_mul] at h0
  unfold updN keF
  rw [h0]
  by_cases e : j = i / 8
  · rw [if_pos e, if_pos e, e]
  · rw [if_neg e, if_neg e]
theorem keF_none {n i : Nat} (h : bt n i = 0) : ck (keF n i) = ck (keF n (i + 1)) := ck_congr fun j _ => by
  have h0 := bit_step (s := 8) (by omega) n i j
  rw [show (2 : Nat) ^ 8 = 256 from rfl, h, Nat.zero_mul, Nat.add_zero] at h0
  unfold keF
  rw [h0]; split <;> rfl
theorem keF_room {n i : Nat} (h : bt n i = 1) : keF n i (i / 8) + 2 ^ (i % 8) < 256 := by
  have h0 := bit_step (s := 8) (by omega) n i (i / 8)
  rw [if_pos rfl, show (2 : Nat) ^ 8 = 256 from rfl, h, Nat.one_mul] at h0
  unfold keF
  rw [← h0]; exact Nat.mod_lt _ (by omega)
/-- An element's text. -/
def kb (n j : Nat) : Nat := n / 256 ^ j % 256
theorem keF_end {n : Nat} (h : n < 2 ^ 256) : ck (keF n 256) = ck (kb n) := ck_congr fun j _ => by
  unfold keF kb; rw [Nat.mod_eq_of_lt h]
theorem byt_kb (n : Nat) : ∀ j, j < 32 → byt (dig n) j = kb n j := by
  intro j hj
  have hq : j / 8 = 0 ∨ j / 8 = 1 ∨ j / 8 = 2 ∨ j / 8 = 3 := by omega
  have hp : (256 : Nat) ^ j = 256 ^ (8 * (j / 8)) * 256 ^ (j % 8) := by rw [← Nat.pow_add, Nat.div_add_mod]
  unfold byt kb
  rw [hp, ← Nat.div_div_eq_div_mul]
  have hr : j % 8 < 8 := Nat.mod_lt _ (by omega)
  -- a word, and what stands above it
  have key : ∀ y, y % 18446744073709551616 / 256 ^ (j % 8) % 256 = y / 256 ^ (j % 8) % 256 := by
    intro y
    have e1 : y = y % 18446744073709551616 + 18446744073709551616 * (y / 18446744073709551616) := (Nat.mod_add_div _ _).symm
    have e2 : (18446744073709551616 : Nat) = 256 ^ (j % 8) * (256 ^ (7 - j % 8) * 256) := by
      rw [← Nat.pow_succ, ← Nat.pow_add, show j % 8 + (7 - j % 8).succ = 8 by omega]
    conv => rhs; rw [e1]
    conv => rhs; rw [show 18446744073709551616 * (y / 18446744073709551616) = 256 ^ (j % 8) * ((256 ^ (7 - j % 8) * (y / 18446744073709551616)) * 256) by
      conv => lhs; arg 1; rw [e2]
      simp only [Nat.mul_assoc, Nat.mul_comm 256 _]]
    rw [Nat.add_mul_div_left _ _ (Nat.pow_pos (by omega)), Nat.add_mul_mod_self_right]
  rcases hq with h | h | h | h <;> rw [h]
  · show n % 18446744073709551616 / _ % 256 = _
    rw [key]; simp
  · show n / 18446744073709551616 % 18446744073709551616 / _ % 256 = _
    rw [key]
  · show n / 340282366920938463463374607431768211456 % 18446744073709551616 / _ % 256 = _
    rw [key]
  · show n / 6277101735386680763835789423207666416102355444464034512896 % 18446744073709551616 / _ % 256 = _
    rw [key]
end Go.Proofs.Ytchbkkjjbdgdoaa

/- The plain mathematics of a reflected check sum: registers as natural numbers below 2^32, put on bit by bit. -/
import Derived.Laws.BitsAllLaws
namespace Go.Proofs.Ytmkiafjooidpnaa

/-- One bit's shift of a register. -/
def stp (r : Nat) : Nat := if r % 2 = 1 then (r / 2) ^^^ 3988292384 else r / 2

/-- So many shifts, one behind the other. -/
def stps : Nat → Nat → Nat
  | 0, r => r
  | k + 1, r => stps k (stp r)

/-- What stands in the register behind a row of bytes. -/
def crcRun (r : Nat) (l : List Int) : Nat := l.foldl (fun r c => stps 8 (r ^^^ c.toNat)) r

theorem stp_lt (r : Nat) (h : r < 4294967296) : stp r < 4294967296 := by
  unfold stp
  split
  · exact Nat.xor_lt_two_pow (n := 32) (by omega) (by omega)
  · omega

theorem stps_lt (k : Nat) : ∀ r, r < 4294967296 → stps k r < 4294967296 := by
  induction k with
  | zero => intro r h; exact h
  | succ k ih => intro r h; exact ih _ (stp_lt r h)

theorem stps_succ (k : Nat) : ∀ r, stps (k + 1) r = stp (stps k r) := by
  induction k with
  | zero => intro r; rfl
  | succ k ih => intro r; exact ih (stp r)

theorem stps_add (j : Nat) : ∀ k r, stps (j + k) r = stps k (stps j r) := by
  induction j with
  | zero => intro k r; simp [stps]
  | succ j ih => intro k r; rw [show j + 1 + k = (j + k) + 1 from by omega]; exact ih k (stp r)

/-- Two numbers are one if their bits are. -/
theorem xor_half (a b : Nat) : (a ^^^ b) / 2 = a / 2 ^^^ b / 2 := by
  apply Nat.eq_of_testBit_eq
  intro i
  simp [Nat.testBit_div_two, Nat.testBit_xor]

theorem xor_par (a b : Nat) : (a ^^^ b) % 2 = (a % 2 + b % 2) % 2 := by
  have h : (a ^^^ b) % 2 = (a % 2) ^^^ (b % 2) := by
    have := @Nat.xor_mod_two_pow a b 1
    simpa using this
  rw [h]
  rcases Nat.mod_two_eq_zero_or_one a with ha | ha <;> rcases Nat.mod_two_eq_zero_or_one b with hb | hb <;> simp [ha, hb]

/-- A shift goes through exclusive or. -/
theorem stp_xor (a b : Nat) : stp (a ^^^ b) = stp a ^^^ stp b := by
  unfold stp
  rw [xor_half, xor_par]
  rcases Nat.mod_two_eq_zero_or_one a with ha | ha <;> rcases Nat.mod_two_eq_zero_or_one b with hb | hb
  · simp [ha, hb]
  · simp [ha, hb, Nat.xor_assoc]
  · simp [ha, hb]
    rw [Nat.xor_assoc, Nat.xor_assoc, Nat.xor_comm 3988292384]
  · simp [ha, hb]
    rw [Nat.xor_assoc, ← Nat.xor_assoc 3988292384, Nat.xor_comm 3988292384, Nat.xor_assoc, Nat.xor_self, Nat.xor_zero]

theorem stps_xor (k : Nat) : ∀ a b, stps k (a ^^^ b) = stps k a ^^^ stps k b := by
  induction k with
  | zero => intro a b; rfl
  | succ k ih => intro a b; show stps k (stp (a ^^^ b)) = _; rw [stp_xor]; exact ih _ _

theorem stp_zero : stp 0 = 0 := by decide
theorem stps_zero (k : Nat) : stps k 0 = 0 := by
  induction k with
  | zero => rfl
  | succ k ih => rw [stps_succ, ih, stp_zero]

/-- A shift of what ends in a 0 only halves it. -/
theorem stp_even (r : Nat) (h : r % 2 = 0) : stp r = r / 2 := by
  unfold stp; rw [if_neg (by omega)]

theorem stps_low (k : Nat) : ∀ q, stps k (q * 2 ^ k) = q := by
  induction k with
  | zero => intro q; simp [stps]
  | succ k ih =>
    intro q
    show stps k (stp (q * 2 ^ (k + 1))) = q
    rw [stp_even _ (by rw [Nat.pow_succ, ← Nat.mul_assoc]; omega), show q * 2 ^ (k + 1) / 2 = q * 2 ^ k from by rw [Nat.pow_succ, ← Nat.mul_assoc]; omega]
    exact ih q

theorem split_low (r k : Nat) : r = (r / 2 ^ k * 2 ^ k) ^^^ (r % 2 ^ k) := by
  apply Nat.eq_of_testBit_eq
  intro i
  rw [Nat.testBit_xor, Nat.testBit_mod_two_pow, ← Nat.shiftLeft_eq, Nat.testBit_shiftLeft, Nat.testBit_div_two_pow]
  by_cases h : i < k
  · simp [h, show ¬ k ≤ i from by omega]
  · simp [h, show k ≤ i from by omega]

/-- A step of k shifts: what is above moves down, what is below is put to it. -/
theorem stps_split (k r : Nat) : stps k r = (r / 2 ^ k) ^^^ stps k (r % 2 ^ k) := by
  conv => lhs; rw [split_low r k]
  rw [stps_xor, stps_low]

theorem stps_four (r : Nat) : stps 4 r = (r / 16) ^^^ stps 4 (r % 16) := stps_split 4 r

/-- All bits turned. -/
theorem ones_xor (s : Nat) (h : s < 4294967296) : 4294967295 ^^^ s = 4294967295 - s := by
  apply Nat.eq_of_testBit_eq
  intro i
  rw [Nat.testBit_xor, show 4294967295 = 2 ^ 32 - 1 from rfl, Nat.testBit_two_pow_sub_one, show 2 ^ 32 - 1 - s = 2 ^ 32 - (s + 1) from by omega, Nat.testBit_two_pow_sub_succ (by omega)]
  by_cases hi : i < 32
  · simp [hi]
  · have : s.testBit i = false := Nat.testBit_lt_two_pow (Nat.lt_of_lt_of_le h (Nat.pow_le_pow_right (show 0 < 2 by omega) (show 32 ≤ i by omega)))
    simp [hi, this]

theorem crcRun_nil (r : Nat) : crcRun r [] = r := rfl
theorem crcRun_append (r : Nat) (a b : List Int) : crcRun r (a ++ b) = crcRun (crcRun r a) b := by simp [crcRun]
theorem crcRun_snoc (r : Nat) (a : List Int) (c : Int) : crcRun r (a ++ [c]) = stps 8 (crcRun r a ^^^ c.toNat) := by simp [crcRun]

theorem crcRun_lt (r : Nat) (l : List Int) (h : r < 4294967296) (hl : ∀ c ∈ l, 0 ≤ c ∧ c < 256) : crcRun r l < 4294967296 := by
  induction l generalizing r with
  | nil => exact h
  | cons c l ih =>
    have hc := hl c (by simp)
    exact ih _ (stps_lt 8 _ (Nat.xor_lt_two_pow (n := 32) (by omega) (by omega))) (fun d hd => hl d (by simp [hd]))

end Go.Proofs.Ytmkiafjooidpnaa

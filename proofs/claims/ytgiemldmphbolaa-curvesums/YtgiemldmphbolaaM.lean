/- 2^255 - 19 is a prime: Fermat's theorem, and Pocklington's test with its chain of primes. Nothing of the program is spoken of here. -/
namespace Go.Proofs.Ytgiemldmphbolaa

/-- A prime. -/
def Prm (p : Nat) : Prop := 1 < p ∧ ∀ d, d ∣ p → d = 1 ∨ d = p

theorem Prm.cop {p a : Nat} (h : Prm p) (ha : ¬ p ∣ a) : Nat.gcd p a = 1 := by
  rcases h.2 _ (Nat.gcd_dvd_left p a) with e | e
  · exact e
  · exfalso; apply ha
    have := Nat.gcd_dvd_right p a
    rwa [e] at this

theorem Prm.euclid {p a b : Nat} (h : Prm p) (hab : p ∣ a * b) : p ∣ a ∨ p ∣ b := by
  by_cases ha : p ∣ a
  · exact Or.inl ha
  · exact Or.inr (Nat.Coprime.dvd_of_dvd_mul_left (h.cop ha) hab)

/-- Binomial numbers. -/
def ch : Nat → Nat → Nat
  | _, 0 => 1
  | 0, _ + 1 => 0
  | n + 1, k + 1 => ch n k + ch n (k + 1)

theorem ch_zero (n : Nat) : ch n 0 = 1 := by cases n <;> rfl
theorem ch_succ (n k : Nat) : ch (n + 1) (k + 1) = ch n k + ch n (k + 1) := rfl
theorem ch_past (n : Nat) : ∀ k, n < k → ch n k = 0 := by
  induction n with
  | zero => intro k hk; cases k with
    | zero => omega
    | succ k => rfl
  | succ n ih => intro k hk; cases k with
    | zero => omega
    | succ k => rw [ch_succ, ih k (by omega), ih (k + 1) (by omega)]

theorem ch_absorb (n : Nat) : ∀ k, (k + 1) * ch (n + 1) (k + 1) = (n + 1) * ch n k := by
  induction n with
  | zero => intro k; cases k with
    | zero => rfl
    | succ k => rw [ch_past 1 (k + 1 + 1) (by omega), ch_past 0 (k + 1) (by omega)]; simp
  | succ n ih => intro k; cases k with
    | zero =>
      have := ih 0
      rw [ch_succ, ch_zero]
      rw [ch_zero] at this
      omega
    | succ j =>
      have h1 := ih j
      have h2 := ih (j + 1)
      have h3 := ch_succ n j
      rw [ch_succ (n + 1) (j + 1)]
      have e1 : (j + 1 + 1) * (ch (n + 1) (j + 1) + ch (n + 1) (j + 1 + 1)) = (j + 1) * ch (n + 1) (j + 1) + ch (n + 1) (j + 1) + (j + 1 + 1) * ch (n + 1) (j + 1 + 1) := by
        rw [Nat.mul_add, Nat.add_mul (j + 1) 1, Nat.one_mul]
      rw [e1, h1, h2]
      have e2 : (n + 1 + 1) * ch (n + 1) (j + 1) = (n + 1) * ch (n + 1) (j + 1) + ch (n + 1) (j + 1) := by rw [Nat.add_mul (n + 1) 1, Nat.one_mul]
      have e3 : (n + 1) * ch (n + 1) (j + 1) = (n + 1) * ch n j + (n + 1) * ch n (j + 1) := by rw [h3, Nat.mul_add]
      rw [e2, e3]
      omega

/-- The first so many terms of (a + 1) to the power n. -/
def bsum (a n : Nat) : Nat → Nat
  | 0 => 0
  | m + 1 => bsum a n m + ch n m * a ^ m

theorem bsum_succ (a n : Nat) : ∀ m, bsum a (n + 1) (m + 1) = bsum a n (m + 1) + a * bsum a n m := by
  intro m
  induction m with
  | zero => simp [bsum, ch_zero]
  | succ m ih =>
    have e1 : bsum a (n + 1) (m + 1 + 1) = bsum a (n + 1) (m + 1) + ch (n + 1) (m + 1) * a ^ (m + 1) := rfl
    have e2 : bsum a n (m + 1 + 1) = bsum a n (m + 1) + ch n (m + 1) * a ^ (m + 1) := rfl
    have e3 : bsum a n (m + 1) = bsum a n m + ch n m * a ^ m := rfl
    have e4 : a * (bsum a n m + ch n m * a ^ m) = a * bsum a n m + ch n m * a ^ (m + 1) := by
      rw [Nat.mul_add, Nat.pow_succ, Nat.mul_left_comm, Nat.mul_comm a (a ^ m)]
    rw [e1, ih, e2, ch_succ, Nat.add_mul]
    conv => rhs; rw [e3, e4]
    rw [← e3]
    omega

theorem bsum_pow (a n : Nat) : bsum a n (n + 1) = (a + 1) ^ n := by
  induction n with
  | zero => simp [bsum, ch_zero]
  | succ n ih =>
    have e : bsum a n (n + 1 + 1) = bsum a n (n + 1) + ch n (n + 1) * a ^ (n + 1) := rfl
    rw [bsum_succ, e, ch_past n (n + 1) (by omega), ih, Nat.pow_succ (a + 1), Nat.mul_add, Nat.mul_comm a]
    omega

theorem ch_prime {p : Nat} (hp : Prm p) (k : Nat) (h0 : 0 < k) (hk : k < p) : p ∣ ch p k := by
  obtain ⟨j, rfl⟩ : ∃ j, k = j + 1 := ⟨k - 1, by omega⟩
  obtain ⟨q, rfl⟩ : ∃ q, p = q + 1 := ⟨p - 1, by omega⟩
  have h := ch_absorb q j
  have hd : q + 1 ∣ (j + 1) * ch (q + 1) (j + 1) := ⟨_, h⟩
  rcases hp.euclid hd with h1 | h1
  · exact absurd (Nat.le_of_dvd (by omega) h1) (by omega)
  · exact h1

theorem bsum_prime {p : Nat} (hp : Prm p) (a : Nat) : ∀ m, m < p → bsum a p (m + 1) % p = 1 % p := by
  intro m
  induction m with
  | zero => intro _; simp [bsum, ch_zero]
  | succ m ih =>
    intro h
    have e : bsum a p (m + 1 + 1) = bsum a p (m + 1) + ch p (m + 1) * a ^ (m + 1) := rfl
    obtain ⟨c, hc⟩ := ch_prime hp (m + 1) (by omega) h
    rw [e, hc, Nat.mul_assoc, Nat.add_mul_mod_self_left]
    exact ih (by omega)

theorem fresh {p : Nat} (hp : Prm p) (a : Nat) : (a + 1) ^ p % p = (a ^ p + 1) % p := by
  have h := bsum_pow a p
  obtain ⟨q, rfl⟩ : ∃ q, p = q + 1 := ⟨p - 1, by have := hp.1; omega⟩
  have e : bsum a (q + 1) (q + 1 + 1) = bsum a (q + 1) (q + 1) + ch (q + 1) (q + 1) * a ^ (q + 1) := rfl
  have hc : ch (q + 1) (q + 1) = 1 := by
    have : ∀ n, ch n n = 1 := by
      intro n
      induction n with
      | zero => rfl
      | succ n ih => rw [ch_succ, ih, ch_past n (n + 1) (by omega)]
    exact this _
  rw [← h, e, hc, Nat.one_mul, Nat.add_comm, Nat.add_mod, bsum_prime hp a q (by omega), ← Nat.add_mod]

theorem fermat_pow {p : Nat} (hp : Prm p) (a : Nat) : a ^ p % p = a % p := by
  induction a with
  | zero => rw [Nat.zero_pow (by have := hp.1; omega)]
  | succ a ih => rw [fresh hp, Nat.add_mod, ih, ← Nat.add_mod]

/-- Fermat's theorem. -/
theorem fermat {p : Nat} (hp : Prm p) (a : Nat) (ha : ¬ p ∣ a) : a ^ (p - 1) % p = 1 := by
  have h := fermat_pow hp a
  have h1 := hp.1
  have hpos : 0 < a := by
    rcases Nat.eq_zero_or_pos a with e | e
    · exact absurd (e ▸ Nat.dvd_zero p) ha
    · exact e
  have hpow : 0 < a ^ (p - 1) := Nat.pow_pos hpos
  have e : a ^ p = a * a ^ (p - 1) := by
    conv => lhs; rw [show p = (p - 1) + 1 by omega, Nat.pow_succ, Nat.mul_comm]
  have hd : p ∣ a * (a ^ (p - 1) - 1) := by
    rw [Nat.mul_sub, ← e, Nat.mul_one]
    have hle : a ≤ a ^ p := by rw [e]; exact Nat.le_mul_of_pos_right a hpow
    refine ⟨a ^ p / p - a / p, ?_⟩
    have d1 := Nat.div_add_mod (a ^ p) p
    have d2 := Nat.div_add_mod a p
    rw [Nat.mul_sub]
    omega
  rcases hp.euclid hd with h2 | h2
  · exact absurd h2 ha
  · obtain ⟨c, hc⟩ := h2
    have : a ^ (p - 1) = p * c + 1 := by omega
    rw [this, Nat.mul_add_mod, Nat.mod_eq_of_lt h1]

theorem least (P : Nat → Prop) : ∀ n, P n → ∃ m, P m ∧ ∀ k, k < m → ¬ P k := by
  intro n
  induction n using Nat.strongRecOn with
  | _ n ih =>
    intro h
    by_cases hk : ∃ k, k < n ∧ P k
    · obtain ⟨k, h1, h2⟩ := hk
      exact ih k h1 h2
    · exact ⟨n, h, fun k h1 h2 => hk ⟨k, h1, h2⟩⟩

theorem small_factor {n : Nat} (h1 : 1 < n) (hn : ¬ Prm n) : ∃ r, Prm r ∧ r ∣ n ∧ r * r ≤ n := by
  obtain ⟨r, ⟨hr1, hrd⟩, hmin⟩ := least (fun d => 1 < d ∧ d ∣ n) n ⟨h1, Nat.dvd_refl n⟩
  have hlow : ∀ d, 1 < d → d ∣ n → r ≤ d := fun d h h' => by
    rcases Nat.lt_or_ge d r with hl | hg
    · exact absurd ⟨h, h'⟩ (hmin d hl)
    · exact hg
  have hp : Prm r := by
    refine ⟨hr1, fun d hd => ?_⟩
    have hpos : 0 < d := Nat.pos_of_dvd_of_pos hd (by omega)
    have hle : d ≤ r := Nat.le_of_dvd (by omega) hd
    by_cases h : d = 1
    · exact Or.inl h
    · have := hlow d (by omega) (Nat.dvd_trans hd hrd)
      omega
  refine ⟨r, hp, hrd, ?_⟩
  obtain ⟨c, hc⟩ := hrd
  have hc1 : 1 < c := by
    rcases Nat.lt_or_ge 1 c with h | h
    · exact h
    · exfalso
      have : c = 0 ∨ c = 1 := by omega
      rcases this with rfl | rfl
      · omega
      · rw [Nat.mul_one] at hc
        exact hn (hc ▸ hp)
  have := hlow c hc1 ⟨r, by rw [hc, Nat.mul_comm]⟩
  rw [hc]
  exact Nat.mul_le_mul_left r this

/-- No number from 2 to k + 1 divides n. -/
def noDiv (n : Nat) : Nat → Bool
  | 0 => true
  | k + 1 => n % (k + 2) != 0 && noDiv n k

theorem noDiv_spec (n : Nat) : ∀ k, noDiv n k = true → ∀ d, 2 ≤ d → d ≤ k + 1 → n % d ≠ 0 := by
  intro k
  induction k with
  | zero => intro _ d h1 h2; omega
  | succ k ih =>
    intro h d h1 h2
    simp only [noDiv, Bool.and_eq_true, bne_iff_ne] at h
    by_cases e : d = k + 2
    · rw [e]; exact h.1
    · exact ih h.2 d h1 (by omega)

theorem prm_small (n k : Nat) (h1 : 1 < n) (h : noDiv n k = true) (hk : n < (k + 2) * (k + 2)) : Prm n := by
  by_cases hp : Prm n
  · exact hp
  · obtain ⟨r, hr, hd, hs⟩ := small_factor h1 hp
    have h2 := hr.1
    have : r < k + 2 := by
      rcases Nat.lt_or_ge r (k + 2) with h | h
      · exact h
      · have := Nat.mul_le_mul h h; omega
    exact absurd (Nat.mod_eq_zero_of_dvd hd) (noDiv_spec n k h r (by omega) (by omega))

/-- Powers modulo n, by the bits of the exponent. -/
def pmod (a n : Nat) : Nat → Nat → Nat
  | 0, _ => 1 % n
  | f + 1, e => bif e % 2 == 1 then pmod a n f (e / 2) * pmod a n f (e / 2) % n * a % n else pmod a n f (e / 2) * pmod a n f (e / 2) % n

theorem pmod_eq (a n : Nat) : ∀ f e, e < 2 ^ f → pmod a n f e = a ^ e % n := by
  intro f
  induction f with
  | zero => intro e h; obtain rfl : e = 0 := by simpa using h
            rfl
  | succ f ih =>
    intro e h
    have hh := ih (e / 2) (by rw [Nat.pow_succ] at h; omega)
    have hsq : a ^ (e / 2) % n * (a ^ (e / 2) % n) % n = a ^ (e / 2 * 2) % n := by
      rw [← Nat.mul_mod, Nat.pow_mul, Nat.pow_two]
    rcases Nat.mod_two_eq_zero_or_one e with h0 | h0
    · simp only [pmod, h0, hh, hsq]
      show a ^ (e / 2 * 2) % n = _
      rw [show e / 2 * 2 = e by omega]
    · simp only [pmod, h0, hh, hsq]
      show a ^ (e / 2 * 2) % n * a % n = _
      rw [Nat.mod_mul_mod, ← Nat.pow_succ, show (e / 2 * 2).succ = e by omega]

theorem pow_gcd {r a : Nat} (hr : 1 < r) : ∀ m n, a ^ m % r = 1 → a ^ n % r = 1 → a ^ Nat.gcd m n % r = 1 := by
  intro m n
  induction m, n using Nat.gcd.induction with
  | H0 n => intro _ h; rwa [Nat.gcd_zero_left]
  | H1 m n hm ih =>
    intro h1 h2
    rw [Nat.gcd_rec]
    refine ih ?_ h1
    have e : a ^ n = a ^ (n % m) * (a ^ m) ^ (n / m) := by
      rw [← Nat.pow_mul, ← Nat.pow_add, Nat.mod_add_div]
    rw [e, Nat.mul_mod, Nat.pow_mod (a ^ m), h1, Nat.one_pow, Nat.mod_eq_of_lt hr, Nat.mul_one, Nat.mod_mod] at h2
    exact h2

/-- One prime of Pocklington's test. -/
theorem pock_step {n s m a r : Nat} (hs : Prm s) (hn : n - 1 = s * m) (h1 : a ^ (n - 1) % n = 1) (h2 : Nat.gcd (a ^ m % n + n - 1) n = 1) (hr : Prm r) (hrn : r ∣ n) (hn1 : 1 < n) : s ∣ r - 1 := by
  have hr1 := hr.1
  have g1 : a ^ (n - 1) % r = 1 := by
    have := Nat.mod_mod_of_dvd (a ^ (n - 1)) hrn
    rw [h1, Nat.mod_eq_of_lt hr1] at this
    exact this.symm
  have hra : ¬ r ∣ a := by
    intro h
    have hpos : 0 < n - 1 := by omega
    have hd : r ∣ a ^ (n - 1) := Nat.dvd_trans h ⟨a ^ (n - 1 - 1), by rw [← Nat.pow_succ', Nat.succ_eq_add_one, show n - 1 - 1 + 1 = n - 1 by omega]⟩
    rw [Nat.mod_eq_zero_of_dvd hd] at g1
    omega
  have g2 := fermat hr a hra
  have g3 := pow_gcd hr1 _ _ g2 g1
  by_cases hd : s ∣ r - 1
  · exact hd
  · exfalso
    have hcop : Nat.gcd (r - 1) s = 1 := by rw [Nat.gcd_comm]; exact hs.cop hd
    have hg : Nat.gcd (r - 1) (n - 1) ∣ m := by
      rw [hn]
      have k1 : Nat.gcd (r - 1) (s * m) ∣ s * m := Nat.gcd_dvd_right _ _
      have k2 : Nat.gcd (Nat.gcd (r - 1) (s * m)) s = 1 := by
        have : Nat.gcd (Nat.gcd (r - 1) (s * m)) s ∣ Nat.gcd (r - 1) s := Nat.dvd_gcd (Nat.dvd_trans (Nat.gcd_dvd_left _ _) (Nat.gcd_dvd_left _ _)) (Nat.gcd_dvd_right _ _)
        rw [hcop] at this
        exact Nat.dvd_one.1 this
      exact Nat.Coprime.dvd_of_dvd_mul_left k2 k1
    obtain ⟨c, hc⟩ := hg
    have g4 : a ^ m % r = 1 := by
      rw [hc, Nat.pow_mul, Nat.pow_mod, g3, Nat.one_pow, Nat.mod_eq_of_lt hr1]
    have hx : r ∣ a ^ m % n + n - 1 := by
      have e := Nat.mod_mod_of_dvd (a ^ m) hrn
      rw [g4] at e
      have k : (a ^ m % n + n - 1) % r = 0 := by
        obtain ⟨t, ht⟩ := hrn
        generalize a ^ m % n = x at *
        have hx1 : x = r * (x / r) + 1 := by have := Nat.div_add_mod x r; omega
        have : x + n - 1 = r * (x / r + t) := by rw [Nat.mul_add, ← ht]; omega
        rw [this, Nat.mul_mod_right]
      exact Nat.dvd_of_mod_eq_zero k
    have := Nat.dvd_gcd hx hrn
    rw [h2] at this
    have := Nat.dvd_one.1 this
    omega

theorem pock {n f : Nat} (h1 : 1 < n) (hf : n < f * f) (h : ∀ r, Prm r → r ∣ n → f ∣ r - 1) : Prm n := by
  by_cases hp : Prm n
  · exact hp
  · obtain ⟨r, hr, hd, hs⟩ := small_factor h1 hp
    have h2 := hr.1
    have h3 := Nat.le_of_dvd (by omega) (h r hr hd)
    have : f * f ≤ r * r := Nat.mul_le_mul (by omega) (by omega)
    omega

theorem pock2 {n s t m k a b : Nat} (hs : Prm s) (ht : Prm t) (hst : Nat.gcd s t = 1) (h1 : 1 < n) (hm : n - 1 = s * m) (hk : n - 1 = t * k) (hf : n < s * t * (s * t))
    (a1 : a ^ (n - 1) % n = 1) (a2 : Nat.gcd (a ^ m % n + n - 1) n = 1) (b1 : b ^ (n - 1) % n = 1) (b2 : Nat.gcd (b ^ k % n + n - 1) n = 1) : Prm n :=
  pock h1 hf fun _ hr hd => Nat.Coprime.mul_dvd_of_dvd_of_dvd hst (pock_step hs hm a1 a2 hr hd h1) (pock_step ht hk b1 b2 hr hd h1)

/-- All that Pocklington's test asks of numbers, in one test. -/
def chk (n s t m k a f : Nat) : Bool :=
  Nat.ble 2 n && Nat.beq (n - 1) (s * m) && Nat.beq (n - 1) (t * k) && Nat.ble (n + 1) (s * t * (s * t)) && Nat.beq (Nat.gcd s t) 1 && Nat.ble (n + 1) (2 ^ f) && Nat.beq (pmod a n f (n - 1)) 1 &&
    Nat.beq (Nat.gcd (pmod a n f m + n - 1) n) 1 && Nat.beq (Nat.gcd (pmod a n f k + n - 1) n) 1

theorem prm_chk {n s t m k a f : Nat} (hs : Prm s) (ht : Prm t) (h : chk n s t m k a f = true) : Prm n := by
  simp only [chk, Bool.and_eq_true, Nat.beq_eq, Nat.ble_eq] at h
  obtain ⟨⟨⟨⟨⟨⟨⟨⟨h1, h2⟩, h3⟩, h4⟩, h5⟩, h6⟩, h7⟩, h8⟩, h9⟩ := h
  have hs1 := hs.1; have ht1 := ht.1
  have b1 : m ≤ n - 1 := by rw [h2]; exact Nat.le_mul_of_pos_left m (by omega)
  have b2 : k ≤ n - 1 := by rw [h3]; exact Nat.le_mul_of_pos_left k (by omega)
  rw [pmod_eq a n f _ (by omega)] at h7 h8 h9
  exact pock2 hs ht h5 (by omega) h2 h3 (by omega) h7 h8 h7 h9

/-- The same for one prime. -/
def chkOne (n s m a f : Nat) : Bool := Nat.ble 2 n && Nat.ble (n + 1) (s * s) && Nat.beq (n - 1) (s * m) && Nat.ble (n + 1) (2 ^ f) && Nat.beq (pmod a n f (n - 1)) 1 && Nat.beq (Nat.gcd (pmod a n f m + n - 1) n) 1

theorem prm_one {n s m a f : Nat} (hs : Prm s) (h : chkOne n s m a f = true) : Prm n := by
  simp only [chkOne, Bool.and_eq_true, Nat.beq_eq, Nat.ble_eq] at h
  obtain ⟨⟨⟨⟨⟨h1, h2⟩, h3⟩, h4⟩, h5⟩, h6⟩ := h
  have hs1 := hs.1
  have b1 : m ≤ n - 1 := by rw [h3]; exact Nat.le_mul_of_pos_left m (by omega)
  rw [pmod_eq a n f _ (by omega)] at h5 h6
  exact pock (by omega) (f := s) (by omega) (fun r hr hd => pock_step hs h3 h5 h6 hr hd (by omega))

theorem prm127 : Prm 127 := prm_small 127 10 (by decide) (by decide) (by decide)
theorem prm4153 : Prm 4153 := prm_small 4153 63 (by decide) (by decide +kernel) (by decide)
theorem prm75707 : Prm 75707 := prm_small 75707 274 (by decide) (by decide +kernel) (by decide)
theorem prm430751 : Prm 430751 := prm_small 430751 655 (by decide) (by decide +kernel) (by decide)
theorem prm8574133 : Prm 8574133 := prm_small 8574133 2927 (by decide) (by decide +kernel) (by decide)
theorem prmS : Prm 31757755568855353 := prm_chk prm430751 prm4153 (m := 73726481352) (k := 7646943310584) (a := 2) (f := 56) (by decide +kernel)
theorem prmT : Prm 1919519569386763 := prm_chk prm8574133 prm127 (m := 223873314) (k := 15114327318006) (a := 2) (f := 52) (by decide +kernel)
theorem prmR : Prm 75445702479781427272750846543864801 := prm_chk prmT prm75707 (m := 39304471641247389600) (k := 996548568557483816196003626400) (a := 2) (f := 117) (by decide +kernel)
theorem prmQ : Prm 74058212732561358302231226437062788676166966415465897661863160754340907 := prm_chk prmR prmS (m := 981609426360740691344999861639072106) (k := 2331972502653487852620185443007392165117953542933313402) (a := 2) (f := 237) (by decide +kernel)
theorem prmP : Prm 57896044618658097711785492504343953926634992332820282019728792003956564819949 :=
  prm_one prmQ (m := 781764) (a := 2) (f := 256) (by decide +kernel)
end Go.Proofs.Ytgiemldmphbolaa

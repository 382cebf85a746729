/- The plain mathematics of changed bits: a register goes through exclusive or, and no change is lost. -/
import Derived.Test.YtmkiafjooidpnaaMath
namespace Go.Proofs.Ytmkiafjooidpnaa

theorem xor_eq_zero {a b : Nat} (h : a ^^^ b = 0) : a = b := by
  have : a ^^^ b ^^^ b = b := by rw [h, Nat.zero_xor]
  rwa [Nat.xor_assoc, Nat.xor_self, Nat.xor_zero] at this

theorem stp_ne (r : Nat) (h : r < 4294967296) (hn : r ≠ 0) : stp r ≠ 0 := by
  unfold stp
  split
  · intro e
    have := xor_eq_zero e
    omega
  · omega

theorem stps_ne (k : Nat) : ∀ r, r < 4294967296 → r ≠ 0 → stps k r ≠ 0 := by
  induction k with
  | zero => intro r _ h; exact h
  | succ k ih => intro r h hn; exact ih _ (stp_lt r h) (stp_ne r h hn)

/-- What is put to the register ahead of a row comes out behind it, shifted. -/
theorem crcRun_put (l : List Int) : ∀ r d, crcRun (r ^^^ d) l = crcRun r l ^^^ stps (8 * l.length) d := by
  induction l with
  | nil => intro r d; rfl
  | cons c l ih =>
    intro r d
    have e : (r ^^^ d) ^^^ c.toNat = (r ^^^ c.toNat) ^^^ d := by rw [Nat.xor_assoc, Nat.xor_comm d, ← Nat.xor_assoc]
    show crcRun (stps 8 ((r ^^^ d) ^^^ c.toNat)) l = crcRun (stps 8 (r ^^^ c.toNat)) l ^^^ stps (8 * (l.length + 1)) d
    rw [e, stps_xor, ih, show 8 * (l.length + 1) = 8 + 8 * l.length from by omega, stps_add]

/-- Four bytes changed: the register behind them. -/
theorem crcRun_four (r c0 c1 c2 c3 v : Nat) (hv : v < 4294967296) :
    crcRun r [((c0 ^^^ (v % 256) : Nat) : Int), ((c1 ^^^ (v / 256 % 256) : Nat) : Int), ((c2 ^^^ (v / 65536 % 256) : Nat) : Int), ((c3 ^^^ (v / 16777216 % 256) : Nat) : Int)] =
    crcRun r [(c0 : Int), (c1 : Int), (c2 : Int), (c3 : Int)] ^^^ stps 32 v := by
  have step : ∀ x c b d : Nat, stps 8 ((x ^^^ d) ^^^ (c ^^^ b)) = stps 8 (x ^^^ c) ^^^ stps 8 (d ^^^ b) := by
    intro x c b d
    rw [← stps_xor]
    congr 1
    rw [Nat.xor_assoc, Nat.xor_assoc, ← Nat.xor_assoc d, Nat.xor_comm d, Nat.xor_assoc c]
  have hq : ∀ q, stps 8 (q % 256) = stps 8 q ^^^ q / 256 := by
    intro q
    have := stps_split 8 q
    rw [this, Nat.xor_comm, ← Nat.xor_assoc, Nat.xor_self, Nat.zero_xor]
  have s0 : stps 8 (r ^^^ (c0 ^^^ (v % 256))) = stps 8 (r ^^^ c0) ^^^ (stps 8 v ^^^ v / 256) := by
    have := step r c0 (v % 256) 0
    rw [Nat.xor_zero, Nat.zero_xor, hq] at this
    exact this
  have inner : ∀ d q, stps 8 ((d ^^^ q) ^^^ (q % 256)) = stps 8 d ^^^ q / 256 := by
    intro d q
    rw [stps_xor, stps_xor, hq, Nat.xor_assoc, ← Nat.xor_assoc (stps 8 q), Nat.xor_self, Nat.zero_xor]
  have s1 : ∀ x, stps 8 ((x ^^^ (stps 8 v ^^^ v / 256)) ^^^ (c1 ^^^ (v / 256 % 256))) = stps 8 (x ^^^ c1) ^^^ (stps 16 v ^^^ v / 65536) := by
    intro x
    rw [step, inner, show v / 256 / 256 = v / 65536 from by omega, show (16 : Nat) = 8 + 8 from rfl, stps_add]
  have s2 : ∀ x, stps 8 ((x ^^^ (stps 16 v ^^^ v / 65536)) ^^^ (c2 ^^^ (v / 65536 % 256))) = stps 8 (x ^^^ c2) ^^^ (stps 24 v ^^^ v / 16777216) := by
    intro x
    rw [step, inner, show v / 65536 / 256 = v / 16777216 from by omega, show (24 : Nat) = 16 + 8 from rfl, stps_add]
  have s3 : ∀ x, stps 8 ((x ^^^ (stps 24 v ^^^ v / 16777216)) ^^^ (c3 ^^^ (v / 16777216 % 256))) = stps 8 (x ^^^ c3) ^^^ stps 32 v := by
    intro x
    rw [step, inner, show v / 16777216 / 256 = 0 from by omega, Nat.xor_zero, show (32 : Nat) = 24 + 8 from rfl, stps_add]
  show stps 8 (stps 8 (stps 8 (stps 8 (r ^^^ (c0 ^^^ (v % 256))) ^^^ (c1 ^^^ (v / 256 % 256))) ^^^ (c2 ^^^ (v / 65536 % 256))) ^^^ (c3 ^^^ (v / 16777216 % 256))) =
    stps 8 (stps 8 (stps 8 (stps 8 (r ^^^ c0) ^^^ c1) ^^^ c2) ^^^ c3) ^^^ stps 32 v
  rw [s0, s1, s2, s3]

theorem crcRun_found (x y : List Int) (c0 c1 c2 c3 v : Nat) (hv : v < 4294967296) (hn : v ≠ 0) :
    crcRun 4294967295 (x ++ ([((c0 ^^^ (v % 256) : Nat) : Int), ((c1 ^^^ (v / 256 % 256) : Nat) : Int), ((c2 ^^^ (v / 65536 % 256) : Nat) : Int), ((c3 ^^^ (v / 16777216 % 256) : Nat) : Int)] ++ y)) ≠
    crcRun 4294967295 (x ++ ([(c0 : Int), (c1 : Int), (c2 : Int), (c3 : Int)] ++ y)) := by
  rw [crcRun_append, crcRun_append, crcRun_append, crcRun_append, crcRun_four _ _ _ _ _ _ hv, crcRun_put]
  intro e
  have h1 := stps_ne (8 * y.length) _ (stps_lt 32 v hv) (stps_ne 32 v hv hn)
  apply h1
  have h2 : ∀ a b : Nat, a ^^^ b = a → b = 0 := by
    intro a b h
    have : a ^^^ (a ^^^ b) = a ^^^ a := by rw [h]
    rwa [← Nat.xor_assoc, Nat.xor_self, Nat.zero_xor] at this
  exact h2 _ _ e

/-- Three rows, put together by exclusive or: the first so many places. -/
def xorRow (a b c : List Int) (k : Nat) : List Int := (List.range k).map fun i => (((a.getD i 0).toNat ^^^ (b.getD i 0).toNat ^^^ (c.getD i 0).toNat : Nat) : Int)

theorem xorRow_succ (a b c : List Int) (k : Nat) : xorRow a b c (k + 1) = xorRow a b c k ++ [(((a.getD k 0).toNat ^^^ (b.getD k 0).toNat ^^^ (c.getD k 0).toNat : Nat) : Int)] := by
  unfold xorRow; rw [List.range_succ, List.map_append]; rfl

theorem takeSnoc (l : List Int) (k : Nat) (h : k < l.length) : l.take (k + 1) = l.take k ++ [l.getD k 0] := by
  rw [List.take_succ_eq_append_getElem h]; simp [h]

theorem crcRun_linear (a b c : List Int) (k : Nat) (ha : k ≤ a.length) (hb : k ≤ b.length) (hc : k ≤ c.length) :
    crcRun 4294967295 (xorRow a b c k) = crcRun 4294967295 (a.take k) ^^^ crcRun 4294967295 (b.take k) ^^^ crcRun 4294967295 (c.take k) := by
  induction k with
  | zero => simp [xorRow, crcRun_nil]
  | succ k ih =>
    rw [xorRow_succ, takeSnoc a k (by omega), takeSnoc b k (by omega), takeSnoc c k (by omega), crcRun_snoc, crcRun_snoc, crcRun_snoc, crcRun_snoc, ih (by omega) (by omega) (by omega), Int.toNat_natCast]
    rw [← stps_xor, ← stps_xor]
    congr 1
    generalize crcRun 4294967295 (a.take k) = A
    generalize crcRun 4294967295 (b.take k) = B
    generalize crcRun 4294967295 (c.take k) = C
    generalize (a.getD k 0).toNat = x
    generalize (b.getD k 0).toNat = y
    generalize (c.getD k 0).toNat = z
    apply Nat.eq_of_testBit_eq
    intro i
    simp only [Nat.testBit_xor]
    cases A.testBit i <;> cases B.testBit i <;> cases C.testBit i <;> cases x.testBit i <;> cases y.testBit i <;> cases z.testBit i <;> rfl

theorem not_xor3 (a b c : Nat) (ha : a < 4294967296) (hb : b < 4294967296) (hc : c < 4294967296) :
    4294967295 - (a ^^^ b ^^^ c) = (4294967295 - a) ^^^ (4294967295 - b) ^^^ (4294967295 - c) := by
  have h := Nat.xor_lt_two_pow (n := 32) (Nat.xor_lt_two_pow (n := 32) ha hb) hc
  rw [← ones_xor a ha, ← ones_xor b hb, ← ones_xor c hc, ← ones_xor _ h]
  generalize 4294967295 = o
  apply Nat.eq_of_testBit_eq
  intro i
  simp only [Nat.testBit_xor]
  cases a.testBit i <;> cases b.testBit i <;> cases c.testBit i <;> cases o.testBit i <;> rfl

end Go.Proofs.Ytmkiafjooidpnaa

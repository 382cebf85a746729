/- The contracts of field's elements: settle, and sums, differences, products; an element is its four words, below the prime. -/
import Derived.Test.YtgiemldmphbolaaC
import Derived.Test.YtgiemldmphbolaaW2
import Derived.Laws.BitsAllLaws
namespace Go.Proofs.Ytgiemldmphbolaa
open Go.RowKit

/-- The prime. -/
def pp : Nat := 57896044618658097711785492504343953926634992332820282019728792003956564819949

/-- An element's value: its four words. -/
abbrev el (x : Nat → Nat) : Value := .agg #[.int .u64 (x 0), .int .u64 (x 1), .int .u64 (x 2), .int .u64 (x 3)]
/-- Its number. -/
def nm (x : Nat → Nat) : Nat := num (x 0) (x 1) (x 2) (x 3)
/-- Four words as a function. -/
def four (a b c d : Nat) : Nat → Nat
  | 0 => a
  | 1 => b
  | 2 => c
  | _ => d
/-- It is an element: four words, below the prime. -/
def Ok (x : Nat → Nat) : Prop := (∀ i, x i < 18446744073709551616) ∧ nm x < pp

theorem orTop (n d : Nat) (hn : n < 4294967296) (hd : d < 18446744073709551616) : bits .or .u64 ((n : Int) * 2) ((d : Int) / 9223372036854775808) = ((2 * n + d / 9223372036854775808 : Nat) : Int) := by
  have h := u64_or_nat (n * 2) (d / 9223372036854775808) (by omega) (by omega)
  have e : n * 2 ||| d / 9223372036854775808 = 2 * n + d / 9223372036854775808 := by
    have := Nat.two_pow_add_eq_or_of_lt (i := 1) (b := d / 9223372036854775808) (by omega) n
    rw [Nat.mul_comm n 2, ← this]
  rw [e] at h
  simpa using h

theorem settle_math {a b c d o T S D x y z t k x' y' z' t' k' E : Nat} (ha : a < 18446744073709551616) (hb : b < 18446744073709551616) (hc : c < 18446744073709551616)
    (HT : T = 2 * o + d / 9223372036854775808) (HS : S = 19 * T) (HD : D = d % 9223372036854775808) (hT : T < 8589934592)
    (e1 : num x y z t + 115792089237316195423570985008687907853269984665640564039457584007913129639936 * k = num a b c D + S)
    (e2 : num x' y' z' t' + 115792089237316195423570985008687907853269984665640564039457584007913129639936 * k' = num x y z t + 19)
    (hx : x < 18446744073709551616) (hy : y < 18446744073709551616) (hz : z < 18446744073709551616) (ht : t < 18446744073709551616)
    (hx' : x' < 18446744073709551616) (hy' : y' < 18446744073709551616) (hz' : z' < 18446744073709551616) (ht' : t' < 18446744073709551616) (HE : E = t' % 9223372036854775808) :
    (t' / 9223372036854775808 = 1 → Ok (four x' y' z' E) ∧ nm (four x' y' z' E) = (num a b c d + 115792089237316195423570985008687907853269984665640564039457584007913129639936 * o) % pp) ∧
    (¬ t' / 9223372036854775808 = 1 → Ok (four x y z t) ∧ nm (four x y z t) = (num a b c d + 115792089237316195423570985008687907853269984665640564039457584007913129639936 * o) % pp) := by
  have key : num a b c d + 115792089237316195423570985008687907853269984665640564039457584007913129639936 * o = num x y z t + pp * T := by
    unfold num pp at *
    have hV : k = 0 := by omega
    subst hV
    omega
  rw [key, Nat.add_mul_mod_self_left]
  have hV : num x y z t < 57896044618658097711785492504343953926634992332820282019728792003956564819949 + 163208757248 := by
    unfold num at *
    omega
  have hW : num x' y' z' t' = num x y z t + 19 := by
    have : k' = 0 := by
      clear key e1
      generalize num x y z t = V at *
      omega
    subst this; omega
  constructor
  · intro h
    have hE : num x' y' z' E + 57896044618658097711785492504343953926634992332820282019728792003956564819968 = num x y z t + 19 := by
      rw [← hW]; unfold num; omega
    clear e1 e2 key
    have hlt : num x' y' z' E < pp := by unfold pp; omega
    refine ⟨⟨fun i => ?_, hlt⟩, ?_⟩
    · match i with
      | 0 => exact hx'
      | 1 => exact hy'
      | 2 => exact hz'
      | _ + 3 => show E < _; omega
    · show num x' y' z' E = _
      have : num x y z t = num x' y' z' E + pp := by unfold pp; omega
      rw [this, Nat.add_mod_right, Nat.mod_eq_of_lt hlt]
  · intro h
    have hlt : num x y z t < pp := by
      have h0 : t' < 9223372036854775808 := by omega
      have : num x' y' z' t' < 57896044618658097711785492504343953926634992332820282019728792003956564819968 := by unfold num; omega
      unfold pp; omega
    refine ⟨⟨fun i => ?_, hlt⟩, ?_⟩
    · match i with
      | 0 => exact hx
      | 1 => exact hy
      | 2 => exact hz
      | _ + 3 => exact ht
    · show num x y z t = _
      rw [Nat.mod_eq_of_lt hlt]

set_option maxHeartbeats 1000000 in
theorem settle_any (a b c d o : Nat) (ha : a < 18446744073709551616) (hb : b < 18446744073709551616) (hc : c < 18446744073709551616) (hd : d < 18446744073709551616) (ho : o < 4294967296) :
    ∃ x : Nat → Nat, Ok x ∧ Hid (nm x = (num a b c d + 115792089237316195423570985008687907853269984665640564039457584007913129639936 * o) % pp) ∧
    ∀ w, Calls Try.prog 57 #[wv a b c d, .int .u64 o] w fun e w' => e = .returned (el x) ∧ Below w.heap.size w w' := by
  obtain ⟨T, HT⟩ : ∃ T, Hid (T = 2 * o + d / 9223372036854775808) := ⟨_, hide1 rfl⟩
  obtain ⟨S, HS⟩ : ∃ S, Hid (S = 19 * T) := ⟨_, hide1 rfl⟩
  obtain ⟨D, HD⟩ : ∃ D, Hid (D = d % 9223372036854775808) := ⟨_, hide1 rfl⟩
  have hT : T < 8589934592 := by have := HT.out; omega
  have hS : S < 163208757248 := by have := HS.out; omega
  have hD : D < 9223372036854775808 := by have := HD.out; omega
  have hr := orTop o d ho hd
  rw [← HT.out] at hr
  have hm : (19 : Int) * (T : Int) = (S : Int) := by have := HS.out; omega
  obtain ⟨x, y, z, t, k, hx, hy, hz, ht, e1, c1⟩ := more_any a b c D S ha hb hc (by omega) (by omega)
  obtain ⟨x', y', z', t', k', hx', hy', hz', ht', e2, c2⟩ := more_any x y z t 19 hx hy hz ht (by omega)
  obtain ⟨E, HE⟩ : ∃ E, Hid (E = t' % 9223372036854775808) := ⟨_, hide1 rfl⟩
  have c0 := fun w => low_any a b c d hd w
  rw [← HD.out] at c0
  have c3 := fun w => low_any x' y' z' t' ht' w
  rw [← HE.out] at c3
  obtain ⟨m1, m2⟩ := settle_math ha hb hc HT.out HS.out HD.out hT e1.out e2.out hx hy hz ht hx' hy' hz' ht' HE.out
  by_cases htest : t' / 9223372036854775808 = 1
  · refine ⟨four x' y' z' E, (m1 htest).1, hide1 (m1 htest).2, fun w => ?_⟩
    have htest' : (t' : Int) / 9223372036854775808 = 1 := by omega
    clear htest HT HS HD HE e1 e2 m1 m2
    have hA1 := @aft_cell; have hA2 := @aft_frozen; have hA3 := @aft_set; have hA4 := @aft_lt; have hB1 := @aft2_cell; have hB2 := @aft2_frozen; have hB3 := @aft2_set; have hC1 := @aftc_cell; have hC2 := @aftc_frozen; have hC3 := @aftc_set
    go_enter Try.func57, Try.ntmps57
    go_wp2_with fail
    refine (c0 _).mono ?_
    rintro e w1 ⟨rfl, hb1⟩
    clear c0
    go_wp2_with fail
    refine (c1 _).mono ?_
    rintro e w2 ⟨rfl, hb2⟩
    replace hb1 := bnext hb1 hb2
    clear hb2 c1
    obtain ⟨g1, rfl⟩ := aft_of hb1
    clear hb1
    go_wp2_with fail
    refine (c2 _).mono ?_
    rintro e w3 ⟨rfl, hb3⟩
    clear c2
    obtain ⟨g3, rfl⟩ := aft_of hb3
    clear hb3
    rw [aft_aft]
    generalize (Gr.mk (g1.bl ++ g3.bl) g3.dr) = g
    go_wp2_with fail
    refine (c3 _).mono ?_
    rintro e w4 ⟨rfl, hb4⟩
    clear c3
    obtain ⟨g4, rfl⟩ := aft_of hb4
    clear hb4
    go_wp2_with fail
    exact bodyPost_ret (v := el (four x' y' z' E)) (by simp [results, Try.results57, go_sem, hB1, four]) rfl ⟨rfl, bnext (below2 _ _ _) (aft2_below _ _ _ _)⟩
  · refine ⟨four x y z t, (m2 htest).1, hide1 (m2 htest).2, fun w => ?_⟩
    have htest' : ((t' : Int) / 9223372036854775808 == 1) = false := by simp; omega
    clear htest HT HS HD HE e1 e2 m1 m2 c3
    have hA1 := @aft_cell; have hA2 := @aft_frozen; have hA3 := @aft_set; have hA4 := @aft_lt; have hB1 := @aft2_cell; have hB2 := @aft2_frozen; have hB3 := @aft2_set; have hC1 := @aftc_cell; have hC2 := @aftc_frozen; have hC3 := @aftc_set
    go_enter Try.func57, Try.ntmps57
    go_wp2_with fail
    refine (c0 _).mono ?_
    rintro e w1 ⟨rfl, hb1⟩
    clear c0
    go_wp2_with fail
    refine (c1 _).mono ?_
    rintro e w2 ⟨rfl, hb2⟩
    replace hb1 := bnext hb1 hb2
    clear hb2 c1
    obtain ⟨g1, rfl⟩ := aft_of hb1
    clear hb1
    go_wp2_with fail
    refine (c2 _).mono ?_
    rintro e w3 ⟨rfl, hb3⟩
    clear c2
    obtain ⟨g3, rfl⟩ := aft_of hb3
    clear hb3
    rw [aft_aft]
    generalize (Gr.mk (g1.bl ++ g3.bl) g3.dr) = g
    go_wp2_with fail
    exact bodyPost_ret (v := el (four x y z t)) (by simp [results, Try.results57, go_sem, hC1, four]) rfl ⟨rfl, bnext (below2 _ _ _) (aftc_below _ _ _)⟩
end Go.Proofs.Ytgiemldmphbolaa

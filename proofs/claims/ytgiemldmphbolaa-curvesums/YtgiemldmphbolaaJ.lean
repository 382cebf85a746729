/- The contract of Minus: a difference of elements. -/
import Derived.Test.YtgiemldmphbolaaF
namespace Go.Proofs.Ytgiemldmphbolaa
open Go.RowKit

set_option maxHeartbeats 2000000 in
theorem minus_any (x y : Nat → Nat) (hx : Ok x) (hy : Ok y) :
    ∃ z : Nat → Nat, Ok z ∧ Hid (nm z = (nm x + (pp - nm y)) % pp) ∧
    ∀ w, Calls Try.prog 32 #[el x, el y] w fun e w' => e = .returned (el z) ∧ Below w.heap.size w w' := by
  obtain ⟨p, q, r, s, j, hp, hq, hr, hs, hj, e0, c0⟩ := less_any 18446744073709551597 18446744073709551615 18446744073709551615 9223372036854775807 (y 0) (y 1) (y 2) (y 3) (by omega) (by omega) (by omega) (by omega) (hy.1 0) (hy.1 1) (hy.1 2) (hy.1 3)
  obtain ⟨a, b, c, d, k, ha, hb, hc, hd, hk, e1, c1⟩ := with_any (x 0) (x 1) (x 2) (x 3) 1 p q r s (hx.1 0) (hx.1 1) (hx.1 2) (hx.1 3) (by omega) hp hq hr hs
  have hpr : num 18446744073709551597 18446744073709551615 18446744073709551615 9223372036854775807 = pp := rfl
  have hj0 : num p q r s + nm y = pp := by
    have h1 := ok_lt hy; have := e0.out; rw [hpr] at this
    have hb : num p q r s < 115792089237316195423570985008687907853269984665640564039457584007913129639936 := by unfold num; omega
    unfold nm
    generalize num p q r s = A at *
    generalize num (y 0) (y 1) (y 2) (y 3) = B at *
    unfold pp at *
    omega
  have hk' : k < 4294967296 := by
    have h1 := ok_lt hx; have := e1.out
    generalize num p q r s = A at *
    generalize num (x 0) (x 1) (x 2) (x 3) = B at *
    generalize num a b c d = C at *
    unfold pp at *; omega
  obtain ⟨z, hz, e2, c2⟩ := settle_any a b c d k ha hb hc hd hk'
  refine ⟨z, hz, hide1 ?_, fun w => ?_⟩
  · rw [e2.out, e1.out, Nat.one_mul]
    have : pp - nm y = num p q r s := by omega
    rw [this]; rfl
  clear e0 e1 e2 hz hj0 hpr
  have hA1 := @aft_cell; have hA2 := @aft_frozen; have hA3 := @aft_set; have hA4 := @aft_aft; have hA5 := @aft_drew_in
  go_enter Try.func32, Try.ntmps32
  go_wp2_with fail
  go_region_with (first
    | (go_at_call 65; refine (prime_any _).mono ?_; rintro e w1 ⟨rfl, hb1⟩; obtain ⟨g1, rfl⟩ := aft_of hb1; clear hb1)
    | (go_at_call 66; refine (c0 _).mono ?_; rintro e w1 ⟨rfl, hb1⟩; obtain ⟨g2, rfl⟩ := aft_of hb1; clear hb1)
    | (go_at_call 64; refine (c1 _).mono ?_; rintro e w1 ⟨rfl, hb1⟩; obtain ⟨g3, rfl⟩ := aft_of hb1; clear hb1)
    | (go_at_call 57; refine (c2 _).mono ?_; rintro e w1 ⟨rfl, hb1⟩; obtain ⟨g4, rfl⟩ := aft_of hb1; clear hb1))
  all_goals go_wp2
  all_goals exact bodyPost_ret (v := el z) (by simp [results, Try.results32, go_sem, hA1]) rfl ⟨rfl, bnext (below3 _ _ _ _) (aft_below _ _)⟩
end Go.Proofs.Ytgiemldmphbolaa

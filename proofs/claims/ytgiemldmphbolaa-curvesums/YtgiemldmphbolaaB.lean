/- The contracts of field's numbers of four words: low, more, less, with, times. -/
import Derived.Test.YtgiemldmphbolaaA
import Derived.Deep.RegionWith
import Derived.Deep.RegionHeld3
namespace Go.Proofs.Ytgiemldmphbolaa
open Go.RowKit

/-- Four words as an array's value. -/
abbrev wv (a b c d : Nat) : Value := .agg #[.int .u64 a, .int .u64 b, .int .u64 c, .int .u64 d]
/-- The number of four words. -/
def num (a b c d : Nat) : Nat := a + 18446744073709551616 * b + 340282366920938463463374607431768211456 * c + 6277101735386680763835789423207666416102355444464034512896 * d

theorem andLow (a : Nat) (ha : a < 18446744073709551616) : bits .and .u64 (a : Int) 9223372036854775807 = ((a % 9223372036854775808 : Nat) : Int) := by
  have h := bits_and_u64_nat a 9223372036854775807 ha (by omega)
  have e : a &&& 9223372036854775807 = a % 9223372036854775808 := Nat.and_two_pow_sub_one_eq_mod a 63
  rw [e] at h
  exact h

theorem low_any (a b c d : Nat) (hd : d < 18446744073709551616) (w : World) :
    Calls Try.prog 59 #[wv a b c d] w fun e w' => e = .returned (wv a b c (d % 9223372036854775808)) ∧ Below w.heap.size w w' := by
  go_enter Try.func59, Try.ntmps59
  go_wp2
  rw [andLow d hd]
  exact bodyPost_ret (v := wv a b c (d % 9223372036854775808)) (by simp [results, Try.results59, go_sem]) rfl ⟨rfl, below2 _ _ _⟩

theorem more_any (a b c d n : Nat) (ha : a < 18446744073709551616) (hb : b < 18446744073709551616) (hc : c < 18446744073709551616) (hd : d < 18446744073709551616) (hn : n < 18446744073709551616) :
    ∃ x y z t k : Nat, x < 18446744073709551616 ∧ y < 18446744073709551616 ∧ z < 18446744073709551616 ∧ t < 18446744073709551616 ∧ Hid (num x y z t + 115792089237316195423570985008687907853269984665640564039457584007913129639936 * k = num a b c d + n) ∧
    ∀ w, Calls Try.prog 79 #[wv a b c d, .int .u64 n] w fun e w' => e = .returned (wv x y z t) ∧ Below w.heap.size w w' := by
  obtain ⟨x, n1, h1, k1, e1, c1⟩ := add64_ex0 a n ha hn
  obtain ⟨y, n2, h2, k2, e2, c2⟩ := add64_ex0 b n1 hb (by omega)
  obtain ⟨z, n3, h3, k3, e3, c3⟩ := add64_ex0 c n2 hc (by omega)
  obtain ⟨t, n4, h4, k4, e4, c4⟩ := add64_ex0 d n3 hd (by omega)
  refine ⟨x, y, z, t, n4, h1, h2, h3, h4, hide1 ?_, fun w => ?_⟩
  · have := e1.out; have := e2.out; have := e3.out; have := e4.out
    unfold num; omega
  go_enter Try.func79, Try.ntmps79
  go_wp2
  refine wp_loop_rounds 5 ?_
  rw [rounds_succ]; go_wp2
  rw [rounds_succ]; go_wp2
  rw [rounds_succ]; go_wp2
  rw [rounds_succ]; go_wp2
  rw [rounds_succ]; go_wp2
  exact bodyPost_ret (v := wv x y z t) (by simp [results, Try.results79, go_sem]) rfl ⟨rfl, below2 _ _ _⟩

set_option maxHeartbeats 1000000 in
theorem with_any (a b c d m p q r s : Nat) (ha : a < 18446744073709551616) (hb : b < 18446744073709551616) (hc : c < 18446744073709551616) (hd : d < 18446744073709551616) (hm : m < 18446744073709551616) (hp : p < 18446744073709551616) (hq : q < 18446744073709551616) (hr : r < 18446744073709551616) (hs : s < 18446744073709551616) :
    ∃ x y z t k : Nat, x < 18446744073709551616 ∧ y < 18446744073709551616 ∧ z < 18446744073709551616 ∧ t < 18446744073709551616 ∧ k < 18446744073709551616 ∧ Hid (num x y z t + 115792089237316195423570985008687907853269984665640564039457584007913129639936 * k = num a b c d + m * num p q r s) ∧
    ∀ w, Calls Try.prog 64 #[wv a b c d, .int .u64 m, wv p q r s] w fun e w' => e = .returned (.tuple #[wv x y z t, .int .u64 k]) ∧ Below w.heap.size w w' := by
  obtain ⟨x, n1, h1, k1, e1, c1⟩ := step_ex a m p 0 ha hm hp (by omega)
  obtain ⟨y, n2, h2, k2, e2, c2⟩ := step_ex b m q n1 hb hm hq k1
  obtain ⟨z, n3, h3, k3, e3, c3⟩ := step_ex c m r n2 hc hm hr k2
  obtain ⟨t, n4, h4, k4, e4, c4⟩ := step_ex d m s n3 hd hm hs k3
  refine ⟨x, y, z, t, n4, h1, h2, h3, h4, k4, hide1 ?_, fun w => ?_⟩
  · have := e1.out; have := e2.out; have := e3.out; have := e4.out
    unfold num
    simp only [Nat.mul_add, Nat.mul_left_comm m]
    omega
  have hsd := @set_drewN
  go_enter Try.func64, Try.ntmps64
  go_wp2
  go_loopw [8, 10] (fun ov i wr => ∃ n : Nat, ((i = .int .i64 0 ∧ ov = .int .u64 0 ∧ wr = (((w.alloc (.cells #[.int .u64 a, .int .u64 b, .int .u64 c, .int .u64 d] 27)).alloc (.cells #[.int .u64 p, .int .u64 q, .int .u64 r, .int .u64 s] 27)).alloc (.cells #[.int .u64 0, .int .u64 0, .int .u64 0, .int .u64 0] 27)).drewN n) ∨ (i = .int .i64 1 ∧ ov = .int .u64 n1 ∧ wr = (((w.alloc (.cells #[.int .u64 x, .int .u64 b, .int .u64 c, .int .u64 d] 27)).alloc (.cells #[.int .u64 p, .int .u64 q, .int .u64 r, .int .u64 s] 27)).alloc (.cells #[.int .u64 0, .int .u64 0, .int .u64 0, .int .u64 0] 27)).drewN n) ∨ (i = .int .i64 2 ∧ ov = .int .u64 n2 ∧ wr = (((w.alloc (.cells #[.int .u64 x, .int .u64 y, .int .u64 c, .int .u64 d] 27)).alloc (.cells #[.int .u64 p, .int .u64 q, .int .u64 r, .int .u64 s] 27)).alloc (.cells #[.int .u64 0, .int .u64 0, .int .u64 0, .int .u64 0] 27)).drewN n) ∨ (i = .int .i64 3 ∧ ov = .int .u64 n3 ∧ wr = (((w.alloc (.cells #[.int .u64 x, .int .u64 y, .int .u64 z, .int .u64 d] 27)).alloc (.cells #[.int .u64 p, .int .u64 q, .int .u64 r, .int .u64 s] 27)).alloc (.cells #[.int .u64 0, .int .u64 0, .int .u64 0, .int .u64 0] 27)).drewN n) ∨ (i = .int .i64 4 ∧ ov = .int .u64 n4 ∧ wr = (((w.alloc (.cells #[.int .u64 x, .int .u64 y, .int .u64 z, .int .u64 t] 27)).alloc (.cells #[.int .u64 p, .int .u64 q, .int .u64 r, .int .u64 s] 27)).alloc (.cells #[.int .u64 0, .int .u64 0, .int .u64 0, .int .u64 0] 27)).drewN n))) (fun _ i _ => 4 - (intOf i).toNat)
  case atStart => exact ⟨0, Or.inl ⟨rfl, rfl, rfl⟩⟩
  case round =>
    obtain ⟨n, ⟨rfl, rfl, rfl⟩ | ⟨rfl, rfl, rfl⟩ | ⟨rfl, rfl, rfl⟩ | ⟨rfl, rfl, rfl⟩ | ⟨rfl, rfl, rfl⟩⟩ := hrel
    · go_wp2
      go_region_with (go_at_call 82; refine (c1 _).mono ?_; rintro e w1 ⟨rfl, rfl⟩)
      all_goals go_wp2
      all_goals go_roundw
      all_goals first | (simp [intOf]; done) | exact ⟨n + 1, Or.inr (Or.inl ⟨rfl, rfl, rfl⟩)⟩
    · go_wp2
      go_region_with (go_at_call 82; refine (c2 _).mono ?_; rintro e w1 ⟨rfl, rfl⟩)
      all_goals go_wp2
      all_goals go_roundw
      all_goals first | (simp [intOf]; done) | exact ⟨n + 1, Or.inr (Or.inr (Or.inl ⟨rfl, rfl, rfl⟩))⟩
    · go_wp2
      go_region_with (go_at_call 82; refine (c3 _).mono ?_; rintro e w1 ⟨rfl, rfl⟩)
      all_goals go_wp2
      all_goals go_roundw
      all_goals first | (simp [intOf]; done) | exact ⟨n + 1, Or.inr (Or.inr (Or.inr (Or.inl ⟨rfl, rfl, rfl⟩)))⟩
    · go_wp2
      go_region_with (go_at_call 82; refine (c4 _).mono ?_; rintro e w1 ⟨rfl, rfl⟩)
      all_goals go_wp2
      all_goals go_roundw
      all_goals first | (simp [intOf]; done) | exact ⟨n + 1, Or.inr (Or.inr (Or.inr (Or.inr ⟨rfl, rfl, rfl⟩)))⟩
    · go_wp2
      exact bodyPost_ret (v := .tuple #[wv x y z t, .int .u64 n4]) (by simp [results, Try.results64, go_sem]) rfl ⟨rfl, below_drewN (below3 _ _ _ _) n⟩
end Go.Proofs.Ytgiemldmphbolaa

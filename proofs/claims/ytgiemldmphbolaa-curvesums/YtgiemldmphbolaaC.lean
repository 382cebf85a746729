/- The contracts of field's less (a difference of four words) and times (a product, in eight). -/
import Derived.Test.YtgiemldmphbolaaB
namespace Go.Proofs.Ytgiemldmphbolaa
open Go.RowKit

set_option maxHeartbeats 1000000 in
theorem less_any (a b c d p q r s : Nat) (ha : a < 18446744073709551616) (hb : b < 18446744073709551616) (hc : c < 18446744073709551616) (hd : d < 18446744073709551616) (hp : p < 18446744073709551616) (hq : q < 18446744073709551616) (hr : r < 18446744073709551616) (hs : s < 18446744073709551616) :
    ∃ x y z t k : Nat, x < 18446744073709551616 ∧ y < 18446744073709551616 ∧ z < 18446744073709551616 ∧ t < 18446744073709551616 ∧ k ≤ 1 ∧ Hid (num x y z t + num p q r s = num a b c d + 115792089237316195423570985008687907853269984665640564039457584007913129639936 * k) ∧
    ∀ w, Calls Try.prog 66 #[wv a b c d, wv p q r s] w fun e w' => e = .returned (wv x y z t) ∧ Below w.heap.size w w' := by
  obtain ⟨x, n1, h1, k1, e1, c1⟩ := sub64_ex a p 0 ha hp (by omega)
  obtain ⟨y, n2, h2, k2, e2, c2⟩ := sub64_ex b q n1 hb hq k1
  obtain ⟨z, n3, h3, k3, e3, c3⟩ := sub64_ex c r n2 hc hr k2
  obtain ⟨t, n4, h4, k4, e4, c4⟩ := sub64_ex d s n3 hd hs k3
  refine ⟨x, y, z, t, n4, h1, h2, h3, h4, k4, hide1 ?_, fun w => ?_⟩
  · have := e1.out; have := e2.out; have := e3.out; have := e4.out
    unfold num; omega
  have hsd := @set_drewN
  have c1' : ∀ (w : World), (callFunc 78 #[.int .u64 a, .int .u64 p, .int .u64 0]).run Try.prog w = .ok (.value (.tuple #[.int .u64 x, .int .u64 n1])) w := c1
  clear c1
  go_enter Try.func66, Try.ntmps66
  go_wp2
  go_loopw [5, 7] (fun ov i wr => ∃ n : Nat, ((i = .int .i64 0 ∧ ov = .int .u64 0 ∧ wr = (((w.alloc (.cells #[.int .u64 a, .int .u64 b, .int .u64 c, .int .u64 d] 27)).alloc (.cells #[.int .u64 p, .int .u64 q, .int .u64 r, .int .u64 s] 27)).alloc (.cells #[.int .u64 0, .int .u64 0, .int .u64 0, .int .u64 0] 27)).drewN n) ∨ (i = .int .i64 1 ∧ ov = .int .u64 n1 ∧ wr = (((w.alloc (.cells #[.int .u64 x, .int .u64 b, .int .u64 c, .int .u64 d] 27)).alloc (.cells #[.int .u64 p, .int .u64 q, .int .u64 r, .int .u64 s] 27)).alloc (.cells #[.int .u64 0, .int .u64 0, .int .u64 0, .int .u64 0] 27)).drewN n) ∨ (i = .int .i64 2 ∧ ov = .int .u64 n2 ∧ wr = (((w.alloc (.cells #[.int .u64 x, .int .u64 y, .int .u64 c, .int .u64 d] 27)).alloc (.cells #[.int .u64 p, .int .u64 q, .int .u64 r, .int .u64 s] 27)).alloc (.cells #[.int .u64 0, .int .u64 0, .int .u64 0, .int .u64 0] 27)).drewN n) ∨ (i = .int .i64 3 ∧ ov = .int .u64 n3 ∧ wr = (((w.alloc (.cells #[.int .u64 x, .int .u64 y, .int .u64 z, .int .u64 d] 27)).alloc (.cells #[.int .u64 p, .int .u64 q, .int .u64 r, .int .u64 s] 27)).alloc (.cells #[.int .u64 0, .int .u64 0, .int .u64 0, .int .u64 0] 27)).drewN n) ∨ (i = .int .i64 4 ∧ ov = .int .u64 n4 ∧ wr = (((w.alloc (.cells #[.int .u64 x, .int .u64 y, .int .u64 z, .int .u64 t] 27)).alloc (.cells #[.int .u64 p, .int .u64 q, .int .u64 r, .int .u64 s] 27)).alloc (.cells #[.int .u64 0, .int .u64 0, .int .u64 0, .int .u64 0] 27)).drewN n))) (fun _ i _ => 4 - (intOf i).toNat)
  case atStart => exact ⟨0, Or.inl ⟨rfl, rfl, rfl⟩⟩
  case round =>
    obtain ⟨n, ⟨rfl, rfl, rfl⟩ | ⟨rfl, rfl, rfl⟩ | ⟨rfl, rfl, rfl⟩ | ⟨rfl, rfl, rfl⟩ | ⟨rfl, rfl, rfl⟩⟩ := hrel
    · go_wp2
      go_region
      all_goals go_wp2
      all_goals go_roundw
      all_goals first | (simp [intOf]; done) | exact ⟨n + 1, Or.inr (Or.inl ⟨rfl, rfl, rfl⟩)⟩
    · go_wp2
      go_region
      all_goals go_wp2
      all_goals go_roundw
      all_goals first | (simp [intOf]; done) | exact ⟨n + 1, Or.inr (Or.inr (Or.inl ⟨rfl, rfl, rfl⟩))⟩
    · go_wp2
      go_region
      all_goals go_wp2
      all_goals go_roundw
      all_goals first | (simp [intOf]; done) | exact ⟨n + 1, Or.inr (Or.inr (Or.inr (Or.inl ⟨rfl, rfl, rfl⟩)))⟩
    · go_wp2
      go_region
      all_goals go_wp2
      all_goals go_roundw
      all_goals first | (simp [intOf]; done) | exact ⟨n + 1, Or.inr (Or.inr (Or.inr (Or.inr ⟨rfl, rfl, rfl⟩)))⟩
    · go_wp2
      exact bodyPost_ret (v := wv x y z t) (by simp [results, Try.results66, go_sem]) rfl ⟨rfl, below_drewN (below3 _ _ _ _) n⟩

theorem row_eq {l n p q r s f g h i o0 o1 o2 f' s' t' q' : Nat} (e0 : l + 18446744073709551616 * o0 = f + n * p + 0) (e1 : f' + 18446744073709551616 * o1 = g + n * q + o0)
    (e2 : s' + 18446744073709551616 * o2 = h + n * r + o1) (e3 : t' + 18446744073709551616 * q' = i + n * s + o2) :
    l + 18446744073709551616 * num f' s' t' q' = num f g h i + n * num p q r s := by
  unfold num
  simp only [Nat.mul_add, Nat.mul_left_comm n]
  omega

set_option maxHeartbeats 8000000 in
theorem times_any (a b c d p q r s : Nat) (ha : a < 18446744073709551616) (hb : b < 18446744073709551616) (hc : c < 18446744073709551616) (hd : d < 18446744073709551616) (hp : p < 18446744073709551616) (hq : q < 18446744073709551616) (hr : r < 18446744073709551616) (hs : s < 18446744073709551616) :
    ∃ x y z t f g h i : Nat, x < 18446744073709551616 ∧ y < 18446744073709551616 ∧ z < 18446744073709551616 ∧ t < 18446744073709551616 ∧ f < 18446744073709551616 ∧ g < 18446744073709551616 ∧ h < 18446744073709551616 ∧ i < 18446744073709551616 ∧ Hid (num x y z t + 115792089237316195423570985008687907853269984665640564039457584007913129639936 * num f g h i = num a b c d * num p q r s) ∧
    ∀ w, Calls Try.prog 80 #[wv a b c d, wv p q r s] w fun e w' => e = .returned (.tuple #[wv x y z t, wv f g h i]) ∧ Below w.heap.size w w' := by
  obtain ⟨l0, o00, bl0, bo00, e00, c00⟩ := step_ex 0 a p 0 (by omega) ha hp (by omega)
  obtain ⟨f0, o01, bf0, bo01, e01, c01⟩ := step_ex 0 a q o00 (by omega) ha hq bo00
  obtain ⟨s0, o02, bs0, bo02, e02, c02⟩ := step_ex 0 a r o01 (by omega) ha hr bo01
  obtain ⟨t0, q0, bt0, bq0, e03, c03⟩ := step_ex 0 a s o02 (by omega) ha hs bo02
  obtain ⟨l1, o10, bl1, bo10, e10, c10⟩ := step_ex f0 b p 0 bf0 hb hp (by omega)
  obtain ⟨f1, o11, bf1, bo11, e11, c11⟩ := step_ex s0 b q o10 bs0 hb hq bo10
  obtain ⟨s1, o12, bs1, bo12, e12, c12⟩ := step_ex t0 b r o11 bt0 hb hr bo11
  obtain ⟨t1, q1, bt1, bq1, e13, c13⟩ := step_ex q0 b s o12 bq0 hb hs bo12
  obtain ⟨l2, o20, bl2, bo20, e20, c20⟩ := step_ex f1 c p 0 bf1 hc hp (by omega)
  obtain ⟨f2, o21, bf2, bo21, e21, c21⟩ := step_ex s1 c q o20 bs1 hc hq bo20
  obtain ⟨s2, o22, bs2, bo22, e22, c22⟩ := step_ex t1 c r o21 bt1 hc hr bo21
  obtain ⟨t2, q2, bt2, bq2, e23, c23⟩ := step_ex q1 c s o22 bq1 hc hs bo22
  obtain ⟨l3, o30, bl3, bo30, e30, c30⟩ := step_ex f2 d p 0 bf2 hd hp (by omega)
  obtain ⟨f3, o31, bf3, bo31, e31, c31⟩ := step_ex s2 d q o30 bs2 hd hq bo30
  obtain ⟨s3, o32, bs3, bo32, e32, c32⟩ := step_ex t2 d r o31 bt2 hd hr bo31
  obtain ⟨t3, q3, bt3, bq3, e33, c33⟩ := step_ex q2 d s o32 bq2 hd hs bo32
  refine ⟨l0, l1, l2, l3, f3, s3, t3, q3, bl0, bl1, bl2, bl3, bf3, bs3, bt3, bq3, hide1 ?_, fun w => ?_⟩
  · have r0 := row_eq (e00).out (e01).out (e02).out (e03).out; have r1 := row_eq (e10).out (e11).out (e12).out (e13).out; have r2 := row_eq (e20).out (e21).out (e22).out (e23).out; have r3 := row_eq (e30).out (e31).out (e32).out (e33).out
    clear e00 e01 e02 e03 e10 e11 e12 e13 e20 e21 e22 e23 e30 e31 e32 e33
    have hz : num 0 0 0 0 = 0 := rfl
    rw [hz] at r0
    generalize num p q r s = V at *
    generalize num f3 s3 t3 q3 = R3 at *
    generalize num f2 s2 t2 q2 = R2 at *
    generalize num f1 s1 t1 q1 = R1 at *
    generalize num f0 s0 t0 q0 = R0 at *
    unfold num
    simp only [Nat.add_mul, Nat.mul_assoc]
    omega
  have i0 : ∀ w : World, (Instr.index 27 (.agg #[.int .u64 a, .int .u64 b, .int .u64 c, .int .u64 d]) (.int .i64 0)).run Try.prog w = .ok (.int .u64 a) w := fun _ => by kernel_rfl
  have i1 : ∀ w : World, (Instr.index 27 (.agg #[.int .u64 a, .int .u64 b, .int .u64 c, .int .u64 d]) (.int .i64 1)).run Try.prog w = .ok (.int .u64 b) w := fun _ => by kernel_rfl
  have i2 : ∀ w : World, (Instr.index 27 (.agg #[.int .u64 a, .int .u64 b, .int .u64 c, .int .u64 d]) (.int .i64 2)).run Try.prog w = .ok (.int .u64 c) w := fun _ => by kernel_rfl
  have i3 : ∀ w : World, (Instr.index 27 (.agg #[.int .u64 a, .int .u64 b, .int .u64 c, .int .u64 d]) (.int .i64 3)).run Try.prog w = .ok (.int .u64 d) w := fun _ => by kernel_rfl
  clear e00 e01 e02 e03 e10 e11 e12 e13 e20 e21 e22 e23 e30 e31 e32 e33
  go_enter Try.func80, Try.ntmps80
  go_wp2
  refine wp_loop_rounds 5 ?_
  rw [rounds_succ]
  go_wp2_with fail
  refine (c00 _).mono ?_
  rintro e w1 ⟨rfl, rfl⟩
  clear c00
  go_wp2_with fail
  refine (c01 _).mono ?_
  rintro e w1 ⟨rfl, rfl⟩
  clear c01
  go_wp2_with fail
  refine (c02 _).mono ?_
  rintro e w1 ⟨rfl, rfl⟩
  clear c02
  go_wp2_with fail
  refine (c03 _).mono ?_
  rintro e w1 ⟨rfl, rfl⟩
  clear c03
  go_wp2_with fail
  rw [rounds_succ]
  go_wp2_with fail
  refine (c10 _).mono ?_
  rintro e w1 ⟨rfl, rfl⟩
  clear c10
  go_wp2_with fail
  refine (c11 _).mono ?_
  rintro e w1 ⟨rfl, rfl⟩
  clear c11
  go_wp2_with fail
  refine (c12 _).mono ?_
  rintro e w1 ⟨rfl, rfl⟩
  clear c12
  go_wp2_with fail
  refine (c13 _).mono ?_
  rintro e w1 ⟨rfl, rfl⟩
  clear c13
  go_wp2_with fail
  rw [rounds_succ]
  go_wp2_with fail
  refine (c20 _).mono ?_
  rintro e w1 ⟨rfl, rfl⟩
  clear c20
  go_wp2_with fail
  refine (c21 _).mono ?_
  rintro e w1 ⟨rfl, rfl⟩
  clear c21
  go_wp2_with fail
  refine (c22 _).mono ?_
  rintro e w1 ⟨rfl, rfl⟩
  clear c22
  go_wp2_with fail
  refine (c23 _).mono ?_
  rintro e w1 ⟨rfl, rfl⟩
  clear c23
  go_wp2_with fail
  rw [rounds_succ]
  go_wp2_with fail
  refine (c30 _).mono ?_
  rintro e w1 ⟨rfl, rfl⟩
  clear c30
  go_wp2_with fail
  refine (c31 _).mono ?_
  rintro e w1 ⟨rfl, rfl⟩
  clear c31
  go_wp2_with fail
  refine (c32 _).mono ?_
  rintro e w1 ⟨rfl, rfl⟩
  clear c32
  go_wp2_with fail
  refine (c33 _).mono ?_
  rintro e w1 ⟨rfl, rfl⟩
  clear c33
  go_wp2_with fail
  rw [rounds_succ]; go_wp2
  exact bodyPost_ret (v := .tuple #[wv l0 l1 l2 l3, wv f3 s3 t3 q3]) (by simp [results, Try.results80, go_sem]) rfl ⟨rfl, below4 _ _ _ _ _⟩
end Go.Proofs.Ytgiemldmphbolaa

/- The contracts of field's sums, differences, products and tests of elements. -/
import Derived.Test.YtgiemldmphbolaaD
import Derived.Test.YtgiemldmphbolaaW3
namespace Go.Proofs.Ytgiemldmphbolaa
open Go.RowKit

theorem ok_lt {x : Nat → Nat} (h : Ok x) : num (x 0) (x 1) (x 2) (x 3) < pp := h.2

set_option maxHeartbeats 1000000 in
theorem plus_any (x y : Nat → Nat) (hx : Ok x) (hy : Ok y) :
    ∃ z : Nat → Nat, Ok z ∧ Hid (nm z = (nm x + nm y) % pp) ∧
    ∀ w, Calls Try.prog 62 #[el x, el y] w fun e w' => e = .returned (el z) ∧ Below w.heap.size w w' := by
  obtain ⟨a, b, c, d, k, ha, hb, hc, hd, hk, e1, c1⟩ := with_any (x 0) (x 1) (x 2) (x 3) 1 (y 0) (y 1) (y 2) (y 3) (hx.1 0) (hx.1 1) (hx.1 2) (hx.1 3) (by omega) (hy.1 0) (hy.1 1) (hy.1 2) (hy.1 3)
  have hk' : k < 4294967296 := by
    have h1 := ok_lt hx; have h2 := ok_lt hy; have := e1.out; unfold pp at *; omega
  obtain ⟨z, hz, e2, c2⟩ := settle_any a b c d k ha hb hc hd hk'
  refine ⟨z, hz, hide1 ?_, fun w => ?_⟩
  · rw [e2.out, e1.out, Nat.one_mul]; rfl
  clear e1 e2 hz
  have hA1 := @aft_cell; have hA2 := @aft_frozen; have hA3 := @aft_set
  go_enter Try.func62, Try.ntmps62
  go_wp2_with fail
  refine (c1 _).mono ?_
  rintro e w1 ⟨rfl, hb1⟩
  go_wp2_with fail
  refine (c2 _).mono ?_
  rintro e w2 ⟨rfl, hb2⟩
  obtain ⟨g, rfl⟩ := aft_of (bnext hb1 hb2)
  clear hb1 hb2 c1 c2
  go_wp2_with fail
  exact bodyPost_ret (v := el z) (by simp [results, Try.results62, go_sem, hA1]) rfl ⟨rfl, bnext (below3 _ _ _ _) (aft_below _ _)⟩

set_option maxHeartbeats 1000000 in
theorem times_el (x y : Nat → Nat) (hx : Ok x) (hy : Ok y) :
    ∃ z : Nat → Nat, Ok z ∧ Hid (nm z = (nm x * nm y) % pp) ∧
    ∀ w, Calls Try.prog 60 #[el x, el y] w fun e w' => e = .returned (el z) ∧ Below w.heap.size w w' := by
  obtain ⟨p, q, r, s, p', q', r', s', hp, hq, hr, hs, hp', hq', hr', hs', e0, c0⟩ := times_any (x 0) (x 1) (x 2) (x 3) (y 0) (y 1) (y 2) (y 3) (hx.1 0) (hx.1 1) (hx.1 2) (hx.1 3) (hy.1 0) (hy.1 1) (hy.1 2) (hy.1 3)
  obtain ⟨a, b, c, d, k, ha, hb, hc, hd, hk, e1, c1⟩ := with_any p q r s 38 p' q' r' s' hp hq hr hs (by omega) hp' hq' hr' hs'
  have hk' : k < 4294967296 := by
    have := e1.out; unfold num at this; omega
  obtain ⟨z, hz, e2, c2⟩ := settle_any a b c d k ha hb hc hd hk'
  refine ⟨z, hz, hide1 ?_, fun w => ?_⟩
  · have h0 := e0.out
    have h : num p q r s + 115792089237316195423570985008687907853269984665640564039457584007913129639936 * num p' q' r' s' = num p q r s + 38 * num p' q' r' s' + pp * (2 * num p' q' r' s') := by unfold pp; omega
    rw [e2.out, e1.out]
    show _ = num (x 0) (x 1) (x 2) (x 3) * num (y 0) (y 1) (y 2) (y 3) % pp
    rw [← h0, h, Nat.add_mul_mod_self_left]
  clear e0 e1 e2 hz
  have hA1 := @aft_cell; have hA2 := @aft_frozen; have hA3 := @aft_set
  have hB1 := @aft3_cell; have hB2 := @aft3_frozen; have hB3 := @aft3_set
  go_enter Try.func60, Try.ntmps60
  go_wp2_with fail
  refine (c0 _).mono ?_
  rintro e w1 ⟨rfl, hb1⟩
  obtain ⟨g, rfl⟩ := aft_of hb1
  clear hb1 c0
  go_wp2_with fail
  refine (c1 _).mono ?_
  rintro e w1 ⟨rfl, hb1⟩
  go_wp2_with fail
  refine (c2 _).mono ?_
  rintro e w2 ⟨rfl, hb2⟩
  obtain ⟨h, rfl⟩ := aft_of (bnext hb1 hb2)
  clear hb1 hb2 c1 c2
  go_wp2_with fail
  exact bodyPost_ret (v := el z) (by simp [results, Try.results60, go_sem, hB1]) rfl ⟨rfl, bnext (below3 _ _ _ _) (aft3_below _ _ _ _ _)⟩

/-- The prime's words. -/
theorem prime_any (w : World) : Calls Try.prog 65 #[] w fun e w' => e = .returned (wv 18446744073709551597 18446744073709551615 18446744073709551615 9223372036854775807) ∧ Below w.heap.size w w' := by
  go_enter Try.func65, Try.ntmps65
  go_wp2
  exact bodyPost_ret (v := wv 18446744073709551597 18446744073709551615 18446744073709551615 9223372036854775807) (by simp [results, Try.results65, go_sem]) rfl ⟨rfl, below1 _ _⟩

theorem beq_words {x y : Nat → Nat} (hx : ∀ i, x i < 18446744073709551616) (hy : ∀ i, y i < 18446744073709551616) : (nm x = nm y) ↔ (x 0 = y 0 ∧ x 1 = y 1 ∧ x 2 = y 2 ∧ x 3 = y 3) := by
  have a0 := hx 0; have a1 := hx 1; have a2 := hx 2; have a3 := hx 3
  have b0 := hy 0; have b1 := hy 1; have b2 := hy 2; have b3 := hy 3
  unfold nm num
  omega

set_option maxRecDepth 100000 in
theorem eq_words (x y : Nat → Nat) (hx : Ok x) (hy : Ok y) (w : World) : (Op.equalIn 10000 27 (el x) (el y)).run Try.prog w = .ok (decide (nm x = nm y)) w := by
  rw [eq_ints (e := 25) (n := 4) (k := .u64) (k' := .u64) Try.underlying27 (inf := _) rfl (by kernel_rfl) Try.underlying25 (fun _ => by kernel_rfl) _ _ (fun i => (x i : Int)) (fun i => (y i : Int))
    (fun i hi => by match i, hi with
      | 0, _ => rfl
      | 1, _ => rfl
      | 2, _ => rfl
      | 3, _ => rfl) (fun i hi => by match i, hi with
      | 0, _ => rfl
      | 1, _ => rfl
      | 2, _ => rfl
      | 3, _ => rfl) w]
  congr 1
  rw [decide_eq_decide, beq_words hx.1 hy.1]
  constructor
  · intro h
    have a0 := h 0 (by omega); have a1 := h 1 (by omega); have a2 := h 2 (by omega); have a3 := h 3 (by omega)
    omega
  · rintro ⟨a0, a1, a2, a3⟩ i hi
    match i, hi with
    | 0, _ => simp [a0]
    | 1, _ => simp [a1]
    | 2, _ => simp [a2]
    | 3, _ => simp [a3]

theorem is_any (x y : Nat → Nat) (hx : Ok x) (hy : Ok y) (w : World) :
    Calls Try.prog 31 #[el x, el y] w fun e w' => e = .returned (.bool (decide (nm x = nm y))) ∧ Below w.heap.size w w' := by
  have hb := eq_words x y hx hy
  go_enter Try.func31, Try.ntmps31
  go_wp2
  go_ret
  exact ⟨rfl, below2 _ _ _⟩

theorem even_any (x : Nat → Nat) (hx : Ok x) (w : World) :
    Calls Try.prog 45 #[el x] w fun e w' => e = .returned (.bool (decide (nm x % 2 = 0))) ∧ Below w.heap.size w w' := by
  have h0 := hx.1 0
  have h1 : (bits BinOp.and IntKind.u64 ((x 0 : Nat) : Int) 1 == 0) = decide (nm x % 2 = 0) := by
    have h := u64_and_nat (x 0) 1 h0 (by omega)
    have h2 : bits BinOp.and IntKind.u64 ((x 0 : Nat) : Int) 1 = ((x 0 % 2 : Nat) : Int) := by
      rw [nat_mask1] at h; exact h
    rw [h2]
    have h3 : nm x % 2 = x 0 % 2 := by unfold nm num; omega
    rw [h3, Bool.eq_iff_iff]; simp; omega
  go_enter Try.func45, Try.ntmps45
  go_wp2
  go_ret
  exact ⟨rfl, below1 _ _⟩
end Go.Proofs.Ytgiemldmphbolaa

/- The contracts of elements in one form: an element is told by its number. -/
import Derived.Test.YtgiemldmphbolaaR
import Derived.Test.YtgiemldmphbolaaI
import Derived.Test.YtgiemldmphbolaaM
namespace Go.Proofs.Ytgiemldmphbolaa
open Go.RowKit

/-- The four words of a number. -/
def dig (n : Nat) : Nat → Nat := four (n % 18446744073709551616) (n / 18446744073709551616 % 18446744073709551616) (n / 340282366920938463463374607431768211456 % 18446744073709551616) (n / 6277101735386680763835789423207666416102355444464034512896 % 18446744073709551616)

theorem dig_ok {n : Nat} (h : n < pp) : Ok (dig n) ∧ nm (dig n) = n := by
  have e : nm (dig n) = n := by
    simp only [nm, dig, four]
    unfold num pp at *
    omega
  refine ⟨⟨fun i => ?_, by rw [e]; exact h⟩, e⟩
  match i with
  | 0 => exact Nat.mod_lt _ (by omega)
  | 1 => exact Nat.mod_lt _ (by omega)
  | 2 => exact Nat.mod_lt _ (by omega)
  | _ + 3 => exact Nat.mod_lt _ (by omega)

theorem el_dig {z : Nat → Nat} (hz : Ok z) {n : Nat} (e : nm z = n) : el z = el (dig n) := by
  subst e
  have h := dig_ok hz.2
  obtain ⟨a, b, c, d⟩ := (beq_words hz.1 h.1.1).1 h.2.symm
  rw [el, el, a, b, c, d]

theorem pp_pos : 0 < pp := by unfold pp; omega
theorem mod_pp (n : Nat) : n % pp < pp := Nat.mod_lt _ pp_pos

theorem plus_d {m n : Nat} (hm : m < pp) (hn : n < pp) (w : World) : Calls Try.prog 62 #[el (dig m), el (dig n)] w fun e w' => e = .returned (el (dig ((m + n) % pp))) ∧ Below w.heap.size w w' := by
  obtain ⟨z, hz, e, c⟩ := plus_any _ _ (dig_ok hm).1 (dig_ok hn).1
  have e := e.out; rw [(dig_ok hm).2, (dig_ok hn).2] at e
  rw [← el_dig hz e]; exact c w
theorem minus_d {m n : Nat} (hm : m < pp) (hn : n < pp) (w : World) : Calls Try.prog 32 #[el (dig m), el (dig n)] w fun e w' => e = .returned (el (dig ((m + (pp - n)) % pp))) ∧ Below w.heap.size w w' := by
  obtain ⟨z, hz, e, c⟩ := minus_any _ _ (dig_ok hm).1 (dig_ok hn).1
  have e := e.out; rw [(dig_ok hm).2, (dig_ok hn).2] at e
  rw [← el_dig hz e]; exact c w
theorem times_d {m n : Nat} (hm : m < pp) (hn : n < pp) (w : World) : Calls Try.prog 60 #[el (dig m), el (dig n)] w fun e w' => e = .returned (el (dig (m * n % pp))) ∧ Below w.heap.size w w' := by
  obtain ⟨z, hz, e, c⟩ := times_el _ _ (dig_ok hm).1 (dig_ok hn).1
  have e := e.out; rw [(dig_ok hm).2, (dig_ok hn).2] at e
  rw [← el_dig hz e]; exact c w
theorem is_d {m n : Nat} (hm : m < pp) (hn : n < pp) (w : World) : Calls Try.prog 31 #[el (dig m), el (dig n)] w fun e w' => e = .returned (.bool (decide (m = n))) ∧ Below w.heap.size w w' := by
  have := is_any _ _ (dig_ok hm).1 (dig_ok hn).1 w
  rwa [(dig_ok hm).2, (dig_ok hn).2] at this
theorem even_d {m : Nat} (hm : m < pp) (w : World) : Calls Try.prog 45 #[el (dig m)] w fun e w' => e = .returned (.bool (decide (m % 2 = 0))) ∧ Below w.heap.size w w' := by
  have := even_any _ (dig_ok hm).1 w
  rwa [(dig_ok hm).2] at this
/-- The number that 32 bytes tell, as an element. -/
def ofb (b : Nat → Nat) : Nat := nb b 32 % 57896044618658097711785492504343953926634992332820282019728792003956564819968 % pp
theorem of_d {b : Nat → Nat} (hb : ∀ i, b i < 256) (w : World) : Calls Try.prog 28 #[.agg (arr 32 fun i => .int .u8 (b i))] w fun e w' => e = .returned (el (dig (ofb b))) ∧ Below w.heap.size w w' := by
  obtain ⟨z, hz, e, c⟩ := of_any b hb
  rw [← el_dig hz (n := ofb b) e.out]; exact c w
theorem int_pos_d {m : Nat} (h : m < 9223372036854775808) (w : World) : Calls Try.prog 51 #[.int .i64 (m : Int)] w fun e w' => e = .returned (el (dig m)) ∧ Below w.heap.size w w' := by
  rw [← el_dig (ok_four m (by omega)).1 (ok_four m (by omega)).2]; exact int_pos m h w
theorem int_neg_d {m : Nat} (h1 : 1 ≤ m) (h2 : m ≤ 9223372036854775808) (w : World) : Calls Try.prog 51 #[.int .i64 (-(m : Int))] w fun e w' => e = .returned (el (dig (pp - m))) ∧ Below w.heap.size w w' := by
  obtain ⟨z, hz, e, c⟩ := int_neg m h1 h2
  have e := e.out; rw [Nat.mod_eq_of_lt (by have := pp_pos; omega)] at e
  rw [← el_dig hz e]; exact c w

/-- The inverse's number. -/
theorem inverse_d {m : Nat} (hm : m < pp) : ∃ k : Nat, Hid (k = 57896044618658097711785492504343953926634992332820282019728792003956564819947) ∧ ∀ w, Calls Try.prog 74 #[el (dig m)] w fun e w' => e = .returned (el (dig (m ^ k % pp))) ∧ Below w.heap.size w w' := by
  obtain ⟨k, hk⟩ : ∃ k : Nat, Hid (k = 57896044618658097711785492504343953926634992332820282019728792003956564819947) := ⟨_, hide1 rfl⟩
  refine ⟨k, hk, fun w => ?_⟩
  refine (inverse_any _ (dig_ok hm).1 w).mono ?_
  rintro e w' ⟨z, k', hz, hk', ez, rfl, hb⟩
  obtain rfl : k = k' := hk.out.trans hk'.out.symm
  have ez := ez.out
  rw [(dig_ok hm).2] at ez
  exact ⟨by rw [el_dig hz ez], hb⟩

set_option maxRecDepth 100000 in
set_option maxHeartbeats 2000000 in
theorem over_d {m n : Nat} (hm : m < pp) (hn : n < pp) : ∃ k : Nat, Hid (k = 57896044618658097711785492504343953926634992332820282019728792003956564819947) ∧ ∀ w, Calls Try.prog 52 #[el (dig m), el (dig n)] w fun e w' => e = .returned (el (dig (m * (n ^ k % pp) % pp))) ∧ Below w.heap.size w w' := by
  obtain ⟨k, hk, c1⟩ := inverse_d hn
  refine ⟨k, hk, fun w => ?_⟩
  have c2 := fun w => times_d hm (mod_pp (n ^ k)) w
  clear hk
  generalize n ^ k % pp = r at *
  generalize m * r % pp = q at *
  have hA1 := @aft_cell; have hA2 := @aft_frozen; have hA3 := @aft_set; have hA4 := @aft_aft; have hA5 := @aft_drew_in
  go_enter Try.func52, Try.ntmps52
  go_wp2_with fail
  go_region_with (first
    | (go_at_call 74; refine (c1 _).mono ?_; rintro e w1 ⟨rfl, hb1⟩; obtain ⟨g1, rfl⟩ := aft_of hb1; clear hb1)
    | (go_at_call 60; refine (c2 _).mono ?_; rintro e w1 ⟨rfl, hb1⟩; obtain ⟨g2, rfl⟩ := aft_of hb1; clear hb1))
  all_goals go_wp2
  all_goals exact bodyPost_ret (v := el (dig q)) (by simp [results, Try.results52, go_sem, hA1]) rfl ⟨rfl, bnext (below3 _ _ _ _) (aft_below _ _)⟩
end Go.Proofs.Ytgiemldmphbolaa

/- The contract of Of: the element of bytes. -/
import Derived.Test.YtgiemldmphbolaaH
namespace Go.Proofs.Ytgiemldmphbolaa
open Go.RowKit

/-- The number of the first k bytes. -/
def nb (b : Nat → Nat) : Nat → Nat
  | 0 => 0
  | k + 1 => nb b k + b k * 256 ^ k

theorem nb_lt {b : Nat → Nat} (hb : ∀ i, b i < 256) : ∀ k, nb b k < 256 ^ k := by
  intro k
  induction k with
  | zero => simp [nb]
  | succ k ih =>
    have h2 : (b k + 1) * 256 ^ k ≤ 256 * 256 ^ k := Nat.mul_le_mul_right _ (hb k)
    have h3 : (b k + 1) * 256 ^ k = b k * 256 ^ k + 256 ^ k := by rw [Nat.add_mul, Nat.one_mul]
    rw [nb, Nat.pow_succ, Nat.mul_comm _ 256]
    omega

theorem rd_nb (b : Nat → Nat) : ∀ k, k ≤ 32 → num (rd b k 0) (rd b k 1) (rd b k 2) (rd b k 3) = nb b k := by
  intro k
  induction k with
  | zero => intro _; rfl
  | succ k ih =>
    intro h
    have ih := ih (by omega)
    rw [nb, ← ih]
    have hp : (256 : Nat) ^ k = 256 ^ (8 * (k / 8)) * 256 ^ (k % 8) := by rw [← Nat.pow_add, Nat.div_add_mod]
    have hm : b k * 256 ^ k = 256 ^ (8 * (k / 8)) * (b k * 256 ^ (k % 8)) := by rw [hp, Nat.mul_left_comm]
    rw [hm]
    have c : k / 8 = 0 ∨ k / 8 = 1 ∨ k / 8 = 2 ∨ k / 8 = 3 := by omega
    rcases c with c | c | c | c
    · have r0 : rd b (k + 1) 0 = rd b k 0 + b k * 256 ^ (k % 8) := by rw [rd, if_pos c]
      have r1 : rd b (k + 1) 1 = rd b k 1 := rd_ne (by omega)
      have r2 : rd b (k + 1) 2 = rd b k 2 := rd_ne (by omega)
      have r3 : rd b (k + 1) 3 = rd b k 3 := rd_ne (by omega)
      rw [r0, r1, r2, r3, c]
      generalize b k * 256 ^ (k % 8) = v
      simp only [Nat.reduceMul, Nat.reducePow]
      unfold num
      omega
    · have r0 : rd b (k + 1) 0 = rd b k 0 := rd_ne (by omega)
      have r1 : rd b (k + 1) 1 = rd b k 1 + b k * 256 ^ (k % 8) := by rw [rd, if_pos c]
      have r2 : rd b (k + 1) 2 = rd b k 2 := rd_ne (by omega)
      have r3 : rd b (k + 1) 3 = rd b k 3 := rd_ne (by omega)
      rw [r0, r1, r2, r3, c]
      generalize b k * 256 ^ (k % 8) = v
      simp only [Nat.reduceMul, Nat.reducePow]
      unfold num
      omega
    · have r0 : rd b (k + 1) 0 = rd b k 0 := rd_ne (by omega)
      have r1 : rd b (k + 1) 1 = rd b k 1 := rd_ne (by omega)
      have r2 : rd b (k + 1) 2 = rd b k 2 + b k * 256 ^ (k % 8) := by rw [rd, if_pos c]
      have r3 : rd b (k + 1) 3 = rd b k 3 := rd_ne (by omega)
      rw [r0, r1, r2, r3, c]
      generalize b k * 256 ^ (k % 8) = v
      simp only [Nat.reduceMul, Nat.reducePow]
      unfold num
      omega
    · have r0 : rd b (k + 1) 0 = rd b k 0 := rd_ne (by omega)
      have r1 : rd b (k + 1) 1 = rd b k 1 := rd_ne (by omega)
      have r2 : rd b (k + 1) 2 = rd b k 2 := rd_ne (by omega)
      have r3 : rd b (k + 1) 3 = rd b k 3 + b k * 256 ^ (k % 8) := by rw [rd, if_pos c]
      rw [r0, r1, r2, r3, c]
      generalize b k * 256 ^ (k % 8) = v
      simp only [Nat.reduceMul, Nat.reducePow]
      unfold num
      omega

set_option maxHeartbeats 1000000 in
theorem of_any (b : Nat → Nat) (hb : ∀ i, b i < 256) :
    ∃ x : Nat → Nat, Ok x ∧ Hid (nm x = nb b 32 % 57896044618658097711785492504343953926634992332820282019728792003956564819968 % pp) ∧
    ∀ w, Calls Try.prog 28 #[.agg (arr 32 fun i => .int .u8 (b i))] w fun e w' => e = .returned (el x) ∧ Below w.heap.size w w' := by
  have c0 := read_any b hb
  have hn := rd_nb b 32 (by omega)
  have b0 := rd_word hb 32 0; have b1 := rd_word hb 32 1; have b2 := rd_word hb 32 2; have b3 := rd_word hb 32 3
  generalize rd b 32 0 = r0 at *
  generalize rd b 32 1 = r1 at *
  generalize rd b 32 2 = r2 at *
  generalize rd b 32 3 = r3 at *
  have c1 := low_any r0 r1 r2 r3 b3
  obtain ⟨s, hs⟩ : ∃ s, Hid (s = r3 % 9223372036854775808) := ⟨_, hide1 rfl⟩
  rw [← hs.out] at c1
  obtain ⟨x, hx, e2, c2⟩ := settle_any r0 r1 r2 s 0 b0 b1 b2 (by have := hs.out; omega) (by omega)
  refine ⟨x, hx, hide1 ?_, fun w => ?_⟩
  · rw [e2.out, ← hn]
    have := hs.out
    congr 1
    unfold num
    omega
  clear e2 hs hx hn
  have c2' : ∀ w, Calls Try.prog 57 #[wv r0 r1 r2 s, .int .u64 0] w fun e w' => e = .returned (el x) ∧ Below w.heap.size w w' := c2
  clear c2
  have hA1 := @aft_cell; have hA2 := @aft_frozen; have hA3 := @aft_set
  go_enter Try.func28, Try.ntmps28
  go_wp2_with (refine wpList_load_row rfl 23 (.tmp 1) rfl w.heap.size _ _ rfl Try.underlying23 (by rw [arr_size]; kernel_rfl) (row2_0 _ _ _) ?_)
  refine (c0 _).mono ?_
  rintro e w1 ⟨rfl, hb1⟩
  go_wp2_with fail
  refine (c1 _).mono ?_
  rintro e w2 ⟨rfl, hb2⟩
  go_wp2_with fail
  refine (c2' _).mono ?_
  rintro e w3 ⟨rfl, hb3⟩
  obtain ⟨g, rfl⟩ := aft_of (bnext (bnext hb1 hb2) hb3)
  clear hb1 hb2 hb3 c0 c1 c2'
  go_wp2_with fail
  exact bodyPost_ret (v := el x) (by simp [results, Try.results28, go_sem, hA1]) rfl ⟨rfl, bnext (below2 _ _ _) (aft_below _ _)⟩

end Go.Proofs.Ytgiemldmphbolaa

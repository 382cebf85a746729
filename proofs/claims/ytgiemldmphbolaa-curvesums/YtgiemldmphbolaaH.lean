/- The contract of read: the four words of 32 bytes. -/
import Derived.Test.YtgiemldmphbolaaG
namespace Go.Proofs.Ytgiemldmphbolaa
open Go.RowKit

/-- Word number j of the first k bytes. -/
def rd (b : Nat → Nat) : Nat → Nat → Nat
  | 0, _ => 0
  | k + 1, j => if k / 8 = j then rd b k j + b k * 256 ^ (k % 8) else rd b k j

theorem rd_ne {b : Nat → Nat} {k j : Nat} (h : ¬ k / 8 = j) : rd b (k + 1) j = rd b k j := by rw [rd, if_neg h]

theorem rd_lt {b : Nat → Nat} (hb : ∀ i, b i < 256) : ∀ k j, rd b k j < 256 ^ (if k / 8 = j then k % 8 else if k / 8 < j then 0 else 8) := by
  intro k
  induction k with
  | zero => intro j; simp only [rd]; exact Nat.pow_pos (by omega)
  | succ k ih =>
    intro j
    have h := ih j
    by_cases e : k / 8 = j
    · rw [rd, if_pos e]
      rw [if_pos e] at h
      have h1 : (256 : Nat) ^ (k % 8 + 1) = 256 ^ (k % 8) * 256 := Nat.pow_succ 256 (k % 8)
      have h2 : (b k + 1) * 256 ^ (k % 8) ≤ 256 * 256 ^ (k % 8) := Nat.mul_le_mul_right _ (hb k)
      have h3 : (b k + 1) * 256 ^ (k % 8) = b k * 256 ^ (k % 8) + 256 ^ (k % 8) := by rw [Nat.add_mul, Nat.one_mul]
      have h4 : rd b k j + b k * 256 ^ (k % 8) < 256 ^ (k % 8 + 1) := by rw [h1, Nat.mul_comm _ 256]; omega
      by_cases e2 : (k + 1) / 8 = j
      · rw [if_pos e2, show (k + 1) % 8 = k % 8 + 1 by omega]; exact h4
      · rw [if_neg e2, if_neg (by omega)]
        have e7 : k % 8 = 7 := by omega
        rw [e7] at h4 ⊢
        exact h4
    · rw [rd_ne e]
      rw [if_neg e] at h
      by_cases e2 : (k + 1) / 8 = j
      · rw [if_pos e2, show (k + 1) % 8 = 0 by omega]
        rw [if_pos (by omega)] at h; exact h
      · rw [if_neg e2]
        by_cases e3 : k / 8 < j
        · rw [if_pos (by omega)]; rw [if_pos e3] at h; exact h
        · rw [if_neg (by omega)]; rw [if_neg e3] at h; exact h

theorem rd_word {b : Nat → Nat} (hb : ∀ i, b i < 256) (k j : Nat) : rd b k j < 18446744073709551616 := by
  have h := rd_lt hb k j
  have : (256 : Nat) ^ (if k / 8 = j then k % 8 else if k / 8 < j then 0 else 8) ≤ 256 ^ 8 := Nat.pow_le_pow_right (by omega) (by split <;> (try split) <;> omega)
  exact Nat.lt_of_lt_of_le h this

theorem rd_or {b : Nat → Nat} (hb : ∀ i, b i < 256) {k j m : Nat} (hj : k / 8 = j) (hm : m = k % 8) :
    bits .or .u64 ((rd b k j : Nat) : Int) (IntKind.u64.wrap (((b k : Nat) : Int) * 2 ^ (m * 8))) = ((rd b (k + 1) j : Nat) : Int) := by
  have h1 := rd_lt hb k j
  rw [if_pos hj, ← hm] at h1
  have hw := rd_word hb (k + 1) j
  have e : rd b (k + 1) j = rd b k j + b k * 256 ^ m := by rw [rd, if_pos hj, hm]
  have e2 : (256 : Nat) ^ m = 2 ^ (m * 8) := by rw [show (256 : Nat) = 2 ^ 8 from rfl, ← Nat.pow_mul, Nat.mul_comm]
  rw [e2] at h1 e
  have hv : b k * 2 ^ (m * 8) < 18446744073709551616 := by omega
  have e3 : IntKind.u64.wrap (((b k : Nat) : Int) * 2 ^ (m * 8)) = ((b k * 2 ^ (m * 8) : Nat) : Int) := by
    rw [show (((b k : Nat) : Int) * 2 ^ (m * 8)) = ((b k * 2 ^ (m * 8) : Nat) : Int) by simp]
    exact wrapN _ hv
  rw [e3, u64_or_nat _ _ (rd_word hb k j) hv, e]
  congr 1
  have := Nat.two_pow_add_eq_or_of_lt h1 (b k)
  rw [Nat.or_comm, Nat.mul_comm (b k), ← this, Nat.add_comm]

theorem index_key (f : Nat → Value) (k : Nat) (hk : k < 32) (w : World) : (Instr.index 23 (.agg (arr 32 f)) (.int .i64 k)).run Try.prog w = .ok (f k) w := by
  simp [Instr.index, go_sem, arr_get, hk]

set_option maxHeartbeats 1000000 in
theorem read_any (b : Nat → Nat) (hb : ∀ i, b i < 256) (w : World) :
    Calls Try.prog 58 #[.agg (arr 32 fun i => .int .u8 (b i))] w fun e w' => e = .returned (wv (rd b 32 0) (rd b 32 1) (rd b 32 2) (rd b 32 3)) ∧ Below w.heap.size w w' := by
  have hsd := @set_drewN
  obtain ⟨R, HR⟩ : ∃ R : Nat → Nat → Nat, Hid (R = rd b) := ⟨_, hide1 rfl⟩
  rw [← HR.out]
  have hR0 : ∀ j, R 0 j = 0 := fun j => by rw [HR.out]; rfl
  go_enter Try.func58, Try.ntmps58
  go_wp2_with (refine wpList_load_row rfl 23 (.tmp 1) rfl w.heap.size _ _ rfl Try.underlying23 (by rw [arr_size]; kernel_rfl) (row3_0 _ _ _ _) ?_)
  go_loopw [7] (fun i wr => ∃ k n : Nat, k ≤ 32 ∧ i = .int .i64 k ∧ wr = (((w.alloc (.cells (arr 32 fun i => .int .u8 (b i)) 23)).alloc (.cells #[.int .u64 0, .int .u64 0, .int .u64 0, .int .u64 0] 27)).alloc (.cells #[.int .u64 (R k 0), .int .u64 (R k 1), .int .u64 (R k 2), .int .u64 (R k 3)] 27)).drewN n) (fun i _ => 32 - (intOf i).toNat)
  case atStart => exact ⟨0, 0, by omega, rfl, by simp only [hR0]; rfl⟩
  case round =>
    obtain ⟨k, n, hk, rfl, rfl⟩ := hrel
    by_cases hlt : k < 32
    · have hk2 : (k : Int) < 32 := by omega
      have hin := index_key (fun i => .int .u8 (b i)) k hlt
      have hbk := hb k
      obtain ⟨m, hm⟩ : ∃ m, Hid (m = k % 8) := ⟨_, hide1 rfl⟩
      have q1 : (k : Int) % 8 = (m : Int) := by have := hm.out; omega
      have q2 : m < 8 := by have := hm.out; omega
      by_cases h0 : k < 8
      · have q0 : (k : Int) / 8 = 0 := by omega
        have q3 := rd_or hb (k := k) (j := 0) (by omega) hm.out
        have w0 := rd_word hb k 0
        rw [← HR.out] at q3 w0
        go_wp2
        go_region
        go_wp2
        go_roundw
        case rel => exact ⟨k + 1, n + 1, by omega, by go_num, by rw [show R (k + 1) 1 = R k 1 by rw [HR.out]; exact rd_ne (by omega), show R (k + 1) 2 = R k 2 by rw [HR.out]; exact rd_ne (by omega), show R (k + 1) 3 = R k 3 by rw [HR.out]; exact rd_ne (by omega)]⟩
        case measure => simp [intOf]; omega
      by_cases h1 : k < 16
      · have q0 : (k : Int) / 8 = 1 := by omega
        have q3 := rd_or hb (k := k) (j := 1) (by omega) hm.out
        have w0 := rd_word hb k 1
        rw [← HR.out] at q3 w0
        go_wp2
        go_region
        go_wp2
        go_roundw
        case rel => exact ⟨k + 1, n + 1, by omega, by go_num, by rw [show R (k + 1) 0 = R k 0 by rw [HR.out]; exact rd_ne (by omega), show R (k + 1) 2 = R k 2 by rw [HR.out]; exact rd_ne (by omega), show R (k + 1) 3 = R k 3 by rw [HR.out]; exact rd_ne (by omega)]⟩
        case measure => simp [intOf]; omega
      by_cases h2 : k < 24
      · have q0 : (k : Int) / 8 = 2 := by omega
        have q3 := rd_or hb (k := k) (j := 2) (by omega) hm.out
        have w0 := rd_word hb k 2
        rw [← HR.out] at q3 w0
        go_wp2
        go_region
        go_wp2
        go_roundw
        case rel => exact ⟨k + 1, n + 1, by omega, by go_num, by rw [show R (k + 1) 0 = R k 0 by rw [HR.out]; exact rd_ne (by omega), show R (k + 1) 1 = R k 1 by rw [HR.out]; exact rd_ne (by omega), show R (k + 1) 3 = R k 3 by rw [HR.out]; exact rd_ne (by omega)]⟩
        case measure => simp [intOf]; omega
      · have q0 : (k : Int) / 8 = 3 := by omega
        have q3 := rd_or hb (k := k) (j := 3) (by omega) hm.out
        have w0 := rd_word hb k 3
        rw [← HR.out] at q3 w0
        go_wp2
        go_region
        go_wp2
        go_roundw
        case rel => exact ⟨k + 1, n + 1, by omega, by go_num, by rw [show R (k + 1) 0 = R k 0 by rw [HR.out]; exact rd_ne (by omega), show R (k + 1) 1 = R k 1 by rw [HR.out]; exact rd_ne (by omega), show R (k + 1) 2 = R k 2 by rw [HR.out]; exact rd_ne (by omega)]⟩
        case measure => simp [intOf]; omega
    · obtain rfl : k = 32 := by omega
      go_wp2
      exact bodyPost_ret (v := wv (R 32 0) (R 32 1) (R 32 2) (R 32 3)) (by simp [results, Try.results58, go_sem]) rfl ⟨rfl, below_drewN (below3 _ _ _ _) n⟩
end Go.Proofs.Ytgiemldmphbolaa

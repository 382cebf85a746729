/- The contract of an element's text. -/
import Derived.Test.YtgiemldmphbolaaF
import Derived.Test.YtgiemldmphbolaaW5
namespace Go.Proofs.Ytgiemldmphbolaa
open Go.RowKit

/-- The byte number i of four words. -/
def byt (x : Nat → Nat) (i : Nat) : Nat := x (i / 8) / 256 ^ (i % 8) % 256
/-- Bytes, so many of them laid. -/
def kf (x : Nat → Nat) (k j : Nat) : Value := if j < k then .int .u8 (byt x j) else .int .u8 0

theorem byt_int {x : Nat → Nat} {k j m : Nat} (hj : k / 8 = j) (hm : m = k % 8) : ((x j : Nat) : Int) / 2 ^ (m * 8) % 256 = ((byt x k : Nat) : Int) := by
  unfold byt
  rw [hj, ← hm, show (256 : Nat) = 2 ^ 8 from rfl, ← Nat.pow_mul, Nat.mul_comm 8 m]
  simp

theorem kf_next (x : Nat → Nat) (k : Nat) : arr 32 (upd (kf x k) k (.int .u8 (byt x k))) = arr 32 (kf x (k + 1)) := by
  refine arr_congr fun i _ => ?_
  unfold upd kf
  by_cases h : i = k
  · subst h; simp
  · have : (i < k + 1) = (i < k) := by simp; omega
    simp [h, this]

set_option maxHeartbeats 1000000 in
theorem key_any (x : Nat → Nat) (hx : Ok x) (w : World) :
    Calls Try.prog 29 #[el x] w fun e w' => e = .returned (.agg (arr 32 fun i => .int .u8 (byt x i))) ∧ Below w.heap.size w w' := by
  have x0 := hx.1 0; have x1 := hx.1 1; have x2 := hx.1 2; have x3 := hx.1 3
  have hA1 := @arr_get; have hA2 := @arr_set
  go_enter Try.func29, Try.ntmps29
  go_wp2
  go_loopw [5] (fun i wr => ∃ k : Nat, k ≤ 32 ∧ i = .int .i64 k ∧ ∃ z, z = arr 32 (fun _ => .int .u8 0) ∧ wr = ((w.alloc (.cells #[.int .u64 (x 0), .int .u64 (x 1), .int .u64 (x 2), .int .u64 (x 3)] 29)).alloc (.cells z 23)).alloc (.cells (arr 32 (kf x k)) 23)) (fun i _ => 32 - (intOf i).toNat)
  case atStart =>
    refine ⟨0, by omega, rfl, _, rfl, ?_⟩
    rw [arr_rep (f := kf x 0) (v := .int .u8 0) (fun i _ => by simp [kf]), arr_rep (v := .int .u8 0) (fun i _ => rfl)]; rfl
  case round =>
    obtain ⟨k, hk, rfl, z, rfl, rfl⟩ := hrel
    by_cases hlt : k < 32
    · have hk2 : (k : Int) < 32 := by omega
      obtain ⟨m, hm⟩ : ∃ m, Hid (m = k % 8) := ⟨_, hide1 rfl⟩
      by_cases h0 : k < 8
      · have q0 : (k : Int) / 8 = 0 := by omega
        have q1 : (k : Int) % 8 = (m : Int) := by have := hm.out; omega
        have q2 : m < 8 := by have := hm.out; omega
        have q3 : (x 0 : Int) / 2 ^ (m * 8) % 256 = ((byt x k : Nat) : Int) := byt_int (by omega) hm.out
        go_wp2
        go_roundw
        case rel => exact ⟨k + 1, by omega, by go_num, _, rfl, by rw [kf_next]⟩
        case measure => simp [intOf]; omega
      by_cases h1 : k < 16
      · have q0 : (k : Int) / 8 = 1 := by omega
        have q1 : (k : Int) % 8 = (m : Int) := by have := hm.out; omega
        have q2 : m < 8 := by have := hm.out; omega
        have q3 : (x 1 : Int) / 2 ^ (m * 8) % 256 = ((byt x k : Nat) : Int) := byt_int (by omega) hm.out
        go_wp2
        go_roundw
        case rel => exact ⟨k + 1, by omega, by go_num, _, rfl, by rw [kf_next]⟩
        case measure => simp [intOf]; omega
      by_cases h2 : k < 24
      · have q0 : (k : Int) / 8 = 2 := by omega
        have q1 : (k : Int) % 8 = (m : Int) := by have := hm.out; omega
        have q2 : m < 8 := by have := hm.out; omega
        have q3 : (x 2 : Int) / 2 ^ (m * 8) % 256 = ((byt x k : Nat) : Int) := byt_int (by omega) hm.out
        go_wp2
        go_roundw
        case rel => exact ⟨k + 1, by omega, by go_num, _, rfl, by rw [kf_next]⟩
        case measure => simp [intOf]; omega
      · have q0 : (k : Int) / 8 = 3 := by omega
        have q1 : (k : Int) % 8 = (m : Int) := by have := hm.out; omega
        have q2 : m < 8 := by have := hm.out; omega
        have q3 : (x 3 : Int) / 2 ^ (m * 8) % 256 = ((byt x k : Nat) : Int) := byt_int (by omega) hm.out
        go_wp2
        go_roundw
        case rel => exact ⟨k + 1, by omega, by go_num, _, rfl, by rw [kf_next]⟩
        case measure => simp [intOf]; omega
    · obtain rfl : k = 32 := by omega
      rw [arr_congr (n := 32) (f := kf x 32) (g := fun i => .int .u8 (byt x i)) (fun i hi => by simp [kf, hi])]
      go_wp2_with (first
        | (refine wpList_load_row rfl 23 (.tmp 3) rfl (w.heap.size + 1 + 1) _ _ rfl Try.underlying23 (by rw [arr_size]; kernel_rfl) (row3_2 _ _ _ _) ?_)
        | (refine wpList_store_row rfl 23 (.tmp 2) (.tmp 21) rfl (w.heap.size + 1) _ _ _ rfl rfl (by rw [arr_size]; kernel_rfl) (row3_1 _ _ _ _) (by simp [arr_size]) arr_one rfl ?_))
      exact bodyPost_ret (v := .agg (arr 32 fun i => .int .u8 (byt x i))) (results_row rfl _ rfl Try.underlying23 (by rw [arr_size]; kernel_rfl) (setRow_heap _ _ _ _ _ _ (row3_1 _ _ _ _))) rfl ⟨rfl, below_setRow (below3 _ _ _ _) (by omega) _⟩
end Go.Proofs.Ytgiemldmphbolaa

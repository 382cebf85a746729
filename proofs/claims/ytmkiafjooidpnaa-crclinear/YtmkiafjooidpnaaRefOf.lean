/- The document's answer, bit by bit, is the register that goes on byte by byte. -/
import Derived.Test.YtmkiafjooidpnaaTake
namespace Go.Proofs.Ytmkiafjooidpnaa
open Go.RowKit

/-- Bit number i of a text. -/
def bitAt (zs : List Int) (i : Nat) : Nat := (zs.getD (i / 8) 0).toNat / 2 ^ (i % 8) % 2

/-- The register behind the first so many bits. -/
def bitRun (zs : List Int) : Nat → Nat
  | 0 => 4294967295
  | i + 1 => stp (bitRun zs i ^^^ bitAt zs i)

theorem bitAt_lt (zs : List Int) (i : Nat) : bitAt zs i < 2 := by unfold bitAt; omega

theorem bitRun_lt (zs : List Int) (i : Nat) : bitRun zs i < 4294967296 := by
  induction i with
  | zero => show 4294967295 < 4294967296; omega
  | succ i ih => exact stp_lt _ (Nat.xor_lt_two_pow (n := 32) ih (by have := bitAt_lt zs i; omega))

theorem stp_bit (x b : Nat) (hb : b < 2) : stp (x ^^^ b) = if x % 2 = b then x / 2 else x / 2 ^^^ 3988292384 := by
  unfold stp
  rw [xor_half, xor_par]
  rcases (show b = 0 ∨ b = 1 by omega) with rfl | rfl <;> rcases Nat.mod_two_eq_zero_or_one x with h | h <;> simp [h]

theorem and_one (x : Nat) (h : x < 4294967296) : bits BinOp.and IntKind.u32 (x : Int) 1 = ((x % 2 : Nat) : Int) := by
  have e := u32_and_nat x 1 h (by omega)
  simp only [Int.cast_ofNat_Int, nat_mask1] at e
  exact e

theorem and_bit (c n : Nat) (h : c < 256) : bits BinOp.and IntKind.u32 ((c : Int) / 2 ^ n % 4294967296) 1 = ((c / 2 ^ n % 2 : Nat) : Int) := by
  have hl : c / 2 ^ n < 4294967296 := Nat.lt_of_le_of_lt (Nat.div_le_self _ _) (by omega)
  have e : (c : Int) / 2 ^ n % 4294967296 = ((c / 2 ^ n : Nat) : Int) := by
    have : ((c / 2 ^ n : Nat) : Int) = (c : Int) / 2 ^ n := by simp
    rw [← this]; generalize c / 2 ^ n = q at hl ⊢; omega
  rw [e]; exact and_one _ hl

theorem ref_odd (x c n : Nat) (hx : x < 4294967296) (hc : c < 256) (h : (bits BinOp.and IntKind.u32 (x : Int) 1 != bits BinOp.and IntKind.u32 ((c : Int) / 2 ^ n % 4294967296) 1) = true) :
    bits BinOp.xor IntKind.u32 ((x : Int) / 2) 3988292384 = ((stp (x ^^^ (c / 2 ^ n % 2)) : Nat) : Int) := by
  rw [and_one x hx, and_bit c n hc] at h
  have h1 : ¬ x % 2 = c / 2 ^ n % 2 := by intro e; rw [e] at h; simp at h
  have x1 := u32_xor_nat (x / 2) 3988292384 (by omega) (by omega)
  simp only [Int.natCast_ediv, Int.cast_ofNat_Int] at x1
  rw [x1, stp_bit _ _ (by omega), if_neg h1]

theorem ref_even (x c n : Nat) (hx : x < 4294967296) (hc : c < 256) (h : (bits BinOp.and IntKind.u32 (x : Int) 1 != bits BinOp.and IntKind.u32 ((c : Int) / 2 ^ n % 4294967296) 1) = false) :
    ((x : Int) / 2) = ((stp (x ^^^ (c / 2 ^ n % 2)) : Nat) : Int) := by
  rw [and_one x hx, and_bit c n hc] at h
  have h1 : x % 2 = c / 2 ^ n % 2 := by
    have := bne_eq_false_iff_eq.1 h
    omega
  rw [stp_bit _ _ (by omega), if_pos h1]; omega

theorem stp_down (x c : Nat) : stp (x ^^^ c) = stp (x ^^^ (c % 2)) ^^^ (c / 2) := by
  have e := split_low c 1
  simp only [Nat.pow_one] at e
  have h2 : stp (c / 2 * 2) = c / 2 := by rw [stp_even _ (by omega)]; omega
  have h3 : stp c = c / 2 ^^^ stp (c % 2) := by
    conv => lhs; rw [e]
    rw [stp_xor, h2]
  rw [stp_xor, stp_xor, h3, Nat.xor_assoc, Nat.xor_comm (stp (c % 2))]

theorem bitRun_byte (zs : List Int) (k j : Nat) (hj : j ≤ 8) : bitRun zs (8 * k + j) ^^^ ((zs.getD k 0).toNat / 2 ^ j) = stps j (bitRun zs (8 * k) ^^^ (zs.getD k 0).toNat) := by
  induction j with
  | zero => simp [stps]
  | succ j ih =>
    have e1 : bitAt zs (8 * k + j) = (zs.getD k 0).toNat / 2 ^ j % 2 := by
      unfold bitAt
      rw [show (8 * k + j) / 8 = k from by omega, show (8 * k + j) % 8 = j from by omega]
    rw [stps_succ, ← ih (by omega)]
    show stp (bitRun zs (8 * k + j) ^^^ bitAt zs (8 * k + j)) ^^^ _ = _
    rw [e1, stp_down (bitRun zs (8 * k + j)) ((zs.getD k 0).toNat / 2 ^ j), Nat.pow_succ, Nat.div_div_eq_div_mul]

theorem bitRun_crc (zs : List Int) (hz : ∀ z ∈ zs, 0 ≤ z ∧ z < 256) (k : Nat) (hk : k ≤ zs.length) : bitRun zs (8 * k) = crcRun 4294967295 (zs.take k) := by
  induction k with
  | zero => rfl
  | succ k ih =>
    have h := bitRun_byte zs k 8 (by omega)
    have hc := hz _ (getD_mem (l := zs) (k := k) (by omega))
    rw [show (zs.getD k 0).toNat / 2 ^ 8 = 0 from by omega, Nat.xor_zero] at h
    rw [show 8 * (k + 1) = 8 * k + 8 from by omega, h, take_snoc zs k (by omega), crcRun_snoc, ih (by omega)]

set_option maxHeartbeats 400000 in
theorem refOf_any (a : Option Addr) (len cap : Nat) (zs : List Int) (w : World) (hb : Bs w a len zs) (hm : len ≤ 1000000) :
    Calls Try.prog 10 #[.slice a len cap] w fun e w' => e = .returned (.int .u32 ((crcSum zs : Nat) : Int)) ∧ w' = w := by
  obtain ⟨hz, hby, hc⟩ := hb
  go_enter Try.func10, Try.ntmps10
  go_wp2
  go_loop [3, 4] (fun x i => ∃ k : Nat, k ≤ 8 * len ∧ i = .int .i64 k ∧ x = .int .u32 ((bitRun zs k : Nat) : Int)) (fun _ i => 8 * len - (intOf i).toNat)
  case atStart => exact ⟨0, by omega, rfl, rfl⟩
  case round =>
    obtain ⟨k, hk, rfl, rfl⟩ := hrel
    have hs := bitRun_lt zs k
    by_cases hlt : k < 8 * len
    · obtain ⟨b', off, rfl, hcell⟩ := hc (by omega)
      have hck := hcell (k / 8) (by omega)
      have hbk := hby _ (getD_mem (l := zs) (k := k / 8) (by omega))
      have hba : bitAt zs k = (zs.getD (k / 8) 0).toNat / 2 ^ (k % 8) % 2 := rfl
      generalize hcc : zs.getD (k / 8) 0 = c at *
      obtain ⟨c, rfl⟩ := Int.eq_ofNat_of_zero_le hbk.1
      have hc256 : c < 256 := by omega
      have HB := hide1 hba
      clear hcc hc hcell hbk hba
      go_wp2
      all_goals refine ⟨⟨k + 1, by omega, by go_num, val_int ?_⟩, by simp [intOf]; omega⟩
      · show _ = ((stp (bitRun zs k ^^^ bitAt zs k) : Nat) : Int)
        rw [HB.out]; exact ref_odd _ _ _ hs hc256 ‹_›
      · show _ = ((stp (bitRun zs k ^^^ bitAt zs k) : Nat) : Int)
        rw [HB.out]; exact ref_even _ _ _ hs hc256 ‹_›
    · go_wp2
      go_ret
      have e : k = 8 * len := by omega
      refine ⟨ret_int ?_, rfl⟩
      unfold crcSum
      have h1 := bitRun_crc zs hby len (by omega)
      rw [List.take_of_length_le (by omega)] at h1
      rw [← h1, ← e]
      omega
end Go.Proofs.Ytmkiafjooidpnaa

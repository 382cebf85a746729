/- The contracts of the program's own functions of package crc: the register goes on by four bits at once. -/
import Derived.Test.YtmkiafjooidpnaaRows
import Derived.Test.YtmkiafjooidpnaaMath
import Derived.WalkKit
import Derived.WalkSpells
import Derived.WalkLawsBesides
import Derived.Below
import Derived.Handy
namespace Go.Proofs.Ytmkiafjooidpnaa
open Go.RowKit

theorem val_int {k : IntKind} {a b : Int} (h : a = b) : Value.int k a = Value.int k b := by rw [h]
theorem ret_int {k : IntKind} {a b : Int} (h : a = b) : Ending.returned (.int k a) = .returned (.int k b) := by rw [h]

theorem stp_odd_int (r : Nat) (hr : r < 4294967296) (h : (bits BinOp.and IntKind.u32 (r : Int) 1 == 1) = true) :
    bits BinOp.xor IntKind.u32 ((r : Int) / 2) 3988292384 = ((stp r : Nat) : Int) := by
  have e := u32_and_nat r 1 hr (by omega)
  simp only [Int.cast_ofNat_Int, nat_mask1] at e
  rw [e] at h
  have h1 : r % 2 = 1 := by simp at h; omega
  have x := u32_xor_nat (r / 2) 3988292384 (by omega) (by omega)
  simp only [Int.natCast_ediv, Int.cast_ofNat_Int] at x
  rw [x]; unfold stp; rw [if_pos h1]

theorem stp_even_int (r : Nat) (hr : r < 4294967296) (h : (bits BinOp.and IntKind.u32 (r : Int) 1 == 1) = false) :
    ((r : Int) / 2) = ((stp r : Nat) : Int) := by
  have e := u32_and_nat r 1 hr (by omega)
  simp only [Int.cast_ofNat_Int, nat_mask1] at e
  rw [e] at h
  have h1 : ¬ r % 2 = 1 := by simp at h; omega
  unfold stp; rw [if_neg h1]; omega

set_option maxHeartbeats 400000 in
theorem shift_any (r : Nat) (hr : r < 4294967296) (w : World) :
    Calls Try.prog 20 #[.int .u32 (r : Int), .int .i64 4] w fun e w' => e = .returned (.int .u32 ((stps 4 r : Nat) : Int)) ∧ w' = w := by
  go_enter Try.func20, Try.ntmps20
  go_wp2
  go_loop [0, 7] (fun x i => ∃ k : Nat, k ≤ 4 ∧ i = .int .i64 k ∧ x = .int .u32 ((stps k r : Nat) : Int)) (fun _ i => 4 - (intOf i).toNat)
  case atStart => exact ⟨0, by omega, rfl, rfl⟩
  case round =>
    obtain ⟨k, hk, rfl, rfl⟩ := hrel
    have hs := stps_lt k r hr
    by_cases hlt : k < 4
    · go_wp2
      all_goals refine ⟨⟨k + 1, by omega, by go_num, val_int ?_⟩, by simp [intOf]; omega⟩
      · rw [stps_succ]; exact stp_odd_int _ hs ‹_›
      · rw [stps_succ]; exact stp_even_int _ hs ‹_›
    · go_wp2
      obtain rfl : k = 4 := by omega
      go_ret
      exact ⟨rfl, rfl⟩

/-- The table of sixteen words lies at a block. -/
def IsTable (w : World) (b : Nat) : Prop := ∀ i : Nat, i < 16 → w.cell? ⟨b, i, none⟩ = some (.int .u32 ((stps 4 i : Nat) : Int))

set_option maxHeartbeats 400000 in
theorem move_any (b r : Nat) (hr : r < 4294967296) (w : World) (ht : IsTable w b) :
    Calls Try.prog 21 #[.pointer (some ⟨b, 0, none⟩), .int .u32 (r : Int)] w fun e w' => e = .returned (.int .u32 ((stps 4 r : Nat) : Int)) ∧ w' = w := by
  have hc := ht (r % 16) (by omega)
  go_enter Try.func21, Try.ntmps21
  go_wp2
  go_ret
  refine ⟨ret_int ?_, rfl⟩
  have x := u32_xor_nat (r / 16) (stps 4 (r % 16)) (by omega) (stps_lt 4 _ (by omega))
  simp only [Int.natCast_ediv, Int.cast_ofNat_Int] at x
  rw [x, stps_four r]

/-- A slice of bytes that reads so: its elements alone; of its spare room nothing is said. -/
def Bs (w : World) (a : Option Addr) (len : Nat) (zs : List Int) : Prop :=
  zs.length = len ∧ (∀ z ∈ zs, 0 ≤ z ∧ z < 256) ∧ (0 < len → ∃ b off, a = some ⟨b, off, none⟩ ∧ ∀ i, i < len → w.cell? ⟨b, off + i, none⟩ = some (.int .u8 (zs.getD i 0)))

theorem take_snoc (l : List Int) (k : Nat) (h : k < l.length) : l.take (k + 1) = l.take k ++ [l.getD k 0] := by
  rw [List.take_succ_eq_append_getElem h]; simp [h]

theorem getD_mem {l : List Int} {k : Nat} (h : k < l.length) : l.getD k 0 ∈ l := by
  simp [List.getD_eq_getElem?_getD, h]

set_option maxHeartbeats 400000 in
theorem take_any (b r : Nat) (hr : r < 4294967296) (a : Option Addr) (len cap : Nat) (zs : List Int) (w : World) (ht : IsTable w b) (hb : Bs w a len zs) (hm : len ≤ maxLen) :
    Calls Try.prog 19 #[.pointer (some ⟨b, 0, none⟩), .int .u32 (r : Int), .slice a len cap] w fun e w' => e = .returned (.int .u32 ((crcRun r zs : Nat) : Int)) ∧ w' = w := by
  unfold maxLen at hm
  obtain ⟨hz, hby, hc⟩ := hb
  go_enter Try.func19, Try.ntmps19
  go_wp2
  go_loop [1, 11] (fun x i => ∃ k : Nat, k ≤ len ∧ i = .int .i64 k ∧ x = .int .u32 ((crcRun r (zs.take k) : Nat) : Int)) (fun _ i => len - (intOf i).toNat)
  case atStart => exact ⟨0, by omega, rfl, rfl⟩
  case round =>
    obtain ⟨k, hk, rfl, rfl⟩ := hrel
    have hs := crcRun_lt r (zs.take k) hr (fun c h => hby c (List.mem_of_mem_take h))
    by_cases hlt : k < len
    · obtain ⟨b', off, rfl, hcell⟩ := hc (by omega)
      have hck := hcell k hlt
      have hbk := hby _ (getD_mem (l := zs) (k := k) (by omega))
      have hts := take_snoc zs k (by omega)
      generalize hcc : zs.getD k 0 = c at *
      obtain ⟨c, rfl⟩ := Int.eq_ofNat_of_zero_le hbk.1
      have hc256 : c < 256 := by omega
      have HS : Hid (crcRun r (zs.take (k + 1)) = stps 8 (crcRun r (zs.take k) ^^^ c)) := by rw [hts, crcRun_snoc]; rfl
      clear hts hcc hc hcell hbk
      have hx := Nat.xor_lt_two_pow (n := 32) hs (show c < 2 ^ 32 by omega)
      have Hxi : Hid (bits .xor .u32 ((crcRun r (zs.take k) : Nat) : Int) (c : Int) = ((crcRun r (zs.take k) ^^^ c : Nat) : Int)) := u32_xor_nat _ _ hs (by omega)
      go_wp2_with fail
      rw [Hxi.out]
      refine (move_any b _ hx w ht).mono ?_
      rintro e w' ⟨rfl, rfl⟩
      go_wp2_with fail
      refine (move_any b _ (stps_lt 4 _ hx) _ ht).mono ?_
      rintro e w' ⟨rfl, rfl⟩
      go_wp2_with fail
      refine ⟨⟨k + 1, by omega, by go_num, val_int ?_⟩, by simp [intOf]; omega⟩
      rw [HS.out, ← stps_add]
    · go_wp2
      go_ret
      exact ⟨ret_int (by rw [List.take_of_length_le (by omega)]), rfl⟩

end Go.Proofs.Ytmkiafjooidpnaa

/- KR3, KR4, KR5, KR6, KR7, KE7, KT: laid together. -/
import Derived.Lib.ValidLaws
import Derived.Lib.ConvBytes
import Derived.BigQuiet
import Derived.Lib.LaidU8
import Derived.Lib.LaidTab
import Derived.LaidLaws
import Derived.PinnedBridge
import Derived.Lay
import Derived.LaidMore
import Derived.WalkKit
import Derived.ProofKit
import Derived.OpenShut
import Derived.ChangeOld
import Derived.Test.YtkkgcbaofdejjaaGreatDoorG7
import Derived.Test.YtkkgcbaofdejjaaGreatDoorG3
import Derived.Test.YtkkgcbaofdejjaaGreatDoorG5
import Derived.Test.YtkkgcbaofdejjaaGreatDoorG2
import Derived.Test.YtkkgcbaofdejjaaGreatDoorG4
import Derived.Test.YtkkgcbaofdejjaaGreatDoorRows
namespace Go.Proofs.YtkkgcbaofdejjaaGreatDoor
open Go.RowKit

theorem fst_c (x : UInt8) (m : List UInt8) : fstR (x :: m) = if x.toNat < 128 then fgo 1 x.toNat (x :: m) else if x.toNat < 192 then (0, 0) else if x.toNat < 224 then fgo 2 (x.toNat - 192) (x :: m) else if x.toNat < 240 then fgo 3 (x.toNat - 224) (x :: m) else fgo 4 (x.toNat - 240) (x :: m) := rfl
theorem first_d {w : World} {a : Option Addr} {cap : Nat} {l : List UInt8} (h : BsA w (.slice a l.length cap) l) (hcap : l.length ≤ cap) : Calls Tryz.prog 43 #[.slice a l.length cap] w (AnF w (fstR l)) := by
  cases l with
  | nil => exact first_0 h
  | cons x m =>
    simp only [List.length_cons] at h hcap ⊢
    rw [fst_c]
    by_cases h1 : x.toNat < 128
    · rw [if_pos h1]
      by_cases h2 : x.toNat < 16
      · exact first_1a h hcap h2 (by omega)
      · by_cases h3 : x.toNat < 32
        · exact first_1b h hcap (by omega) h3 (by omega)
        · exact first_1c h hcap (by omega) h1 (by omega)
    rw [if_neg h1]
    by_cases h2 : x.toNat < 192
    · rw [if_pos h2]
      exact first_x h h1 h2
    rw [if_neg h2]
    by_cases h3 : x.toNat < 224
    · rw [if_pos h3]
      by_cases hs : m.length + 1 < 2
      · have : fgo 2 (x.toNat - 192) (x :: m) = (0, 0) := by unfold fgo; rw [if_pos (by simp only [List.length_cons]; omega)]
        rw [this]
        exact first_s2 h (by omega) h3 hs
      · by_cases h4 : x.toNat < 208
        · exact first_2a h hcap (by omega) h4 (by omega)
        · exact first_2b h hcap (by omega) h3 (by omega)
    rw [if_neg h3]
    by_cases h4 : x.toNat < 240
    · rw [if_pos h4]
      by_cases hs : m.length + 1 < 3
      · have : fgo 3 (x.toNat - 224) (x :: m) = (0, 0) := by unfold fgo; rw [if_pos (by simp only [List.length_cons]; omega)]
        rw [this]
        exact first_s3 h (by omega) h4 hs
      · exact first_3 h hcap (by omega) h4 (by omega)
    rw [if_neg h4]
    by_cases hs : m.length + 1 < 4
    · have : fgo 4 (x.toNat - 240) (x :: m) = (0, 0) := by unfold fgo; rw [if_pos (by simp only [List.length_cons]; omega)]
      rw [this]
      exact first_s4 h (by omega) hs
    · exact first_4 h hcap (by omega) (by omega)
/-- The sign that bytes begin with; none: nought bytes. -/
def frs (l : List UInt8) : Nat × Nat := if l = [] ∨ ((Lib.decodeL l).1 = 65533 ∧ (Lib.decodeL l).2 = 1) then (0, 0) else Lib.decodeL l
theorem frs_bad {l : List UInt8} (h : Lib.decodeL l = (65533, 1)) : frs l = (0, 0) := by unfold frs; rw [if_pos (.inr (by rw [h]; exact ⟨rfl, rfl⟩))]
theorem frs_good {l : List UInt8} {c n : Nat} (hl : l ≠ []) (h : Lib.decodeL l = (c, n)) (hc : ¬ (c = 65533 ∧ n = 1)) : frs l = (c, n) := by unfold frs; rw [if_neg (fun e => e.elim hl (by rw [h]; exact hc)), h]
theorem u8_of {x : UInt8} {n : Nat} (h : n = x.toNat) : UInt8.ofNat n = x := by subst h; simp
theorem fend_bad {n c : Nat} {l : List UInt8} (h : bdc c ∨ sgn c ≠ l.take n) : fend n c l = (0, 0) := by unfold fend; rw [if_pos h]
theorem fend_good {n c : Nat} {l : List UInt8} (h : ¬ bdc c) (h2 : sgn c = l.take n) : fend n c l = (c, n) := by unfold fend; rw [if_neg (fun e => e.elim h (fun e => e h2))]
theorem sgn_len (c : Nat) : (sgn c).length = if c < 128 then 1 else if c < 2048 then 2 else if c < 65536 then 3 else 4 := by
  unfold sgn
  split
  · rfl
  · split
    · rfl
    · split <;> rfl
theorem fst_2 {x : UInt8} {m : List UInt8} (h1 : 192 ≤ x.toNat) (h2 : x.toNat < 224) : fgo 2 (x.toNat - 192) (x :: m) = frs (x :: m) := by
  cases m with
  | nil =>
    rw [frs_bad]
    · unfold fgo; rw [if_pos (by simp)]
    · rw [Lib.decodeL_N]; unfold Lib.decodeN
      simp only [List.length_cons, List.length_nil, List.getD_cons_zero]
      rw [if_neg (by omega), if_neg (by omega), if_neg (by omega), if_neg (by omega)]
  | cons y m =>
    have hy := y.toNat_lt
    unfold fgo
    rw [if_neg (by simp)]
    simp only [List.tail_cons, Nat.add_one_sub_one, fcl]
    have hd : Lib.decodeL (x :: y :: m) = if y.toNat / 64 = 2 then (if 128 ≤ x.toNat % 32 * 64 + y.toNat % 64 then (x.toNat % 32 * 64 + y.toNat % 64, 2) else (65533, 1)) else (65533, 1) := by
      rw [Lib.decodeL_N]; unfold Lib.decodeN
      simp only [List.length_cons, List.getD_cons_zero, List.getD_cons_succ]
      rw [if_neg (by omega)]
      by_cases hq : y.toNat / 64 = 2
      · rw [if_pos ⟨by omega, by omega, hq⟩, if_pos hq]
      · rw [if_neg (fun e => hq e.2.2), if_neg hq, if_neg (by omega), if_neg (by omega)]
    by_cases hb : y.toNat < 128 ∨ 191 < y.toNat
    · rw [if_pos hb]
      rw [if_neg (by omega)] at hd
      rw [frs_bad hd]
    · rw [if_neg hb]
      rw [if_pos (by omega)] at hd
      simp only
      have hc : 64 * (x.toNat - 192) + y.toNat - 128 = x.toNat % 32 * 64 + y.toNat % 64 := by omega
      rw [hc]
      by_cases hq : 128 ≤ x.toNat % 32 * 64 + y.toNat % 64
      · rw [if_pos hq] at hd
        rw [frs_good (by simp) hd (by omega), fend_good (by unfold bdc; omega)]
        unfold sgn
        rw [if_neg (by omega), if_pos (by omega)]
        simp only [List.take_succ_cons, List.take_zero]
        rw [u8_of (x := x) (by omega), u8_of (x := y) (by omega)]
      · rw [if_neg hq] at hd
        rw [frs_bad hd, fend_bad (.inr fun e => ?_)]
        have := congrArg List.length e
        rw [sgn_len, if_pos (by omega)] at this
        simp at this
theorem fst_3 {x : UInt8} {m : List UInt8} (h1 : 224 ≤ x.toNat) (h2 : x.toNat < 240) : fgo 3 (x.toNat - 224) (x :: m) = frs (x :: m) := by
  match m with
  | [] =>
    rw [frs_bad]
    · unfold fgo; rw [if_pos (by simp)]
    · rw [Lib.decodeL_N]; unfold Lib.decodeN
      simp only [List.length_cons, List.length_nil, List.getD_cons_zero]
      rw [if_neg (by omega), if_neg (by omega), if_neg (by omega), if_neg (by omega)]
  | [y] =>
    rw [frs_bad]
    · unfold fgo; rw [if_pos (by simp)]
    · rw [Lib.decodeL_N]; unfold Lib.decodeN
      simp only [List.length_cons, List.length_nil, List.getD_cons_zero]
      rw [if_neg (by omega), if_neg (by omega), if_neg (by omega), if_neg (by omega)]
  | y :: z :: m =>
    have hy := y.toNat_lt
    have hz := z.toNat_lt
    unfold fgo
    rw [if_neg (by simp)]
    simp only [List.tail_cons, Nat.reduceSub, fcl]
    have hd : Lib.decodeL (x :: y :: z :: m) = if y.toNat / 64 = 2 ∧ z.toNat / 64 = 2 then (if 2048 ≤ x.toNat % 16 * 4096 + y.toNat % 64 * 64 + z.toNat % 64 ∧ (x.toNat % 16 * 4096 + y.toNat % 64 * 64 + z.toNat % 64 < 55296 ∨ 57344 ≤ x.toNat % 16 * 4096 + y.toNat % 64 * 64 + z.toNat % 64) then (x.toNat % 16 * 4096 + y.toNat % 64 * 64 + z.toNat % 64, 3) else (65533, 1)) else (65533, 1) := by
      rw [Lib.decodeL_N]; unfold Lib.decodeN
      simp only [List.length_cons, List.getD_cons_zero, List.getD_cons_succ]
      rw [if_neg (by omega), if_neg (by omega)]
      by_cases hq : y.toNat / 64 = 2 ∧ z.toNat / 64 = 2
      · rw [if_pos ⟨by omega, ⟨by omega, hq.1⟩, by omega, hq.2⟩, if_pos hq]
        by_cases hv : 2048 ≤ x.toNat % 16 * 4096 + y.toNat % 64 * 64 + z.toNat % 64 ∧ (x.toNat % 16 * 4096 + y.toNat % 64 * 64 + z.toNat % 64 < 55296 ∨ 57344 ≤ x.toNat % 16 * 4096 + y.toNat % 64 * 64 + z.toNat % 64)
        · rw [if_pos ⟨hv.1, by omega⟩, if_pos hv]
        · rw [if_neg (by omega), if_neg hv]
      · rw [if_neg (fun e => hq ⟨e.2.1.2, e.2.2.2⟩), if_neg hq, if_neg (by omega)]
    by_cases hb : y.toNat < 128 ∨ 191 < y.toNat
    · rw [if_pos hb]
      rw [if_neg (by omega)] at hd
      rw [frs_bad hd]
    · rw [if_neg hb]
      by_cases hb2 : z.toNat < 128 ∨ 191 < z.toNat
      · rw [if_pos hb2]
        rw [if_neg (by omega)] at hd
        rw [frs_bad hd]
      · rw [if_neg hb2]
        rw [if_pos (by omega)] at hd
        simp only
        have hc : 64 * (64 * (x.toNat - 224) + y.toNat - 128) + z.toNat - 128 = x.toNat % 16 * 4096 + y.toNat % 64 * 64 + z.toNat % 64 := by omega
        rw [hc]
        generalize hC : x.toNat % 16 * 4096 + y.toNat % 64 * 64 + z.toNat % 64 = C at *
        by_cases hq : 2048 ≤ C ∧ (C < 55296 ∨ 57344 ≤ C)
        · rw [if_pos hq] at hd
          rw [frs_good (by simp) hd (by omega), fend_good (by unfold bdc; omega)]
          unfold sgn
          rw [if_neg (by omega), if_neg (by omega), if_pos (by omega)]
          simp only [List.take_succ_cons, List.take_zero]
          rw [u8_of (x := x) (by omega), u8_of (x := y) (by omega), u8_of (x := z) (by omega)]
        · rw [if_neg hq] at hd
          rw [frs_bad hd]
          by_cases hs : 2048 ≤ C
          · exact fend_bad (.inl (by unfold bdc; omega))
          · refine fend_bad (.inr fun e => ?_)
            have := congrArg List.length e
            rw [sgn_len] at this
            simp only [List.take_succ_cons, List.take_zero, List.length_cons, List.length_nil] at this
            split at this
            · omega
            · rw [if_pos (by omega)] at this; omega
theorem fst_4 {x : UInt8} {m : List UInt8} (h1 : 240 ≤ x.toNat) : fgo 4 (x.toNat - 240) (x :: m) = frs (x :: m) := by
  have hx := x.toNat_lt
  match m with
  | [] =>
    rw [frs_bad]
    · unfold fgo; rw [if_pos (by simp)]
    · rw [Lib.decodeL_N]; unfold Lib.decodeN
      simp only [List.length_cons, List.length_nil, List.getD_cons_zero]
      rw [if_neg (by omega), if_neg (by omega), if_neg (by omega), if_neg (by omega)]
  | [y] =>
    rw [frs_bad]
    · unfold fgo; rw [if_pos (by simp)]
    · rw [Lib.decodeL_N]; unfold Lib.decodeN
      simp only [List.length_cons, List.length_nil, List.getD_cons_zero]
      rw [if_neg (by omega), if_neg (by omega), if_neg (by omega), if_neg (by omega)]
  | [y, z] =>
    rw [frs_bad]
    · unfold fgo; rw [if_pos (by simp)]
    · rw [Lib.decodeL_N]; unfold Lib.decodeN
      simp only [List.length_cons, List.length_nil, List.getD_cons_zero]
      rw [if_neg (by omega), if_neg (by omega), if_neg (by omega), if_neg (by omega)]
  | y :: z :: u :: m =>
    have hy := y.toNat_lt
    have hz := z.toNat_lt
    have hu := u.toNat_lt
    unfold fgo
    rw [if_neg (by simp)]
    simp only [List.tail_cons, Nat.reduceSub, fcl]
    have hd : Lib.decodeL (x :: y :: z :: u :: m) = if x.toNat < 248 ∧ y.toNat / 64 = 2 ∧ z.toNat / 64 = 2 ∧ u.toNat / 64 = 2 then (if 65536 ≤ x.toNat % 8 * 262144 + y.toNat % 64 * 4096 + z.toNat % 64 * 64 + u.toNat % 64 ∧ x.toNat % 8 * 262144 + y.toNat % 64 * 4096 + z.toNat % 64 * 64 + u.toNat % 64 ≤ 1114111 then (x.toNat % 8 * 262144 + y.toNat % 64 * 4096 + z.toNat % 64 * 64 + u.toNat % 64, 4) else (65533, 1)) else (65533, 1) := by
      rw [Lib.decodeL_N]; unfold Lib.decodeN
      simp only [List.length_cons, List.getD_cons_zero, List.getD_cons_succ]
      rw [if_neg (by omega), if_neg (by omega), if_neg (by omega)]
      by_cases hq : x.toNat < 248 ∧ y.toNat / 64 = 2 ∧ z.toNat / 64 = 2 ∧ u.toNat / 64 = 2
      · obtain ⟨q1, q2, q3, q4⟩ := hq
        rw [if_pos ⟨by omega, ⟨by omega, q2⟩, ⟨by omega, q3⟩, by omega, q4⟩, if_pos (show x.toNat < 248 ∧ y.toNat / 64 = 2 ∧ z.toNat / 64 = 2 ∧ u.toNat / 64 = 2 from ⟨q1, q2, q3, q4⟩)]
        by_cases hv : 65536 ≤ x.toNat % 8 * 262144 + y.toNat % 64 * 4096 + z.toNat % 64 * 64 + u.toNat % 64 ∧ x.toNat % 8 * 262144 + y.toNat % 64 * 4096 + z.toNat % 64 * 64 + u.toNat % 64 ≤ 1114111
        · rw [if_pos ⟨hv.1, by omega⟩, if_pos hv]
        · rw [if_neg (by omega), if_neg hv]
      · rw [if_neg (fun e => hq ⟨by omega, e.2.1.2, e.2.2.1.2, e.2.2.2.2⟩), if_neg hq]
    by_cases hb : y.toNat < 128 ∨ 191 < y.toNat
    · rw [if_pos hb]
      rw [if_neg (by omega)] at hd
      rw [frs_bad hd]
    · rw [if_neg hb]
      by_cases hb2 : z.toNat < 128 ∨ 191 < z.toNat
      · rw [if_pos hb2]
        rw [if_neg (by omega)] at hd
        rw [frs_bad hd]
      · rw [if_neg hb2]
        by_cases hb3 : u.toNat < 128 ∨ 191 < u.toNat
        · rw [if_pos hb3]
          rw [if_neg (by omega)] at hd
          rw [frs_bad hd]
        · rw [if_neg hb3]
          simp only
          by_cases hx8 : x.toNat < 248
          · rw [if_pos ⟨hx8, by omega, by omega, by omega⟩] at hd
            have hc : 64 * (64 * (64 * (x.toNat - 240) + y.toNat - 128) + z.toNat - 128) + u.toNat - 128 = x.toNat % 8 * 262144 + y.toNat % 64 * 4096 + z.toNat % 64 * 64 + u.toNat % 64 := by omega
            rw [hc]
            generalize hC : x.toNat % 8 * 262144 + y.toNat % 64 * 4096 + z.toNat % 64 * 64 + u.toNat % 64 = C at *
            by_cases hq : 65536 ≤ C ∧ C ≤ 1114111
            · rw [if_pos hq] at hd
              rw [frs_good (by simp) hd (by omega), fend_good (by unfold bdc; omega)]
              unfold sgn
              rw [if_neg (by omega), if_neg (by omega), if_neg (by omega)]
              simp only [List.take_succ_cons, List.take_zero]
              rw [u8_of (x := x) (by omega), u8_of (x := y) (by omega), u8_of (x := z) (by omega), u8_of (x := u) (by omega)]
            · rw [if_neg hq] at hd
              rw [frs_bad hd]
              by_cases hs : 65536 ≤ C
              · exact fend_bad (.inl (by unfold bdc; omega))
              · refine fend_bad (.inr fun e => ?_)
                have := congrArg List.length e
                rw [sgn_len] at this
                simp only [List.take_succ_cons, List.take_zero, List.length_cons, List.length_nil] at this
                split at this
                · omega
                · split at this
                  · omega
                  · rw [if_pos (by omega)] at this; omega
          · rw [if_neg (by omega)] at hd
            rw [frs_bad hd]
            exact fend_bad (.inl (by unfold bdc; omega))
theorem fst_eq (l : List UInt8) : fstR l = frs l := by
  cases l with
  | nil => rfl
  | cons x m =>
    rw [fst_c]
    by_cases h1 : x.toNat < 128
    · rw [if_pos h1, frs_good (by simp) (Lib.decodeL_ascii x m h1) (by omega)]
      unfold fgo
      rw [if_neg (by simp)]
      simp only [Nat.sub_self, fcl]
      refine fend_good (by unfold bdc; omega) ?_
      unfold sgn
      rw [if_pos h1]
      simp
    rw [if_neg h1]
    by_cases h2 : x.toNat < 192
    · rw [if_pos h2, frs_bad]
      rw [Lib.decodeL_N]; unfold Lib.decodeN
      simp only [List.getD_cons_zero]
      rw [if_neg (by omega), if_neg (by omega), if_neg (by omega), if_neg (by omega)]
    rw [if_neg h2]
    by_cases h3 : x.toNat < 224
    · rw [if_pos h3]; exact fst_2 (by omega) h3
    rw [if_neg h3]
    by_cases h4 : x.toNat < 240
    · rw [if_pos h4]; exact fst_3 (by omega) h4
    · rw [if_neg h4]; exact fst_4 (by omega)
end Go.Proofs.YtkkgcbaofdejjaaGreatDoor

namespace Go.Proofs.YtkkgcbaofdejjaaGreatDoor
open Go.RowKit

theorem BsA.drop {w : World} {b o n cap : Nat} {l : List UInt8} (h : BsA w (.slice (some ⟨b, o, none⟩) n cap) l) (k c : Nat) : BsA w (.slice (some ⟨b, o + k, none⟩) (l.length - k) c) (l.drop k) := by
  obtain ⟨a', cap', e, h⟩ := h
  cases e
  refine ⟨_, c, by rw [List.length_drop], ?_⟩
  rcases h with rfl | ⟨b', o', e, hb, hc⟩
  · left; simp
  · cases e
    right
    refine ⟨b, o + k, rfl, hb, fun j x hj => ?_⟩
    rw [List.getElem?_drop] at hj
    have := hc (k + j) x hj
    rwa [← Nat.add_assoc] at this
/-- A text as bytes of its own. -/
theorem cvb (w : World) (l : List UInt8) : ∃ w1 cap, (convert 9 22 (.string (st l))).run Tryz.prog w = .ok (.slice (some ⟨w.heap.size, 0, none⟩) l.length cap) w1 ∧ l.length ≤ cap ∧ BsA w1 (.slice (some ⟨w.heap.size, 0, none⟩) l.length cap) l ∧ Below w.heap.size w w1 := by
  refine ⟨Lib.bytesWorld w 5 (st l), grownCap w (st l).size 0 5, Lib.run_convert_string_bytes (P := Tryz.prog) w 9 22 5 (st l) (u := .string) Tryz.underlying9 Tryz.underlying22 Tryz.underlying5, ?_, ?_, ?_⟩
  · have := grownCap_ge w (st l).size 0 5
    rw [st_size] at this
    exact this
  · refine ⟨_, _, rfl, .inr ⟨_, _, rfl, by rw [Lib.bytesWorld_size]; omega, fun j x hj => ?_⟩⟩
    have hjl := (List.getElem?_eq_some_iff.1 hj).1
    have := Lib.bytesWorld_cell w 5 (st l) j (by rw [st_size]; exact hjl)
    rw [Nat.zero_add, this, st_data, List.getD_eq_getElem?_getD, hj]
    rfl
  · exact ⟨rfl, rfl, rfl, by rw [Lib.bytesWorld_size]; omega, fun k hk => Lib.bytesWorld_at_old w _ _ k hk⟩
def lnV : Value → Nat
  | .slice _ n _ => n
  | _ => 0
theorem sl_from {b o n k cap : Nat} (hk : k ≤ n) (w : World) : (Instr.sliceAt 22 (.slice (some ⟨b, o, none⟩) n cap) (some (.int .i64 (k : Nat))) none none).run Tryz.prog w = .ok (.slice (some ⟨b, if cap = k then o else o + k, none⟩) (n - k) (cap - k)) w := by
  by_cases h : cap = k
  · subst h
    simp [Instr.sliceAt, go_sem, hk]
  · rw [if_neg h]
    simp [Instr.sliceAt, go_sem, hk]
    omega
set_option maxHeartbeats 8000000 in
set_option maxRecDepth 100000 in
theorem valid_d {w : World} {l : List UInt8} : Calls Tryz.prog 25 #[.string (st l)] w fun e w' => e = .returned (.bool (Lib.validD l)) ∧ Below w.heap.size w w' := by
  obtain ⟨w1, cap, hcv, hcap, hbs, hbw⟩ := cvb w l
  obtain ⟨B, hB⟩ : ∃ B, Hid (B = Lib.validD l) := ⟨_, hide1 rfl⟩
  rw [← hB.out]
  replace hbs := hide1 hbs
  replace hbw := hide1 hbw
  replace hcap := hide1 hcap
  go_enter Tryz.func25, Tryz.ntmps25
  go_wp2_with fail
  go_loopw [3] (fun s3 wr => ∃ (m : List UInt8) (b o c : Nat), s3 = .slice (some ⟨b, o, none⟩) m.length c ∧ Hid (m.length ≤ c) ∧ Hid (BsA wr (.slice (some ⟨b, o, none⟩) m.length c) m) ∧ Hid (B = Lib.validD m) ∧ Hid (Below w.heap.size w wr)) (fun s3 _ => lnV s3)
  case atStart => exact ⟨l, _, _, cap, rfl, hcap, hbs, hB, hbw⟩
  case round =>
    obtain ⟨m, b, o, c, rfl, hmc, hm, hBm, hb⟩ := hrel
    clear hcap hbs hbw hB hcv
    by_cases hz : m = []
    · subst hz
      have hfin : Hid ((Ending.returned (.bool true) : Ending) = .returned (.bool B) ∧ Below w.heap.size w wr) := hide1 ⟨by rw [hBm.out]; rfl, hb.out⟩
      clear hBm hm hmc hb
      simp only [List.length_nil]
      go_wp2
      go_ret
      exact hfin.out
    · have hf := first_d hm.out hmc.out
      rw [fst_eq] at hf
      have hst := Lib.validD_step m hz
      have hpos : 0 < m.length := List.length_pos_iff.2 hz
      by_cases hbad : (Lib.decodeL m).1 = 65533 ∧ (Lib.decodeL m).2 = 1
      · have e1 : frs m = (0, 0) := by unfold frs; rw [if_pos (.inr hbad)]
        rw [e1] at hf
        rw [if_pos hbad] at hst
        have hBf : Hid (B = false) := hide1 (hBm.out.trans hst)
        clear hst hBm hm hmc hbad e1 hz
        generalize m.length = N at *
        go_wp2_with fail
        refine hf.mono ?_
        rintro e w2 ⟨rfl, b2⟩
        have hfin : Hid ((Ending.returned (.bool false) : Ending) = .returned (.bool B) ∧ Below w.heap.size w w2) := hide1 ⟨by rw [hBf.out], hb.out.trans (b2.mono hb.out.size)⟩
        clear hf b2 hb hBf
        go_wp2
        go_ret
        exact hfin.out
      · have e1 : frs m = Lib.decodeL m := by unfold frs; rw [if_neg (fun h => h.elim hz hbad)]
        rw [e1] at hf
        rw [if_neg hbad] at hst
        have hk1 := Lib.decodeL_width m
        have hk2 := Lib.decodeL_le m hz
        generalize hdk : Lib.decodeL m = ck at *
        obtain ⟨cc, k⟩ := ck
        simp only at hk1 hk2 hst hf
        have hBk : Hid (B = Lib.validD (m.drop k)) := hide1 (hBm.out.trans hst)
        have hs : ∀ w' : World, _ := fun w' : World => sl_from (b := b) (o := o) (n := m.length) (k := k) (cap := c) hk2 w'
        have hdr : BsA wr (.slice (some ⟨b, if c = k then o else o + k, none⟩) (m.length - k) (c - k)) (m.drop k) := by
          by_cases hck : c = k
          · have hnil : m.drop k = [] := List.drop_of_length_le (by have := hmc.out; omega)
            have hz0 : m.length - k = 0 := by have := hmc.out; omega
            rw [hnil, hz0]
            exact ⟨_, _, rfl, .inl rfl⟩
          · rw [if_neg hck]
            exact hm.out.drop k (c - k)
        generalize (if c = k then o else o + k) = o' at *
        replace hs := hide1 hs
        have hld : Hid ((m.drop k).length = m.length - k) := hide1 List.length_drop
        clear hst hBm hm hbad e1 hz hdk
        generalize m.drop k = m' at *
        generalize hNe : m.length = N at *
        go_wp2_with fail
        refine hf.mono ?_
        rintro e w2 ⟨rfl, b2⟩
        have hb2 := hide1 (hb.out.trans (b2.mono hb.out.size))
        have hdr2 := hide1 (hdr.bl b2)
        have hs2 := hs.out w2
        have hk0 : ((k : Int) == 0) = false := by simp; omega
        clear hf b2 hb hdr hs hNe
        go_wp2
        go_roundw
        case rel => exact ⟨m', b, o', c - k, by rw [hld.out], hide1 (by rw [hld.out]; have := hmc.out; omega), by rw [hld.out]; exact hdr2, hBk, hb2⟩
        case measure => simp [lnV]; omega
end Go.Proofs.YtkkgcbaofdejjaaGreatDoor

namespace Go.Proofs.YtkkgcbaofdejjaaGreatDoor
open Go.RowKit

set_option maxHeartbeats 4000000 in
set_option maxRecDepth 100000 in
theorem gr_neg {k i D : Int} {s : List UInt8} {sa pa : Option Addr} {nl np sc pc : Nat} {w : World} (hk : k < 0) : Calls Tryz.prog 15 #[.agg #[.int .i64 k, .int .i64 i, .string (st s), .slice sa nl sc, .slice pa np pc], .int .i64 D] w fun e w' => e = .returned (.bool false) ∧ Below w.heap.size w w' := by
  have hb0 := hide1 (below_al (w := w) (.cells #[.int .i64 k, .int .i64 i, .string (st s), .slice sa nl sc, .slice pa np pc] 28))
  have dk : decide (k < 0) = true := decide_eq_true hk
  clear hk
  go_enter Tryz.func15, Tryz.ntmps15
  go_wp2
  go_ret
  exact ⟨rfl, hb0.out⟩
set_option maxHeartbeats 4000000 in
set_option maxRecDepth 100000 in
theorem gr_big {k i D : Int} {s : List UInt8} {sa pa : Option Addr} {nl np sc pc : Nat} {w : World} (hk : 5 < k) : Calls Tryz.prog 15 #[.agg #[.int .i64 k, .int .i64 i, .string (st s), .slice sa nl sc, .slice pa np pc], .int .i64 D] w fun e w' => e = .returned (.bool false) ∧ Below w.heap.size w w' := by
  have hb0 := hide1 (below_al (w := w) (.cells #[.int .i64 k, .int .i64 i, .string (st s), .slice sa nl sc, .slice pa np pc] 28))
  have dk : decide (k < 0) = false := decide_eq_false (by omega)
  have dk2 : decide (k > 5) = true := decide_eq_true hk
  clear hk
  go_enter Tryz.func15, Tryz.ntmps15
  go_wp2
  go_ret
  exact ⟨rfl, hb0.out⟩
set_option maxHeartbeats 4000000 in
set_option maxRecDepth 100000 in
theorem gr_0l {i D : Int} {s : List UInt8} {sa pa : Option Addr} {nl np sc pc : Nat} {w : World} (hl : 0 < nl) : Calls Tryz.prog 15 #[.agg #[.int .i64 0, .int .i64 i, .string (st s), .slice sa nl sc, .slice pa np pc], .int .i64 D] w fun e w' => e = .returned (.bool false) ∧ Below w.heap.size w w' := by
  have hb0 := hide1 (below_al (w := w) (.cells #[.int .i64 (0), .int .i64 i, .string (st s), .slice sa nl sc, .slice pa np pc] 28))
  have dl : 0 < nl := hl
  clear hl
  go_enter Tryz.func15, Tryz.ntmps15
  go_wp2
  go_ret
  exact ⟨rfl, hb0.out⟩
set_option maxHeartbeats 4000000 in
set_option maxRecDepth 100000 in
theorem gr_0p {i D : Int} {s : List UInt8} {sa pa : Option Addr} {nl np sc pc : Nat} {w : World} (hl : nl = 0) (hp : 0 < np) : Calls Tryz.prog 15 #[.agg #[.int .i64 0, .int .i64 i, .string (st s), .slice sa nl sc, .slice pa np pc], .int .i64 D] w fun e w' => e = .returned (.bool false) ∧ Below w.heap.size w w' := by
  have hb0 := hide1 (below_al (w := w) (.cells #[.int .i64 (0), .int .i64 i, .string (st s), .slice sa nl sc, .slice pa np pc] 28))
  have dl : ¬ 0 < nl := by omega
  have dp : 0 < np := hp
  clear hl hp
  go_enter Tryz.func15, Tryz.ntmps15
  go_wp2
  go_ret
  exact ⟨rfl, hb0.out⟩
set_option maxHeartbeats 4000000 in
set_option maxRecDepth 100000 in
theorem gr_0s {i D : Int} {s : List UInt8} {sa pa : Option Addr} {nl np sc pc : Nat} {w : World} (hl : nl = 0) (hp : np = 0) (hs : s ≠ []) : Calls Tryz.prog 15 #[.agg #[.int .i64 0, .int .i64 i, .string (st s), .slice sa nl sc, .slice pa np pc], .int .i64 D] w fun e w' => e = .returned (.bool false) ∧ Below w.heap.size w w' := by
  have hb0 := hide1 (below_al (w := w) (.cells #[.int .i64 (0), .int .i64 i, .string (st s), .slice sa nl sc, .slice pa np pc] 28))
  have dl : ¬ 0 < nl := by omega
  have dp : ¬ 0 < np := by omega
  have ds : (st s).toList.isEmpty = false := by cases h : (st s).toList with | nil => exact absurd (st_no.1 h) hs | cons a b => rfl
  clear hl hp hs
  go_enter Tryz.func15, Tryz.ntmps15
  go_wp2
  go_ret
  exact ⟨rfl, hb0.out⟩
set_option maxHeartbeats 4000000 in
set_option maxRecDepth 100000 in
theorem gr_0i {i D : Int} {s : List UInt8} {sa pa : Option Addr} {nl np sc pc : Nat} {w : World} (hl : nl = 0) (hp : np = 0) (hs : s = []) (hi : i ≠ 0) : Calls Tryz.prog 15 #[.agg #[.int .i64 0, .int .i64 i, .string (st s), .slice sa nl sc, .slice pa np pc], .int .i64 D] w fun e w' => e = .returned (.bool false) ∧ Below w.heap.size w w' := by
  have hb0 := hide1 (below_al (w := w) (.cells #[.int .i64 (0), .int .i64 i, .string (st s), .slice sa nl sc, .slice pa np pc] 28))
  have dl : ¬ 0 < nl := by omega
  have dp : ¬ 0 < np := by omega
  have ds : (st s).toList.isEmpty = true := by rw [st_no.2 hs]; rfl
  have di : (i != 0) = true := by simpa using hi
  clear hl hp hs hi
  go_enter Tryz.func15, Tryz.ntmps15
  go_wp2
  go_ret
  exact ⟨rfl, hb0.out⟩
set_option maxHeartbeats 4000000 in
set_option maxRecDepth 100000 in
theorem gr_0t {i D : Int} {s : List UInt8} {sa pa : Option Addr} {nl np sc pc : Nat} {w : World} (hl : nl = 0) (hp : np = 0) (hs : s = []) (hi : i = 0) : Calls Tryz.prog 15 #[.agg #[.int .i64 0, .int .i64 i, .string (st s), .slice sa nl sc, .slice pa np pc], .int .i64 D] w fun e w' => e = .returned (.bool true) ∧ Below w.heap.size w w' := by
  have hb0 := hide1 (below_al (w := w) (.cells #[.int .i64 (0), .int .i64 i, .string (st s), .slice sa nl sc, .slice pa np pc] 28))
  have dl : ¬ 0 < nl := by omega
  have dp : ¬ 0 < np := by omega
  have ds : (st s).toList.isEmpty = true := by rw [st_no.2 hs]; rfl
  have di : (i != 0) = false := by simpa using hi
  clear hl hp hs hi
  go_enter Tryz.func15, Tryz.ntmps15
  go_wp2
  refine wp_loop_rounds 1 ?_
  rw [rounds_succ]; go_wp2
  refine wp_loop_rounds 1 ?_
  rw [rounds_succ]; go_wp2
  go_ret
  exact ⟨rfl, hb0.out⟩
set_option maxHeartbeats 4000000 in
set_option maxRecDepth 100000 in
theorem gr_1l {i D : Int} {s : List UInt8} {sa pa : Option Addr} {nl np sc pc : Nat} {w : World} (hl : 0 < nl) : Calls Tryz.prog 15 #[.agg #[.int .i64 1, .int .i64 i, .string (st s), .slice sa nl sc, .slice pa np pc], .int .i64 D] w fun e w' => e = .returned (.bool false) ∧ Below w.heap.size w w' := by
  have hb0 := hide1 (below_al (w := w) (.cells #[.int .i64 (1), .int .i64 i, .string (st s), .slice sa nl sc, .slice pa np pc] 28))
  have dl : 0 < nl := hl
  clear hl
  go_enter Tryz.func15, Tryz.ntmps15
  go_wp2
  go_ret
  exact ⟨rfl, hb0.out⟩
set_option maxHeartbeats 4000000 in
set_option maxRecDepth 100000 in
theorem gr_1p {i D : Int} {s : List UInt8} {sa pa : Option Addr} {nl np sc pc : Nat} {w : World} (hl : nl = 0) (hp : 0 < np) : Calls Tryz.prog 15 #[.agg #[.int .i64 1, .int .i64 i, .string (st s), .slice sa nl sc, .slice pa np pc], .int .i64 D] w fun e w' => e = .returned (.bool false) ∧ Below w.heap.size w w' := by
  have hb0 := hide1 (below_al (w := w) (.cells #[.int .i64 (1), .int .i64 i, .string (st s), .slice sa nl sc, .slice pa np pc] 28))
  have dl : ¬ 0 < nl := by omega
  have dp : 0 < np := hp
  clear hl hp
  go_enter Tryz.func15, Tryz.ntmps15
  go_wp2
  go_ret
  exact ⟨rfl, hb0.out⟩
set_option maxHeartbeats 4000000 in
set_option maxRecDepth 100000 in
theorem gr_1s {i D : Int} {s : List UInt8} {sa pa : Option Addr} {nl np sc pc : Nat} {w : World} (hl : nl = 0) (hp : np = 0) (hs : s ≠ []) : Calls Tryz.prog 15 #[.agg #[.int .i64 1, .int .i64 i, .string (st s), .slice sa nl sc, .slice pa np pc], .int .i64 D] w fun e w' => e = .returned (.bool false) ∧ Below w.heap.size w w' := by
  have hb0 := hide1 (below_al (w := w) (.cells #[.int .i64 (1), .int .i64 i, .string (st s), .slice sa nl sc, .slice pa np pc] 28))
  have dl : ¬ 0 < nl := by omega
  have dp : ¬ 0 < np := by omega
  have ds : (st s).toList.isEmpty = false := by cases h : (st s).toList with | nil => exact absurd (st_no.1 h) hs | cons a b => rfl
  clear hl hp hs
  go_enter Tryz.func15, Tryz.ntmps15
  go_wp2
  go_ret
  exact ⟨rfl, hb0.out⟩
set_option maxHeartbeats 4000000 in
set_option maxRecDepth 100000 in
theorem gr_1n {i D : Int} {s : List UInt8} {sa pa : Option Addr} {nl np sc pc : Nat} {w : World} (hl : nl = 0) (hp : np = 0) (hs : s = []) (i0 : i ≠ 0) (i1 : i ≠ 1) : Calls Tryz.prog 15 #[.agg #[.int .i64 1, .int .i64 i, .string (st s), .slice sa nl sc, .slice pa np pc], .int .i64 D] w fun e w' => e = .returned (.bool false) ∧ Below w.heap.size w w' := by
  have hb0 := hide1 (below_al (w := w) (.cells #[.int .i64 (1), .int .i64 i, .string (st s), .slice sa nl sc, .slice pa np pc] 28))
  have dl : ¬ 0 < nl := by omega
  have dp : ¬ 0 < np := by omega
  have ds : (st s).toList.isEmpty = true := by rw [st_no.2 hs]; rfl
  have d0 : (i != 0) = true := by simpa using i0
  have d1 : (i != 1) = true := by simpa using i1
  clear hl hp hs i0 i1
  go_enter Tryz.func15, Tryz.ntmps15
  go_wp2
  go_ret
  exact ⟨rfl, hb0.out⟩
set_option maxHeartbeats 4000000 in
set_option maxRecDepth 100000 in
theorem gr_10 {D : Int} {s : List UInt8} {sa pa : Option Addr} {nl np sc pc : Nat} {w : World} (hl : nl = 0) (hp : np = 0) (hs : s = []) : Calls Tryz.prog 15 #[.agg #[.int .i64 1, .int .i64 0, .string (st s), .slice sa nl sc, .slice pa np pc], .int .i64 D] w fun e w' => e = .returned (.bool true) ∧ Below w.heap.size w w' := by
  have hb0 := hide1 (below_al (w := w) (.cells #[.int .i64 (1), .int .i64 0, .string (st s), .slice sa nl sc, .slice pa np pc] 28))
  have dl : ¬ 0 < nl := by omega
  have dp : ¬ 0 < np := by omega
  have ds : (st s).toList.isEmpty = true := by rw [st_no.2 hs]; rfl
  clear hl hp hs
  go_enter Tryz.func15, Tryz.ntmps15
  go_wp2
  refine wp_loop_rounds 1 ?_
  rw [rounds_succ]; go_wp2
  refine wp_loop_rounds 1 ?_
  rw [rounds_succ]; go_wp2
  go_ret
  exact ⟨rfl, hb0.out⟩
set_option maxHeartbeats 4000000 in
set_option maxRecDepth 100000 in
theorem gr_11 {D : Int} {s : List UInt8} {sa pa : Option Addr} {nl np sc pc : Nat} {w : World} (hl : nl = 0) (hp : np = 0) (hs : s = []) : Calls Tryz.prog 15 #[.agg #[.int .i64 1, .int .i64 1, .string (st s), .slice sa nl sc, .slice pa np pc], .int .i64 D] w fun e w' => e = .returned (.bool true) ∧ Below w.heap.size w w' := by
  have hb0 := hide1 (below_al (w := w) (.cells #[.int .i64 (1), .int .i64 (1), .string (st s), .slice sa nl sc, .slice pa np pc] 28))
  have dl : ¬ 0 < nl := by omega
  have dp : ¬ 0 < np := by omega
  have ds : (st s).toList.isEmpty = true := by rw [st_no.2 hs]; rfl
  clear hl hp hs
  go_enter Tryz.func15, Tryz.ntmps15
  go_wp2
  refine wp_loop_rounds 1 ?_
  rw [rounds_succ]; go_wp2
  refine wp_loop_rounds 1 ?_
  rw [rounds_succ]; go_wp2
  go_ret
  exact ⟨rfl, hb0.out⟩
set_option maxHeartbeats 4000000 in
set_option maxRecDepth 100000 in
theorem gr_2l {i D : Int} {s : List UInt8} {sa pa : Option Addr} {nl np sc pc : Nat} {w : World} (hl : 0 < nl) : Calls Tryz.prog 15 #[.agg #[.int .i64 2, .int .i64 i, .string (st s), .slice sa nl sc, .slice pa np pc], .int .i64 D] w fun e w' => e = .returned (.bool false) ∧ Below w.heap.size w w' := by
  have hb0 := hide1 (below_al (w := w) (.cells #[.int .i64 (2), .int .i64 i, .string (st s), .slice sa nl sc, .slice pa np pc] 28))
  have dl : 0 < nl := hl
  clear hl
  go_enter Tryz.func15, Tryz.ntmps15
  go_wp2
  go_ret
  exact ⟨rfl, hb0.out⟩
set_option maxHeartbeats 4000000 in
set_option maxRecDepth 100000 in
theorem gr_2p {i D : Int} {s : List UInt8} {sa pa : Option Addr} {nl np sc pc : Nat} {w : World} (hl : nl = 0) (hp : 0 < np) : Calls Tryz.prog 15 #[.agg #[.int .i64 2, .int .i64 i, .string (st s), .slice sa nl sc, .slice pa np pc], .int .i64 D] w fun e w' => e = .returned (.bool false) ∧ Below w.heap.size w w' := by
  have hb0 := hide1 (below_al (w := w) (.cells #[.int .i64 (2), .int .i64 i, .string (st s), .slice sa nl sc, .slice pa np pc] 28))
  have dl : ¬ 0 < nl := by omega
  have dp : 0 < np := hp
  clear hl hp
  go_enter Tryz.func15, Tryz.ntmps15
  go_wp2
  go_ret
  exact ⟨rfl, hb0.out⟩
set_option maxHeartbeats 4000000 in
set_option maxRecDepth 100000 in
theorem gr_2s {i D : Int} {s : List UInt8} {sa pa : Option Addr} {nl np sc pc : Nat} {w : World} (hl : nl = 0) (hp : np = 0) (hs : s ≠ []) : Calls Tryz.prog 15 #[.agg #[.int .i64 2, .int .i64 i, .string (st s), .slice sa nl sc, .slice pa np pc], .int .i64 D] w fun e w' => e = .returned (.bool false) ∧ Below w.heap.size w w' := by
  have hb0 := hide1 (below_al (w := w) (.cells #[.int .i64 (2), .int .i64 i, .string (st s), .slice sa nl sc, .slice pa np pc] 28))
  have dl : ¬ 0 < nl := by omega
  have dp : ¬ 0 < np := by omega
  have ds : (st s).toList.isEmpty = false := by cases h : (st s).toList with | nil => exact absurd (st_no.1 h) hs | cons a b => rfl
  clear hl hp hs
  go_enter Tryz.func15, Tryz.ntmps15
  go_wp2
  go_ret
  exact ⟨rfl, hb0.out⟩
set_option maxHeartbeats 4000000 in
set_option maxRecDepth 100000 in
theorem gr_2a {i D : Int} {s : List UInt8} {sa pa : Option Addr} {nl np sc pc : Nat} {w : World} (hl : nl = 0) (hp : np = 0) (hs : s = []) (hi : i < -9007199254740991) : Calls Tryz.prog 15 #[.agg #[.int .i64 2, .int .i64 i, .string (st s), .slice sa nl sc, .slice pa np pc], .int .i64 D] w fun e w' => e = .returned (.bool false) ∧ Below w.heap.size w w' := by
  have hb0 := hide1 (below_al (w := w) (.cells #[.int .i64 (2), .int .i64 i, .string (st s), .slice sa nl sc, .slice pa np pc] 28))
  have dl : ¬ 0 < nl := by omega
  have dp : ¬ 0 < np := by omega
  have ds : (st s).toList.isEmpty = true := by rw [st_no.2 hs]; rfl
  have d0 : decide (i < -9007199254740991) = true := decide_eq_true hi
  clear hl hp hs hi
  go_enter Tryz.func15, Tryz.ntmps15
  go_wp2
  go_ret
  exact ⟨rfl, hb0.out⟩
set_option maxHeartbeats 4000000 in
set_option maxRecDepth 100000 in
theorem gr_2b {i D : Int} {s : List UInt8} {sa pa : Option Addr} {nl np sc pc : Nat} {w : World} (hl : nl = 0) (hp : np = 0) (hs : s = []) (hi : i > 9007199254740991) : Calls Tryz.prog 15 #[.agg #[.int .i64 2, .int .i64 i, .string (st s), .slice sa nl sc, .slice pa np pc], .int .i64 D] w fun e w' => e = .returned (.bool false) ∧ Below w.heap.size w w' := by
  have hb0 := hide1 (below_al (w := w) (.cells #[.int .i64 (2), .int .i64 i, .string (st s), .slice sa nl sc, .slice pa np pc] 28))
  have dl : ¬ 0 < nl := by omega
  have dp : ¬ 0 < np := by omega
  have ds : (st s).toList.isEmpty = true := by rw [st_no.2 hs]; rfl
  have d0 : decide (i < -9007199254740991) = false := decide_eq_false (by omega)
  have d1 : decide (i > 9007199254740991) = true := decide_eq_true hi
  clear hl hp hs hi
  go_enter Tryz.func15, Tryz.ntmps15
  go_wp2
  go_ret
  exact ⟨rfl, hb0.out⟩
set_option maxHeartbeats 4000000 in
set_option maxRecDepth 100000 in
theorem gr_2t {i D : Int} {s : List UInt8} {sa pa : Option Addr} {nl np sc pc : Nat} {w : World} (hl : nl = 0) (hp : np = 0) (hs : s = []) (hi : -9007199254740991 ≤ i) (hi2 : i ≤ 9007199254740991) : Calls Tryz.prog 15 #[.agg #[.int .i64 2, .int .i64 i, .string (st s), .slice sa nl sc, .slice pa np pc], .int .i64 D] w fun e w' => e = .returned (.bool true) ∧ Below w.heap.size w w' := by
  have hb0 := hide1 (below_al (w := w) (.cells #[.int .i64 (2), .int .i64 i, .string (st s), .slice sa nl sc, .slice pa np pc] 28))
  have dl : ¬ 0 < nl := by omega
  have dp : ¬ 0 < np := by omega
  have ds : (st s).toList.isEmpty = true := by rw [st_no.2 hs]; rfl
  have d0 : decide (i < -9007199254740991) = false := decide_eq_false (by omega)
  have d1 : decide (i > 9007199254740991) = false := decide_eq_false (by omega)
  clear hl hp hs hi hi2
  go_enter Tryz.func15, Tryz.ntmps15
  go_wp2
  refine wp_loop_rounds 1 ?_
  rw [rounds_succ]; go_wp2
  refine wp_loop_rounds 1 ?_
  rw [rounds_succ]; go_wp2
  go_ret
  exact ⟨rfl, hb0.out⟩
set_option maxHeartbeats 4000000 in
set_option maxRecDepth 100000 in
theorem gr_3l {i D : Int} {s : List UInt8} {sa pa : Option Addr} {nl np sc pc : Nat} {w : World} (hl : 0 < nl) : Calls Tryz.prog 15 #[.agg #[.int .i64 3, .int .i64 i, .string (st s), .slice sa nl sc, .slice pa np pc], .int .i64 D] w fun e w' => e = .returned (.bool false) ∧ Below w.heap.size w w' := by
  have hb0 := hide1 (below_al (w := w) (.cells #[.int .i64 (3), .int .i64 i, .string (st s), .slice sa nl sc, .slice pa np pc] 28))
  have dl : 0 < nl := hl
  clear hl
  go_enter Tryz.func15, Tryz.ntmps15
  go_wp2
  go_ret
  exact ⟨rfl, hb0.out⟩
set_option maxHeartbeats 4000000 in
set_option maxRecDepth 100000 in
theorem gr_3p {i D : Int} {s : List UInt8} {sa pa : Option Addr} {nl np sc pc : Nat} {w : World} (hl : nl = 0) (hp : 0 < np) : Calls Tryz.prog 15 #[.agg #[.int .i64 3, .int .i64 i, .string (st s), .slice sa nl sc, .slice pa np pc], .int .i64 D] w fun e w' => e = .returned (.bool false) ∧ Below w.heap.size w w' := by
  have hb0 := hide1 (below_al (w := w) (.cells #[.int .i64 (3), .int .i64 i, .string (st s), .slice sa nl sc, .slice pa np pc] 28))
  have dl : ¬ 0 < nl := by omega
  have dp : 0 < np := hp
  clear hl hp
  go_enter Tryz.func15, Tryz.ntmps15
  go_wp2
  go_ret
  exact ⟨rfl, hb0.out⟩
set_option maxHeartbeats 4000000 in
set_option maxRecDepth 100000 in
theorem gr_3i {i D : Int} {s : List UInt8} {sa pa : Option Addr} {nl np sc pc : Nat} {w : World} (hl : nl = 0) (hp : np = 0) (hi : i ≠ 0) : Calls Tryz.prog 15 #[.agg #[.int .i64 3, .int .i64 i, .string (st s), .slice sa nl sc, .slice pa np pc], .int .i64 D] w fun e w' => e = .returned (.bool false) ∧ Below w.heap.size w w' := by
  have hb0 := hide1 (below_al (w := w) (.cells #[.int .i64 (3), .int .i64 i, .string (st s), .slice sa nl sc, .slice pa np pc] 28))
  have dl : ¬ 0 < nl := by omega
  have dp : ¬ 0 < np := by omega
  have di : (i != 0) = true := by simpa using hi
  clear hl hp hi
  go_enter Tryz.func15, Tryz.ntmps15
  go_wp2
  go_ret
  exact ⟨rfl, hb0.out⟩
set_option maxHeartbeats 4000000 in
set_option maxRecDepth 100000 in
theorem gr_3n {i D : Int} {s : List UInt8} {sa pa : Option Addr} {nl np sc pc : Nat} {w : World} (hl : nl = 0) (hp : np = 0) (hi : i = 0) (hv : Lib.validD s = false) : Calls Tryz.prog 15 #[.agg #[.int .i64 3, .int .i64 i, .string (st s), .slice sa nl sc, .slice pa np pc], .int .i64 D] w fun e w' => e = .returned (.bool false) ∧ Below w.heap.size w w' := by
  have hb0 := hide1 (below_al (w := w) (.cells #[.int .i64 (3), .int .i64 i, .string (st s), .slice sa nl sc, .slice pa np pc] 28))
  have dl : ¬ 0 < nl := by omega
  have dp : ¬ 0 < np := by omega
  have di : (i != 0) = false := by simpa using hi
  have hc := valid_d (l := s) (w := w.alloc (.cells #[.int .i64 (3), .int .i64 i, .string (st s), .slice sa nl sc, .slice pa np pc] 28))
  rw [hv] at hc
  clear hl hp hi hv
  go_enter Tryz.func15, Tryz.ntmps15
  go_wp2_with fail
  refine hc.mono ?_
  rintro e w1 ⟨rfl, b1⟩
  have hB := hide1 (hb0.out.trans (b1.mono hb0.out.size))
  have hbx := (b1.block _ (by rw [World.size_alloc]; omega)).trans (new_at w #[.int .i64 (3), .int .i64 i, .string (st s), .slice sa nl sc, .slice pa np pc] 28)
  have c0 : w1.cell? ⟨w.heap.size, 0, none⟩ = some (.int .i64 (3)) := by simp only [World.cell?, hbx]; rfl
  have c3 : w1.cell? ⟨w.heap.size, 3, none⟩ = some (.slice sa nl sc) := by simp only [World.cell?, hbx]; rfl
  have c4 : w1.cell? ⟨w.heap.size, 4, none⟩ = some (.slice pa np pc) := by simp only [World.cell?, hbx]; rfl
  clear hc b1 hb0
  go_wp2
  go_ret
  exact ⟨rfl, hB.out⟩
set_option maxHeartbeats 4000000 in
set_option maxRecDepth 100000 in
theorem gr_3t {i D : Int} {s : List UInt8} {sa pa : Option Addr} {nl np sc pc : Nat} {w : World} (hl : nl = 0) (hp : np = 0) (hi : i = 0) (hv : Lib.validD s = true) : Calls Tryz.prog 15 #[.agg #[.int .i64 3, .int .i64 i, .string (st s), .slice sa nl sc, .slice pa np pc], .int .i64 D] w fun e w' => e = .returned (.bool true) ∧ Below w.heap.size w w' := by
  have hb0 := hide1 (below_al (w := w) (.cells #[.int .i64 (3), .int .i64 i, .string (st s), .slice sa nl sc, .slice pa np pc] 28))
  have dl : ¬ 0 < nl := by omega
  have dp : ¬ 0 < np := by omega
  have di : (i != 0) = false := by simpa using hi
  have hc := valid_d (l := s) (w := w.alloc (.cells #[.int .i64 (3), .int .i64 i, .string (st s), .slice sa nl sc, .slice pa np pc] 28))
  rw [hv] at hc
  clear hl hp hi hv
  go_enter Tryz.func15, Tryz.ntmps15
  go_wp2_with fail
  refine hc.mono ?_
  rintro e w1 ⟨rfl, b1⟩
  have hB := hide1 (hb0.out.trans (b1.mono hb0.out.size))
  have hbx := (b1.block _ (by rw [World.size_alloc]; omega)).trans (new_at w #[.int .i64 (3), .int .i64 i, .string (st s), .slice sa nl sc, .slice pa np pc] 28)
  have c0 : w1.cell? ⟨w.heap.size, 0, none⟩ = some (.int .i64 (3)) := by simp only [World.cell?, hbx]; rfl
  have c3 : w1.cell? ⟨w.heap.size, 3, none⟩ = some (.slice sa nl sc) := by simp only [World.cell?, hbx]; rfl
  have c4 : w1.cell? ⟨w.heap.size, 4, none⟩ = some (.slice pa np pc) := by simp only [World.cell?, hbx]; rfl
  clear hc b1 hb0
  go_wp2
  refine wp_loop_rounds 1 ?_
  rw [rounds_succ]; go_wp2
  refine wp_loop_rounds 1 ?_
  rw [rounds_succ]; go_wp2
  go_ret
  exact ⟨rfl, hB.out⟩
set_option maxHeartbeats 4000000 in
set_option maxRecDepth 100000 in
theorem gr_4p {i D : Int} {s : List UInt8} {sa pa : Option Addr} {nl np sc pc : Nat} {w : World} (hp : 0 < np) : Calls Tryz.prog 15 #[.agg #[.int .i64 4, .int .i64 i, .string (st s), .slice sa nl sc, .slice pa np pc], .int .i64 D] w fun e w' => e = .returned (.bool false) ∧ Below w.heap.size w w' := by
  have hb0 := hide1 (below_al (w := w) (.cells #[.int .i64 (4), .int .i64 i, .string (st s), .slice sa nl sc, .slice pa np pc] 28))
  have dp : 0 < np := hp
  clear hp
  go_enter Tryz.func15, Tryz.ntmps15
  go_wp2
  go_ret
  exact ⟨rfl, hb0.out⟩
set_option maxHeartbeats 4000000 in
set_option maxRecDepth 100000 in
theorem gr_4s {i D : Int} {s : List UInt8} {sa pa : Option Addr} {nl np sc pc : Nat} {w : World} (hp : np = 0) (hs : s ≠ []) : Calls Tryz.prog 15 #[.agg #[.int .i64 4, .int .i64 i, .string (st s), .slice sa nl sc, .slice pa np pc], .int .i64 D] w fun e w' => e = .returned (.bool false) ∧ Below w.heap.size w w' := by
  have hb0 := hide1 (below_al (w := w) (.cells #[.int .i64 (4), .int .i64 i, .string (st s), .slice sa nl sc, .slice pa np pc] 28))
  have dp : ¬ 0 < np := by omega
  have ds : (st s).toList.isEmpty = false := by cases h : (st s).toList with | nil => exact absurd (st_no.1 h) hs | cons a b => rfl
  clear hp hs
  go_enter Tryz.func15, Tryz.ntmps15
  go_wp2
  go_ret
  exact ⟨rfl, hb0.out⟩
set_option maxHeartbeats 4000000 in
set_option maxRecDepth 100000 in
theorem gr_4i {i D : Int} {s : List UInt8} {sa pa : Option Addr} {nl np sc pc : Nat} {w : World} (hp : np = 0) (hs : s = []) (hi : i ≠ 0) : Calls Tryz.prog 15 #[.agg #[.int .i64 4, .int .i64 i, .string (st s), .slice sa nl sc, .slice pa np pc], .int .i64 D] w fun e w' => e = .returned (.bool false) ∧ Below w.heap.size w w' := by
  have hb0 := hide1 (below_al (w := w) (.cells #[.int .i64 (4), .int .i64 i, .string (st s), .slice sa nl sc, .slice pa np pc] 28))
  have dp : ¬ 0 < np := by omega
  have ds : (st s).toList.isEmpty = true := by rw [st_no.2 hs]; rfl
  have di : (i != 0) = true := by simpa using hi
  clear hp hs hi
  go_enter Tryz.func15, Tryz.ntmps15
  go_wp2
  go_ret
  exact ⟨rfl, hb0.out⟩
set_option maxHeartbeats 4000000 in
set_option maxRecDepth 100000 in
theorem gr_4d {i D : Int} {s : List UInt8} {sa pa : Option Addr} {nl np sc pc : Nat} {w : World} (hp : np = 0) (hs : s = []) (hi : i = 0) (hD : D ≥ 8) : Calls Tryz.prog 15 #[.agg #[.int .i64 4, .int .i64 i, .string (st s), .slice sa nl sc, .slice pa np pc], .int .i64 D] w fun e w' => e = .returned (.bool false) ∧ Below w.heap.size w w' := by
  have hb0 := hide1 (below_al (w := w) (.cells #[.int .i64 (4), .int .i64 i, .string (st s), .slice sa nl sc, .slice pa np pc] 28))
  have dp : ¬ 0 < np := by omega
  have ds : (st s).toList.isEmpty = true := by rw [st_no.2 hs]; rfl
  have di : (i != 0) = false := by simpa using hi
  have dD : decide (D ≥ 8) = true := decide_eq_true hD
  clear hp hs hi hD
  go_enter Tryz.func15, Tryz.ntmps15
  go_wp2
  go_ret
  exact ⟨rfl, hb0.out⟩
set_option maxHeartbeats 4000000 in
set_option maxRecDepth 100000 in
theorem gr_5l {i D : Int} {s : List UInt8} {sa pa : Option Addr} {nl np sc pc : Nat} {w : World} (hl : 0 < nl) : Calls Tryz.prog 15 #[.agg #[.int .i64 5, .int .i64 i, .string (st s), .slice sa nl sc, .slice pa np pc], .int .i64 D] w fun e w' => e = .returned (.bool false) ∧ Below w.heap.size w w' := by
  have hb0 := hide1 (below_al (w := w) (.cells #[.int .i64 (5), .int .i64 i, .string (st s), .slice sa nl sc, .slice pa np pc] 28))
  have dl : 0 < nl := hl
  clear hl
  go_enter Tryz.func15, Tryz.ntmps15
  go_wp2
  go_ret
  exact ⟨rfl, hb0.out⟩
set_option maxHeartbeats 4000000 in
set_option maxRecDepth 100000 in
theorem gr_5s {i D : Int} {s : List UInt8} {sa pa : Option Addr} {nl np sc pc : Nat} {w : World} (hl : nl = 0) (hs : s ≠ []) : Calls Tryz.prog 15 #[.agg #[.int .i64 5, .int .i64 i, .string (st s), .slice sa nl sc, .slice pa np pc], .int .i64 D] w fun e w' => e = .returned (.bool false) ∧ Below w.heap.size w w' := by
  have hb0 := hide1 (below_al (w := w) (.cells #[.int .i64 (5), .int .i64 i, .string (st s), .slice sa nl sc, .slice pa np pc] 28))
  have dl : ¬ 0 < nl := by omega
  have ds : (st s).toList.isEmpty = false := by cases h : (st s).toList with | nil => exact absurd (st_no.1 h) hs | cons a b => rfl
  clear hl hs
  go_enter Tryz.func15, Tryz.ntmps15
  go_wp2
  go_ret
  exact ⟨rfl, hb0.out⟩
set_option maxHeartbeats 4000000 in
set_option maxRecDepth 100000 in
theorem gr_5i {i D : Int} {s : List UInt8} {sa pa : Option Addr} {nl np sc pc : Nat} {w : World} (hl : nl = 0) (hs : s = []) (hi : i ≠ 0) : Calls Tryz.prog 15 #[.agg #[.int .i64 5, .int .i64 i, .string (st s), .slice sa nl sc, .slice pa np pc], .int .i64 D] w fun e w' => e = .returned (.bool false) ∧ Below w.heap.size w w' := by
  have hb0 := hide1 (below_al (w := w) (.cells #[.int .i64 (5), .int .i64 i, .string (st s), .slice sa nl sc, .slice pa np pc] 28))
  have dl : ¬ 0 < nl := by omega
  have ds : (st s).toList.isEmpty = true := by rw [st_no.2 hs]; rfl
  have di : (i != 0) = true := by simpa using hi
  clear hl hs hi
  go_enter Tryz.func15, Tryz.ntmps15
  go_wp2
  go_ret
  exact ⟨rfl, hb0.out⟩
set_option maxHeartbeats 4000000 in
set_option maxRecDepth 100000 in
theorem gr_5d {i D : Int} {s : List UInt8} {sa pa : Option Addr} {nl np sc pc : Nat} {w : World} (hl : nl = 0) (hs : s = []) (hi : i = 0) (hD : D ≥ 8) : Calls Tryz.prog 15 #[.agg #[.int .i64 5, .int .i64 i, .string (st s), .slice sa nl sc, .slice pa np pc], .int .i64 D] w fun e w' => e = .returned (.bool false) ∧ Below w.heap.size w w' := by
  have hb0 := hide1 (below_al (w := w) (.cells #[.int .i64 (5), .int .i64 i, .string (st s), .slice sa nl sc, .slice pa np pc] 28))
  have dl : ¬ 0 < nl := by omega
  have ds : (st s).toList.isEmpty = true := by rw [st_no.2 hs]; rfl
  have di : (i != 0) = false := by simpa using hi
  have dD : decide (D ≥ 8) = true := decide_eq_true hD
  clear hl hs hi hD
  go_enter Tryz.func15, Tryz.ntmps15
  go_wp2
  go_ret
  exact ⟨rfl, hb0.out⟩
end Go.Proofs.YtkkgcbaofdejjaaGreatDoor

namespace Go.Proofs.YtkkgcbaofdejjaaGreatDoor
open Go.RowKit

theorem allT_snoc {f : T → Bool} {l : List T} {i : Nat} {u : T} (hu : l[i]? = some u) (h : (l.take i).all f = true) : (l.take (i + 1)).all f = f u := by
  rw [List.take_add_one, hu, List.all_append, h]
  simp
theorem allT_of {f : T → Bool} {l : List T} {i : Nat} (h : (l.take i).all f = false) : l.all f = false := by
  rw [← List.take_append_drop i l, List.all_append, h]; rfl
set_option maxHeartbeats 8000000 in
set_option maxRecDepth 100000 in
theorem gr_4 {D : Int} {f : T → Bool} {F : Nat → Prop} {sa pa : Option Addr} {l : List T} {cl : List (List Value)} {sc pc : Nat} {w : World} (hD : D < 8) (hD0 : 0 ≤ D) (r : RwA F w Vt 5 (.slice sa cl.length sc) cl) (hl : cl.length = l.length) (hb : cl.length ≤ 1000000)
    (hc : ∀ w2, Below w.heap.size w w2 → ∀ (j : Nat) (t : T) (c : List Value), l[j]? = some t → cl[j]? = some c → Calls Tryz.prog 15 #[.agg c.toArray, .int .i64 (D + 1)] w2 fun e w3 => e = .returned (.bool (f t)) ∧ Below w2.heap.size w2 w3) :
    Calls Tryz.prog 15 #[.agg #[.int .i64 4, .int .i64 0, .string ⟨#[]⟩, .slice sa cl.length sc, .slice pa 0 pc], .int .i64 D] w fun e w' => e = .returned (.bool (l.all f)) ∧ Below w.heap.size w w' := by
  obtain ⟨wb, hwb⟩ : ∃ wb, wb = w.alloc (.cells #[.int .i64 4, .int .i64 0, .string ⟨#[]⟩, .slice sa cl.length sc, .slice pa 0 pc] 28) := ⟨_, rfl⟩
  have hb0 : Below w.heap.size w wb := by rw [hwb]; exact below_al _
  have hbx := new_at w #[.int .i64 4, .int .i64 0, .string ⟨#[]⟩, .slice sa cl.length sc, .slice pa 0 pc] 28
  rw [← hwb] at hbx
  have hsb : wb.heap.size = w.heap.size + 1 := by rw [hwb]; simp
  obtain ⟨B, hB⟩ : ∃ B, Hid (B = l.all f) := ⟨_, hide1 rfl⟩
  rw [← hB.out]
  have dD : decide (D ≥ 8) = false := decide_eq_false (by omega)
  replace hb0 := hide1 hb0
  replace hbx := hide1 hbx
  replace hsb := hide1 hsb
  replace hl := hide1 hl
  replace hc := hide1 hc
  replace r := hide1 r
  go_enter Tryz.func15, Tryz.ntmps15
  go_wp2_with fail
  rw [← hwb]
  clear hwb
  go_loopw [5] (fun x wr => ∃ i : Nat, x = .int .i64 (i : Nat) ∧ i ≤ cl.length ∧ Hid ((l.take i).all f = true) ∧ Hid (Below wb.heap.size wb wr)) (fun x _ => cl.length - (intOf x).toNat)
  case atStart => exact ⟨0, rfl, by omega, hide1 rfl, hide1 (Below.refl _ _)⟩
  case round =>
    obtain ⟨i, rfl, hin, hme, hbw⟩ := hrel
    have hbr := (hbw.out.block w.heap.size (by have := hsb.out; omega)).trans hbx.out
    have c3 : wr.cell? ⟨w.heap.size, 3, none⟩ = some (.slice sa cl.length sc) := by simp only [World.cell?, hbr]; rfl
    have c4 : wr.cell? ⟨w.heap.size, 4, none⟩ = some (.slice pa 0 pc) := by simp only [World.cell?, hbr]; rfl
    have hBw : Hid (Below w.heap.size w wr) := hide1 (hb0.out.trans (hbw.out.mono hb0.out.size))
    by_cases hlt : i < cl.length
    · obtain ⟨x, hx⟩ : ∃ x, cl[i]? = some x := ⟨_, List.getElem?_eq_getElem hlt⟩
      obtain ⟨u, hu⟩ : ∃ u, l[i]? = some u := ⟨_, List.getElem?_eq_getElem (by have := hl.out; omega)⟩
      obtain ⟨b, o, cap, hve, -, hbl, hr⟩ := r.out.at hx
      have hva : sa = some ⟨b, o, none⟩ := by cases hve; rfl
      subst hva
      obtain ⟨x0, x1, x2, x3, x4, rfl⟩ := five_l (r.out.1 x (List.mem_of_getElem? hx))
      have hr2 : wr.rangeAt b (o + i * 5) [x0, x1, x2, x3, x4] := fun j v hj => by
        rw [World.cell?_of_block (w := w) (hBw.out.block b hbl)]
        exact hr j v hj
      have hcc := hc.out wr hBw.out i u _ hu hx
      have hms := hide1 (allT_snoc hu hme.out)
      clear hve hr hx hme hu hbr
      go_wp2_with (refine wpList_load_mid rfl 28 (.tmp 119) rfl b (o + i * 5) rfl [x0, x1, x2, x3, x4] _ hr2 Tryz.underlying28 rfl (by kernel_rfl) ?_)
      refine hcc.mono ?_
      rintro e w2 ⟨rfl, b2⟩
      have hb2 := hide1 (hbw.out.trans (b2.mono hbw.out.size))
      have hB2 := hide1 (hBw.out.trans (b2.mono hBw.out.size))
      clear hcc b2 hbw hr2 c3 c4 hBw
      cases hq : f u with
      | true =>
        replace hms := hide1 (hms.out.trans hq)
        clear hq hB2
        go_wp2
        go_roundw
        case rel => exact ⟨i + 1, rfl, by omega, hms, hb2⟩
        case measure => simp [intOf]; omega
      | false =>
        have hfin : Hid ((Ending.returned (.bool false) : Ending) = .returned (.bool B) ∧ Below w.heap.size w w2) := hide1 ⟨by rw [hB.out, allT_of (hms.out.trans hq)], hB2.out⟩
        clear hms hq hB hB2 hb2
        go_wp2
        go_ret
        exact hfin.out
    · have hfin : Hid ((Ending.returned (.bool true) : Ending) = .returned (.bool B) ∧ Below w.heap.size w wr) := hide1 ⟨by
        have := hme.out
        rw [List.take_of_length_le (by have := hl.out; omega)] at this
        rw [hB.out, this], hBw.out⟩
      have hie : i = cl.length := by omega
      subst hie
      clear hme hbw hlt hB hBw hbr
      go_wp2
      refine wp_loop_rounds 1 ?_
      rw [rounds_succ]; go_wp2
      go_ret
      exact hfin.out
theorem nodup_snoc {p : List (List UInt8 × T)} {i : Nat} {q : List UInt8 × T} (hq : p[i]? = some q) (h : ((p.take i).map (·.1)).Nodup) (hn : q.1 ∉ (p.take i).map (·.1)) : ((p.take (i + 1)).map (·.1)).Nodup := by
  rw [List.take_add_one, hq, List.map_append, Option.toList_some, List.map_cons, List.map_nil]
  refine List.nodup_append.2 ⟨h, by simp, fun a ha b hb e => ?_⟩
  simp at hb
  subst hb e
  exact hn ha
theorem dup_bad {p : List (List UInt8 × T)} {i k : Nat} {q q' : List UInt8 × T} (hq : p[i]? = some q) (hq' : p[k]? = some q') (hk : k < i) (he : q'.1 = q.1) : onc (p.map (·.1)) = false := by
  unfold onc
  refine decide_eq_false fun h => ?_
  have h1 : (p.map (·.1))[i]? = some q.1 := by rw [List.getElem?_map, hq]; rfl
  have h2 : (p.map (·.1))[k]? = some q.1 := by rw [List.getElem?_map, hq', ← he]; rfl
  have := (List.getElem?_inj (List.getElem?_eq_some_iff.1 h2).1 h).1 (h2.trans h1.symm)
  omega
set_option maxHeartbeats 16000000 in
set_option maxRecDepth 100000 in
theorem gr_5 {D : Int} {f : T → Bool} {F : Nat → Prop} {sa pa : Option Addr} {p : List (List UInt8 × T)} {cp : List (List Value)} {sc pc : Nat} {w : World} (hD : D < 8) (hD0 : 0 ≤ D) (r : RwA F w Pt 6 (.slice pa cp.length pc) cp) (hl : cp.length = p.length) (hb : cp.length ≤ 1000000)
    (hn : ∀ (j : Nat) (q : List UInt8 × T) (c : List Value), p[j]? = some q → cp[j]? = some c → c.head? = some (Value.string (st q.1)))
    (hc : ∀ w2, Below w.heap.size w w2 → ∀ (j : Nat) (q : List UInt8 × T) (c : List Value), p[j]? = some q → cp[j]? = some c → Calls Tryz.prog 15 #[.agg c.tail.toArray, .int .i64 (D + 1)] w2 fun e w3 => e = .returned (.bool (f q.2)) ∧ Below w2.heap.size w2 w3) :
    Calls Tryz.prog 15 #[.agg #[.int .i64 5, .int .i64 0, .string ⟨#[]⟩, .slice sa 0 sc, .slice pa cp.length pc], .int .i64 D] w fun e w' => e = .returned (.bool (p.all (fun q => Lib.validD q.1 && f q.2) && onc (p.map (·.1)))) ∧ Below w.heap.size w w' := by
  obtain ⟨wb, hwb⟩ : ∃ wb, wb = w.alloc (.cells #[.int .i64 5, .int .i64 0, .string ⟨#[]⟩, .slice sa 0 sc, .slice pa cp.length pc] 28) := ⟨_, rfl⟩
  have hb0 : Below w.heap.size w wb := by rw [hwb]; exact below_al _
  have hbx := new_at w #[.int .i64 5, .int .i64 0, .string ⟨#[]⟩, .slice sa 0 sc, .slice pa cp.length pc] 28
  rw [← hwb] at hbx
  have hsb : wb.heap.size = w.heap.size + 1 := by rw [hwb]; simp
  obtain ⟨B, hB⟩ : ∃ B, Hid (B = (p.all (fun q => Lib.validD q.1 && f q.2) && onc (p.map (·.1)))) := ⟨_, hide1 rfl⟩
  rw [← hB.out]
  have dD : decide (D ≥ 8) = false := decide_eq_false (by omega)
  replace hb0 := hide1 hb0
  replace hbx := hide1 hbx
  replace hsb := hide1 hsb
  replace hl := hide1 hl
  replace hc := hide1 hc
  replace hn := hide1 hn
  replace r := hide1 r
  go_enter Tryz.func15, Tryz.ntmps15
  go_wp2_with fail
  rw [← hwb]
  clear hwb
  refine wp_loop_rounds 1 ?_
  rw [rounds_succ]
  have d3 : wb.cell? ⟨w.heap.size, 3, none⟩ = some (.slice sa 0 sc) := by simp only [World.cell?, hbx.out]; rfl
  go_wp2_with fail
  clear d3
  go_loopw [6] (fun x wr => ∃ i : Nat, x = .int .i64 (i : Nat) ∧ i ≤ cp.length ∧ Hid (((p.take i).map (·.1)).Nodup) ∧ Hid ((p.take i).all (fun q => Lib.validD q.1 && f q.2) = true) ∧ Hid (Below wb.heap.size wb wr)) (fun x _ => cp.length - (intOf x).toNat)
  case atStart => exact ⟨0, rfl, by omega, hide1 (by simp), hide1 rfl, hide1 (Below.refl _ _)⟩
  case round =>
    obtain ⟨i, rfl, hin, hnd, hme, hbw⟩ := hrel
    have hbr := (hbw.out.block w.heap.size (by have := hsb.out; omega)).trans hbx.out
    have c4 : wr.cell? ⟨w.heap.size, 4, none⟩ = some (.slice pa cp.length pc) := by simp only [World.cell?, hbr]; rfl
    have hBw : Hid (Below w.heap.size w wr) := hide1 (hb0.out.trans (hbw.out.mono hb0.out.size))
    by_cases hlt : i < cp.length
    · obtain ⟨x, hx⟩ : ∃ x, cp[i]? = some x := ⟨_, List.getElem?_eq_getElem hlt⟩
      obtain ⟨u, hu⟩ : ∃ u, p[i]? = some u := ⟨_, List.getElem?_eq_getElem (by have := hl.out; omega)⟩
      obtain ⟨b, o, cap, hve, -, hbl, hr⟩ := r.out.at hx
      have hva : pa = some ⟨b, o, none⟩ := by cases hve; rfl
      subst hva
      have hxn := hn.out i u x hu hx
      obtain ⟨x0, x1, x2, x3, x4, x5, rfl⟩ := arr6 (r.out.1 x (List.mem_of_getElem? hx))
      have hx0 : x0 = .string (st u.1) := by simpa using hxn
      subst hx0
      obtain ⟨wo, rfl⟩ : ∃ wo, wo = wr := ⟨_, rfl⟩
      have hcell : Hid (∀ W, Below wo.heap.size wo W → W.cell? ⟨b, o + i * 6, none⟩ = some (.string (st u.1)) ∧ W.rangeAt b (o + i * 6 + 1) [x1, x2, x3, x4, x5] ∧ W.cell? ⟨w.heap.size, 4, none⟩ = some (.slice (some ⟨b, o, none⟩) cp.length pc)) := hide1 fun W hW => by
        have hBW := hBw.out.trans (hW.mono hBw.out.size)
        refine ⟨?_, fun j v hj => ?_, ?_⟩
        · rw [World.cell?_of_block (w := w) (hBW.block b hbl)]
          exact hr 0 _ rfl
        · rw [World.cell?_of_block (w := w) (hBW.block b hbl)]
          have := hr (j + 1) v (by simpa using hj)
          rw [show o + i * 6 + 1 + j = o + i * 6 + (j + 1) by omega]
          exact this
        · have := (hW.block w.heap.size (Array.getElem?_eq_some_iff.1 hbr).1).trans hbr
          simp only [World.cell?, this]; rfl
      have hother : Hid (∀ W, Below wo.heap.size wo W → ∀ (k : Nat) (q : List UInt8 × T), p[k]? = some q → W.cell? ⟨b, o + k * 6, none⟩ = some (.string (st q.1))) := hide1 fun W hW k q hk => by
        have hBW := hBw.out.trans (hW.mono hBw.out.size)
        have hkl := (List.getElem?_eq_some_iff.1 hk).1
        obtain ⟨y, hy⟩ : ∃ y, cp[k]? = some y := ⟨_, List.getElem?_eq_getElem (by have := hl.out; omega)⟩
        obtain ⟨b', o', cap', hve', -, hbl', hr'⟩ := r.out.at hy
        cases hve'
        rw [World.cell?_of_block (w := w) (hBW.block b hbl)]
        have hyn := hn.out k q y hk hy
        obtain ⟨y0, y1, y2, y3, y4, y5, rfl⟩ := arr6 (r.out.1 y (List.mem_of_getElem? hy))
        have hy0 : y0 = .string (st q.1) := by simpa using hyn
        subst hy0
        exact hr' 0 _ rfl
      have hu2 := hide1 hu
      have hcc := hide1 (fun W (hW : Below wo.heap.size wo W) => hc.out W (hBw.out.trans (hW.mono hBw.out.size)) i u _ hu hx)
      have hms := hide1 (all_snoc (f := fun q => Lib.validD q.1 && f q.2) hu hme.out)
      clear hve hr hx hme hu hbr hxn
      go_wp2_with fail
      go_loopw [7] (fun y wr => ∃ k : Nat, y = .int .i64 (k : Nat) ∧ k ≤ i ∧ Hid (u.1 ∉ (p.take k).map (·.1)) ∧ Hid (Below wo.heap.size wo wr)) (fun y _ => i - (intOf y).toNat)
      case atStart => exact ⟨0, rfl, by omega, hide1 (by simp), hide1 (Below.refl _ _)⟩
      case round =>
        obtain ⟨k, rfl, hki, hno, hbk⟩ := hrel
        obtain ⟨ci, hri, c4k⟩ := hcell.out wr hbk.out
        have hBk := hide1 (hBw.out.trans (hbk.out.mono hBw.out.size))
        clear c4
        by_cases hklt : k < i
        · obtain ⟨q, hq⟩ : ∃ q, p[k]? = some q := ⟨_, List.getElem?_eq_getElem (by have := hl.out; omega)⟩
          have ck := hother.out wr hbk.out k q hq
          have hkl : k < cp.length := by omega
          have hse := st_eq q.1 u.1
          by_cases he : q.1 = u.1
          · have heq : ((st q.1).toList == (st u.1).toList) = true := by rw [hse]; exact decide_eq_true he
            have hfin : Hid (∀ n, (Ending.returned (.bool false) : Ending) = .returned (.bool B) ∧ Below w.heap.size w (wr.drewN n)) := hide1 fun n => ⟨by rw [hB.out, dup_bad hu2.out hq hklt he, Bool.and_false], below_drewNv hBk.out n⟩
            clear hse he hB hno hbk hBk hms hcc hother hcell hq hri
            go_wp2_with fail
            go_quiet (fail)
            go_wp2
            go_ret
            exact hfin.out _
          · have heq : ((st q.1).toList == (st u.1).toList) = false := by rw [hse]; exact decide_eq_false he
            have hno2 : Hid (u.1 ∉ (p.take (k + 1)).map (·.1)) := hide1 (by
              rw [List.take_add_one, hq, List.map_append, Option.toList_some, List.map_cons, List.map_nil, List.mem_append]
              rintro (h | h)
              · exact hno.out h
              · simp at h; exact he h.symm)
            have hbk2 := hide1 (fun n => below_drewNv hbk.out n)
            clear hse he hno hbk hBk hq hri
            go_wp2_with fail
            go_quiet (fail)
            go_wp2
            go_roundw
            case rel => exact ⟨k + 1, rfl, by omega, hno2, hide1 (hbk2.out _)⟩
            case measure => simp [intOf]; omega
        · have hke : k = i := by omega
          subst hke
          have hnd2 := hide1 (nodup_snoc hu2.out hnd.out hno.out)
          have hv := valid_d (l := u.1) (w := wr)
          clear hno hnd hother hklt hki
          go_wp2_with fail
          refine hv.mono ?_
          rintro e w2 ⟨rfl, b2⟩
          have hb2 := hide1 (hbk.out.trans (b2.mono hbk.out.size))
          have hB2 := hide1 (hBk.out.trans (b2.mono hBk.out.size))
          obtain ⟨ci2, hri2, c4k2⟩ := hcell.out w2 hb2.out
          clear hv b2 ci hri c4k hbk hBk hcell
          cases hvd : Lib.validD u.1 with
          | false =>
            have hfin : Hid ((Ending.returned (.bool false) : Ending) = .returned (.bool B) ∧ Below w.heap.size w w2) := hide1 ⟨by rw [hB.out, all_of (hms.out.trans (by simp only [hvd, Bool.false_and])), Bool.false_and], hB2.out⟩
            clear hms hB hcc hri2 hb2 hB2
            go_wp2
            go_ret
            exact hfin.out
          | true =>
            have hcg := hcc.out w2 hb2.out
            replace hcg : Calls Tryz.prog 15 #[.agg #[x1, x2, x3, x4, x5], .int .i64 (D + 1)] w2 _ := hcg
            clear hcc
            have g0 : w2.cell? ⟨b, o + k * 6 + 1, none⟩ = some x1 := hri2 0 _ rfl
            have g1 : w2.cell? ⟨b, o + k * 6 + 1 + 1, none⟩ = some x2 := hri2 1 _ rfl
            have g2 : w2.cell? ⟨b, o + k * 6 + 1 + 2, none⟩ = some x3 := hri2 2 _ rfl
            have g3 : w2.cell? ⟨b, o + k * 6 + 1 + 3, none⟩ = some x4 := hri2 3 _ rfl
            have g4 : w2.cell? ⟨b, o + k * 6 + 1 + 4, none⟩ = some x5 := hri2 4 _ rfl
            go_wp2_with fail
            clear g0 g1 g2 g3 g4
            refine hcg.mono ?_
            rintro e w3 ⟨rfl, b3⟩
            have hb3 := hide1 (hbw.out.trans ((hb2.out.trans (b3.mono hb2.out.size)).mono hbw.out.size))
            have hB3 := hide1 (hB2.out.trans (b3.mono hB2.out.size))
            clear hcg b3 hri2 ci2 c4k2 hb2 hB2
            cases hgu : f u.2 with
            | false =>
              have hfin : Hid ((Ending.returned (.bool false) : Ending) = .returned (.bool B) ∧ Below w.heap.size w w3) := hide1 ⟨by rw [hB.out, all_of (hms.out.trans (by simp only [hgu, Bool.and_false])), Bool.false_and], hB3.out⟩
              clear hms hB
              go_wp2
              go_ret
              exact hfin.out
            | true =>
              replace hms := hide1 (hms.out.trans (show (Lib.validD u.1 && f u.2) = true by rw [hvd, hgu]; rfl))
              clear hvd hgu
              go_wp2
              go_roundw
              case rel => exact ⟨k + 1, rfl, by omega, hnd2, hms, hb3⟩
              case measure => simp [intOf]; omega
    · have hfin : Hid ((Ending.returned (.bool true) : Ending) = .returned (.bool B) ∧ Below w.heap.size w wr) := hide1 ⟨by
        have h1 := hme.out
        have h2 := hnd.out
        rw [List.take_of_length_le (by have := hl.out; omega)] at h1 h2
        rw [hB.out, h1]
        unfold onc
        rw [decide_eq_true h2]; rfl, hBw.out⟩
      have hie : i = cp.length := by omega
      subst hie
      clear hme hbw hlt hB hBw hbr hnd
      go_wp2
      go_ret
      exact hfin.out
/-- Is a value what some text is? (the reference) -/
def Gok (n : Nat) : Prop := ∀ {F : Nat → Prop} {w : World} {t : T} {c : List Value} {h : Nat}, hgt h t → VA F w t c → Calls Tryz.prog 15 #[.agg c.toArray, .int .i64 ((8 - n : Nat) : Int)] w fun e w' => e = .returned (.bool (gd n t)) ∧ Below w.heap.size w w'
theorem good_s {n : Nat} (hn : n ≤ 8) (ih : ∀ m, n = m + 1 → Gok m) : Gok n := by
  intro F w t c h hh hv
  cases h with
  | zero => exact hh.elim
  | succ h =>
  cases hv with
  | @mk k i s l p sl sp cl cp r1 r2 e1 e2 hl hp1 hp2 =>
    obtain ⟨b1, b2, hh1, hh2⟩ := hh
    obtain ⟨sa, sc, rfl⟩ := r1.slc
    obtain ⟨pa, pc, rfl⟩ := r2.slc
    have hfl : ∀ m, gd m (.mk k i s l p) = false → gd m (.mk k i s l p) = false := fun _ h => h
    have spf : spB k i s l.length p.length = true → gd n (.mk k i s l p) = false := fun h => by unfold gd; rw [h]; rfl
    by_cases kn : k < 0
    · rw [show gd n (.mk k i s l p) = false by unfold gd; rw [if_neg (by omega), if_neg (by omega), if_neg (by omega), if_neg (by omega), if_neg (by omega), if_neg (by omega), Bool.and_false]]
      exact gr_neg kn
    by_cases kb : 5 < k
    · rw [show gd n (.mk k i s l p) = false by unfold gd; rw [if_neg (by omega), if_neg (by omega), if_neg (by omega), if_neg (by omega), if_neg (by omega), if_neg (by omega), Bool.and_false]]
      exact gr_big kb
    have hk : k = 0 ∨ k = 1 ∨ k = 2 ∨ k = 3 ∨ k = 4 ∨ k = 5 := by omega
    clear kn kb hfl
    by_cases hs : s = []
    case neg =>
      by_cases k3 : k = 3
      · subst k3
        by_cases hl0 : cl.length = 0
        case neg =>
          rw [spf (spB_3 ⟨by omega, by omega⟩)]
          exact gr_3l (by omega)
        by_cases hp0 : cp.length = 0
        case neg =>
          rw [spf (spB_4 ⟨by omega, by omega⟩)]
          exact gr_3p hl0 (by omega)
        by_cases hi : i = 0
        case neg =>
          rw [spf (spB_1 ⟨hi, by omega, by omega⟩)]
          exact gr_3i hl0 hp0 hi
        have e : gd n (.mk 3 i s l p) = Lib.validD s := by
          unfold gd
          rw [spB_f (by omega) (fun h => h.2 rfl) (by omega) (by omega)]
          rfl
        rw [e]
        cases hv : Lib.validD s with
        | true => exact gr_3t hl0 hp0 hi hv
        | false => exact gr_3n hl0 hp0 hi hv
      · rw [spf (spB_2 ⟨hs, k3⟩)]
        rcases hk with rfl | rfl | rfl | rfl | rfl | rfl
        · by_cases hl0 : cl.length = 0
          · by_cases hp0 : cp.length = 0
            · exact gr_0s hl0 hp0 hs
            · exact gr_0p hl0 (by omega)
          · exact gr_0l (by omega)
        · by_cases hl0 : cl.length = 0
          · by_cases hp0 : cp.length = 0
            · exact gr_1s hl0 hp0 hs
            · exact gr_1p hl0 (by omega)
          · exact gr_1l (by omega)
        · by_cases hl0 : cl.length = 0
          · by_cases hp0 : cp.length = 0
            · exact gr_2s hl0 hp0 hs
            · exact gr_2p hl0 (by omega)
          · exact gr_2l (by omega)
        · exact absurd rfl k3
        · by_cases hp0 : cp.length = 0
          · exact gr_4s hp0 hs
          · exact gr_4p (by omega)
        · by_cases hl0 : cl.length = 0
          · exact gr_5s hl0 hs
          · exact gr_5l (by omega)
    case pos =>
    rcases hk with rfl | rfl | rfl | rfl | rfl | rfl
    · by_cases hl0 : cl.length = 0
      case neg => rw [spf (spB_3 ⟨by omega, by omega⟩)]; exact gr_0l (by omega)
      by_cases hp0 : cp.length = 0
      case neg => rw [spf (spB_4 ⟨by omega, by omega⟩)]; exact gr_0p hl0 (by omega)
      by_cases hi : i = 0
      case neg => rw [spf (spB_1 ⟨hi, by omega, by omega⟩)]; exact gr_0i hl0 hp0 hs hi
      have e : gd n (.mk 0 i s l p) = true := by
        unfold gd
        rw [spB_f (by omega) (fun h => h.1 hs) (by omega) (by omega)]
        rfl
      rw [e]
      exact gr_0t hl0 hp0 hs hi
    · by_cases hl0 : cl.length = 0
      case neg => rw [spf (spB_3 ⟨by omega, by omega⟩)]; exact gr_1l (by omega)
      by_cases hp0 : cp.length = 0
      case neg => rw [spf (spB_4 ⟨by omega, by omega⟩)]; exact gr_1p hl0 (by omega)
      have e : gd n (.mk 1 i s l p) = decide (i = 0 ∨ i = 1) := by
        unfold gd
        rw [spB_f (by omega) (fun h => h.1 hs) (by omega) (by omega)]
        rfl
      rw [e]
      by_cases i0 : i = 0
      · subst i0
        exact gr_10 hl0 hp0 hs
      · by_cases i1 : i = 1
        · subst i1
          exact gr_11 hl0 hp0 hs
        · rw [decide_eq_false (by omega)]
          exact gr_1n hl0 hp0 hs i0 i1
    · by_cases hl0 : cl.length = 0
      case neg => rw [spf (spB_3 ⟨by omega, by omega⟩)]; exact gr_2l (by omega)
      by_cases hp0 : cp.length = 0
      case neg => rw [spf (spB_4 ⟨by omega, by omega⟩)]; exact gr_2p hl0 (by omega)
      have e : gd n (.mk 2 i s l p) = inR i := by
        unfold gd
        rw [spB_f (by omega) (fun h => h.1 hs) (by omega) (by omega)]
        rfl
      rw [e]
      by_cases h1 : i < -9007199254740991
      · rw [show inR i = false from decide_eq_false (by omega)]
        exact gr_2a hl0 hp0 hs h1
      · by_cases h2 : i > 9007199254740991
        · rw [show inR i = false from decide_eq_false (by omega)]
          exact gr_2b hl0 hp0 hs h2
        · rw [show inR i = true from decide_eq_true (by omega)]
          exact gr_2t hl0 hp0 hs (by omega) (by omega)
    · by_cases hl0 : cl.length = 0
      case neg => rw [spf (spB_3 ⟨by omega, by omega⟩)]; exact gr_3l (by omega)
      by_cases hp0 : cp.length = 0
      case neg => rw [spf (spB_4 ⟨by omega, by omega⟩)]; exact gr_3p hl0 (by omega)
      by_cases hi : i = 0
      case neg => rw [spf (spB_1 ⟨hi, by omega, by omega⟩)]; exact gr_3i hl0 hp0 hi
      have e : gd n (.mk 3 i s l p) = Lib.validD s := by
        unfold gd
        rw [spB_f (by omega) (fun h => h.2 rfl) (by omega) (by omega)]
        rfl
      rw [e]
      cases hv : Lib.validD s with
      | true => exact gr_3t hl0 hp0 hi hv
      | false => exact gr_3n hl0 hp0 hi hv
    · by_cases hp0 : cp.length = 0
      case neg => rw [spf (spB_4 ⟨by omega, by omega⟩)]; exact gr_4p (by omega)
      by_cases hi : i = 0
      case neg => rw [spf (spB_1 ⟨hi, by omega, by omega⟩)]; exact gr_4i hp0 hs hi
      cases n with
      | zero =>
        rw [show gd 0 (.mk 4 i s l p) = false by unfold gd; rw [spB_f (by omega) (fun h => h.1 hs) (by omega) (by omega)]; rfl]
        exact gr_4d hp0 hs hi (by omega)
      | succ n =>
        rw [show gd (n + 1) (.mk 4 i s l p) = l.all (gd n) by unfold gd; rw [spB_f (by omega) (fun h => h.1 hs) (by omega) (by omega)]; rfl]
        subst hi hs
        have hq := gr_4 (D := ((8 - (n + 1) : Nat) : Int)) (f := gd n) (F := F) (sa := sa) (pa := pa) (l := l) (cl := cl) (sc := sc) (pc := pc) (w := w) (by omega) (by omega) r1 e1 (by omega) (fun w2 hb j t c h1 h2 => by
          rw [show ((8 - (n + 1) : Nat) : Int) + 1 = ((8 - n : Nat) : Int) by omega]
          exact ih n rfl (hh1 t (List.mem_of_getElem? h1)) ((hl j t c h1 h2).frame (w' := w2) (G := F) (fun j _ hj => hb.block j hj) (fun _ h _ => h)))
        rw [← hp0] at hq
        exact hq
    · by_cases hl0 : cl.length = 0
      case neg => rw [spf (spB_3 ⟨by omega, by omega⟩)]; exact gr_5l (by omega)
      by_cases hi : i = 0
      case neg => rw [spf (spB_1 ⟨hi, by omega, by omega⟩)]; exact gr_5i hl0 hs hi
      cases n with
      | zero =>
        rw [show gd 0 (.mk 5 i s l p) = false by unfold gd; rw [spB_f (by omega) (fun h => h.1 hs) (by omega) (by omega)]; rfl]
        exact gr_5d hl0 hs hi (by omega)
      | succ n =>
        have e5 : gd (n + 1) (.mk 5 i s l p) = (p.all (fun q => Lib.validD q.1 && gd n q.2) && onc (p.map (·.1))) := by
          conv => lhs; unfold gd
          rw [spB_f (by omega) (fun h => h.1 hs) (by omega) (by omega)]
          rfl
        rw [e5]
        subst hi hs
        have hq := gr_5 (D := ((8 - (n + 1) : Nat) : Int)) (f := gd n) (F := F) (sa := sa) (pa := pa) (p := p) (cp := cp) (sc := sc) (pc := pc) (w := w) (by omega) (by omega) r2 e2 (by omega) hp1 (fun w2 hb j q c h1 h2 => by
          rw [show ((8 - (n + 1) : Nat) : Int) + 1 = ((8 - n : Nat) : Int) by omega]
          exact ih n rfl (hh2 q (List.mem_of_getElem? h1)) ((hp2 j q c h1 h2).frame (w' := w2) (G := F) (fun j _ hj => hb.block j hj) (fun _ h _ => h)))
        rw [← hl0] at hq
        exact hq
theorem good_d : ∀ n, n ≤ 8 → Gok n
  | 0, h => good_s h fun m e => by cases e
  | n + 1, h => good_s h fun m e => by cases e; exact good_d n (by omega)
end Go.Proofs.YtkkgcbaofdejjaaGreatDoor

namespace Go.Proofs.YtkkgcbaofdejjaaGreatDoor
open Go.RowKit

theorem nl_t (w : World) : (binOp .eql 30 .nilIface .nilIface).run Tryz.prog w = .ok (.bool true) w := by kernel_rfl
theorem nl_f {t : TypeId} {v : Value} (w : World) : (binOp .eql 30 (.iface t v) .nilIface).run Tryz.prog w = .ok (.bool false) w := by kernel_rfl
theorem eg_nl {x : Operand} (w : World) : (eqGuard .eql 30 x (.const .nilIface) .nilIface .nilIface).run Tryz.prog w = .ok () w := by cases x <;> kernel_rfl
theorem eg_nf {x : Operand} {t : TypeId} {v : Value} (w : World) : (eqGuard .eql 30 x (.const .nilIface) (.iface t v) .nilIface).run Tryz.prog w = .ok () w := by kernel_rfl
theorem eq_b (a b : Bool) (w : World) : (binOp .eql 4 (.bool a) (.bool b)).run Tryz.prog w = .ok (.bool (a == b)) w := by cases a <;> cases b <;> kernel_rfl
theorem eg_b {x u : Operand} (a b : Bool) (w : World) : (eqGuard .eql 4 x u (.bool a) (.bool b)).run Tryz.prog w = .ok () w := by
  simp [eqGuard, go_sem]
end Go.Proofs.YtkkgcbaofdejjaaGreatDoor

namespace Go.Proofs.YtkkgcbaofdejjaaGreatDoor
open Go.RowKit

set_option maxHeartbeats 16000000 in
set_option maxRecDepth 100000 in
theorem eqs_walk {w : World} {t t' : T} {c c' : Array Value} (hv : VA (· < w.heap.size) w t c.toList) (hsb : ∀ n, sbd n t) (hv' : VA (· < w.heap.size) w t' c'.toList) (hsb' : ∀ n, sbd n t') (hT : Ev w) (h8 : 8 ≤ w.heap.size) :
    Calls Tryz.prog 4 #[.agg c, .agg c'] w fun e w' => e = .returned (.bool true) ∧ Below w.heap.size w w' := by
  have hone := hv.one
  have hone' := hv'.one
  obtain ⟨h, hht⟩ := hv.ht
  obtain ⟨h', hht'⟩ := hv'.ht
  obtain ⟨y0, y1, y2, y3, y4, hc⟩ := five_l hv.len
  obtain rfl : c = #[y0, y1, y2, y3, y4] := by cases c; simp at hc; simp [hc]
  obtain ⟨z0, z1, z2, z3, z4, hc'⟩ := five_l hv'.len
  obtain rfl : c' = #[z0, z1, z2, z3, z4] := by cases c'; simp at hc'; simp [hc']
  obtain ⟨w1, hw1⟩ : ∃ w1, w1 = (w.alloc (.cells #[y0, y1, y2, y3, y4] 28)).alloc (.cells #[z0, z1, z2, z3, z4] 28) := ⟨_, rfl⟩
  have hb1 : Below w.heap.size w w1 := by rw [hw1]; exact (below_al _).alloc (by simp) _
  have hbx : w1.heap[w.heap.size]? = some (.cells #[y0, y1, y2, y3, y4] 28 (0, 0)) := by
    rw [hw1]
    show ((w.heap.push _).push _)[w.heap.size]? = _
    rw [Array.getElem?_push, if_neg (by simp), Array.getElem?_push, if_pos rfl]
  have hby : w1.heap[w.heap.size + 1]? = some (.cells #[z0, z1, z2, z3, z4] 28 (0, 0)) := by
    rw [hw1]
    show ((w.heap.push _).push _)[w.heap.size + 1]? = _
    rw [Array.getElem?_push, if_pos (by simp)]
  have hs1 : w1.heap.size = w.heap.size + 2 := by rw [hw1]; simp
  have hal := alive_j (hT.below hb1 (by omega)) (by omega)
  have hvf : Hid (∀ W, Below w.heap.size w W → VA (· < w.heap.size) W t [y0, y1, y2, y3, y4]) := hide1 fun W hW => VA.frame (c := [y0, y1, y2, y3, y4]) hv (fun j _ hj => hW.block j hj) (fun _ h _ => h)
  have hvf' : Hid (∀ W, Below w.heap.size w W → VA (· < w.heap.size) W t' [z0, z1, z2, z3, z4]) := hide1 fun W hW => VA.frame (c := [z0, z1, z2, z3, z4]) hv' (fun j _ hj => hW.block j hj) (fun _ h _ => h)
  have hld : Hid (∀ W, Below w1.heap.size w1 W → W.rangeAt w.heap.size 0 [y0, y1, y2, y3, y4]) := hide1 fun W hW j v hj => by
    have := (hW.block w.heap.size (by omega)).trans hbx
    simp only [World.cell?, this]
    rw [Nat.zero_add]
    simpa using hj
  have hld' : Hid (∀ W, Below w1.heap.size w1 W → W.rangeAt (w.heap.size + 1) 0 [z0, z1, z2, z3, z4]) := hide1 fun W hW j v hj => by
    have := (hW.block (w.heap.size + 1) (by omega)).trans hby
    simp only [World.cell?, this]
    rw [Nat.zero_add]
    simpa using hj
  replace hb1 := hide1 hb1
  replace hT := hide1 hT
  replace hone := hide1 hone
  replace hone' := hide1 hone'
  replace hht := hide1 hht
  replace hht' := hide1 hht'
  replace hs1 := hide1 hs1
  replace h8 := hide1 h8
  clear hv hc hbx hv' hc' hby
  go_enter Tryz.func4, Tryz.ntmps4
  go_wp2_with fail
  rw [← hw1]
  refine hal.mono ?_
  rintro e w2 ⟨rfl, b2⟩
  have hB2 := hide1 (hb1.out.trans (b2.mono hb1.out.size))
  have hL2 := hld.out w2 b2
  have hmn := many_d h (c := [y0, y1, y2, y3, y4]) (k := 300) hht.out (by omega) (hvf.out w2 hB2.out)
  replace b2 := hide1 b2
  clear hal hw1
  go_wp2_with (refine wpList_load_mid rfl 28 (.tmp 2) rfl w.heap.size 0 rfl [y0, y1, y2, y3, y4] _ hL2 Tryz.underlying28 rfl (by kernel_rfl) ?_)
  refine hmn.mono ?_
  rintro e w3 ⟨rfl, b3⟩
  have hB3 := hide1 (hB2.out.trans (b3.mono hB2.out.size))
  have b13 := b2.out.trans (b3.mono b2.out.size)
  have hL3 := hld'.out w3 b13
  have hmn' := many_d h' (c := [z0, z1, z2, z3, z4]) (k := 300) hht'.out (by omega) (hvf'.out w3 hB3.out)
  replace b13 := hide1 b13
  obtain ⟨mn, hmne⟩ : ∃ mn, Hid (mn = mny h t 300) := ⟨_, hide1 rfl⟩
  rw [← hmne.out]
  clear hmn hL2 b2 b3
  by_cases hM : 300 < mn
  · clear hmn' hL3
    go_wp2
    go_ret
    exact ⟨rfl, hB3.out⟩
  have m0 : w3.cell? ⟨w.heap.size + 1, 0, none⟩ = some z0 := by have := hL3 0 z0 rfl; simpa using this
  have m1 : w3.cell? ⟨w.heap.size + 1, 1, none⟩ = some z1 := by have := hL3 1 z1 rfl; simpa using this
  have m2 : w3.cell? ⟨w.heap.size + 1, 2, none⟩ = some z2 := by have := hL3 2 z2 rfl; simpa using this
  have m3 : w3.cell? ⟨w.heap.size + 1, 3, none⟩ = some z3 := by have := hL3 3 z3 rfl; simpa using this
  have m4 : w3.cell? ⟨w.heap.size + 1, 4, none⟩ = some z4 := by have := hL3 4 z4 rfl; simpa using this
  clear hL3
  go_wp2_with fail
  refine hmn'.mono ?_
  rintro e w4 ⟨rfl, b4⟩
  have hB4 := hide1 (hB3.out.trans (b4.mono hB3.out.size))
  have b14 := hide1 (b13.out.trans (b4.mono b13.out.size))
  obtain ⟨mn', hmne'⟩ : ∃ mn, Hid (mn = mny h' t' 300) := ⟨_, hide1 rfl⟩
  rw [← hmne'.out]
  clear hmn' m0 m1 m2 m3 m4 b4 b13 hB2 hB3
  by_cases hM' : 300 < mn'
  · go_wp2
    go_ret
    exact ⟨rfl, hB4.out⟩
  have hgt0 := hide1 (mny_hgt hht.out (show 300 ≤ 1000000 by omega) (by rw [← hmne.out]; omega))
  have hgt0' := hide1 (mny_hgt hht'.out (show 300 ≤ 1000000 by omega) (by rw [← hmne'.out]; omega))
  have hga0 : Hid (∀ W, Below w.heap.size w W → Calls Tryz.prog 15 #[.agg #[y0, y1, y2, y3, y4], .int .i64 0] W fun e w' => e = .returned (.bool (gd 8 t)) ∧ Below W.heap.size W w') := hide1 fun W hW => good_d 8 (by omega) (c := [y0, y1, y2, y3, y4]) hgt0.out (hvf.out W hW)
  have hgb0 : Hid (∀ W, Below w.heap.size w W → Calls Tryz.prog 15 #[.agg #[z0, z1, z2, z3, z4], .int .i64 0] W fun e w' => e = .returned (.bool (gd 8 t')) ∧ Below W.heap.size W w') := hide1 fun W hW => good_d 8 (by omega) (c := [z0, z1, z2, z3, z4]) hgt0'.out (hvf'.out W hW)
  have hab0 : Hid (∀ W, Below w.heap.size w W → Calls Tryz.prog 16 #[.agg #[y0, y1, y2, y3, y4], .agg #[z0, z1, z2, z3, z4]] W fun e w' => e = .returned (.bool (gd 8 t && (gd 8 t' && smB 9 t t'))) ∧ Below W.heap.size W w') := hide1 fun W hW => equal_d (c := [y0, y1, y2, y3, y4]) (c' := [z0, z1, z2, z3, z4]) hgt0.out hgt0'.out (hsb _) (hsb' _) (hvf.out W hW) (hvf'.out W hW) (hT.out.below hW h8.out) (by have := hW.size; have := h8.out; omega)
  have hba0 : Hid (∀ W, Below w.heap.size w W → Calls Tryz.prog 16 #[.agg #[z0, z1, z2, z3, z4], .agg #[y0, y1, y2, y3, y4]] W fun e w' => e = .returned (.bool (gd 8 t' && (gd 8 t && smB 9 t' t))) ∧ Below W.heap.size W w') := hide1 fun W hW => equal_d (c' := [y0, y1, y2, y3, y4]) (c := [z0, z1, z2, z3, z4]) hgt0'.out hgt0.out (hsb' _) (hsb _) (hvf'.out W hW) (hvf.out W hW) (hT.out.below hW h8.out) (by have := hW.size; have := h8.out; omega)
  have haa0 : Hid (∀ W, Below w.heap.size w W → Calls Tryz.prog 16 #[.agg #[y0, y1, y2, y3, y4], .agg #[y0, y1, y2, y3, y4]] W fun e w' => e = .returned (.bool (gd 8 t && (gd 8 t && smB 9 t t))) ∧ Below W.heap.size W w') := hide1 fun W hW => equal_d (c := [y0, y1, y2, y3, y4]) (c' := [y0, y1, y2, y3, y4]) hgt0.out hgt0.out (hsb _) (hsb _) (hvf.out W hW) (hvf.out W hW) (hT.out.below hW h8.out) (by have := hW.size; have := h8.out; omega)
  have hsm0 : Hid (gd 8 t = true → gd 8 t' = true → ∀ W, Below w.heap.size w W → Calls Tryz.prog 17 #[.agg #[y0, y1, y2, y3, y4], .agg #[z0, z1, z2, z3, z4]] W fun e w' => e = .returned (.bool (smB 9 t t')) ∧ Below W.heap.size W w') := hide1 fun g g' W hW => sokr 8 (c := [y0, y1, y2, y3, y4]) (c' := [z0, z1, z2, z3, z4]) g g' hgt0.out hgt0'.out (hvf.out W hW) (hvf'.out W hW)
  have hE2 : (gd 8 t && (gd 8 t && smB 9 t t)) = gd 8 t := by
    cases g : gd 8 t with
    | false => rfl
    | true => rw [smB_refl 8 t g]; rfl
  have hE3 : (gd 8 t' && (gd 8 t && smB 9 t' t)) = (gd 8 t && (gd 8 t' && smB 9 t t')) := by
    cases g : gd 8 t with
    | false => simp
    | true =>
      cases g' : gd 8 t' with
      | false => rfl
      | true => rw [smB_comm g g']
  rw [hE2] at haa0
  rw [hE3] at hba0
  clear hE2 hE3 hmne hmne' hgt0 hgt0' hht hht' hsb hsb' hone hone'
  generalize smB 9 t t' = S at *
  generalize gd 8 t = Y at *
  generalize gd 8 t' = Z at *
  have hL4 := hld.out w4 b14.out
  have hg4 := hga0.out w4 hB4.out
  go_wp2_with (refine wpList_load_mid rfl 28 (.tmp 2) rfl w.heap.size 0 rfl [y0, y1, y2, y3, y4] _ hL4 Tryz.underlying28 rfl (by kernel_rfl) ?_)
  refine hg4.mono ?_
  rintro e w5 ⟨rfl, b5⟩
  have hB5 := hide1 (hB4.out.trans (b5.mono hB4.out.size))
  have b15 := hide1 (b14.out.trans (b5.mono b14.out.size))
  clear hL4 hg4 b5 hB4 b14
  have step : ∀ (w6 : World) (G : Bool), Hid (Below w.heap.size w w6) → Hid (Below w1.heap.size w1 w6) → G = (Y && Z) → True := fun _ _ _ _ _ => trivial
  clear step
  cases Y with
  | false =>
    have hlda : Hid (∀ W, Below w5.heap.size w5 W → W.rangeAt w.heap.size 0 [y0, y1, y2, y3, y4]) := hide1 fun W hW => hld.out W (b15.out.trans (hW.mono b15.out.size))
    have hldb : Hid (∀ W, Below w5.heap.size w5 W → W.rangeAt (w.heap.size + 1) 0 [z0, z1, z2, z3, z4]) := hide1 fun W hW => hld'.out W (b15.out.trans (hW.mono b15.out.size))
    have hab : Hid (∀ W, Below w5.heap.size w5 W → Calls Tryz.prog 16 #[.agg #[y0, y1, y2, y3, y4], .agg #[z0, z1, z2, z3, z4]] W fun e w' => e = .returned (.bool (false)) ∧ Below W.heap.size W w') := hide1 fun W hW => hab0.out W (hB5.out.trans (hW.mono hB5.out.size))
    have hba : Hid (∀ W, Below w5.heap.size w5 W → Calls Tryz.prog 16 #[.agg #[z0, z1, z2, z3, z4], .agg #[y0, y1, y2, y3, y4]] W fun e w' => e = .returned (.bool (false)) ∧ Below W.heap.size W w') := hide1 fun W hW => hba0.out W (hB5.out.trans (hW.mono hB5.out.size))
    have haa : Hid (∀ W, Below w5.heap.size w5 W → Calls Tryz.prog 16 #[.agg #[y0, y1, y2, y3, y4], .agg #[y0, y1, y2, y3, y4]] W fun e w' => e = .returned (.bool (false)) ∧ Below W.heap.size W w') := hide1 fun W hW => haa0.out W (hB5.out.trans (hW.mono hB5.out.size))
    have hga : Hid (∀ W, Below w5.heap.size w5 W → Calls Tryz.prog 15 #[.agg #[y0, y1, y2, y3, y4], .int .i64 0] W fun e w' => e = .returned (.bool (false)) ∧ Below W.heap.size W w') := hide1 fun W hW => hga0.out W (hB5.out.trans (hW.mono hB5.out.size))
    clear hga0 hgb0 hab0 hba0 haa0 hsm0 hld hld' hvf hvf' b15 hM hM'
    obtain ⟨Y, hY⟩ : ∃ Y, Y = false := ⟨_, rfl⟩
    rw [← hY] at haa hga
    replace hY := hide1 hY
    go_upto_region 6 with fail
    refine wp_flowG 27 _ _ (by kernel_rfl) (by kernel_rfl) (by kernel_rfl) rfl (fun j v _ => v = ([(.agg #[y0, y1, y2, y3, y4]), (.agg #[z0, z1, z2, z3, z4]), (.bool false), (.bool false), (.bool false), undef, undef, undef, (.bool false), (.bool true), (.bool true), (.agg #[y0, y1, y2, y3, y4]), (.agg #[y0, y1, y2, y3, y4]), (.bool Y), (.agg #[y0, y1, y2, y3, y4]), (.bool Y), (.bool true), (.bool true), (.bool true), (.agg #[z0, z1, z2, z3, z4]), (.agg #[y0, y1, y2, y3, y4]), (.bool false), (.agg #[y0, y1, y2, y3, y4]), (.agg #[z0, z1, z2, z3, z4]), (.bool false), (.bool true), (.bool true), (.bool true)] : List Value).getD j undef) (fun _ _ _ _ h _ => h) ?_ ?_
    · intro j op hop hj a wa hwa hsz hsl hdep K hK
      match j, hop with
      | 0, hop =>
        obtain rfl := Option.some.inj hop
        have p2 : a.tmps.getD 2 undef = (.pointer (some ⟨w.heap.size, 0, none⟩)) := hsl 2 rfl
        exact .plain rfl (wp_val (w' := wa) (v := (.agg #[y0, y1, y2, y3, y4])) (by simp only [execOp, Act.eval]; rw [show a.tmps.getD 2 undef = _ from p2]; simp only [Sem.run_bind, ld_mV (hlda.out wa hwa), Result.andThen_ok, Sem.run_pure]) (hK _ _ (Below.refl _ _) rfl))
      | 1, hop =>
        obtain rfl := Option.some.inj hop
        have p3 : a.tmps.getD 3 undef = (.pointer (some ⟨w.heap.size + 1, 0, none⟩)) := hsl 3 rfl
        exact .plain rfl (wp_val (w' := wa) (v := (.agg #[z0, z1, z2, z3, z4])) (by simp only [execOp, Act.eval]; rw [show a.tmps.getD 3 undef = _ from p3]; simp only [Sem.run_bind, ld_mV (hldb.out wa hwa), Result.andThen_ok, Sem.run_pure]) (hK _ _ (Below.refl _ _) rfl))
      | 2, hop =>
        obtain rfl := Option.some.inj hop
        have t0 : a.tmps.getD 22 undef = (.agg #[y0, y1, y2, y3, y4]) := hdep 0 _ 22 rfl rfl ⟨⟨0, .data⟩, by simp, rfl, rfl⟩
        have t1 : a.tmps.getD 23 undef = (.agg #[z0, z1, z2, z3, z4]) := hdep 1 _ 23 rfl rfl ⟨⟨1, .data⟩, by simp, rfl, rfl⟩
        refine .plain rfl (oper_any (J := fun r w' => r = (.bool false) ∧ Below wa.heap.size wa w') 16 #[.tmp 22, .tmp 23] _ rfl #[(.agg #[y0, y1, y2, y3, y4]), (.agg #[z0, z1, z2, z3, z4])] (by simp only [List.map_toArray, List.map_cons, List.map_nil, Act.eval]; rw [show a.tmps.getD 22 undef = _ from t0, show a.tmps.getD 23 undef = _ from t1]) (fun w => by kernel_rfl) ((hab.out wa hwa).mono fun e w' h => ⟨_, h.1, rfl, h.2⟩) ?_)
        rintro r w' ⟨rfl, hb⟩
        exact hK _ _ hb rfl
      | 3, hop =>
        obtain rfl := Option.some.inj hop
        have p5 : a.tmps.getD 5 undef = (.bool false) := hsl 5 rfl
        exact .plain rfl (wp_val (w' := wa) (v := (.bool false)) (by simp only [execOp, Act.eval]; rw [show a.tmps.getD 5 undef = _ from p5]; rfl) (hK _ _ (Below.refl _ _) rfl))
      | 4, hop =>
        obtain rfl := Option.some.inj hop
        have t3 : a.tmps.getD 25 undef = (.bool false) := hdep 3 _ 25 rfl rfl ⟨⟨3, .data⟩, by simp, rfl, rfl⟩
        exact .plain rfl (wp_val (w' := wa) (v := (.bool false)) (by simp only [execOp, Act.eval]; rw [show a.tmps.getD 25 undef = _ from t3]; rfl) (hK _ _ (Below.refl _ _) rfl))
      | 5, hop =>
        obtain rfl := Option.some.inj hop
        have gg : a.tmps.getD 26 undef = (.bool false) := hdep 4 _ 26 rfl rfl ⟨⟨4, .guard⟩, by simp, rfl, rfl⟩
        exact .skip rfl rfl (by rw [hsz]; simp) gg (hK _ _ (Below.refl _ _) rfl)
      | 6, hop =>
        obtain rfl := Option.some.inj hop
        have gg : a.tmps.getD 26 undef = (.bool false) := hdep 4 _ 26 rfl rfl ⟨⟨4, .guard⟩, by simp, rfl, rfl⟩
        exact .skip rfl rfl (by rw [hsz]; simp) gg (hK _ _ (Below.refl _ _) rfl)
      | 7, hop =>
        obtain rfl := Option.some.inj hop
        have gg : a.tmps.getD 26 undef = (.bool false) := hdep 4 _ 26 rfl rfl ⟨⟨4, .guard⟩, by simp, rfl, rfl⟩
        exact .skip rfl rfl (by rw [hsz]; simp) gg (hK _ _ (Below.refl _ _) rfl)
      | 8, hop =>
        obtain rfl := Option.some.inj hop
        have t4 : a.tmps.getD 26 undef = (.bool false) := hdep 4 _ 26 rfl rfl ⟨⟨4, .data⟩, by simp, rfl, rfl⟩
        have t7 : a.tmps.getD 29 undef = undef := hdep 7 _ 29 rfl rfl ⟨⟨7, .data⟩, by simp, rfl, rfl⟩
        exact .plain rfl (wp_val (w' := wa) (v := (.bool false)) (by simp only [execOp, Act.eval]; rw [show a.tmps.getD 26 undef = _ from t4, show a.tmps.getD 29 undef = _ from t7]; rfl) (hK _ _ (Below.refl _ _) rfl))
      | 9, hop =>
        obtain rfl := Option.some.inj hop
        have t2 : a.tmps.getD 24 undef = (.bool false) := hdep 2 _ 24 rfl rfl ⟨⟨2, .data⟩, by simp, rfl, rfl⟩
        have t8 : a.tmps.getD 30 undef = (.bool false) := hdep 8 _ 30 rfl rfl ⟨⟨8, .data⟩, by simp, rfl, rfl⟩
        exact .plain rfl (wp_val (w' := wa) (v := (.bool true)) (by simp only [execOp, Act.eval]; rw [show a.tmps.getD 24 undef = _ from t2, show a.tmps.getD 30 undef = _ from t8]; simp only [Sem.run_bind, eg_b, eq_b, Result.andThen_ok, Sem.run_pure, beq_self_eq_true]) (hK _ _ (Below.refl _ _) rfl))
      | 10, hop =>
        obtain rfl := Option.some.inj hop
        have t9 : a.tmps.getD 31 undef = (.bool true) := hdep 9 _ 31 rfl rfl ⟨⟨9, .data⟩, by simp, rfl, rfl⟩
        exact .plain rfl (wp_val (w' := wa) (v := (.bool true)) (by simp only [execOp, Act.eval]; rw [show a.tmps.getD 31 undef = _ from t9]; rfl) (hK _ _ (Below.refl _ _) rfl))
      | 11, hop =>
        obtain rfl := Option.some.inj hop
        have gg : a.tmps.getD 32 undef = (.bool true) := hdep 10 _ 32 rfl rfl ⟨⟨10, .guard⟩, by simp, rfl, rfl⟩
        have p2 : a.tmps.getD 2 undef = (.pointer (some ⟨w.heap.size, 0, none⟩)) := hsl 2 rfl
        exact .want rfl rfl (by rw [hsz]; simp) gg (wp_val (w' := wa) (v := (.agg #[y0, y1, y2, y3, y4])) (by simp only [execOp, Act.eval]; rw [show a.tmps.getD 2 undef = _ from p2]; simp only [Sem.run_bind, ld_mV (hlda.out wa hwa), Result.andThen_ok, Sem.run_pure]) (hK _ _ (Below.refl _ _) rfl))
      | 12, hop =>
        obtain rfl := Option.some.inj hop
        have gg : a.tmps.getD 32 undef = (.bool true) := hdep 10 _ 32 rfl rfl ⟨⟨10, .guard⟩, by simp, rfl, rfl⟩
        have p2 : a.tmps.getD 2 undef = (.pointer (some ⟨w.heap.size, 0, none⟩)) := hsl 2 rfl
        exact .want rfl rfl (by rw [hsz]; simp) gg (wp_val (w' := wa) (v := (.agg #[y0, y1, y2, y3, y4])) (by simp only [execOp, Act.eval]; rw [show a.tmps.getD 2 undef = _ from p2]; simp only [Sem.run_bind, ld_mV (hlda.out wa hwa), Result.andThen_ok, Sem.run_pure]) (hK _ _ (Below.refl _ _) rfl))
      | 13, hop =>
        obtain rfl := Option.some.inj hop
        have gg : a.tmps.getD 32 undef = (.bool true) := hdep 10 _ 32 rfl rfl ⟨⟨10, .guard⟩, by simp, rfl, rfl⟩
        have t11 : a.tmps.getD 33 undef = (.agg #[y0, y1, y2, y3, y4]) := hdep 11 _ 33 rfl rfl ⟨⟨11, .data⟩, by simp, rfl, rfl⟩
        have t12 : a.tmps.getD 34 undef = (.agg #[y0, y1, y2, y3, y4]) := hdep 12 _ 34 rfl rfl ⟨⟨12, .data⟩, by simp, rfl, rfl⟩
        refine .want rfl rfl (by rw [hsz]; simp) gg (oper_any (J := fun r w' => r = (.bool Y) ∧ Below wa.heap.size wa w') 16 #[.tmp 33, .tmp 34] _ rfl #[(.agg #[y0, y1, y2, y3, y4]), (.agg #[y0, y1, y2, y3, y4])] (by simp only [List.map_toArray, List.map_cons, List.map_nil, Act.eval]; rw [show a.tmps.getD 33 undef = _ from t11, show a.tmps.getD 34 undef = _ from t12]) (fun w => by kernel_rfl) ((haa.out wa hwa).mono fun e w' h => ⟨_, h.1, rfl, h.2⟩) ?_)
        rintro r w' ⟨rfl, hb⟩
        exact hK _ _ hb rfl
      | 14, hop =>
        obtain rfl := Option.some.inj hop
        have gg : a.tmps.getD 32 undef = (.bool true) := hdep 10 _ 32 rfl rfl ⟨⟨10, .guard⟩, by simp, rfl, rfl⟩
        have p2 : a.tmps.getD 2 undef = (.pointer (some ⟨w.heap.size, 0, none⟩)) := hsl 2 rfl
        exact .want rfl rfl (by rw [hsz]; simp) gg (wp_val (w' := wa) (v := (.agg #[y0, y1, y2, y3, y4])) (by simp only [execOp, Act.eval]; rw [show a.tmps.getD 2 undef = _ from p2]; simp only [Sem.run_bind, ld_mV (hlda.out wa hwa), Result.andThen_ok, Sem.run_pure]) (hK _ _ (Below.refl _ _) rfl))
      | 15, hop =>
        obtain rfl := Option.some.inj hop
        have gg : a.tmps.getD 32 undef = (.bool true) := hdep 10 _ 32 rfl rfl ⟨⟨10, .guard⟩, by simp, rfl, rfl⟩
        have t14 : a.tmps.getD 36 undef = (.agg #[y0, y1, y2, y3, y4]) := hdep 14 _ 36 rfl rfl ⟨⟨14, .data⟩, by simp, rfl, rfl⟩
        refine .want rfl rfl (by rw [hsz]; simp) gg (oper_any (J := fun r w' => r = (.bool Y) ∧ Below wa.heap.size wa w') 15 #[.tmp 36, .const ((.int .i64 0))] _ rfl #[(.agg #[y0, y1, y2, y3, y4]), (.int .i64 0)] (by simp only [List.map_toArray, List.map_cons, List.map_nil, Act.eval]; rw [show a.tmps.getD 36 undef = _ from t14]) (fun w => by kernel_rfl) ((hga.out wa hwa).mono fun e w' h => ⟨_, h.1, rfl, h.2⟩) ?_)
        rintro r w' ⟨rfl, hb⟩
        exact hK _ _ hb rfl
      | 16, hop =>
        obtain rfl := Option.some.inj hop
        have gg : a.tmps.getD 32 undef = (.bool true) := hdep 10 _ 32 rfl rfl ⟨⟨10, .guard⟩, by simp, rfl, rfl⟩
        have t13 : a.tmps.getD 35 undef = (.bool Y) := hdep 13 _ 35 rfl rfl ⟨⟨13, .data⟩, by simp, rfl, rfl⟩
        have t15 : a.tmps.getD 37 undef = (.bool Y) := hdep 15 _ 37 rfl rfl ⟨⟨15, .data⟩, by simp, rfl, rfl⟩
        exact .want rfl rfl (by rw [hsz]; simp) gg (wp_val (w' := wa) (v := (.bool true)) (by simp only [execOp, Act.eval]; rw [show a.tmps.getD 35 undef = _ from t13, show a.tmps.getD 37 undef = _ from t15]; simp only [Sem.run_bind, eg_b, eq_b, Result.andThen_ok, Sem.run_pure, beq_self_eq_true]) (hK _ _ (Below.refl _ _) rfl))
      | 17, hop =>
        obtain rfl := Option.some.inj hop
        have t10 : a.tmps.getD 32 undef = (.bool true) := hdep 10 _ 32 rfl rfl ⟨⟨10, .data⟩, by simp, rfl, rfl⟩
        have t16 : a.tmps.getD 38 undef = (.bool true) := hdep 16 _ 38 rfl rfl ⟨⟨16, .data⟩, by simp, rfl, rfl⟩
        exact .plain rfl (wp_val (w' := wa) (v := (.bool true)) (by simp only [execOp, Act.eval]; rw [show a.tmps.getD 32 undef = _ from t10, show a.tmps.getD 38 undef = _ from t16]; rfl) (hK _ _ (Below.refl _ _) rfl))
      | 18, hop =>
        obtain rfl := Option.some.inj hop
        have t17 : a.tmps.getD 39 undef = (.bool true) := hdep 17 _ 39 rfl rfl ⟨⟨17, .data⟩, by simp, rfl, rfl⟩
        exact .plain rfl (wp_val (w' := wa) (v := (.bool true)) (by simp only [execOp, Act.eval]; rw [show a.tmps.getD 39 undef = _ from t17]; rfl) (hK _ _ (Below.refl _ _) rfl))
      | 19, hop =>
        obtain rfl := Option.some.inj hop
        have gg : a.tmps.getD 40 undef = (.bool true) := hdep 18 _ 40 rfl rfl ⟨⟨18, .guard⟩, by simp, rfl, rfl⟩
        have p3 : a.tmps.getD 3 undef = (.pointer (some ⟨w.heap.size + 1, 0, none⟩)) := hsl 3 rfl
        exact .want rfl rfl (by rw [hsz]; simp) gg (wp_val (w' := wa) (v := (.agg #[z0, z1, z2, z3, z4])) (by simp only [execOp, Act.eval]; rw [show a.tmps.getD 3 undef = _ from p3]; simp only [Sem.run_bind, ld_mV (hldb.out wa hwa), Result.andThen_ok, Sem.run_pure]) (hK _ _ (Below.refl _ _) rfl))
      | 20, hop =>
        obtain rfl := Option.some.inj hop
        have gg : a.tmps.getD 40 undef = (.bool true) := hdep 18 _ 40 rfl rfl ⟨⟨18, .guard⟩, by simp, rfl, rfl⟩
        have p2 : a.tmps.getD 2 undef = (.pointer (some ⟨w.heap.size, 0, none⟩)) := hsl 2 rfl
        exact .want rfl rfl (by rw [hsz]; simp) gg (wp_val (w' := wa) (v := (.agg #[y0, y1, y2, y3, y4])) (by simp only [execOp, Act.eval]; rw [show a.tmps.getD 2 undef = _ from p2]; simp only [Sem.run_bind, ld_mV (hlda.out wa hwa), Result.andThen_ok, Sem.run_pure]) (hK _ _ (Below.refl _ _) rfl))
      | 21, hop =>
        obtain rfl := Option.some.inj hop
        have gg : a.tmps.getD 40 undef = (.bool true) := hdep 18 _ 40 rfl rfl ⟨⟨18, .guard⟩, by simp, rfl, rfl⟩
        have t19 : a.tmps.getD 41 undef = (.agg #[z0, z1, z2, z3, z4]) := hdep 19 _ 41 rfl rfl ⟨⟨19, .data⟩, by simp, rfl, rfl⟩
        have t20 : a.tmps.getD 42 undef = (.agg #[y0, y1, y2, y3, y4]) := hdep 20 _ 42 rfl rfl ⟨⟨20, .data⟩, by simp, rfl, rfl⟩
        refine .want rfl rfl (by rw [hsz]; simp) gg (oper_any (J := fun r w' => r = (.bool false) ∧ Below wa.heap.size wa w') 16 #[.tmp 41, .tmp 42] _ rfl #[(.agg #[z0, z1, z2, z3, z4]), (.agg #[y0, y1, y2, y3, y4])] (by simp only [List.map_toArray, List.map_cons, List.map_nil, Act.eval]; rw [show a.tmps.getD 41 undef = _ from t19, show a.tmps.getD 42 undef = _ from t20]) (fun w => by kernel_rfl) ((hba.out wa hwa).mono fun e w' h => ⟨_, h.1, rfl, h.2⟩) ?_)
        rintro r w' ⟨rfl, hb⟩
        exact hK _ _ hb rfl
      | 22, hop =>
        obtain rfl := Option.some.inj hop
        have gg : a.tmps.getD 40 undef = (.bool true) := hdep 18 _ 40 rfl rfl ⟨⟨18, .guard⟩, by simp, rfl, rfl⟩
        have p2 : a.tmps.getD 2 undef = (.pointer (some ⟨w.heap.size, 0, none⟩)) := hsl 2 rfl
        exact .want rfl rfl (by rw [hsz]; simp) gg (wp_val (w' := wa) (v := (.agg #[y0, y1, y2, y3, y4])) (by simp only [execOp, Act.eval]; rw [show a.tmps.getD 2 undef = _ from p2]; simp only [Sem.run_bind, ld_mV (hlda.out wa hwa), Result.andThen_ok, Sem.run_pure]) (hK _ _ (Below.refl _ _) rfl))
      | 23, hop =>
        obtain rfl := Option.some.inj hop
        have gg : a.tmps.getD 40 undef = (.bool true) := hdep 18 _ 40 rfl rfl ⟨⟨18, .guard⟩, by simp, rfl, rfl⟩
        have p3 : a.tmps.getD 3 undef = (.pointer (some ⟨w.heap.size + 1, 0, none⟩)) := hsl 3 rfl
        exact .want rfl rfl (by rw [hsz]; simp) gg (wp_val (w' := wa) (v := (.agg #[z0, z1, z2, z3, z4])) (by simp only [execOp, Act.eval]; rw [show a.tmps.getD 3 undef = _ from p3]; simp only [Sem.run_bind, ld_mV (hldb.out wa hwa), Result.andThen_ok, Sem.run_pure]) (hK _ _ (Below.refl _ _) rfl))
      | 24, hop =>
        obtain rfl := Option.some.inj hop
        have gg : a.tmps.getD 40 undef = (.bool true) := hdep 18 _ 40 rfl rfl ⟨⟨18, .guard⟩, by simp, rfl, rfl⟩
        have t22 : a.tmps.getD 44 undef = (.agg #[y0, y1, y2, y3, y4]) := hdep 22 _ 44 rfl rfl ⟨⟨22, .data⟩, by simp, rfl, rfl⟩
        have t23 : a.tmps.getD 45 undef = (.agg #[z0, z1, z2, z3, z4]) := hdep 23 _ 45 rfl rfl ⟨⟨23, .data⟩, by simp, rfl, rfl⟩
        refine .want rfl rfl (by rw [hsz]; simp) gg (oper_any (J := fun r w' => r = (.bool false) ∧ Below wa.heap.size wa w') 16 #[.tmp 44, .tmp 45] _ rfl #[(.agg #[y0, y1, y2, y3, y4]), (.agg #[z0, z1, z2, z3, z4])] (by simp only [List.map_toArray, List.map_cons, List.map_nil, Act.eval]; rw [show a.tmps.getD 44 undef = _ from t22, show a.tmps.getD 45 undef = _ from t23]) (fun w => by kernel_rfl) ((hab.out wa hwa).mono fun e w' h => ⟨_, h.1, rfl, h.2⟩) ?_)
        rintro r w' ⟨rfl, hb⟩
        exact hK _ _ hb rfl
      | 25, hop =>
        obtain rfl := Option.some.inj hop
        have gg : a.tmps.getD 40 undef = (.bool true) := hdep 18 _ 40 rfl rfl ⟨⟨18, .guard⟩, by simp, rfl, rfl⟩
        have t21 : a.tmps.getD 43 undef = (.bool false) := hdep 21 _ 43 rfl rfl ⟨⟨21, .data⟩, by simp, rfl, rfl⟩
        have t24 : a.tmps.getD 46 undef = (.bool false) := hdep 24 _ 46 rfl rfl ⟨⟨24, .data⟩, by simp, rfl, rfl⟩
        exact .want rfl rfl (by rw [hsz]; simp) gg (wp_val (w' := wa) (v := (.bool true)) (by simp only [execOp, Act.eval]; rw [show a.tmps.getD 43 undef = _ from t21, show a.tmps.getD 46 undef = _ from t24]; simp only [Sem.run_bind, eg_b, eq_b, Result.andThen_ok, Sem.run_pure, beq_self_eq_true]) (hK _ _ (Below.refl _ _) rfl))
      | 26, hop =>
        obtain rfl := Option.some.inj hop
        have t18 : a.tmps.getD 40 undef = (.bool true) := hdep 18 _ 40 rfl rfl ⟨⟨18, .data⟩, by simp, rfl, rfl⟩
        have t25 : a.tmps.getD 47 undef = (.bool true) := hdep 25 _ 47 rfl rfl ⟨⟨25, .data⟩, by simp, rfl, rfl⟩
        exact .plain rfl (wp_val (w' := wa) (v := (.bool true)) (by simp only [execOp, Act.eval]; rw [show a.tmps.getD 40 undef = _ from t18, show a.tmps.getD 47 undef = _ from t25]; rfl) (hK _ _ (Below.refl _ _) rfl))
      | 27, _ => exact absurd rfl hj
      | _ + 28, hop => exact absurd hop (by simp)
    · intro a wa hwa hdf hsz hsl hrr K hK
      have t26 : a.tmps.getD 48 undef = (.bool true) := hrr 26 _ 48 rfl (by decide) rfl
      refine .plain rfl (wp_val (w' := wa) (v := (.bool true)) (by simp only [execOp, Act.eval]; rw [show a.tmps.getD 48 undef = _ from t26]; rfl) ?_)
      refine hK _ wa ?_
      have hact := act_puts hdf hsz hsl
      clear hrr hsl hdf hsz hK t26
      simp only [List.filterMap_cons, List.filterMap_nil, List.foldl_cons, List.foldl_nil] at hact
      rw [hact]
      generalize a.tmps.getD 22 undef = y22
      generalize a.tmps.getD 23 undef = y23
      generalize a.tmps.getD 24 undef = y24
      generalize a.tmps.getD 25 undef = y25
      generalize a.tmps.getD 26 undef = y26
      generalize a.tmps.getD 27 undef = y27
      generalize a.tmps.getD 28 undef = y28
      generalize a.tmps.getD 29 undef = y29
      generalize a.tmps.getD 30 undef = y30
      generalize a.tmps.getD 31 undef = y31
      generalize a.tmps.getD 32 undef = y32
      generalize a.tmps.getD 33 undef = y33
      generalize a.tmps.getD 34 undef = y34
      generalize a.tmps.getD 35 undef = y35
      generalize a.tmps.getD 36 undef = y36
      generalize a.tmps.getD 37 undef = y37
      generalize a.tmps.getD 38 undef = y38
      generalize a.tmps.getD 39 undef = y39
      generalize a.tmps.getD 40 undef = y40
      generalize a.tmps.getD 41 undef = y41
      generalize a.tmps.getD 42 undef = y42
      generalize a.tmps.getD 43 undef = y43
      generalize a.tmps.getD 44 undef = y44
      generalize a.tmps.getD 45 undef = y45
      generalize a.tmps.getD 46 undef = y46
      generalize a.tmps.getD 47 undef = y47
      generalize a.tmps.getD 48 undef = y48
      clear hact
      simp only [Act.put, List.setIfInBounds_toArray, List.set_cons_succ, List.set_cons_zero]
      have hf := hide1 (hB5.out.trans (hwa.mono hB5.out.size))
      clear hab hba haa hga hlda hldb hwa hB5
      go_wp2
      go_ret
      exact ⟨rfl, hf.out⟩
  | true =>
    have hL5 := hld'.out w5 b15.out
    have hg5 := hgb0.out w5 hB5.out
    have m0 : w5.cell? ⟨w.heap.size + 1, 0, none⟩ = some z0 := by have := hL5 0 z0 rfl; simpa using this
    have m1 : w5.cell? ⟨w.heap.size + 1, 1, none⟩ = some z1 := by have := hL5 1 z1 rfl; simpa using this
    have m2 : w5.cell? ⟨w.heap.size + 1, 2, none⟩ = some z2 := by have := hL5 2 z2 rfl; simpa using this
    have m3 : w5.cell? ⟨w.heap.size + 1, 3, none⟩ = some z3 := by have := hL5 3 z3 rfl; simpa using this
    have m4 : w5.cell? ⟨w.heap.size + 1, 4, none⟩ = some z4 := by have := hL5 4 z4 rfl; simpa using this
    clear hL5
    go_wp2_with fail
    refine hg5.mono ?_
    rintro e w6 ⟨rfl, b6⟩
    have hB6 := hide1 (hB5.out.trans (b6.mono hB5.out.size))
    have b16 := hide1 (b15.out.trans (b6.mono b15.out.size))
    clear m0 m1 m2 m3 m4 hg5 b6 hB5 b15
    cases Z with
    | false =>
      have hlda : Hid (∀ W, Below w6.heap.size w6 W → W.rangeAt w.heap.size 0 [y0, y1, y2, y3, y4]) := hide1 fun W hW => hld.out W (b16.out.trans (hW.mono b16.out.size))
      have hldb : Hid (∀ W, Below w6.heap.size w6 W → W.rangeAt (w.heap.size + 1) 0 [z0, z1, z2, z3, z4]) := hide1 fun W hW => hld'.out W (b16.out.trans (hW.mono b16.out.size))
      have hab : Hid (∀ W, Below w6.heap.size w6 W → Calls Tryz.prog 16 #[.agg #[y0, y1, y2, y3, y4], .agg #[z0, z1, z2, z3, z4]] W fun e w' => e = .returned (.bool (false)) ∧ Below W.heap.size W w') := hide1 fun W hW => hab0.out W (hB6.out.trans (hW.mono hB6.out.size))
      have hba : Hid (∀ W, Below w6.heap.size w6 W → Calls Tryz.prog 16 #[.agg #[z0, z1, z2, z3, z4], .agg #[y0, y1, y2, y3, y4]] W fun e w' => e = .returned (.bool (false)) ∧ Below W.heap.size W w') := hide1 fun W hW => hba0.out W (hB6.out.trans (hW.mono hB6.out.size))
      have haa : Hid (∀ W, Below w6.heap.size w6 W → Calls Tryz.prog 16 #[.agg #[y0, y1, y2, y3, y4], .agg #[y0, y1, y2, y3, y4]] W fun e w' => e = .returned (.bool (true)) ∧ Below W.heap.size W w') := hide1 fun W hW => haa0.out W (hB6.out.trans (hW.mono hB6.out.size))
      have hga : Hid (∀ W, Below w6.heap.size w6 W → Calls Tryz.prog 15 #[.agg #[y0, y1, y2, y3, y4], .int .i64 0] W fun e w' => e = .returned (.bool (true)) ∧ Below W.heap.size W w') := hide1 fun W hW => hga0.out W (hB6.out.trans (hW.mono hB6.out.size))
      clear hga0 hgb0 hab0 hba0 haa0 hsm0 hld hld' hvf hvf' b16 hM hM'
      obtain ⟨Y, hY⟩ : ∃ Y, Y = true := ⟨_, rfl⟩
      rw [← hY] at haa hga
      replace hY := hide1 hY
      go_upto_region 6 with fail
      refine wp_flowG 27 _ _ (by kernel_rfl) (by kernel_rfl) (by kernel_rfl) rfl (fun j v _ => v = ([(.agg #[y0, y1, y2, y3, y4]), (.agg #[z0, z1, z2, z3, z4]), (.bool false), (.bool false), (.bool false), undef, undef, undef, (.bool false), (.bool true), (.bool true), (.agg #[y0, y1, y2, y3, y4]), (.agg #[y0, y1, y2, y3, y4]), (.bool Y), (.agg #[y0, y1, y2, y3, y4]), (.bool Y), (.bool true), (.bool true), (.bool true), (.agg #[z0, z1, z2, z3, z4]), (.agg #[y0, y1, y2, y3, y4]), (.bool false), (.agg #[y0, y1, y2, y3, y4]), (.agg #[z0, z1, z2, z3, z4]), (.bool false), (.bool true), (.bool true), (.bool true)] : List Value).getD j undef) (fun _ _ _ _ h _ => h) ?_ ?_
      · intro j op hop hj a wa hwa hsz hsl hdep K hK
        match j, hop with
        | 0, hop =>
          obtain rfl := Option.some.inj hop
          have p2 : a.tmps.getD 2 undef = (.pointer (some ⟨w.heap.size, 0, none⟩)) := hsl 2 rfl
          exact .plain rfl (wp_val (w' := wa) (v := (.agg #[y0, y1, y2, y3, y4])) (by simp only [execOp, Act.eval]; rw [show a.tmps.getD 2 undef = _ from p2]; simp only [Sem.run_bind, ld_mV (hlda.out wa hwa), Result.andThen_ok, Sem.run_pure]) (hK _ _ (Below.refl _ _) rfl))
        | 1, hop =>
          obtain rfl := Option.some.inj hop
          have p3 : a.tmps.getD 3 undef = (.pointer (some ⟨w.heap.size + 1, 0, none⟩)) := hsl 3 rfl
          exact .plain rfl (wp_val (w' := wa) (v := (.agg #[z0, z1, z2, z3, z4])) (by simp only [execOp, Act.eval]; rw [show a.tmps.getD 3 undef = _ from p3]; simp only [Sem.run_bind, ld_mV (hldb.out wa hwa), Result.andThen_ok, Sem.run_pure]) (hK _ _ (Below.refl _ _) rfl))
        | 2, hop =>
          obtain rfl := Option.some.inj hop
          have t0 : a.tmps.getD 22 undef = (.agg #[y0, y1, y2, y3, y4]) := hdep 0 _ 22 rfl rfl ⟨⟨0, .data⟩, by simp, rfl, rfl⟩
          have t1 : a.tmps.getD 23 undef = (.agg #[z0, z1, z2, z3, z4]) := hdep 1 _ 23 rfl rfl ⟨⟨1, .data⟩, by simp, rfl, rfl⟩
          refine .plain rfl (oper_any (J := fun r w' => r = (.bool false) ∧ Below wa.heap.size wa w') 16 #[.tmp 22, .tmp 23] _ rfl #[(.agg #[y0, y1, y2, y3, y4]), (.agg #[z0, z1, z2, z3, z4])] (by simp only [List.map_toArray, List.map_cons, List.map_nil, Act.eval]; rw [show a.tmps.getD 22 undef = _ from t0, show a.tmps.getD 23 undef = _ from t1]) (fun w => by kernel_rfl) ((hab.out wa hwa).mono fun e w' h => ⟨_, h.1, rfl, h.2⟩) ?_)
          rintro r w' ⟨rfl, hb⟩
          exact hK _ _ hb rfl
        | 3, hop =>
          obtain rfl := Option.some.inj hop
          have p5 : a.tmps.getD 5 undef = (.bool false) := hsl 5 rfl
          exact .plain rfl (wp_val (w' := wa) (v := (.bool false)) (by simp only [execOp, Act.eval]; rw [show a.tmps.getD 5 undef = _ from p5]; rfl) (hK _ _ (Below.refl _ _) rfl))
        | 4, hop =>
          obtain rfl := Option.some.inj hop
          have t3 : a.tmps.getD 25 undef = (.bool false) := hdep 3 _ 25 rfl rfl ⟨⟨3, .data⟩, by simp, rfl, rfl⟩
          exact .plain rfl (wp_val (w' := wa) (v := (.bool false)) (by simp only [execOp, Act.eval]; rw [show a.tmps.getD 25 undef = _ from t3]; rfl) (hK _ _ (Below.refl _ _) rfl))
        | 5, hop =>
          obtain rfl := Option.some.inj hop
          have gg : a.tmps.getD 26 undef = (.bool false) := hdep 4 _ 26 rfl rfl ⟨⟨4, .guard⟩, by simp, rfl, rfl⟩
          exact .skip rfl rfl (by rw [hsz]; simp) gg (hK _ _ (Below.refl _ _) rfl)
        | 6, hop =>
          obtain rfl := Option.some.inj hop
          have gg : a.tmps.getD 26 undef = (.bool false) := hdep 4 _ 26 rfl rfl ⟨⟨4, .guard⟩, by simp, rfl, rfl⟩
          exact .skip rfl rfl (by rw [hsz]; simp) gg (hK _ _ (Below.refl _ _) rfl)
        | 7, hop =>
          obtain rfl := Option.some.inj hop
          have gg : a.tmps.getD 26 undef = (.bool false) := hdep 4 _ 26 rfl rfl ⟨⟨4, .guard⟩, by simp, rfl, rfl⟩
          exact .skip rfl rfl (by rw [hsz]; simp) gg (hK _ _ (Below.refl _ _) rfl)
        | 8, hop =>
          obtain rfl := Option.some.inj hop
          have t4 : a.tmps.getD 26 undef = (.bool false) := hdep 4 _ 26 rfl rfl ⟨⟨4, .data⟩, by simp, rfl, rfl⟩
          have t7 : a.tmps.getD 29 undef = undef := hdep 7 _ 29 rfl rfl ⟨⟨7, .data⟩, by simp, rfl, rfl⟩
          exact .plain rfl (wp_val (w' := wa) (v := (.bool false)) (by simp only [execOp, Act.eval]; rw [show a.tmps.getD 26 undef = _ from t4, show a.tmps.getD 29 undef = _ from t7]; rfl) (hK _ _ (Below.refl _ _) rfl))
        | 9, hop =>
          obtain rfl := Option.some.inj hop
          have t2 : a.tmps.getD 24 undef = (.bool false) := hdep 2 _ 24 rfl rfl ⟨⟨2, .data⟩, by simp, rfl, rfl⟩
          have t8 : a.tmps.getD 30 undef = (.bool false) := hdep 8 _ 30 rfl rfl ⟨⟨8, .data⟩, by simp, rfl, rfl⟩
          exact .plain rfl (wp_val (w' := wa) (v := (.bool true)) (by simp only [execOp, Act.eval]; rw [show a.tmps.getD 24 undef = _ from t2, show a.tmps.getD 30 undef = _ from t8]; simp only [Sem.run_bind, eg_b, eq_b, Result.andThen_ok, Sem.run_pure, beq_self_eq_true]) (hK _ _ (Below.refl _ _) rfl))
        | 10, hop =>
          obtain rfl := Option.some.inj hop
          have t9 : a.tmps.getD 31 undef = (.bool true) := hdep 9 _ 31 rfl rfl ⟨⟨9, .data⟩, by simp, rfl, rfl⟩
          exact .plain rfl (wp_val (w' := wa) (v := (.bool true)) (by simp only [execOp, Act.eval]; rw [show a.tmps.getD 31 undef = _ from t9]; rfl) (hK _ _ (Below.refl _ _) rfl))
        | 11, hop =>
          obtain rfl := Option.some.inj hop
          have gg : a.tmps.getD 32 undef = (.bool true) := hdep 10 _ 32 rfl rfl ⟨⟨10, .guard⟩, by simp, rfl, rfl⟩
          have p2 : a.tmps.getD 2 undef = (.pointer (some ⟨w.heap.size, 0, none⟩)) := hsl 2 rfl
          exact .want rfl rfl (by rw [hsz]; simp) gg (wp_val (w' := wa) (v := (.agg #[y0, y1, y2, y3, y4])) (by simp only [execOp, Act.eval]; rw [show a.tmps.getD 2 undef = _ from p2]; simp only [Sem.run_bind, ld_mV (hlda.out wa hwa), Result.andThen_ok, Sem.run_pure]) (hK _ _ (Below.refl _ _) rfl))
        | 12, hop =>
          obtain rfl := Option.some.inj hop
          have gg : a.tmps.getD 32 undef = (.bool true) := hdep 10 _ 32 rfl rfl ⟨⟨10, .guard⟩, by simp, rfl, rfl⟩
          have p2 : a.tmps.getD 2 undef = (.pointer (some ⟨w.heap.size, 0, none⟩)) := hsl 2 rfl
          exact .want rfl rfl (by rw [hsz]; simp) gg (wp_val (w' := wa) (v := (.agg #[y0, y1, y2, y3, y4])) (by simp only [execOp, Act.eval]; rw [show a.tmps.getD 2 undef = _ from p2]; simp only [Sem.run_bind, ld_mV (hlda.out wa hwa), Result.andThen_ok, Sem.run_pure]) (hK _ _ (Below.refl _ _) rfl))
        | 13, hop =>
          obtain rfl := Option.some.inj hop
          have gg : a.tmps.getD 32 undef = (.bool true) := hdep 10 _ 32 rfl rfl ⟨⟨10, .guard⟩, by simp, rfl, rfl⟩
          have t11 : a.tmps.getD 33 undef = (.agg #[y0, y1, y2, y3, y4]) := hdep 11 _ 33 rfl rfl ⟨⟨11, .data⟩, by simp, rfl, rfl⟩
          have t12 : a.tmps.getD 34 undef = (.agg #[y0, y1, y2, y3, y4]) := hdep 12 _ 34 rfl rfl ⟨⟨12, .data⟩, by simp, rfl, rfl⟩
          refine .want rfl rfl (by rw [hsz]; simp) gg (oper_any (J := fun r w' => r = (.bool Y) ∧ Below wa.heap.size wa w') 16 #[.tmp 33, .tmp 34] _ rfl #[(.agg #[y0, y1, y2, y3, y4]), (.agg #[y0, y1, y2, y3, y4])] (by simp only [List.map_toArray, List.map_cons, List.map_nil, Act.eval]; rw [show a.tmps.getD 33 undef = _ from t11, show a.tmps.getD 34 undef = _ from t12]) (fun w => by kernel_rfl) ((haa.out wa hwa).mono fun e w' h => ⟨_, h.1, rfl, h.2⟩) ?_)
          rintro r w' ⟨rfl, hb⟩
          exact hK _ _ hb rfl
        | 14, hop =>
          obtain rfl := Option.some.inj hop
          have gg : a.tmps.getD 32 undef = (.bool true) := hdep 10 _ 32 rfl rfl ⟨⟨10, .guard⟩, by simp, rfl, rfl⟩
          have p2 : a.tmps.getD 2 undef = (.pointer (some ⟨w.heap.size, 0, none⟩)) := hsl 2 rfl
          exact .want rfl rfl (by rw [hsz]; simp) gg (wp_val (w' := wa) (v := (.agg #[y0, y1, y2, y3, y4])) (by simp only [execOp, Act.eval]; rw [show a.tmps.getD 2 undef = _ from p2]; simp only [Sem.run_bind, ld_mV (hlda.out wa hwa), Result.andThen_ok, Sem.run_pure]) (hK _ _ (Below.refl _ _) rfl))
        | 15, hop =>
          obtain rfl := Option.some.inj hop
          have gg : a.tmps.getD 32 undef = (.bool true) := hdep 10 _ 32 rfl rfl ⟨⟨10, .guard⟩, by simp, rfl, rfl⟩
          have t14 : a.tmps.getD 36 undef = (.agg #[y0, y1, y2, y3, y4]) := hdep 14 _ 36 rfl rfl ⟨⟨14, .data⟩, by simp, rfl, rfl⟩
          refine .want rfl rfl (by rw [hsz]; simp) gg (oper_any (J := fun r w' => r = (.bool Y) ∧ Below wa.heap.size wa w') 15 #[.tmp 36, .const ((.int .i64 0))] _ rfl #[(.agg #[y0, y1, y2, y3, y4]), (.int .i64 0)] (by simp only [List.map_toArray, List.map_cons, List.map_nil, Act.eval]; rw [show a.tmps.getD 36 undef = _ from t14]) (fun w => by kernel_rfl) ((hga.out wa hwa).mono fun e w' h => ⟨_, h.1, rfl, h.2⟩) ?_)
          rintro r w' ⟨rfl, hb⟩
          exact hK _ _ hb rfl
        | 16, hop =>
          obtain rfl := Option.some.inj hop
          have gg : a.tmps.getD 32 undef = (.bool true) := hdep 10 _ 32 rfl rfl ⟨⟨10, .guard⟩, by simp, rfl, rfl⟩
          have t13 : a.tmps.getD 35 undef = (.bool Y) := hdep 13 _ 35 rfl rfl ⟨⟨13, .data⟩, by simp, rfl, rfl⟩
          have t15 : a.tmps.getD 37 undef = (.bool Y) := hdep 15 _ 37 rfl rfl ⟨⟨15, .data⟩, by simp, rfl, rfl⟩
          exact .want rfl rfl (by rw [hsz]; simp) gg (wp_val (w' := wa) (v := (.bool true)) (by simp only [execOp, Act.eval]; rw [show a.tmps.getD 35 undef = _ from t13, show a.tmps.getD 37 undef = _ from t15]; simp only [Sem.run_bind, eg_b, eq_b, Result.andThen_ok, Sem.run_pure, beq_self_eq_true]) (hK _ _ (Below.refl _ _) rfl))
        | 17, hop =>
          obtain rfl := Option.some.inj hop
          have t10 : a.tmps.getD 32 undef = (.bool true) := hdep 10 _ 32 rfl rfl ⟨⟨10, .data⟩, by simp, rfl, rfl⟩
          have t16 : a.tmps.getD 38 undef = (.bool true) := hdep 16 _ 38 rfl rfl ⟨⟨16, .data⟩, by simp, rfl, rfl⟩
          exact .plain rfl (wp_val (w' := wa) (v := (.bool true)) (by simp only [execOp, Act.eval]; rw [show a.tmps.getD 32 undef = _ from t10, show a.tmps.getD 38 undef = _ from t16]; rfl) (hK _ _ (Below.refl _ _) rfl))
        | 18, hop =>
          obtain rfl := Option.some.inj hop
          have t17 : a.tmps.getD 39 undef = (.bool true) := hdep 17 _ 39 rfl rfl ⟨⟨17, .data⟩, by simp, rfl, rfl⟩
          exact .plain rfl (wp_val (w' := wa) (v := (.bool true)) (by simp only [execOp, Act.eval]; rw [show a.tmps.getD 39 undef = _ from t17]; rfl) (hK _ _ (Below.refl _ _) rfl))
        | 19, hop =>
          obtain rfl := Option.some.inj hop
          have gg : a.tmps.getD 40 undef = (.bool true) := hdep 18 _ 40 rfl rfl ⟨⟨18, .guard⟩, by simp, rfl, rfl⟩
          have p3 : a.tmps.getD 3 undef = (.pointer (some ⟨w.heap.size + 1, 0, none⟩)) := hsl 3 rfl
          exact .want rfl rfl (by rw [hsz]; simp) gg (wp_val (w' := wa) (v := (.agg #[z0, z1, z2, z3, z4])) (by simp only [execOp, Act.eval]; rw [show a.tmps.getD 3 undef = _ from p3]; simp only [Sem.run_bind, ld_mV (hldb.out wa hwa), Result.andThen_ok, Sem.run_pure]) (hK _ _ (Below.refl _ _) rfl))
        | 20, hop =>
          obtain rfl := Option.some.inj hop
          have gg : a.tmps.getD 40 undef = (.bool true) := hdep 18 _ 40 rfl rfl ⟨⟨18, .guard⟩, by simp, rfl, rfl⟩
          have p2 : a.tmps.getD 2 undef = (.pointer (some ⟨w.heap.size, 0, none⟩)) := hsl 2 rfl
          exact .want rfl rfl (by rw [hsz]; simp) gg (wp_val (w' := wa) (v := (.agg #[y0, y1, y2, y3, y4])) (by simp only [execOp, Act.eval]; rw [show a.tmps.getD 2 undef = _ from p2]; simp only [Sem.run_bind, ld_mV (hlda.out wa hwa), Result.andThen_ok, Sem.run_pure]) (hK _ _ (Below.refl _ _) rfl))
        | 21, hop =>
          obtain rfl := Option.some.inj hop
          have gg : a.tmps.getD 40 undef = (.bool true) := hdep 18 _ 40 rfl rfl ⟨⟨18, .guard⟩, by simp, rfl, rfl⟩
          have t19 : a.tmps.getD 41 undef = (.agg #[z0, z1, z2, z3, z4]) := hdep 19 _ 41 rfl rfl ⟨⟨19, .data⟩, by simp, rfl, rfl⟩
          have t20 : a.tmps.getD 42 undef = (.agg #[y0, y1, y2, y3, y4]) := hdep 20 _ 42 rfl rfl ⟨⟨20, .data⟩, by simp, rfl, rfl⟩
          refine .want rfl rfl (by rw [hsz]; simp) gg (oper_any (J := fun r w' => r = (.bool false) ∧ Below wa.heap.size wa w') 16 #[.tmp 41, .tmp 42] _ rfl #[(.agg #[z0, z1, z2, z3, z4]), (.agg #[y0, y1, y2, y3, y4])] (by simp only [List.map_toArray, List.map_cons, List.map_nil, Act.eval]; rw [show a.tmps.getD 41 undef = _ from t19, show a.tmps.getD 42 undef = _ from t20]) (fun w => by kernel_rfl) ((hba.out wa hwa).mono fun e w' h => ⟨_, h.1, rfl, h.2⟩) ?_)
          rintro r w' ⟨rfl, hb⟩
          exact hK _ _ hb rfl
        | 22, hop =>
          obtain rfl := Option.some.inj hop
          have gg : a.tmps.getD 40 undef = (.bool true) := hdep 18 _ 40 rfl rfl ⟨⟨18, .guard⟩, by simp, rfl, rfl⟩
          have p2 : a.tmps.getD 2 undef = (.pointer (some ⟨w.heap.size, 0, none⟩)) := hsl 2 rfl
          exact .want rfl rfl (by rw [hsz]; simp) gg (wp_val (w' := wa) (v := (.agg #[y0, y1, y2, y3, y4])) (by simp only [execOp, Act.eval]; rw [show a.tmps.getD 2 undef = _ from p2]; simp only [Sem.run_bind, ld_mV (hlda.out wa hwa), Result.andThen_ok, Sem.run_pure]) (hK _ _ (Below.refl _ _) rfl))
        | 23, hop =>
          obtain rfl := Option.some.inj hop
          have gg : a.tmps.getD 40 undef = (.bool true) := hdep 18 _ 40 rfl rfl ⟨⟨18, .guard⟩, by simp, rfl, rfl⟩
          have p3 : a.tmps.getD 3 undef = (.pointer (some ⟨w.heap.size + 1, 0, none⟩)) := hsl 3 rfl
          exact .want rfl rfl (by rw [hsz]; simp) gg (wp_val (w' := wa) (v := (.agg #[z0, z1, z2, z3, z4])) (by simp only [execOp, Act.eval]; rw [show a.tmps.getD 3 undef = _ from p3]; simp only [Sem.run_bind, ld_mV (hldb.out wa hwa), Result.andThen_ok, Sem.run_pure]) (hK _ _ (Below.refl _ _) rfl))
        | 24, hop =>
          obtain rfl := Option.some.inj hop
          have gg : a.tmps.getD 40 undef = (.bool true) := hdep 18 _ 40 rfl rfl ⟨⟨18, .guard⟩, by simp, rfl, rfl⟩
          have t22 : a.tmps.getD 44 undef = (.agg #[y0, y1, y2, y3, y4]) := hdep 22 _ 44 rfl rfl ⟨⟨22, .data⟩, by simp, rfl, rfl⟩
          have t23 : a.tmps.getD 45 undef = (.agg #[z0, z1, z2, z3, z4]) := hdep 23 _ 45 rfl rfl ⟨⟨23, .data⟩, by simp, rfl, rfl⟩
          refine .want rfl rfl (by rw [hsz]; simp) gg (oper_any (J := fun r w' => r = (.bool false) ∧ Below wa.heap.size wa w') 16 #[.tmp 44, .tmp 45] _ rfl #[(.agg #[y0, y1, y2, y3, y4]), (.agg #[z0, z1, z2, z3, z4])] (by simp only [List.map_toArray, List.map_cons, List.map_nil, Act.eval]; rw [show a.tmps.getD 44 undef = _ from t22, show a.tmps.getD 45 undef = _ from t23]) (fun w => by kernel_rfl) ((hab.out wa hwa).mono fun e w' h => ⟨_, h.1, rfl, h.2⟩) ?_)
          rintro r w' ⟨rfl, hb⟩
          exact hK _ _ hb rfl
        | 25, hop =>
          obtain rfl := Option.some.inj hop
          have gg : a.tmps.getD 40 undef = (.bool true) := hdep 18 _ 40 rfl rfl ⟨⟨18, .guard⟩, by simp, rfl, rfl⟩
          have t21 : a.tmps.getD 43 undef = (.bool false) := hdep 21 _ 43 rfl rfl ⟨⟨21, .data⟩, by simp, rfl, rfl⟩
          have t24 : a.tmps.getD 46 undef = (.bool false) := hdep 24 _ 46 rfl rfl ⟨⟨24, .data⟩, by simp, rfl, rfl⟩
          exact .want rfl rfl (by rw [hsz]; simp) gg (wp_val (w' := wa) (v := (.bool true)) (by simp only [execOp, Act.eval]; rw [show a.tmps.getD 43 undef = _ from t21, show a.tmps.getD 46 undef = _ from t24]; simp only [Sem.run_bind, eg_b, eq_b, Result.andThen_ok, Sem.run_pure, beq_self_eq_true]) (hK _ _ (Below.refl _ _) rfl))
        | 26, hop =>
          obtain rfl := Option.some.inj hop
          have t18 : a.tmps.getD 40 undef = (.bool true) := hdep 18 _ 40 rfl rfl ⟨⟨18, .data⟩, by simp, rfl, rfl⟩
          have t25 : a.tmps.getD 47 undef = (.bool true) := hdep 25 _ 47 rfl rfl ⟨⟨25, .data⟩, by simp, rfl, rfl⟩
          exact .plain rfl (wp_val (w' := wa) (v := (.bool true)) (by simp only [execOp, Act.eval]; rw [show a.tmps.getD 40 undef = _ from t18, show a.tmps.getD 47 undef = _ from t25]; rfl) (hK _ _ (Below.refl _ _) rfl))
        | 27, _ => exact absurd rfl hj
        | _ + 28, hop => exact absurd hop (by simp)
      · intro a wa hwa hdf hsz hsl hrr K hK
        have t26 : a.tmps.getD 48 undef = (.bool true) := hrr 26 _ 48 rfl (by decide) rfl
        refine .plain rfl (wp_val (w' := wa) (v := (.bool true)) (by simp only [execOp, Act.eval]; rw [show a.tmps.getD 48 undef = _ from t26]; rfl) ?_)
        refine hK _ wa ?_
        have hact := act_puts hdf hsz hsl
        clear hrr hsl hdf hsz hK t26
        simp only [List.filterMap_cons, List.filterMap_nil, List.foldl_cons, List.foldl_nil] at hact
        rw [hact]
        generalize a.tmps.getD 22 undef = y22
        generalize a.tmps.getD 23 undef = y23
        generalize a.tmps.getD 24 undef = y24
        generalize a.tmps.getD 25 undef = y25
        generalize a.tmps.getD 26 undef = y26
        generalize a.tmps.getD 27 undef = y27
        generalize a.tmps.getD 28 undef = y28
        generalize a.tmps.getD 29 undef = y29
        generalize a.tmps.getD 30 undef = y30
        generalize a.tmps.getD 31 undef = y31
        generalize a.tmps.getD 32 undef = y32
        generalize a.tmps.getD 33 undef = y33
        generalize a.tmps.getD 34 undef = y34
        generalize a.tmps.getD 35 undef = y35
        generalize a.tmps.getD 36 undef = y36
        generalize a.tmps.getD 37 undef = y37
        generalize a.tmps.getD 38 undef = y38
        generalize a.tmps.getD 39 undef = y39
        generalize a.tmps.getD 40 undef = y40
        generalize a.tmps.getD 41 undef = y41
        generalize a.tmps.getD 42 undef = y42
        generalize a.tmps.getD 43 undef = y43
        generalize a.tmps.getD 44 undef = y44
        generalize a.tmps.getD 45 undef = y45
        generalize a.tmps.getD 46 undef = y46
        generalize a.tmps.getD 47 undef = y47
        generalize a.tmps.getD 48 undef = y48
        clear hact
        simp only [Act.put, List.setIfInBounds_toArray, List.set_cons_succ, List.set_cons_zero]
        have hf := hide1 (hB6.out.trans (hwa.mono hB6.out.size))
        clear hab hba haa hga hlda hldb hwa hB6
        go_wp2
        go_ret
        exact ⟨rfl, hf.out⟩
    | true =>
      have hlda : Hid (∀ W, Below w6.heap.size w6 W → W.rangeAt w.heap.size 0 [y0, y1, y2, y3, y4]) := hide1 fun W hW => hld.out W (b16.out.trans (hW.mono b16.out.size))
      have hldb : Hid (∀ W, Below w6.heap.size w6 W → W.rangeAt (w.heap.size + 1) 0 [z0, z1, z2, z3, z4]) := hide1 fun W hW => hld'.out W (b16.out.trans (hW.mono b16.out.size))
      have hab : Hid (∀ W, Below w6.heap.size w6 W → Calls Tryz.prog 16 #[.agg #[y0, y1, y2, y3, y4], .agg #[z0, z1, z2, z3, z4]] W fun e w' => e = .returned (.bool (S)) ∧ Below W.heap.size W w') := hide1 fun W hW => hab0.out W (hB6.out.trans (hW.mono hB6.out.size))
      have hba : Hid (∀ W, Below w6.heap.size w6 W → Calls Tryz.prog 16 #[.agg #[z0, z1, z2, z3, z4], .agg #[y0, y1, y2, y3, y4]] W fun e w' => e = .returned (.bool (S)) ∧ Below W.heap.size W w') := hide1 fun W hW => hba0.out W (hB6.out.trans (hW.mono hB6.out.size))
      have haa : Hid (∀ W, Below w6.heap.size w6 W → Calls Tryz.prog 16 #[.agg #[y0, y1, y2, y3, y4], .agg #[y0, y1, y2, y3, y4]] W fun e w' => e = .returned (.bool (true)) ∧ Below W.heap.size W w') := hide1 fun W hW => haa0.out W (hB6.out.trans (hW.mono hB6.out.size))
      have hga : Hid (∀ W, Below w6.heap.size w6 W → Calls Tryz.prog 15 #[.agg #[y0, y1, y2, y3, y4], .int .i64 0] W fun e w' => e = .returned (.bool (true)) ∧ Below W.heap.size W w') := hide1 fun W hW => hga0.out W (hB6.out.trans (hW.mono hB6.out.size))
      have hsm : Hid (∀ W, Below w6.heap.size w6 W → Calls Tryz.prog 17 #[.agg #[y0, y1, y2, y3, y4], .agg #[z0, z1, z2, z3, z4]] W fun e w' => e = .returned (.bool S) ∧ Below W.heap.size W w') := hide1 fun W hW => hsm0.out (by trivial) (by trivial) W (hB6.out.trans (hW.mono hB6.out.size))
      clear hga0 hgb0 hab0 hba0 haa0 hsm0 hld hld' hvf hvf' b16 hM hM'
      obtain ⟨Y, hY⟩ : ∃ Y, Y = true := ⟨_, rfl⟩
      rw [← hY] at haa hga
      replace hY := hide1 hY
      generalize S = X at *
      go_upto_region 6 with fail
      refine wp_flowG 27 _ _ (by kernel_rfl) (by kernel_rfl) (by kernel_rfl) rfl (fun j v _ => v = ([(.agg #[y0, y1, y2, y3, y4]), (.agg #[z0, z1, z2, z3, z4]), (.bool X), (.bool true), (.bool true), (.agg #[y0, y1, y2, y3, y4]), (.agg #[z0, z1, z2, z3, z4]), (.bool X), (.bool X), (.bool true), (.bool true), (.agg #[y0, y1, y2, y3, y4]), (.agg #[y0, y1, y2, y3, y4]), (.bool Y), (.agg #[y0, y1, y2, y3, y4]), (.bool Y), (.bool true), (.bool true), (.bool true), (.agg #[z0, z1, z2, z3, z4]), (.agg #[y0, y1, y2, y3, y4]), (.bool X), (.agg #[y0, y1, y2, y3, y4]), (.agg #[z0, z1, z2, z3, z4]), (.bool X), (.bool true), (.bool true), (.bool true)] : List Value).getD j undef) (fun _ _ _ _ h _ => h) ?_ ?_
      · intro j op hop hj a wa hwa hsz hsl hdep K hK
        match j, hop with
        | 0, hop =>
          obtain rfl := Option.some.inj hop
          have p2 : a.tmps.getD 2 undef = (.pointer (some ⟨w.heap.size, 0, none⟩)) := hsl 2 rfl
          exact .plain rfl (wp_val (w' := wa) (v := (.agg #[y0, y1, y2, y3, y4])) (by simp only [execOp, Act.eval]; rw [show a.tmps.getD 2 undef = _ from p2]; simp only [Sem.run_bind, ld_mV (hlda.out wa hwa), Result.andThen_ok, Sem.run_pure]) (hK _ _ (Below.refl _ _) rfl))
        | 1, hop =>
          obtain rfl := Option.some.inj hop
          have p3 : a.tmps.getD 3 undef = (.pointer (some ⟨w.heap.size + 1, 0, none⟩)) := hsl 3 rfl
          exact .plain rfl (wp_val (w' := wa) (v := (.agg #[z0, z1, z2, z3, z4])) (by simp only [execOp, Act.eval]; rw [show a.tmps.getD 3 undef = _ from p3]; simp only [Sem.run_bind, ld_mV (hldb.out wa hwa), Result.andThen_ok, Sem.run_pure]) (hK _ _ (Below.refl _ _) rfl))
        | 2, hop =>
          obtain rfl := Option.some.inj hop
          have t0 : a.tmps.getD 22 undef = (.agg #[y0, y1, y2, y3, y4]) := hdep 0 _ 22 rfl rfl ⟨⟨0, .data⟩, by simp, rfl, rfl⟩
          have t1 : a.tmps.getD 23 undef = (.agg #[z0, z1, z2, z3, z4]) := hdep 1 _ 23 rfl rfl ⟨⟨1, .data⟩, by simp, rfl, rfl⟩
          refine .plain rfl (oper_any (J := fun r w' => r = (.bool X) ∧ Below wa.heap.size wa w') 16 #[.tmp 22, .tmp 23] _ rfl #[(.agg #[y0, y1, y2, y3, y4]), (.agg #[z0, z1, z2, z3, z4])] (by simp only [List.map_toArray, List.map_cons, List.map_nil, Act.eval]; rw [show a.tmps.getD 22 undef = _ from t0, show a.tmps.getD 23 undef = _ from t1]) (fun w => by kernel_rfl) ((hab.out wa hwa).mono fun e w' h => ⟨_, h.1, rfl, h.2⟩) ?_)
          rintro r w' ⟨rfl, hb⟩
          exact hK _ _ hb rfl
        | 3, hop =>
          obtain rfl := Option.some.inj hop
          have p5 : a.tmps.getD 5 undef = (.bool true) := hsl 5 rfl
          exact .plain rfl (wp_val (w' := wa) (v := (.bool true)) (by simp only [execOp, Act.eval]; rw [show a.tmps.getD 5 undef = _ from p5]; rfl) (hK _ _ (Below.refl _ _) rfl))
        | 4, hop =>
          obtain rfl := Option.some.inj hop
          have t3 : a.tmps.getD 25 undef = (.bool true) := hdep 3 _ 25 rfl rfl ⟨⟨3, .data⟩, by simp, rfl, rfl⟩
          exact .plain rfl (wp_val (w' := wa) (v := (.bool true)) (by simp only [execOp, Act.eval]; rw [show a.tmps.getD 25 undef = _ from t3]; rfl) (hK _ _ (Below.refl _ _) rfl))
        | 5, hop =>
          obtain rfl := Option.some.inj hop
          have gg : a.tmps.getD 26 undef = (.bool true) := hdep 4 _ 26 rfl rfl ⟨⟨4, .guard⟩, by simp, rfl, rfl⟩
          have p2 : a.tmps.getD 2 undef = (.pointer (some ⟨w.heap.size, 0, none⟩)) := hsl 2 rfl
          exact .want rfl rfl (by rw [hsz]; simp) gg (wp_val (w' := wa) (v := (.agg #[y0, y1, y2, y3, y4])) (by simp only [execOp, Act.eval]; rw [show a.tmps.getD 2 undef = _ from p2]; simp only [Sem.run_bind, ld_mV (hlda.out wa hwa), Result.andThen_ok, Sem.run_pure]) (hK _ _ (Below.refl _ _) rfl))
        | 6, hop =>
          obtain rfl := Option.some.inj hop
          have gg : a.tmps.getD 26 undef = (.bool true) := hdep 4 _ 26 rfl rfl ⟨⟨4, .guard⟩, by simp, rfl, rfl⟩
          have p3 : a.tmps.getD 3 undef = (.pointer (some ⟨w.heap.size + 1, 0, none⟩)) := hsl 3 rfl
          exact .want rfl rfl (by rw [hsz]; simp) gg (wp_val (w' := wa) (v := (.agg #[z0, z1, z2, z3, z4])) (by simp only [execOp, Act.eval]; rw [show a.tmps.getD 3 undef = _ from p3]; simp only [Sem.run_bind, ld_mV (hldb.out wa hwa), Result.andThen_ok, Sem.run_pure]) (hK _ _ (Below.refl _ _) rfl))
        | 7, hop =>
          obtain rfl := Option.some.inj hop
          have gg : a.tmps.getD 26 undef = (.bool true) := hdep 4 _ 26 rfl rfl ⟨⟨4, .guard⟩, by simp, rfl, rfl⟩
          have t5 : a.tmps.getD 27 undef = (.agg #[y0, y1, y2, y3, y4]) := hdep 5 _ 27 rfl rfl ⟨⟨5, .data⟩, by simp, rfl, rfl⟩
          have t6 : a.tmps.getD 28 undef = (.agg #[z0, z1, z2, z3, z4]) := hdep 6 _ 28 rfl rfl ⟨⟨6, .data⟩, by simp, rfl, rfl⟩
          refine .want rfl rfl (by rw [hsz]; simp) gg (oper_any (J := fun r w' => r = (.bool X) ∧ Below wa.heap.size wa w') 17 #[.tmp 27, .tmp 28] _ rfl #[(.agg #[y0, y1, y2, y3, y4]), (.agg #[z0, z1, z2, z3, z4])] (by simp only [List.map_toArray, List.map_cons, List.map_nil, Act.eval]; rw [show a.tmps.getD 27 undef = _ from t5, show a.tmps.getD 28 undef = _ from t6]) (fun w => by kernel_rfl) ((hsm.out wa hwa).mono fun e w' h => ⟨_, h.1, rfl, h.2⟩) ?_)
          rintro r w' ⟨rfl, hb⟩
          exact hK _ _ hb rfl
        | 8, hop =>
          obtain rfl := Option.some.inj hop
          have t4 : a.tmps.getD 26 undef = (.bool true) := hdep 4 _ 26 rfl rfl ⟨⟨4, .data⟩, by simp, rfl, rfl⟩
          have t7 : a.tmps.getD 29 undef = (.bool X) := hdep 7 _ 29 rfl rfl ⟨⟨7, .data⟩, by simp, rfl, rfl⟩
          exact .plain rfl (wp_val (w' := wa) (v := (.bool X)) (by simp only [execOp, Act.eval]; rw [show a.tmps.getD 26 undef = _ from t4, show a.tmps.getD 29 undef = _ from t7]; rfl) (hK _ _ (Below.refl _ _) rfl))
        | 9, hop =>
          obtain rfl := Option.some.inj hop
          have t2 : a.tmps.getD 24 undef = (.bool X) := hdep 2 _ 24 rfl rfl ⟨⟨2, .data⟩, by simp, rfl, rfl⟩
          have t8 : a.tmps.getD 30 undef = (.bool X) := hdep 8 _ 30 rfl rfl ⟨⟨8, .data⟩, by simp, rfl, rfl⟩
          exact .plain rfl (wp_val (w' := wa) (v := (.bool true)) (by simp only [execOp, Act.eval]; rw [show a.tmps.getD 24 undef = _ from t2, show a.tmps.getD 30 undef = _ from t8]; simp only [Sem.run_bind, eg_b, eq_b, Result.andThen_ok, Sem.run_pure, beq_self_eq_true]) (hK _ _ (Below.refl _ _) rfl))
        | 10, hop =>
          obtain rfl := Option.some.inj hop
          have t9 : a.tmps.getD 31 undef = (.bool true) := hdep 9 _ 31 rfl rfl ⟨⟨9, .data⟩, by simp, rfl, rfl⟩
          exact .plain rfl (wp_val (w' := wa) (v := (.bool true)) (by simp only [execOp, Act.eval]; rw [show a.tmps.getD 31 undef = _ from t9]; rfl) (hK _ _ (Below.refl _ _) rfl))
        | 11, hop =>
          obtain rfl := Option.some.inj hop
          have gg : a.tmps.getD 32 undef = (.bool true) := hdep 10 _ 32 rfl rfl ⟨⟨10, .guard⟩, by simp, rfl, rfl⟩
          have p2 : a.tmps.getD 2 undef = (.pointer (some ⟨w.heap.size, 0, none⟩)) := hsl 2 rfl
          exact .want rfl rfl (by rw [hsz]; simp) gg (wp_val (w' := wa) (v := (.agg #[y0, y1, y2, y3, y4])) (by simp only [execOp, Act.eval]; rw [show a.tmps.getD 2 undef = _ from p2]; simp only [Sem.run_bind, ld_mV (hlda.out wa hwa), Result.andThen_ok, Sem.run_pure]) (hK _ _ (Below.refl _ _) rfl))
        | 12, hop =>
          obtain rfl := Option.some.inj hop
          have gg : a.tmps.getD 32 undef = (.bool true) := hdep 10 _ 32 rfl rfl ⟨⟨10, .guard⟩, by simp, rfl, rfl⟩
          have p2 : a.tmps.getD 2 undef = (.pointer (some ⟨w.heap.size, 0, none⟩)) := hsl 2 rfl
          exact .want rfl rfl (by rw [hsz]; simp) gg (wp_val (w' := wa) (v := (.agg #[y0, y1, y2, y3, y4])) (by simp only [execOp, Act.eval]; rw [show a.tmps.getD 2 undef = _ from p2]; simp only [Sem.run_bind, ld_mV (hlda.out wa hwa), Result.andThen_ok, Sem.run_pure]) (hK _ _ (Below.refl _ _) rfl))
        | 13, hop =>
          obtain rfl := Option.some.inj hop
          have gg : a.tmps.getD 32 undef = (.bool true) := hdep 10 _ 32 rfl rfl ⟨⟨10, .guard⟩, by simp, rfl, rfl⟩
          have t11 : a.tmps.getD 33 undef = (.agg #[y0, y1, y2, y3, y4]) := hdep 11 _ 33 rfl rfl ⟨⟨11, .data⟩, by simp, rfl, rfl⟩
          have t12 : a.tmps.getD 34 undef = (.agg #[y0, y1, y2, y3, y4]) := hdep 12 _ 34 rfl rfl ⟨⟨12, .data⟩, by simp, rfl, rfl⟩
          refine .want rfl rfl (by rw [hsz]; simp) gg (oper_any (J := fun r w' => r = (.bool Y) ∧ Below wa.heap.size wa w') 16 #[.tmp 33, .tmp 34] _ rfl #[(.agg #[y0, y1, y2, y3, y4]), (.agg #[y0, y1, y2, y3, y4])] (by simp only [List.map_toArray, List.map_cons, List.map_nil, Act.eval]; rw [show a.tmps.getD 33 undef = _ from t11, show a.tmps.getD 34 undef = _ from t12]) (fun w => by kernel_rfl) ((haa.out wa hwa).mono fun e w' h => ⟨_, h.1, rfl, h.2⟩) ?_)
          rintro r w' ⟨rfl, hb⟩
          exact hK _ _ hb rfl
        | 14, hop =>
          obtain rfl := Option.some.inj hop
          have gg : a.tmps.getD 32 undef = (.bool true) := hdep 10 _ 32 rfl rfl ⟨⟨10, .guard⟩, by simp, rfl, rfl⟩
          have p2 : a.tmps.getD 2 undef = (.pointer (some ⟨w.heap.size, 0, none⟩)) := hsl 2 rfl
          exact .want rfl rfl (by rw [hsz]; simp) gg (wp_val (w' := wa) (v := (.agg #[y0, y1, y2, y3, y4])) (by simp only [execOp, Act.eval]; rw [show a.tmps.getD 2 undef = _ from p2]; simp only [Sem.run_bind, ld_mV (hlda.out wa hwa), Result.andThen_ok, Sem.run_pure]) (hK _ _ (Below.refl _ _) rfl))
        | 15, hop =>
          obtain rfl := Option.some.inj hop
          have gg : a.tmps.getD 32 undef = (.bool true) := hdep 10 _ 32 rfl rfl ⟨⟨10, .guard⟩, by simp, rfl, rfl⟩
          have t14 : a.tmps.getD 36 undef = (.agg #[y0, y1, y2, y3, y4]) := hdep 14 _ 36 rfl rfl ⟨⟨14, .data⟩, by simp, rfl, rfl⟩
          refine .want rfl rfl (by rw [hsz]; simp) gg (oper_any (J := fun r w' => r = (.bool Y) ∧ Below wa.heap.size wa w') 15 #[.tmp 36, .const ((.int .i64 0))] _ rfl #[(.agg #[y0, y1, y2, y3, y4]), (.int .i64 0)] (by simp only [List.map_toArray, List.map_cons, List.map_nil, Act.eval]; rw [show a.tmps.getD 36 undef = _ from t14]) (fun w => by kernel_rfl) ((hga.out wa hwa).mono fun e w' h => ⟨_, h.1, rfl, h.2⟩) ?_)
          rintro r w' ⟨rfl, hb⟩
          exact hK _ _ hb rfl
        | 16, hop =>
          obtain rfl := Option.some.inj hop
          have gg : a.tmps.getD 32 undef = (.bool true) := hdep 10 _ 32 rfl rfl ⟨⟨10, .guard⟩, by simp, rfl, rfl⟩
          have t13 : a.tmps.getD 35 undef = (.bool Y) := hdep 13 _ 35 rfl rfl ⟨⟨13, .data⟩, by simp, rfl, rfl⟩
          have t15 : a.tmps.getD 37 undef = (.bool Y) := hdep 15 _ 37 rfl rfl ⟨⟨15, .data⟩, by simp, rfl, rfl⟩
          exact .want rfl rfl (by rw [hsz]; simp) gg (wp_val (w' := wa) (v := (.bool true)) (by simp only [execOp, Act.eval]; rw [show a.tmps.getD 35 undef = _ from t13, show a.tmps.getD 37 undef = _ from t15]; simp only [Sem.run_bind, eg_b, eq_b, Result.andThen_ok, Sem.run_pure, beq_self_eq_true]) (hK _ _ (Below.refl _ _) rfl))
        | 17, hop =>
          obtain rfl := Option.some.inj hop
          have t10 : a.tmps.getD 32 undef = (.bool true) := hdep 10 _ 32 rfl rfl ⟨⟨10, .data⟩, by simp, rfl, rfl⟩
          have t16 : a.tmps.getD 38 undef = (.bool true) := hdep 16 _ 38 rfl rfl ⟨⟨16, .data⟩, by simp, rfl, rfl⟩
          exact .plain rfl (wp_val (w' := wa) (v := (.bool true)) (by simp only [execOp, Act.eval]; rw [show a.tmps.getD 32 undef = _ from t10, show a.tmps.getD 38 undef = _ from t16]; rfl) (hK _ _ (Below.refl _ _) rfl))
        | 18, hop =>
          obtain rfl := Option.some.inj hop
          have t17 : a.tmps.getD 39 undef = (.bool true) := hdep 17 _ 39 rfl rfl ⟨⟨17, .data⟩, by simp, rfl, rfl⟩
          exact .plain rfl (wp_val (w' := wa) (v := (.bool true)) (by simp only [execOp, Act.eval]; rw [show a.tmps.getD 39 undef = _ from t17]; rfl) (hK _ _ (Below.refl _ _) rfl))
        | 19, hop =>
          obtain rfl := Option.some.inj hop
          have gg : a.tmps.getD 40 undef = (.bool true) := hdep 18 _ 40 rfl rfl ⟨⟨18, .guard⟩, by simp, rfl, rfl⟩
          have p3 : a.tmps.getD 3 undef = (.pointer (some ⟨w.heap.size + 1, 0, none⟩)) := hsl 3 rfl
          exact .want rfl rfl (by rw [hsz]; simp) gg (wp_val (w' := wa) (v := (.agg #[z0, z1, z2, z3, z4])) (by simp only [execOp, Act.eval]; rw [show a.tmps.getD 3 undef = _ from p3]; simp only [Sem.run_bind, ld_mV (hldb.out wa hwa), Result.andThen_ok, Sem.run_pure]) (hK _ _ (Below.refl _ _) rfl))
        | 20, hop =>
          obtain rfl := Option.some.inj hop
          have gg : a.tmps.getD 40 undef = (.bool true) := hdep 18 _ 40 rfl rfl ⟨⟨18, .guard⟩, by simp, rfl, rfl⟩
          have p2 : a.tmps.getD 2 undef = (.pointer (some ⟨w.heap.size, 0, none⟩)) := hsl 2 rfl
          exact .want rfl rfl (by rw [hsz]; simp) gg (wp_val (w' := wa) (v := (.agg #[y0, y1, y2, y3, y4])) (by simp only [execOp, Act.eval]; rw [show a.tmps.getD 2 undef = _ from p2]; simp only [Sem.run_bind, ld_mV (hlda.out wa hwa), Result.andThen_ok, Sem.run_pure]) (hK _ _ (Below.refl _ _) rfl))
        | 21, hop =>
          obtain rfl := Option.some.inj hop
          have gg : a.tmps.getD 40 undef = (.bool true) := hdep 18 _ 40 rfl rfl ⟨⟨18, .guard⟩, by simp, rfl, rfl⟩
          have t19 : a.tmps.getD 41 undef = (.agg #[z0, z1, z2, z3, z4]) := hdep 19 _ 41 rfl rfl ⟨⟨19, .data⟩, by simp, rfl, rfl⟩
          have t20 : a.tmps.getD 42 undef = (.agg #[y0, y1, y2, y3, y4]) := hdep 20 _ 42 rfl rfl ⟨⟨20, .data⟩, by simp, rfl, rfl⟩
          refine .want rfl rfl (by rw [hsz]; simp) gg (oper_any (J := fun r w' => r = (.bool X) ∧ Below wa.heap.size wa w') 16 #[.tmp 41, .tmp 42] _ rfl #[(.agg #[z0, z1, z2, z3, z4]), (.agg #[y0, y1, y2, y3, y4])] (by simp only [List.map_toArray, List.map_cons, List.map_nil, Act.eval]; rw [show a.tmps.getD 41 undef = _ from t19, show a.tmps.getD 42 undef = _ from t20]) (fun w => by kernel_rfl) ((hba.out wa hwa).mono fun e w' h => ⟨_, h.1, rfl, h.2⟩) ?_)
          rintro r w' ⟨rfl, hb⟩
          exact hK _ _ hb rfl
        | 22, hop =>
          obtain rfl := Option.some.inj hop
          have gg : a.tmps.getD 40 undef = (.bool true) := hdep 18 _ 40 rfl rfl ⟨⟨18, .guard⟩, by simp, rfl, rfl⟩
          have p2 : a.tmps.getD 2 undef = (.pointer (some ⟨w.heap.size, 0, none⟩)) := hsl 2 rfl
          exact .want rfl rfl (by rw [hsz]; simp) gg (wp_val (w' := wa) (v := (.agg #[y0, y1, y2, y3, y4])) (by simp only [execOp, Act.eval]; rw [show a.tmps.getD 2 undef = _ from p2]; simp only [Sem.run_bind, ld_mV (hlda.out wa hwa), Result.andThen_ok, Sem.run_pure]) (hK _ _ (Below.refl _ _) rfl))
        | 23, hop =>
          obtain rfl := Option.some.inj hop
          have gg : a.tmps.getD 40 undef = (.bool true) := hdep 18 _ 40 rfl rfl ⟨⟨18, .guard⟩, by simp, rfl, rfl⟩
          have p3 : a.tmps.getD 3 undef = (.pointer (some ⟨w.heap.size + 1, 0, none⟩)) := hsl 3 rfl
          exact .want rfl rfl (by rw [hsz]; simp) gg (wp_val (w' := wa) (v := (.agg #[z0, z1, z2, z3, z4])) (by simp only [execOp, Act.eval]; rw [show a.tmps.getD 3 undef = _ from p3]; simp only [Sem.run_bind, ld_mV (hldb.out wa hwa), Result.andThen_ok, Sem.run_pure]) (hK _ _ (Below.refl _ _) rfl))
        | 24, hop =>
          obtain rfl := Option.some.inj hop
          have gg : a.tmps.getD 40 undef = (.bool true) := hdep 18 _ 40 rfl rfl ⟨⟨18, .guard⟩, by simp, rfl, rfl⟩
          have t22 : a.tmps.getD 44 undef = (.agg #[y0, y1, y2, y3, y4]) := hdep 22 _ 44 rfl rfl ⟨⟨22, .data⟩, by simp, rfl, rfl⟩
          have t23 : a.tmps.getD 45 undef = (.agg #[z0, z1, z2, z3, z4]) := hdep 23 _ 45 rfl rfl ⟨⟨23, .data⟩, by simp, rfl, rfl⟩
          refine .want rfl rfl (by rw [hsz]; simp) gg (oper_any (J := fun r w' => r = (.bool X) ∧ Below wa.heap.size wa w') 16 #[.tmp 44, .tmp 45] _ rfl #[(.agg #[y0, y1, y2, y3, y4]), (.agg #[z0, z1, z2, z3, z4])] (by simp only [List.map_toArray, List.map_cons, List.map_nil, Act.eval]; rw [show a.tmps.getD 44 undef = _ from t22, show a.tmps.getD 45 undef = _ from t23]) (fun w => by kernel_rfl) ((hab.out wa hwa).mono fun e w' h => ⟨_, h.1, rfl, h.2⟩) ?_)
          rintro r w' ⟨rfl, hb⟩
          exact hK _ _ hb rfl
        | 25, hop =>
          obtain rfl := Option.some.inj hop
          have gg : a.tmps.getD 40 undef = (.bool true) := hdep 18 _ 40 rfl rfl ⟨⟨18, .guard⟩, by simp, rfl, rfl⟩
          have t21 : a.tmps.getD 43 undef = (.bool X) := hdep 21 _ 43 rfl rfl ⟨⟨21, .data⟩, by simp, rfl, rfl⟩
          have t24 : a.tmps.getD 46 undef = (.bool X) := hdep 24 _ 46 rfl rfl ⟨⟨24, .data⟩, by simp, rfl, rfl⟩
          exact .want rfl rfl (by rw [hsz]; simp) gg (wp_val (w' := wa) (v := (.bool true)) (by simp only [execOp, Act.eval]; rw [show a.tmps.getD 43 undef = _ from t21, show a.tmps.getD 46 undef = _ from t24]; simp only [Sem.run_bind, eg_b, eq_b, Result.andThen_ok, Sem.run_pure, beq_self_eq_true]) (hK _ _ (Below.refl _ _) rfl))
        | 26, hop =>
          obtain rfl := Option.some.inj hop
          have t18 : a.tmps.getD 40 undef = (.bool true) := hdep 18 _ 40 rfl rfl ⟨⟨18, .data⟩, by simp, rfl, rfl⟩
          have t25 : a.tmps.getD 47 undef = (.bool true) := hdep 25 _ 47 rfl rfl ⟨⟨25, .data⟩, by simp, rfl, rfl⟩
          exact .plain rfl (wp_val (w' := wa) (v := (.bool true)) (by simp only [execOp, Act.eval]; rw [show a.tmps.getD 40 undef = _ from t18, show a.tmps.getD 47 undef = _ from t25]; rfl) (hK _ _ (Below.refl _ _) rfl))
        | 27, _ => exact absurd rfl hj
        | _ + 28, hop => exact absurd hop (by simp)
      · intro a wa hwa hdf hsz hsl hrr K hK
        have t26 : a.tmps.getD 48 undef = (.bool true) := hrr 26 _ 48 rfl (by decide) rfl
        refine .plain rfl (wp_val (w' := wa) (v := (.bool true)) (by simp only [execOp, Act.eval]; rw [show a.tmps.getD 48 undef = _ from t26]; rfl) ?_)
        refine hK _ wa ?_
        have hact := act_puts hdf hsz hsl
        clear hrr hsl hdf hsz hK t26
        simp only [List.filterMap_cons, List.filterMap_nil, List.foldl_cons, List.foldl_nil] at hact
        rw [hact]
        generalize a.tmps.getD 22 undef = y22
        generalize a.tmps.getD 23 undef = y23
        generalize a.tmps.getD 24 undef = y24
        generalize a.tmps.getD 25 undef = y25
        generalize a.tmps.getD 26 undef = y26
        generalize a.tmps.getD 27 undef = y27
        generalize a.tmps.getD 28 undef = y28
        generalize a.tmps.getD 29 undef = y29
        generalize a.tmps.getD 30 undef = y30
        generalize a.tmps.getD 31 undef = y31
        generalize a.tmps.getD 32 undef = y32
        generalize a.tmps.getD 33 undef = y33
        generalize a.tmps.getD 34 undef = y34
        generalize a.tmps.getD 35 undef = y35
        generalize a.tmps.getD 36 undef = y36
        generalize a.tmps.getD 37 undef = y37
        generalize a.tmps.getD 38 undef = y38
        generalize a.tmps.getD 39 undef = y39
        generalize a.tmps.getD 40 undef = y40
        generalize a.tmps.getD 41 undef = y41
        generalize a.tmps.getD 42 undef = y42
        generalize a.tmps.getD 43 undef = y43
        generalize a.tmps.getD 44 undef = y44
        generalize a.tmps.getD 45 undef = y45
        generalize a.tmps.getD 46 undef = y46
        generalize a.tmps.getD 47 undef = y47
        generalize a.tmps.getD 48 undef = y48
        clear hact
        simp only [Act.put, List.setIfInBounds_toArray, List.set_cons_succ, List.set_cons_zero]
        have hf := hide1 (hB6.out.trans (hwa.mono hB6.out.size))
        clear hab hba haa hga hsm hlda hldb hwa hB6
        go_wp2
        go_ret
        exact ⟨rfl, hf.out⟩
end Go.Proofs.YtkkgcbaofdejjaaGreatDoor

namespace Go.Proofs.YtkkgcbaofdejjaaGreatDoor
open Go.ChangeShapes Go.WideShapes Go.ChangeAt Go.RowKit

def laidJ : List (String × DataW Unit) := [("math/bits.deBruijn32tab", Rows.laid_math_bits_deBruijn32tab), ("math/bits.deBruijn64tab", Rows.laid_math_bits_deBruijn64tab), ("internal/strconv.uint64pow10", Rows.laid_internal_strconv_uint64pow10), ("unicode/utf8.acceptRanges", Rows.laid_unicode_utf8_acceptRanges), ("strconv.ErrRange", Rows.laid_strconv_ErrRange), ("strconv.ErrSyntax", Rows.laid_strconv_ErrSyntax), ("unicode/utf8.first", Rows.laid_unicode_utf8_first)]
theorem acc_L : (Rows.laid_unicode_utf8_acceptRanges : DataW Unit) = Lib.acceptData := by kernel_rfl
theorem pow_L : (Rows.laid_internal_strconv_uint64pow10 : DataW Unit) = Lib.tabData .u64 Lib.pow10Tab := by kernel_rfl
theorem fst_L : Rows.laid_unicode_utf8_first = Lib.firstData := Pinned.utf8First_eq
/-- A variable that holds an error. -/
theorem err_cell {W : World} {n nm : String} {d : DataW Unit} {g : Nat} {t : TypeId} {ms : Array (String × TypeId)} (hg : Tryz.prog.globalNamed n = some g) (ht : (Tryz.prog.globals[g]?).map (·.type) = some t) (hi : Tryz.prog.underlying t = some (.interface ms))
    (h : Lib.VarReads Tryz.prog W n (.iface nm d)) : ∃ te pe, W.cell? ⟨g, 0, none⟩ = some (.iface te pe) := by
  obtain ⟨g', t', cs, fuel, p, hg', hty, hvar, hd⟩ := h
  obtain rfl := Option.some.inj (hg.symm.trans hg')
  obtain rfl := Option.some.inj (ht.symm.trans hty)
  obtain ⟨f1, u, v, e, hn, h1⟩ := iface_of_trod hi hd
  refine ⟨u, v, ?_⟩
  rw [World.var?_cell hg hvar 0, ← Array.getElem?_toList, e]
  rfl
theorem of_laidJ {W : World} (h : laidMetH Tryz.prog laidJ W) : Ev W ∧ 8 ≤ W.heap.size := by
  rw [MakeChecks.laidMetH_plain _ _ _ (by kernel_rfl)] at h
  have r1 : Lib.VarReads Tryz.prog W "unicode/utf8.first" Lib.firstData := fst_L ▸ Lib.laidMet.reads h (by simp [laidJ])
  have r2 : Lib.VarReads Tryz.prog W "unicode/utf8.acceptRanges" Lib.acceptData := acc_L ▸ Lib.laidMet.reads h (by simp [laidJ])
  have r3 : Lib.VarReads Tryz.prog W "internal/strconv.uint64pow10" (Lib.tabData .u64 Lib.pow10Tab) := pow_L ▸ Lib.laidMet.reads h (by simp [laidJ])
  have r4 : Lib.VarReads Tryz.prog W "strconv.ErrSyntax" Rows.laid_strconv_ErrSyntax := Lib.laidMet.reads h (by simp [laidJ])
  have r5 : Lib.VarReads Tryz.prog W "strconv.ErrRange" Rows.laid_strconv_ErrRange := Lib.laidMet.reads h (by simp [laidJ])
  have r6 : Lib.VarReads Tryz.prog W "math/bits.deBruijn64tab" Rows.laid_math_bits_deBruijn64tab := Lib.laidMet.reads h (by simp [laidJ])
  refine ⟨⟨utf8Tabs_of_reads lays260 ⟨by kernel_rfl, by kernel_rfl, by kernel_rfl, by kernel_rfl, by kernel_rfl, by kernel_rfl, by kernel_rfl⟩ r1 r2, ?_, ?_, ?_⟩, ?_⟩
  · obtain ⟨g, t, cs, fuel, p, hg, hty, hvar, hd⟩ := r3
    have e1 : Tryz.prog.globalNamed "internal/strconv.uint64pow10" = some 5 := by kernel_rfl
    obtain rfl := Option.some.inj (e1.symm.trans hg)
    have e2 : (Tryz.prog.globals[5]?).map (·.type) = some 152 := by kernel_rfl
    obtain rfl := Option.some.inj (e2.symm.trans hty)
    unfold Lib.TabIs
    rw [hvar, ← Lib.cells_of_tab Tryz.underlying152 Tryz.underlying104 (by kernel_rfl) (by kernel_rfl) hd]
  · exact err_cell (by kernel_rfl) (by kernel_rfl) Tryz.underlying30 r4
  · exact err_cell (by kernel_rfl) (by kernel_rfl) Tryz.underlying30 r5
  · obtain ⟨g, t, cs, fuel, p, hg, hty, hvar, hd⟩ := r6
    have e1 : Tryz.prog.globalNamed "math/bits.deBruijn64tab" = some 7 := by kernel_rfl
    obtain rfl := Option.some.inj (e1.symm.trans hg)
    unfold World.var? at hvar
    rw [hg] at hvar
    simp only [Option.bind_some] at hvar
    rcases Nat.lt_or_ge 7 W.heap.size with h' | h'
    · exact h'
    · rw [Array.getElem?_eq_none h'] at hvar; cases hvar
theorem laid_metJ (os : Os) (args : Array Value) : laidMetH Tryz.prog laidJ ((World.laidAll Tryz.prog os laidJ).forCall (fun _ _ => 0) ⟨#[], args, []⟩).memory := by
  rw [MakeChecks.laidMetH_plain _ _ _ (by kernel_rfl)]
  exact laidMet_laidAll _ (by kernel_rfl) (by kernel_rfl)
theorem st_of (s : ByteArray) : st s.data.toList = s := by cases s; simp [st]
end Go.Proofs.YtkkgcbaofdejjaaGreatDoor

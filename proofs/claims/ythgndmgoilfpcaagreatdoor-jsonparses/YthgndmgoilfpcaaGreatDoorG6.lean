/- KR3, KR4, KP1, KP2, KP3, KP4, KP5, KP6, KB1, KP7: laid together. -/
import Derived.Lib.ValidLaws
import Derived.Lib.ConvBytes
import Derived.Test.YthgndmgoilfpcaaGreatDoorG5
import Derived.Test.YthgndmgoilfpcaaGreatDoorG3
import Derived.Test.YthgndmgoilfpcaaGreatDoorG4
namespace Go.Proofs.YthgndmgoilfpcaaGreatDoor
open Go.RowKit

theorem fst_c (x : UInt8) (m : List UInt8) : fstR (x :: m) = if x.toNat < 128 then fgo 1 x.toNat (x :: m) else if x.toNat < 192 then (0, 0) else if x.toNat < 224 then fgo 2 (x.toNat - 192) (x :: m) else if x.toNat < 240 then fgo 3 (x.toNat - 224) (x :: m) else fgo 4 (x.toNat - 240) (x :: m) := rfl
theorem first_d {w : World} {a : Option Addr} {cap : Nat} {l : List UInt8} (h : BsA w (.slice a l.length cap) l) (hcap : l.length ≤ cap) : Calls Tryz.prog 86 #[.slice a l.length cap] w (AnF w (fstR l)) := by
  cases l with
  | nil => exact first_0 h
  | cons x m =>
    simp only [List.length_cons] at h hcap ⊢
    rw [fst_c]
    by_cases h1 : x.toNat < 128
    · rw [if_pos h1]
      by_cases h2 : x.toNat < 16
      · exact first_1a h hcap h2 (by omega)
      · by_cases h3 : x.toNat < 32
        · exact first_1b h hcap (by omega) h3 (by omega)
        · exact first_1c h hcap (by omega) h1 (by omega)
    rw [if_neg h1]
    by_cases h2 : x.toNat < 192
    · rw [if_pos h2]
      exact first_x h h1 h2
    rw [if_neg h2]
    by_cases h3 : x.toNat < 224
    · rw [if_pos h3]
      by_cases hs : m.length + 1 < 2
      · have : fgo 2 (x.toNat - 192) (x :: m) = (0, 0) := by unfold fgo; rw [if_pos (by simp only [List.length_cons]; omega)]
        rw [this]
        exact first_s2 h (by omega) h3 hs
      · by_cases h4 : x.toNat < 208
        · exact first_2a h hcap (by omega) h4 (by omega)
        · exact first_2b h hcap (by omega) h3 (by omega)
    rw [if_neg h3]
    by_cases h4 : x.toNat < 240
    · rw [if_pos h4]
      by_cases hs : m.length + 1 < 3
      · have : fgo 3 (x.toNat - 224) (x :: m) = (0, 0) := by unfold fgo; rw [if_pos (by simp only [List.length_cons]; omega)]
        rw [this]
        exact first_s3 h (by omega) h4 hs
      · exact first_3 h hcap (by omega) h4 (by omega)
    rw [if_neg h4]
    by_cases hs : m.length + 1 < 4
    · have : fgo 4 (x.toNat - 240) (x :: m) = (0, 0) := by unfold fgo; rw [if_pos (by simp only [List.length_cons]; omega)]
      rw [this]
      exact first_s4 h (by omega) hs
    · exact first_4 h hcap (by omega) (by omega)
def frs (l : List UInt8) : Nat × Nat := if l = [] ∨ ((Lib.decodeL l).1 = 65533 ∧ (Lib.decodeL l).2 = 1) then (0, 0) else Lib.decodeL l
theorem frs_bad {l : List UInt8} (h : Lib.decodeL l = (65533, 1)) : frs l = (0, 0) := by unfold frs; rw [if_pos (.inr (by rw [h]; exact ⟨rfl, rfl⟩))]
theorem frs_good {l : List UInt8} {c n : Nat} (hl : l ≠ []) (h : Lib.decodeL l = (c, n)) (hc : ¬ (c = 65533 ∧ n = 1)) : frs l = (c, n) := by unfold frs; rw [if_neg (fun e => e.elim hl (by rw [h]; exact hc)), h]
theorem u8_of {x : UInt8} {n : Nat} (h : n = x.toNat) : UInt8.ofNat n = x := by subst h; simp
theorem fend_bad {n c : Nat} {l : List UInt8} (h : bdc c ∨ sgn c ≠ l.take n) : fend n c l = (0, 0) := by unfold fend; rw [if_pos h]
theorem fend_good {n c : Nat} {l : List UInt8} (h : ¬ bdc c) (h2 : sgn c = l.take n) : fend n c l = (c, n) := by unfold fend; rw [if_neg (fun e => e.elim h (fun e => e h2))]
theorem sgn_len (c : Nat) : (sgn c).length = if c < 128 then 1 else if c < 2048 then 2 else if c < 65536 then 3 else 4 := by
  unfold sgn
  split
  · rfl
  · split
    · rfl
    · split <;> rfl
theorem fst_2 {x : UInt8} {m : List UInt8} (h1 : 192 ≤ x.toNat) (h2 : x.toNat < 224) : fgo 2 (x.toNat - 192) (x :: m) = frs (x :: m) := by
  cases m with
  | nil =>
    rw [frs_bad]
    · unfold fgo; rw [if_pos (by simp)]
    · rw [Lib.decodeL_N]; unfold Lib.decodeN
      simp only [List.length_cons, List.length_nil, List.getD_cons_zero]
      rw [if_neg (by omega), if_neg (by omega), if_neg (by omega), if_neg (by omega)]
  | cons y m =>
    have hy := y.toNat_lt
    unfold fgo
    rw [if_neg (by simp)]
    simp only [List.tail_cons, Nat.add_one_sub_one, fcl]
    have hd : Lib.decodeL (x :: y :: m) = if y.toNat / 64 = 2 then (if 128 ≤ x.toNat % 32 * 64 + y.toNat % 64 then (x.toNat % 32 * 64 + y.toNat % 64, 2) else (65533, 1)) else (65533, 1) := by
      rw [Lib.decodeL_N]; unfold Lib.decodeN
      simp only [List.length_cons, List.getD_cons_zero, List.getD_cons_succ]
      rw [if_neg (by omega)]
      by_cases hq : y.toNat / 64 = 2
      · rw [if_pos ⟨by omega, by omega, hq⟩, if_pos hq]
      · rw [if_neg (fun e => hq e.2.2), if_neg hq, if_neg (by omega), if_neg (by omega)]
    by_cases hb : y.toNat < 128 ∨ 191 < y.toNat
    · rw [if_pos hb]
      rw [if_neg (by omega)] at hd
      rw [frs_bad hd]
    · rw [if_neg hb]
      rw [if_pos (by omega)] at hd
      simp only
      have hc : 64 * (x.toNat - 192) + y.toNat - 128 = x.toNat % 32 * 64 + y.toNat % 64 := by omega
      rw [hc]
      by_cases hq : 128 ≤ x.toNat % 32 * 64 + y.toNat % 64
      · rw [if_pos hq] at hd
        rw [frs_good (by simp) hd (by omega), fend_good (by unfold bdc; omega)]
        unfold sgn
        rw [if_neg (by omega), if_pos (by omega)]
        simp only [List.take_succ_cons, List.take_zero]
        rw [u8_of (x := x) (by omega), u8_of (x := y) (by omega)]
      · rw [if_neg hq] at hd
        rw [frs_bad hd, fend_bad (.inr fun e => ?_)]
        have := congrArg List.length e
        rw [sgn_len, if_pos (by omega)] at this
        simp at this
theorem fst_3 {x : UInt8} {m : List UInt8} (h1 : 224 ≤ x.toNat) (h2 : x.toNat < 240) : fgo 3 (x.toNat - 224) (x :: m) = frs (x :: m) := by
  match m with
  | [] =>
    rw [frs_bad]
    · unfold fgo; rw [if_pos (by simp)]
    · rw [Lib.decodeL_N]; unfold Lib.decodeN
      simp only [List.length_cons, List.length_nil, List.getD_cons_zero]
      rw [if_neg (by omega), if_neg (by omega), if_neg (by omega), if_neg (by omega)]
  | [y] =>
    rw [frs_bad]
    · unfold fgo; rw [if_pos (by simp)]
    · rw [Lib.decodeL_N]; unfold Lib.decodeN
      simp only [List.length_cons, List.length_nil, List.getD_cons_zero]
      rw [if_neg (by omega), if_neg (by omega), if_neg (by omega), if_neg (by omega)]
  | y :: z :: m =>
    have hy := y.toNat_lt
    have hz := z.toNat_lt
    unfold fgo
    rw [if_neg (by simp)]
    simp only [List.tail_cons, Nat.reduceSub, fcl]
    have hd : Lib.decodeL (x :: y :: z :: m) = if y.toNat / 64 = 2 ∧ z.toNat / 64 = 2 then (if 2048 ≤ x.toNat % 16 * 4096 + y.toNat % 64 * 64 + z.toNat % 64 ∧ (x.toNat % 16 * 4096 + y.toNat % 64 * 64 + z.toNat % 64 < 55296 ∨ 57344 ≤ x.toNat % 16 * 4096 + y.toNat % 64 * 64 + z.toNat % 64) then (x.toNat % 16 * 4096 + y.toNat % 64 * 64 + z.toNat % 64, 3) else (65533, 1)) else (65533, 1) := by
      rw [Lib.decodeL_N]; unfold Lib.decodeN
      simp only [List.length_cons, List.getD_cons_zero, List.getD_cons_succ]
      rw [if_neg (by omega), if_neg (by omega)]
      by_cases hq : y.toNat / 64 = 2 ∧ z.toNat / 64 = 2
      · rw [if_pos ⟨by omega, ⟨by omega, hq.1⟩, by omega, hq.2⟩, if_pos hq]
        by_cases hv : 2048 ≤ x.toNat % 16 * 4096 + y.toNat % 64 * 64 + z.toNat % 64 ∧ (x.toNat % 16 * 4096 + y.toNat % 64 * 64 + z.toNat % 64 < 55296 ∨ 57344 ≤ x.toNat % 16 * 4096 + y.toNat % 64 * 64 + z.toNat % 64)
        · rw [if_pos ⟨hv.1, by omega⟩, if_pos hv]
        · rw [if_neg (by omega), if_neg hv]
      · rw [if_neg (fun e => hq ⟨e.2.1.2, e.2.2.2⟩), if_neg hq, if_neg (by omega)]
    by_cases hb : y.toNat < 128 ∨ 191 < y.toNat
    · rw [if_pos hb]
      rw [if_neg (by omega)] at hd
      rw [frs_bad hd]
    · rw [if_neg hb]
      by_cases hb2 : z.toNat < 128 ∨ 191 < z.toNat
      · rw [if_pos hb2]
        rw [if_neg (by omega)] at hd
        rw [frs_bad hd]
      · rw [if_neg hb2]
        rw [if_pos (by omega)] at hd
        simp only
        have hc : 64 * (64 * (x.toNat - 224) + y.toNat - 128) + z.toNat - 128 = x.toNat % 16 * 4096 + y.toNat % 64 * 64 + z.toNat % 64 := by omega
        rw [hc]
        generalize hC : x.toNat % 16 * 4096 + y.toNat % 64 * 64 + z.toNat % 64 = C at *
        by_cases hq : 2048 ≤ C ∧ (C < 55296 ∨ 57344 ≤ C)
        · rw [if_pos hq] at hd
          rw [frs_good (by simp) hd (by omega), fend_good (by unfold bdc; omega)]
          unfold sgn
          rw [if_neg (by omega), if_neg (by omega), if_pos (by omega)]
          simp only [List.take_succ_cons, List.take_zero]
          rw [u8_of (x := x) (by omega), u8_of (x := y) (by omega), u8_of (x := z) (by omega)]
        · rw [if_neg hq] at hd
          rw [frs_bad hd]
          by_cases hs : 2048 ≤ C
          · exact fend_bad (.inl (by unfold bdc; omega))
          · refine fend_bad (.inr fun e => ?_)
            have := congrArg List.length e
            rw [sgn_len] at this
            simp only [List.take_succ_cons, List.take_zero, List.length_cons, List.length_nil] at this
            split at this
            · omega
            · rw [if_pos (by omega)] at this; omega
theorem fst_4 {x : UInt8} {m : List UInt8} (h1 : 240 ≤ x.toNat) : fgo 4 (x.toNat - 240) (x :: m) = frs (x :: m) := by
  have hx := x.toNat_lt
  match m with
  | [] =>
    rw [frs_bad]
    · unfold fgo; rw [if_pos (by simp)]
    · rw [Lib.decodeL_N]; unfold Lib.decodeN
      simp only [List.length_cons, List.length_nil, List.getD_cons_zero]
      rw [if_neg (by omega), if_neg (by omega), if_neg (by omega), if_neg (by omega)]
  | [y] =>
    rw [frs_bad]
    · unfold fgo; rw [if_pos (by simp)]
    · rw [Lib.decodeL_N]; unfold Lib.decodeN
      simp only [List.length_cons, List.length_nil, List.getD_cons_zero]
      rw [if_neg (by omega), if_neg (by omega), if_neg (by omega), if_neg (by omega)]
  | [y, z] =>
    rw [frs_bad]
    · unfold fgo; rw [if_pos (by simp)]
    · rw [Lib.decodeL_N]; unfold Lib.decodeN
      simp only [List.length_cons, List.length_nil, List.getD_cons_zero]
      rw [if_neg (by omega), if_neg (by omega), if_neg (by omega), if_neg (by omega)]
  | y :: z :: u :: m =>
    have hy := y.toNat_lt
    have hz := z.toNat_lt
    have hu := u.toNat_lt
    unfold fgo
    rw [if_neg (by simp)]
    simp only [List.tail_cons, Nat.reduceSub, fcl]
    have hd : Lib.decodeL (x :: y :: z :: u :: m) = if x.toNat < 248 ∧ y.toNat / 64 = 2 ∧ z.toNat / 64 = 2 ∧ u.toNat / 64 = 2 then (if 65536 ≤ x.toNat % 8 * 262144 + y.toNat % 64 * 4096 + z.toNat % 64 * 64 + u.toNat % 64 ∧ x.toNat % 8 * 262144 + y.toNat % 64 * 4096 + z.toNat % 64 * 64 + u.toNat % 64 ≤ 1114111 then (x.toNat % 8 * 262144 + y.toNat % 64 * 4096 + z.toNat % 64 * 64 + u.toNat % 64, 4) else (65533, 1)) else (65533, 1) := by
      rw [Lib.decodeL_N]; unfold Lib.decodeN
      simp only [List.length_cons, List.getD_cons_zero, List.getD_cons_succ]
      rw [if_neg (by omega), if_neg (by omega), if_neg (by omega)]
      by_cases hq : x.toNat < 248 ∧ y.toNat / 64 = 2 ∧ z.toNat / 64 = 2 ∧ u.toNat / 64 = 2
      · obtain ⟨q1, q2, q3, q4⟩ := hq
        rw [if_pos ⟨by omega, ⟨by omega, q2⟩, ⟨by omega, q3⟩, by omega, q4⟩, if_pos (show x.toNat < 248 ∧ y.toNat / 64 = 2 ∧ z.toNat / 64 = 2 ∧ u.toNat / 64 = 2 from ⟨q1, q2, q3, q4⟩)]
        by_cases hv : 65536 ≤ x.toNat % 8 * 262144 + y.toNat % 64 * 4096 + z.toNat % 64 * 64 + u.toNat % 64 ∧ x.toNat % 8 * 262144 + y.toNat % 64 * 4096 + z.toNat % 64 * 64 + u.toNat % 64 ≤ 1114111
        · rw [if_pos ⟨hv.1, by omega⟩, if_pos hv]
        · rw [if_neg (by omega), if_neg hv]
      · rw [if_neg (fun e => hq ⟨by omega, e.2.1.2, e.2.2.1.2, e.2.2.2.2⟩), if_neg hq]
    by_cases hb : y.toNat < 128 ∨ 191 < y.toNat
    · rw [if_pos hb]
      rw [if_neg (by omega)] at hd
      rw [frs_bad hd]
    · rw [if_neg hb]
      by_cases hb2 : z.toNat < 128 ∨ 191 < z.toNat
      · rw [if_pos hb2]
        rw [if_neg (by omega)] at hd
        rw [frs_bad hd]
      · rw [if_neg hb2]
        by_cases hb3 : u.toNat < 128 ∨ 191 < u.toNat
        · rw [if_pos hb3]
          rw [if_neg (by omega)] at hd
          rw [frs_bad hd]
        · rw [if_neg hb3]
          simp only
          by_cases hx8 : x.toNat < 248
          · rw [if_pos ⟨hx8, by omega, by omega, by omega⟩] at hd
            have hc : 64 * (64 * (64 * (x.toNat - 240) + y.toNat - 128) + z.toNat - 128) + u.toNat - 128 = x.toNat % 8 * 262144 + y.toNat % 64 * 4096 + z.toNat % 64 * 64 + u.toNat % 64 := by omega
            rw [hc]
            generalize hC : x.toNat % 8 * 262144 + y.toNat % 64 * 4096 + z.toNat % 64 * 64 + u.toNat % 64 = C at *
            by_cases hq : 65536 ≤ C ∧ C ≤ 1114111
            · rw [if_pos hq] at hd
              rw [frs_good (by simp) hd (by omega), fend_good (by unfold bdc; omega)]
              unfold sgn
              rw [if_neg (by omega), if_neg (by omega), if_neg (by omega)]
              simp only [List.take_succ_cons, List.take_zero]
              rw [u8_of (x := x) (by omega), u8_of (x := y) (by omega), u8_of (x := z) (by omega), u8_of (x := u) (by omega)]
            · rw [if_neg hq] at hd
              rw [frs_bad hd]
              by_cases hs : 65536 ≤ C
              · exact fend_bad (.inl (by unfold bdc; omega))
              · refine fend_bad (.inr fun e => ?_)
                have := congrArg List.length e
                rw [sgn_len] at this
                simp only [List.take_succ_cons, List.take_zero, List.length_cons, List.length_nil] at this
                split at this
                · omega
                · split at this
                  · omega
                  · rw [if_pos (by omega)] at this; omega
          · rw [if_neg (by omega)] at hd
            rw [frs_bad hd]
            exact fend_bad (.inl (by unfold bdc; omega))
theorem fst_eq (l : List UInt8) : fstR l = frs l := by
  cases l with
  | nil => rfl
  | cons x m =>
    rw [fst_c]
    by_cases h1 : x.toNat < 128
    · rw [if_pos h1, frs_good (by simp) (Lib.decodeL_ascii x m h1) (by omega)]
      unfold fgo
      rw [if_neg (by simp)]
      simp only [Nat.sub_self, fcl]
      refine fend_good (by unfold bdc; omega) ?_
      unfold sgn
      rw [if_pos h1]
      simp
    rw [if_neg h1]
    by_cases h2 : x.toNat < 192
    · rw [if_pos h2, frs_bad]
      rw [Lib.decodeL_N]; unfold Lib.decodeN
      simp only [List.getD_cons_zero]
      rw [if_neg (by omega), if_neg (by omega), if_neg (by omega), if_neg (by omega)]
    rw [if_neg h2]
    by_cases h3 : x.toNat < 224
    · rw [if_pos h3]; exact fst_2 (by omega) h3
    rw [if_neg h3]
    by_cases h4 : x.toNat < 240
    · rw [if_pos h4]; exact fst_3 (by omega) h4
    · rw [if_neg h4]; exact fst_4 (by omega)
end Go.Proofs.YthgndmgoilfpcaaGreatDoor

namespace Go.Proofs.YthgndmgoilfpcaaGreatDoor
open Go.RowKit

theorem BsA.drop {w : World} {b o n cap : Nat} {l : List UInt8} (h : BsA w (.slice (some ⟨b, o, none⟩) n cap) l) (k c : Nat) : BsA w (.slice (some ⟨b, o + k, none⟩) (l.length - k) c) (l.drop k) := by
  obtain ⟨a', cap', e, h⟩ := h
  cases e
  refine ⟨_, c, by rw [List.length_drop], ?_⟩
  rcases h with rfl | ⟨b', o', e, hb, hc⟩
  · left; simp
  · cases e
    right
    refine ⟨b, o + k, rfl, hb, fun j x hj => ?_⟩
    rw [List.getElem?_drop] at hj
    have := hc (k + j) x hj
    rwa [← Nat.add_assoc] at this
theorem sl_from {b o n k cap : Nat} (hk : k ≤ n) (w : World) : (Instr.sliceAt 22 (.slice (some ⟨b, o, none⟩) n cap) (some (.int .i64 (k : Nat))) none none).run Tryz.prog w = .ok (.slice (some ⟨b, if cap = k then o else o + k, none⟩) (n - k) (cap - k)) w := by
  by_cases h : cap = k
  · subst h
    simp [Instr.sliceAt, go_sem, hk]
  · rw [if_neg h]
    simp [Instr.sliceAt, go_sem, hk]
    omega
end Go.Proofs.YthgndmgoilfpcaaGreatDoor

namespace Go.Proofs.YthgndmgoilfpcaaGreatDoor
open Go.RowKit

structure Tg (sl : Value) (B : List UInt8) (g p : Nat) (bad : Bool) (w : World) : Prop where
  box : w.heap[g]? = some (.cells #[sl, .int .i64 (p : Nat), .bool bad] 60 (0, 0))
  bs : BsA w sl B
  ng : B ≠ [] → ∀ a n c, sl = .slice (some a) n c → a.block ≠ g
  cp : ∀ a n c, sl = .slice a n c → n ≤ c
def nx (B : List UInt8) (p : Nat) : Nat := match B[p]? with
  | some x => x.toNat
  | none => 0
theorem nx_lt (B : List UInt8) (p : Nat) : nx B p < 256 := by
  unfold nx
  split
  · exact UInt8.toNat_lt _
  · omega
theorem nx_no {B : List UInt8} {p : Nat} (h : B.length ≤ p) : nx B p = 0 := by unfold nx; rw [List.getElem?_eq_none h]
theorem nx_drop {B : List UInt8} {p : Nat} {x : UInt8} {m : List UInt8} (h : B.drop p = x :: m) : nx B p = x.toNat := by
  unfold nx
  have : B[p]? = some x := by
    have h1 : (B.drop p)[0]? = some x := by rw [h]; rfl
    rwa [List.getElem?_drop, Nat.add_zero] at h1
  rw [this]
theorem drop_lt {B : List UInt8} {p : Nat} {x : UInt8} {m : List UInt8} (h : B.drop p = x :: m) : p < B.length ∧ B.drop (p + 1) = m := by
  constructor
  · have := congrArg List.length h
    rw [List.length_drop, List.length_cons] at this
    omega
  · rw [← List.drop_drop, h]; rfl
theorem BsA.same {w w' : World} {v : Value} {l : List UInt8} (h : BsA w v l) (hs : w.heap.size ≤ w'.heap.size) (hk : l ≠ [] → ∀ a n c, v = .slice (some a) n c → a.block < w.heap.size → w'.heap[a.block]? = w.heap[a.block]?) : BsA w' v l := by
  by_cases hl : l = []
  · obtain ⟨a, cap, rfl, _⟩ := h
    exact ⟨a, cap, rfl, .inl hl⟩
  replace hk := hk hl
  obtain ⟨a, cap, rfl, h | ⟨b, o, rfl, hb, hc⟩⟩ := h
  · exact absurd h hl
  · exact ⟨_, cap, rfl, .inr ⟨b, o, rfl, by omega, fun j x hj => by
    rw [World.cell?_of_block (a := ⟨b, o + j, none⟩) (w := w) (hk ⟨b, o, none⟩ _ _ rfl hb)]; exact hc j x hj⟩⟩
section
variable {sl : Value} {B : List UInt8} {g p : Nat} {bad : Bool} {w w' : World}
theorem Tg.lt (h : Tg sl B g p bad w) : g < w.heap.size := (Array.getElem?_eq_some_iff.1 h.box).1
theorem Tg.c0 (h : Tg sl B g p bad w) : w.cell? ⟨g, 0, none⟩ = some sl := by simp [World.cell?, h.box]
theorem Tg.c1 (h : Tg sl B g p bad w) : w.cell? ⟨g, 1, none⟩ = some (.int .i64 (p : Nat)) := by simp [World.cell?, h.box]
theorem Tg.c2 (h : Tg sl B g p bad w) : w.cell? ⟨g, 2, none⟩ = some (.bool bad) := by simp [World.cell?, h.box]
theorem Tg.fr (h : Tg sl B g p bad w) (k : Nat) : w.frozen? ⟨g, k, none⟩ = false := by simp [World.frozen?, h.box]
theorem Tg.kept (h : Tg sl B g p bad w) (hs : w.heap.size ≤ w'.heap.size) (hk : ∀ k, k < w.heap.size → w'.heap[k]? = w.heap[k]?) : Tg sl B g p bad w' :=
  ⟨(hk g h.lt).trans h.box, h.bs.same hs fun _ _ _ _ _ ha => hk _ ha, h.ng, h.cp⟩
theorem Tg.later (h : Tg sl B g p bad w) (hb : Below w.heap.size w w') : Tg sl B g p bad w' := h.kept hb.size hb.block
theorem Tg.row {q : Nat} {bad' : Bool} (h : Tg sl B g p bad w) : Tg sl B g q bad' (w.setRow g #[sl, .int .i64 (q : Nat), .bool bad']) :=
  ⟨setRow_heap w g _ _ _ _ h.box, h.bs.same (by simp [World.setRow]) fun hl a n c e _ => setRow_other w g _ _ (h.ng hl a n c e), h.ng, h.cp⟩
theorem Tg.set1 (h : Tg sl B g p bad w) (q : Nat) : Tg sl B g q bad (w.setCell ⟨g, 1, none⟩ (.int .i64 (q : Nat))) ∧ Kg g w (w.setCell ⟨g, 1, none⟩ (.int .i64 (q : Nat))) := by
  have e : w.setCell ⟨g, 1, none⟩ (.int .i64 (q : Nat)) = w.setRow g #[sl, .int .i64 (q : Nat), .bool bad] := by
    rw [setCell_eq_setRow w g 1 _ _ (0, 0) _ h.box]; rfl
  rw [e]
  exact ⟨h.row, Kg.row _⟩
theorem Tg.set1p (h : Tg sl B g p bad w) : Tg sl B g (p + 1) bad (w.setCell ⟨g, 1, none⟩ (.int .i64 (((p : Nat) : Int) + 1))) ∧ Kg g w (w.setCell ⟨g, 1, none⟩ (.int .i64 (((p : Nat) : Int) + 1))) := h.set1 (p + 1)
theorem Tg.set2 (h : Tg sl B g p bad w) (q : Bool) : Tg sl B g p q (w.setCell ⟨g, 2, none⟩ (.bool q)) ∧ Kg g w (w.setCell ⟨g, 2, none⟩ (.bool q)) := by
  have e : w.setCell ⟨g, 2, none⟩ (.bool q) = w.setRow g #[sl, .int .i64 (p : Nat), .bool q] := by
    rw [setCell_eq_setRow w g 2 _ _ (0, 0) _ h.box]; rfl
  rw [e]
  exact ⟨h.row, Kg.row _⟩
set_option maxHeartbeats 4000000 in
set_option maxRecDepth 100000 in
theorem next_t (h : Tg sl B g p bad w) : Calls Tryz.prog 47 #[.pointer (some ⟨g, 0, none⟩)] w fun e w' => e = .returned (.int .i64 (nx B p : Nat)) ∧ Below w.heap.size w w' := by
  have c0 := h.c0
  have c1 := h.c1
  obtain ⟨a, cap, rfl, hc⟩ := h.bs
  by_cases hp : p < B.length
  · obtain ⟨x, hx⟩ : ∃ x, B[p]? = some x := ⟨_, List.getElem?_eq_getElem hp⟩
    obtain ⟨b, o, rfl, -, hcc⟩ := hc.resolve_left (fun e => by rw [e] at hp; cases hp)
    have hcx := hcc p x hx
    have hn : nx B p = x.toNat := by unfold nx; rw [hx]
    have hn2 := UInt8.toNat_lt x
    rw [hn]
    clear hn hx hcc hc h
    generalize x.toNat = y at *
    replace hn2 : y < 256 := hn2
    go_enter Tryz.func47, Tryz.ntmps47
    go_wp2_with fail
    go_quiet (fail)
    go_wp2_with fail
    go_quiet (fail)
    go_wp2
    go_ret
    exact ⟨rfl, rfl, rfl, rfl, Nat.le_refl _, fun _ _ => rfl⟩
  · rw [nx_no (by omega)]
    clear hc h
    go_enter Tryz.func47, Tryz.ntmps47
    go_wp2_with fail
    go_quiet (fail)
    go_wp2
    go_ret
    exact ⟨rfl, rfl, rfl, rfl, Nat.le_refl _, fun _ _ => rfl⟩
end
end Go.Proofs.YthgndmgoilfpcaaGreatDoor

namespace Go.Proofs.YthgndmgoilfpcaaGreatDoor
open Go.RowKit

def atOf (g : Nat) (w : World) : Nat := match w.cell? ⟨g, 1, none⟩ with
  | some (.int _ i) => i.toNat
  | _ => 0
section
variable {sl : Value} {B : List UInt8} {g p : Nat} {bad : Bool} {w w' : World}
theorem Tg.atOf (h : Tg sl B g p bad w) : atOf g w = p := by
  unfold Go.Proofs.YthgndmgoilfpcaaGreatDoor.atOf
  rw [h.c1]; simp
theorem nx_pos {c : Nat} (h : nx B p = c) (hc : c ≠ 0) : ∃ x m, B.drop p = x :: m ∧ x.toNat = c ∧ p < B.length := by
  rcases Nat.lt_or_ge p B.length with hp | hp
  · refine ⟨B[p], B.drop (p + 1), List.drop_eq_getElem_cons hp, ?_, hp⟩
    rw [← h]; unfold nx; rw [List.getElem?_eq_getElem hp]
  · rw [nx_no hp] at h; omega
theorem sk_cons {x : UInt8} {m : List UInt8} (h : x.toNat = 32 ∨ x.toNat = 9 ∨ x.toNat = 10 ∨ x.toNat = 13) : sk (x :: m) = sk m := by
  have : bk.contains x = true := by
    have e : ∀ k : UInt8, x.toNat = k.toNat → x = k := fun k hk => UInt8.toNat_inj.1 hk
    rcases h with h | h | h | h
    · rw [e 32 h]; rfl
    · rw [e 9 h]; rfl
    · rw [e 10 h]; rfl
    · rw [e 13 h]; rfl
  unfold sk
  rw [List.dropWhile_cons, if_pos this]
theorem sk_stop (h : nx B p ≠ 32 ∧ nx B p ≠ 9 ∧ nx B p ≠ 10 ∧ nx B p ≠ 13) : sk (B.drop p) = B.drop p := by
  cases e : B.drop p with
  | nil => rfl
  | cons x m =>
    rw [nx_drop e] at h
    have : bk.contains x = false := by
      unfold bk
      simp only [List.contains_cons, List.contains_nil, Bool.or_false, Bool.or_eq_false_iff, beq_eq_false_iff_ne]
      refine ⟨?_, ?_, ?_, ?_⟩ <;> (rintro rfl; simp at h)
    unfold sk
    rw [List.dropWhile_cons, this]
    rfl
def AnB (sl : Value) (B : List UInt8) (g p : Nat) (bad : Bool) (w : World) (e : Ending) (w' : World) : Prop :=
  e = .returned (.tuple #[]) ∧ ∃ q, Tg sl B g q bad w' ∧ Kg g w w' ∧ B.drop q = sk (B.drop p) ∧ p ≤ q ∧ (q = p ∨ q ≤ B.length)
set_option maxHeartbeats 4000000 in
set_option maxRecDepth 100000 in
theorem blanks_t (h : Tg sl B g p bad w) (hp : p ≤ 100000) (hB : B.length ≤ 4096) : Calls Tryz.prog 33 #[.pointer (some ⟨g, 0, none⟩)] w (AnB sl B g p bad w) := by
  go_enter Tryz.func33, Tryz.ntmps33
  go_wp2_with fail
  go_loopw [] (fun wr => ∃ q, Hid (Tg sl B g q bad wr) ∧ Hid (Kg g w wr) ∧ Hid (sk (B.drop q) = sk (B.drop p)) ∧ p ≤ q ∧ (q = p ∨ q ≤ B.length)) (fun wr => B.length - atOf g wr)
  case atStart => exact ⟨p, hide1 h, hide1 (Kg.refl _ _), hide1 rfl, Nat.le_refl _, .inl rfl⟩
  case round =>
    obtain ⟨q, hT, hK, hsk, hpq, hqq⟩ := hrel
    have hat : atOf g wr = q := hT.out.atOf
    have hn := next_t hT.out
    obtain ⟨c, hc⟩ : ∃ c, Hid (nx B q = c) := ⟨_, hide1 rfl⟩
    have hstep : c = 32 ∨ c = 9 ∨ c = 10 ∨ c = 13 → ∀ wx, Below wr.heap.size wr wx → Hid (Tg sl B g (q + 1) bad (wx.setCell ⟨g, 1, none⟩ (.int .i64 (((q : Nat) : Int) + 1))) ∧ Kg g w (wx.setCell ⟨g, 1, none⟩ (.int .i64 (((q : Nat) : Int) + 1))) ∧ sk (B.drop (q + 1)) = sk (B.drop p) ∧ q < B.length) := fun h4 wx hb => hide1 (by
      obtain ⟨x, m, e1, e2, e3⟩ := nx_pos hc.out (by omega)
      obtain ⟨t1, k1⟩ := (hT.out.later hb).set1p
      refine ⟨t1, (hK.out.trans (Kg.of hb)).trans k1, ?_, e3⟩
      rw [← hsk.out, (drop_lt e1).2, e1, sk_cons (by omega)])
    replace hstep := hide1 hstep
    have hstop : c ≠ 32 ∧ c ≠ 9 ∧ c ≠ 10 ∧ c ≠ 13 → ∀ wx, Below wr.heap.size wr wx → Hid (AnB sl B g p bad w (.returned (.tuple #[])) wx) := fun h4 wx hb => hide1 ⟨rfl, q, hT.out.later hb, hK.out.trans (Kg.of hb), by rw [← hsk.out]; exact (sk_stop (by rw [hc.out]; exact h4)).symm, hpq, hqq⟩
    replace hstop := hide1 hstop
    have hnn : Hid (∀ wx, Below wr.heap.size wr wx → Calls Tryz.prog 47 #[.pointer (some ⟨g, 0, none⟩)] wx fun e w' => e = .returned (.int .i64 (c : Nat)) ∧ Below wx.heap.size wx w') := hide1 fun wx hb => by
      have := next_t (hT.out.later hb)
      rwa [hc.out] at this
    clear hn
    have hcl : c < 256 := by rw [← hc.out]; exact nx_lt B q
    have hq2 : q ≤ 110000 := by omega
    clear hc hsk h
    by_cases h32 : c = 32
    · subst h32
      go_wp2_with fail
      refine (hnn.out _ (Below.refl _ _)).mono ?_
      rintro e w1 ⟨rfl, b1⟩
      have hb1 := hide1 (b1)
      clear b1
      have hT2 := hT.out.later hb1.out
      have cc := hT2.c1
      have cf := hT2.fr 1
      have hs2 := hstep.out (by first | omega | simp | trivial) _ hb1.out
      clear hT2 hnn hstep hstop hb1
      go_wp2
      go_roundw
      case rel => exact ⟨q + 1, hide1 hs2.out.1, hide1 hs2.out.2.1, hide1 hs2.out.2.2.1, by omega, by have := hs2.out.2.2.2; omega⟩
      case measure => rw [hs2.out.1.atOf, hat]; have := hs2.out.2.2.2; omega
    have d32 : ((c : Int) == 32) = false := by simp; omega
    by_cases h9 : c = 9
    · subst h9
      go_wp2_with fail
      refine (hnn.out _ (Below.refl _ _)).mono ?_
      rintro e w1 ⟨rfl, b1⟩
      have hb1 := hide1 (b1)
      clear b1
      go_wp2_with fail
      refine (hnn.out _ hb1.out).mono ?_
      rintro e w2 ⟨rfl, b2⟩
      have hb2 := hide1 (hb1.out.trans (b2.mono hb1.out.size))
      clear b2 hb1
      have hT2 := hT.out.later hb2.out
      have cc := hT2.c1
      have cf := hT2.fr 1
      have hs2 := hstep.out (by first | omega | simp | trivial) _ hb2.out
      clear hT2 hnn hstep hstop hb2
      go_wp2
      go_roundw
      case rel => exact ⟨q + 1, hide1 hs2.out.1, hide1 hs2.out.2.1, hide1 hs2.out.2.2.1, by omega, by have := hs2.out.2.2.2; omega⟩
      case measure => rw [hs2.out.1.atOf, hat]; have := hs2.out.2.2.2; omega
    have d9 : ((c : Int) == 9) = false := by simp; omega
    by_cases h10 : c = 10
    · subst h10
      go_wp2_with fail
      refine (hnn.out _ (Below.refl _ _)).mono ?_
      rintro e w1 ⟨rfl, b1⟩
      have hb1 := hide1 (b1)
      clear b1
      go_wp2_with fail
      refine (hnn.out _ hb1.out).mono ?_
      rintro e w2 ⟨rfl, b2⟩
      have hb2 := hide1 (hb1.out.trans (b2.mono hb1.out.size))
      clear b2 hb1
      go_wp2_with fail
      refine (hnn.out _ hb2.out).mono ?_
      rintro e w3 ⟨rfl, b3⟩
      have hb3 := hide1 (hb2.out.trans (b3.mono hb2.out.size))
      clear b3 hb2
      have hT2 := hT.out.later hb3.out
      have cc := hT2.c1
      have cf := hT2.fr 1
      have hs2 := hstep.out (by first | omega | simp | trivial) _ hb3.out
      clear hT2 hnn hstep hstop hb3
      go_wp2
      go_roundw
      case rel => exact ⟨q + 1, hide1 hs2.out.1, hide1 hs2.out.2.1, hide1 hs2.out.2.2.1, by omega, by have := hs2.out.2.2.2; omega⟩
      case measure => rw [hs2.out.1.atOf, hat]; have := hs2.out.2.2.2; omega
    have d10 : ((c : Int) == 10) = false := by simp; omega
    by_cases h13 : c = 13
    · subst h13
      go_wp2_with fail
      refine (hnn.out _ (Below.refl _ _)).mono ?_
      rintro e w1 ⟨rfl, b1⟩
      have hb1 := hide1 (b1)
      clear b1
      go_wp2_with fail
      refine (hnn.out _ hb1.out).mono ?_
      rintro e w2 ⟨rfl, b2⟩
      have hb2 := hide1 (hb1.out.trans (b2.mono hb1.out.size))
      clear b2 hb1
      go_wp2_with fail
      refine (hnn.out _ hb2.out).mono ?_
      rintro e w3 ⟨rfl, b3⟩
      have hb3 := hide1 (hb2.out.trans (b3.mono hb2.out.size))
      clear b3 hb2
      go_wp2_with fail
      refine (hnn.out _ hb3.out).mono ?_
      rintro e w4 ⟨rfl, b4⟩
      have hb4 := hide1 (hb3.out.trans (b4.mono hb3.out.size))
      clear b4 hb3
      have hT2 := hT.out.later hb4.out
      have cc := hT2.c1
      have cf := hT2.fr 1
      have hs2 := hstep.out (by first | omega | simp | trivial) _ hb4.out
      clear hT2 hnn hstep hstop hb4
      go_wp2
      go_roundw
      case rel => exact ⟨q + 1, hide1 hs2.out.1, hide1 hs2.out.2.1, hide1 hs2.out.2.2.1, by omega, by have := hs2.out.2.2.2; omega⟩
      case measure => rw [hs2.out.1.atOf, hat]; have := hs2.out.2.2.2; omega
    have d13 : ((c : Int) == 13) = false := by simp; omega
    go_wp2_with fail
    refine (hnn.out _ (Below.refl _ _)).mono ?_
    rintro e w1 ⟨rfl, b1⟩
    have hb1 := hide1 (b1)
    clear b1
    go_wp2_with fail
    refine (hnn.out _ hb1.out).mono ?_
    rintro e w2 ⟨rfl, b2⟩
    have hb2 := hide1 (hb1.out.trans (b2.mono hb1.out.size))
    clear b2 hb1
    go_wp2_with fail
    refine (hnn.out _ hb2.out).mono ?_
    rintro e w3 ⟨rfl, b3⟩
    have hb3 := hide1 (hb2.out.trans (b3.mono hb2.out.size))
    clear b3 hb2
    go_wp2_with fail
    refine (hnn.out _ hb3.out).mono ?_
    rintro e w4 ⟨rfl, b4⟩
    have hb4 := hide1 (hb3.out.trans (b4.mono hb3.out.size))
    clear b4 hb3
    have hf := hstop.out ⟨h32, h9, h10, h13⟩ _ hb4.out
    clear hnn hstep hstop hb4
    go_wp2
    exact bodyPost_end (results_none rfl _ _ _) rfl hf.out
end
end Go.Proofs.YthgndmgoilfpcaaGreatDoor

namespace Go.Proofs.YthgndmgoilfpcaaGreatDoor
open Go.RowKit

theorem ld_gi {w : World} {q : Addr} {v : Value} (h : w.cell? q = some v) : (Instr.loadAt 3 (.pointer (some q))).run Tryz.prog w = .ok v w := by
  simp [Instr.loadAt, Instr.sureAddr, go_sem, h]
theorem ld_gs {w : World} {q : Addr} {v : Value} (h : w.cell? q = some v) : (Instr.loadAt 22 (.pointer (some q))).run Tryz.prog w = .ok v w := by
  simp [Instr.loadAt, Instr.sureAddr, go_sem, h]
theorem len_st {s : List UInt8} (w : World) : (Builtin.len_ #[9] 3 #[.string (st s)]).run Tryz.prog w = .ok (.int .i64 (s.length : Nat)) w := by
  simp [Builtin.len_, go_sem, st_size]
theorem len_bs {a : Option Addr} {n cap : Nat} (w : World) : (Builtin.len_ #[22] 3 #[.slice a n cap]).run Tryz.prog w = .ok (.int .i64 (n : Nat)) w := by
  simp [Builtin.len_, go_sem]
theorem ad_nn {m n : Nat} (h : m + n ≤ 1000000) (w : World) : (binOp .add 3 (.int .i64 (m : Nat)) (.int .i64 (n : Nat))).run Tryz.prog w = .ok (.int .i64 (m + n : Nat)) w := by
  have : IntKind.i64.wrap ((m : Int) + (n : Int)) = ((m + n : Nat) : Int) := by rw [IntKind.wrap_i64]; omega
  simp [binOp, go_sem, this]
theorem eg_nn {op : BinOp} {x u : Operand} {m n : Int} (w : World) : (eqGuard op 3 x u (.int .i64 m) (.int .i64 n)).run Tryz.prog w = .ok () w := by
  simp [eqGuard, go_sem]
theorem gt_nn {m n : Nat} (w : World) : (binOp .gtr 3 (.int .i64 (m : Nat)) (.int .i64 (n : Nat))).run Tryz.prog w = .ok (.bool (decide (n < m))) w := by
  simp [binOp, go_sem]
theorem sl_md {b o n p k cap : Nat} (hk : 0 < k) (h : p + k ≤ cap) (w : World) : (Instr.sliceAt 22 (.slice (some ⟨b, o, none⟩) n cap) (some (.int .i64 (p : Nat))) (some (.int .i64 (p + k : Nat))) none).run Tryz.prog w = .ok (.slice (some ⟨b, o + p, none⟩) k (cap - p)) w := by
  have h1 : ¬ cap = p := by omega
  have h2 : p ≤ p + k := by omega
  have h3 : (p : Int) ≤ (p : Int) + (k : Int) := by omega
  have h4 : (p : Int) + (k : Int) ≤ (cap : Int) := by omega
  have h5 : p + k - p = k := by omega
  have h6 : ((p : Int) + (k : Int)).toNat = p + k := by omega
  have h7 : (0 : Int) ≤ (p : Int) + (k : Int) := by omega
  simp [Instr.sliceAt, go_sem, h1, h4, h6, h7]
section
variable {sl : Value} {B : List UInt8} {g p : Nat} {bad : Bool} {w w' : World}
theorem hp_take {s l : List UInt8} : hp s l = decide (l.take s.length = s) := by
  unfold hp
  cases h : s.isPrefixOf l with
  | true =>
    have := (List.isPrefixOf_iff_prefix.1 h)
    rw [List.prefix_iff_eq_take] at this
    simp [← this]
  | false =>
    symm
    rw [decide_eq_false_iff_not]
    intro e
    have : s <+: l := by rw [← e]; exact List.take_prefix _ _
    rw [List.isPrefixOf_iff_prefix.2 this] at h
    cases h
def AnWd (sl : Value) (B : List UInt8) (g p : Nat) (bad : Bool) (s : List UInt8) (w : World) (e : Ending) (w' : World) : Prop :=
  e = .returned (.tuple #[]) ∧ Tg sl B g (if hp s (B.drop p) = true then p + s.length else p) (bad || !hp s (B.drop p)) w' ∧ Kg g w w'
set_option maxHeartbeats 8000000 in
set_option maxRecDepth 100000 in
theorem word_t {s : List UInt8} (h : Tg sl B g p bad w) (hpp : p ≤ 100000) (hB : B.length ≤ 4096) (hs : 0 < s.length) (hs2 : s.length ≤ 100) : Calls Tryz.prog 48 #[.pointer (some ⟨g, 0, none⟩), .string (st s)] w (AnWd sl B g p bad s w) := by
  obtain ⟨aa, cap, rfl, hbs⟩ := h.bs
  have hTa : Hid (∀ wa, Below w.heap.size w wa → Tg (.slice aa B.length cap) B g p bad wa) := hide1 fun wa hb => h.later hb
  have hcap := h.cp _ _ _ rfl
  have hsum : p + s.length ≤ 1000000 := by omega
  have hfalse : hp s (B.drop p) = false → ∀ wx, Below w.heap.size w wx → Hid (wx.cell? ⟨g, 2, none⟩ = some (.bool bad) ∧ wx.frozen? ⟨g, 2, none⟩ = false ∧ AnWd (.slice aa B.length cap) B g p bad s w (.returned (.tuple #[])) (wx.setCell ⟨g, 2, none⟩ (.bool true))) := fun e wx hb => hide1 (by
    obtain ⟨t, k⟩ := (hTa.out wx hb).set2 true
    exact ⟨(hTa.out wx hb).c2, (hTa.out wx hb).fr 2, rfl, by rw [e]; simpa using t, (Kg.of hb).trans k⟩)
  by_cases hl : B.length < p + s.length
  · have hf := hfalse (by
      rw [hp_take, decide_eq_false_iff_not]
      intro e
      have := congrArg List.length e
      rw [List.length_take, List.length_drop] at this
      omega)
    replace hf := hide1 hf
    clear hfalse hbs h hs hs2 hpp
    go_enter Tryz.func48, Tryz.ntmps48
    go_upto_region 0 with fail
    refine wp_flowG 33 _ _ (by kernel_rfl) (by kernel_rfl) (by kernel_rfl) rfl (fun j v _ => v = ([(.pointer (some ⟨g, 0, none⟩)), (.pointer (some ⟨g, 0, none⟩)), (.pointer (some ⟨g, 1, none⟩)), (.int .i64 (p : Nat)), (.string (st s)), (.int .i64 (s.length : Nat)), (.int .i64 (p + s.length : Nat)), (.pointer (some ⟨g, 0, none⟩)), (.pointer (some ⟨g, 0, none⟩)), (.pointer (some ⟨g, 0, none⟩)), (.slice aa B.length cap), (.int .i64 (B.length : Nat)), (.bool true), (.bool true), undef, undef, undef, undef, undef, undef, undef, undef, undef, undef, undef, undef, undef, undef, undef, undef, undef, undef, undef, (.bool true)] : List Value).getD j undef) (fun _ _ _ _ h _ => h) ?_ ?_
    · intro j op hop hj a wa hwa hsz hsl hdep K hK
      match j, hop with
      | 0, hop =>
        obtain rfl := Option.some.inj hop
        have p0 : a.tmps.getD 0 undef = (.pointer (some ⟨g, 0, none⟩)) := hsl 0 rfl
        exact .plain rfl (wp_val (w' := wa) (v := (.pointer (some ⟨g, 0, none⟩))) (by simp only [execOp, Act.eval]; rw [show a.tmps.getD 0 undef = _ from p0]; rfl) (hK _ _ (Below.refl _ _) rfl))
      | 1, hop =>
        obtain rfl := Option.some.inj hop
        have t0 : a.tmps.getD 4 undef = (.pointer (some ⟨g, 0, none⟩)) := hdep 0 _ 4 rfl rfl ⟨⟨0, .data⟩, by simp, rfl, rfl⟩
        exact .plain rfl (wp_val (w' := wa) (v := (.pointer (some ⟨g, 0, none⟩))) (by simp only [execOp, Act.eval]; rw [show a.tmps.getD 4 undef = _ from t0]; kernel_rfl) (hK _ _ (Below.refl _ _) rfl))
      | 2, hop =>
        obtain rfl := Option.some.inj hop
        have t1 : a.tmps.getD 5 undef = (.pointer (some ⟨g, 0, none⟩)) := hdep 1 _ 5 rfl rfl ⟨⟨1, .data⟩, by simp, rfl, rfl⟩
        exact .plain rfl (wp_val (w' := wa) (v := (.pointer (some ⟨g, 1, none⟩))) (by simp only [execOp, Act.eval]; rw [show a.tmps.getD 5 undef = _ from t1]; kernel_rfl) (hK _ _ (Below.refl _ _) rfl))
      | 3, hop =>
        obtain rfl := Option.some.inj hop
        have t2 : a.tmps.getD 6 undef = (.pointer (some ⟨g, 1, none⟩)) := hdep 2 _ 6 rfl rfl ⟨⟨2, .data⟩, by simp, rfl, rfl⟩
        exact .plain rfl (wp_val (w' := wa) (v := (.int .i64 (p : Nat))) (by simp only [execOp, Act.eval]; rw [show a.tmps.getD 6 undef = _ from t2]; simp only [Sem.run_bind, ld_gi (hTa.out wa hwa).c1, Result.andThen_ok, Sem.run_pure]) (hK _ _ (Below.refl _ _) rfl))
      | 4, hop =>
        obtain rfl := Option.some.inj hop
        have p1 : a.tmps.getD 1 undef = (.string (st s)) := hsl 1 rfl
        exact .plain rfl (wp_val (w' := wa) (v := (.string (st s))) (by simp only [execOp, Act.eval]; rw [show a.tmps.getD 1 undef = _ from p1]; rfl) (hK _ _ (Below.refl _ _) rfl))
      | 5, hop =>
        obtain rfl := Option.some.inj hop
        have t4 : a.tmps.getD 8 undef = (.string (st s)) := hdep 4 _ 8 rfl rfl ⟨⟨4, .data⟩, by simp, rfl, rfl⟩
        exact .plain rfl (wp_val (w' := wa) (v := (.int .i64 (s.length : Nat))) (by simp only [execOp, Act.eval, resolve, invoke, builtin, List.map_toArray, List.map_cons, List.map_nil, Sem.run_pure, Result.andThen_ok, Sem.run_bind]; rw [show a.tmps.getD 8 undef = _ from t4]; simp only [len_st, Result.andThen_ok]) (hK _ _ (Below.refl _ _) rfl))
      | 6, hop =>
        obtain rfl := Option.some.inj hop
        have t3 : a.tmps.getD 7 undef = (.int .i64 (p : Nat)) := hdep 3 _ 7 rfl rfl ⟨⟨3, .data⟩, by simp, rfl, rfl⟩
        have t5 : a.tmps.getD 9 undef = (.int .i64 (s.length : Nat)) := hdep 5 _ 9 rfl rfl ⟨⟨5, .data⟩, by simp, rfl, rfl⟩
        exact .plain rfl (wp_val (w' := wa) (v := (.int .i64 (p + s.length : Nat))) (by simp only [execOp, Act.eval]; rw [show a.tmps.getD 7 undef = _ from t3, show a.tmps.getD 9 undef = _ from t5]; simp only [Sem.run_bind, eg_nn, ad_nn hsum, Result.andThen_ok, Sem.run_pure]) (hK _ _ (Below.refl _ _) rfl))
      | 7, hop =>
        obtain rfl := Option.some.inj hop
        have p0 : a.tmps.getD 0 undef = (.pointer (some ⟨g, 0, none⟩)) := hsl 0 rfl
        exact .plain rfl (wp_val (w' := wa) (v := (.pointer (some ⟨g, 0, none⟩))) (by simp only [execOp, Act.eval]; rw [show a.tmps.getD 0 undef = _ from p0]; rfl) (hK _ _ (Below.refl _ _) rfl))
      | 8, hop =>
        obtain rfl := Option.some.inj hop
        have t7 : a.tmps.getD 11 undef = (.pointer (some ⟨g, 0, none⟩)) := hdep 7 _ 11 rfl rfl ⟨⟨7, .data⟩, by simp, rfl, rfl⟩
        exact .plain rfl (wp_val (w' := wa) (v := (.pointer (some ⟨g, 0, none⟩))) (by simp only [execOp, Act.eval]; rw [show a.tmps.getD 11 undef = _ from t7]; kernel_rfl) (hK _ _ (Below.refl _ _) rfl))
      | 9, hop =>
        obtain rfl := Option.some.inj hop
        have t8 : a.tmps.getD 12 undef = (.pointer (some ⟨g, 0, none⟩)) := hdep 8 _ 12 rfl rfl ⟨⟨8, .data⟩, by simp, rfl, rfl⟩
        exact .plain rfl (wp_val (w' := wa) (v := (.pointer (some ⟨g, 0, none⟩))) (by simp only [execOp, Act.eval]; rw [show a.tmps.getD 12 undef = _ from t8]; kernel_rfl) (hK _ _ (Below.refl _ _) rfl))
      | 10, hop =>
        obtain rfl := Option.some.inj hop
        have t9 : a.tmps.getD 13 undef = (.pointer (some ⟨g, 0, none⟩)) := hdep 9 _ 13 rfl rfl ⟨⟨9, .data⟩, by simp, rfl, rfl⟩
        exact .plain rfl (wp_val (w' := wa) (v := (.slice aa B.length cap)) (by simp only [execOp, Act.eval]; rw [show a.tmps.getD 13 undef = _ from t9]; simp only [Sem.run_bind, ld_gs (hTa.out wa hwa).c0, Result.andThen_ok, Sem.run_pure]) (hK _ _ (Below.refl _ _) rfl))
      | 11, hop =>
        obtain rfl := Option.some.inj hop
        have t10 : a.tmps.getD 14 undef = (.slice aa B.length cap) := hdep 10 _ 14 rfl rfl ⟨⟨10, .data⟩, by simp, rfl, rfl⟩
        exact .plain rfl (wp_val (w' := wa) (v := (.int .i64 (B.length : Nat))) (by simp only [execOp, Act.eval, resolve, invoke, builtin, List.map_toArray, List.map_cons, List.map_nil, Sem.run_pure, Result.andThen_ok, Sem.run_bind]; rw [show a.tmps.getD 14 undef = _ from t10]; simp only [len_bs, Result.andThen_ok]) (hK _ _ (Below.refl _ _) rfl))
      | 12, hop =>
        obtain rfl := Option.some.inj hop
        have t6 : a.tmps.getD 10 undef = (.int .i64 (p + s.length : Nat)) := hdep 6 _ 10 rfl rfl ⟨⟨6, .data⟩, by simp, rfl, rfl⟩
        have t11 : a.tmps.getD 15 undef = (.int .i64 (B.length : Nat)) := hdep 11 _ 15 rfl rfl ⟨⟨11, .data⟩, by simp, rfl, rfl⟩
        exact .plain rfl (wp_val (w' := wa) (v := (.bool true)) (by simp only [execOp, Act.eval]; rw [show a.tmps.getD 10 undef = _ from t6, show a.tmps.getD 15 undef = _ from t11]; simp only [Sem.run_bind, eg_nn, gt_nn, decide_eq_true hl, Result.andThen_ok, Sem.run_pure]) (hK _ _ (Below.refl _ _) rfl))
      | 13, hop =>
        obtain rfl := Option.some.inj hop
        have t12 : a.tmps.getD 16 undef = (.bool true) := hdep 12 _ 16 rfl rfl ⟨⟨12, .data⟩, by simp, rfl, rfl⟩
        exact .plain rfl (wp_val (w' := wa) (v := (.bool true)) (by simp only [execOp, Act.eval]; rw [show a.tmps.getD 16 undef = _ from t12]; rfl) (hK _ _ (Below.refl _ _) rfl))
      | 14, hop =>
        obtain rfl := Option.some.inj hop
        have gg : a.tmps.getD 17 undef = (.bool true) := hdep 13 _ 17 rfl rfl ⟨⟨13, .guard⟩, by simp, rfl, rfl⟩
        exact .skip rfl rfl (by rw [hsz]; simp) gg (hK _ _ (Below.refl _ _) rfl)
      | 15, hop =>
        obtain rfl := Option.some.inj hop
        have gg : a.tmps.getD 17 undef = (.bool true) := hdep 13 _ 17 rfl rfl ⟨⟨13, .guard⟩, by simp, rfl, rfl⟩
        exact .skip rfl rfl (by rw [hsz]; simp) gg (hK _ _ (Below.refl _ _) rfl)
      | 16, hop =>
        obtain rfl := Option.some.inj hop
        have gg : a.tmps.getD 17 undef = (.bool true) := hdep 13 _ 17 rfl rfl ⟨⟨13, .guard⟩, by simp, rfl, rfl⟩
        exact .skip rfl rfl (by rw [hsz]; simp) gg (hK _ _ (Below.refl _ _) rfl)
      | 17, hop =>
        obtain rfl := Option.some.inj hop
        have gg : a.tmps.getD 17 undef = (.bool true) := hdep 13 _ 17 rfl rfl ⟨⟨13, .guard⟩, by simp, rfl, rfl⟩
        exact .skip rfl rfl (by rw [hsz]; simp) gg (hK _ _ (Below.refl _ _) rfl)
      | 18, hop =>
        obtain rfl := Option.some.inj hop
        have gg : a.tmps.getD 17 undef = (.bool true) := hdep 13 _ 17 rfl rfl ⟨⟨13, .guard⟩, by simp, rfl, rfl⟩
        exact .skip rfl rfl (by rw [hsz]; simp) gg (hK _ _ (Below.refl _ _) rfl)
      | 19, hop =>
        obtain rfl := Option.some.inj hop
        have gg : a.tmps.getD 17 undef = (.bool true) := hdep 13 _ 17 rfl rfl ⟨⟨13, .guard⟩, by simp, rfl, rfl⟩
        exact .skip rfl rfl (by rw [hsz]; simp) gg (hK _ _ (Below.refl _ _) rfl)
      | 20, hop =>
        obtain rfl := Option.some.inj hop
        have gg : a.tmps.getD 17 undef = (.bool true) := hdep 13 _ 17 rfl rfl ⟨⟨13, .guard⟩, by simp, rfl, rfl⟩
        exact .skip rfl rfl (by rw [hsz]; simp) gg (hK _ _ (Below.refl _ _) rfl)
      | 21, hop =>
        obtain rfl := Option.some.inj hop
        have gg : a.tmps.getD 17 undef = (.bool true) := hdep 13 _ 17 rfl rfl ⟨⟨13, .guard⟩, by simp, rfl, rfl⟩
        exact .skip rfl rfl (by rw [hsz]; simp) gg (hK _ _ (Below.refl _ _) rfl)
      | 22, hop =>
        obtain rfl := Option.some.inj hop
        have gg : a.tmps.getD 17 undef = (.bool true) := hdep 13 _ 17 rfl rfl ⟨⟨13, .guard⟩, by simp, rfl, rfl⟩
        exact .skip rfl rfl (by rw [hsz]; simp) gg (hK _ _ (Below.refl _ _) rfl)
      | 23, hop =>
        obtain rfl := Option.some.inj hop
        have gg : a.tmps.getD 17 undef = (.bool true) := hdep 13 _ 17 rfl rfl ⟨⟨13, .guard⟩, by simp, rfl, rfl⟩
        exact .skip rfl rfl (by rw [hsz]; simp) gg (hK _ _ (Below.refl _ _) rfl)
      | 24, hop =>
        obtain rfl := Option.some.inj hop
        have gg : a.tmps.getD 17 undef = (.bool true) := hdep 13 _ 17 rfl rfl ⟨⟨13, .guard⟩, by simp, rfl, rfl⟩
        exact .skip rfl rfl (by rw [hsz]; simp) gg (hK _ _ (Below.refl _ _) rfl)
      | 25, hop =>
        obtain rfl := Option.some.inj hop
        have gg : a.tmps.getD 17 undef = (.bool true) := hdep 13 _ 17 rfl rfl ⟨⟨13, .guard⟩, by simp, rfl, rfl⟩
        exact .skip rfl rfl (by rw [hsz]; simp) gg (hK _ _ (Below.refl _ _) rfl)
      | 26, hop =>
        obtain rfl := Option.some.inj hop
        have gg : a.tmps.getD 17 undef = (.bool true) := hdep 13 _ 17 rfl rfl ⟨⟨13, .guard⟩, by simp, rfl, rfl⟩
        exact .skip rfl rfl (by rw [hsz]; simp) gg (hK _ _ (Below.refl _ _) rfl)
      | 27, hop =>
        obtain rfl := Option.some.inj hop
        have gg : a.tmps.getD 17 undef = (.bool true) := hdep 13 _ 17 rfl rfl ⟨⟨13, .guard⟩, by simp, rfl, rfl⟩
        exact .skip rfl rfl (by rw [hsz]; simp) gg (hK _ _ (Below.refl _ _) rfl)
      | 28, hop =>
        obtain rfl := Option.some.inj hop
        have gg : a.tmps.getD 17 undef = (.bool true) := hdep 13 _ 17 rfl rfl ⟨⟨13, .guard⟩, by simp, rfl, rfl⟩
        exact .skip rfl rfl (by rw [hsz]; simp) gg (hK _ _ (Below.refl _ _) rfl)
      | 29, hop =>
        obtain rfl := Option.some.inj hop
        have gg : a.tmps.getD 17 undef = (.bool true) := hdep 13 _ 17 rfl rfl ⟨⟨13, .guard⟩, by simp, rfl, rfl⟩
        exact .skip rfl rfl (by rw [hsz]; simp) gg (hK _ _ (Below.refl _ _) rfl)
      | 30, hop =>
        obtain rfl := Option.some.inj hop
        have gg : a.tmps.getD 17 undef = (.bool true) := hdep 13 _ 17 rfl rfl ⟨⟨13, .guard⟩, by simp, rfl, rfl⟩
        exact .skip rfl rfl (by rw [hsz]; simp) gg (hK _ _ (Below.refl _ _) rfl)
      | 31, hop =>
        obtain rfl := Option.some.inj hop
        have gg : a.tmps.getD 17 undef = (.bool true) := hdep 13 _ 17 rfl rfl ⟨⟨13, .guard⟩, by simp, rfl, rfl⟩
        exact .skip rfl rfl (by rw [hsz]; simp) gg (hK _ _ (Below.refl _ _) rfl)
      | 32, hop =>
        obtain rfl := Option.some.inj hop
        have gg : a.tmps.getD 17 undef = (.bool true) := hdep 13 _ 17 rfl rfl ⟨⟨13, .guard⟩, by simp, rfl, rfl⟩
        exact .skip rfl rfl (by rw [hsz]; simp) gg (hK _ _ (Below.refl _ _) rfl)
      | 33, _ => exact absurd rfl hj
      | _ + 34, hop => exact absurd hop (by simp)
    · intro a wa hwa hdf hsz hsl hrr K hK
      have t13 : a.tmps.getD 17 undef = (.bool true) := hrr 13 _ 17 rfl (by decide) rfl
      have t32 : a.tmps.getD 36 undef = undef := hrr 32 _ 36 rfl (by decide) rfl
      refine .plain rfl (wp_val (w' := wa) (v := (.bool true)) (by simp only [execOp, Act.eval]; rw [show a.tmps.getD 17 undef = _ from t13, show a.tmps.getD 36 undef = _ from t32]; rfl) ?_)
      refine hK _ wa ?_
      have hact := act_puts hdf hsz hsl
      clear hrr hsl hdf hsz hK t13 t32
      simp only [List.filterMap_cons, List.filterMap_nil, List.foldl_cons, List.foldl_nil] at hact
      rw [hact]
      generalize a.tmps.getD 4 undef = y4
      generalize a.tmps.getD 5 undef = y5
      generalize a.tmps.getD 6 undef = y6
      generalize a.tmps.getD 7 undef = y7
      generalize a.tmps.getD 8 undef = y8
      generalize a.tmps.getD 9 undef = y9
      generalize a.tmps.getD 10 undef = y10
      generalize a.tmps.getD 11 undef = y11
      generalize a.tmps.getD 12 undef = y12
      generalize a.tmps.getD 13 undef = y13
      generalize a.tmps.getD 14 undef = y14
      generalize a.tmps.getD 15 undef = y15
      generalize a.tmps.getD 16 undef = y16
      generalize a.tmps.getD 17 undef = y17
      generalize a.tmps.getD 18 undef = y18
      generalize a.tmps.getD 19 undef = y19
      generalize a.tmps.getD 20 undef = y20
      generalize a.tmps.getD 21 undef = y21
      generalize a.tmps.getD 22 undef = y22
      generalize a.tmps.getD 23 undef = y23
      generalize a.tmps.getD 24 undef = y24
      generalize a.tmps.getD 25 undef = y25
      generalize a.tmps.getD 26 undef = y26
      generalize a.tmps.getD 27 undef = y27
      generalize a.tmps.getD 28 undef = y28
      generalize a.tmps.getD 29 undef = y29
      generalize a.tmps.getD 30 undef = y30
      generalize a.tmps.getD 31 undef = y31
      generalize a.tmps.getD 32 undef = y32
      generalize a.tmps.getD 33 undef = y33
      generalize a.tmps.getD 34 undef = y34
      generalize a.tmps.getD 35 undef = y35
      generalize a.tmps.getD 36 undef = y36
      clear hact
      simp only [Act.put, List.setIfInBounds_toArray, List.set_cons_succ, List.set_cons_zero]
      have hf2 := (hf.out wa hwa).out
      have e1 := hf2.1
      have e2 := hf2.2.1
      replace hf2 := hide1 hf2.2.2
      clear hf hTa hwa
      go_wp2
      exact bodyPost_end (results_none rfl _ _ _) rfl hf2.out
  · have hle : p + s.length ≤ cap := by omega
    obtain ⟨b, o, rfl, hbb, hbc⟩ := hbs.resolve_left (fun e => by have h0 : B.length = 0 := by rw [e]; rfl
                                                                  omega)
    have hbt : Hid (∀ wa, Below w.heap.size w wa → BsA wa (.slice (some ⟨b, o + p, none⟩) s.length (cap - p)) ((B.drop p).take s.length)) := hide1 fun wa hb =>
      ((hTa.out wa hb).bs.drop p (cap - p)).take (by rw [List.length_drop]; omega) (cap - p)
    have htrue : hp s (B.drop p) = true → ∀ wx, Below w.heap.size w wx → Hid (wx.cell? ⟨g, 1, none⟩ = some (.int .i64 (p : Nat)) ∧ wx.frozen? ⟨g, 1, none⟩ = false ∧ AnWd (.slice (some ⟨b, o, none⟩) B.length cap) B g p bad s w (.returned (.tuple #[])) (wx.setCell ⟨g, 1, none⟩ (.int .i64 (wrap64 ((p : Int) + ((st s).size : Int)))))) := fun e wx hb => hide1 (by
      obtain ⟨t, k⟩ := (hTa.out wx hb).set1 (p + s.length)
      have e3 : ((p + s.length : Nat) : Int) = wrap64 ((p : Int) + ((st s).size : Int)) := by
        rw [show (st s).size = s.length from rfl]; unfold wrap64; omega
      rw [e3] at t k
      exact ⟨(hTa.out wx hb).c1, (hTa.out wx hb).fr 1, rfl, by rw [e]; simpa using t, (Kg.of hb).trans k⟩)
    rw [hp_take] at hfalse htrue
    replace hfalse := hide1 hfalse
    replace htrue := hide1 htrue
    clear hbs h hbb hbc
    go_enter Tryz.func48, Tryz.ntmps48
    go_upto_region 0 with fail
    refine wp_flowG 33 _ _ (by kernel_rfl) (by kernel_rfl) (by kernel_rfl) rfl (fun j v _ => v = ([(.pointer (some ⟨g, 0, none⟩)), (.pointer (some ⟨g, 0, none⟩)), (.pointer (some ⟨g, 1, none⟩)), (.int .i64 (p : Nat)), (.string (st s)), (.int .i64 (s.length : Nat)), (.int .i64 (p + s.length : Nat)), (.pointer (some ⟨g, 0, none⟩)), (.pointer (some ⟨g, 0, none⟩)), (.pointer (some ⟨g, 0, none⟩)), (.slice (some ⟨b, o, none⟩) B.length cap), (.int .i64 (B.length : Nat)), (.bool false), (.bool false), (.pointer (some ⟨g, 0, none⟩)), (.pointer (some ⟨g, 0, none⟩)), (.pointer (some ⟨g, 0, none⟩)), (.slice (some ⟨b, o, none⟩) B.length cap), (.pointer (some ⟨g, 0, none⟩)), (.pointer (some ⟨g, 0, none⟩)), (.pointer (some ⟨g, 1, none⟩)), (.int .i64 (p : Nat)), (.pointer (some ⟨g, 0, none⟩)), (.pointer (some ⟨g, 0, none⟩)), (.pointer (some ⟨g, 1, none⟩)), (.int .i64 (p : Nat)), (.string (st s)), (.int .i64 (s.length : Nat)), (.int .i64 (p + s.length : Nat)), (.slice (some ⟨b, o + p, none⟩) s.length (cap - p)), (.string (st ((B.drop p).take s.length))), (.string (st s)), (.bool (!decide ((B.drop p).take s.length = s))), (.bool (!decide ((B.drop p).take s.length = s)))] : List Value).getD j undef) (fun _ _ _ _ h _ => h) ?_ ?_
    · intro j op hop hj a wa hwa hsz hsl hdep K hK
      match j, hop with
      | 0, hop =>
        obtain rfl := Option.some.inj hop
        have p0 : a.tmps.getD 0 undef = (.pointer (some ⟨g, 0, none⟩)) := hsl 0 rfl
        exact .plain rfl (wp_val (w' := wa) (v := (.pointer (some ⟨g, 0, none⟩))) (by simp only [execOp, Act.eval]; rw [show a.tmps.getD 0 undef = _ from p0]; rfl) (hK _ _ (Below.refl _ _) rfl))
      | 1, hop =>
        obtain rfl := Option.some.inj hop
        have t0 : a.tmps.getD 4 undef = (.pointer (some ⟨g, 0, none⟩)) := hdep 0 _ 4 rfl rfl ⟨⟨0, .data⟩, by simp, rfl, rfl⟩
        exact .plain rfl (wp_val (w' := wa) (v := (.pointer (some ⟨g, 0, none⟩))) (by simp only [execOp, Act.eval]; rw [show a.tmps.getD 4 undef = _ from t0]; kernel_rfl) (hK _ _ (Below.refl _ _) rfl))
      | 2, hop =>
        obtain rfl := Option.some.inj hop
        have t1 : a.tmps.getD 5 undef = (.pointer (some ⟨g, 0, none⟩)) := hdep 1 _ 5 rfl rfl ⟨⟨1, .data⟩, by simp, rfl, rfl⟩
        exact .plain rfl (wp_val (w' := wa) (v := (.pointer (some ⟨g, 1, none⟩))) (by simp only [execOp, Act.eval]; rw [show a.tmps.getD 5 undef = _ from t1]; kernel_rfl) (hK _ _ (Below.refl _ _) rfl))
      | 3, hop =>
        obtain rfl := Option.some.inj hop
        have t2 : a.tmps.getD 6 undef = (.pointer (some ⟨g, 1, none⟩)) := hdep 2 _ 6 rfl rfl ⟨⟨2, .data⟩, by simp, rfl, rfl⟩
        exact .plain rfl (wp_val (w' := wa) (v := (.int .i64 (p : Nat))) (by simp only [execOp, Act.eval]; rw [show a.tmps.getD 6 undef = _ from t2]; simp only [Sem.run_bind, ld_gi (hTa.out wa hwa).c1, Result.andThen_ok, Sem.run_pure]) (hK _ _ (Below.refl _ _) rfl))
      | 4, hop =>
        obtain rfl := Option.some.inj hop
        have p1 : a.tmps.getD 1 undef = (.string (st s)) := hsl 1 rfl
        exact .plain rfl (wp_val (w' := wa) (v := (.string (st s))) (by simp only [execOp, Act.eval]; rw [show a.tmps.getD 1 undef = _ from p1]; rfl) (hK _ _ (Below.refl _ _) rfl))
      | 5, hop =>
        obtain rfl := Option.some.inj hop
        have t4 : a.tmps.getD 8 undef = (.string (st s)) := hdep 4 _ 8 rfl rfl ⟨⟨4, .data⟩, by simp, rfl, rfl⟩
        exact .plain rfl (wp_val (w' := wa) (v := (.int .i64 (s.length : Nat))) (by simp only [execOp, Act.eval, resolve, invoke, builtin, List.map_toArray, List.map_cons, List.map_nil, Sem.run_pure, Result.andThen_ok, Sem.run_bind]; rw [show a.tmps.getD 8 undef = _ from t4]; simp only [len_st, Result.andThen_ok]) (hK _ _ (Below.refl _ _) rfl))
      | 6, hop =>
        obtain rfl := Option.some.inj hop
        have t3 : a.tmps.getD 7 undef = (.int .i64 (p : Nat)) := hdep 3 _ 7 rfl rfl ⟨⟨3, .data⟩, by simp, rfl, rfl⟩
        have t5 : a.tmps.getD 9 undef = (.int .i64 (s.length : Nat)) := hdep 5 _ 9 rfl rfl ⟨⟨5, .data⟩, by simp, rfl, rfl⟩
        exact .plain rfl (wp_val (w' := wa) (v := (.int .i64 (p + s.length : Nat))) (by simp only [execOp, Act.eval]; rw [show a.tmps.getD 7 undef = _ from t3, show a.tmps.getD 9 undef = _ from t5]; simp only [Sem.run_bind, eg_nn, ad_nn hsum, Result.andThen_ok, Sem.run_pure]) (hK _ _ (Below.refl _ _) rfl))
      | 7, hop =>
        obtain rfl := Option.some.inj hop
        have p0 : a.tmps.getD 0 undef = (.pointer (some ⟨g, 0, none⟩)) := hsl 0 rfl
        exact .plain rfl (wp_val (w' := wa) (v := (.pointer (some ⟨g, 0, none⟩))) (by simp only [execOp, Act.eval]; rw [show a.tmps.getD 0 undef = _ from p0]; rfl) (hK _ _ (Below.refl _ _) rfl))
      | 8, hop =>
        obtain rfl := Option.some.inj hop
        have t7 : a.tmps.getD 11 undef = (.pointer (some ⟨g, 0, none⟩)) := hdep 7 _ 11 rfl rfl ⟨⟨7, .data⟩, by simp, rfl, rfl⟩
        exact .plain rfl (wp_val (w' := wa) (v := (.pointer (some ⟨g, 0, none⟩))) (by simp only [execOp, Act.eval]; rw [show a.tmps.getD 11 undef = _ from t7]; kernel_rfl) (hK _ _ (Below.refl _ _) rfl))
      | 9, hop =>
        obtain rfl := Option.some.inj hop
        have t8 : a.tmps.getD 12 undef = (.pointer (some ⟨g, 0, none⟩)) := hdep 8 _ 12 rfl rfl ⟨⟨8, .data⟩, by simp, rfl, rfl⟩
        exact .plain rfl (wp_val (w' := wa) (v := (.pointer (some ⟨g, 0, none⟩))) (by simp only [execOp, Act.eval]; rw [show a.tmps.getD 12 undef = _ from t8]; kernel_rfl) (hK _ _ (Below.refl _ _) rfl))
      | 10, hop =>
        obtain rfl := Option.some.inj hop
        have t9 : a.tmps.getD 13 undef = (.pointer (some ⟨g, 0, none⟩)) := hdep 9 _ 13 rfl rfl ⟨⟨9, .data⟩, by simp, rfl, rfl⟩
        exact .plain rfl (wp_val (w' := wa) (v := (.slice (some ⟨b, o, none⟩) B.length cap)) (by simp only [execOp, Act.eval]; rw [show a.tmps.getD 13 undef = _ from t9]; simp only [Sem.run_bind, ld_gs (hTa.out wa hwa).c0, Result.andThen_ok, Sem.run_pure]) (hK _ _ (Below.refl _ _) rfl))
      | 11, hop =>
        obtain rfl := Option.some.inj hop
        have t10 : a.tmps.getD 14 undef = (.slice (some ⟨b, o, none⟩) B.length cap) := hdep 10 _ 14 rfl rfl ⟨⟨10, .data⟩, by simp, rfl, rfl⟩
        exact .plain rfl (wp_val (w' := wa) (v := (.int .i64 (B.length : Nat))) (by simp only [execOp, Act.eval, resolve, invoke, builtin, List.map_toArray, List.map_cons, List.map_nil, Sem.run_pure, Result.andThen_ok, Sem.run_bind]; rw [show a.tmps.getD 14 undef = _ from t10]; simp only [len_bs, Result.andThen_ok]) (hK _ _ (Below.refl _ _) rfl))
      | 12, hop =>
        obtain rfl := Option.some.inj hop
        have t6 : a.tmps.getD 10 undef = (.int .i64 (p + s.length : Nat)) := hdep 6 _ 10 rfl rfl ⟨⟨6, .data⟩, by simp, rfl, rfl⟩
        have t11 : a.tmps.getD 15 undef = (.int .i64 (B.length : Nat)) := hdep 11 _ 15 rfl rfl ⟨⟨11, .data⟩, by simp, rfl, rfl⟩
        exact .plain rfl (wp_val (w' := wa) (v := (.bool false)) (by simp only [execOp, Act.eval]; rw [show a.tmps.getD 10 undef = _ from t6, show a.tmps.getD 15 undef = _ from t11]; simp only [Sem.run_bind, eg_nn, gt_nn, decide_eq_false hl, Result.andThen_ok, Sem.run_pure]) (hK _ _ (Below.refl _ _) rfl))
      | 13, hop =>
        obtain rfl := Option.some.inj hop
        have t12 : a.tmps.getD 16 undef = (.bool false) := hdep 12 _ 16 rfl rfl ⟨⟨12, .data⟩, by simp, rfl, rfl⟩
        exact .plain rfl (wp_val (w' := wa) (v := (.bool false)) (by simp only [execOp, Act.eval]; rw [show a.tmps.getD 16 undef = _ from t12]; rfl) (hK _ _ (Below.refl _ _) rfl))
      | 14, hop =>
        obtain rfl := Option.some.inj hop
        have gg : a.tmps.getD 17 undef = (.bool false) := hdep 13 _ 17 rfl rfl ⟨⟨13, .guard⟩, by simp, rfl, rfl⟩
        have p0 : a.tmps.getD 0 undef = (.pointer (some ⟨g, 0, none⟩)) := hsl 0 rfl
        exact .want rfl rfl (by rw [hsz]; simp) gg (wp_val (w' := wa) (v := (.pointer (some ⟨g, 0, none⟩))) (by simp only [execOp, Act.eval]; rw [show a.tmps.getD 0 undef = _ from p0]; rfl) (hK _ _ (Below.refl _ _) rfl))
      | 15, hop =>
        obtain rfl := Option.some.inj hop
        have gg : a.tmps.getD 17 undef = (.bool false) := hdep 13 _ 17 rfl rfl ⟨⟨13, .guard⟩, by simp, rfl, rfl⟩
        have t14 : a.tmps.getD 18 undef = (.pointer (some ⟨g, 0, none⟩)) := hdep 14 _ 18 rfl rfl ⟨⟨14, .data⟩, by simp, rfl, rfl⟩
        exact .want rfl rfl (by rw [hsz]; simp) gg (wp_val (w' := wa) (v := (.pointer (some ⟨g, 0, none⟩))) (by simp only [execOp, Act.eval]; rw [show a.tmps.getD 18 undef = _ from t14]; kernel_rfl) (hK _ _ (Below.refl _ _) rfl))
      | 16, hop =>
        obtain rfl := Option.some.inj hop
        have gg : a.tmps.getD 17 undef = (.bool false) := hdep 13 _ 17 rfl rfl ⟨⟨13, .guard⟩, by simp, rfl, rfl⟩
        have t15 : a.tmps.getD 19 undef = (.pointer (some ⟨g, 0, none⟩)) := hdep 15 _ 19 rfl rfl ⟨⟨15, .data⟩, by simp, rfl, rfl⟩
        exact .want rfl rfl (by rw [hsz]; simp) gg (wp_val (w' := wa) (v := (.pointer (some ⟨g, 0, none⟩))) (by simp only [execOp, Act.eval]; rw [show a.tmps.getD 19 undef = _ from t15]; kernel_rfl) (hK _ _ (Below.refl _ _) rfl))
      | 17, hop =>
        obtain rfl := Option.some.inj hop
        have gg : a.tmps.getD 17 undef = (.bool false) := hdep 13 _ 17 rfl rfl ⟨⟨13, .guard⟩, by simp, rfl, rfl⟩
        have t16 : a.tmps.getD 20 undef = (.pointer (some ⟨g, 0, none⟩)) := hdep 16 _ 20 rfl rfl ⟨⟨16, .data⟩, by simp, rfl, rfl⟩
        exact .want rfl rfl (by rw [hsz]; simp) gg (wp_val (w' := wa) (v := (.slice (some ⟨b, o, none⟩) B.length cap)) (by simp only [execOp, Act.eval]; rw [show a.tmps.getD 20 undef = _ from t16]; simp only [Sem.run_bind, ld_gs (hTa.out wa hwa).c0, Result.andThen_ok, Sem.run_pure]) (hK _ _ (Below.refl _ _) rfl))
      | 18, hop =>
        obtain rfl := Option.some.inj hop
        have gg : a.tmps.getD 17 undef = (.bool false) := hdep 13 _ 17 rfl rfl ⟨⟨13, .guard⟩, by simp, rfl, rfl⟩
        have p0 : a.tmps.getD 0 undef = (.pointer (some ⟨g, 0, none⟩)) := hsl 0 rfl
        exact .want rfl rfl (by rw [hsz]; simp) gg (wp_val (w' := wa) (v := (.pointer (some ⟨g, 0, none⟩))) (by simp only [execOp, Act.eval]; rw [show a.tmps.getD 0 undef = _ from p0]; rfl) (hK _ _ (Below.refl _ _) rfl))
      | 19, hop =>
        obtain rfl := Option.some.inj hop
        have gg : a.tmps.getD 17 undef = (.bool false) := hdep 13 _ 17 rfl rfl ⟨⟨13, .guard⟩, by simp, rfl, rfl⟩
        have t18 : a.tmps.getD 22 undef = (.pointer (some ⟨g, 0, none⟩)) := hdep 18 _ 22 rfl rfl ⟨⟨18, .data⟩, by simp, rfl, rfl⟩
        exact .want rfl rfl (by rw [hsz]; simp) gg (wp_val (w' := wa) (v := (.pointer (some ⟨g, 0, none⟩))) (by simp only [execOp, Act.eval]; rw [show a.tmps.getD 22 undef = _ from t18]; kernel_rfl) (hK _ _ (Below.refl _ _) rfl))
      | 20, hop =>
        obtain rfl := Option.some.inj hop
        have gg : a.tmps.getD 17 undef = (.bool false) := hdep 13 _ 17 rfl rfl ⟨⟨13, .guard⟩, by simp, rfl, rfl⟩
        have t19 : a.tmps.getD 23 undef = (.pointer (some ⟨g, 0, none⟩)) := hdep 19 _ 23 rfl rfl ⟨⟨19, .data⟩, by simp, rfl, rfl⟩
        exact .want rfl rfl (by rw [hsz]; simp) gg (wp_val (w' := wa) (v := (.pointer (some ⟨g, 1, none⟩))) (by simp only [execOp, Act.eval]; rw [show a.tmps.getD 23 undef = _ from t19]; kernel_rfl) (hK _ _ (Below.refl _ _) rfl))
      | 21, hop =>
        obtain rfl := Option.some.inj hop
        have gg : a.tmps.getD 17 undef = (.bool false) := hdep 13 _ 17 rfl rfl ⟨⟨13, .guard⟩, by simp, rfl, rfl⟩
        have t20 : a.tmps.getD 24 undef = (.pointer (some ⟨g, 1, none⟩)) := hdep 20 _ 24 rfl rfl ⟨⟨20, .data⟩, by simp, rfl, rfl⟩
        exact .want rfl rfl (by rw [hsz]; simp) gg (wp_val (w' := wa) (v := (.int .i64 (p : Nat))) (by simp only [execOp, Act.eval]; rw [show a.tmps.getD 24 undef = _ from t20]; simp only [Sem.run_bind, ld_gi (hTa.out wa hwa).c1, Result.andThen_ok, Sem.run_pure]) (hK _ _ (Below.refl _ _) rfl))
      | 22, hop =>
        obtain rfl := Option.some.inj hop
        have gg : a.tmps.getD 17 undef = (.bool false) := hdep 13 _ 17 rfl rfl ⟨⟨13, .guard⟩, by simp, rfl, rfl⟩
        have p0 : a.tmps.getD 0 undef = (.pointer (some ⟨g, 0, none⟩)) := hsl 0 rfl
        exact .want rfl rfl (by rw [hsz]; simp) gg (wp_val (w' := wa) (v := (.pointer (some ⟨g, 0, none⟩))) (by simp only [execOp, Act.eval]; rw [show a.tmps.getD 0 undef = _ from p0]; rfl) (hK _ _ (Below.refl _ _) rfl))
      | 23, hop =>
        obtain rfl := Option.some.inj hop
        have gg : a.tmps.getD 17 undef = (.bool false) := hdep 13 _ 17 rfl rfl ⟨⟨13, .guard⟩, by simp, rfl, rfl⟩
        have t22 : a.tmps.getD 26 undef = (.pointer (some ⟨g, 0, none⟩)) := hdep 22 _ 26 rfl rfl ⟨⟨22, .data⟩, by simp, rfl, rfl⟩
        exact .want rfl rfl (by rw [hsz]; simp) gg (wp_val (w' := wa) (v := (.pointer (some ⟨g, 0, none⟩))) (by simp only [execOp, Act.eval]; rw [show a.tmps.getD 26 undef = _ from t22]; kernel_rfl) (hK _ _ (Below.refl _ _) rfl))
      | 24, hop =>
        obtain rfl := Option.some.inj hop
        have gg : a.tmps.getD 17 undef = (.bool false) := hdep 13 _ 17 rfl rfl ⟨⟨13, .guard⟩, by simp, rfl, rfl⟩
        have t23 : a.tmps.getD 27 undef = (.pointer (some ⟨g, 0, none⟩)) := hdep 23 _ 27 rfl rfl ⟨⟨23, .data⟩, by simp, rfl, rfl⟩
        exact .want rfl rfl (by rw [hsz]; simp) gg (wp_val (w' := wa) (v := (.pointer (some ⟨g, 1, none⟩))) (by simp only [execOp, Act.eval]; rw [show a.tmps.getD 27 undef = _ from t23]; kernel_rfl) (hK _ _ (Below.refl _ _) rfl))
      | 25, hop =>
        obtain rfl := Option.some.inj hop
        have gg : a.tmps.getD 17 undef = (.bool false) := hdep 13 _ 17 rfl rfl ⟨⟨13, .guard⟩, by simp, rfl, rfl⟩
        have t24 : a.tmps.getD 28 undef = (.pointer (some ⟨g, 1, none⟩)) := hdep 24 _ 28 rfl rfl ⟨⟨24, .data⟩, by simp, rfl, rfl⟩
        exact .want rfl rfl (by rw [hsz]; simp) gg (wp_val (w' := wa) (v := (.int .i64 (p : Nat))) (by simp only [execOp, Act.eval]; rw [show a.tmps.getD 28 undef = _ from t24]; simp only [Sem.run_bind, ld_gi (hTa.out wa hwa).c1, Result.andThen_ok, Sem.run_pure]) (hK _ _ (Below.refl _ _) rfl))
      | 26, hop =>
        obtain rfl := Option.some.inj hop
        have gg : a.tmps.getD 17 undef = (.bool false) := hdep 13 _ 17 rfl rfl ⟨⟨13, .guard⟩, by simp, rfl, rfl⟩
        have p1 : a.tmps.getD 1 undef = (.string (st s)) := hsl 1 rfl
        exact .want rfl rfl (by rw [hsz]; simp) gg (wp_val (w' := wa) (v := (.string (st s))) (by simp only [execOp, Act.eval]; rw [show a.tmps.getD 1 undef = _ from p1]; rfl) (hK _ _ (Below.refl _ _) rfl))
      | 27, hop =>
        obtain rfl := Option.some.inj hop
        have gg : a.tmps.getD 17 undef = (.bool false) := hdep 13 _ 17 rfl rfl ⟨⟨13, .guard⟩, by simp, rfl, rfl⟩
        have t26 : a.tmps.getD 30 undef = (.string (st s)) := hdep 26 _ 30 rfl rfl ⟨⟨26, .data⟩, by simp, rfl, rfl⟩
        exact .want rfl rfl (by rw [hsz]; simp) gg (wp_val (w' := wa) (v := (.int .i64 (s.length : Nat))) (by simp only [execOp, Act.eval, resolve, invoke, builtin, List.map_toArray, List.map_cons, List.map_nil, Sem.run_pure, Result.andThen_ok, Sem.run_bind]; rw [show a.tmps.getD 30 undef = _ from t26]; simp only [len_st, Result.andThen_ok]) (hK _ _ (Below.refl _ _) rfl))
      | 28, hop =>
        obtain rfl := Option.some.inj hop
        have gg : a.tmps.getD 17 undef = (.bool false) := hdep 13 _ 17 rfl rfl ⟨⟨13, .guard⟩, by simp, rfl, rfl⟩
        have t25 : a.tmps.getD 29 undef = (.int .i64 (p : Nat)) := hdep 25 _ 29 rfl rfl ⟨⟨25, .data⟩, by simp, rfl, rfl⟩
        have t27 : a.tmps.getD 31 undef = (.int .i64 (s.length : Nat)) := hdep 27 _ 31 rfl rfl ⟨⟨27, .data⟩, by simp, rfl, rfl⟩
        exact .want rfl rfl (by rw [hsz]; simp) gg (wp_val (w' := wa) (v := (.int .i64 (p + s.length : Nat))) (by simp only [execOp, Act.eval]; rw [show a.tmps.getD 29 undef = _ from t25, show a.tmps.getD 31 undef = _ from t27]; simp only [Sem.run_bind, eg_nn, ad_nn hsum, Result.andThen_ok, Sem.run_pure]) (hK _ _ (Below.refl _ _) rfl))
      | 29, hop =>
        obtain rfl := Option.some.inj hop
        have gg : a.tmps.getD 17 undef = (.bool false) := hdep 13 _ 17 rfl rfl ⟨⟨13, .guard⟩, by simp, rfl, rfl⟩
        have t17 : a.tmps.getD 21 undef = (.slice (some ⟨b, o, none⟩) B.length cap) := hdep 17 _ 21 rfl rfl ⟨⟨17, .data⟩, by simp, rfl, rfl⟩
        have t21 : a.tmps.getD 25 undef = (.int .i64 (p : Nat)) := hdep 21 _ 25 rfl rfl ⟨⟨21, .data⟩, by simp, rfl, rfl⟩
        have t28 : a.tmps.getD 32 undef = (.int .i64 (p + s.length : Nat)) := hdep 28 _ 32 rfl rfl ⟨⟨28, .data⟩, by simp, rfl, rfl⟩
        exact .want rfl rfl (by rw [hsz]; simp) gg (wp_val (w' := wa) (v := (.slice (some ⟨b, o + p, none⟩) s.length (cap - p))) (by simp only [execOp, Act.eval, Option.map_some, Option.map_none]; rw [show a.tmps.getD 21 undef = _ from t17, show a.tmps.getD 25 undef = _ from t21, show a.tmps.getD 32 undef = _ from t28]; simp only [Sem.run_bind, sl_md hs hle, Result.andThen_ok, Sem.run_pure]) (hK _ _ (Below.refl _ _) rfl))
      | 30, hop =>
        obtain rfl := Option.some.inj hop
        have gg : a.tmps.getD 17 undef = (.bool false) := hdep 13 _ 17 rfl rfl ⟨⟨13, .guard⟩, by simp, rfl, rfl⟩
        have t29 : a.tmps.getD 33 undef = (.slice (some ⟨b, o + p, none⟩) s.length (cap - p)) := hdep 29 _ 33 rfl rfl ⟨⟨29, .data⟩, by simp, rfl, rfl⟩
        exact .want rfl rfl (by rw [hsz]; simp) gg (wp_val (w' := wa) (v := (.string (st ((B.drop p).take s.length)))) (by simp only [execOp, Act.eval]; rw [show a.tmps.getD 33 undef = _ from t29]; simp only [Sem.run_bind, conv_b (hbt.out wa hwa), Result.andThen_ok, Sem.run_pure]) (hK _ _ (Below.refl _ _) rfl))
      | 31, hop =>
        obtain rfl := Option.some.inj hop
        have gg : a.tmps.getD 17 undef = (.bool false) := hdep 13 _ 17 rfl rfl ⟨⟨13, .guard⟩, by simp, rfl, rfl⟩
        have p1 : a.tmps.getD 1 undef = (.string (st s)) := hsl 1 rfl
        exact .want rfl rfl (by rw [hsz]; simp) gg (wp_val (w' := wa) (v := (.string (st s))) (by simp only [execOp, Act.eval]; rw [show a.tmps.getD 1 undef = _ from p1]; rfl) (hK _ _ (Below.refl _ _) rfl))
      | 32, hop =>
        obtain rfl := Option.some.inj hop
        have gg : a.tmps.getD 17 undef = (.bool false) := hdep 13 _ 17 rfl rfl ⟨⟨13, .guard⟩, by simp, rfl, rfl⟩
        have t30 : a.tmps.getD 34 undef = (.string (st ((B.drop p).take s.length))) := hdep 30 _ 34 rfl rfl ⟨⟨30, .data⟩, by simp, rfl, rfl⟩
        have t31 : a.tmps.getD 35 undef = (.string (st s)) := hdep 31 _ 35 rfl rfl ⟨⟨31, .data⟩, by simp, rfl, rfl⟩
        exact .want rfl rfl (by rw [hsz]; simp) gg (wp_val (w' := wa) (v := (.bool (!decide ((B.drop p).take s.length = s)))) (by simp only [execOp, Act.eval]; rw [show a.tmps.getD 34 undef = _ from t30, show a.tmps.getD 35 undef = _ from t31]; simp only [Sem.run_bind, eg_s, nq_s, Result.andThen_ok, Sem.run_pure]) (hK _ _ (Below.refl _ _) rfl))
      | 33, _ => exact absurd rfl hj
      | _ + 34, hop => exact absurd hop (by simp)
    · intro a wa hwa hdf hsz hsl hrr K hK
      have t13 : a.tmps.getD 17 undef = (.bool false) := hrr 13 _ 17 rfl (by decide) rfl
      have t32 : a.tmps.getD 36 undef = (.bool (!decide ((B.drop p).take s.length = s))) := hrr 32 _ 36 rfl (by decide) rfl
      refine .plain rfl (wp_val (w' := wa) (v := (.bool (!decide ((B.drop p).take s.length = s)))) (by simp only [execOp, Act.eval]; rw [show a.tmps.getD 17 undef = _ from t13, show a.tmps.getD 36 undef = _ from t32]; rfl) ?_)
      refine hK _ wa ?_
      have hact := act_puts hdf hsz hsl
      clear hrr hsl hdf hsz hK t13 t32
      simp only [List.filterMap_cons, List.filterMap_nil, List.foldl_cons, List.foldl_nil] at hact
      rw [hact]
      generalize a.tmps.getD 4 undef = y4
      generalize a.tmps.getD 5 undef = y5
      generalize a.tmps.getD 6 undef = y6
      generalize a.tmps.getD 7 undef = y7
      generalize a.tmps.getD 8 undef = y8
      generalize a.tmps.getD 9 undef = y9
      generalize a.tmps.getD 10 undef = y10
      generalize a.tmps.getD 11 undef = y11
      generalize a.tmps.getD 12 undef = y12
      generalize a.tmps.getD 13 undef = y13
      generalize a.tmps.getD 14 undef = y14
      generalize a.tmps.getD 15 undef = y15
      generalize a.tmps.getD 16 undef = y16
      generalize a.tmps.getD 17 undef = y17
      generalize a.tmps.getD 18 undef = y18
      generalize a.tmps.getD 19 undef = y19
      generalize a.tmps.getD 20 undef = y20
      generalize a.tmps.getD 21 undef = y21
      generalize a.tmps.getD 22 undef = y22
      generalize a.tmps.getD 23 undef = y23
      generalize a.tmps.getD 24 undef = y24
      generalize a.tmps.getD 25 undef = y25
      generalize a.tmps.getD 26 undef = y26
      generalize a.tmps.getD 27 undef = y27
      generalize a.tmps.getD 28 undef = y28
      generalize a.tmps.getD 29 undef = y29
      generalize a.tmps.getD 30 undef = y30
      generalize a.tmps.getD 31 undef = y31
      generalize a.tmps.getD 32 undef = y32
      generalize a.tmps.getD 33 undef = y33
      generalize a.tmps.getD 34 undef = y34
      generalize a.tmps.getD 35 undef = y35
      generalize a.tmps.getD 36 undef = y36
      clear hact
      simp only [Act.put, List.setIfInBounds_toArray, List.set_cons_succ, List.set_cons_zero]
      by_cases he : (B.drop p).take s.length = s
      · have hf2 := (htrue.out (decide_eq_true he) wa hwa).out
        have e1 := hf2.1
        have e2 := hf2.2.1
        replace hf2 := hide1 hf2.2.2
        rw [decide_eq_true he]
        clear hfalse htrue hTa hwa hbt he
        simp only [Bool.not_true]
        go_wp2
        exact bodyPost_end (results_none rfl _ _ _) rfl hf2.out
      · have hf2 := (hfalse.out (decide_eq_false he) wa hwa).out
        have e1 := hf2.1
        have e2 := hf2.2.1
        replace hf2 := hide1 hf2.2.2
        rw [decide_eq_false he]
        clear hfalse htrue hTa hwa hbt he
        simp only [Bool.not_false]
        go_wp2
        exact bodyPost_end (results_none rfl _ _ _) rfl hf2.out
set_option maxHeartbeats 4000000 in
set_option maxRecDepth 100000 in
theorem figure_t (h : Tg sl B g p bad w) : Calls Tryz.prog 90 #[.pointer (some ⟨g, 0, none⟩)] w fun e w' => e = .returned (.bool (decide (48 ≤ nx B p) && decide (nx B p ≤ 57))) ∧ Below w.heap.size w w' := by
  have hn1 := next_t h
  have hn2 : Hid (∀ wx, Below w.heap.size w wx → Calls Tryz.prog 47 #[.pointer (some ⟨g, 0, none⟩)] wx fun e w' => e = .returned (.int .i64 (nx B p : Nat)) ∧ Below wx.heap.size wx w') := hide1 fun wx hb => next_t (h.later hb)
  have hc := nx_lt B p
  generalize nx B p = c at *
  clear h
  go_enter Tryz.func90, Tryz.ntmps90
  go_wp2_with fail
  refine hn1.mono ?_
  rintro e w1 ⟨rfl, b1⟩
  by_cases h1 : 48 ≤ c
  · have dd1 : decide ((c : Int) ≥ 48) = true := decide_eq_true (by omega)
    have hn := hn2.out w1 b1
    replace b1 := hide1 b1
    clear hn1 hn2
    go_wp2_with fail
    refine hn.mono ?_
    rintro e w2 ⟨rfl, b2⟩
    replace b2 := hide1 (b1.out.trans (b2.mono b1.out.size))
    by_cases h2 : c ≤ 57
    · have hE : Hid ((decide (48 ≤ c) && decide (c ≤ 57)) = true) := hide1 (by simp [h1, h2])
      have dd2 : decide ((c : Int) ≤ 57) = true := decide_eq_true (by omega)
      clear hn b1
      go_wp2
      go_ret
      exact ⟨by rw [hE.out]; rfl, b2.out⟩
    · have hE : Hid ((decide (48 ≤ c) && decide (c ≤ 57)) = false) := hide1 (by simp [h2])
      have dd2 : decide ((c : Int) ≤ 57) = false := decide_eq_false (by omega)
      clear hn b1
      go_wp2
      go_ret
      exact ⟨by rw [hE.out]; rfl, b2.out⟩
  · have hE : Hid ((decide (48 ≤ c) && decide (c ≤ 57)) = false) := hide1 (by simp [h1])
    have dd1 : decide ((c : Int) ≥ 48) = false := decide_eq_false (by omega)
    replace b1 := hide1 b1
    clear hn1 hn2
    go_wp2
    go_ret
    exact ⟨by rw [hE.out]; rfl, b1.out⟩
end
end Go.Proofs.YthgndmgoilfpcaaGreatDoor

namespace Go.Proofs.YthgndmgoilfpcaaGreatDoor
open Go.RowKit

theorem nx_at (B : List UInt8) (f k : Nat) : nx B (f + k) = nx (B.drop f) k := by unfold nx; rw [List.getElem?_drop]
theorem tw_at : ∀ {l : List UInt8} {k : Nat}, k < (l.takeWhile dg).length → nx l k = nx (l.takeWhile dg) k ∧ dg (UInt8.ofNat (nx l k)) = true ∧ nx l k < 256
  | [], k, h => by simp at h
  | x :: l, k, h => by
    rw [List.takeWhile_cons] at h ⊢
    by_cases hx : dg x = true
    · rw [if_pos hx] at h ⊢
      cases k with
      | zero =>
        refine ⟨rfl, ?_, UInt8.toNat_lt x⟩
        show dg (UInt8.ofNat x.toNat) = true
        rw [UInt8.ofNat_toNat]; exact hx
      | succ k =>
        have := tw_at (l := l) (k := k) (by simpa using h)
        exact this
    · rw [if_neg hx] at h; simp at h
theorem tw_end : ∀ {l : List UInt8}, ¬ (48 ≤ nx l (l.takeWhile dg).length ∧ nx l (l.takeWhile dg).length ≤ 57)
  | [] => by decide
  | x :: l => by
    rw [List.takeWhile_cons]
    by_cases hx : dg x = true
    · rw [if_pos hx]
      exact tw_end (l := l)
    · rw [if_neg hx]
      intro h
      apply hx
      unfold dg
      have e : nx (x :: l) ([] : List UInt8).length = x.toNat := rfl
      rw [e] at h
      simp [h.1, h.2]
theorem dg_nat {c : Nat} (h : dg (UInt8.ofNat c) = true) (hc : c < 256) : 48 ≤ c ∧ c ≤ 57 := by
  unfold dg at h
  rw [of_u8 hc] at h
  simpa using h
theorem dgs_snc (l : List UInt8) (x : UInt8) : dgs (l ++ [x]) = 10 * dgs l + (x.toNat - 48) := by unfold dgs; rw [List.foldl_append]; rfl
theorem dgs_ge : ∀ (b : List UInt8) (n : Nat), n ≤ b.foldl (fun n b => 10 * n + (b.toNat - 48)) n
  | [], n => Nat.le_refl _
  | x :: b, n => by
    have := dgs_ge b (10 * n + (x.toNat - 48))
    rw [List.foldl_cons]
    omega
theorem dgs_take (D : List UInt8) (k : Nat) : dgs (D.take k) ≤ dgs D := by
  have h : dgs D = (D.drop k).foldl (fun n b => 10 * n + (b.toNat - 48)) (dgs (D.take k)) := by
    unfold dgs
    rw [← List.foldl_append, List.take_append_drop]
  rw [h]
  exact dgs_ge _ _
theorem dgs_step {D : List UInt8} {k : Nat} (hk : k < D.length) : dgs (D.take (k + 1)) = 10 * dgs (D.take k) + (nx D k - 48) := by
  rw [List.take_add_one, List.getElem?_eq_getElem hk]
  show dgs (D.take k ++ [D[k]]) = _
  rw [dgs_snc]
  unfold nx
  rw [List.getElem?_eq_getElem hk]
def AnIr (sl : Value) (B : List UInt8) (g : Nat) (o : Option (Int × List UInt8)) (w : World) (e : Ending) (w' : World) : Prop :=
  ∃ x q, e = .returned (.int .i64 x) ∧ Tg sl B g q o.isNone w' ∧ Kg g w w' ∧ q ≤ B.length + 1 ∧ ∀ i r, o = some (i, r) → x = i ∧ B.drop q = r ∧ q ≤ B.length
section
variable {sl : Value} {B : List UInt8} {g p : Nat} {w w' : World}
theorem fig_eq {f k : Nat} {D : List UInt8} (hD : D = (B.drop f).takeWhile dg) (hk : k ≤ D.length) : (decide (48 ≤ nx B (f + k)) && decide (nx B (f + k) ≤ 57)) = decide (k < D.length) := by
  rw [nx_at]
  by_cases h : k < D.length
  · have h2 := tw_at (l := B.drop f) (k := k) (by rw [← hD]; exact h)
    have := dg_nat h2.2.1 h2.2.2
    simp [h, this]
  · have e : k = D.length := by omega
    have := tw_end (l := B.drop f)
    rw [← hD, ← e] at this
    simp [h]
    omega
theorem fig_at {f k : Nat} {D : List UInt8} (hD : D = (B.drop f).takeWhile dg) (hk : k < D.length) : nx B (f + k) = nx D k ∧ 48 ≤ nx D k ∧ nx D k ≤ 57 := by
  have h2 := tw_at (l := B.drop f) (k := k) (by rw [← hD]; exact hk)
  have h3 := dg_nat h2.2.1 h2.2.2
  rw [nx_at, h2.1, ← hD]
  rw [h2.1, ← hD] at h3
  exact ⟨rfl, h3⟩
theorem tw_len {f : Nat} {D : List UInt8} (hD : D = (B.drop f).takeWhile dg) (hf : f ≤ B.length) : f + D.length ≤ B.length ∧ B.drop (f + D.length) = (B.drop f).dropWhile dg := by
  have h := List.takeWhile_append_dropWhile (p := dg) (l := B.drop f)
  rw [← hD] at h
  constructor
  · have := congrArg List.length h
    rw [List.length_append, List.length_drop] at this
    omega
  · rw [← List.drop_drop]
    have e : (B.drop f).drop D.length = (D ++ (B.drop f).dropWhile dg).drop D.length := by rw [h]
    rw [e, List.drop_left]
set_option maxHeartbeats 16000000 in
set_option maxRecDepth 100000 in
theorem number_neg {f : Nat} {D : List UInt8} (h : Tg sl B g p false w) (_hpl : p ≤ B.length) (hB : B.length ≤ 4096) (hc : nx B p = 45) (hf : f = p + 1) (hD : D = (B.drop f).takeWhile dg) (o : Option (Int × List UInt8)) (ho : o = (nmO true D).map fun n => (n, (B.drop f).dropWhile dg)) : Calls Tryz.prog 52 #[.pointer (some ⟨g, 0, none⟩)] w (AnIr sl B g o w) := by
  have hn := next_t h
  have hcl := nx_lt B p
  obtain ⟨a0, cap, hsl, -⟩ := h.bs
  have hp1 : p < B.length := (nx_pos hc (by omega)).choose_spec.choose_spec.2.2
  rw [hc] at hn
  have hfl : f ≤ B.length := by omega
  obtain ⟨hDl, hDd⟩ := tw_len hD hfl
  have hf45 : Hid (f = p + 1) := hide1 hf
  replace hD := hide1 hD
  replace hDd := hide1 hDd
  replace ho := hide1 ho
  clear hf
  go_enter Tryz.func52, Tryz.ntmps52
  go_wp2_with fail
  refine hn.mono ?_
  rintro e w1 ⟨rfl, b1⟩
  have t1 := h.later b1
  have c1 := t1.c1
  have cf := t1.fr 1
  obtain ⟨t2, k2⟩ := t1.set1p
  replace k2 := hide1 ((Kg.of b1).trans k2)
  have e2 : (w1.setCell ⟨g, 1, none⟩ (.int .i64 (((p : Nat) : Int) + 1))).cell? ⟨g, 1, none⟩ = some (.int .i64 (((p + 1 : Nat) : Int))) := t2.c1
  go_upto_region 5 with fail
  generalize w1.setCell ⟨g, 1, none⟩ (.int .i64 (((p : Nat) : Int) + 1)) = w2 at *
  clear hn b1 t1 c1 cf h
  rw [← hf45.out] at t2 e2
  go_wp2_with fail
  replace t2 := hide1 t2
  clear e2 hp1
  go_loopw [5] (fun x wr => ∃ (k q n : Nat) (bad : Bool), x = .int .i64 (n : Nat) ∧ Hid (q = f + k) ∧ q ≤ 100000 ∧ k ≤ D.length ∧ n ≤ 9007199254740991 ∧ Hid (Tg sl B g q bad wr) ∧ Hid (Kg g w wr) ∧ Hid (bad = false → n = dgs (D.take k)) ∧ Hid (bad = true → 9007199254740991 < dgs D)) (fun _ wr => D.length - (atOf g wr - f))
  case atStart => exact ⟨0, f, 0, false, rfl, hide1 rfl, by omega, by omega, by omega, t2, k2, hide1 fun _ => rfl, hide1 fun e => by cases e⟩
  case round =>
    clear t2 k2
    obtain ⟨k, q, n, bad, rfl, hqk, hq5, hk, hn9, ht, hkk, hg, hb⟩ := hrel
    have hat : Hid (atOf g wr = q) := hide1 ht.out.atOf
    have hfg := figure_t ht.out
    have hq6 : Hid (q ≤ B.length) := hide1 (by have := hqk.out; omega)
    rw [hqk.out, fig_eq hD.out hk] at hfg
    go_wp2_with fail
    refine hfg.mono ?_
    rintro e w3 ⟨rfl, b3⟩
    by_cases hlt : k < D.length
    · rw [decide_eq_true hlt]
      obtain ⟨c, hcD⟩ : ∃ c, Hid (nx D k = c) := ⟨_, hide1 rfl⟩
      obtain ⟨f1, f2, f3⟩ := fig_at hD.out hlt
      have hnx := next_t (ht.out.later b3)
      have hds := dgs_step hlt
      rw [hqk.out, f1, hcD.out] at hnx
      rw [hcD.out] at f2 f3 hds
      replace hds := hide1 hds
      replace b3 := hide1 b3
      clear hfg f1
      go_wp2_with fail
      refine hnx.mono ?_
      rintro e w4 ⟨rfl, b4⟩
      replace b4 := hide1 (b3.out.trans (b4.mono b3.out.size))
      have t4 := ht.out.later b4.out
      have k4 := hide1 (hkk.out.trans (Kg.of b4.out))
      clear hnx b3
      by_cases hov : 9007199254740991 < 10 * n + c - 48
      · have ho1 : (9007199254740991 : Int) < 10 * (n : Int) + (c : Int) - 48 := by omega
        have cf2 := t4.fr 2
        have cc2 := t4.c2
        obtain ⟨t5, k5⟩ := t4.set2 true
        have k5' := hide1 (k4.out.trans k5)
        have c5 := t5.c1
        have f5 := t5.fr 1
        obtain ⟨t6, k6⟩ := t5.set1p
        replace t5 := hide1 t5
        have k6' := hide1 (k5'.out.trans k6)
        replace t6 := hide1 t6
        have hbig : Hid (9007199254740991 < dgs D) := hide1 (by
          cases bad with
          | true => exact hb.out rfl
          | false =>
            have h1 := dgs_take D (k + 1)
            have h2 := hg.out rfl
            have h3 := hds.out
            omega)
        clear k5 k6 t4 k4 b4 hg hb hds k5' hcD
        go_upto_region 12 with fail
        generalize w4.setCell ⟨g, 2, none⟩ (.bool true) = w5 at *
        go_wp2
        go_roundw
        case rel => exact ⟨k + 1, q + 1, 0, true, rfl, hide1 (by have := hqk.out; omega), by have := hq6.out; omega, by omega, by omega, t6, k6', hide1 (fun e => by cases e), hide1 (fun _ => hbig.out)⟩
        case measure =>
          rw [t6.out.atOf, hat.out]; have := hqk.out; omega
      · have ho1 : ¬ (9007199254740991 : Int) < 10 * (n : Int) + (c : Int) - 48 := by omega
        have c4 := t4.c1
        have f4' := t4.fr 1
        obtain ⟨t6, k6⟩ := t4.set1p
        have k6' := hide1 (k4.out.trans k6)
        replace t6 := hide1 t6
        have en : (10 * (n : Int) + (c : Int) - 48) = ((10 * n + c - 48 : Nat) : Int) := by omega
        have hg2 : Hid (bad = false → 10 * n + c - 48 = dgs (D.take (k + 1))) := hide1 (fun e => by rw [hds.out, ← hg.out e]; omega)
        have hN : 10 * n + c - 48 ≤ 9007199254740991 := by omega
        replace en := hide1 en
        clear t4 k4 b4 hds hg hcD k6
        go_wp2
        rw [en.out]
        go_roundw
        case rel => exact ⟨k + 1, q + 1, 10 * n + c - 48, bad, rfl, hide1 (by have := hqk.out; omega), by have := hq6.out; omega, by omega, hN, t6, k6', hg2, hb⟩
        case measure =>
          rw [t6.out.atOf, hat.out]; have := hqk.out; omega
    · rw [decide_eq_false hlt]
      have hke : k = D.length := by omega
      subst hke
      have t3 := ht.out.later b3
      have k3 := hide1 (hkk.out.trans (Kg.of b3))
      have c3 := t3.c1
      have hql : Hid (q ≤ B.length) := hq6
      have hdr : Hid (B.drop q = (B.drop f).dropWhile dg) := hide1 (by rw [hqk.out]; exact hDd.out)
      have hN : o = none → ∀ X : Int, Hid (w3.cell? ⟨g, 2, none⟩ = some (.bool bad) ∧ w3.frozen? ⟨g, 2, none⟩ = false ∧ AnIr sl B g o w (.returned (.int .i64 X)) (w3.setCell ⟨g, 2, none⟩ (.bool true))) := fun e X => hide1 (by
        obtain ⟨t4, k4⟩ := t3.set2 true
        refine ⟨t3.c2, t3.fr 2, X, q, rfl, by rw [e]; exact t4, k3.out.trans k4, by have := hql.out; omega, fun i r e2 => by rw [e] at e2; cases e2⟩)
      have hS : ∀ X : Int, o.isNone = bad → (∀ i r, o = some (i, r) → X = i ∧ (B.drop f).dropWhile dg = r) → Hid (AnIr sl B g o w (.returned (.int .i64 X)) w3) := fun X e1 e2 => hide1 (by
        refine ⟨X, q, rfl, by rw [e1]; exact t3, k3.out, by have := hql.out; omega, fun i r e => ⟨(e2 i r e).1, by rw [hdr.out]; exact (e2 i r e).2, hql.out⟩⟩)
      obtain ⟨b, cap', hsl2, hbc⟩ := t3.bs
      have hx0 : 0 < D.length → ∃ bb oo, sl = .slice (some ⟨bb, oo, none⟩) B.length cap' ∧ f < B.length ∧ w3.cell? ⟨bb, oo + f, none⟩ = some (.int .u8 (nx D 0 : Nat)) := fun h0 => by
        obtain ⟨f1, f2, f3⟩ := fig_at (k := 0) hD.out h0
        have hfB : f < B.length := by omega
        obtain ⟨bb, oo, e, hbb, hcc⟩ := hbc.resolve_left (fun e => by rw [e] at hfB; simp at hfB)
        have h1 := hcc f _ (List.getElem?_eq_getElem hfB)
        refine ⟨bb, oo, by rw [hsl2, e], hfB, ?_⟩
        rw [h1, ← f1]
        unfold nx
        rw [Nat.add_zero, List.getElem?_eq_getElem hfB]
      have hhd : 0 < D.length → (D.head? = some 48 ↔ nx D 0 = 48) := fun h0 => by
        cases D with
        | nil => simp at h0
        | cons x m =>
          show some x = some 48 ↔ x.toNat = 48
          rw [Option.some.injEq]
          exact ⟨fun e => by rw [e]; rfl, fun e => UInt8.toNat_inj.1 e⟩
      have s3 := t3.c0
      have ho2 := ho.out
      have hg2 := hg.out
      have hb2 := hb.out
      have hnm : Hid (nmO true D = if D = [] ∨ (1 < D.length ∧ D.head? = some 48) ∨ 9007199254740991 < dgs D ∨ (true = true ∧ dgs D = 0) then none else some (if true then - (dgs D : Int) else (dgs D : Int))) := hide1 rfl
      have hln := List.take_length (l := D)
      rw [hln] at hg2
      have hqf := hqk.out
      by_cases hz : D.length = 0
      · have hof : o = none := by rw [ho2, hnm.out, if_pos (.inl (List.length_eq_zero_iff.1 hz))]; rfl
        have hf2 := fun X => (hN hof X).out
        have e1 := (hf2 0).1
        have e2 := (hf2 0).2.1
        have m0 : ((q : Int) - (f : Int) == 0) = true := by simp; omega
        replace hf2 := hide1 fun X => (hf2 X).2.2
        clear hN hS hx0 hhd hnm hln t3 ho2 hg2 hb2 hfg b3 hqf hsl2 hbc
        go_wp2
        go_ret
        exact hf2.out _
      have m0 : ((q : Int) - (f : Int) == 0) = false := by simp; omega
      have hne : D ≠ [] := fun e => hz (by rw [e]; rfl)
      obtain ⟨bb, oo, hsl3, hfB, hcell⟩ := hx0 (by omega)
      subst hsl3
      have hh := hhd (by omega)
      by_cases hbad : 1 < D.length ∧ nx D 0 = 48
      · have hof : o = none := by rw [ho2, hnm.out, if_pos (.inr (.inl ⟨hbad.1, hh.2 hbad.2⟩))]; rfl
        have hf2 := fun X => (hN hof X).out
        have e1 := (hf2 0).1
        have e2 := (hf2 0).2.1
        have m1 : decide ((q : Int) - (f : Int) > 1) = true := decide_eq_true (by omega)
        rw [hbad.2] at hcell
        replace hf2 := hide1 fun X => (hf2 X).2.2
        clear hN hS hx0 hhd hnm hln t3 ho2 hg2 hb2 hfg b3 hqf hsl2 hbc hbad hh hne
        go_wp2
        go_ret
        exact hf2.out _
      have hns : ¬ (D = [] ∨ (1 < D.length ∧ D.head? = some 48)) := by
        rintro (e | ⟨e1, e2⟩)
        · exact hne e
        · exact hbad ⟨e1, hh.1 e2⟩
      have hval : ∀ X : Int, n ≠ 0 ∧ X = - (n : Int) → Hid (AnIr (.slice (some ⟨bb, oo, none⟩) B.length cap') B g o w (.returned (.int .i64 X)) w3) := fun X hX => by
        cases bad with
        | true =>
          have hof : o = none := by rw [ho2, hnm.out, if_pos (.inr (.inr (.inl (hb2 rfl))))]; rfl
          exact hS X (by rw [hof]; rfl) (fun i r e => by rw [hof] at e; cases e)
        | false =>
          have hn0 := hg2 rfl
          have hc4 : ¬ (D = [] ∨ (1 < D.length ∧ D.head? = some 48) ∨ 9007199254740991 < dgs D ∨ (true = true ∧ dgs D = 0)) := by
            rintro (e | e | e | ⟨e, e2⟩)
            · exact hns (.inl e)
            · exact hns (.inr e)
            · omega
            · omega
          rw [if_neg hc4] at hnm
          have hof : o = some (- (dgs D : Int), (B.drop f).dropWhile dg) := by rw [ho2, hnm.out]; rfl
          refine hS X (by rw [hof]; rfl) (fun i r e => ?_)
          rw [hof] at e
          cases e
          exact ⟨by rw [hX.2, hn0], rfl⟩
      have hzero : n = 0 → ∀ X : Int, Hid (w3.cell? ⟨g, 2, none⟩ = some (.bool bad) ∧ w3.frozen? ⟨g, 2, none⟩ = false ∧ AnIr (.slice (some ⟨bb, oo, none⟩) B.length cap') B g o w (.returned (.int .i64 X)) (w3.setCell ⟨g, 2, none⟩ (.bool true))) := fun e X => by
        refine hN ?_ X
        cases bad with
        | true => rw [ho2, hnm.out, if_pos (.inr (.inr (.inl (hb2 rfl))))]; rfl
        | false => rw [ho2, hnm.out, if_pos (.inr (.inr (.inr ⟨rfl, by rw [← hg2 rfl]; exact e⟩)))]; rfl
      replace hzero := hide1 hzero
      replace hval := hide1 hval
      by_cases h1 : 1 < D.length
      · have m1 : decide ((q : Int) - (f : Int) > 1) = true := decide_eq_true (by omega)
        have c48 : ((nx D 0 : Int) == 48) = false := by
          have : ¬ nx D 0 = 48 := fun e => hbad ⟨h1, e⟩
          simp; omega
        obtain ⟨y0, hy0⟩ : ∃ y, Hid (nx D 0 = y) := ⟨_, hide1 rfl⟩
        rw [hy0.out] at hcell c48
        clear hN hS hx0 hhd hnm hln t3 ho2 hg2 hb2 hfg b3 hqf hsl2 hbc hbad hh hne hns hy0
        by_cases hn0 : n = 0
        · subst hn0
          have hf2 := fun X => (hzero.out rfl X).out
          have e1 := (hf2 0).1
          have e2 := (hf2 0).2.1
          replace hf2 := hide1 fun X => (hf2 X).2.2
          clear hzero hval
          go_wp2
          go_ret
          exact hf2.out _
        · have z0 : ((n : Int) == 0) = false := by simp; omega
          clear hzero
          go_wp2
          go_ret
          refine (hval.out _ ⟨?_, ?_⟩).out
          · omega
          · first | rfl | simp | omega
      · have m1 : decide ((q : Int) - (f : Int) > 1) = false := decide_eq_false (by omega)
        clear hN hS hx0 hhd hnm hln t3 ho2 hg2 hb2 hfg b3 hqf hsl2 hbc hbad hh hne hns hcell
        by_cases hn0 : n = 0
        · subst hn0
          have hf2 := fun X => (hzero.out rfl X).out
          have e1 := (hf2 0).1
          have e2 := (hf2 0).2.1
          replace hf2 := hide1 fun X => (hf2 X).2.2
          clear hzero hval
          go_wp2
          go_ret
          exact hf2.out _
        · have z0 : ((n : Int) == 0) = false := by simp; omega
          clear hzero
          go_wp2
          go_ret
          refine (hval.out _ ⟨?_, ?_⟩).out
          · omega
          · first | rfl | simp | omega
set_option maxHeartbeats 16000000 in
set_option maxRecDepth 100000 in
theorem number_pos {f : Nat} {D : List UInt8} (h : Tg sl B g p false w) (hpl : p ≤ B.length) (hB : B.length ≤ 4096) (hc : nx B p ≠ 45) (hf : f = p) (hD : D = (B.drop f).takeWhile dg) (o : Option (Int × List UInt8)) (ho : o = (nmO false D).map fun n => (n, (B.drop f).dropWhile dg)) : Calls Tryz.prog 52 #[.pointer (some ⟨g, 0, none⟩)] w (AnIr sl B g o w) := by
  have hn := next_t h
  have hcl := nx_lt B p
  obtain ⟨a0, cap, hsl, -⟩ := h.bs
  generalize nx B p = c at *
  have d0 : ((c : Int) == 45) = false := by simp; omega
  have hfl : f ≤ B.length := by omega
  obtain ⟨hDl, hDd⟩ := tw_len hD hfl
  have hf45 : Hid (f = p) := hide1 hf
  replace hD := hide1 hD
  replace hDd := hide1 hDd
  replace ho := hide1 ho
  clear hf
  go_enter Tryz.func52, Tryz.ntmps52
  go_wp2_with fail
  refine hn.mono ?_
  rintro e w1 ⟨rfl, b1⟩
  have t1 := h.later b1
  have c1 := t1.c1
  have cf := t1.fr 1
  replace b1 := hide1 b1
  go_upto_region 5 with fail
  obtain ⟨w2, hw2⟩ : ∃ w2, w2 = w1 := ⟨_, rfl⟩
  have t2 : Tg sl B g f false w2 := by rw [hw2, hf45.out]; exact t1
  have k2 : Hid (Kg g w w2) := hide1 (by rw [hw2]; exact Kg.of b1.out)
  have e2 := t2.c1
  rw [← hw2]
  clear hn b1 t1 c1 cf h hw2
  go_wp2_with fail
  replace t2 := hide1 t2
  clear e2 
  go_loopw [5] (fun x wr => ∃ (k q n : Nat) (bad : Bool), x = .int .i64 (n : Nat) ∧ Hid (q = f + k) ∧ q ≤ 100000 ∧ k ≤ D.length ∧ n ≤ 9007199254740991 ∧ Hid (Tg sl B g q bad wr) ∧ Hid (Kg g w wr) ∧ Hid (bad = false → n = dgs (D.take k)) ∧ Hid (bad = true → 9007199254740991 < dgs D)) (fun _ wr => D.length - (atOf g wr - f))
  case atStart => exact ⟨0, f, 0, false, rfl, hide1 rfl, by omega, by omega, by omega, t2, k2, hide1 fun _ => rfl, hide1 fun e => by cases e⟩
  case round =>
    clear t2 k2
    obtain ⟨k, q, n, bad, rfl, hqk, hq5, hk, hn9, ht, hkk, hg, hb⟩ := hrel
    have hat : Hid (atOf g wr = q) := hide1 ht.out.atOf
    have hfg := figure_t ht.out
    have hq6 : Hid (q ≤ B.length) := hide1 (by have := hqk.out; omega)
    rw [hqk.out, fig_eq hD.out hk] at hfg
    go_wp2_with fail
    refine hfg.mono ?_
    rintro e w3 ⟨rfl, b3⟩
    by_cases hlt : k < D.length
    · rw [decide_eq_true hlt]
      obtain ⟨c, hcD⟩ : ∃ c, Hid (nx D k = c) := ⟨_, hide1 rfl⟩
      obtain ⟨f1, f2, f3⟩ := fig_at hD.out hlt
      have hnx := next_t (ht.out.later b3)
      have hds := dgs_step hlt
      rw [hqk.out, f1, hcD.out] at hnx
      rw [hcD.out] at f2 f3 hds
      replace hds := hide1 hds
      replace b3 := hide1 b3
      clear hfg f1
      go_wp2_with fail
      refine hnx.mono ?_
      rintro e w4 ⟨rfl, b4⟩
      replace b4 := hide1 (b3.out.trans (b4.mono b3.out.size))
      have t4 := ht.out.later b4.out
      have k4 := hide1 (hkk.out.trans (Kg.of b4.out))
      clear hnx b3
      by_cases hov : 9007199254740991 < 10 * n + c - 48
      · have ho1 : (9007199254740991 : Int) < 10 * (n : Int) + (c : Int) - 48 := by omega
        have cf2 := t4.fr 2
        have cc2 := t4.c2
        obtain ⟨t5, k5⟩ := t4.set2 true
        have k5' := hide1 (k4.out.trans k5)
        have c5 := t5.c1
        have f5 := t5.fr 1
        obtain ⟨t6, k6⟩ := t5.set1p
        replace t5 := hide1 t5
        have k6' := hide1 (k5'.out.trans k6)
        replace t6 := hide1 t6
        have hbig : Hid (9007199254740991 < dgs D) := hide1 (by
          cases bad with
          | true => exact hb.out rfl
          | false =>
            have h1 := dgs_take D (k + 1)
            have h2 := hg.out rfl
            have h3 := hds.out
            omega)
        clear k5 k6 t4 k4 b4 hg hb hds k5' hcD
        go_upto_region 12 with fail
        generalize w4.setCell ⟨g, 2, none⟩ (.bool true) = w5 at *
        go_wp2
        go_roundw
        case rel => exact ⟨k + 1, q + 1, 0, true, rfl, hide1 (by have := hqk.out; omega), by have := hq6.out; omega, by omega, by omega, t6, k6', hide1 (fun e => by cases e), hide1 (fun _ => hbig.out)⟩
        case measure =>
          rw [t6.out.atOf, hat.out]; have := hqk.out; omega
      · have ho1 : ¬ (9007199254740991 : Int) < 10 * (n : Int) + (c : Int) - 48 := by omega
        have c4 := t4.c1
        have f4' := t4.fr 1
        obtain ⟨t6, k6⟩ := t4.set1p
        have k6' := hide1 (k4.out.trans k6)
        replace t6 := hide1 t6
        have en : (10 * (n : Int) + (c : Int) - 48) = ((10 * n + c - 48 : Nat) : Int) := by omega
        have hg2 : Hid (bad = false → 10 * n + c - 48 = dgs (D.take (k + 1))) := hide1 (fun e => by rw [hds.out, ← hg.out e]; omega)
        have hN : 10 * n + c - 48 ≤ 9007199254740991 := by omega
        replace en := hide1 en
        clear t4 k4 b4 hds hg hcD k6
        go_wp2
        rw [en.out]
        go_roundw
        case rel => exact ⟨k + 1, q + 1, 10 * n + c - 48, bad, rfl, hide1 (by have := hqk.out; omega), by have := hq6.out; omega, by omega, hN, t6, k6', hg2, hb⟩
        case measure =>
          rw [t6.out.atOf, hat.out]; have := hqk.out; omega
    · rw [decide_eq_false hlt]
      have hke : k = D.length := by omega
      subst hke
      have t3 := ht.out.later b3
      have k3 := hide1 (hkk.out.trans (Kg.of b3))
      have c3 := t3.c1
      have hql : Hid (q ≤ B.length) := hq6
      have hdr : Hid (B.drop q = (B.drop f).dropWhile dg) := hide1 (by rw [hqk.out]; exact hDd.out)
      have hN : o = none → ∀ X : Int, Hid (w3.cell? ⟨g, 2, none⟩ = some (.bool bad) ∧ w3.frozen? ⟨g, 2, none⟩ = false ∧ AnIr sl B g o w (.returned (.int .i64 X)) (w3.setCell ⟨g, 2, none⟩ (.bool true))) := fun e X => hide1 (by
        obtain ⟨t4, k4⟩ := t3.set2 true
        refine ⟨t3.c2, t3.fr 2, X, q, rfl, by rw [e]; exact t4, k3.out.trans k4, by have := hql.out; omega, fun i r e2 => by rw [e] at e2; cases e2⟩)
      have hS : ∀ X : Int, o.isNone = bad → (∀ i r, o = some (i, r) → X = i ∧ (B.drop f).dropWhile dg = r) → Hid (AnIr sl B g o w (.returned (.int .i64 X)) w3) := fun X e1 e2 => hide1 (by
        refine ⟨X, q, rfl, by rw [e1]; exact t3, k3.out, by have := hql.out; omega, fun i r e => ⟨(e2 i r e).1, by rw [hdr.out]; exact (e2 i r e).2, hql.out⟩⟩)
      obtain ⟨b, cap', hsl2, hbc⟩ := t3.bs
      have hx0 : 0 < D.length → ∃ bb oo, sl = .slice (some ⟨bb, oo, none⟩) B.length cap' ∧ f < B.length ∧ w3.cell? ⟨bb, oo + f, none⟩ = some (.int .u8 (nx D 0 : Nat)) := fun h0 => by
        obtain ⟨f1, f2, f3⟩ := fig_at (k := 0) hD.out h0
        have hfB : f < B.length := by omega
        obtain ⟨bb, oo, e, hbb, hcc⟩ := hbc.resolve_left (fun e => by rw [e] at hfB; simp at hfB)
        have h1 := hcc f _ (List.getElem?_eq_getElem hfB)
        refine ⟨bb, oo, by rw [hsl2, e], hfB, ?_⟩
        rw [h1, ← f1]
        unfold nx
        rw [Nat.add_zero, List.getElem?_eq_getElem hfB]
      have hhd : 0 < D.length → (D.head? = some 48 ↔ nx D 0 = 48) := fun h0 => by
        cases D with
        | nil => simp at h0
        | cons x m =>
          show some x = some 48 ↔ x.toNat = 48
          rw [Option.some.injEq]
          exact ⟨fun e => by rw [e]; rfl, fun e => UInt8.toNat_inj.1 e⟩
      have s3 := t3.c0
      have ho2 := ho.out
      have hg2 := hg.out
      have hb2 := hb.out
      have hnm : Hid (nmO false D = if D = [] ∨ (1 < D.length ∧ D.head? = some 48) ∨ 9007199254740991 < dgs D ∨ (false = true ∧ dgs D = 0) then none else some (if false then - (dgs D : Int) else (dgs D : Int))) := hide1 rfl
      have hln := List.take_length (l := D)
      rw [hln] at hg2
      have hqf := hqk.out
      by_cases hz : D.length = 0
      · have hof : o = none := by rw [ho2, hnm.out, if_pos (.inl (List.length_eq_zero_iff.1 hz))]; rfl
        have hf2 := fun X => (hN hof X).out
        have e1 := (hf2 0).1
        have e2 := (hf2 0).2.1
        have m0 : ((q : Int) - (f : Int) == 0) = true := by simp; omega
        replace hf2 := hide1 fun X => (hf2 X).2.2
        clear hN hS hx0 hhd hnm hln t3 ho2 hg2 hb2 hfg b3 hqf hsl2 hbc
        go_wp2
        go_ret
        exact hf2.out _
      have m0 : ((q : Int) - (f : Int) == 0) = false := by simp; omega
      have hne : D ≠ [] := fun e => hz (by rw [e]; rfl)
      obtain ⟨bb, oo, hsl3, hfB, hcell⟩ := hx0 (by omega)
      subst hsl3
      have hh := hhd (by omega)
      by_cases hbad : 1 < D.length ∧ nx D 0 = 48
      · have hof : o = none := by rw [ho2, hnm.out, if_pos (.inr (.inl ⟨hbad.1, hh.2 hbad.2⟩))]; rfl
        have hf2 := fun X => (hN hof X).out
        have e1 := (hf2 0).1
        have e2 := (hf2 0).2.1
        have m1 : decide ((q : Int) - (f : Int) > 1) = true := decide_eq_true (by omega)
        rw [hbad.2] at hcell
        replace hf2 := hide1 fun X => (hf2 X).2.2
        clear hN hS hx0 hhd hnm hln t3 ho2 hg2 hb2 hfg b3 hqf hsl2 hbc hbad hh hne
        go_wp2
        go_ret
        exact hf2.out _
      have hns : ¬ (D = [] ∨ (1 < D.length ∧ D.head? = some 48)) := by
        rintro (e | ⟨e1, e2⟩)
        · exact hne e
        · exact hbad ⟨e1, hh.1 e2⟩
      have hval : ∀ X : Int, X = (n : Int) → Hid (AnIr (.slice (some ⟨bb, oo, none⟩) B.length cap') B g o w (.returned (.int .i64 X)) w3) := fun X hX => by
        cases bad with
        | true =>
          have hof : o = none := by rw [ho2, hnm.out, if_pos (.inr (.inr (.inl (hb2 rfl))))]; rfl
          exact hS X (by rw [hof]; rfl) (fun i r e => by rw [hof] at e; cases e)
        | false =>
          have hn0 := hg2 rfl
          have hc4 : ¬ (D = [] ∨ (1 < D.length ∧ D.head? = some 48) ∨ 9007199254740991 < dgs D ∨ (false = true ∧ dgs D = 0)) := by
            rintro (e | e | e | ⟨e, e2⟩)
            · exact hns (.inl e)
            · exact hns (.inr e)
            · omega
            · cases e
          rw [if_neg hc4] at hnm
          have hof : o = some ((dgs D : Int), (B.drop f).dropWhile dg) := by rw [ho2, hnm.out]; rfl
          refine hS X (by rw [hof]; rfl) (fun i r e => ?_)
          rw [hof] at e
          cases e
          exact ⟨by rw [hX, hn0], rfl⟩
      replace hval := hide1 hval
      by_cases h1 : 1 < D.length
      · have m1 : decide ((q : Int) - (f : Int) > 1) = true := decide_eq_true (by omega)
        have c48 : ((nx D 0 : Int) == 48) = false := by
          have : ¬ nx D 0 = 48 := fun e => hbad ⟨h1, e⟩
          simp; omega
        obtain ⟨y0, hy0⟩ : ∃ y, Hid (nx D 0 = y) := ⟨_, hide1 rfl⟩
        rw [hy0.out] at hcell c48
        clear hN hS hx0 hhd hnm hln t3 ho2 hg2 hb2 hfg b3 hqf hsl2 hbc hbad hh hne hns hy0
        by_cases hn0 : n = 0
        · subst hn0
          go_wp2
          go_ret
          refine (hval.out _ ?_).out
          first | rfl | simp | omega
        · have z0 : ((n : Int) == 0) = false := by simp; omega
          go_wp2
          go_ret
          refine (hval.out _ ?_).out
          first | rfl | simp | omega
      · have m1 : decide ((q : Int) - (f : Int) > 1) = false := decide_eq_false (by omega)
        clear hN hS hx0 hhd hnm hln t3 ho2 hg2 hb2 hfg b3 hqf hsl2 hbc hbad hh hne hns hcell
        by_cases hn0 : n = 0
        · subst hn0
          go_wp2
          go_ret
          refine (hval.out _ ?_).out
          first | rfl | simp | omega
        · have z0 : ((n : Int) == 0) = false := by simp; omega
          go_wp2
          go_ret
          refine (hval.out _ ?_).out
          first | rfl | simp | omega
theorem hp_one {c : UInt8} {l : List UInt8} : hp [c] l = true ↔ ∃ m, l = c :: m := by
  cases l with
  | nil => constructor
           · intro h; cases h
           · rintro ⟨m, e⟩; cases e
  | cons x m =>
    unfold hp
    simp only [List.isPrefixOf, Bool.and_true]
    constructor
    · intro h
      exact ⟨m, by rw [beq_iff_eq.1 h]⟩
    · rintro ⟨m', e⟩
      cases e
      simp
theorem hp_nx {c : UInt8} (hc : c.toNat ≠ 0) : hp [c] (B.drop p) = decide (nx B p = c.toNat) := by
  cases e : B.drop p with
  | nil =>
    have h0 : B.length ≤ p := by
      have := congrArg List.length e
      rw [List.length_drop] at this
      simp at this
      omega
    rw [nx_no h0]
    symm
    exact decide_eq_false (fun h => hc h.symm)
  | cons x m =>
    rw [nx_drop e]
    cases hh : hp [c] (x :: m) with
    | true =>
      obtain ⟨m', e'⟩ := hp_one.1 hh
      cases e'
      simp
    | false =>
      symm
      apply decide_eq_false
      intro h
      have : x = c := UInt8.toNat_inj.1 h
      rw [this, hp_one.2 ⟨m, rfl⟩] at hh
      cases hh
theorem tk_nx {c : UInt8} (h : nx B p = c.toNat) (hc : c.toNat ≠ 0) : tk [c] (B.drop p) = B.drop (p + 1) := by
  have hh := hp_nx (B := B) (p := p) hc
  rw [decide_eq_true h] at hh
  unfold tk
  unfold hp at hh
  rw [if_pos hh, List.drop_drop]
  rfl
theorem number_t (h : Tg sl B g p false w) (hpl : p ≤ B.length) (hB : B.length ≤ 4096) : Calls Tryz.prog 52 #[.pointer (some ⟨g, 0, none⟩)] w (AnIr sl B g (nm (B.drop p)) w) := by
  have hh := hp_nx (B := B) (p := p) (c := 45) (by decide)
  by_cases hc : nx B p = 45
  · refine number_neg h hpl hB hc rfl rfl _ ?_
    rw [show (45 : UInt8).toNat = 45 from rfl, decide_eq_true hc] at hh
    unfold nm
    rw [hh, tk_nx hc (by decide)]
  · refine number_pos h hpl hB hc rfl rfl _ ?_
    rw [show (45 : UInt8).toNat = 45 from rfl, decide_eq_false hc] at hh
    unfold nm
    rw [hh, tk_no hh]
end
end Go.Proofs.YthgndmgoilfpcaaGreatDoor

namespace Go.Proofs.YthgndmgoilfpcaaGreatDoor
open Go.RowKit

def AnFo (sl : Value) (B : List UInt8) (g p : Nat) (o : Option Nat) (w : World) (e : Ending) (w' : World) : Prop :=
  ∃ x q, e = .returned (.int .i64 (x : Nat)) ∧ Tg sl B g q o.isNone w' ∧ Kg g w w' ∧ q ≤ B.length + 1 ∧ (o = none → x = 0) ∧ x < 65536 ∧ ∀ n, o = some n → x = n ∧ q = p + 4 ∧ q ≤ B.length
section
variable {sl : Value} {B : List UInt8} {g p : Nat} {w w' : World}
theorem f4_one {k n q c : Nat} (hc : nx B q = c) (hd : fg c = none) : f4 (k + 1) n (B.drop q) = none := by
  cases e : B.drop q with
  | nil => rfl
  | cons x m =>
    rw [nx_drop e] at hc
    unfold f4
    rw [hc, hd]
theorem f4_go {k n q c d : Nat} (hc : nx B q = c) (hd : fg c = some d) : q < B.length ∧ f4 (k + 1) n (B.drop q) = f4 k (n * 16 + d) (B.drop (q + 1)) := by
  have h0 : c ≠ 0 := by
    rintro rfl
    rw [show fg 0 = none by decide] at hd
    cases hd
  obtain ⟨x, m, e, hx, hq⟩ := nx_pos hc h0
  refine ⟨hq, ?_⟩
  rw [(drop_lt e).2, e]
  rw [f4, hx, hd]
set_option maxHeartbeats 16000000 in
set_option maxRecDepth 100000 in
theorem four_t (h : Tg sl B g p false w) (hpl : p ≤ B.length) (hB : B.length ≤ 4096) : Calls Tryz.prog 114 #[.pointer (some ⟨g, 0, none⟩)] w (AnFo sl B g p (f4 4 0 (B.drop p)) w) := by
  obtain ⟨o, ho⟩ : ∃ o, Hid (f4 4 0 (B.drop p) = o) := ⟨_, hide1 rfl⟩
  rw [ho.out]
  replace h := hide1 h
  go_enter Tryz.func114, Tryz.ntmps114
  go_wp2_with fail
  go_loopw [3, 4] (fun x y wr => ∃ i n q : Nat, x = .int .i64 (n : Nat) ∧ y = .int .i64 (i : Nat) ∧ i ≤ 4 ∧ Hid (q = p + i) ∧ q ≤ 4096 ∧ Hid (n < 16 ^ i) ∧ n < 65536 ∧ Hid (q ≤ B.length) ∧ Hid (f4 (4 - i) n (B.drop q) = o) ∧ Hid (Tg sl B g q false wr) ∧ Hid (Kg g w wr)) (fun _ y _ => 4 - (intOf y).toNat)
  case atStart => exact ⟨0, 0, p, rfl, rfl, by omega, hide1 rfl, by omega, hide1 (by decide), by omega, hide1 hpl, ho, h, hide1 (Kg.refl _ _)⟩
  case round =>
    obtain ⟨i, n, q, rfl, rfl, hi, hq, hq9, hn, hn6, hql, hf, ht, hk⟩ := hrel
    clear h ho
    by_cases hi4 : i < 4
    · obtain ⟨c, hc⟩ : ∃ c, Hid (nx B q = c) := ⟨_, hide1 rfl⟩
      have hcl : c < 256 := by rw [← hc.out]; exact nx_lt B q
      have hnx := next_t ht.out
      rw [hc.out] at hnx
      obtain ⟨k, hk4⟩ : ∃ k, Hid (4 - i = k + 1) := ⟨3 - i, hide1 (by omega)⟩
      rw [hk4.out] at hf
      go_wp2_with fail
      refine hnx.mono ?_
      rintro e w1 ⟨rfl, b1⟩
      have t1 := ht.out.later b1
      have k1 := hide1 (hk.out.trans (Kg.of b1))
      have hbad : fg c = none → Hid (w1.cell? ⟨g, 2, none⟩ = some (.bool false) ∧ w1.frozen? ⟨g, 2, none⟩ = false ∧ AnFo sl B g p o w (.returned (.int .i64 0)) (w1.setCell ⟨g, 2, none⟩ (.bool true))) := fun hd => hide1 (by
        have ho : o = none := by rw [← hf.out, f4_one hc.out hd]
        obtain ⟨t2, k2⟩ := t1.set2 true
        exact ⟨t1.c2, t1.fr 2, 0, q, rfl, by rw [ho]; exact t2, k1.out.trans k2, by have := hql.out; omega, fun _ => rfl, by omega, fun n e => by rw [ho] at e; cases e⟩)
      have hgo : ∀ d, fg c = some d → Hid (f4 k (n * 16 + d) (B.drop (q + 1)) = o ∧ q < B.length ∧ d < 16) := fun d hd => hide1 (by
        have := f4_go (k := k) (n := n) hc.out hd
        exact ⟨by rw [← this.2]; exact hf.out, this.1, fg_lt hd⟩)
      have hbnd : ∀ d, d < 16 → Hid (n * 16 + d < 16 ^ (i + 1) ∧ n * 16 + d < 65536) := fun d hd => hide1 (by
        have h1 := hn.out
        have h2 : 16 ^ (i + 1) = 16 ^ i * 16 := Nat.pow_succ ..
        have h3 : 16 ^ (i + 1) ≤ 16 ^ 4 := Nat.pow_le_pow_right (by omega) (by omega)
        have h4 : n * 16 + d < 16 ^ (i + 1) := by omega
        exact ⟨h4, by have : (16 : Nat) ^ 4 = 65536 := rfl; omega⟩)
      replace hbad := hide1 hbad
      replace hgo := hide1 hgo
      replace hbnd := hide1 hbnd
      have cc := t1.c1
      have cf := t1.fr 1
      obtain ⟨t6, k6⟩ := t1.set1p
      replace t6 := hide1 t6
      have k6' := hide1 (k1.out.trans k6)
      clear hnx b1 t1 k1 k6 hf ht hk hc
      by_cases r47 : c ≤ 47
      · have ga : decide ((c : Int) ≥ 48) = false := decide_eq_false (by omega)
        have la : decide ((c : Int) ≤ 57) = true := decide_eq_true (by omega)
        have gb : decide ((c : Int) ≥ 65) = false := decide_eq_false (by omega)
        have lb : decide ((c : Int) ≤ 70) = true := decide_eq_true (by omega)
        have gc : decide ((c : Int) ≥ 97) = false := decide_eq_false (by omega)
        have lc : decide ((c : Int) ≤ 102) = true := decide_eq_true (by omega)
        have hd : fg c = none := by
          unfold fg
          rw [if_neg (by omega), if_neg (by omega), if_neg (by omega)]
        have hf2 := (hbad.out hd).out
        have e1 := hf2.1
        have e2 := hf2.2.1
        replace hf2 := hide1 hf2.2.2
        clear hbad hgo hbnd t6 k6' cc cf hd
        go_wp2
        go_ret
        exact hf2.out
      by_cases r57 : c ≤ 57
      · have ga : decide ((c : Int) ≥ 48) = true := decide_eq_true (by omega)
        have la : decide ((c : Int) ≤ 57) = true := decide_eq_true (by omega)
        have gb : decide ((c : Int) ≥ 65) = false := decide_eq_false (by omega)
        have lb : decide ((c : Int) ≤ 70) = true := decide_eq_true (by omega)
        have gc : decide ((c : Int) ≥ 97) = false := decide_eq_false (by omega)
        have lc : decide ((c : Int) ≤ 102) = true := decide_eq_true (by omega)
        have hd : fg c = some (c - 48) := by
          unfold fg
          rw [if_pos (by omega)]
        have hg2 := hgo.out _ hd
        have hb2 := hbnd.out _ hg2.out.2.2
        have en : Hid (16 * (n : Int) + ((c : Int) - 48) = ((n * 16 + (c - 48) : Nat) : Int)) := hide1 (by omega)
        clear hbad hgo hbnd hd
        go_wp2
        rw [en.out]
        go_roundw
        case rel => exact ⟨i + 1, n * 16 + (c - 48), q + 1, rfl, rfl, by omega, hide1 (by have := hq.out; omega), by have := hg2.out.2.1; omega, hide1 hb2.out.1, hb2.out.2, hide1 hg2.out.2.1, hide1 (by rw [show 4 - (i + 1) = k by have := hk4.out; omega]; exact hg2.out.1), t6, k6'⟩
        case measure => simp [intOf]; omega
      by_cases r64 : c ≤ 64
      · have ga : decide ((c : Int) ≥ 48) = true := decide_eq_true (by omega)
        have la : decide ((c : Int) ≤ 57) = false := decide_eq_false (by omega)
        have gb : decide ((c : Int) ≥ 65) = false := decide_eq_false (by omega)
        have lb : decide ((c : Int) ≤ 70) = true := decide_eq_true (by omega)
        have gc : decide ((c : Int) ≥ 97) = false := decide_eq_false (by omega)
        have lc : decide ((c : Int) ≤ 102) = true := decide_eq_true (by omega)
        have hd : fg c = none := by
          unfold fg
          rw [if_neg (by omega), if_neg (by omega), if_neg (by omega)]
        have hf2 := (hbad.out hd).out
        have e1 := hf2.1
        have e2 := hf2.2.1
        replace hf2 := hide1 hf2.2.2
        clear hbad hgo hbnd t6 k6' cc cf hd
        go_wp2
        go_ret
        exact hf2.out
      by_cases r70 : c ≤ 70
      · have ga : decide ((c : Int) ≥ 48) = true := decide_eq_true (by omega)
        have la : decide ((c : Int) ≤ 57) = false := decide_eq_false (by omega)
        have gb : decide ((c : Int) ≥ 65) = true := decide_eq_true (by omega)
        have lb : decide ((c : Int) ≤ 70) = true := decide_eq_true (by omega)
        have gc : decide ((c : Int) ≥ 97) = false := decide_eq_false (by omega)
        have lc : decide ((c : Int) ≤ 102) = true := decide_eq_true (by omega)
        have hd : fg c = some (c - 55) := by
          unfold fg
          rw [if_neg (by omega), if_neg (by omega), if_pos (by omega)]
        have hg2 := hgo.out _ hd
        have hb2 := hbnd.out _ hg2.out.2.2
        have en : Hid (16 * (n : Int) + ((c : Int) - 55) = ((n * 16 + (c - 55) : Nat) : Int)) := hide1 (by omega)
        clear hbad hgo hbnd hd
        go_wp2
        rw [en.out]
        go_roundw
        case rel => exact ⟨i + 1, n * 16 + (c - 55), q + 1, rfl, rfl, by omega, hide1 (by have := hq.out; omega), by have := hg2.out.2.1; omega, hide1 hb2.out.1, hb2.out.2, hide1 hg2.out.2.1, hide1 (by rw [show 4 - (i + 1) = k by have := hk4.out; omega]; exact hg2.out.1), t6, k6'⟩
        case measure => simp [intOf]; omega
      by_cases r96 : c ≤ 96
      · have ga : decide ((c : Int) ≥ 48) = true := decide_eq_true (by omega)
        have la : decide ((c : Int) ≤ 57) = false := decide_eq_false (by omega)
        have gb : decide ((c : Int) ≥ 65) = true := decide_eq_true (by omega)
        have lb : decide ((c : Int) ≤ 70) = false := decide_eq_false (by omega)
        have gc : decide ((c : Int) ≥ 97) = false := decide_eq_false (by omega)
        have lc : decide ((c : Int) ≤ 102) = true := decide_eq_true (by omega)
        have hd : fg c = none := by
          unfold fg
          rw [if_neg (by omega), if_neg (by omega), if_neg (by omega)]
        have hf2 := (hbad.out hd).out
        have e1 := hf2.1
        have e2 := hf2.2.1
        replace hf2 := hide1 hf2.2.2
        clear hbad hgo hbnd t6 k6' cc cf hd
        go_wp2
        go_ret
        exact hf2.out
      by_cases r102 : c ≤ 102
      · have ga : decide ((c : Int) ≥ 48) = true := decide_eq_true (by omega)
        have la : decide ((c : Int) ≤ 57) = false := decide_eq_false (by omega)
        have gb : decide ((c : Int) ≥ 65) = true := decide_eq_true (by omega)
        have lb : decide ((c : Int) ≤ 70) = false := decide_eq_false (by omega)
        have gc : decide ((c : Int) ≥ 97) = true := decide_eq_true (by omega)
        have lc : decide ((c : Int) ≤ 102) = true := decide_eq_true (by omega)
        have hd : fg c = some (c - 87) := by
          unfold fg
          rw [if_neg (by omega), if_pos (by omega)]
        have hg2 := hgo.out _ hd
        have hb2 := hbnd.out _ hg2.out.2.2
        have en : Hid (16 * (n : Int) + ((c : Int) - 87) = ((n * 16 + (c - 87) : Nat) : Int)) := hide1 (by omega)
        clear hbad hgo hbnd hd
        go_wp2
        rw [en.out]
        go_roundw
        case rel => exact ⟨i + 1, n * 16 + (c - 87), q + 1, rfl, rfl, by omega, hide1 (by have := hq.out; omega), by have := hg2.out.2.1; omega, hide1 hb2.out.1, hb2.out.2, hide1 hg2.out.2.1, hide1 (by rw [show 4 - (i + 1) = k by have := hk4.out; omega]; exact hg2.out.1), t6, k6'⟩
        case measure => simp [intOf]; omega
      have ga : decide ((c : Int) ≥ 48) = true := decide_eq_true (by omega)
      have la : decide ((c : Int) ≤ 57) = false := decide_eq_false (by omega)
      have gb : decide ((c : Int) ≥ 65) = true := decide_eq_true (by omega)
      have lb : decide ((c : Int) ≤ 70) = false := decide_eq_false (by omega)
      have gc : decide ((c : Int) ≥ 97) = true := decide_eq_true (by omega)
      have lc : decide ((c : Int) ≤ 102) = false := decide_eq_false (by omega)
      have hd : fg c = none := by
        unfold fg
        rw [if_neg (by omega), if_neg (by omega), if_neg (by omega)]
      have hf2 := (hbad.out hd).out
      have e1 := hf2.1
      have e2 := hf2.2.1
      replace hf2 := hide1 hf2.2.2
      clear hbad hgo hbnd t6 k6' cc cf hd
      go_wp2
      go_ret
      exact hf2.out
    · have hi4' : i = 4 := by omega
      subst hi4'
      have hf2 : Hid (AnFo sl B g p o w (.returned (.int .i64 (n : Nat))) wr) := hide1 (by
        have ho : o = some n := by rw [← hf.out]; rfl
        refine ⟨n, q, rfl, by rw [ho]; exact ht.out, hk.out, by have := hql.out; omega, (fun e => by rw [ho] at e; cases e), hn6, fun m e => ?_⟩
        rw [ho] at e
        cases e
        exact ⟨rfl, hq.out, hql.out⟩)
      clear hf ht hk hn hq hql
      go_wp2
      go_ret
      exact hf2.out
end
end Go.Proofs.YthgndmgoilfpcaaGreatDoor

namespace Go.Proofs.YthgndmgoilfpcaaGreatDoor
open Go.RowKit

def AnSg (sl : Value) (B : List UInt8) (g : Nat) (o : Option (Nat × List UInt8)) (w : World) (e : Ending) (w' : World) : Prop :=
  ∃ x q, e = .returned (.int .i64 (x : Nat)) ∧ Tg sl B g q o.isNone w' ∧ Kg g w w' ∧ q ≤ B.length + 1 ∧ x ≤ 1114111 ∧ ∀ n r, o = some (n, r) → x = n ∧ B.drop q = r ∧ q ≤ B.length
section
variable {sl : Value} {B : List UInt8} {g p : Nat} {w w' : World}
theorem surr_le {n y : Nat} (h1 : ¬ n < 55296) (h2 : ¬ 56319 < n) (h3 : ¬ y < 56320) (h4 : ¬ 57343 < y) : 65536 + (n - 55296) * 1024 + (y - 56320) ≤ 1114111 := by omega
theorem surr_eq {n y : Nat} (h1 : ¬ n < 55296) (h3 : ¬ y < 56320) : (65536 : Int) + 1024 * ((n : Int) - 55296) + (y : Int) - 56320 = ((65536 + (n - 55296) * 1024 + (y - 56320) : Nat) : Int) := by omega
theorem esc_nx {o : Option (Nat × List UInt8)} (h : o = esc (B.drop p)) : (nx B p = 0 ∧ o = none) ∨ (∃ m, B.drop p = UInt8.ofNat (nx B p) :: m ∧ p < B.length ∧ o = escN (nx B p) (B.drop (p + 1))) := by
  cases e : B.drop p with
  | nil =>
    left
    have h0 : B.length ≤ p := by
      have := congrArg List.length e
      rw [List.length_drop] at this
      simp at this
      omega
    exact ⟨nx_no h0, by rw [h, e]; rfl⟩
  | cons x m =>
    right
    refine ⟨m, by rw [nx_drop e, UInt8.ofNat_toNat], (drop_lt e).1, ?_⟩
    rw [h, e, nx_drop e, (drop_lt e).2]
    rfl
set_option maxHeartbeats 16000000 in
set_option maxRecDepth 100000 in
theorem esc_34 (h : Tg sl B g p false w) (hpl : p ≤ B.length) (hB : B.length ≤ 4096) (hc : nx B p = 34) : Calls Tryz.prog 87 #[.pointer (some ⟨g, 0, none⟩)] w (AnSg sl B g (esc (B.drop p)) w) := by
  obtain ⟨o, ho⟩ : ∃ o, o = esc (B.drop p) := ⟨_, rfl⟩
  have hcs := esc_nx ho
  have hnx := next_t h
  rw [← ho]
  have hof : o = some (34, B.drop (p + 1)) := by
    rcases hcs with ⟨e, _⟩ | ⟨m, _, _, e⟩
    · omega
    · rw [e, hc]; rfl
  have hq : Hid (p < B.length) := hide1 (nx_pos hc (by omega)).choose_spec.choose_spec.2.2
  rw [hc] at hnx
  replace hof := hide1 hof
  clear hcs ho hc
  have sp0 : ((⟨#[34, 92, 47, 98, 102, 110, 114, 116]⟩ : ByteArray)[0]'(by decide)).toNat = 34 := rfl
  have sm0 : ((⟨#[34, 92, 47, 8, 12, 10, 13, 9]⟩ : ByteArray)[0]'(by decide)).toNat = 34 := rfl
  have sp1 : ((⟨#[34, 92, 47, 98, 102, 110, 114, 116]⟩ : ByteArray)[1]'(by decide)).toNat = 92 := rfl
  have sm1 : ((⟨#[34, 92, 47, 8, 12, 10, 13, 9]⟩ : ByteArray)[1]'(by decide)).toNat = 92 := rfl
  have sp2 : ((⟨#[34, 92, 47, 98, 102, 110, 114, 116]⟩ : ByteArray)[2]'(by decide)).toNat = 47 := rfl
  have sm2 : ((⟨#[34, 92, 47, 8, 12, 10, 13, 9]⟩ : ByteArray)[2]'(by decide)).toNat = 47 := rfl
  have sp3 : ((⟨#[34, 92, 47, 98, 102, 110, 114, 116]⟩ : ByteArray)[3]'(by decide)).toNat = 98 := rfl
  have sm3 : ((⟨#[34, 92, 47, 8, 12, 10, 13, 9]⟩ : ByteArray)[3]'(by decide)).toNat = 8 := rfl
  have sp4 : ((⟨#[34, 92, 47, 98, 102, 110, 114, 116]⟩ : ByteArray)[4]'(by decide)).toNat = 102 := rfl
  have sm4 : ((⟨#[34, 92, 47, 8, 12, 10, 13, 9]⟩ : ByteArray)[4]'(by decide)).toNat = 12 := rfl
  have sp5 : ((⟨#[34, 92, 47, 98, 102, 110, 114, 116]⟩ : ByteArray)[5]'(by decide)).toNat = 110 := rfl
  have sm5 : ((⟨#[34, 92, 47, 8, 12, 10, 13, 9]⟩ : ByteArray)[5]'(by decide)).toNat = 10 := rfl
  have sp6 : ((⟨#[34, 92, 47, 98, 102, 110, 114, 116]⟩ : ByteArray)[6]'(by decide)).toNat = 114 := rfl
  have sm6 : ((⟨#[34, 92, 47, 8, 12, 10, 13, 9]⟩ : ByteArray)[6]'(by decide)).toNat = 13 := rfl
  have sp7 : ((⟨#[34, 92, 47, 98, 102, 110, 114, 116]⟩ : ByteArray)[7]'(by decide)).toNat = 116 := rfl
  have sm7 : ((⟨#[34, 92, 47, 8, 12, 10, 13, 9]⟩ : ByteArray)[7]'(by decide)).toNat = 9 := rfl
  go_enter Tryz.func87, Tryz.ntmps87
  go_wp2_with fail
  refine hnx.mono ?_
  rintro e w1 ⟨rfl, b1⟩
  have t1 := h.later b1
  have cc := t1.c1
  have cf := t1.fr 1
  obtain ⟨t2, k2⟩ := t1.set1p
  replace k2 := hide1 ((Kg.of b1).trans k2)
  replace t2 := hide1 t2
  clear hnx b1 t1 h
  go_wp2_with fail
  refine wp_loop_rounds 1 ?_
  rw [rounds_succ]; go_wp2
  go_ret
  refine ⟨34, p + 1, rfl, by rw [hof.out]; exact t2.out, k2.out, by have := hq.out; omega, by omega, fun n r e => ?_⟩
  rw [hof.out] at e
  cases e
  exact ⟨rfl, rfl, by have := hq.out; omega⟩
set_option maxHeartbeats 16000000 in
set_option maxRecDepth 100000 in
theorem esc_92 (h : Tg sl B g p false w) (hpl : p ≤ B.length) (hB : B.length ≤ 4096) (hc : nx B p = 92) : Calls Tryz.prog 87 #[.pointer (some ⟨g, 0, none⟩)] w (AnSg sl B g (esc (B.drop p)) w) := by
  obtain ⟨o, ho⟩ : ∃ o, o = esc (B.drop p) := ⟨_, rfl⟩
  have hcs := esc_nx ho
  have hnx := next_t h
  rw [← ho]
  have hof : o = some (92, B.drop (p + 1)) := by
    rcases hcs with ⟨e, _⟩ | ⟨m, _, _, e⟩
    · omega
    · rw [e, hc]; rfl
  have hq : Hid (p < B.length) := hide1 (nx_pos hc (by omega)).choose_spec.choose_spec.2.2
  rw [hc] at hnx
  replace hof := hide1 hof
  clear hcs ho hc
  have sp0 : ((⟨#[34, 92, 47, 98, 102, 110, 114, 116]⟩ : ByteArray)[0]'(by decide)).toNat = 34 := rfl
  have sm0 : ((⟨#[34, 92, 47, 8, 12, 10, 13, 9]⟩ : ByteArray)[0]'(by decide)).toNat = 34 := rfl
  have sp1 : ((⟨#[34, 92, 47, 98, 102, 110, 114, 116]⟩ : ByteArray)[1]'(by decide)).toNat = 92 := rfl
  have sm1 : ((⟨#[34, 92, 47, 8, 12, 10, 13, 9]⟩ : ByteArray)[1]'(by decide)).toNat = 92 := rfl
  have sp2 : ((⟨#[34, 92, 47, 98, 102, 110, 114, 116]⟩ : ByteArray)[2]'(by decide)).toNat = 47 := rfl
  have sm2 : ((⟨#[34, 92, 47, 8, 12, 10, 13, 9]⟩ : ByteArray)[2]'(by decide)).toNat = 47 := rfl
  have sp3 : ((⟨#[34, 92, 47, 98, 102, 110, 114, 116]⟩ : ByteArray)[3]'(by decide)).toNat = 98 := rfl
  have sm3 : ((⟨#[34, 92, 47, 8, 12, 10, 13, 9]⟩ : ByteArray)[3]'(by decide)).toNat = 8 := rfl
  have sp4 : ((⟨#[34, 92, 47, 98, 102, 110, 114, 116]⟩ : ByteArray)[4]'(by decide)).toNat = 102 := rfl
  have sm4 : ((⟨#[34, 92, 47, 8, 12, 10, 13, 9]⟩ : ByteArray)[4]'(by decide)).toNat = 12 := rfl
  have sp5 : ((⟨#[34, 92, 47, 98, 102, 110, 114, 116]⟩ : ByteArray)[5]'(by decide)).toNat = 110 := rfl
  have sm5 : ((⟨#[34, 92, 47, 8, 12, 10, 13, 9]⟩ : ByteArray)[5]'(by decide)).toNat = 10 := rfl
  have sp6 : ((⟨#[34, 92, 47, 98, 102, 110, 114, 116]⟩ : ByteArray)[6]'(by decide)).toNat = 114 := rfl
  have sm6 : ((⟨#[34, 92, 47, 8, 12, 10, 13, 9]⟩ : ByteArray)[6]'(by decide)).toNat = 13 := rfl
  have sp7 : ((⟨#[34, 92, 47, 98, 102, 110, 114, 116]⟩ : ByteArray)[7]'(by decide)).toNat = 116 := rfl
  have sm7 : ((⟨#[34, 92, 47, 8, 12, 10, 13, 9]⟩ : ByteArray)[7]'(by decide)).toNat = 9 := rfl
  go_enter Tryz.func87, Tryz.ntmps87
  go_wp2_with fail
  refine hnx.mono ?_
  rintro e w1 ⟨rfl, b1⟩
  have t1 := h.later b1
  have cc := t1.c1
  have cf := t1.fr 1
  obtain ⟨t2, k2⟩ := t1.set1p
  replace k2 := hide1 ((Kg.of b1).trans k2)
  replace t2 := hide1 t2
  clear hnx b1 t1 h
  go_wp2_with fail
  refine wp_loop_rounds 2 ?_
  rw [rounds_succ]; go_wp2
  rw [rounds_succ]; go_wp2
  go_ret
  refine ⟨92, p + 1, rfl, by rw [hof.out]; exact t2.out, k2.out, by have := hq.out; omega, by omega, fun n r e => ?_⟩
  rw [hof.out] at e
  cases e
  exact ⟨rfl, rfl, by have := hq.out; omega⟩
set_option maxHeartbeats 16000000 in
set_option maxRecDepth 100000 in
theorem esc_47 (h : Tg sl B g p false w) (hpl : p ≤ B.length) (hB : B.length ≤ 4096) (hc : nx B p = 47) : Calls Tryz.prog 87 #[.pointer (some ⟨g, 0, none⟩)] w (AnSg sl B g (esc (B.drop p)) w) := by
  obtain ⟨o, ho⟩ : ∃ o, o = esc (B.drop p) := ⟨_, rfl⟩
  have hcs := esc_nx ho
  have hnx := next_t h
  rw [← ho]
  have hof : o = some (47, B.drop (p + 1)) := by
    rcases hcs with ⟨e, _⟩ | ⟨m, _, _, e⟩
    · omega
    · rw [e, hc]; rfl
  have hq : Hid (p < B.length) := hide1 (nx_pos hc (by omega)).choose_spec.choose_spec.2.2
  rw [hc] at hnx
  replace hof := hide1 hof
  clear hcs ho hc
  have sp0 : ((⟨#[34, 92, 47, 98, 102, 110, 114, 116]⟩ : ByteArray)[0]'(by decide)).toNat = 34 := rfl
  have sm0 : ((⟨#[34, 92, 47, 8, 12, 10, 13, 9]⟩ : ByteArray)[0]'(by decide)).toNat = 34 := rfl
  have sp1 : ((⟨#[34, 92, 47, 98, 102, 110, 114, 116]⟩ : ByteArray)[1]'(by decide)).toNat = 92 := rfl
  have sm1 : ((⟨#[34, 92, 47, 8, 12, 10, 13, 9]⟩ : ByteArray)[1]'(by decide)).toNat = 92 := rfl
  have sp2 : ((⟨#[34, 92, 47, 98, 102, 110, 114, 116]⟩ : ByteArray)[2]'(by decide)).toNat = 47 := rfl
  have sm2 : ((⟨#[34, 92, 47, 8, 12, 10, 13, 9]⟩ : ByteArray)[2]'(by decide)).toNat = 47 := rfl
  have sp3 : ((⟨#[34, 92, 47, 98, 102, 110, 114, 116]⟩ : ByteArray)[3]'(by decide)).toNat = 98 := rfl
  have sm3 : ((⟨#[34, 92, 47, 8, 12, 10, 13, 9]⟩ : ByteArray)[3]'(by decide)).toNat = 8 := rfl
  have sp4 : ((⟨#[34, 92, 47, 98, 102, 110, 114, 116]⟩ : ByteArray)[4]'(by decide)).toNat = 102 := rfl
  have sm4 : ((⟨#[34, 92, 47, 8, 12, 10, 13, 9]⟩ : ByteArray)[4]'(by decide)).toNat = 12 := rfl
  have sp5 : ((⟨#[34, 92, 47, 98, 102, 110, 114, 116]⟩ : ByteArray)[5]'(by decide)).toNat = 110 := rfl
  have sm5 : ((⟨#[34, 92, 47, 8, 12, 10, 13, 9]⟩ : ByteArray)[5]'(by decide)).toNat = 10 := rfl
  have sp6 : ((⟨#[34, 92, 47, 98, 102, 110, 114, 116]⟩ : ByteArray)[6]'(by decide)).toNat = 114 := rfl
  have sm6 : ((⟨#[34, 92, 47, 8, 12, 10, 13, 9]⟩ : ByteArray)[6]'(by decide)).toNat = 13 := rfl
  have sp7 : ((⟨#[34, 92, 47, 98, 102, 110, 114, 116]⟩ : ByteArray)[7]'(by decide)).toNat = 116 := rfl
  have sm7 : ((⟨#[34, 92, 47, 8, 12, 10, 13, 9]⟩ : ByteArray)[7]'(by decide)).toNat = 9 := rfl
  go_enter Tryz.func87, Tryz.ntmps87
  go_wp2_with fail
  refine hnx.mono ?_
  rintro e w1 ⟨rfl, b1⟩
  have t1 := h.later b1
  have cc := t1.c1
  have cf := t1.fr 1
  obtain ⟨t2, k2⟩ := t1.set1p
  replace k2 := hide1 ((Kg.of b1).trans k2)
  replace t2 := hide1 t2
  clear hnx b1 t1 h
  go_wp2_with fail
  refine wp_loop_rounds 3 ?_
  rw [rounds_succ]; go_wp2
  rw [rounds_succ]; go_wp2
  rw [rounds_succ]; go_wp2
  go_ret
  refine ⟨47, p + 1, rfl, by rw [hof.out]; exact t2.out, k2.out, by have := hq.out; omega, by omega, fun n r e => ?_⟩
  rw [hof.out] at e
  cases e
  exact ⟨rfl, rfl, by have := hq.out; omega⟩
set_option maxHeartbeats 16000000 in
set_option maxRecDepth 100000 in
theorem esc_98 (h : Tg sl B g p false w) (hpl : p ≤ B.length) (hB : B.length ≤ 4096) (hc : nx B p = 98) : Calls Tryz.prog 87 #[.pointer (some ⟨g, 0, none⟩)] w (AnSg sl B g (esc (B.drop p)) w) := by
  obtain ⟨o, ho⟩ : ∃ o, o = esc (B.drop p) := ⟨_, rfl⟩
  have hcs := esc_nx ho
  have hnx := next_t h
  rw [← ho]
  have hof : o = some (8, B.drop (p + 1)) := by
    rcases hcs with ⟨e, _⟩ | ⟨m, _, _, e⟩
    · omega
    · rw [e, hc]; rfl
  have hq : Hid (p < B.length) := hide1 (nx_pos hc (by omega)).choose_spec.choose_spec.2.2
  rw [hc] at hnx
  replace hof := hide1 hof
  clear hcs ho hc
  have sp0 : ((⟨#[34, 92, 47, 98, 102, 110, 114, 116]⟩ : ByteArray)[0]'(by decide)).toNat = 34 := rfl
  have sm0 : ((⟨#[34, 92, 47, 8, 12, 10, 13, 9]⟩ : ByteArray)[0]'(by decide)).toNat = 34 := rfl
  have sp1 : ((⟨#[34, 92, 47, 98, 102, 110, 114, 116]⟩ : ByteArray)[1]'(by decide)).toNat = 92 := rfl
  have sm1 : ((⟨#[34, 92, 47, 8, 12, 10, 13, 9]⟩ : ByteArray)[1]'(by decide)).toNat = 92 := rfl
  have sp2 : ((⟨#[34, 92, 47, 98, 102, 110, 114, 116]⟩ : ByteArray)[2]'(by decide)).toNat = 47 := rfl
  have sm2 : ((⟨#[34, 92, 47, 8, 12, 10, 13, 9]⟩ : ByteArray)[2]'(by decide)).toNat = 47 := rfl
  have sp3 : ((⟨#[34, 92, 47, 98, 102, 110, 114, 116]⟩ : ByteArray)[3]'(by decide)).toNat = 98 := rfl
  have sm3 : ((⟨#[34, 92, 47, 8, 12, 10, 13, 9]⟩ : ByteArray)[3]'(by decide)).toNat = 8 := rfl
  have sp4 : ((⟨#[34, 92, 47, 98, 102, 110, 114, 116]⟩ : ByteArray)[4]'(by decide)).toNat = 102 := rfl
  have sm4 : ((⟨#[34, 92, 47, 8, 12, 10, 13, 9]⟩ : ByteArray)[4]'(by decide)).toNat = 12 := rfl
  have sp5 : ((⟨#[34, 92, 47, 98, 102, 110, 114, 116]⟩ : ByteArray)[5]'(by decide)).toNat = 110 := rfl
  have sm5 : ((⟨#[34, 92, 47, 8, 12, 10, 13, 9]⟩ : ByteArray)[5]'(by decide)).toNat = 10 := rfl
  have sp6 : ((⟨#[34, 92, 47, 98, 102, 110, 114, 116]⟩ : ByteArray)[6]'(by decide)).toNat = 114 := rfl
  have sm6 : ((⟨#[34, 92, 47, 8, 12, 10, 13, 9]⟩ : ByteArray)[6]'(by decide)).toNat = 13 := rfl
  have sp7 : ((⟨#[34, 92, 47, 98, 102, 110, 114, 116]⟩ : ByteArray)[7]'(by decide)).toNat = 116 := rfl
  have sm7 : ((⟨#[34, 92, 47, 8, 12, 10, 13, 9]⟩ : ByteArray)[7]'(by decide)).toNat = 9 := rfl
  go_enter Tryz.func87, Tryz.ntmps87
  go_wp2_with fail
  refine hnx.mono ?_
  rintro e w1 ⟨rfl, b1⟩
  have t1 := h.later b1
  have cc := t1.c1
  have cf := t1.fr 1
  obtain ⟨t2, k2⟩ := t1.set1p
  replace k2 := hide1 ((Kg.of b1).trans k2)
  replace t2 := hide1 t2
  clear hnx b1 t1 h
  go_wp2_with fail
  refine wp_loop_rounds 4 ?_
  rw [rounds_succ]; go_wp2
  rw [rounds_succ]; go_wp2
  rw [rounds_succ]; go_wp2
  rw [rounds_succ]; go_wp2
  go_ret
  refine ⟨8, p + 1, rfl, by rw [hof.out]; exact t2.out, k2.out, by have := hq.out; omega, by omega, fun n r e => ?_⟩
  rw [hof.out] at e
  cases e
  exact ⟨rfl, rfl, by have := hq.out; omega⟩
set_option maxHeartbeats 16000000 in
set_option maxRecDepth 100000 in
theorem esc_102 (h : Tg sl B g p false w) (hpl : p ≤ B.length) (hB : B.length ≤ 4096) (hc : nx B p = 102) : Calls Tryz.prog 87 #[.pointer (some ⟨g, 0, none⟩)] w (AnSg sl B g (esc (B.drop p)) w) := by
  obtain ⟨o, ho⟩ : ∃ o, o = esc (B.drop p) := ⟨_, rfl⟩
  have hcs := esc_nx ho
  have hnx := next_t h
  rw [← ho]
  have hof : o = some (12, B.drop (p + 1)) := by
    rcases hcs with ⟨e, _⟩ | ⟨m, _, _, e⟩
    · omega
    · rw [e, hc]; rfl
  have hq : Hid (p < B.length) := hide1 (nx_pos hc (by omega)).choose_spec.choose_spec.2.2
  rw [hc] at hnx
  replace hof := hide1 hof
  clear hcs ho hc
  have sp0 : ((⟨#[34, 92, 47, 98, 102, 110, 114, 116]⟩ : ByteArray)[0]'(by decide)).toNat = 34 := rfl
  have sm0 : ((⟨#[34, 92, 47, 8, 12, 10, 13, 9]⟩ : ByteArray)[0]'(by decide)).toNat = 34 := rfl
  have sp1 : ((⟨#[34, 92, 47, 98, 102, 110, 114, 116]⟩ : ByteArray)[1]'(by decide)).toNat = 92 := rfl
  have sm1 : ((⟨#[34, 92, 47, 8, 12, 10, 13, 9]⟩ : ByteArray)[1]'(by decide)).toNat = 92 := rfl
  have sp2 : ((⟨#[34, 92, 47, 98, 102, 110, 114, 116]⟩ : ByteArray)[2]'(by decide)).toNat = 47 := rfl
  have sm2 : ((⟨#[34, 92, 47, 8, 12, 10, 13, 9]⟩ : ByteArray)[2]'(by decide)).toNat = 47 := rfl
  have sp3 : ((⟨#[34, 92, 47, 98, 102, 110, 114, 116]⟩ : ByteArray)[3]'(by decide)).toNat = 98 := rfl
  have sm3 : ((⟨#[34, 92, 47, 8, 12, 10, 13, 9]⟩ : ByteArray)[3]'(by decide)).toNat = 8 := rfl
  have sp4 : ((⟨#[34, 92, 47, 98, 102, 110, 114, 116]⟩ : ByteArray)[4]'(by decide)).toNat = 102 := rfl
  have sm4 : ((⟨#[34, 92, 47, 8, 12, 10, 13, 9]⟩ : ByteArray)[4]'(by decide)).toNat = 12 := rfl
  have sp5 : ((⟨#[34, 92, 47, 98, 102, 110, 114, 116]⟩ : ByteArray)[5]'(by decide)).toNat = 110 := rfl
  have sm5 : ((⟨#[34, 92, 47, 8, 12, 10, 13, 9]⟩ : ByteArray)[5]'(by decide)).toNat = 10 := rfl
  have sp6 : ((⟨#[34, 92, 47, 98, 102, 110, 114, 116]⟩ : ByteArray)[6]'(by decide)).toNat = 114 := rfl
  have sm6 : ((⟨#[34, 92, 47, 8, 12, 10, 13, 9]⟩ : ByteArray)[6]'(by decide)).toNat = 13 := rfl
  have sp7 : ((⟨#[34, 92, 47, 98, 102, 110, 114, 116]⟩ : ByteArray)[7]'(by decide)).toNat = 116 := rfl
  have sm7 : ((⟨#[34, 92, 47, 8, 12, 10, 13, 9]⟩ : ByteArray)[7]'(by decide)).toNat = 9 := rfl
  go_enter Tryz.func87, Tryz.ntmps87
  go_wp2_with fail
  refine hnx.mono ?_
  rintro e w1 ⟨rfl, b1⟩
  have t1 := h.later b1
  have cc := t1.c1
  have cf := t1.fr 1
  obtain ⟨t2, k2⟩ := t1.set1p
  replace k2 := hide1 ((Kg.of b1).trans k2)
  replace t2 := hide1 t2
  clear hnx b1 t1 h
  go_wp2_with fail
  refine wp_loop_rounds 5 ?_
  rw [rounds_succ]; go_wp2
  rw [rounds_succ]; go_wp2
  rw [rounds_succ]; go_wp2
  rw [rounds_succ]; go_wp2
  rw [rounds_succ]; go_wp2
  go_ret
  refine ⟨12, p + 1, rfl, by rw [hof.out]; exact t2.out, k2.out, by have := hq.out; omega, by omega, fun n r e => ?_⟩
  rw [hof.out] at e
  cases e
  exact ⟨rfl, rfl, by have := hq.out; omega⟩
set_option maxHeartbeats 16000000 in
set_option maxRecDepth 100000 in
theorem esc_110 (h : Tg sl B g p false w) (hpl : p ≤ B.length) (hB : B.length ≤ 4096) (hc : nx B p = 110) : Calls Tryz.prog 87 #[.pointer (some ⟨g, 0, none⟩)] w (AnSg sl B g (esc (B.drop p)) w) := by
  obtain ⟨o, ho⟩ : ∃ o, o = esc (B.drop p) := ⟨_, rfl⟩
  have hcs := esc_nx ho
  have hnx := next_t h
  rw [← ho]
  have hof : o = some (10, B.drop (p + 1)) := by
    rcases hcs with ⟨e, _⟩ | ⟨m, _, _, e⟩
    · omega
    · rw [e, hc]; rfl
  have hq : Hid (p < B.length) := hide1 (nx_pos hc (by omega)).choose_spec.choose_spec.2.2
  rw [hc] at hnx
  replace hof := hide1 hof
  clear hcs ho hc
  have sp0 : ((⟨#[34, 92, 47, 98, 102, 110, 114, 116]⟩ : ByteArray)[0]'(by decide)).toNat = 34 := rfl
  have sm0 : ((⟨#[34, 92, 47, 8, 12, 10, 13, 9]⟩ : ByteArray)[0]'(by decide)).toNat = 34 := rfl
  have sp1 : ((⟨#[34, 92, 47, 98, 102, 110, 114, 116]⟩ : ByteArray)[1]'(by decide)).toNat = 92 := rfl
  have sm1 : ((⟨#[34, 92, 47, 8, 12, 10, 13, 9]⟩ : ByteArray)[1]'(by decide)).toNat = 92 := rfl
  have sp2 : ((⟨#[34, 92, 47, 98, 102, 110, 114, 116]⟩ : ByteArray)[2]'(by decide)).toNat = 47 := rfl
  have sm2 : ((⟨#[34, 92, 47, 8, 12, 10, 13, 9]⟩ : ByteArray)[2]'(by decide)).toNat = 47 := rfl
  have sp3 : ((⟨#[34, 92, 47, 98, 102, 110, 114, 116]⟩ : ByteArray)[3]'(by decide)).toNat = 98 := rfl
  have sm3 : ((⟨#[34, 92, 47, 8, 12, 10, 13, 9]⟩ : ByteArray)[3]'(by decide)).toNat = 8 := rfl
  have sp4 : ((⟨#[34, 92, 47, 98, 102, 110, 114, 116]⟩ : ByteArray)[4]'(by decide)).toNat = 102 := rfl
  have sm4 : ((⟨#[34, 92, 47, 8, 12, 10, 13, 9]⟩ : ByteArray)[4]'(by decide)).toNat = 12 := rfl
  have sp5 : ((⟨#[34, 92, 47, 98, 102, 110, 114, 116]⟩ : ByteArray)[5]'(by decide)).toNat = 110 := rfl
  have sm5 : ((⟨#[34, 92, 47, 8, 12, 10, 13, 9]⟩ : ByteArray)[5]'(by decide)).toNat = 10 := rfl
  have sp6 : ((⟨#[34, 92, 47, 98, 102, 110, 114, 116]⟩ : ByteArray)[6]'(by decide)).toNat = 114 := rfl
  have sm6 : ((⟨#[34, 92, 47, 8, 12, 10, 13, 9]⟩ : ByteArray)[6]'(by decide)).toNat = 13 := rfl
  have sp7 : ((⟨#[34, 92, 47, 98, 102, 110, 114, 116]⟩ : ByteArray)[7]'(by decide)).toNat = 116 := rfl
  have sm7 : ((⟨#[34, 92, 47, 8, 12, 10, 13, 9]⟩ : ByteArray)[7]'(by decide)).toNat = 9 := rfl
  go_enter Tryz.func87, Tryz.ntmps87
  go_wp2_with fail
  refine hnx.mono ?_
  rintro e w1 ⟨rfl, b1⟩
  have t1 := h.later b1
  have cc := t1.c1
  have cf := t1.fr 1
  obtain ⟨t2, k2⟩ := t1.set1p
  replace k2 := hide1 ((Kg.of b1).trans k2)
  replace t2 := hide1 t2
  clear hnx b1 t1 h
  go_wp2_with fail
  refine wp_loop_rounds 6 ?_
  rw [rounds_succ]; go_wp2
  rw [rounds_succ]; go_wp2
  rw [rounds_succ]; go_wp2
  rw [rounds_succ]; go_wp2
  rw [rounds_succ]; go_wp2
  rw [rounds_succ]; go_wp2
  go_ret
  refine ⟨10, p + 1, rfl, by rw [hof.out]; exact t2.out, k2.out, by have := hq.out; omega, by omega, fun n r e => ?_⟩
  rw [hof.out] at e
  cases e
  exact ⟨rfl, rfl, by have := hq.out; omega⟩
set_option maxHeartbeats 16000000 in
set_option maxRecDepth 100000 in
theorem esc_114 (h : Tg sl B g p false w) (hpl : p ≤ B.length) (hB : B.length ≤ 4096) (hc : nx B p = 114) : Calls Tryz.prog 87 #[.pointer (some ⟨g, 0, none⟩)] w (AnSg sl B g (esc (B.drop p)) w) := by
  obtain ⟨o, ho⟩ : ∃ o, o = esc (B.drop p) := ⟨_, rfl⟩
  have hcs := esc_nx ho
  have hnx := next_t h
  rw [← ho]
  have hof : o = some (13, B.drop (p + 1)) := by
    rcases hcs with ⟨e, _⟩ | ⟨m, _, _, e⟩
    · omega
    · rw [e, hc]; rfl
  have hq : Hid (p < B.length) := hide1 (nx_pos hc (by omega)).choose_spec.choose_spec.2.2
  rw [hc] at hnx
  replace hof := hide1 hof
  clear hcs ho hc
  have sp0 : ((⟨#[34, 92, 47, 98, 102, 110, 114, 116]⟩ : ByteArray)[0]'(by decide)).toNat = 34 := rfl
  have sm0 : ((⟨#[34, 92, 47, 8, 12, 10, 13, 9]⟩ : ByteArray)[0]'(by decide)).toNat = 34 := rfl
  have sp1 : ((⟨#[34, 92, 47, 98, 102, 110, 114, 116]⟩ : ByteArray)[1]'(by decide)).toNat = 92 := rfl
  have sm1 : ((⟨#[34, 92, 47, 8, 12, 10, 13, 9]⟩ : ByteArray)[1]'(by decide)).toNat = 92 := rfl
  have sp2 : ((⟨#[34, 92, 47, 98, 102, 110, 114, 116]⟩ : ByteArray)[2]'(by decide)).toNat = 47 := rfl
  have sm2 : ((⟨#[34, 92, 47, 8, 12, 10, 13, 9]⟩ : ByteArray)[2]'(by decide)).toNat = 47 := rfl
  have sp3 : ((⟨#[34, 92, 47, 98, 102, 110, 114, 116]⟩ : ByteArray)[3]'(by decide)).toNat = 98 := rfl
  have sm3 : ((⟨#[34, 92, 47, 8, 12, 10, 13, 9]⟩ : ByteArray)[3]'(by decide)).toNat = 8 := rfl
  have sp4 : ((⟨#[34, 92, 47, 98, 102, 110, 114, 116]⟩ : ByteArray)[4]'(by decide)).toNat = 102 := rfl
  have sm4 : ((⟨#[34, 92, 47, 8, 12, 10, 13, 9]⟩ : ByteArray)[4]'(by decide)).toNat = 12 := rfl
  have sp5 : ((⟨#[34, 92, 47, 98, 102, 110, 114, 116]⟩ : ByteArray)[5]'(by decide)).toNat = 110 := rfl
  have sm5 : ((⟨#[34, 92, 47, 8, 12, 10, 13, 9]⟩ : ByteArray)[5]'(by decide)).toNat = 10 := rfl
  have sp6 : ((⟨#[34, 92, 47, 98, 102, 110, 114, 116]⟩ : ByteArray)[6]'(by decide)).toNat = 114 := rfl
  have sm6 : ((⟨#[34, 92, 47, 8, 12, 10, 13, 9]⟩ : ByteArray)[6]'(by decide)).toNat = 13 := rfl
  have sp7 : ((⟨#[34, 92, 47, 98, 102, 110, 114, 116]⟩ : ByteArray)[7]'(by decide)).toNat = 116 := rfl
  have sm7 : ((⟨#[34, 92, 47, 8, 12, 10, 13, 9]⟩ : ByteArray)[7]'(by decide)).toNat = 9 := rfl
  go_enter Tryz.func87, Tryz.ntmps87
  go_wp2_with fail
  refine hnx.mono ?_
  rintro e w1 ⟨rfl, b1⟩
  have t1 := h.later b1
  have cc := t1.c1
  have cf := t1.fr 1
  obtain ⟨t2, k2⟩ := t1.set1p
  replace k2 := hide1 ((Kg.of b1).trans k2)
  replace t2 := hide1 t2
  clear hnx b1 t1 h
  go_wp2_with fail
  refine wp_loop_rounds 7 ?_
  rw [rounds_succ]; go_wp2
  rw [rounds_succ]; go_wp2
  rw [rounds_succ]; go_wp2
  rw [rounds_succ]; go_wp2
  rw [rounds_succ]; go_wp2
  rw [rounds_succ]; go_wp2
  rw [rounds_succ]; go_wp2
  go_ret
  refine ⟨13, p + 1, rfl, by rw [hof.out]; exact t2.out, k2.out, by have := hq.out; omega, by omega, fun n r e => ?_⟩
  rw [hof.out] at e
  cases e
  exact ⟨rfl, rfl, by have := hq.out; omega⟩
set_option maxHeartbeats 16000000 in
set_option maxRecDepth 100000 in
theorem esc_116 (h : Tg sl B g p false w) (hpl : p ≤ B.length) (hB : B.length ≤ 4096) (hc : nx B p = 116) : Calls Tryz.prog 87 #[.pointer (some ⟨g, 0, none⟩)] w (AnSg sl B g (esc (B.drop p)) w) := by
  obtain ⟨o, ho⟩ : ∃ o, o = esc (B.drop p) := ⟨_, rfl⟩
  have hcs := esc_nx ho
  have hnx := next_t h
  rw [← ho]
  have hof : o = some (9, B.drop (p + 1)) := by
    rcases hcs with ⟨e, _⟩ | ⟨m, _, _, e⟩
    · omega
    · rw [e, hc]; rfl
  have hq : Hid (p < B.length) := hide1 (nx_pos hc (by omega)).choose_spec.choose_spec.2.2
  rw [hc] at hnx
  replace hof := hide1 hof
  clear hcs ho hc
  have sp0 : ((⟨#[34, 92, 47, 98, 102, 110, 114, 116]⟩ : ByteArray)[0]'(by decide)).toNat = 34 := rfl
  have sm0 : ((⟨#[34, 92, 47, 8, 12, 10, 13, 9]⟩ : ByteArray)[0]'(by decide)).toNat = 34 := rfl
  have sp1 : ((⟨#[34, 92, 47, 98, 102, 110, 114, 116]⟩ : ByteArray)[1]'(by decide)).toNat = 92 := rfl
  have sm1 : ((⟨#[34, 92, 47, 8, 12, 10, 13, 9]⟩ : ByteArray)[1]'(by decide)).toNat = 92 := rfl
  have sp2 : ((⟨#[34, 92, 47, 98, 102, 110, 114, 116]⟩ : ByteArray)[2]'(by decide)).toNat = 47 := rfl
  have sm2 : ((⟨#[34, 92, 47, 8, 12, 10, 13, 9]⟩ : ByteArray)[2]'(by decide)).toNat = 47 := rfl
  have sp3 : ((⟨#[34, 92, 47, 98, 102, 110, 114, 116]⟩ : ByteArray)[3]'(by decide)).toNat = 98 := rfl
  have sm3 : ((⟨#[34, 92, 47, 8, 12, 10, 13, 9]⟩ : ByteArray)[3]'(by decide)).toNat = 8 := rfl
  have sp4 : ((⟨#[34, 92, 47, 98, 102, 110, 114, 116]⟩ : ByteArray)[4]'(by decide)).toNat = 102 := rfl
  have sm4 : ((⟨#[34, 92, 47, 8, 12, 10, 13, 9]⟩ : ByteArray)[4]'(by decide)).toNat = 12 := rfl
  have sp5 : ((⟨#[34, 92, 47, 98, 102, 110, 114, 116]⟩ : ByteArray)[5]'(by decide)).toNat = 110 := rfl
  have sm5 : ((⟨#[34, 92, 47, 8, 12, 10, 13, 9]⟩ : ByteArray)[5]'(by decide)).toNat = 10 := rfl
  have sp6 : ((⟨#[34, 92, 47, 98, 102, 110, 114, 116]⟩ : ByteArray)[6]'(by decide)).toNat = 114 := rfl
  have sm6 : ((⟨#[34, 92, 47, 8, 12, 10, 13, 9]⟩ : ByteArray)[6]'(by decide)).toNat = 13 := rfl
  have sp7 : ((⟨#[34, 92, 47, 98, 102, 110, 114, 116]⟩ : ByteArray)[7]'(by decide)).toNat = 116 := rfl
  have sm7 : ((⟨#[34, 92, 47, 8, 12, 10, 13, 9]⟩ : ByteArray)[7]'(by decide)).toNat = 9 := rfl
  go_enter Tryz.func87, Tryz.ntmps87
  go_wp2_with fail
  refine hnx.mono ?_
  rintro e w1 ⟨rfl, b1⟩
  have t1 := h.later b1
  have cc := t1.c1
  have cf := t1.fr 1
  obtain ⟨t2, k2⟩ := t1.set1p
  replace k2 := hide1 ((Kg.of b1).trans k2)
  replace t2 := hide1 t2
  clear hnx b1 t1 h
  go_wp2_with fail
  refine wp_loop_rounds 8 ?_
  rw [rounds_succ]; go_wp2
  rw [rounds_succ]; go_wp2
  rw [rounds_succ]; go_wp2
  rw [rounds_succ]; go_wp2
  rw [rounds_succ]; go_wp2
  rw [rounds_succ]; go_wp2
  rw [rounds_succ]; go_wp2
  rw [rounds_succ]; go_wp2
  go_ret
  refine ⟨9, p + 1, rfl, by rw [hof.out]; exact t2.out, k2.out, by have := hq.out; omega, by omega, fun n r e => ?_⟩
  rw [hof.out] at e
  cases e
  exact ⟨rfl, rfl, by have := hq.out; omega⟩
set_option maxHeartbeats 16000000 in
set_option maxRecDepth 100000 in
theorem esc_no (h : Tg sl B g p false w) (hpl : p ≤ B.length) (hB : B.length ≤ 4096) {c : Nat} (hc : nx B p = c) (n34 : c ≠ 34) (n92 : c ≠ 92) (n47 : c ≠ 47) (n98 : c ≠ 98) (n102 : c ≠ 102) (n110 : c ≠ 110) (n114 : c ≠ 114) (n116 : c ≠ 116) (n117 : c ≠ 117) : Calls Tryz.prog 87 #[.pointer (some ⟨g, 0, none⟩)] w (AnSg sl B g (esc (B.drop p)) w) := by
  obtain ⟨o, ho⟩ : ∃ o, o = esc (B.drop p) := ⟨_, rfl⟩
  have hcs := esc_nx ho
  have hnx := next_t h
  rw [← ho]
  have hof : o = none := by
    rcases hcs with ⟨_, e⟩ | ⟨m, _, _, e⟩
    · exact e
    · rw [e, hc]
      unfold escN
      rw [if_neg (by omega), if_neg (by omega), if_neg (by omega), if_neg (by omega), if_neg (by omega), if_neg (by omega), if_neg (by omega)]
  rw [hc] at hnx
  replace hof := hide1 hof
  have hcl : c < 256 := by rw [← hc]; exact nx_lt B p
  clear hcs ho hc
  have d34 : ((c : Int) == 34) = false := by simp; omega
  have d92 : ((c : Int) == 92) = false := by simp; omega
  have d47 : ((c : Int) == 47) = false := by simp; omega
  have d98 : ((c : Int) == 98) = false := by simp; omega
  have d102 : ((c : Int) == 102) = false := by simp; omega
  have d110 : ((c : Int) == 110) = false := by simp; omega
  have d114 : ((c : Int) == 114) = false := by simp; omega
  have d116 : ((c : Int) == 116) = false := by simp; omega
  have d117 : ((c : Int) != 117) = true := by simp; omega
  have sp0 : ((⟨#[34, 92, 47, 98, 102, 110, 114, 116]⟩ : ByteArray)[0]'(by decide)).toNat = 34 := rfl
  have sm0 : ((⟨#[34, 92, 47, 8, 12, 10, 13, 9]⟩ : ByteArray)[0]'(by decide)).toNat = 34 := rfl
  have sp1 : ((⟨#[34, 92, 47, 98, 102, 110, 114, 116]⟩ : ByteArray)[1]'(by decide)).toNat = 92 := rfl
  have sm1 : ((⟨#[34, 92, 47, 8, 12, 10, 13, 9]⟩ : ByteArray)[1]'(by decide)).toNat = 92 := rfl
  have sp2 : ((⟨#[34, 92, 47, 98, 102, 110, 114, 116]⟩ : ByteArray)[2]'(by decide)).toNat = 47 := rfl
  have sm2 : ((⟨#[34, 92, 47, 8, 12, 10, 13, 9]⟩ : ByteArray)[2]'(by decide)).toNat = 47 := rfl
  have sp3 : ((⟨#[34, 92, 47, 98, 102, 110, 114, 116]⟩ : ByteArray)[3]'(by decide)).toNat = 98 := rfl
  have sm3 : ((⟨#[34, 92, 47, 8, 12, 10, 13, 9]⟩ : ByteArray)[3]'(by decide)).toNat = 8 := rfl
  have sp4 : ((⟨#[34, 92, 47, 98, 102, 110, 114, 116]⟩ : ByteArray)[4]'(by decide)).toNat = 102 := rfl
  have sm4 : ((⟨#[34, 92, 47, 8, 12, 10, 13, 9]⟩ : ByteArray)[4]'(by decide)).toNat = 12 := rfl
  have sp5 : ((⟨#[34, 92, 47, 98, 102, 110, 114, 116]⟩ : ByteArray)[5]'(by decide)).toNat = 110 := rfl
  have sm5 : ((⟨#[34, 92, 47, 8, 12, 10, 13, 9]⟩ : ByteArray)[5]'(by decide)).toNat = 10 := rfl
  have sp6 : ((⟨#[34, 92, 47, 98, 102, 110, 114, 116]⟩ : ByteArray)[6]'(by decide)).toNat = 114 := rfl
  have sm6 : ((⟨#[34, 92, 47, 8, 12, 10, 13, 9]⟩ : ByteArray)[6]'(by decide)).toNat = 13 := rfl
  have sp7 : ((⟨#[34, 92, 47, 98, 102, 110, 114, 116]⟩ : ByteArray)[7]'(by decide)).toNat = 116 := rfl
  have sm7 : ((⟨#[34, 92, 47, 8, 12, 10, 13, 9]⟩ : ByteArray)[7]'(by decide)).toNat = 9 := rfl
  go_enter Tryz.func87, Tryz.ntmps87
  go_wp2_with fail
  refine hnx.mono ?_
  rintro e w1 ⟨rfl, b1⟩
  have t1 := h.later b1
  have cc := t1.c1
  have cf := t1.fr 1
  obtain ⟨t2, k2⟩ := t1.set1p
  replace k2 := hide1 ((Kg.of b1).trans k2)
  replace t2 := hide1 t2
  clear hnx b1 t1 h
  go_wp2_with fail
  refine wp_loop_rounds 9 ?_
  rw [rounds_succ]; go_wp2
  rw [rounds_succ]; go_wp2
  rw [rounds_succ]; go_wp2
  rw [rounds_succ]; go_wp2
  rw [rounds_succ]; go_wp2
  rw [rounds_succ]; go_wp2
  rw [rounds_succ]; go_wp2
  rw [rounds_succ]; go_wp2
  rw [rounds_succ]
  have e1 := hide1 t2.out.c2
  have e2 := hide1 (t2.out.fr 2)
  obtain ⟨t3, k3⟩ := t2.out.set2 true
  replace t3 := hide1 t3
  have k3' := hide1 (k2.out.trans k3)
  go_upto_region 11 with fail
  generalize w1.setCell ⟨g, 1, none⟩ (.int .i64 (((p : Nat) : Int) + 1)) = w2 at *
  clear k3 t2 k2
  replace e1 := e1.out
  replace e2 := e2.out
  go_wp2
  go_ret
  exact ⟨0, p + 1, rfl, by rw [hof.out]; exact t3.out, k3'.out, by omega, by omega, fun n r e => by rw [hof.out] at e; cases e⟩
set_option maxHeartbeats 16000000 in
set_option maxRecDepth 100000 in
theorem esc_u (h : Tg sl B g p false w) (_hpl : p ≤ B.length) (hB : B.length ≤ 4096) (hc : nx B p = 117) : Calls Tryz.prog 87 #[.pointer (some ⟨g, 0, none⟩)] w (AnSg sl B g (esc (B.drop p)) w) := by
  obtain ⟨o, ho⟩ : ∃ o, o = esc (B.drop p) := ⟨_, rfl⟩
  have hcs := esc_nx ho
  have hnx := next_t h
  rw [← ho]
  have hof0 : o = cdd (B.drop (p + 1)) := by
    rcases hcs with ⟨e, _⟩ | ⟨m, _, _, e⟩
    · omega
    · rw [e, hc]; rfl
  have hq : p < B.length := (nx_pos hc (by omega)).choose_spec.choose_spec.2.2
  have h4 := fun (wx : World) (hx : Tg sl B g (p + 1) false wx) => four_t hx (by omega) hB
  rw [hc] at hnx
  unfold cdd at hof0
  obtain ⟨o4, ho4⟩ : ∃ o4, f4 4 0 (B.drop (p + 1)) = o4 := ⟨_, rfl⟩
  rw [ho4] at hof0 h4
  replace h4 := hide1 h4
  replace hof0 := hide1 hof0
  clear hcs ho hc
  have sp0 : ((⟨#[34, 92, 47, 98, 102, 110, 114, 116]⟩ : ByteArray)[0]'(by decide)).toNat = 34 := rfl
  have sm0 : ((⟨#[34, 92, 47, 8, 12, 10, 13, 9]⟩ : ByteArray)[0]'(by decide)).toNat = 34 := rfl
  have sp1 : ((⟨#[34, 92, 47, 98, 102, 110, 114, 116]⟩ : ByteArray)[1]'(by decide)).toNat = 92 := rfl
  have sm1 : ((⟨#[34, 92, 47, 8, 12, 10, 13, 9]⟩ : ByteArray)[1]'(by decide)).toNat = 92 := rfl
  have sp2 : ((⟨#[34, 92, 47, 98, 102, 110, 114, 116]⟩ : ByteArray)[2]'(by decide)).toNat = 47 := rfl
  have sm2 : ((⟨#[34, 92, 47, 8, 12, 10, 13, 9]⟩ : ByteArray)[2]'(by decide)).toNat = 47 := rfl
  have sp3 : ((⟨#[34, 92, 47, 98, 102, 110, 114, 116]⟩ : ByteArray)[3]'(by decide)).toNat = 98 := rfl
  have sm3 : ((⟨#[34, 92, 47, 8, 12, 10, 13, 9]⟩ : ByteArray)[3]'(by decide)).toNat = 8 := rfl
  have sp4 : ((⟨#[34, 92, 47, 98, 102, 110, 114, 116]⟩ : ByteArray)[4]'(by decide)).toNat = 102 := rfl
  have sm4 : ((⟨#[34, 92, 47, 8, 12, 10, 13, 9]⟩ : ByteArray)[4]'(by decide)).toNat = 12 := rfl
  have sp5 : ((⟨#[34, 92, 47, 98, 102, 110, 114, 116]⟩ : ByteArray)[5]'(by decide)).toNat = 110 := rfl
  have sm5 : ((⟨#[34, 92, 47, 8, 12, 10, 13, 9]⟩ : ByteArray)[5]'(by decide)).toNat = 10 := rfl
  have sp6 : ((⟨#[34, 92, 47, 98, 102, 110, 114, 116]⟩ : ByteArray)[6]'(by decide)).toNat = 114 := rfl
  have sm6 : ((⟨#[34, 92, 47, 8, 12, 10, 13, 9]⟩ : ByteArray)[6]'(by decide)).toNat = 13 := rfl
  have sp7 : ((⟨#[34, 92, 47, 98, 102, 110, 114, 116]⟩ : ByteArray)[7]'(by decide)).toNat = 116 := rfl
  have sm7 : ((⟨#[34, 92, 47, 8, 12, 10, 13, 9]⟩ : ByteArray)[7]'(by decide)).toNat = 9 := rfl
  go_enter Tryz.func87, Tryz.ntmps87
  go_wp2_with fail
  refine hnx.mono ?_
  rintro e w1 ⟨rfl, b1⟩
  have t1 := h.later b1
  have cc := t1.c1
  have cf := t1.fr 1
  obtain ⟨t2, k2⟩ := t1.set1p
  replace k2 := hide1 ((Kg.of b1).trans k2)
  replace t2 := hide1 t2
  clear hnx b1 t1 h
  go_wp2_with fail
  refine wp_loop_rounds 9 ?_
  rw [rounds_succ]; go_wp2
  rw [rounds_succ]; go_wp2
  rw [rounds_succ]; go_wp2
  rw [rounds_succ]; go_wp2
  rw [rounds_succ]; go_wp2
  rw [rounds_succ]; go_wp2
  rw [rounds_succ]; go_wp2
  rw [rounds_succ]; go_wp2
  rw [rounds_succ]; go_wp2_with fail
  have hc4 := h4.out _ t2.out
  go_upto_region 13 with fail
  generalize w1.setCell ⟨g, 1, none⟩ (.int .i64 (((p : Nat) : Int) + 1)) = w2 at *
  clear cc cf t2
  go_wp2_with fail
  refine hc4.mono ?_
  rintro e w3 ⟨n, q, rfl, t3, k3, hq3, hx0, hx6, hval⟩
  replace k3 := hide1 (k2.out.trans k3)
  clear hc4 h4 k2
  cases o4 with
  | none =>
    obtain rfl := hx0 rfl
    have hof : o = none := hof0.out
    have hf2 : Hid (AnSg sl B g o w (.returned (.int .i64 0)) w3) := hide1 ⟨0, q, rfl, by rw [hof]; exact t3, k3.out, hq3, by omega, fun n r e => by rw [hof] at e; cases e⟩
    clear hval t3 k3 hof hof0
    go_wp2
    go_ret
    exact hf2.out
  | some n0 =>
    obtain ⟨rfl, rfl, hqB⟩ := hval _ rfl
    have hof1 := hof0.out
    simp only at hof1
    by_cases r1 : n < 55296
    · rw [if_pos (.inl r1)] at hof1
      have hf2 : Hid (AnSg sl B g o w (.returned (.int .i64 (n : Nat))) w3) := hide1 ⟨n, _, rfl, by rw [hof1]; exact t3, k3.out, hq3, by omega, fun m r e => by rw [hof1] at e; cases e; exact ⟨rfl, by rw [List.drop_drop], hqB⟩⟩
      clear hval t3 k3 hof1 hof0
      go_wp2
      go_ret
      exact hf2.out
    by_cases r2 : 57343 < n
    · rw [if_pos (.inr r2)] at hof1
      have hf2 : Hid (AnSg sl B g o w (.returned (.int .i64 (n : Nat))) w3) := hide1 ⟨n, _, rfl, by rw [hof1]; exact t3, k3.out, hq3, by omega, fun m r e => by rw [hof1] at e; cases e; exact ⟨rfl, by rw [List.drop_drop], hqB⟩⟩
      clear hval t3 k3 hof1 hof0
      go_wp2
      go_ret
      exact hf2.out
    rw [if_neg (by omega), List.drop_drop] at hof1
    have hw := word_t (s := [92, 117]) t3 (by omega) hB (by decide) (by decide)
    obtain ⟨z, hz⟩ : ∃ z, hp [92, 117] (B.drop (p + 1 + 4)) = z := ⟨_, rfl⟩
    unfold AnWd at hw
    rw [hz] at hw hof1
    replace hof1 := hide1 hof1
    replace hz := hide1 hz
    clear hval t3 hof0
    replace hw : Calls Tryz.prog 48 #[.pointer (some ⟨g, 0, none⟩), .string ⟨#[92, 117]⟩] w3 _ := hw
    go_wp2_with fail
    refine hw.mono ?_
    rintro e w4 ⟨rfl, t4, k4⟩
    have KK := k3.out.trans k4
    replace KK := hide1 KK
    clear hw k3
    cases z with
    | false =>
      replace t4 : Tg sl B g (p + 1 + 4) true w4 := t4
      have hof : o = none := by
        have := hof1.out
        split at this
        · exact this
        · exact this
      have KK := KK.out
      have e1 := t4.c2
      have e2 := t4.fr 2
      obtain ⟨tb, kb⟩ := t4.set2 true
      have hf2 : Hid (AnSg sl B g o w (.returned (.int .i64 0)) (w4.setCell ⟨g, 2, none⟩ (.bool true))) := hide1 ⟨0, _, rfl, by rw [hof]; exact tb, KK.trans kb, by omega, by omega, fun n r e => by rw [hof] at e; cases e⟩
      clear hof tb kb KK t4 hof1 hz
      go_wp2
      go_ret
      exact hf2.out
    | true =>
      replace t4 : Tg sl B g (p + 1 + 4 + 2) false w4 := t4
      have hin : p + 1 + 4 + 2 ≤ B.length := by
        have h1 := hz.out
        unfold hp at h1
        have h2 := (List.isPrefixOf_iff_prefix.1 h1).length_le
        rw [List.length_drop] at h2
        simp at h2
        omega
      have hc5 := four_t t4 hin hB
      have e0 := t4.c2
      have htk : tk [92, 117] (B.drop (p + 1 + 4)) = B.drop (p + 1 + 4 + 2) := by
        have h1 := hz.out
        unfold hp at h1
        unfold tk
        rw [if_pos h1, List.drop_drop]
        rfl
      have hof2 := hof1.out
      rw [htk] at hof2
      obtain ⟨o5, ho5⟩ : ∃ o5, f4 4 0 (B.drop (p + 1 + 4 + 2)) = o5 := ⟨_, rfl⟩
      rw [ho5] at hof2 hc5
      replace hof2 := hide1 hof2
      clear t4 hof1 hz htk ho5
      go_wp2_with fail
      refine hc5.mono ?_
      rintro e w5 ⟨y, q5, rfl, t5, k5, hq5, hy0, hy6, hval⟩
      have KK := KK.out.trans k5
      clear hc5 e0 k5
      cases o5 with
      | none =>
        obtain rfl := hy0 rfl
        have hof : o = none := by
          have := hof2.out
          split at this
          · exact this
          · exact this
        replace t5 : Tg sl B g q5 true w5 := t5
        have e1 := t5.c2
        have e2 := t5.fr 2
        obtain ⟨tb, kb⟩ := t5.set2 true
        have hf2 : Hid (AnSg sl B g o w (.returned (.int .i64 0)) (w5.setCell ⟨g, 2, none⟩ (.bool true))) := hide1 ⟨0, _, rfl, by rw [hof]; exact tb, KK.trans kb, by omega, by omega, fun n r e => by rw [hof] at e; cases e⟩
        clear hof tb kb KK t5 hof2 hval
        go_wp2
        go_ret
        exact hf2.out
      | some y0 =>
        obtain ⟨rfl, rfl, hqB2⟩ := hval _ rfl
        replace t5 : Tg sl B g (p + 1 + 4 + 2 + 4) false w5 := t5
        have hof3 := hof2.out
        have e0 := t5.c2
        by_cases r3 : 56319 < n
        · have hof : o = none := by rw [hof3, if_pos r3]
          have e1 := t5.c2
          have e2 := t5.fr 2
          obtain ⟨tb, kb⟩ := t5.set2 true
          have hf2 : Hid (AnSg sl B g o w (.returned (.int .i64 0)) (w5.setCell ⟨g, 2, none⟩ (.bool true))) := hide1 ⟨0, _, rfl, by rw [hof]; exact tb, KK.trans kb, by omega, by omega, fun n r e => by rw [hof] at e; cases e⟩
          clear hof tb kb KK t5 hof2 hval hof3
          go_wp2
          go_ret
          exact hf2.out
        rw [if_neg r3] at hof3
        simp only [if_true] at hof3
        by_cases r4 : y < 56320
        · have hof : o = none := by rw [hof3, if_pos (.inl r4)]
          have e1 := t5.c2
          have e2 := t5.fr 2
          obtain ⟨tb, kb⟩ := t5.set2 true
          have hf2 : Hid (AnSg sl B g o w (.returned (.int .i64 0)) (w5.setCell ⟨g, 2, none⟩ (.bool true))) := hide1 ⟨0, _, rfl, by rw [hof]; exact tb, KK.trans kb, by omega, by omega, fun n r e => by rw [hof] at e; cases e⟩
          clear hof tb kb KK t5 hof2 hval hof3
          go_wp2
          go_ret
          exact hf2.out
        by_cases r5 : 57343 < y
        · have hof : o = none := by rw [hof3, if_pos (.inr r5)]
          have e1 := t5.c2
          have e2 := t5.fr 2
          obtain ⟨tb, kb⟩ := t5.set2 true
          have hf2 : Hid (AnSg sl B g o w (.returned (.int .i64 0)) (w5.setCell ⟨g, 2, none⟩ (.bool true))) := hide1 ⟨0, _, rfl, by rw [hof]; exact tb, KK.trans kb, by omega, by omega, fun n r e => by rw [hof] at e; cases e⟩
          clear hof tb kb KK t5 hof2 hval hof3
          go_wp2
          go_ret
          exact hf2.out
        rw [if_neg (by omega)] at hof3
        have hX : (65536 : Int) + 1024 * ((n : Int) - 55296) + (y : Int) - 56320 = ((65536 + (n - 55296) * 1024 + (y - 56320) : Nat) : Int) := surr_eq r1 r4
        have hf2 : Hid (AnSg sl B g o w (.returned (.int .i64 (65536 + 1024 * ((n : Int) - 55296) + (y : Int) - 56320))) w5) := hide1 ⟨_, _, by rw [hX], by rw [hof3]; exact t5, KK, hq5, surr_le r1 r3 r4 r5, fun m r e => by rw [hof3, Option.some.injEq, Prod.mk.injEq, List.drop_drop] at e; exact ⟨e.1, e.2, hqB2⟩⟩
        clear hX KK t5 hof2 hval hof3
        go_wp2
        go_ret
        exact hf2.out
theorem escaped_t (h : Tg sl B g p false w) (hpl : p ≤ B.length) (hB : B.length ≤ 4096) : Calls Tryz.prog 87 #[.pointer (some ⟨g, 0, none⟩)] w (AnSg sl B g (esc (B.drop p)) w) := by
  by_cases n34 : nx B p = 34
  · exact esc_34 h hpl hB n34
  by_cases n92 : nx B p = 92
  · exact esc_92 h hpl hB n92
  by_cases n47 : nx B p = 47
  · exact esc_47 h hpl hB n47
  by_cases n98 : nx B p = 98
  · exact esc_98 h hpl hB n98
  by_cases n102 : nx B p = 102
  · exact esc_102 h hpl hB n102
  by_cases n110 : nx B p = 110
  · exact esc_110 h hpl hB n110
  by_cases n114 : nx B p = 114
  · exact esc_114 h hpl hB n114
  by_cases n116 : nx B p = 116
  · exact esc_116 h hpl hB n116
  by_cases n117 : nx B p = 117
  · exact esc_u h hpl hB n117
  exact esc_no h hpl hB rfl n34 n92 n47 n98 n102 n110 n114 n116 n117
end
end Go.Proofs.YthgndmgoilfpcaaGreatDoor

namespace Go.Proofs.YthgndmgoilfpcaaGreatDoor
open Go.RowKit Go.Shelf

def bv (l : List UInt8) : List Value := l.map fun x => Value.int .u8 (x.toNat : Nat)
theorem bv_app (a b : List UInt8) : bv (a ++ b) = bv a ++ bv b := by simp [bv]
abbrev Ow (w : World) (B : Nat) (v : Value) (l : List UInt8) : Prop := w.ownsRow B 5 1 v l.length (bv l)
theorem Ow.bs {w : World} {B : Nat} {v : Value} {l : List UInt8} (h : Ow w B v l) : BsA w v l := by
  obtain ⟨h1, ⟨rfl, h2⟩ | ⟨g, cap, cur, rfl, hB, hg, hn, hm, hs, ht⟩⟩ := h
  · exact ⟨none, 0, by rw [h2], .inl (List.length_eq_zero_iff.1 h2)⟩
  · refine ⟨_, cap, rfl, .inr ⟨g, 0, rfl, (Array.getElem?_eq_some_iff.1 hg).1, fun j x hj => ?_⟩⟩
    simp only [World.cell?, hg]
    rw [Nat.zero_add, ← Array.getElem?_toList]
    have hjl := (List.getElem?_eq_some_iff.1 hj).1
    have e := congrArg (·[j]?) ht
    simp only [List.getElem?_take] at e
    rw [if_pos (by omega)] at e
    rw [e]
    simp [bv, hj]
theorem Ow.slc {w : World} {B : Nat} {v : Value} {l : List UInt8} (h : Ow w B v l) : ∃ a cap, v = .slice a l.length cap := by
  obtain ⟨a, cap, rfl, _⟩ := h.bs
  exact ⟨a, cap, rfl⟩
theorem Ow.later {w w' : World} {B : Nat} {v : Value} {l : List UInt8} (h : Ow w B v l) (hb : Below w.heap.size w w') : Ow w' B v l := by
  obtain ⟨h1, h2 | ⟨g, cap, cur, hv, hB, hg, r⟩⟩ := h
  · exact ⟨h1, .inl h2⟩
  · exact ⟨h1, .inr ⟨g, cap, cur, hv, hB, (hb.block g (Array.getElem?_eq_some_iff.1 hg).1).trans hg, r⟩⟩
theorem Ow.block {w : World} {B : Nat} {v : Value} {l : List UInt8} (h : Ow w B v l) : ∀ g, v.ownBlock = some g → B ≤ g := by
  obtain ⟨h1, ⟨rfl, h2⟩ | ⟨g, cap, cur, rfl, hB, _⟩⟩ := h
  · intro g e; cases e
  · intro g' e; cases e; exact hB
theorem info_u8 : (Tryz.prog.info? 5).map (fun i => (i.zero, i.size, i.bytes)) = some (some (.int .u8 0), 1, 1) := by kernel_rfl
theorem wpList_apb {w : World} {ops : Array Oper} {rest : List Oper} {o : Oper} {a : Act} {Q : Exit → Act → World → Prop} (hgd : o.guard = none) (s x : Operand)
    (ho : o.op = .call { callee := .builtin .append, args := #[s, x], argTypes := #[22, 22] }) (B : Nat) (v : Value) (l : List UInt8) (hs : a.eval s = v) (hown : Ow w B v l)
    (u : Value) (m : List UInt8) (hx : a.eval x = u) (hb : BsA w u m) (hn : l.length + m.length ≤ 1000000) (hB : B ≤ w.heap.size)
    (h : ∀ v' w', Ow w' B v' (l ++ m) → w.grownBy w' v.ownBlock → wpList Tryz.prog ops Q rest (a.put o.dst v') w') : wpList Tryz.prog ops Q (o :: rest) a w := by
  refine wpList_plain hgd fun K hK => ?_
  obtain ⟨i0, hi, he⟩ := Option.map_eq_some_iff.1 info_u8
  simp only [Prod.mk.injEq] at he
  obtain ⟨hz0, hz1, hz2⟩ := he
  obtain ⟨v', w', hr, h2, h3⟩ : ∃ v' w', (Builtin.append_ #[22, 22] o.type #[v, u]).run Tryz.prog w = .ok v' w' ∧ Ow w' B v' (l ++ m) ∧ w.grownBy w' v.ownBlock := by
    obtain ⟨ad, c, rfl, hm⟩ := hb
    cases ad with
    | none =>
      obtain rfl : m = [] := by
        rcases hm with h | ⟨_, _, e, _⟩
        · exact h
        · cases e
      refine ⟨v, w, ?_, by simpa using hown, ⟨rfl, rfl, rfl, Nat.le_refl _, fun _ _ _ => rfl⟩⟩
      rcases hown.2 with ⟨rfl, _⟩ | ⟨g, cap, cur, rfl, _, _, hnc, _⟩
      · simp [Builtin.append_, run_underlying Tryz.underlying22, sizeOf, typeInfo, hi, Builtin.lenOf, Builtin.firstCells]
      · simp [Builtin.append_, run_underlying Tryz.underlying22, sizeOf, typeInfo, hi, Builtin.lenOf, Builtin.firstCells, hnc, storeCells]
    | some ad =>
      have hnews : ∀ j u, (bv m)[j]? = some u → w.cell? (ad.add j) = some u := by
        intro j u hj
        rcases hm with rfl | ⟨b, off, e, hbl, hc⟩
        · simp [bv] at hj
        · cases e
          cases hmj : m[j]? with
          | none => rw [bv, List.getElem?_map, hmj] at hj; cases hj
          | some y =>
            rw [bv, List.getElem?_map, hmj] at hj
            cases hj
            rw [Addr.add_lit]
            exact hc j y hmj
      obtain ⟨v', w', hr, h4, h5, _⟩ := run_append_own (P := Tryz.prog) w B 22 o.type 5 i0 (.int .u8 0) 1 1 Tryz.underlying22 hi hz0 hz1 hz2 rfl (by decide) v l.length (bv l) hown ad m.length c (bv m) (by simp [bv]) hnews
        (by intro u hu; simp [bv] at hu; obtain ⟨z, _, rfl⟩ := hu; rfl) (by unfold maxLen; omega) (by omega) hB
      refine ⟨v', w', hr, ?_, h5⟩
      unfold Ow
      rw [bv_app, List.length_append]
      exact h4
  unfold Oper.wp execOp
  simp only [ho, resolve, invoke, builtin, Sem.run_bind, Sem.run_pure, Result.andThen_ok, List.map_toArray, List.map_cons, List.map_nil, hs, hx, hr]
  exact hK _ _ (h v' w' h2 h3)
theorem BsA.grown {w w' : World} {u : Value} {m : List UInt8} {row : Option Nat} {B : Nat} (h : BsA w u m) (hg : w.grownBy w' row) (hr : ∀ r, row = some r → B ≤ r) (hu : ∀ a n c, u = .slice (some a) n c → a.block < B) : BsA w' u m := by
  obtain ⟨a, cap, rfl, h | ⟨b, o, rfl, hb, hc⟩⟩ := h
  · exact ⟨a, cap, rfl, .inl h⟩
  · have hbB := hu _ _ _ rfl
    refine ⟨_, cap, rfl, .inr ⟨b, o, rfl, Nat.lt_of_lt_of_le hb hg.size, fun j x hj => ?_⟩⟩
    rw [World.cell?_of_block (w := w) (hg.block b hb (fun e => by have := hr b e.symm; simp at hbB; omega))]
    exact hc j x hj
theorem below_gr {w w' : World} {row : Option Nat} {B : Nat} (hg : w.grownBy w' row) (hr : ∀ r, row = some r → B ≤ r) (hB : B ≤ w.heap.size) : Below B w w' := ⟨hg.os, hg.tape, hg.output, hg.size, fun k hk => hg.block k (by omega) (fun e => by have := hr k e.symm; omega)⟩
set_option maxRecDepth 100000 in
theorem num_0 (w : World) : Calls Tryz.prog 14 #[.nilIface] w fun e w' => e = .returned (.int .i64 0) ∧ w' = w := by
  go_enter Tryz.func14, Tryz.ntmps14
  go_wp2
  go_ret
  exact ⟨rfl, rfl⟩
section
variable {α : Type} {one : List UInt8 → Option (α × List UInt8)} {e : UInt8}
theorem its_all {Pp : α → Prop} {N : Nat} (ho : ∀ l x r, one l = some (x, r) → l.length ≤ N → Pp x ∧ r.length ≤ l.length) : ∀ (n : Nat) {xs ys : List α} {l r : List UInt8}, its one e n xs l = some (ys, r) → l.length ≤ N → (∀ x ∈ xs, Pp x) → (∀ x ∈ ys, Pp x) ∧ ys.length ≤ xs.length + l.length + 1
  | n, xs, ys, l, r, h, hN, hx => by
    cases h1 : one l with
    | none => rw [its_non h1] at h; cases h
    | some y =>
      obtain ⟨x, q⟩ := y
      obtain ⟨a, hql⟩ := ho _ _ _ h1 hN
      have hxs : ∀ z ∈ xs ++ [x], Pp z := fun z hz => by
        rcases List.mem_append.1 hz with hz | hz
        · exact hx z hz
        · simp at hz; subst hz; exact a
      cases he : hp [e] (sk q) with
      | true =>
        rw [its_end h1 he] at h; cases h
        exact ⟨hxs, by simp⟩
      | false =>
        cases hc : hp [44] (sk q) with
        | false => rw [its_bad h1 he hc] at h; cases h
        | true =>
          cases n with
          | zero => rw [its, h1] at h; simp [he, hc] at h
          | succ n =>
            rw [its_go h1 he hc] at h
            have t1 := tk_lt hc
            have t2 := sk_le q
            obtain ⟨g1, g2⟩ := its_all ho n h (by omega) hxs
            refine ⟨g1, ?_⟩
            simp only [List.length_append, List.length_cons, List.length_nil] at g2
            omega
theorem rw_all {Pp : α → Prop} {N : Nat} {b : UInt8} (ho : ∀ l x r, one l = some (x, r) → l.length ≤ N → Pp x ∧ r.length ≤ l.length) {ys : List α} {l r : List UInt8} (h : rw' one b e l = some (ys, r)) (hN : l.length ≤ N) : (∀ x ∈ ys, Pp x) ∧ ys.length ≤ l.length + 1 := by
  unfold rw' at h
  have a := sk_le l
  have c := tk_le [b] (sk l)
  have f := sk_le (tk [b] (sk l))
  split at h
  · split at h
    · cases h; exact ⟨by simp, by simp⟩
    · obtain ⟨g1, g2⟩ := its_all ho _ h (by omega) (by simp)
      exact ⟨g1, by simp at g2; omega⟩
  · cases h
end
theorem pv_hgt : ∀ (n : Nat) (l : List UInt8) (x : T) (r : List UInt8), pv n l = some (x, r) → l.length ≤ 4096 → hgt (n + 1) x
  | n, l, x, r, h, hN => by
    have a := sk_le l
    unfold pv at h
    generalize sk l = m at *
    have leaf : ∀ k i s, hgt (n + 1) (.mk k i s [] []) := fun k i s => ⟨by simp, by simp, by simp, by simp⟩
    cases m with
    | nil => cases h
    | cons b m =>
      simp only at h
      split at h
      · split at h
        · cases h; exact leaf _ _ _
        · cases h
      · split at h
        · split at h
          · cases h; exact leaf _ _ _
          · cases h
        · split at h
          · split at h
            · cases h; exact leaf _ _ _
            · cases h
          · split at h
            · split at h
              · cases h
              · cases h; exact leaf _ _ _
            · split at h
              · cases n with
                | zero => cases h
                | succ n =>
                  simp only at h
                  split at h
                  · cases h
                  · rename_i hq
                    cases h
                    obtain ⟨g1, g2⟩ := rw_all (N := 4096) (Pp := hgt (n + 1)) (fun l x r h hl => ⟨pv_hgt n l x r h hl, pv_le n l x r h⟩) hq (by omega)
                    exact ⟨by omega, by simp, g1, by simp⟩
              · split at h
                · cases n with
                  | zero => cases h
                  | succ n =>
                    simp only at h
                    split at h
                    · cases h
                    · rename_i hq
                      split at h
                      · cases h
                        obtain ⟨g1, g2⟩ := rw_all (N := 4096) (Pp := fun q : List UInt8 × T => hgt (n + 1) q.2) (fun l x r h hl => by
                          refine ⟨?_, pr_le (pv_le n) h⟩
                          unfold pr at h
                          have b1 := sk_le l
                          split at h
                          · cases h
                          · rename_i s q hq
                            have b2 := qt_le hq
                            have b3 := sk_le q
                            have b4 := tk_le [58] (sk q)
                            split at h
                            · split at h
                              · cases h
                              · rename_i v t hv
                                cases h
                                exact pv_hgt n _ _ _ hv (by omega)
                            · cases h) hq (by omega)
                        exact ⟨by simp, by omega, by simp, g1⟩
                      · cases h
                · split at h
                  · cases h
                  · cases h; exact leaf _ _ _
end Go.Proofs.YthgndmgoilfpcaaGreatDoor

namespace Go.Proofs.YthgndmgoilfpcaaGreatDoor
open Go.RowKit

theorem fend_ok {n c c' s : Nat} {l : List UInt8} (h : fend n c l = (c', s)) (hs : s ≠ 0) : c' = c ∧ s = n ∧ sgn c' = l.take s ∧ ¬ bdc c' := by
  unfold fend at h
  split at h
  · cases h; exact absurd rfl hs
  · rename_i hn
    cases h
    exact ⟨rfl, rfl, by by_cases e : sgn c = l.take n
                        · exact e
                        · exact absurd (.inr e) hn, fun e => hn (.inl e)⟩
theorem fgo_ok {n c0 c s : Nat} {l : List UInt8} (h : fgo n c0 l = (c, s)) (hs : s ≠ 0) : s = n ∧ s ≤ l.length ∧ sgn c = l.take s ∧ ¬ bdc c := by
  unfold fgo at h
  split at h
  · cases h; exact absurd rfl hs
  · split at h
    · cases h; exact absurd rfl hs
    · obtain ⟨_, e2, e3, e4⟩ := fend_ok h hs
      exact ⟨e2, by omega, e3, e4⟩
theorem frs_ok {l : List UInt8} {c s : Nat} (h : frs l = (c, s)) (hs : s ≠ 0) : s ≤ l.length ∧ sgn c = l.take s ∧ ¬ bdc c ∧ Lib.decodeL l = (c, s) ∧ l ≠ [] ∧ ¬ (c = 65533 ∧ s = 1) := by
  have h2 := h
  rw [← fst_eq] at h2
  have h3 : l ≠ [] ∧ Lib.decodeL l = (c, s) ∧ ¬ (c = 65533 ∧ s = 1) := by
    unfold frs at h
    split at h
    · cases h; exact absurd rfl hs
    · rename_i hn
      exact ⟨fun e => hn (.inl e), h, fun e => hn (.inr (by rw [h]; exact e))⟩
  have h4 : s ≤ l.length ∧ sgn c = l.take s ∧ ¬ bdc c := by
    cases l with
    | nil => cases h2; exact absurd rfl hs
    | cons x m =>
      rw [fst_c] at h2
      split at h2
      · exact (fgo_ok h2 hs).2
      · split at h2
        · cases h2; exact absurd rfl hs
        · split at h2
          · exact (fgo_ok h2 hs).2
          · split at h2
            · exact (fgo_ok h2 hs).2
            · exact (fgo_ok h2 hs).2
  exact ⟨h4.1, h4.2.1, h4.2.2, h3.2.1, h3.1, h3.2.2⟩
theorem enc_sgn {c : Nat} (h : ¬ bdc c) : enc c = sgn c := by
  unfold bdc at h
  unfold enc sgn Lib.encodeRune
  by_cases h1 : c < 128
  · rw [Lib.encodeRuneZ_one (by omega) (by omega), if_pos h1]
    simp only [List.map_cons, List.map_nil, Int.toNat_natCast]
  rw [if_neg h1]
  by_cases h2 : c < 2048
  · rw [Lib.encodeRuneZ_two (by omega) (by omega), if_pos h2]
    simp only [List.map_cons, List.map_nil]
    rw [show (192 + (c : Int) / 64).toNat = 192 + c / 64 by omega, show (128 + (c : Int) % 64).toNat = 128 + c % 64 by omega]
  rw [if_neg h2]
  by_cases h3 : c < 65536
  · rw [Lib.encodeRuneZ_three (by omega), if_pos h3]
    simp only [List.map_cons, List.map_nil]
    rw [show (224 + (c : Int) / 4096).toNat = 224 + c / 4096 by omega, show (128 + (c : Int) / 64 % 64).toNat = 128 + c / 64 % 64 by omega, show (128 + (c : Int) % 64).toNat = 128 + c % 64 by omega]
  · rw [Lib.encodeRuneZ_four (by omega) (by omega), if_neg h3]
    simp only [List.map_cons, List.map_nil]
    rw [show (240 + (c : Int) / 262144).toNat = 240 + c / 262144 by omega, show (128 + (c : Int) / 4096 % 64).toNat = 128 + c / 4096 % 64 by omega, show (128 + (c : Int) / 64 % 64).toNat = 128 + c / 64 % 64 by omega, show (128 + (c : Int) % 64).toNat = 128 + c % 64 by omega]
theorem sgn_small {l : List UInt8} {c s : Nat} (hc : c < 128) (h : sgn c = l.take s) (hs : s ≤ l.length) : s = 1 ∧ ∃ m, l = UInt8.ofNat c :: m := by
  unfold sgn at h
  rw [if_pos hc] at h
  have h1 := congrArg List.length h
  rw [List.length_take] at h1
  simp at h1
  have : s = 1 := by omega
  subst this
  cases l with
  | nil => simp at hs
  | cons x m =>
    simp at h
    exact ⟨rfl, m, by rw [h]⟩
theorem sgn_great {l : List UInt8} {c s : Nat} (hc : ¬ c < 128) (hb : ¬ bdc c) (h : sgn c = l.take s) : ∃ x m, l = x :: m ∧ 128 ≤ x.toNat := by
  have h0 : ∃ k r, sgn c = UInt8.ofNat k :: r ∧ 128 ≤ k % 256 := by
    unfold sgn
    rw [if_neg hc]
    by_cases h2 : c < 2048
    · rw [if_pos h2]; exact ⟨_, _, rfl, by omega⟩
    rw [if_neg h2]
    by_cases h3 : c < 65536
    · rw [if_pos h3]; exact ⟨_, _, rfl, by omega⟩
    · rw [if_neg h3]
      unfold bdc at hb
      exact ⟨_, _, rfl, by omega⟩
  obtain ⟨k, r, e, hk⟩ := h0
  rw [e] at h
  cases l with
  | nil => simp at h
  | cons x m =>
    cases s with
    | zero => simp at h
    | succ s =>
      rw [List.take_succ_cons] at h
      refine ⟨x, m, rfl, ?_⟩
      have : UInt8.ofNat k = x := (List.cons.inj h).1
      rw [← this]
      simpa using hk
theorem hp_cons {c x : UInt8} {m : List UInt8} : hp [c] (x :: m) = (c == x) := by
  unfold hp
  simp [List.isPrefixOf]
theorem hp_ne {c x : UInt8} {m : List UInt8} (h : c.toNat ≠ x.toNat) : hp [c] (x :: m) = false := by
  rw [hp_cons, beq_eq_false_iff_ne]
  intro e
  exact h (by rw [e])
theorem ltr_no {l : List UInt8} {c : Nat} (h : frs l = (c, 0)) : hp [34] l = false ∧ ltr l = none := by
  cases l with
  | nil => exact ⟨rfl, rfl⟩
  | cons x m =>
    have hd : (Lib.decodeL (x :: m)).1 = 65533 ∧ (Lib.decodeL (x :: m)).2 = 1 := by
      unfold frs at h
      split at h
      · rename_i hn
        exact hn.resolve_left (by simp)
      · have := Lib.decodeL_width (x :: m)
        rw [h] at this
        simp at this
    have hx : 128 ≤ x.toNat := by
      rcases Nat.lt_or_ge x.toNat 128 with hx | hx
      · rw [Lib.decodeL_ascii x m hx] at hd
        have := hd.1
        simp at this
        omega
      · exact hx
    have h34 : hp [34] (x :: m) = false := hp_ne (by show 34 ≠ _; omega)
    have h92 : hp [92] (x :: m) = false := hp_ne (by show 92 ≠ _; omega)
    refine ⟨h34, ?_⟩
    unfold ltr pln
    rw [h92, if_neg (by simp), dec_go, if_pos (.inr ⟨hd.1, by omega⟩)]
theorem ltr_yes {l : List UInt8} {c s : Nat} (h : frs l = (c, s)) (hs : s ≠ 0) : (c < 32 → hp [34] l = false ∧ ltr l = none) ∧ (c = 34 → hp [34] l = true ∧ tk [34] l = l.drop s) ∧ (c = 92 → hp [34] l = false ∧ ltr l = esc (l.drop s)) ∧ (32 ≤ c → c ≠ 34 → c ≠ 92 → hp [34] l = false ∧ ltr l = some (c, l.drop s)) := by
  obtain ⟨h1, h2, h3, h4, h5, h6⟩ := frs_ok h hs
  have hpl : pln l = if c < 32 ∨ c = 65533 ∧ s < 2 then none else some (c, l.drop s) := by
    cases l with
    | nil => exact absurd rfl h5
    | cons x m =>
      unfold pln
      rw [dec_go, h4]
  by_cases hc : c < 128
  · obtain ⟨rfl, m, rfl⟩ := sgn_small hc h2 h1
    have ht : (UInt8.ofNat c).toNat = c := of_u8 (by omega)
    refine ⟨fun h => ?_, fun h => ?_, fun h => ?_, fun g1 g2 g3 => ?_⟩
    · have e34 : hp [34] (UInt8.ofNat c :: m) = false := hp_ne (by rw [ht]; show 34 ≠ _; omega)
      have e92 : hp [92] (UInt8.ofNat c :: m) = false := hp_ne (by rw [ht]; show 92 ≠ _; omega)
      refine ⟨e34, ?_⟩
      unfold ltr
      rw [e92, if_neg (by simp), hpl, if_pos (.inl h)]
    · subst h
      exact ⟨by rw [hp_cons]; rfl, rfl⟩
    · subst h
      exact ⟨by rw [hp_cons]; rfl, rfl⟩
    · have e34 : hp [34] (UInt8.ofNat c :: m) = false := hp_ne (by rw [ht]; show 34 ≠ _; omega)
      have e92 : hp [92] (UInt8.ofNat c :: m) = false := hp_ne (by rw [ht]; show 92 ≠ _; omega)
      refine ⟨e34, ?_⟩
      unfold ltr
      rw [e92, if_neg (by simp), hpl, if_neg (by omega)]
  · obtain ⟨x, m, rfl, hx⟩ := sgn_great hc h3 h2
    refine ⟨fun h => by omega, fun h => by omega, fun h => by omega, fun g1 g2 g3 => ?_⟩
    have e34 : hp [34] (x :: m) = false := hp_ne (by show 34 ≠ _; omega)
    have e92 : hp [92] (x :: m) = false := hp_ne (by show 92 ≠ _; omega)
    refine ⟨e34, ?_⟩
    unfold ltr
    rw [e92, if_neg (by simp), hpl, if_neg (by omega)]
theorem f4_bd : ∀ {k n : Nat} {l : List UInt8} {c : Nat}, f4 k n l = some c → c < (n + 1) * 16 ^ k
  | 0, n, l, c, h => by
    rw [f4] at h
    cases h
    simp
  | k + 1, n, [], c, h => by cases h
  | k + 1, n, b :: l, c, h => by
    rw [f4] at h
    cases hf : fg b.toNat with
    | none => rw [hf] at h; cases h
    | some d =>
      rw [hf] at h
      have h1 := f4_bd h
      have h2 := fg_lt hf
      have h3 : (n * 16 + d + 1) * 16 ^ k ≤ ((n + 1) * 16) * 16 ^ k := Nat.mul_le_mul_right _ (by omega)
      rw [Nat.pow_succ, Nat.mul_comm (16 ^ k) 16, ← Nat.mul_assoc]
      omega
theorem f4_l6 {l : List UInt8} {c : Nat} (h : f4 4 0 l = some c) : c < 65536 := by
  have := f4_bd h
  simpa using this
theorem esc_ok {l r : List UInt8} {c : Nat} (h : esc l = some (c, r)) : ¬ bdc c := by
  cases l with
  | nil => cases h
  | cons b t =>
    have h : escN b.toNat t = some (c, r) := h
    unfold escN at h
    unfold bdc
    split at h
    · cases h; omega
    · split at h
      · cases h; omega
      · split at h
        · cases h; omega
        · split at h
          · cases h; omega
          · split at h
            · cases h; omega
            · split at h
              · cases h; omega
              · split at h
                · unfold cdd at h
                  split at h
                  · cases h
                  · rename_i c4 h4
                    split at h
                    · rename_i hc
                      rw [Option.some.injEq, Prod.mk.injEq] at h
                      obtain ⟨rfl, _⟩ := h
                      have : c4 < 65536 := f4_l6 h4
                      omega
                    · rename_i hc
                      split at h
                      · cases h
                      · rename_i hc2
                        split at h
                        · split at h
                          · cases h
                          · rename_i x h5
                            split at h
                            · cases h
                            · rename_i hx
                              rw [Option.some.injEq, Prod.mk.injEq] at h
                              obtain ⟨rfl, _⟩ := h
                              omega
                        · cases h
                · cases h
end Go.Proofs.YthgndmgoilfpcaaGreatDoor

/- KR3, KR4, KP1, KP2, KP3, KP4, KP5, KP6, KP7, KP13, KP14, CA7, CA8, KP8, KP9, KP10, KP11, KP12, KP15, KP16, KQ1, CA9, CBA, CBQ, CN1, CN2, CN3, CN4: laid together. -/
import Derived.Lib.ValidLaws
import Derived.Lib.ConvBytes
import Derived.Deep.RegionHeld3
import Derived.Test.YtbemaloaobeblaaGreatDoorG7
import Derived.Test.YtbemaloaobeblaaGreatDoorG3
import Derived.Test.YtbemaloaobeblaaGreatDoorG6
import Derived.Test.YtbemaloaobeblaaGreatDoorG4
import Derived.Test.YtbemaloaobeblaaGreatDoorG2
import Derived.Test.YtbemaloaobeblaaGreatDoorG5
namespace Go.Proofs.YtbemaloaobeblaaGreatDoor
open Go.RowKit

theorem fst_c (x : UInt8) (m : List UInt8) : fstR (x :: m) = if x.toNat < 128 then fgo 1 x.toNat (x :: m) else if x.toNat < 192 then (0, 0) else if x.toNat < 224 then fgo 2 (x.toNat - 192) (x :: m) else if x.toNat < 240 then fgo 3 (x.toNat - 224) (x :: m) else fgo 4 (x.toNat - 240) (x :: m) := rfl
theorem first_d {w : World} {a : Option Addr} {cap : Nat} {l : List UInt8} (h : BsA w (.slice a l.length cap) l) (hcap : l.length ≤ cap) : Calls Tryz.prog 86 #[.slice a l.length cap] w (AnF w (fstR l)) := by
  cases l with
  | nil => exact first_0 h
  | cons x m =>
    simp only [List.length_cons] at h hcap ⊢
    rw [fst_c]
    by_cases h1 : x.toNat < 128
    · rw [if_pos h1]
      by_cases h2 : x.toNat < 16
      · exact first_1a h hcap h2 (by omega)
      · by_cases h3 : x.toNat < 32
        · exact first_1b h hcap (by omega) h3 (by omega)
        · exact first_1c h hcap (by omega) h1 (by omega)
    rw [if_neg h1]
    by_cases h2 : x.toNat < 192
    · rw [if_pos h2]
      exact first_x h h1 h2
    rw [if_neg h2]
    by_cases h3 : x.toNat < 224
    · rw [if_pos h3]
      by_cases hs : m.length + 1 < 2
      · have : fgo 2 (x.toNat - 192) (x :: m) = (0, 0) := by unfold fgo; rw [if_pos (by simp only [List.length_cons]; omega)]
        rw [this]
        exact first_s2 h (by omega) h3 hs
      · by_cases h4 : x.toNat < 208
        · exact first_2a h hcap (by omega) h4 (by omega)
        · exact first_2b h hcap (by omega) h3 (by omega)
    rw [if_neg h3]
    by_cases h4 : x.toNat < 240
    · rw [if_pos h4]
      by_cases hs : m.length + 1 < 3
      · have : fgo 3 (x.toNat - 224) (x :: m) = (0, 0) := by unfold fgo; rw [if_pos (by simp only [List.length_cons]; omega)]
        rw [this]
        exact first_s3 h (by omega) h4 hs
      · exact first_3 h hcap (by omega) h4 (by omega)
    rw [if_neg h4]
    by_cases hs : m.length + 1 < 4
    · have : fgo 4 (x.toNat - 240) (x :: m) = (0, 0) := by unfold fgo; rw [if_pos (by simp only [List.length_cons]; omega)]
      rw [this]
      exact first_s4 h (by omega) hs
    · exact first_4 h hcap (by omega) (by omega)
def frs (l : List UInt8) : Nat × Nat := if l = [] ∨ ((Lib.decodeL l).1 = 65533 ∧ (Lib.decodeL l).2 = 1) then (0, 0) else Lib.decodeL l
theorem frs_bad {l : List UInt8} (h : Lib.decodeL l = (65533, 1)) : frs l = (0, 0) := by unfold frs; rw [if_pos (.inr (by rw [h]; exact ⟨rfl, rfl⟩))]
theorem frs_good {l : List UInt8} {c n : Nat} (hl : l ≠ []) (h : Lib.decodeL l = (c, n)) (hc : ¬ (c = 65533 ∧ n = 1)) : frs l = (c, n) := by unfold frs; rw [if_neg (fun e => e.elim hl (by rw [h]; exact hc)), h]
theorem u8_of {x : UInt8} {n : Nat} (h : n = x.toNat) : UInt8.ofNat n = x := by subst h; simp
theorem fend_bad {n c : Nat} {l : List UInt8} (h : bdc c ∨ sgn c ≠ l.take n) : fend n c l = (0, 0) := by unfold fend; rw [if_pos h]
theorem fend_good {n c : Nat} {l : List UInt8} (h : ¬ bdc c) (h2 : sgn c = l.take n) : fend n c l = (c, n) := by unfold fend; rw [if_neg (fun e => e.elim h (fun e => e h2))]
theorem sgn_len (c : Nat) : (sgn c).length = if c < 128 then 1 else if c < 2048 then 2 else if c < 65536 then 3 else 4 := by
  unfold sgn
  split
  · rfl
  · split
    · rfl
    · split <;> rfl
theorem fst_2 {x : UInt8} {m : List UInt8} (h1 : 192 ≤ x.toNat) (h2 : x.toNat < 224) : fgo 2 (x.toNat - 192) (x :: m) = frs (x :: m) := by
  cases m with
  | nil =>
    rw [frs_bad]
    · unfold fgo; rw [if_pos (by simp)]
    · rw [Lib.decodeL_N]; unfold Lib.decodeN
      simp only [List.length_cons, List.length_nil, List.getD_cons_zero]
      rw [if_neg (by omega), if_neg (by omega), if_neg (by omega), if_neg (by omega)]
  | cons y m =>
    have hy := y.toNat_lt
    unfold fgo
    rw [if_neg (by simp)]
    simp only [List.tail_cons, Nat.add_one_sub_one, fcl]
    have hd : Lib.decodeL (x :: y :: m) = if y.toNat / 64 = 2 then (if 128 ≤ x.toNat % 32 * 64 + y.toNat % 64 then (x.toNat % 32 * 64 + y.toNat % 64, 2) else (65533, 1)) else (65533, 1) := by
      rw [Lib.decodeL_N]; unfold Lib.decodeN
      simp only [List.length_cons, List.getD_cons_zero, List.getD_cons_succ]
      rw [if_neg (by omega)]
      by_cases hq : y.toNat / 64 = 2
      · rw [if_pos ⟨by omega, by omega, hq⟩, if_pos hq]
      · rw [if_neg (fun e => hq e.2.2), if_neg hq, if_neg (by omega), if_neg (by omega)]
    by_cases hb : y.toNat < 128 ∨ 191 < y.toNat
    · rw [if_pos hb]
      rw [if_neg (by omega)] at hd
      rw [frs_bad hd]
    · rw [if_neg hb]
      rw [if_pos (by omega)] at hd
      simp only
      have hc : 64 * (x.toNat - 192) + y.toNat - 128 = x.toNat % 32 * 64 + y.toNat % 64 := by omega
      rw [hc]
      by_cases hq : 128 ≤ x.toNat % 32 * 64 + y.toNat % 64
      · rw [if_pos hq] at hd
        rw [frs_good (by simp) hd (by omega), fend_good (by unfold bdc; omega)]
        unfold sgn
        rw [if_neg (by omega), if_pos (by omega)]
        simp only [List.take_succ_cons, List.take_zero]
        rw [u8_of (x := x) (by omega), u8_of (x := y) (by omega)]
      · rw [if_neg hq] at hd
        rw [frs_bad hd, fend_bad (.inr fun e => ?_)]
        have := congrArg List.length e
        rw [sgn_len, if_pos (by omega)] at this
        simp at this
theorem fst_3 {x : UInt8} {m : List UInt8} (h1 : 224 ≤ x.toNat) (h2 : x.toNat < 240) : fgo 3 (x.toNat - 224) (x :: m) = frs (x :: m) := by
  match m with
  | [] =>
    rw [frs_bad]
    · unfold fgo; rw [if_pos (by simp)]
    · rw [Lib.decodeL_N]; unfold Lib.decodeN
      simp only [List.length_cons, List.length_nil, List.getD_cons_zero]
      rw [if_neg (by omega), if_neg (by omega), if_neg (by omega), if_neg (by omega)]
  | [y] =>
    rw [frs_bad]
    · unfold fgo; rw [if_pos (by simp)]
    · rw [Lib.decodeL_N]; unfold Lib.decodeN
      simp only [List.length_cons, List.length_nil, List.getD_cons_zero]
      rw [if_neg (by omega), if_neg (by omega), if_neg (by omega), if_neg (by omega)]
  | y :: z :: m =>
    have hy := y.toNat_lt
    have hz := z.toNat_lt
    unfold fgo
    rw [if_neg (by simp)]
    simp only [List.tail_cons, Nat.reduceSub, fcl]
    have hd : Lib.decodeL (x :: y :: z :: m) = if y.toNat / 64 = 2 ∧ z.toNat / 64 = 2 then (if 2048 ≤ x.toNat % 16 * 4096 + y.toNat % 64 * 64 + z.toNat % 64 ∧ (x.toNat % 16 * 4096 + y.toNat % 64 * 64 + z.toNat % 64 < 55296 ∨ 57344 ≤ x.toNat % 16 * 4096 + y.toNat % 64 * 64 + z.toNat % 64) then (x.toNat % 16 * 4096 + y.toNat % 64 * 64 + z.toNat % 64, 3) else (65533, 1)) else (65533, 1) := by
      rw [Lib.decodeL_N]; unfold Lib.decodeN
      simp only [List.length_cons, List.getD_cons_zero, List.getD_cons_succ]
      rw [if_neg (by omega), if_neg (by omega)]
      by_cases hq : y.toNat / 64 = 2 ∧ z.toNat / 64 = 2
      · rw [if_pos ⟨by omega, ⟨by omega, hq.1⟩, by omega, hq.2⟩, if_pos hq]
        by_cases hv : 2048 ≤ x.toNat % 16 * 4096 + y.toNat % 64 * 64 + z.toNat % 64 ∧ (x.toNat % 16 * 4096 + y.toNat % 64 * 64 + z.toNat % 64 < 55296 ∨ 57344 ≤ x.toNat % 16 * 4096 + y.toNat % 64 * 64 + z.toNat % 64)
        · rw [if_pos ⟨hv.1, by omega⟩, if_pos hv]
        · rw [if_neg (by omega), if_neg hv]
      · rw [if_neg (fun e => hq ⟨e.2.1.2, e.2.2.2⟩), if_neg hq, if_neg (by omega)]
    by_cases hb : y.toNat < 128 ∨ 191 < y.toNat
    · rw [if_pos hb]
      rw [if_neg (by omega)] at hd
      rw [frs_bad hd]
    · rw [if_neg hb]
      by_cases hb2 : z.toNat < 128 ∨ 191 < z.toNat
      · rw [if_pos hb2]
        rw [if_neg (by omega)] at hd
        rw [frs_bad hd]
      · rw [if_neg hb2]
        rw [if_pos (by omega)] at hd
        simp only
        have hc : 64 * (64 * (x.toNat - 224) + y.toNat - 128) + z.toNat - 128 = x.toNat % 16 * 4096 + y.toNat % 64 * 64 + z.toNat % 64 := by omega
        rw [hc]
        generalize hC : x.toNat % 16 * 4096 + y.toNat % 64 * 64 + z.toNat % 64 = C at *
        by_cases hq : 2048 ≤ C ∧ (C < 55296 ∨ 57344 ≤ C)
        · rw [if_pos hq] at hd
          rw [frs_good (by simp) hd (by omega), fend_good (by unfold bdc; omega)]
          unfold sgn
          rw [if_neg (by omega), if_neg (by omega), if_pos (by omega)]
          simp only [List.take_succ_cons, List.take_zero]
          rw [u8_of (x := x) (by omega), u8_of (x := y) (by omega), u8_of (x := z) (by omega)]
        · rw [if_neg hq] at hd
          rw [frs_bad hd]
          by_cases hs : 2048 ≤ C
          · exact fend_bad (.inl (by unfold bdc; omega))
          · refine fend_bad (.inr fun e => ?_)
            have := congrArg List.length e
            rw [sgn_len] at this
            simp only [List.take_succ_cons, List.take_zero, List.length_cons, List.length_nil] at this
            split at this
            · omega
            · rw [if_pos (by omega)] at this; omega
theorem fst_4 {x : UInt8} {m : List UInt8} (h1 : 240 ≤ x.toNat) : fgo 4 (x.toNat - 240) (x :: m) = frs (x :: m) := by
  have hx := x.toNat_lt
  match m with
  | [] =>
    rw [frs_bad]
    · unfold fgo; rw [if_pos (by simp)]
    · rw [Lib.decodeL_N]; unfold Lib.decodeN
      simp only [List.length_cons, List.length_nil, List.getD_cons_zero]
      rw [if_neg (by omega), if_neg (by omega), if_neg (by omega), if_neg (by omega)]
  | [y] =>
    rw [frs_bad]
    · unfold fgo; rw [if_pos (by simp)]
    · rw [Lib.decodeL_N]; unfold Lib.decodeN
      simp only [List.length_cons, List.length_nil, List.getD_cons_zero]
      rw [if_neg (by omega), if_neg (by omega), if_neg (by omega), if_neg (by omega)]
  | [y, z] =>
    rw [frs_bad]
    · unfold fgo; rw [if_pos (by simp)]
    · rw [Lib.decodeL_N]; unfold Lib.decodeN
      simp only [List.length_cons, List.length_nil, List.getD_cons_zero]
      rw [if_neg (by omega), if_neg (by omega), if_neg (by omega), if_neg (by omega)]
  | y :: z :: u :: m =>
    have hy := y.toNat_lt
    have hz := z.toNat_lt
    have hu := u.toNat_lt
    unfold fgo
    rw [if_neg (by simp)]
    simp only [List.tail_cons, Nat.reduceSub, fcl]
    have hd : Lib.decodeL (x :: y :: z :: u :: m) = if x.toNat < 248 ∧ y.toNat / 64 = 2 ∧ z.toNat / 64 = 2 ∧ u.toNat / 64 = 2 then (if 65536 ≤ x.toNat % 8 * 262144 + y.toNat % 64 * 4096 + z.toNat % 64 * 64 + u.toNat % 64 ∧ x.toNat % 8 * 262144 + y.toNat % 64 * 4096 + z.toNat % 64 * 64 + u.toNat % 64 ≤ 1114111 then (x.toNat % 8 * 262144 + y.toNat % 64 * 4096 + z.toNat % 64 * 64 + u.toNat % 64, 4) else (65533, 1)) else (65533, 1) := by
      rw [Lib.decodeL_N]; unfold Lib.decodeN
      simp only [List.length_cons, List.getD_cons_zero, List.getD_cons_succ]
      rw [if_neg (by omega), if_neg (by omega), if_neg (by omega)]
      by_cases hq : x.toNat < 248 ∧ y.toNat / 64 = 2 ∧ z.toNat / 64 = 2 ∧ u.toNat / 64 = 2
      · obtain ⟨q1, q2, q3, q4⟩ := hq
        rw [if_pos ⟨by omega, ⟨by omega, q2⟩, ⟨by omega, q3⟩, by omega, q4⟩, if_pos (show x.toNat < 248 ∧ y.toNat / 64 = 2 ∧ z.toNat / 64 = 2 ∧ u.toNat / 64 = 2 from ⟨q1, q2, q3, q4⟩)]
        by_cases hv : 65536 ≤ x.toNat % 8 * 262144 + y.toNat % 64 * 4096 + z.toNat % 64 * 64 + u.toNat % 64 ∧ x.toNat % 8 * 262144 + y.toNat % 64 * 4096 + z.toNat % 64 * 64 + u.toNat % 64 ≤ 1114111
        · rw [if_pos ⟨hv.1, by omega⟩, if_pos hv]
        · rw [if_neg (by omega), if_neg hv]
      · rw [if_neg (fun e => hq ⟨by omega, e.2.1.2, e.2.2.1.2, e.2.2.2.2⟩), if_neg hq]
    by_cases hb : y.toNat < 128 ∨ 191 < y.toNat
    · rw [if_pos hb]
      rw [if_neg (by omega)] at hd
      rw [frs_bad hd]
    · rw [if_neg hb]
      by_cases hb2 : z.toNat < 128 ∨ 191 < z.toNat
      · rw [if_pos hb2]
        rw [if_neg (by omega)] at hd
        rw [frs_bad hd]
      · rw [if_neg hb2]
        by_cases hb3 : u.toNat < 128 ∨ 191 < u.toNat
        · rw [if_pos hb3]
          rw [if_neg (by omega)] at hd
          rw [frs_bad hd]
        · rw [if_neg hb3]
          simp only
          by_cases hx8 : x.toNat < 248
          · rw [if_pos ⟨hx8, by omega, by omega, by omega⟩] at hd
            have hc : 64 * (64 * (64 * (x.toNat - 240) + y.toNat - 128) + z.toNat - 128) + u.toNat - 128 = x.toNat % 8 * 262144 + y.toNat % 64 * 4096 + z.toNat % 64 * 64 + u.toNat % 64 := by omega
            rw [hc]
            generalize hC : x.toNat % 8 * 262144 + y.toNat % 64 * 4096 + z.toNat % 64 * 64 + u.toNat % 64 = C at *
            by_cases hq : 65536 ≤ C ∧ C ≤ 1114111
            · rw [if_pos hq] at hd
              rw [frs_good (by simp) hd (by omega), fend_good (by unfold bdc; omega)]
              unfold sgn
              rw [if_neg (by omega), if_neg (by omega), if_neg (by omega)]
              simp only [List.take_succ_cons, List.take_zero]
              rw [u8_of (x := x) (by omega), u8_of (x := y) (by omega), u8_of (x := z) (by omega), u8_of (x := u) (by omega)]
            · rw [if_neg hq] at hd
              rw [frs_bad hd]
              by_cases hs : 65536 ≤ C
              · exact fend_bad (.inl (by unfold bdc; omega))
              · refine fend_bad (.inr fun e => ?_)
                have := congrArg List.length e
                rw [sgn_len] at this
                simp only [List.take_succ_cons, List.take_zero, List.length_cons, List.length_nil] at this
                split at this
                · omega
                · split at this
                  · omega
                  · rw [if_pos (by omega)] at this; omega
          · rw [if_neg (by omega)] at hd
            rw [frs_bad hd]
            exact fend_bad (.inl (by unfold bdc; omega))
theorem fst_eq (l : List UInt8) : fstR l = frs l := by
  cases l with
  | nil => rfl
  | cons x m =>
    rw [fst_c]
    by_cases h1 : x.toNat < 128
    · rw [if_pos h1, frs_good (by simp) (Lib.decodeL_ascii x m h1) (by omega)]
      unfold fgo
      rw [if_neg (by simp)]
      simp only [Nat.sub_self, fcl]
      refine fend_good (by unfold bdc; omega) ?_
      unfold sgn
      rw [if_pos h1]
      simp
    rw [if_neg h1]
    by_cases h2 : x.toNat < 192
    · rw [if_pos h2, frs_bad]
      rw [Lib.decodeL_N]; unfold Lib.decodeN
      simp only [List.getD_cons_zero]
      rw [if_neg (by omega), if_neg (by omega), if_neg (by omega), if_neg (by omega)]
    rw [if_neg h2]
    by_cases h3 : x.toNat < 224
    · rw [if_pos h3]; exact fst_2 (by omega) h3
    rw [if_neg h3]
    by_cases h4 : x.toNat < 240
    · rw [if_pos h4]; exact fst_3 (by omega) h4
    · rw [if_neg h4]; exact fst_4 (by omega)
theorem BsA.drop {w : World} {b o n cap : Nat} {l : List UInt8} (h : BsA w (.slice (some ⟨b, o, none⟩) n cap) l) (k c : Nat) : BsA w (.slice (some ⟨b, o + k, none⟩) (l.length - k) c) (l.drop k) := by
  obtain ⟨a', cap', e, h⟩ := h
  cases e
  refine ⟨_, c, by rw [List.length_drop], ?_⟩
  rcases h with rfl | ⟨b', o', e, hb, hc⟩
  · left; simp
  · cases e
    right
    refine ⟨b, o + k, rfl, hb, fun j x hj => ?_⟩
    rw [List.getElem?_drop] at hj
    have := hc (k + j) x hj
    rwa [← Nat.add_assoc] at this
theorem cvb (w : World) (l : List UInt8) : ∃ w1 cap, (convert 9 22 (.string (st l))).run Tryz.prog w = .ok (.slice (some ⟨w.heap.size, 0, none⟩) l.length cap) w1 ∧ l.length ≤ cap ∧ BsA w1 (.slice (some ⟨w.heap.size, 0, none⟩) l.length cap) l ∧ Below w.heap.size w w1 := by
  refine ⟨Lib.bytesWorld w 5 (st l), grownCap w (st l).size 0 5, Lib.run_convert_string_bytes (P := Tryz.prog) w 9 22 5 (st l) (u := .string) Tryz.underlying9 Tryz.underlying22 Tryz.underlying5, ?_, ?_, ?_⟩
  · have := grownCap_ge w (st l).size 0 5
    rw [st_size] at this
    exact this
  · refine ⟨_, _, rfl, .inr ⟨_, _, rfl, by rw [Lib.bytesWorld_size]; omega, fun j x hj => ?_⟩⟩
    have hjl := (List.getElem?_eq_some_iff.1 hj).1
    have := Lib.bytesWorld_cell w 5 (st l) j (by rw [st_size]; exact hjl)
    rw [Nat.zero_add, this, st_data, List.getD_eq_getElem?_getD, hj]
    rfl
  · exact ⟨rfl, rfl, rfl, by rw [Lib.bytesWorld_size]; omega, fun k hk => Lib.bytesWorld_at_old w _ _ k hk⟩
def lnV : Value → Nat
  | .slice _ n _ => n
  | _ => 0
theorem sl_from {b o n k cap : Nat} (hk : k ≤ n) (w : World) : (Instr.sliceAt 22 (.slice (some ⟨b, o, none⟩) n cap) (some (.int .i64 (k : Nat))) none none).run Tryz.prog w = .ok (.slice (some ⟨b, if cap = k then o else o + k, none⟩) (n - k) (cap - k)) w := by
  by_cases h : cap = k
  · subst h
    simp [Instr.sliceAt, go_sem, hk]
  · rw [if_neg h]
    simp [Instr.sliceAt, go_sem, hk]
    omega
set_option maxHeartbeats 8000000 in
set_option maxRecDepth 100000 in
theorem valid_d {w : World} {l : List UInt8} : Calls Tryz.prog 65 #[.string (st l)] w fun e w' => e = .returned (.bool (Lib.validD l)) ∧ Below w.heap.size w w' := by
  obtain ⟨w1, cap, hcv, hcap, hbs, hbw⟩ := cvb w l
  obtain ⟨B, hB⟩ : ∃ B, Hid (B = Lib.validD l) := ⟨_, hide1 rfl⟩
  rw [← hB.out]
  replace hbs := hide1 hbs
  replace hbw := hide1 hbw
  replace hcap := hide1 hcap
  go_enter Tryz.func65, Tryz.ntmps65
  go_wp2_with fail
  go_loopw [3] (fun s3 wr => ∃ (m : List UInt8) (b o c : Nat), s3 = .slice (some ⟨b, o, none⟩) m.length c ∧ Hid (m.length ≤ c) ∧ Hid (BsA wr (.slice (some ⟨b, o, none⟩) m.length c) m) ∧ Hid (B = Lib.validD m) ∧ Hid (Below w.heap.size w wr)) (fun s3 _ => lnV s3)
  case atStart => exact ⟨l, _, _, cap, rfl, hcap, hbs, hB, hbw⟩
  case round =>
    obtain ⟨m, b, o, c, rfl, hmc, hm, hBm, hb⟩ := hrel
    clear hcap hbs hbw hB hcv
    by_cases hz : m = []
    · subst hz
      have hfin : Hid ((Ending.returned (.bool true) : Ending) = .returned (.bool B) ∧ Below w.heap.size w wr) := hide1 ⟨by rw [hBm.out]; rfl, hb.out⟩
      clear hBm hm hmc hb
      simp only [List.length_nil]
      go_wp2
      go_ret
      exact hfin.out
    · have hf := first_d hm.out hmc.out
      rw [fst_eq] at hf
      have hst := Lib.validD_step m hz
      have hpos : 0 < m.length := List.length_pos_iff.2 hz
      by_cases hbad : (Lib.decodeL m).1 = 65533 ∧ (Lib.decodeL m).2 = 1
      · have e1 : frs m = (0, 0) := by unfold frs; rw [if_pos (.inr hbad)]
        rw [e1] at hf
        rw [if_pos hbad] at hst
        have hBf : Hid (B = false) := hide1 (hBm.out.trans hst)
        clear hst hBm hm hmc hbad e1 hz
        generalize m.length = N at *
        go_wp2_with fail
        refine hf.mono ?_
        rintro e w2 ⟨rfl, b2⟩
        have hfin : Hid ((Ending.returned (.bool false) : Ending) = .returned (.bool B) ∧ Below w.heap.size w w2) := hide1 ⟨by rw [hBf.out], hb.out.trans (b2.mono hb.out.size)⟩
        clear hf b2 hb hBf
        go_wp2
        go_ret
        exact hfin.out
      · have e1 : frs m = Lib.decodeL m := by unfold frs; rw [if_neg (fun h => h.elim hz hbad)]
        rw [e1] at hf
        rw [if_neg hbad] at hst
        have hk1 := Lib.decodeL_width m
        have hk2 := Lib.decodeL_le m hz
        generalize hdk : Lib.decodeL m = ck at *
        obtain ⟨cc, k⟩ := ck
        simp only at hk1 hk2 hst hf
        have hBk : Hid (B = Lib.validD (m.drop k)) := hide1 (hBm.out.trans hst)
        have hs : ∀ w' : World, _ := fun w' : World => sl_from (b := b) (o := o) (n := m.length) (k := k) (cap := c) hk2 w'
        have hdr : BsA wr (.slice (some ⟨b, if c = k then o else o + k, none⟩) (m.length - k) (c - k)) (m.drop k) := by
          by_cases hck : c = k
          · have hnil : m.drop k = [] := List.drop_of_length_le (by have := hmc.out; omega)
            have hz0 : m.length - k = 0 := by have := hmc.out; omega
            rw [hnil, hz0]
            exact ⟨_, _, rfl, .inl rfl⟩
          · rw [if_neg hck]
            exact hm.out.drop k (c - k)
        generalize (if c = k then o else o + k) = o' at *
        replace hs := hide1 hs
        have hld : Hid ((m.drop k).length = m.length - k) := hide1 List.length_drop
        clear hst hBm hm hbad e1 hz hdk
        generalize m.drop k = m' at *
        generalize hNe : m.length = N at *
        go_wp2_with fail
        refine hf.mono ?_
        rintro e w2 ⟨rfl, b2⟩
        have hb2 := hide1 (hb.out.trans (b2.mono hb.out.size))
        have hdr2 := hide1 (hdr.bl b2)
        have hs2 := hs.out w2
        have hk0 : ((k : Int) == 0) = false := by simp; omega
        clear hf b2 hb hdr hs hNe
        go_wp2
        go_roundw
        case rel => exact ⟨m', b, o', c - k, by rw [hld.out], hide1 (by rw [hld.out]; have := hmc.out; omega), by rw [hld.out]; exact hdr2, hBk, hb2⟩
        case measure => simp [lnV]; omega
section
variable {sl : Value} {B : List UInt8} {g p : Nat} {bad : Bool} {w w' : World}
end
section
variable {sl : Value} {B : List UInt8} {g p : Nat} {bad : Bool} {w w' : World}
end
section
variable {sl : Value} {B : List UInt8} {g p : Nat} {bad : Bool} {w w' : World}
end
section
variable {sl : Value} {B : List UInt8} {g p : Nat} {w w' : World}
end
section
variable {sl : Value} {B : List UInt8} {g p : Nat} {w w' : World}
end
section
variable {sl : Value} {B : List UInt8} {g p : Nat} {w w' : World}
end
theorem fend_ok {n c c' s : Nat} {l : List UInt8} (h : fend n c l = (c', s)) (hs : s ≠ 0) : c' = c ∧ s = n ∧ sgn c' = l.take s ∧ ¬ bdc c' := by
  unfold fend at h
  split at h
  · cases h; exact absurd rfl hs
  · rename_i hn
    cases h
    exact ⟨rfl, rfl, by by_cases e : sgn c = l.take n
                        · exact e
                        · exact absurd (.inr e) hn, fun e => hn (.inl e)⟩
theorem fgo_ok {n c0 c s : Nat} {l : List UInt8} (h : fgo n c0 l = (c, s)) (hs : s ≠ 0) : s = n ∧ s ≤ l.length ∧ sgn c = l.take s ∧ ¬ bdc c := by
  unfold fgo at h
  split at h
  · cases h; exact absurd rfl hs
  · split at h
    · cases h; exact absurd rfl hs
    · obtain ⟨_, e2, e3, e4⟩ := fend_ok h hs
      exact ⟨e2, by omega, e3, e4⟩
theorem frs_ok {l : List UInt8} {c s : Nat} (h : frs l = (c, s)) (hs : s ≠ 0) : s ≤ l.length ∧ sgn c = l.take s ∧ ¬ bdc c ∧ Lib.decodeL l = (c, s) ∧ l ≠ [] ∧ ¬ (c = 65533 ∧ s = 1) := by
  have h2 := h
  rw [← fst_eq] at h2
  have h3 : l ≠ [] ∧ Lib.decodeL l = (c, s) ∧ ¬ (c = 65533 ∧ s = 1) := by
    unfold frs at h
    split at h
    · cases h; exact absurd rfl hs
    · rename_i hn
      exact ⟨fun e => hn (.inl e), h, fun e => hn (.inr (by rw [h]; exact e))⟩
  have h4 : s ≤ l.length ∧ sgn c = l.take s ∧ ¬ bdc c := by
    cases l with
    | nil => cases h2; exact absurd rfl hs
    | cons x m =>
      rw [fst_c] at h2
      split at h2
      · exact (fgo_ok h2 hs).2
      · split at h2
        · cases h2; exact absurd rfl hs
        · split at h2
          · exact (fgo_ok h2 hs).2
          · split at h2
            · exact (fgo_ok h2 hs).2
            · exact (fgo_ok h2 hs).2
  exact ⟨h4.1, h4.2.1, h4.2.2, h3.2.1, h3.1, h3.2.2⟩
theorem enc_sgn {c : Nat} (h : ¬ bdc c) : enc c = sgn c := by
  unfold bdc at h
  unfold enc sgn Lib.encodeRune
  by_cases h1 : c < 128
  · rw [Lib.encodeRuneZ_one (by omega) (by omega), if_pos h1]
    simp only [List.map_cons, List.map_nil, Int.toNat_natCast]
  rw [if_neg h1]
  by_cases h2 : c < 2048
  · rw [Lib.encodeRuneZ_two (by omega) (by omega), if_pos h2]
    simp only [List.map_cons, List.map_nil]
    rw [show (192 + (c : Int) / 64).toNat = 192 + c / 64 by omega, show (128 + (c : Int) % 64).toNat = 128 + c % 64 by omega]
  rw [if_neg h2]
  by_cases h3 : c < 65536
  · rw [Lib.encodeRuneZ_three (by omega), if_pos h3]
    simp only [List.map_cons, List.map_nil]
    rw [show (224 + (c : Int) / 4096).toNat = 224 + c / 4096 by omega, show (128 + (c : Int) / 64 % 64).toNat = 128 + c / 64 % 64 by omega, show (128 + (c : Int) % 64).toNat = 128 + c % 64 by omega]
  · rw [Lib.encodeRuneZ_four (by omega) (by omega), if_neg h3]
    simp only [List.map_cons, List.map_nil]
    rw [show (240 + (c : Int) / 262144).toNat = 240 + c / 262144 by omega, show (128 + (c : Int) / 4096 % 64).toNat = 128 + c / 4096 % 64 by omega, show (128 + (c : Int) / 64 % 64).toNat = 128 + c / 64 % 64 by omega, show (128 + (c : Int) % 64).toNat = 128 + c % 64 by omega]
theorem hp_cons {c x : UInt8} {m : List UInt8} : hp [c] (x :: m) = (c == x) := by
  unfold hp
  simp [List.isPrefixOf]
theorem hp_ne {c x : UInt8} {m : List UInt8} (h : c.toNat ≠ x.toNat) : hp [c] (x :: m) = false := by
  rw [hp_cons, beq_eq_false_iff_ne]
  intro e
  exact h (by rw [e])
theorem ltr_no {l : List UInt8} {c : Nat} (h : frs l = (c, 0)) : hp [34] l = false ∧ ltr l = none := by
  cases l with
  | nil => exact ⟨rfl, rfl⟩
  | cons x m =>
    have hd : (Lib.decodeL (x :: m)).1 = 65533 ∧ (Lib.decodeL (x :: m)).2 = 1 := by
      unfold frs at h
      split at h
      · rename_i hn
        exact hn.resolve_left (by simp)
      · have := Lib.decodeL_width (x :: m)
        rw [h] at this
        simp at this
    have hx : 128 ≤ x.toNat := by
      rcases Nat.lt_or_ge x.toNat 128 with hx | hx
      · rw [Lib.decodeL_ascii x m hx] at hd
        have := hd.1
        simp at this
        omega
      · exact hx
    have h34 : hp [34] (x :: m) = false := hp_ne (by show 34 ≠ _; omega)
    have h92 : hp [92] (x :: m) = false := hp_ne (by show 92 ≠ _; omega)
    refine ⟨h34, ?_⟩
    unfold ltr pln
    rw [h92, if_neg (by simp), dec_go, if_pos (.inr ⟨hd.1, by omega⟩)]
theorem f4_bd : ∀ {k n : Nat} {l : List UInt8} {c : Nat}, f4 k n l = some c → c < (n + 1) * 16 ^ k
  | 0, n, l, c, h => by
    rw [f4] at h
    cases h
    simp
  | k + 1, n, [], c, h => by cases h
  | k + 1, n, b :: l, c, h => by
    rw [f4] at h
    cases hf : fg b.toNat with
    | none => rw [hf] at h; cases h
    | some d =>
      rw [hf] at h
      have h1 := f4_bd h
      have h2 := fg_lt hf
      have h3 : (n * 16 + d + 1) * 16 ^ k ≤ ((n + 1) * 16) * 16 ^ k := Nat.mul_le_mul_right _ (by omega)
      rw [Nat.pow_succ, Nat.mul_comm (16 ^ k) 16, ← Nat.mul_assoc]
      omega
theorem f4_l6 {l : List UInt8} {c : Nat} (h : f4 4 0 l = some c) : c < 65536 := by
  have := f4_bd h
  simpa using this
theorem esc_ok {l r : List UInt8} {c : Nat} (h : esc l = some (c, r)) : ¬ bdc c := by
  cases l with
  | nil => cases h
  | cons b t =>
    have h : escN b.toNat t = some (c, r) := h
    unfold escN at h
    unfold bdc
    split at h
    · cases h; omega
    · split at h
      · cases h; omega
      · split at h
        · cases h; omega
        · split at h
          · cases h; omega
          · split at h
            · cases h; omega
            · split at h
              · cases h; omega
              · split at h
                · unfold cdd at h
                  split at h
                  · cases h
                  · rename_i c4 h4
                    split at h
                    · rename_i hc
                      rw [Option.some.injEq, Prod.mk.injEq] at h
                      obtain ⟨rfl, _⟩ := h
                      have : c4 < 65536 := f4_l6 h4
                      omega
                    · rename_i hc
                      split at h
                      · cases h
                      · rename_i hc2
                        split at h
                        · split at h
                          · cases h
                          · rename_i x h5
                            split at h
                            · cases h
                            · rename_i hx
                              rw [Option.some.injEq, Prod.mk.injEq] at h
                              obtain ⟨rfl, _⟩ := h
                              omega
                        · cases h
                · cases h
theorem valid_app : ∀ (k : Nat) {a b : List UInt8}, a.length ≤ k → Lib.validD a = true → Lib.validD (a ++ b) = Lib.validD b
  | 0, a, b, hk, _ => by
    have : a = [] := List.length_eq_zero_iff.1 (by omega)
    rw [this]; rfl
  | k + 1, a, b, hk, h => by
    by_cases ha : a = []
    · rw [ha]; rfl
    have h2 := h
    rw [Lib.validD_step a ha] at h2
    by_cases hbad : (Lib.decodeL a).1 = 65533 ∧ (Lib.decodeL a).2 = 1
    · rw [if_pos hbad] at h2; cases h2
    rw [if_neg hbad] at h2
    obtain ⟨q, e1, e2, e3, e4⟩ := dec_sw ha hbad
    have hw := Lib.decodeL_width a
    have e5 : Lib.decodeL (a ++ b) = Lib.decodeL a := by
      have : a ++ b = q ++ (a.drop (Lib.decodeL a).2 ++ b) := by rw [← List.append_assoc, ← e1]
      rw [this]; exact e4 _
    have hl := Lib.decodeL_le a ha
    rw [Lib.validD_step (a ++ b) (by simp [ha]), e5, if_neg hbad, List.drop_append_of_le_length hl]
    exact valid_app k (by rw [List.length_drop]; omega) h2
theorem sgn_ne0 (c : Nat) : sgn c ≠ [] := by
  unfold sgn
  split
  · simp
  · split
    · simp
    · split <;> simp
theorem fend_sgn {n c : Nat} {l : List UInt8} (hb : ¬ bdc c) (h : l = sgn c) (hn : l.length = n) : fend n c l = (c, n) := by
  unfold fend
  rw [if_neg]
  rintro (e | e)
  · exact hb e
  · exact e (by rw [← hn, List.take_length, h])
theorem fst_sgn {c : Nat} (h : ¬ bdc c) : fstR (sgn c) = (c, (sgn c).length) := by
  have hb := h
  unfold bdc at hb
  obtain ⟨l, hl⟩ : ∃ l, l = sgn c := ⟨_, rfl⟩
  rw [← hl]
  have hl2 := hl
  unfold sgn at hl2
  by_cases h1 : c < 128
  · rw [if_pos h1] at hl2
    rw [hl2, fst_c, of_u8 (by omega), if_pos h1, ← hl2]
    have hlen : l.length = 1 := by rw [hl2]; rfl
    unfold fgo
    rw [if_neg (by omega), hlen]
    exact fend_sgn h hl hlen
  rw [if_neg h1] at hl2
  by_cases h2 : c < 2048
  · rw [if_pos h2] at hl2
    have hlen : l.length = 2 := by rw [hl2]; rfl
    rw [hl2, fst_c, of_u8 (by omega), if_neg (by omega), if_neg (by omega), if_pos (by omega), ← hl2]
    have hf : fcl (192 + c / 64 - 192) (2 - 1) l.tail = some c := by
      rw [hl2]
      show fcl (192 + c / 64 - 192) 1 [UInt8.ofNat (128 + c % 64)] = some c
      rw [fcl, of_u8 (by omega), if_neg (by omega), fcl]
      refine congrArg some ?_
      omega
    unfold fgo
    rw [if_neg (by omega), hf, hlen]
    exact fend_sgn h hl hlen
  rw [if_neg h2] at hl2
  by_cases h3 : c < 65536
  · rw [if_pos h3] at hl2
    have hlen : l.length = 3 := by rw [hl2]; rfl
    rw [hl2, fst_c, of_u8 (by omega), if_neg (by omega), if_neg (by omega), if_neg (by omega), if_pos (by omega), ← hl2]
    have hf : fcl (224 + c / 4096 - 224) (3 - 1) l.tail = some c := by
      rw [hl2]
      show fcl (224 + c / 4096 - 224) 2 [UInt8.ofNat (128 + c / 64 % 64), UInt8.ofNat (128 + c % 64)] = some c
      rw [fcl, of_u8 (by omega), if_neg (by omega), fcl, of_u8 (by omega), if_neg (by omega), fcl]
      refine congrArg some ?_
      omega
    unfold fgo
    rw [if_neg (by omega), hf, hlen]
    exact fend_sgn h hl hlen
  · rw [if_neg h3] at hl2
    have hlen : l.length = 4 := by rw [hl2]; rfl
    rw [hl2, fst_c, of_u8 (by omega), if_neg (by omega), if_neg (by omega), if_neg (by omega), if_neg (by omega), ← hl2]
    have hf : fcl (240 + c / 262144 - 240) (4 - 1) l.tail = some c := by
      rw [hl2]
      show fcl (240 + c / 262144 - 240) 3 [UInt8.ofNat (128 + c / 4096 % 64), UInt8.ofNat (128 + c / 64 % 64), UInt8.ofNat (128 + c % 64)] = some c
      rw [fcl, of_u8 (by omega), if_neg (by omega), fcl, of_u8 (by omega), if_neg (by omega), fcl, of_u8 (by omega), if_neg (by omega), fcl]
      refine congrArg some ?_
      omega
    unfold fgo
    rw [if_neg (by omega), hf, hlen]
    exact fend_sgn h hl hlen
theorem enc_valid {c : Nat} (h : ¬ bdc c) : Lib.validD (enc c) = true := by
  rw [enc_sgn h]
  have hl : (sgn c).length ≠ 0 := fun e => sgn_ne0 c (List.length_eq_zero_iff.1 e)
  have hf := fst_sgn h
  rw [fst_eq] at hf
  obtain ⟨_, _, _, h4, h5, h6⟩ := frs_ok hf hl
  rw [Lib.validD_step _ h5, h4, if_neg h6, List.drop_length]
  rfl
theorem ql_valid : ∀ (n : Nat) {out l s r : List UInt8}, Lib.validD out = true → ql n out l = some (s, r) → Lib.validD s = true
  | n, out, l, s, r, ho, h => by
    cases hh : hp [34] l with
    | true => rw [ql_end hh] at h; cases h; exact ho
    | false =>
      cases hl : ltr l with
      | none => rw [ql_non hh hl] at h; cases h
      | some x =>
        obtain ⟨c, q⟩ := x
        cases n with
        | zero => rw [ql, if_neg (by simp [hh]), hl] at h; cases h
        | succ n =>
          rw [ql_go hh hl] at h
          refine ql_valid n ?_ h
          rw [valid_app _ (Nat.le_refl _) ho]
          refine enc_valid ?_
          unfold ltr at hl
          split at hl
          · exact esc_ok hl
          · cases hf : frs l with
            | mk c2 s2 =>
              by_cases hs : s2 = 0
              · subst hs
                have := (ltr_no hf).2
                unfold ltr at this
                rename_i h92
                rw [if_neg h92] at this
                rw [this] at hl; cases hl
              · obtain ⟨g1, g2, g3, g4, g5, g6⟩ := frs_ok hf hs
                cases l with
                | nil => exact absurd rfl g5
                | cons x m =>
                  unfold pln at hl
                  rw [dec_go, g4] at hl
                  split at hl
                  · cases hl
                  · cases hl; exact g3
theorem qt_valid {l s r : List UInt8} (h : qt l = some (s, r)) : Lib.validD s = true := by
  unfold qt at h
  split at h
  · exact ql_valid _ rfl h
  · cases h
theorem nm_rng {l r : List UInt8} {i : Int} (h : nm l = some (i, r)) : inR i = true := by
  unfold nm at h
  cases hq : nmO (hp [45] l) ((tk [45] l).takeWhile dg) with
  | none => rw [hq] at h; cases h
  | some k =>
    rw [hq] at h
    cases h
    unfold nmO at hq
    split at hq
    · cases hq
    · rename_i hn
      have : ¬ 9007199254740991 < dgs ((tk [45] l).takeWhile dg) := fun e => hn (.inr (.inr (.inl e)))
      rw [Option.some.injEq] at hq
      unfold inR
      rw [← hq]
      apply decide_eq_true
      split <;> omega
theorem pv_gd : ∀ (n : Nat) (l : List UInt8) (x : T) (r : List UInt8), pv n l = some (x, r) → l.length ≤ 4096 → gd n x = true
  | n, l, x, r, h, hN => by
    have a := sk_le l
    unfold pv at h
    generalize sk l = m at *
    cases m with
    | nil => cases h
    | cons b m =>
      simp only at h
      split at h
      · split at h
        · cases h; unfold gd; rfl
        · cases h
      · split at h
        · split at h
          · cases h; unfold gd; rfl
          · cases h
        · split at h
          · split at h
            · cases h; unfold gd; rfl
            · cases h
          · split at h
            · split at h
              · cases h
              · rename_i hq
                cases h
                have := qt_valid hq
                unfold gd
                rw [spB_f (by simp) (by simp) (by simp) (by simp)]
                simpa using this
            · split at h
              · cases n with
                | zero => cases h
                | succ n =>
                  simp only at h
                  split at h
                  · cases h
                  · rename_i hq
                    cases h
                    obtain ⟨g1, g2⟩ := rw_all (N := 4096) (Pp := fun x => gd n x = true) (fun l x r h hl => ⟨pv_gd n l x r h hl, pv_le n l x r h⟩) hq (by omega)
                    unfold gd
                    rw [spB_f (by simp) (by simp) (by simp) (by simp)]
                    simpa using g1
              · split at h
                · cases n with
                  | zero => cases h
                  | succ n =>
                    simp only at h
                    split at h
                    · cases h
                    · rename_i hq
                      split at h
                      · rename_i honc
                        cases h
                        obtain ⟨g1, g2⟩ := rw_all (N := 4096) (Pp := fun q : List UInt8 × T => Lib.validD q.1 = true ∧ gd n q.2 = true) (fun l x r h hl => by
                          refine ⟨?_, pr_le (pv_le n) h⟩
                          unfold pr at h
                          have b1 := sk_le l
                          split at h
                          · cases h
                          · rename_i s q hq
                            have b2 := qt_le hq
                            have b3 := sk_le q
                            have b4 := tk_le [58] (sk q)
                            split at h
                            · split at h
                              · cases h
                              · rename_i v t hv
                                cases h
                                exact ⟨qt_valid hq, pv_gd n _ _ _ hv (by omega)⟩
                            · cases h) hq (by omega)
                        unfold gd
                        rw [spB_f (by simp) (by simp) (by simp) (by simp)]
                        simp only [Bool.not_false, Bool.true_and]
                        rw [if_neg (by omega), if_neg (by omega), if_neg (by omega), if_neg (by omega), if_neg (by omega)]
                        simp only [if_true]
                        rw [honc, Bool.and_true, List.all_eq_true]
                        intro q hq
                        rw [(g1 q hq).1, (g1 q hq).2]
                        rfl
                      · cases h
                · split at h
                  · cases h
                  · rename_i hq
                    cases h
                    have := nm_rng hq
                    unfold gd
                    rw [spB_f (by simp) (by simp) (by simp) (by simp)]
                    simpa using this
theorem enc_le4 {c : Nat} (h : ¬ bdc c) : (enc c).length ≤ 4 := by
  rw [enc_sgn h]
  unfold sgn
  split
  · simp
  · split
    · simp
    · split <;> simp
theorem ltr_ok {l r : List UInt8} {c : Nat} (hl : ltr l = some (c, r)) : ¬ bdc c := by
  have hl0 := hl
  unfold ltr at hl
  split at hl
  · exact esc_ok hl
  · cases hf : frs l with
    | mk c2 s2 =>
      by_cases hs : s2 = 0
      · subst hs
        rw [(ltr_no hf).2] at hl0; cases hl0
      · obtain ⟨g1, g2, g3, g4, g5, g6⟩ := frs_ok hf hs
        cases l with
        | nil => exact absurd rfl g5
        | cons x m =>
          unfold pln at hl
          rw [dec_go, g4] at hl
          split at hl
          · cases hl
          · cases hl; exact g3
theorem ql_l4 : ∀ (n : Nat) {out l s r : List UInt8}, ql n out l = some (s, r) → s.length ≤ out.length + 4 * l.length
  | n, out, l, s, r, h => by
    cases hh : hp [34] l with
    | true => rw [ql_end hh] at h; cases h; omega
    | false =>
      cases hl : ltr l with
      | none => rw [ql_non hh hl] at h; cases h
      | some x =>
        obtain ⟨c, q⟩ := x
        cases n with
        | zero => rw [ql, if_neg (by simp [hh]), hl] at h; cases h
        | succ n =>
          rw [ql_go hh hl] at h
          have h1 := ql_l4 n h
          have h2 := ltr_lt hl
          have h3 := enc_le4 (ltr_ok hl)
          rw [List.length_append] at h1
          omega
theorem qt_l4 {l s r : List UInt8} (h : qt l = some (s, r)) : s.length ≤ 4 * l.length := by
  unfold qt at h
  split at h
  · have h1 := ql_l4 _ h
    have h2 := tk_le [34] l
    simp only [List.length_nil] at h1
    omega
  · cases h
theorem sbd_leaf {h : Nat} {k i : Int} {s : List UInt8} (hs : s.length ≤ 100000) : sbd h (.mk k i s [] []) := by
  cases h with
  | zero => exact True.intro
  | succ h => exact ⟨by omega, by simp, by simp⟩
theorem pv_sbd : ∀ (n : Nat) (l : List UInt8) (x : T) (r : List UInt8), pv n l = some (x, r) → l.length ≤ 4096 → ∀ h, sbd h x
  | n, l, x, r, h, hN, hh => by
    have a := sk_le l
    unfold pv at h
    generalize sk l = m at *
    cases m with
    | nil => cases h
    | cons b m =>
      simp only at h
      split at h
      · split at h
        · cases h; exact sbd_leaf (by simp)
        · cases h
      · split at h
        · split at h
          · cases h; exact sbd_leaf (by simp)
          · cases h
        · split at h
          · split at h
            · cases h; exact sbd_leaf (by simp)
            · cases h
          · split at h
            · split at h
              · cases h
              · rename_i hq
                cases h
                have := qt_l4 hq
                exact sbd_leaf (by omega)
            · split at h
              · cases n with
                | zero => cases h
                | succ n =>
                  simp only at h
                  split at h
                  · cases h
                  · rename_i hq
                    cases h
                    obtain ⟨g1, g2⟩ := rw_all (N := 4096) (Pp := fun x => ∀ h, sbd h x) (fun l x r h hl => ⟨pv_sbd n l x r h hl, pv_le n l x r h⟩) hq (by omega)
                    cases hh with
                    | zero => exact True.intro
                    | succ hh => exact ⟨by simp, fun t ht => g1 t ht hh, by simp⟩
              · split at h
                · cases n with
                  | zero => cases h
                  | succ n =>
                    simp only at h
                    split at h
                    · cases h
                    · rename_i hq
                      split at h
                      · cases h
                        obtain ⟨g1, g2⟩ := rw_all (N := 4096) (Pp := fun q : List UInt8 × T => q.1.length ≤ 100000 ∧ ∀ h, sbd h q.2) (fun l x r h hl => by
                          refine ⟨?_, pr_le (pv_le n) h⟩
                          unfold pr at h
                          have b1 := sk_le l
                          split at h
                          · cases h
                          · rename_i s q hq
                            have b2 := qt_le hq
                            have b3 := sk_le q
                            have b4 := tk_le [58] (sk q)
                            have b5 := qt_l4 hq
                            split at h
                            · split at h
                              · cases h
                              · rename_i v t hv
                                cases h
                                exact ⟨by show s.length ≤ 100000; omega, pv_sbd n _ _ _ hv (by omega)⟩
                            · cases h) hq (by omega)
                        cases hh with
                        | zero => exact True.intro
                        | succ hh => exact ⟨by simp, by simp, fun q hq => ⟨by have := (g1 q hq).1; omega, (g1 q hq).2 hh⟩⟩
                      · cases h
                · split at h
                  · cases h
                  · cases h; exact sbd_leaf (by simp)
end Go.Proofs.YtbemaloaobeblaaGreatDoor

namespace Go.Proofs.YtbemaloaobeblaaGreatDoor
open Go.RowKit Go.Shelf

theorem gd_head {m : Nat} {k i : Int} {s : List UInt8} {l : List T} {p : List (List UInt8 × T)} (h : gd m (.mk k i s l p) = true) : (k = 0 ∨ k = 1 ∨ k = 2 ∨ k = 3 ∨ k = 4 ∨ k = 5) ∧ (k = 2 → -9007199254740991 ≤ i ∧ i ≤ 9007199254740991) := by
  unfold gd at h
  rw [Bool.and_eq_true] at h
  have h2 := h.2
  refine ⟨?_, fun hk => ?_⟩
  · by_cases h0 : k = 0
    · exact .inl h0
    by_cases h1 : k = 1
    · exact .inr (.inl h1)
    by_cases h3 : k = 2
    · exact .inr (.inr (.inl h3))
    by_cases h4 : k = 3
    · exact .inr (.inr (.inr (.inl h4)))
    by_cases h5 : k = 4
    · exact .inr (.inr (.inr (.inr (.inl h5))))
    by_cases h6 : k = 5
    · exact .inr (.inr (.inr (.inr (.inr h6))))
    simp [h0, h1, h3, h4, h5, h6] at h2
  · subst hk
    simp [inR] at h2
    exact h2
def Vw (n : Nat) : Prop := ∀ {F : Nat → Prop} {w : World} {q m : Nat} {ov : Value} {z : List UInt8} {t : T} {c : List Value}, hgt n t → gd m t = true → VA F w t c → Fr F w q ov → Wt w q ov z → Ev w → 8 ≤ q →
  Calls Tryz.prog 37 #[.pointer (some ⟨q, 0, none⟩), .agg c.toArray] w (AnK q ov (z ++ cz n t) w)
theorem Ev.wk {w w' : World} {q : Nat} {ov ov' : Value} {z : List UInt8} (h : Ev w) (hW : Wt w q ov z) (hk : Wk q ov ov' w w') (h8 : 8 ≤ q) : Ev w' := h.same fun k hk8 => by
  have hq := (Array.getElem?_eq_some_iff.1 hW.box).1
  obtain ⟨out, ho, _⟩ := hW.own
  exact hk.block k (by omega) (by omega) fun e => by have := ho.block k e; omega
theorem vw_s {n : Nat} (ih : Vw n) : Vw (n + 1) := by
  intro F w q m ov z t c hh hg hv hF hW hT h8
  have hq := (Array.getElem?_eq_some_iff.1 hW.box).1
  cases hv with
  | @mk k ki s l p sl sp cl cp r1 r2 e1 e2 hl hp1 hp2 =>
    obtain ⟨b1, b2, hh1, hh2⟩ := hh
    obtain ⟨g1, g2, _, _⟩ := gd_list hg
    obtain ⟨hk, hr⟩ := gd_head hg
    show Calls Tryz.prog 37 #[.pointer (some ⟨q, 0, none⟩), .agg #[.int .i64 k, .int .i64 ki, .string (st s), sl, sp]] w _
    have hsame : ∀ {k1 k2 : List UInt8}, k1 = k2 → ∀ e w', AnK q ov (z ++ k1) w e w' → AnK q ov (z ++ k2) w e w' := fun e _ _ h => e ▸ h
    rcases hk with rfl | rfl | rfl | rfl | rfl | rfl
    · exact (val_0 hW).mono (hsame (by simp [cz]))
    · exact (val_1 hW).mono (hsame (by simp [cz]))
    · exact (val_2 (by have := hr rfl; omega) hT (by omega) hW).mono (hsame (by simp [cz]))
    · exact (val_3 hW).mono (hsame (by simp [cz]))
    · refine (val_4 (X := 91 :: (cj (l.map (cz n)) ++ [93])) (fun w1 hb hW1 => ?_) hW).mono (hsame (by simp [cz]))
      have k1 : Wk q ov ov w w1 := Wk.ofB hb
      refine rowV_d (r1.wk hF k1) e1 (fun c hc => ?_) (by omega) (hF.wk k1) hW1 (fun j t c h1 h2 w' ov' z' hk hW' => ?_)
      · obtain ⟨j, hj, rfl⟩ := List.mem_iff_getElem.1 hc
        exact (hl j _ _ (List.getElem?_eq_getElem (by omega)) (List.getElem?_eq_getElem hj)).one
      · have ht := List.mem_of_getElem? h1
        obtain ⟨m', hm'⟩ : ∃ m', gd m' t = true := by
          rcases g1 with e | ⟨m', _, g⟩
          · rw [e] at ht; simp at ht
          · exact ⟨m', g t ht⟩
        exact ih (hh1 t ht) hm' (((hl j t c h1 h2).wk hF k1).wk (hF.wk k1) hk) ((hF.wk k1).wk hk) hW' ((hT.below hb (by omega)).wk hW1 hk h8) h8
    · refine (val_5 (X := 123 :: (cj (p.map fun q => qu q.1 ++ 58 :: cz n q.2) ++ [125])) (fun w1 hb hW1 => ?_) hW).mono (hsame (by simp [cz]))
      have k1 : Wk q ov ov w w1 := Wk.ofB hb
      have hcell : ∀ (j : Nat) (u : List UInt8 × T) (c : List Value), p[j]? = some u → cp[j]? = some c → ∃ r, c = Value.string (st u.1) :: r ∧ r.length = 5 ∧ VA F w u.2 r := fun j u c h1 h2 => by
        have h6 := r2.1 c (List.mem_of_getElem? h2)
        have h7 := hp1 j u c h1 h2
        have h8 := hp2 j u c h1 h2
        cases c with
        | nil => simp at h6
        | cons x r => simp at h7; subst h7; exact ⟨r, rfl, by simpa using h6, h8⟩
      refine rowP_d (f := fun q => qu q.1 ++ 58 :: cz n q.2) (r2.wk hF k1) e2 (fun c hc => ?_) (by omega) (hF.wk k1) hW1 (fun j u c h1 h2 w' ov' z' hk hW' => ?_)
      · obtain ⟨j, hj, rfl⟩ := List.mem_iff_getElem.1 hc
        obtain ⟨r, hr1, _, hr3⟩ := hcell j _ _ (List.getElem?_eq_getElem (by omega)) (List.getElem?_eq_getElem hj)
        rw [hr1]
        show (true && r.all (·.oneCell')) = true
        rw [hr3.one]; rfl
      · obtain ⟨r, rfl, hr2, hr3⟩ := hcell j u c h1 h2
        have ht := List.mem_of_getElem? h1
        obtain ⟨m', hm'⟩ : ∃ m', gd m' u.2 = true := by
          rcases g2 with e | ⟨m', _, g⟩
          · rw [e] at ht; simp at ht
          · exact ⟨m', g u ht⟩
        refine pair_w hr2 hW' fun w2 ov2 z2 hk2 hW2 => ?_
        have hT' := (hT.below hb (by omega)).wk hW1 hk h8
        exact ih (hh2 u ht) hm' (((hr3.wk hF k1).wk (hF.wk k1) hk).wk ((hF.wk k1).wk hk) hk2) (((hF.wk k1).wk hk).wk hk2) hW2 (hT'.wk hW' hk2 h8) h8
theorem vw : ∀ n, Vw n
  | 0 => fun hh => hh.elim
  | n + 1 => vw_s (vw n)
theorem ss_mem {α : Type} {lt : α → α → Bool} {l : List α} {x : α} : x ∈ ss lt l ↔ x ∈ l := (ss_perm l).mem_iff
theorem so_hgt : ∀ (d : Nat) {h : Nat} {t : T}, hgt h t → hgt h (so d t)
  | 0, _, _, hh => hh
  | _ + 1, 0, _, hh => hh.elim
  | d + 1, h + 1, .mk k i s l p, hh => by
    obtain ⟨b1, b2, h1, h2⟩ := hh
    refine ⟨by rw [List.length_map]; exact b1, by rw [ss_len, List.length_map]; exact b2, fun t ht => ?_, fun q hq => ?_⟩
    · obtain ⟨u, hu, rfl⟩ := List.mem_map.1 ht
      exact so_hgt d (h1 u hu)
    · obtain ⟨u, hu, rfl⟩ := List.mem_map.1 (ss_mem.1 hq)
      exact so_hgt d (h2 u hu)
theorem so_gd : ∀ (d : Nat) {n : Nat} {t : T}, gd n t = true → gd n (so d t) = true
  | 0, _, _, hg => hg
  | d + 1, n, .mk k i s l p, hg => by
    show gd n (.mk k i s (l.map (so d)) (ss ltT (p.map fun q => (q.1, so d q.2)))) = true
    unfold gd at hg ⊢
    rw [List.length_map, ss_len, List.length_map]
    rw [Bool.and_eq_true] at hg ⊢
    refine ⟨hg.1, ?_⟩
    have h2 := hg.2
    by_cases h0 : k = 0
    · simp [h0]
    by_cases h1 : k = 1
    · simpa [h1] using h2
    by_cases h3 : k = 2
    · simpa [h3] using h2
    by_cases h4 : k = 3
    · simpa [h4] using h2
    by_cases h5 : k = 4
    · subst h5
      cases n with
      | zero => simp at h2
      | succ n =>
        simp only [Int.reduceEq, if_false, if_true] at h2 ⊢
        rw [List.all_eq_true] at h2 ⊢
        intro x hx
        obtain ⟨u, hu, rfl⟩ := List.mem_map.1 hx
        exact so_gd d (h2 u hu)
    by_cases h6 : k = 5
    · subst h6
      cases n with
      | zero => simp at h2
      | succ n =>
        simp only [Int.reduceEq, if_false, if_true] at h2 ⊢
        rw [Bool.and_eq_true] at h2 ⊢
        refine ⟨?_, ?_⟩
        · rw [List.all_eq_true]
          intro x hx
          obtain ⟨u, hu, rfl⟩ := List.mem_map.1 (ss_mem.1 hx)
          have := List.all_eq_true.1 h2.1 u hu
          rw [Bool.and_eq_true] at this ⊢
          exact ⟨this.1, so_gd d this.2⟩
        · have h3 := h2.2
          unfold onc at h3 ⊢
          rw [decide_eq_true_eq] at h3 ⊢
          have hp : ((ss ltT (p.map fun q => (q.1, so d q.2))).map (·.1)).Perm (p.map (·.1)) := by
            refine ((ss_perm _).map _).trans ?_
            rw [List.map_map]
            exact List.Perm.refl _
          exact hp.nodup_iff.2 h3
    · simp [h0, h1, h3, h4, h5, h6] at h2
theorem gd_hgt : ∀ {n h : Nat} {t : T}, hgt h t → gd n t = true → hgt (n + 1) t
  | _, 0, _, hh, _ => hh.elim
  | n, h + 1, .mk k i s l p, hh, hg => by
    obtain ⟨b1, b2, h1, h2⟩ := hh
    obtain ⟨g1, g2, _⟩ := gd_list hg
    refine ⟨b1, b2, fun t ht => ?_, fun q hq => ?_⟩
    · rcases g1 with e | ⟨m, e, g⟩
      · rw [e] at ht; simp at ht
      · subst e; exact gd_hgt (h1 t ht) (g t ht)
    · rcases g2 with e | ⟨m, e, g⟩
      · rw [e] at hq; simp at hq
      · subst e; exact gd_hgt (h2 q hq) (g q hq)
def ct (t : T) : List UInt8 := cz 9 (so 8 t)
def bx2 (w : World) (c : Array Value) : World := (w.alloc (.cells c 28)).alloc (.cells #[.int .i64 0, .int .i64 0, .string ⟨#[]⟩, .slice none 0 0, .slice none 0 0] 28)
theorem bx2_bl (w : World) (c : Array Value) : Below w.heap.size w (bx2 w c) := blw_al ((Below.refl _ _).alloc (Nat.le_refl _) _) (by simp) _
theorem bx2_at (w : World) (c : Array Value) : (bx2 w c).heap[w.heap.size + 1]? = some (.cells #[.int .i64 0, .int .i64 0, .string ⟨#[]⟩, .slice none 0 0, .slice none 0 0] 28 (0, 0)) := by
  show ((w.heap.push _).push _)[w.heap.size + 1]? = _
  rw [Array.getElem?_push, if_pos (by simp)]
theorem srt_d {h : Nat} {F : Nat → Prop} {w : World} {t : T} {c : List Value} (hh : hgt h t) (hg : gd 8 t = true) (hv : VA F w t c) : Calls Tryz.prog 24 #[.agg c.toArray] w (AnC w (so 8 t)) := by
  have hb := bx2_bl w c.toArray
  have hr := bx2_at w c.toArray
  have hc := sorted_d 8 (Nat.le_refl _) hh hg (hv.frame (w' := bx2 w c.toArray) (G := fun _ => True) (fun k _ hk => hb.block k hk) (fun _ _ _ => trivial))
  obtain ⟨x0, x1, x2, x3, x4, rfl⟩ := five_l hv.len
  replace hc : Calls Tryz.prog 41 #[.agg #[x0, x1, x2, x3, x4], .int .i64 8] (bx2 w #[x0, x1, x2, x3, x4]) _ := hc
  clear hv
  show Calls Tryz.prog 24 #[.agg #[x0, x1, x2, x3, x4]] w _
  obtain ⟨wb, hwb⟩ : ∃ wb, wb = bx2 w #[x0, x1, x2, x3, x4] := ⟨_, rfl⟩
  have hr' : wb.heap[w.heap.size + 1]? = some (.cells #[.int .i64 0, .int .i64 0, .string ⟨#[]⟩, .slice none 0 0, .slice none 0 0] 28 (0, 0)) := by rw [hwb]; exact hr
  have hb' : Below w.heap.size w wb := by rw [hwb]; exact hb
  have hsz : w.heap.size + 1 < wb.heap.size := (Array.getElem?_eq_some_iff.1 hr').1
  rw [← hwb] at hc
  clear hr hb
  replace hr' := hide1 hr'
  replace hb' := hide1 hb'
  go_enter Tryz.func24, Tryz.ntmps24
  go_wp2_with fail
  rw [show (w.alloc (.cells #[x0, x1, x2, x3, x4] 28)).alloc (.cells #[.int .i64 0, .int .i64 0, .string ⟨#[]⟩, .slice none 0 0, .slice none 0 0] 28) = wb from hwb.symm]
  refine hc.mono ?_
  rintro e w1 ⟨c1, rfl, h5, b1, hv1⟩
  have hr1 := (b1.block _ hsz).trans hr'.out
  have hb1 := hb'.out.trans (b1.mono hb'.out.size)
  have h1c := hv1.one
  obtain ⟨y0, y1, y2, y3, y4, hce⟩ := five_l (l := c1.toList) (by simpa using h5)
  obtain rfl : c1 = #[y0, y1, y2, y3, y4] := by cases c1; simp at hce; simp [hce]
  have hz := setRow_heap w1 (w.heap.size + 1) _ #[y0, y1, y2, y3, y4] _ _ hr1
  have ha : Hid (AnC w (so 8 t) (.returned (.agg #[y0, y1, y2, y3, y4])) (w1.setRow (w.heap.size + 1) #[y0, y1, y2, y3, y4])) := hide1 ⟨_, rfl, rfl, blw_own hb1 (by omega) _, VA.frame (c := [y0, y1, y2, y3, y4]) hv1 (fun k hk _ => setRow_other w1 _ k _ (by have h1 : wb.heap.size ≤ k := hk; omega)) (fun k hk _ => by have h1 : wb.heap.size ≤ k := hk; have := hb'.out.size; show w.heap.size ≤ k; omega)⟩
  replace hz := hide1 hz
  clear hwb hc hv1 hb1 hr' hb' b1 hce h5
  go_wp2_with (refine wpList_store_row rfl Vt (.tmp 2) (.tmp 4) rfl (w.heap.size + 1) #[y0, y1, y2, y3, y4] rfl rfl Vt _ hr1 (by kernel_rfl) rfl (by simpa using h1c) ?_)
  refine bodyPost_ret (results_v1 rfl _ rfl rfl hz.out) rfl ?_
  exact ha.out
def AnT (w : World) (t : T) (e : Ending) (w' : World) : Prop := ∃ v ev, e = .returned (.tuple #[v, ev]) ∧ Below w.heap.size w w' ∧
  ((gd 8 t = false ∧ v = .slice none 0 0 ∧ ev = .iface 52 (.int .i64 1)) ∨ (gd 8 t = true ∧ 4096 < (ct t).length ∧ v = .slice none 0 0 ∧ ev = .iface 52 (.int .i64 10)) ∨
    (gd 8 t = true ∧ (ct t).length ≤ 4096 ∧ ev = .nilIface ∧ Ow w' w.heap.size v (ct t)))
set_option maxHeartbeats 4000000 in
set_option maxRecDepth 100000 in
theorem put_c {h : Nat} {F : Nat → Prop} {w : World} {t : T} {c : List Value} (hh : hgt h t) (hs : sbd h t) (hv : VA F w t c) (hT : Ev w) (h8 : 8 ≤ w.heap.size) : Calls Tryz.prog 20 #[.agg c.toArray] w (AnT w t) := by
  obtain ⟨x0, x1, x2, x3, x4, rfl⟩ := five_l hv.len
  obtain ⟨wb, hwb⟩ : ∃ wb, wb = w.alloc (.cells #[x0, x1, x2, x3, x4] 28) := ⟨_, rfl⟩
  have hB : Below w.heap.size w wb := by rw [hwb]; exact (Below.refl _ _).alloc (Nat.le_refl _) _
  have hn : wb.heap[w.heap.size]? = some (.cells #[x0, x1, x2, x3, x4] 28 (0, 0)) := by
    rw [hwb]
    show (w.heap.push _)[w.heap.size]? = _
    rw [Array.getElem?_push, if_pos rfl]
  have hvb : VA F wb t [x0, x1, x2, x3, x4] := hv.frame (fun k _ hk => hB.block k hk) (fun _ h _ => h)
  have hTb := hT.below hB (by omega)
  have hsb := hB.size
  have hck := check_d hh hs hvb hTb (by omega)
  replace hck : Calls Tryz.prog 17 #[.agg #[x0, x1, x2, x3, x4]] wb _ := hck
  have hl5 : wb.rangeAt w.heap.size 0 [x0, x1, x2, x3, x4] := fun j u hj => by
    simp only [World.cell?, hn]
    rw [Nat.zero_add]
    simpa using hj
  have hql : w.heap.size < wb.heap.size := (Array.getElem?_eq_some_iff.1 hn).1
  replace hB := hide1 hB
  replace hn := hide1 hn
  replace hvb := hide1 hvb
  replace hTb := hide1 hTb
  clear hv hT
  show Calls Tryz.prog 20 #[.agg #[x0, x1, x2, x3, x4]] w _
  go_enter Tryz.func20, Tryz.ntmps20
  go_upto_region 1 with fail
  rw [← hwb]
  clear hwb
  go_wp2_with (first | refine wpList_load_mid rfl 28 (.tmp 1) rfl w.heap.size 0 rfl [x0, x1, x2, x3, x4] _ hl5 Tryz.underlying28 rfl (by kernel_rfl) ?_ | fail)
  refine hck.mono ?_
  rintro e w1 ⟨rfl, b1⟩
  have hB1 := hide1 (hB.out.trans (b1.mono hB.out.size))
  cases hg : gd 8 t with
  | false =>
    clear hck hl5
    go_wp2
    go_ret2
    exact ⟨_, _, rfl, hB1.out, .inl ⟨hg, rfl, rfl⟩⟩
  | true =>
    have hv1 := hide1 (hvb.out.frame (w' := w1) (G := fun k => F k ∧ k < wb.heap.size) (fun k _ hk => b1.block k hk) (fun _ h hk => ⟨h, hk⟩))
    have hT1 := hide1 (hTb.out.below b1 (by omega))
    have hn1 := hide1 ((b1.block _ hql).trans hn.out)
    have hs1 := b1.size
    clear hck hl5 hvb hTb hn b1
    obtain ⟨w2, hw2⟩ : ∃ w2, w2 = w1.alloc (.cells #[.slice none 0 0, .bool false] 66) := ⟨_, rfl⟩
    have b2 : Below w1.heap.size w1 w2 := by rw [hw2]; exact (Below.refl _ _).alloc (Nat.le_refl _) _
    have hq2 : w2.heap[w1.heap.size]? = some (.cells #[.slice none 0 0, .bool false] 66 (0, 0)) := by
      rw [hw2]
      show (w1.heap.push _)[w1.heap.size]? = _
      rw [Array.getElem?_push, if_pos rfl]
    have hW2 : Wt w2 w1.heap.size (.slice none 0 0) [] := ⟨hq2, [], ⟨rfl, .inl ⟨rfl, rfl⟩⟩, by simp, .inr rfl⟩
    have hs2 := b2.size
    have hn2 := (b2.block _ (by omega)).trans hn1.out
    have hl5 : w2.rangeAt w.heap.size 0 [x0, x1, x2, x3, x4] := fun j u hj => by
      simp only [World.cell?, hn2]
      rw [Nat.zero_add]
      simpa using hj
    have hsd := srt_d hh hg (hv1.out.frame (w' := w2) (G := fun _ => True) (fun k _ hk => b2.block k hk) (fun _ _ _ => trivial))
    replace hsd : Calls Tryz.prog 24 #[.agg #[x0, x1, x2, x3, x4]] w2 _ := hsd
    have hT2 := hide1 (hT1.out.below b2 (by omega))
    have hB2 := hide1 (hB1.out.trans (b2.mono hB1.out.size))
    replace hW2 := hide1 hW2
    have hql2 : w1.heap.size < w2.heap.size := (Array.getElem?_eq_some_iff.1 hq2).1
    clear hB1 hT1 hv1 hn1 hn2 b2 hq2
    go_upto_region 4 with fail
    rw [← hw2]
    clear hw2
    go_wp2_with (first | refine wpList_load_mid rfl 28 (.tmp 1) rfl w.heap.size 0 rfl [x0, x1, x2, x3, x4] _ hl5 Tryz.underlying28 rfl (by kernel_rfl) ?_ | fail)
    refine hsd.mono ?_
    rintro e w3 ⟨c3, rfl, h5, b3, hv3⟩
    have hW3 := hW2.out.below b3
    have hT3 := hT2.out.below b3 (by omega)
    have hB3 := hide1 (hB2.out.trans (b3.mono hB2.out.size))
    have hF3 : Fr (w2.heap.size ≤ ·) w3 w1.heap.size (.slice none 0 0) := fun k hk _ => ⟨by have h1 : w2.heap.size ≤ k := hk; omega, fun e => by cases e⟩
    have hvw := vw 9 (so_hgt 8 (gd_hgt hh hg)) (so_gd 8 hg) hv3 hF3 hW3 hT3 (by omega)
    have hs3 := b3.size
    clear hsd hW3 hT3 hF3 hv3 hl5 b3 hT2 hW2 hB2
    go_wp2_with fail
    refine hvw.mono ?_
    rintro e w4 ⟨rfl, ov, hW4, k4⟩
    have hB4 : Hid (Below w.heap.size w w4) := hide1 ⟨k4.os.trans hB3.out.os, k4.tape.trans hB3.out.tape, k4.output.trans hB3.out.output, Nat.le_trans hB3.out.size k4.size, fun k hk => (k4.block k (by have := hB3.out.size; omega) (by omega) (fun e => by cases e)).trans (hB3.out.block k hk)⟩
    have hW5 : Wt w4 w1.heap.size ov (ct t) := hW4
    obtain ⟨hbx, out, ho, hol, hoz⟩ := hW5
    have c1 : w4.cell? ⟨w1.heap.size, 1, none⟩ = some (.bool (decide (4096 < (ct t).length))) := by simp only [World.cell?, hbx]; rfl
    have c0 : w4.cell? ⟨w1.heap.size, 0, none⟩ = some ov := by simp only [World.cell?, hbx]; rfl
    clear hvw hW4 k4 hB3 hbx
    by_cases hov : 4096 < (ct t).length
    · rw [decide_eq_true hov] at c1
      have hf : Hid (AnT w t (.returned (.tuple #[.slice none 0 0, .iface 52 (.int .i64 10)])) w4) := hide1 ⟨_, _, rfl, hB4.out, .inr (.inl ⟨hg, hov, rfl, rfl⟩)⟩
      clear ho hoz hov
      go_wp2
      go_ret2
      exact hf.out
    · rw [decide_eq_false hov] at c1
      obtain rfl : out = ct t := hoz.resolve_left hov
      obtain ⟨oa, oc, rfl⟩ := ho.slc
      have ho2 : Ow w4 w.heap.size (.slice oa (ct t).length oc) (ct t) := by
        obtain ⟨g1, g2 | ⟨g', cap, cur, e1, e2, e3⟩⟩ := ho
        · exact ⟨g1, .inl g2⟩
        · exact ⟨g1, .inr ⟨g', cap, cur, e1, by omega, e3⟩⟩
      have hf : Hid (AnT w t (.returned (.tuple #[.slice oa (ct t).length oc, .nilIface])) w4) := hide1 ⟨_, _, rfl, hB4.out, .inr (.inr ⟨hg, hol, rfl, ho2⟩)⟩
      clear ho hoz hov ho2
      generalize (ct t).length = N at *
      go_wp2
      go_ret2
      exact hf.out
end Go.Proofs.YtbemaloaobeblaaGreatDoor

namespace Go.Proofs.YtbemaloaobeblaaGreatDoor
open Go.RowKit

section
variable {sl : Value} {B : List UInt8} {g p : Nat} {w w' : World}
end
section
variable {sl : Value} {B : List UInt8} {g p q q' n : Nat} {bad bad' : Bool} {w w' w0 W W' wr : World} {v v0 v' : Value} {cs : List (List Value)} {xs : List T} {o : Option (T × List UInt8)} {c : Array Value} {d : Int}
end
section
variable {sl : Value} {B : List UInt8} {g p q q' n : Nat} {bad bad' : Bool} {w w' w0 W W' wr : World} {v v0 v' : Value} {cs : List (List Value)} {xs : List (List UInt8 × T)} {c ce : Array Value} {nm : List UInt8}
section
variable {ops : Array Oper} {rest : List Oper} {oo : Oper} {a : Act} {Q : Exit → Act → World → Prop}
end
end
section
variable {sl : Value} {B : List UInt8} {g p q q' n s6 : Nat} {bad bad' : Bool} {w w' w0 W W' : World} {o : Option (T × List UInt8)} {c c' : Array Value}
end
end Go.Proofs.YtbemaloaobeblaaGreatDoor

namespace Go.Proofs.YtbemaloaobeblaaGreatDoor
open Go.RowKit Go.Shelf

end Go.Proofs.YtbemaloaobeblaaGreatDoor

namespace Go.Proofs.YtbemaloaobeblaaGreatDoor
open Go.RowKit Go.Maps

end Go.Proofs.YtbemaloaobeblaaGreatDoor

namespace Go.Proofs.YtbemaloaobeblaaGreatDoor
open Go.RowKit Go.Shelf

set_option maxRecDepth 100000 in
theorem num_10 (w : World) : Calls Tryz.prog 14 #[.iface 52 (.int .i64 10)] w fun e w' => e = .returned (.int .i64 10) ∧ w' = w := by
  have has : ∀ w, (Instr.typeAssert (.iface 52 (.int .i64 10)) 30 52 true).run Tryz.prog w = .ok (.tuple #[.int .i64 10, .bool true]) w := fun w => by kernel_rfl
  go_enter Tryz.func14, Tryz.ntmps14
  go_wp2
  go_ret
  exact ⟨rfl, rfl⟩
def bxw (w : World) (c : Array Value) : World := (w.alloc (.cells #[.int .i64 0, .int .i64 0, .string ⟨#[]⟩, .slice none 0 0, .slice none 0 0] 28)).setRow w.heap.size c
theorem bxw_z (w : World) : (w.alloc (.cells #[.int .i64 0, .int .i64 0, .string ⟨#[]⟩, .slice none 0 0, .slice none 0 0] 28)).heap[w.heap.size]? = some (.cells #[.int .i64 0, .int .i64 0, .string ⟨#[]⟩, .slice none 0 0, .slice none 0 0] 28 (0, 0)) := by
  show (w.heap.push _)[w.heap.size]? = _
  rw [Array.getElem?_push, if_pos rfl]
theorem bxw_at (w : World) (c : Array Value) : (bxw w c).heap[w.heap.size]? = some (.cells c 28 (0, 0)) := setRow_heap _ w.heap.size _ c _ _ (bxw_z w)
theorem bxw_bl (w : World) (c : Array Value) : Below w.heap.size w (bxw w c) := ⟨rfl, rfl, rfl, by simp [bxw, World.setRow], fun k hk => (setRow_other _ _ k _ (by omega)).trans (by
  show (w.heap.push _)[k]? = _
  rw [Array.getElem?_push, if_neg (by omega)])⟩
theorem bxw_sz (w : World) (c : Array Value) : (bxw w c).heap.size = w.heap.size + 1 := by simp [bxw, World.setRow]
theorem arr5q {c : Array Value} (h : c.size = 5) : ∃ a b d e f, c = #[a, b, d, e, f] := by
  obtain ⟨x0, x1, x2, x3, x4, hce⟩ := five_l (l := c.toList) (by simpa using h)
  exact ⟨x0, x1, x2, x3, x4, by cases c; simp at hce; simp [hce]⟩
def isC (l : List UInt8) : Bool := match prsV l with
  | none => false
  | some t => decide ((ct t).length ≤ 4096) && decide (ct t = l)
theorem prs_ok {l : List UInt8} {t : T} (h : prsV l = some t) : l.length ≤ 4096 ∧ hgt 9 t ∧ gd 8 t = true ∧ sbd 9 t := by
  have hl : l.length ≤ 4096 := by
    unfold prsV at h
    split at h
    · cases h
    · omega
  obtain ⟨r, hp⟩ : ∃ r, pv 8 l = some (t, r) := by
    unfold prsV at h
    rw [if_neg (by omega)] at h
    cases hpv : pv 8 l with
    | none => rw [hpv] at h; cases h
    | some x =>
      rw [hpv] at h
      obtain ⟨t', r⟩ := x
      simp only at h
      split at h
      · cases h; exact ⟨r, rfl⟩
      · cases h
  exact ⟨hl, pv_hgt 8 l t r hp hl, pv_gd 8 l t r hp hl, pv_sbd 8 l t r hp hl 9⟩
theorem st_beq (a b : List UInt8) : ((st a).toList == (st b).toList) = decide (a = b) := by
  have h := st_eq a b
  simp [← h]
set_option maxHeartbeats 4000000 in
set_option maxRecDepth 100000 in
theorem is_d {w : World} {v : Value} {l : List UInt8} (hb : BsA w v l) (hT : Ev w) (h8 : 8 ≤ w.heap.size) : Calls Tryz.prog 26 #[v] w fun e w' => e = .returned (.bool (isC l)) ∧ Below w.heap.size w w' := by
  have hp := parse_d hb hT h8
  obtain ⟨va, vc, rfl, hbb⟩ := hb
  have hb : BsA w (.slice va l.length vc) l := ⟨va, vc, rfl, hbb⟩
  clear hbb
  replace hT := hide1 hT
  replace hb := hide1 hb
  generalize hN : l.length = N at *
  replace hN := hide1 hN
  go_enter Tryz.func26, Tryz.ntmps26
  go_wp2_with fail
  refine hp.mono ?_
  rintro e w1 ⟨c, ev, rfl, h5, hco, b1, hc⟩
  obtain ⟨c0, c1, c2, c3, c4, rfl⟩ := arr5q h5
  go_upto_region 2 with (refine wpList_store_row rfl 28 (.tmp 3) (.tmp 9) rfl w1.heap.size #[c0, c1, c2, c3, c4] rfl rfl 28 _ (bxw_z w1) (by kernel_rfl) rfl hco ?_)
  have haA := bxw_at w1 #[c0, c1, c2, c3, c4]
  have hlA := bxw_bl w1 #[c0, c1, c2, c3, c4]
  have hsA := bxw_sz w1 #[c0, c1, c2, c3, c4]
  generalize hwe : bxw w1 #[c0, c1, c2, c3, c4] = wA at *
  rw [show (w1.alloc (.cells #[.int .i64 0, .int .i64 0, .string ⟨#[]⟩, .slice none 0 0, .slice none 0 0] 28)).setRow w1.heap.size #[c0, c1, c2, c3, c4] = wA from hwe]
  clear hwe
  have BA := hide1 (b1.trans (hlA.mono b1.size))
  rcases hc with ⟨t, ht, rfl, hv⟩ | ⟨ht, rfl, hz⟩
  · obtain ⟨hl4, hh, hg, hs⟩ := prs_ok ht
    have hvA := hv.frame (w' := wA) (G := fun k => w.heap.size ≤ k ∧ k < w1.heap.size) (fun j h hj => hlA.block j hj) (fun _ h hk => ⟨h, hk⟩)
    have hbA := hide1 (hb.out.below BA.out)
    have hpu := put_c hh hs hvA (hT.out.below BA.out (by omega)) (by have := BA.out.size; omega)
    replace hpu : Calls Tryz.prog 20 #[.agg #[c0, c1, c2, c3, c4]] wA _ := hpu
    have hl5 : wA.rangeAt w1.heap.size 0 [c0, c1, c2, c3, c4] := fun j u hj => by
      simp only [World.cell?, haA]
      rw [Nat.zero_add]
      simpa using hj
    clear hv hvA hlA haA hb b1
    go_wp2_with (first | refine wpList_load_mid rfl 28 (.tmp 3) rfl w1.heap.size 0 rfl [c0, c1, c2, c3, c4] _ hl5 Tryz.underlying28 rfl (by kernel_rfl) ?_ | fail)
    refine hpu.mono ?_
    rintro e w2 ⟨v2, ev2, rfl, b2, h2⟩
    have B2 := hide1 (BA.out.trans (b2.mono BA.out.size))
    have hb2 := hide1 (hbA.out.below b2)
    have hbv := conv_b hb2.out
    rcases h2 with ⟨hg', _⟩ | ⟨_, h4, rfl, rfl⟩ | ⟨_, h4, rfl, ho⟩
    · rw [hg] at hg'; cases hg'
    · have hi : isC l = false := by unfold isC; rw [ht]; simp; omega
      have hfin := hide1 (show (Ending.returned (.bool false) = .returned (.bool (isC l))) ∧ Below w.heap.size w w2 from ⟨by rw [hi], B2.out⟩)
      clear hpu hl5 hh hg hs hl4 ht h4 hp hi b2 hbA hb2 BA
      go_wp2
      go_ret
      exact hfin.out
    · have hi : isC l = decide (ct t = l) := by unfold isC; rw [ht]; simp; omega
      have hov := conv_b ho.bs
      have hfin := hide1 (show (Ending.returned (.bool ((st (ct t)).toList == (st l).toList)) = .returned (.bool (isC l))) ∧ Below w.heap.size w w2 from ⟨by rw [hi, st_beq], B2.out⟩)
      obtain ⟨oa, oc, rfl⟩ := ho.slc
      clear hpu hl5 hh hg hs hl4 ht hp hi b2 hbA hb2 BA ho
      generalize (ct t).length = M at *
      replace h4 := hide1 h4
      go_wp2
      go_ret
      exact hfin.out
  · have hi : isC l = false := by unfold isC; rw [ht]

    have hE : prsE l = 10 ∨ prsE l = 1 := by unfold prsE; split <;> simp
    have hfin := hide1 (show (Ending.returned (.bool false) = .returned (.bool (isC l))) ∧ Below w.heap.size w wA from ⟨by rw [hi], BA.out⟩)
    clear hp hi BA haA hlA b1 ht hz hsA hco h5
    generalize prsE l = E at *
    rcases hE with rfl | rfl <;> (go_wp2; go_ret; exact hfin.out)
def tx3 : List UInt8 := [123, 32, 34, 98, 34, 32, 58, 32, 49, 44, 32, 34, 97, 34, 32, 58, 32, 34, 92, 117, 48, 48, 52, 49, 34, 32, 125]
def tv3 : T := .mk 5 0 [] [] [([98], .mk 2 1 [] [] []), ([97], .mk 3 0 [65] [] [])]
def cx3 : List UInt8 := [123, 34, 97, 34, 58, 34, 65, 34, 44, 34, 98, 34, 58, 49, 125]
set_option maxRecDepth 100000 in
theorem prs3 : prsV tx3 = some tv3 := rfl
set_option maxRecDepth 100000 in
theorem ct3 : ct tv3 = cx3 := by kernel_rfl
set_option maxRecDepth 100000 in
theorem isc3 : isC cx3 = true := by kernel_rfl
set_option maxRecDepth 100000 in
theorem isc4 : isC [91, 32, 93] = false := by rfl
set_option maxHeartbeats 8000000 in
set_option maxRecDepth 100000 in
theorem alive_c {w : World} (hT : Ev w) (h8 : 8 ≤ w.heap.size) : Calls Tryz.prog 18 #[] w fun e w' => e = .returned (.bool true) ∧ Below w.heap.size w w' := by
  have kc := fun (w : World) (C : Array Value) (n c : Nat) => Lib.run_convert_bytes_const (P := Tryz.prog) w 22 5 C n c Tryz.underlying22 Tryz.underlying5
  replace hT := hide1 hT
  go_enter Tryz.func18, Tryz.ntmps18
  go_wp2_with fail
  have hb1 : Below w.heap.size w (w.alloc (.cells #[.int .u8 123, .int .u8 32, .int .u8 34, .int .u8 98, .int .u8 34, .int .u8 32, .int .u8 58, .int .u8 32, .int .u8 49, .int .u8 44, .int .u8 32, .int .u8 34, .int .u8 97, .int .u8 34, .int .u8 32, .int .u8 58, .int .u8 32, .int .u8 34, .int .u8 92, .int .u8 117, .int .u8 48, .int .u8 48, .int .u8 52, .int .u8 49, .int .u8 34, .int .u8 32, .int .u8 125] 5 (27, 28))) := (Below.refl _ _).alloc (Nat.le_refl _) _
  refine (parse_d (l := tx3) (bsa_new rfl 27 rfl (27, 28)) (hT.out.below hb1 (by omega)) (by simp; omega)).mono ?_
  rintro e w1 ⟨c, ev, rfl, hcs, hco, b1, hx⟩
  have hb2 : Below w.heap.size w w1 := hb1.trans (b1.mono hb1.size)
  rcases hx with ⟨t, ht, rfl, hv⟩ | ⟨ht, _⟩
  case inr => rw [prs3] at ht; cases ht
  obtain ⟨-, hh, hg, hs⟩ := prs_ok ht
  rw [prs3] at ht
  obtain rfl : tv3 = t := Option.some.inj ht
  clear b1 hb1 ht
  obtain ⟨c0, c1, c2, c3, c4, rfl⟩ := arr5q hcs
  go_upto_region 2 with (refine wpList_store_row rfl 28 (.tmp 1) (.tmp 8) rfl w1.heap.size #[c0, c1, c2, c3, c4] rfl rfl 28 _ (bxw_z w1) (by kernel_rfl) rfl hco ?_)
  have haA := bxw_at w1 #[c0, c1, c2, c3, c4]
  have hlA := bxw_bl w1 #[c0, c1, c2, c3, c4]
  generalize hwe : bxw w1 #[c0, c1, c2, c3, c4] = wA at *
  rw [show (w1.alloc (.cells #[.int .i64 0, .int .i64 0, .string ⟨#[]⟩, .slice none 0 0, .slice none 0 0] 28)).setRow w1.heap.size #[c0, c1, c2, c3, c4] = wA from hwe]
  clear hwe
  have BA := hide1 (hb2.trans (hlA.mono hb2.size))
  have hvA := hv.frame (w' := wA) (G := fun _ => True) (fun j h hj => hlA.block j hj) (fun _ h hk => trivial)
  have hTA := hide1 (hT.out.below BA.out (by omega))
  have h8A : 8 ≤ wA.heap.size := by have := BA.out.size; omega
  have hpu := put_c hh hs hvA hTA.out h8A
  replace hpu : Calls Tryz.prog 20 #[.agg #[c0, c1, c2, c3, c4]] wA _ := hpu
  have hl5 : wA.rangeAt w1.heap.size 0 [c0, c1, c2, c3, c4] := fun j u hj => by
    simp only [World.cell?, haA]
    rw [Nat.zero_add]
    simpa using hj
  clear hv hvA hlA haA hb2
  go_wp2_with (first | refine wpList_load_mid rfl 28 (.tmp 1) rfl w1.heap.size 0 rfl [c0, c1, c2, c3, c4] _ hl5 Tryz.underlying28 rfl (by kernel_rfl) ?_ | fail)
  refine hpu.mono ?_
  rintro e w2 ⟨v2, ev2, rfl, b2, h2⟩
  have B2 := hide1 (BA.out.trans (b2.mono BA.out.size))
  have hT2 := hide1 (hTA.out.below b2 h8A)
  rcases h2 with ⟨hg', _⟩ | ⟨_, h4, _⟩ | ⟨_, h4, rfl, ho⟩
  · rw [hg] at hg'; cases hg'
  · rw [ct3] at h4; simp [cx3] at h4
  rw [ct3] at ho
  have hov := conv_b ho.bs
  obtain ⟨oa, oc, rfl⟩ := ho.slc
  have his := is_d ho.bs hT2.out (by have := B2.out.size; omega)
  rw [isc3] at his
  rw [show st cx3 = ⟨#[123, 34, 97, 34, 58, 34, 65, 34, 44, 34, 98, 34, 58, 49, 125]⟩ from rfl] at hov
  clear hpu hl5 b2 BA ho hh hg hs h4
  simp only [show cx3.length = 15 from rfl] at *
  go_wp2_with fail
  refine his.mono ?_
  rintro e w3 ⟨rfl, b3⟩
  have B3 := hide1 (B2.out.trans (b3.mono B2.out.size))
  have hT3 := hide1 (hT2.out.below b3 (by have := B2.out.size; omega))
  clear his b3 B2 hT2
  go_wp2_with fail
  have hb4 : Below w3.heap.size w3 (w3.alloc (.cells #[.int .u8 91, .int .u8 32, .int .u8 93] 5 (3, 4))) := (Below.refl _ _).alloc (Nat.le_refl _) _
  refine (is_d (l := [91, 32, 93]) (bsa_new rfl 3 rfl (3, 4)) (hT3.out.below hb4 (by have := B3.out.size; omega)) (by have := B3.out.size; simp; omega)).mono ?_
  rw [isc4]
  rintro e w4 ⟨rfl, b4⟩
  have B4 := hide1 ((B3.out.trans (hb4.mono B3.out.size)).trans (b4.mono (by have := B3.out.size; simp; omega)))
  go_wp2
  go_ret
  exact ⟨rfl, B4.out⟩
theorem run_apb {w : World} (ot : TypeId) (B : Nat) (v : Value) (l : List UInt8) (hown : Ow w B v l) (u : Value) (m : List UInt8) (hb : BsA w u m) (hn : l.length + m.length ≤ 1000000) (hB : B ≤ w.heap.size) :
    ∃ v' w', (Builtin.append_ #[22, 22] ot #[v, u]).run Tryz.prog w = .ok v' w' ∧ Ow w' B v' (l ++ m) ∧ w.grownBy w' v.ownBlock := by
  obtain ⟨i0, hi, he⟩ := Option.map_eq_some_iff.1 info_u8
  simp only [Prod.mk.injEq] at he
  obtain ⟨hz0, hz1, hz2⟩ := he
  obtain ⟨ad, c, rfl, hm⟩ := hb
  cases ad with
  | none =>
    obtain rfl : m = [] := by
      rcases hm with h | ⟨_, _, e, _⟩
      · exact h
      · cases e
    refine ⟨v, w, ?_, by simpa using hown, ⟨rfl, rfl, rfl, Nat.le_refl _, fun _ _ _ => rfl⟩⟩
    rcases hown.2 with ⟨rfl, _⟩ | ⟨g, cap, cur, rfl, _, _, hnc, _⟩
    · simp [Builtin.append_, run_underlying Tryz.underlying22, sizeOf, typeInfo, hi, Builtin.lenOf, Builtin.firstCells]
    · simp [Builtin.append_, run_underlying Tryz.underlying22, sizeOf, typeInfo, hi, Builtin.lenOf, Builtin.firstCells, hnc, storeCells]
  | some ad =>
    have hnews : ∀ j u, (bv m)[j]? = some u → w.cell? (ad.add j) = some u := by
      intro j u hj
      rcases hm with rfl | ⟨b, off, e, hbl, hc⟩
      · simp [bv] at hj
      · cases e
        cases hmj : m[j]? with
        | none => rw [bv, List.getElem?_map, hmj] at hj; cases hj
        | some y =>
          rw [bv, List.getElem?_map, hmj] at hj
          cases hj
          rw [Addr.add_lit]
          exact hc j y hmj
    obtain ⟨v', w', hr, h4, h5, _⟩ := run_append_own (P := Tryz.prog) w B 22 ot 5 i0 (.int .u8 0) 1 1 Tryz.underlying22 hi hz0 hz1 hz2 rfl (by decide) v l.length (bv l) hown ad m.length c (bv m) (by simp [bv]) hnews
      (by intro u hu; simp [bv] at hu; obtain ⟨z, _, rfl⟩ := hu; rfl) (by unfold maxLen; omega) (by omega) hB
    refine ⟨v', w', hr, ?_, h5⟩
    unfold Ow
    rw [bv_app, List.length_append]
    exact h4
theorem step_apb {w : World} {ops : Array Oper} {o : Oper} {a : Act} {K : Act → World → Prop} {Q : Exit → Act → World → Prop} {E : Prop} (hgd : o.guard = none) (s x : Operand)
    (ho : o.op = .call { callee := .builtin .append, args := #[s, x], argTypes := #[22, 22] }) (B : Nat) (v : Value) (l : List UInt8) (hs : a.eval s = v) (hown : Ow w B v l)
    (u : Value) (m : List UInt8) (hx : a.eval x = u) (hb : BsA w u m) (hn : l.length + m.length ≤ 1000000) (hB : B ≤ w.heap.size)
    (h : ∀ v' w', Ow w' B v' (l ++ m) → w.grownBy w' v.ownBlock → K (a.put o.dst v') w') : if Region.wanted o (yielded ops a.tmps) = true then Oper.wp Tryz.prog o a w K Q else E := by
  have hw : Region.wanted o (yielded ops a.tmps) = true := by simp [Region.wanted, hgd]
  rw [if_pos hw]
  obtain ⟨v', w', hr, h2, h3⟩ := run_apb o.type B v l hown u m hb hn hB
  unfold Oper.wp execOp
  simp only [ho, resolve, invoke, builtin, Sem.run_bind, Sem.run_pure, Result.andThen_ok, List.map_toArray, List.map_cons, List.map_nil, hs, hx, hr]
  exact h v' w' h2 h3
theorem wpList_apq {w : World} {ops : Array Oper} {rest : List Oper} {o : Oper} {a : Act} {Q : Exit → Act → World → Prop} (hgd : o.guard = none) (s x : Operand)
    (ho : o.op = .call { callee := .builtin .append, args := #[s, x], argTypes := #[22, 22] }) (B : Nat) (v : Value) (l : List UInt8) (hs : a.eval s = v) (hown : Ow w B v l)
    (u : Value) (m : List UInt8) (hx : a.eval x = u) (hb : BsA w u m) (hn : l.length + m.length ≤ 1000000) (hB : B ≤ w.heap.size)
    (h : ∀ v' w', Ow w' B v' (l ++ m) → w.grownBy w' v.ownBlock → wpList Tryz.prog ops Q rest (a.put o.dst v') w') : wpList Tryz.prog ops Q (o :: rest) a w := by
  refine wpList_plain hgd fun K hK => ?_
  obtain ⟨v', w', hr, h2, h3⟩ := run_apb o.type B v l hown u m hb hn hB
  unfold Oper.wp execOp
  simp only [ho, resolve, invoke, builtin, Sem.run_bind, Sem.run_pure, Result.andThen_ok, List.map_toArray, List.map_cons, List.map_nil, hs, hx, hr]
  exact hK _ _ (h v' w' h2 h3)
theorem below_gq {w w' : World} {row : Option Nat} {B : Nat} (hg : w.grownBy w' row) (hr : ∀ r, row = some r → B ≤ r) (hB : B ≤ w.heap.size) : Below B w w' := ⟨hg.os, hg.tape, hg.output, hg.size, fun k hk => hg.block k (by omega) (fun e => by have := hr k e.symm; omega)⟩
def pls : List Nat := [34, 92, 8, 9, 10, 12, 13]
def mns (n : Nat) : UInt8 := if n = 34 then 34 else if n = 92 then 92 else if n = 8 then 98 else if n = 9 then 116 else if n = 10 then 110 else if n = 12 then 102 else 114
def fdk (n k : Nat) : Bool := (pls.take k).contains n
def apk (n k : Nat) : List UInt8 := if fdk n k then [92, mns n] else []
theorem q1_eq (c : UInt8) : q1 c = if fdk c.toNat 7 = true then apk c.toNat 7 else if c.toNat < 32 then [92, 117, 48, 48, hxd (c.toNat / 16), hxd (c.toNat % 16)] else [c] := by
  unfold q1 apk
  by_cases h0 : c.toNat = 34
  · simp [h0, fdk, pls, mns]
  by_cases h1 : c.toNat = 92
  · simp [h1, fdk, pls, mns]
  by_cases h2 : c.toNat = 8
  · simp [h2, fdk, pls, mns]
  by_cases h3 : c.toNat = 9
  · simp [h3, fdk, pls, mns]
  by_cases h4 : c.toNat = 10
  · simp [h4, fdk, pls, mns]
  by_cases h5 : c.toNat = 12
  · simp [h5, fdk, pls, mns]
  by_cases h6 : c.toNat = 13
  · simp [h6, fdk, pls, mns]
  simp [h0, h1, h2, h3, h4, h5, h6, fdk, pls]
theorem fdk_miss {n k p : Nat} (hp : pls[k]? = some p) (h : n ≠ p) : fdk n (k + 1) = fdk n k := by
  unfold fdk
  rw [List.take_add_one, hp]
  simp [h]
theorem apk_miss {n k p : Nat} (hp : pls[k]? = some p) (h : n ≠ p) : apk n (k + 1) = apk n k := by unfold apk; rw [fdk_miss hp h]
theorem qb_take {l : List UInt8} {j : Nat} {c : UInt8} (h : l[j]? = some c) : qb (l.take (j + 1)) = qb (l.take j) ++ q1 c := by
  rw [List.take_add_one, h]; simp [qb]
theorem qb_take_len {l : List UInt8} (j : Nat) (hl : l.length ≤ 100000) : (qb (l.take j)).length ≤ 600000 := by
  have := (qb_len (l.take j)).2
  have : (l.take j).length ≤ l.length := by simp; omega
  omega
theorem st_at {l : List UInt8} {j : Nat} {c : UInt8} (h : l[j]? = some c) {h'} : ((st l)[j]'h').toNat = c.toNat := by
  have e : (st l).data[j]? = some c := by rw [← Array.getElem?_toList, st_data]; exact h
  have e2 : (st l)[j]'h' = c := (Array.getElem?_eq_some_iff.1 e).2
  rw [e2]
theorem ow_one (w : World) (x : UInt8) : Ow (w.alloc (.cells #[.int .u8 (x.toNat : Nat)] 5)) w.heap.size (.slice (some ⟨w.heap.size, 0, none⟩) 1 1) [x] :=
  ⟨by simp [bv], .inr ⟨w.heap.size, 1, #[.int .u8 (x.toNat : Nat)], rfl, Nat.le_refl _, by
    show (w.heap.push _)[w.heap.size]? = _
    rw [Array.getElem?_push, if_pos rfl], by simp, by decide, rfl, rfl⟩⟩
def hxB : ByteArray := ⟨#[48, 49, 50, 51, 52, 53, 54, 55, 56, 57, 97, 98, 99, 100, 101, 102]⟩
theorem hxB_z : hxB.size = 16 := rfl
theorem hxB_at (n : Nat) (h : n < hxB.size) : (hxB[n]'h) = hxd n := hx_b (by simpa [hxB_z] using h)
theorem wrap_u8' (n : Nat) (h : n < 256) : IntKind.u8.wrap (n : Int) = (n : Int) := by
  have e : (n : Int) % 2 ^ 8 = n := Int.emod_eq_of_lt (by omega) (by omega)
  simp only [IntKind.wrap, IntKind.bits, IntKind.signed, e]
  simp
theorem al_b (w : World) (o : Obj) : Below w.heap.size w (w.alloc o) := (Below.refl _ _).alloc (Nat.le_refl _) _
theorem ow_gr {w0 : Nat} {w w' : World} {v : Value} {P : List UInt8} (o : Obj) (h : Ow w w0 v P) (hg : (w.alloc o).grownBy w' v.ownBlock) (hB : w0 ≤ w.heap.size) : Below w0 w w' :=
  ((al_b w o).mono hB).trans (below_gq hg h.block (Nat.le_trans hB (al_b w o).size))
set_option maxHeartbeats 16000000 in
set_option maxRecDepth 100000 in
theorem rquote_d {w : World} {l : List UInt8} (hl : l.length ≤ 100000) : Calls Tryz.prog 67 #[.string (st l)] w fun e w' => e = .returned (.string (st (qu l))) ∧ Below w.heap.size w w' := by
  have hsz := st_size l
  go_enter Tryz.func67, Tryz.ntmps67
  go_wp2_with fail
  go_loopw [6, 7] (fun v i wr => ∃ j : Nat, j ≤ l.length ∧ i = .int .i64 (j : Nat) ∧ Hid (Ow wr w.heap.size v (34 :: qb (l.take j))) ∧ Hid (Below w.heap.size w wr)) (fun _ i _ => l.length - (intOf i).toNat)
  case atStart => exact ⟨0, by omega, rfl, hide1 (ow_one w 34), hide1 (al_b w _)⟩
  case round =>
    obtain ⟨j, hj, rfl, hO, hB⟩ := hrel
    by_cases hlt : j < l.length
    · obtain ⟨c, hc⟩ : ∃ c, l[j]? = some c := ⟨_, List.getElem?_eq_getElem hlt⟩
      obtain ⟨P, hP⟩ : ∃ P, Hid (P = 34 :: qb (l.take j)) := ⟨_, hide1 rfl⟩
      rw [← hP.out] at hO
      have hPl : P.length ≤ 600001 := by rw [hP.out]; have := qb_take_len (l := l) j hl; simp; omega
      have hnext : Hid (34 :: qb (l.take (j + 1)) = P ++ q1 c) := hide1 (by rw [hP.out, qb_take hc]; rfl)
      clear hP
      go_wp2_with fail
      rw [st_at hc]
      have hcl := c.toNat_lt
      have hq1 := hide1 (q1_eq c)
      obtain ⟨n, hn⟩ : ∃ n, Hid (n = c.toNat) := ⟨_, hide1 rfl⟩
      rw [← hn.out] at hcl ⊢
      go_loopw [6, 9, 10] (fun v f k wi => ∃ kk : Nat, kk ≤ 7 ∧ k = .int .i64 (kk : Nat) ∧ f = .bool (fdk n kk) ∧ Hid (Ow wi w.heap.size v (P ++ apk n kk)) ∧ Hid (Below w.heap.size w wi)) (fun _ _ k _ => 7 - (intOf k).toNat)
      case atStart => exact ⟨0, by omega, rfl, by simp [fdk], hide1 (by rw [show apk n 0 = [] by simp [apk, fdk], List.append_nil]; exact hO.out), hB⟩
      case round =>
        obtain ⟨kk, hk, rfl, rfl, hO2, hB2⟩ := hrel
        have hBs := hB2.out.size
        by_cases hk7 : kk < 7
        · rcases (by omega : kk = 0 ∨ kk = 1 ∨ kk = 2 ∨ kk = 3 ∨ kk = 4 ∨ kk = 5 ∨ kk = 6) with rfl | rfl | rfl | rfl | rfl | rfl | rfl
          · by_cases hp : n = 34
            · have e1 : fdk n 1 = true := by rw [hp]; rfl
              have e0 : apk n 0 = [] := by rw [hp]; rfl
              have e2 : Hid (apk n 1 = [92, 34]) := hide1 (by rw [hp]; rfl)
              rw [e0, List.append_nil] at hO2
              have hpb : (((⟨#[34, 92, 8, 9, 10, 12, 13]⟩ : ByteArray)[0]'(by decide)).toNat : Int) = (n : Int) := by rw [hp]; rfl
              clear hsz e0 hO hp hq1
              go_wp2_with (refine wpList_apq rfl (.tmp 32) (.tmp 36) rfl w.heap.size u6 P rfl (hO2.out.later (al_b _ _)) _ [92, 34] rfl (bsa_new rfl 2 rfl (0, 0)) (by simp; omega) (by have := (al_b wr (.cells #[.int .u8 92, .int .u8 34] 5)).size; simp; omega) ?_; intro v3 w3 hO3 hG3; have hB3 := hide1 (hB2.out.trans (ow_gr _ hO2.out hG3 (by omega))); replace hO3 := hide1 hO3; clear hG3)
              go_roundw
              case rel => exact ⟨1, by omega, rfl, by rw [e1], hide1 (by rw [e2.out]; exact hO3.out), hB3⟩
              case measure => simp [intOf]
            · have e1 := fdk_miss (k := 0) rfl hp
              have e2 := apk_miss (k := 0) rfl hp
              have hpb : ¬ (((⟨#[34, 92, 8, 9, 10, 12, 13]⟩ : ByteArray)[0]'(by decide)).toNat : Int) = (n : Int) := by show ¬ (34 : Int) = (n : Int); omega
              clear hsz hO hp hq1
              go_wp2_with fail
              go_roundw
              case rel => exact ⟨1, by omega, rfl, by rw [e1], hide1 (by rw [e2]; exact hO2.out), hB2⟩
              case measure => simp [intOf]
          · by_cases hp : n = 92
            · have e1 : fdk n 2 = true := by rw [hp]; rfl
              have e0 : apk n 1 = [] := by rw [hp]; rfl
              have e2 : Hid (apk n 2 = [92, 92]) := hide1 (by rw [hp]; rfl)
              rw [e0, List.append_nil] at hO2
              have hpb : (((⟨#[34, 92, 8, 9, 10, 12, 13]⟩ : ByteArray)[1]'(by decide)).toNat : Int) = (n : Int) := by rw [hp]; rfl
              clear hsz e0 hO hp hq1
              go_wp2_with (refine wpList_apq rfl (.tmp 32) (.tmp 36) rfl w.heap.size u6 P rfl (hO2.out.later (al_b _ _)) _ [92, 92] rfl (bsa_new rfl 2 rfl (0, 0)) (by simp; omega) (by have := (al_b wr (.cells #[.int .u8 92, .int .u8 92] 5)).size; simp; omega) ?_; intro v3 w3 hO3 hG3; have hB3 := hide1 (hB2.out.trans (ow_gr _ hO2.out hG3 (by omega))); replace hO3 := hide1 hO3; clear hG3)
              go_roundw
              case rel => exact ⟨2, by omega, rfl, by rw [e1], hide1 (by rw [e2.out]; exact hO3.out), hB3⟩
              case measure => simp [intOf]
            · have e1 := fdk_miss (k := 1) rfl hp
              have e2 := apk_miss (k := 1) rfl hp
              have hpb : ¬ (((⟨#[34, 92, 8, 9, 10, 12, 13]⟩ : ByteArray)[1]'(by decide)).toNat : Int) = (n : Int) := by show ¬ (92 : Int) = (n : Int); omega
              clear hsz hO hp hq1
              go_wp2_with fail
              go_roundw
              case rel => exact ⟨2, by omega, rfl, by rw [e1], hide1 (by rw [e2]; exact hO2.out), hB2⟩
              case measure => simp [intOf]
          · by_cases hp : n = 8
            · have e1 : fdk n 3 = true := by rw [hp]; rfl
              have e0 : apk n 2 = [] := by rw [hp]; rfl
              have e2 : Hid (apk n 3 = [92, 98]) := hide1 (by rw [hp]; rfl)
              rw [e0, List.append_nil] at hO2
              have hpb : (((⟨#[34, 92, 8, 9, 10, 12, 13]⟩ : ByteArray)[2]'(by decide)).toNat : Int) = (n : Int) := by rw [hp]; rfl
              clear hsz e0 hO hp hq1
              go_wp2_with (refine wpList_apq rfl (.tmp 32) (.tmp 36) rfl w.heap.size u6 P rfl (hO2.out.later (al_b _ _)) _ [92, 98] rfl (bsa_new rfl 2 rfl (0, 0)) (by simp; omega) (by have := (al_b wr (.cells #[.int .u8 92, .int .u8 98] 5)).size; simp; omega) ?_; intro v3 w3 hO3 hG3; have hB3 := hide1 (hB2.out.trans (ow_gr _ hO2.out hG3 (by omega))); replace hO3 := hide1 hO3; clear hG3)
              go_roundw
              case rel => exact ⟨3, by omega, rfl, by rw [e1], hide1 (by rw [e2.out]; exact hO3.out), hB3⟩
              case measure => simp [intOf]
            · have e1 := fdk_miss (k := 2) rfl hp
              have e2 := apk_miss (k := 2) rfl hp
              have hpb : ¬ (((⟨#[34, 92, 8, 9, 10, 12, 13]⟩ : ByteArray)[2]'(by decide)).toNat : Int) = (n : Int) := by show ¬ (8 : Int) = (n : Int); omega
              clear hsz hO hp hq1
              go_wp2_with fail
              go_roundw
              case rel => exact ⟨3, by omega, rfl, by rw [e1], hide1 (by rw [e2]; exact hO2.out), hB2⟩
              case measure => simp [intOf]
          · by_cases hp : n = 9
            · have e1 : fdk n 4 = true := by rw [hp]; rfl
              have e0 : apk n 3 = [] := by rw [hp]; rfl
              have e2 : Hid (apk n 4 = [92, 116]) := hide1 (by rw [hp]; rfl)
              rw [e0, List.append_nil] at hO2
              have hpb : (((⟨#[34, 92, 8, 9, 10, 12, 13]⟩ : ByteArray)[3]'(by decide)).toNat : Int) = (n : Int) := by rw [hp]; rfl
              clear hsz e0 hO hp hq1
              go_wp2_with (refine wpList_apq rfl (.tmp 32) (.tmp 36) rfl w.heap.size u6 P rfl (hO2.out.later (al_b _ _)) _ [92, 116] rfl (bsa_new rfl 2 rfl (0, 0)) (by simp; omega) (by have := (al_b wr (.cells #[.int .u8 92, .int .u8 116] 5)).size; simp; omega) ?_; intro v3 w3 hO3 hG3; have hB3 := hide1 (hB2.out.trans (ow_gr _ hO2.out hG3 (by omega))); replace hO3 := hide1 hO3; clear hG3)
              go_roundw
              case rel => exact ⟨4, by omega, rfl, by rw [e1], hide1 (by rw [e2.out]; exact hO3.out), hB3⟩
              case measure => simp [intOf]
            · have e1 := fdk_miss (k := 3) rfl hp
              have e2 := apk_miss (k := 3) rfl hp
              have hpb : ¬ (((⟨#[34, 92, 8, 9, 10, 12, 13]⟩ : ByteArray)[3]'(by decide)).toNat : Int) = (n : Int) := by show ¬ (9 : Int) = (n : Int); omega
              clear hsz hO hp hq1
              go_wp2_with fail
              go_roundw
              case rel => exact ⟨4, by omega, rfl, by rw [e1], hide1 (by rw [e2]; exact hO2.out), hB2⟩
              case measure => simp [intOf]
          · by_cases hp : n = 10
            · have e1 : fdk n 5 = true := by rw [hp]; rfl
              have e0 : apk n 4 = [] := by rw [hp]; rfl
              have e2 : Hid (apk n 5 = [92, 110]) := hide1 (by rw [hp]; rfl)
              rw [e0, List.append_nil] at hO2
              have hpb : (((⟨#[34, 92, 8, 9, 10, 12, 13]⟩ : ByteArray)[4]'(by decide)).toNat : Int) = (n : Int) := by rw [hp]; rfl
              clear hsz e0 hO hp hq1
              go_wp2_with (refine wpList_apq rfl (.tmp 32) (.tmp 36) rfl w.heap.size u6 P rfl (hO2.out.later (al_b _ _)) _ [92, 110] rfl (bsa_new rfl 2 rfl (0, 0)) (by simp; omega) (by have := (al_b wr (.cells #[.int .u8 92, .int .u8 110] 5)).size; simp; omega) ?_; intro v3 w3 hO3 hG3; have hB3 := hide1 (hB2.out.trans (ow_gr _ hO2.out hG3 (by omega))); replace hO3 := hide1 hO3; clear hG3)
              go_roundw
              case rel => exact ⟨5, by omega, rfl, by rw [e1], hide1 (by rw [e2.out]; exact hO3.out), hB3⟩
              case measure => simp [intOf]
            · have e1 := fdk_miss (k := 4) rfl hp
              have e2 := apk_miss (k := 4) rfl hp
              have hpb : ¬ (((⟨#[34, 92, 8, 9, 10, 12, 13]⟩ : ByteArray)[4]'(by decide)).toNat : Int) = (n : Int) := by show ¬ (10 : Int) = (n : Int); omega
              clear hsz hO hp hq1
              go_wp2_with fail
              go_roundw
              case rel => exact ⟨5, by omega, rfl, by rw [e1], hide1 (by rw [e2]; exact hO2.out), hB2⟩
              case measure => simp [intOf]
          · by_cases hp : n = 12
            · have e1 : fdk n 6 = true := by rw [hp]; rfl
              have e0 : apk n 5 = [] := by rw [hp]; rfl
              have e2 : Hid (apk n 6 = [92, 102]) := hide1 (by rw [hp]; rfl)
              rw [e0, List.append_nil] at hO2
              have hpb : (((⟨#[34, 92, 8, 9, 10, 12, 13]⟩ : ByteArray)[5]'(by decide)).toNat : Int) = (n : Int) := by rw [hp]; rfl
              clear hsz e0 hO hp hq1
              go_wp2_with (refine wpList_apq rfl (.tmp 32) (.tmp 36) rfl w.heap.size u6 P rfl (hO2.out.later (al_b _ _)) _ [92, 102] rfl (bsa_new rfl 2 rfl (0, 0)) (by simp; omega) (by have := (al_b wr (.cells #[.int .u8 92, .int .u8 102] 5)).size; simp; omega) ?_; intro v3 w3 hO3 hG3; have hB3 := hide1 (hB2.out.trans (ow_gr _ hO2.out hG3 (by omega))); replace hO3 := hide1 hO3; clear hG3)
              go_roundw
              case rel => exact ⟨6, by omega, rfl, by rw [e1], hide1 (by rw [e2.out]; exact hO3.out), hB3⟩
              case measure => simp [intOf]
            · have e1 := fdk_miss (k := 5) rfl hp
              have e2 := apk_miss (k := 5) rfl hp
              have hpb : ¬ (((⟨#[34, 92, 8, 9, 10, 12, 13]⟩ : ByteArray)[5]'(by decide)).toNat : Int) = (n : Int) := by show ¬ (12 : Int) = (n : Int); omega
              clear hsz hO hp hq1
              go_wp2_with fail
              go_roundw
              case rel => exact ⟨6, by omega, rfl, by rw [e1], hide1 (by rw [e2]; exact hO2.out), hB2⟩
              case measure => simp [intOf]
          · by_cases hp : n = 13
            · have e1 : fdk n 7 = true := by rw [hp]; rfl
              have e0 : apk n 6 = [] := by rw [hp]; rfl
              have e2 : Hid (apk n 7 = [92, 114]) := hide1 (by rw [hp]; rfl)
              rw [e0, List.append_nil] at hO2
              have hpb : (((⟨#[34, 92, 8, 9, 10, 12, 13]⟩ : ByteArray)[6]'(by decide)).toNat : Int) = (n : Int) := by rw [hp]; rfl
              clear hsz e0 hO hp hq1
              go_wp2_with (refine wpList_apq rfl (.tmp 32) (.tmp 36) rfl w.heap.size u6 P rfl (hO2.out.later (al_b _ _)) _ [92, 114] rfl (bsa_new rfl 2 rfl (0, 0)) (by simp; omega) (by have := (al_b wr (.cells #[.int .u8 92, .int .u8 114] 5)).size; simp; omega) ?_; intro v3 w3 hO3 hG3; have hB3 := hide1 (hB2.out.trans (ow_gr _ hO2.out hG3 (by omega))); replace hO3 := hide1 hO3; clear hG3)
              go_roundw
              case rel => exact ⟨7, by omega, rfl, by rw [e1], hide1 (by rw [e2.out]; exact hO3.out), hB3⟩
              case measure => simp [intOf]
            · have e1 := fdk_miss (k := 6) rfl hp
              have e2 := apk_miss (k := 6) rfl hp
              have hpb : ¬ (((⟨#[34, 92, 8, 9, 10, 12, 13]⟩ : ByteArray)[6]'(by decide)).toNat : Int) = (n : Int) := by show ¬ (13 : Int) = (n : Int); omega
              clear hsz hO hp hq1
              go_wp2_with fail
              go_roundw
              case rel => exact ⟨7, by omega, rfl, by rw [e1], hide1 (by rw [e2]; exact hO2.out), hB2⟩
              case measure => simp [intOf]
        · obtain rfl : kk = 7 := by omega
          rw [← hn.out] at hq1
          cases hf : fdk n 7 with
          | true =>
            have hq2 : q1 c = apk n 7 := by rw [hq1.out, if_pos hf]
            rw [← hq2, ← hnext.out] at hO2
            clear hq1 hq2 hnext hO hB hsz
            go_wp2_with fail
            go_roundw
            case rel => exact ⟨j + 1, by omega, by go_num, hO2, hB2⟩
            case measure => simp [intOf]; omega
          | false =>
            have e0 : apk n 7 = [] := by unfold apk; rw [hf]; rfl
            rw [e0, List.append_nil] at hO2
            have hq2 := hq1.out
            rw [hf, if_neg (by simp)] at hq2
            clear hq1 e0
            by_cases h32 : n < 32
            · rw [if_pos h32] at hq2
              rw [hq2] at hnext
              clear hq2 hO hB hsz
              have g1 : (n : Int) < 32 := by omega
              have g2 : ¬ (n : Int) ≥ 32 := by omega
              have hZ := hxB_z
              obtain ⟨d1, hd1⟩ : ∃ d, Hid (d = n / 16) := ⟨_, hide1 rfl⟩
              obtain ⟨d2, hd2⟩ : ∃ d, Hid (d = n % 16) := ⟨_, hide1 rfl⟩
              have q1 : IntKind.u8.wrap ((n : Int) / 16) = (d1 : Int) := by rw [hd1.out]; exact wrap_u8' (n / 16) (by omega)
              have q2 : (n : Int).tmod 16 = (d2 : Int) := by rw [hd2.out]; rfl
              have r1 : (d1 : Int) < 16 := by rw [hd1.out]; omega
              have r2 : (d2 : Int) < 16 := by rw [hd2.out]; omega
              have Hg := hxB_at d1 (by rw [hxB_z]; omega)
              have Hg2 := hxB_at d2 (by rw [hxB_z]; omega)
              rw [← hd1.out, ← hd2.out] at hnext
              go_upto_region 17 with fail
              rw [show (⟨#[48, 49, 50, 51, 52, 53, 54, 55, 56, 57, 97, 98, 99, 100, 101, 102]⟩ : ByteArray) = hxB from rfl]
              have hoD : Hid (Ow wr.drew w.heap.size u6 P) := hO2
              have hwD : Hid (Below w.heap.size w wr.drew) := hide1 hB2.out.drew
              have hzz : w.heap.size ≤ wr.drew.heap.size := hBs
              have hb6 := hide1 (bsa_new (w := wr.drew) (C := #[.int .u8 92, .int .u8 117, .int .u8 48, .int .u8 48, .int .u8 ((hxd d1).toNat : Nat), .int .u8 ((hxd d2).toNat : Nat)]) (l := [92, 117, 48, 48, hxd d1, hxd d2]) rfl 6 rfl (0, 0))
              go_region_law (refine step_apb rfl (.tmp 44) (.tmp 53) rfl w.heap.size u6 P (by first | (simp [Act.eval]; done) | (simp [Act.eval, Act.put]; done) | rfl) (hoD.out.later (al_b _ _)) _ [92, 117, 48, 48, hxd d1, hxd d2] (by first | (simp [Act.eval]; done) | (simp [Act.eval, Act.put]; done) | rfl) hb6.out (by simp; omega) (Nat.le_trans hzz (al_b _ _).size) ?_; intro v1 w1 hO3 hG3; have hB3 := hide1 (hwD.out.trans (ow_gr _ hoD.out hG3 hzz)); replace hO3 := hide1 hO3; clear hG3)
              all_goals
                simp only [Act.put, List.setIfInBounds_toArray]
                rw [show hxB = (⟨#[48, 49, 50, 51, 52, 53, 54, 55, 56, 57, 97, 98, 99, 100, 101, 102]⟩ : ByteArray) from rfl]
                clear Hg Hg2 q1 q2 hoD hwD hb6
                go_wp2_with fail
                go_roundw
                case rel => exact ⟨j + 1, by omega, by go_num, hide1 (by rw [hnext.out]; exact hO3.out), hB3⟩
                case measure => simp [intOf]; omega
            · rw [if_neg h32] at hq2
              rw [hq2] at hnext
              clear hq2 hO hB hsz
              have g1 : ¬ (n : Int) < 32 := by omega
              have g2 : (n : Int) ≥ 32 := by omega
              go_wp2_with (refine wpList_apq rfl (.tmp 61) (.tmp 63) rfl w.heap.size u6 P rfl (hO2.out.later (al_b _ _)) _ [c] rfl (bsa_new (by rw [hn.out]; rfl) 1 rfl (0, 0)) (by simp; omega) (Nat.le_trans hBs (al_b _ _).size) ?_; intro v3 w3 hO3 hG3; have hB3 := hide1 (hB2.out.trans (ow_gr _ hO2.out hG3 (by omega))); replace hO3 := hide1 hO3; clear hG3)
              go_roundw
              case rel => exact ⟨j + 1, by omega, by go_num, hide1 (by rw [hnext.out]; exact hO3.out), hB3⟩
              case measure => simp [intOf]; omega
    · obtain rfl : j = l.length := by omega
      rw [List.take_length] at hO
      have ho1 : Hid (Ow wr w.heap.size u6 (34 :: qb l)) := hO
      have hBs := hB.out.size
      have hPl : (34 :: qb l).length ≤ 600001 := by have := (qb_len l).2; simp; omega
      clear hsz hO
      go_wp2_with (refine wpList_apq rfl (.tmp 65) (.tmp 66) rfl w.heap.size u6 (34 :: qb l) rfl (ho1.out.later (al_b _ _)) _ [34] rfl (bsa_new rfl 1 rfl (0, 0)) (by simp at hPl ⊢; omega) (Nat.le_trans hBs (al_b _ _).size) ?_; intro v3 w3 hO3 hG3; have hB3 := hide1 (hB.out.trans (ow_gr _ ho1.out hG3 (by omega))); have hcv := conv_b hO3.bs; obtain ⟨oa, oc, rfl⟩ := hO3.slc; clear hG3 hO3; generalize ((34 :: qb l) ++ [34]).length = M at hcv ⊢)
      go_ret
      exact ⟨rfl, hB3.out⟩
abbrev AnN (w : World) (l : List UInt8) (e : Ending) (w' : World) : Prop := e = .returned (.string (st l)) ∧ Below w.heap.size w w'
set_option maxHeartbeats 8000000 in
set_option maxRecDepth 100000 in
theorem rnum_s {w : World} {u : Nat} (h : u < 10) : Calls Tryz.prog 66 #[.int .i64 (u : Nat)] w (AnN w (Lib.decDigits u)) := by
  rw [dec_small h]
  rcases (by omega : u = 0 ∨ u = 1 ∨ u = 2 ∨ u = 3 ∨ u = 4 ∨ u = 5 ∨ u = 6 ∨ u = 7 ∨ u = 8 ∨ u = 9) with rfl | rfl | rfl | rfl | rfl | rfl | rfl | rfl | rfl | rfl <;>
    (go_enter Tryz.func66, Tryz.ntmps66
     go_wp2
     go_ret
     exact ⟨rfl, Below.refl _ _⟩)
theorem dec_len : ∀ (k u : Nat), u < 10 ^ (k + 1) → (Lib.decDigits u).length ≤ k + 1
  | 0, u, h => by rw [dec_small (by simpa using h)]; simp
  | k + 1, u, h => by
    by_cases h1 : u < 10
    · rw [dec_small h1]; simp
    · rw [dec_big h1, List.length_append]
      have := dec_len k (u / 10) (by rw [Nat.pow_succ] at h; omega)
      simp; omega
theorem dec_len20 {u : Nat} (h : u < 9223372036854775808) : (Lib.decDigits u).length ≤ 20 := dec_len 19 u (Nat.lt_of_lt_of_le h (by decide))
theorem st_ap (a b : List UInt8) : st a ++ st b = st (a ++ b) := by
  apply ByteArray.ext
  simp [st]
set_option maxHeartbeats 8000000 in
set_option maxRecDepth 100000 in
theorem rnum_b {w : World} {u : Nat} (h : ¬ u < 10) (hu : u < 9223372036854775808) (h1 : ∀ w, Calls Tryz.prog 66 #[.int .i64 (u / 10 : Nat)] w (AnN w (Lib.decDigits (u / 10)))) : Calls Tryz.prog 66 #[.int .i64 (u : Nat)] w (AnN w (Lib.decDigits u)) := by
  have h2 := fun w => rnum_s (w := w) (u := u % 10) (by omega)
  have hd := hide1 (dec_big h)
  have hm := hide1 (dec_small (u := u % 10) (by omega))
  obtain ⟨d, hdd⟩ : ∃ d, Hid (d = u / 10) := ⟨_, hide1 rfl⟩
  obtain ⟨m, hmm⟩ : ∃ m, Hid (m = u % 10) := ⟨_, hide1 rfl⟩
  have q1 : (u : Int) / 10 = (d : Int) := by rw [hdd.out]; omega
  have q2 : (u : Int).tmod 10 = (m : Int) := by rw [hmm.out]; rfl
  have g1 : ¬ (u : Int) < 10 := by omega
  have g2 : ¬ (u : Int) < 0 := by omega
  rw [← hdd.out] at h1 hd
  rw [← hmm.out] at h2 hm hd
  rw [← hm.out] at hd
  go_enter Tryz.func66, Tryz.ntmps66
  go_wp2_with fail
  refine (h1 _).mono ?_
  rintro e w1 ⟨rfl, b1⟩
  have B1 := hide1 b1
  clear b1 h1
  go_wp2_with fail
  refine (h2 _).mono ?_
  rintro e w2 ⟨rfl, b2⟩
  have B2 := hide1 (B1.out.trans (b2.mono B1.out.size))
  clear b2 h2
  have hcat : Hid (AnN w (Lib.decDigits u) (.returned (.string (st (Lib.decDigits d) ++ st (Lib.decDigits m)))) w2) := hide1 ⟨by rw [hd.out, st_ap], B2.out⟩
  have hno : ¬ 9223372036854775807 < (st (Lib.decDigits d)).size + (st (Lib.decDigits m)).size := by
    rw [st_size, st_size]
    have h3 := dec_len20 (u := d) (by rw [hdd.out]; omega)
    have h4 := dec_len20 (u := m) (by rw [hmm.out]; omega)
    omega
  go_wp2
  go_ret
  exact hcat.out
theorem rnum_p (n : Nat) : ∀ (u : Nat) (w : World), u ≤ n → u < 9223372036854775808 → Calls Tryz.prog 66 #[.int .i64 (u : Nat)] w (AnN w (Lib.decDigits u)) := by
  induction n with
  | zero => intro u w h _; exact rnum_s (by omega)
  | succ n ih =>
    intro u w h hu
    by_cases h1 : u < 10
    · exact rnum_s h1
    · exact rnum_b h1 hu (fun w => ih (u / 10) w (by omega) (by omega))
set_option maxHeartbeats 8000000 in
set_option maxRecDepth 100000 in
theorem rnum_d {w : World} {k : Int} (h : -9007199254740991 ≤ k ∧ k ≤ 9007199254740991) : Calls Tryz.prog 66 #[.int .i64 k] w (AnN w (Lib.itoa k)) := by
  by_cases h0 : k < 0
  · obtain ⟨u, hu⟩ : ∃ u : Nat, k = -(u : Int) := ⟨k.natAbs, by omega⟩
    subst hu
    have hi : Lib.itoa (-(u : Int)) = [45] ++ Lib.decDigits u := by
      unfold Lib.itoa
      rw [if_pos h0, show (-(u : Int)).natAbs = u by omega]; rfl
    have h1 := fun w => rnum_p u u w (Nat.le_refl _) (by omega)
    have hl := hide1 (dec_len20 (u := u) (by omega))
    rw [hi]
    go_enter Tryz.func66, Tryz.ntmps66
    go_wp2_with fail
    refine (h1 _).mono ?_
    rintro e w1 ⟨rfl, b1⟩
    have hf : Hid (AnN w (45 :: Lib.decDigits u) (.returned (.string (⟨#[45]⟩ ++ st (Lib.decDigits u)))) w1) := hide1 ⟨by rw [show (⟨#[45]⟩ : ByteArray) = st [45] from rfl, st_ap]; rfl, b1⟩
    have hno : ¬ 9223372036854775807 < (⟨#[45]⟩ : ByteArray).size + (st (Lib.decDigits u)).size := by
      rw [st_size, show (⟨#[45]⟩ : ByteArray).size = 1 from rfl]
      have := hl.out
      omega
    clear b1 h1
    go_wp2
    go_ret
    exact hf.out
  · obtain ⟨u, hu⟩ : ∃ u : Nat, k = (u : Int) := ⟨k.toNat, by omega⟩
    subst hu
    have hi : Lib.itoa (u : Int) = Lib.decDigits u := by
      unfold Lib.itoa
      rw [if_neg h0]; rfl
    rw [hi]
    exact rnum_p u u w (Nat.le_refl _) (by omega)
theorem lt_st (a b : List UInt8) (w : World) : (binOp .lss 9 (.string (st a)) (.string (st b))).run Tryz.prog w = .ok (.bool (bl a b)) w := by
  simp [binOp, go_sem, Op.stringOp, bl, ByteArray.toList_eq, st_data]
theorem gt_z (a : Nat) (w : World) : (binOp .gtr 3 (.int .i64 (a : Nat)) (.int .i64 0)).run Tryz.prog w = .ok (.bool (decide (0 < a))) w := by
  simp [go_sem]
def RPv (g n cap jj : Nat) (F : Nat → Ep) : Nat → Value → Prop
  | 0, v => v = (.slice (some ⟨g, 0, none⟩) n cap)
  | 1, v => v = (.int .i64 (jj : Nat))
  | 2, v => v = (.slice (some ⟨g, 0, none⟩) n cap)
  | 3, v => v = (.int .i64 (jj : Nat))
  | 4, v => v = (.int .i64 (jj - 1 : Nat))
  | 5, v => v = (.slice (some ⟨g, 0, none⟩) n cap)
  | 6, v => v = (.int .i64 (jj : Nat))
  | 7, v => v = (.int .i64 (jj - 1 : Nat))
  | 8, v => v = .pointer (some ⟨g, (jj - 1) * 6, none⟩)
  | 9, v => v = .agg (cl (F (jj - 1))).toArray
  | 10, v => v = (.slice (some ⟨g, 0, none⟩) n cap)
  | 11, v => v = (.int .i64 (jj : Nat))
  | 12, v => v = .pointer (some ⟨g, (jj) * 6, none⟩)
  | 13, v => v = .agg (cl (F (jj))).toArray
  | 14, v => v = .pointer (some ⟨g, (jj) * 6, none⟩)
  | 16, v => v = .pointer (some ⟨g, (jj - 1) * 6, none⟩)
  | _, _ => True
def RPvd : Nat → Nat
  | 0 => 34
  | 1 => 35
  | 2 => 36
  | 3 => 37
  | 4 => 38
  | 5 => 39
  | 6 => 40
  | 7 => 41
  | 8 => 42
  | 9 => 43
  | 10 => 44
  | 11 => 45
  | 12 => 46
  | 13 => 47
  | 14 => 48
  | 15 => 1015
  | 16 => 49
  | 17 => 1017
  | i => 2000 + i

theorem Kg.out {g : Nat} {w w1 w' : World} (h : Below w.heap.size w w1) (k : Kg g w1 w') (hg : w.heap.size ≤ g) : Below w.heap.size w w' :=
  ⟨k.os.trans h.os, k.tape.trans h.tape, k.output.trans h.output, Nat.le_trans h.size k.size, fun q hq => (k.block q (Nat.lt_of_lt_of_le hq h.size) (by omega)).trans (h.block q hq)⟩
set_option maxHeartbeats 8000000 in
set_option maxRecDepth 100000 in
theorem rpairs_n {F : Nat → Prop} {w : World} {v : Value} {cs : List (List Value)} {n : Nat} {E : Nat → Ep} (h : RwA F w 49 6 v cs) (hcs : cs = (sg E 0 n).map cl) (hok : ∀ k, k < n → EpOk (E k)) (h1 : 1 ≤ n) (hn : n ≤ 2000000) :
    Calls Tryz.prog 40 #[v] w fun e w' => ∃ g cap G, e = .returned (.slice (some ⟨g, 0, none⟩) n cap) ∧ w.heap.size ≤ g ∧ Rw w' w.heap.size g n cap G ∧ sg G 0 n = ss ltE (sg E 0 n) ∧ Below w.heap.size w w' := by
  have hln : cs.length = n := by rw [hcs, List.length_map, sg_len]
  have hon : ∀ c ∈ cs, c.all (·.oneCell') = true := fun c hc => by
    rw [hcs] at hc
    obtain ⟨e, he, rfl⟩ := List.mem_map.1 hc
    obtain ⟨k, _, hk, rfl⟩ := sg_mem.1 he
    exact (hok k (by omega)).one
  have hfl : cs.flatten.length = cs.length * 6 := by
    rw [List.length_flatten, List.map_congr_left (g := fun _ => 6) (fun c hc => h.1 c hc), List.map_const', List.sum_replicate_nat]
  have hone : ∀ u ∈ cs.flatten, u.oneCell' = true := fun u hu => by
    obtain ⟨c, hc, huc⟩ := List.mem_flatten.1 hu
    exact List.all_eq_true.1 (hon c hc) u huc
  obtain ⟨a, cap0, rfl, hc, hnil⟩ := h.sliceP
  cases a with
  | none =>
    have := hnil rfl
    subst this
    simp at hln
    omega
  | some ad =>
    have hb0 : Below w.heap.size w (w.alloc (.cells #[] 49)) := (Below.refl _ _).alloc (Nat.le_refl _) _
    have hw0 : (w.alloc (.cells #[] 49)).ownsRow w.heap.size 49 6 (.slice (some ⟨w.heap.size, 0, none⟩) 0 0) 0 [] := by
      refine ⟨rfl, .inr ⟨w.heap.size, 0, #[], rfl, Nat.le_refl _, ?_, Nat.le_refl _, by unfold maxLen; omega, rfl, rfl⟩⟩
      show (w.heap.push _)[w.heap.size]? = _
      rw [Array.getElem?_push, if_pos rfl]
    have hnw : ∀ j u, cs.flatten[j]? = some u → (w.alloc (.cells #[] 49)).cell? (ad.add j) = some u := fun j u hj => by
      have h1 := hc ad rfl j u hj
      have hbl : (ad.add j).block < w.heap.size := by
        rcases Nat.lt_or_ge (ad.add j).block w.heap.size with h' | h'
        · exact h'
        · simp [World.cell?, Array.getElem?_eq_none h'] at h1
      exact (hb0.cell hbl).trans h1
    have hbs := bs_0P w
    have hrw : ∀ {w1 : World} {g cap : Nat}, w1.ownsRow w.heap.size 49 6 (.slice (some ⟨g, 0, none⟩) n cap) n cs.flatten → Hid (Rw w1 w.heap.size g n cap E) := fun hr => hide1 ⟨by rw [← hcs]; exact hr, hok⟩
    rw [hln] at hfl ⊢
    generalize cs.flatten = ys at *
    obtain ⟨B, hBe⟩ : ∃ B, Hid (B = w.heap.size) := ⟨_, hide1 rfl⟩
    clear hc hnil h hon hok hcs hln
    go_enter Tryz.func40, Tryz.ntmps40
    go_upto_region 2 with (at_builtin; refine wpList_apP rfl (.tmp 6) (.tmp 7) rfl w.heap.size _ 0 [] rfl hw0 ad n cap0 ys rfl hfl hnw hone (by omega) (by simp) ?_; intro v' w1 hrow hgr)
    rw [Nat.zero_add, List.nil_append] at hrow
    obtain ⟨g, cap, rfl, hgB⟩ : ∃ g cap, v' = .slice (some ⟨g, 0, none⟩) n cap ∧ w.heap.size ≤ g := by
      rcases hrow.2 with ⟨_, e⟩ | ⟨g, cap, cur, e, hg, _⟩
      · omega
      · exact ⟨g, cap, e, hg⟩
    have h0 := hrw hrow
    have hbw : Hid (Below w.heap.size w w1) := hide1 ⟨hgr.os, hgr.tape, hgr.output, Nat.le_trans hb0.size hgr.size, fun k hk => (hgr.block k (Nat.lt_of_lt_of_le hk hb0.size) (fun e => by
      have e2 : some k = some w.heap.size := e
      have : k = w.heap.size := by simpa using e2
      omega)).trans (hb0.block k hk)⟩
    rw [← hBe.out] at h0 hgB
    clear hrow hgr hrw hw0 hnw hb0 hbs hfl hone
    go_wp2_with fail
    go_loopw [4] (fun s8 wo => ∃ (i : Nat) (G : Nat → Ep), s8 = .int .i64 (i : Nat) ∧ 1 ≤ i ∧ i ≤ n ∧ Hid (Std ltE E 0 i G) ∧ Hid (Rw wo B g n cap G) ∧ Hid (Kg g w1 wo)) (fun s8 _ => n + 1 - (intOf s8).toNat)
    case atStart => exact ⟨1, E, by first | rfl | (congr 1; omega) | go_num, by omega, by omega, hide1 (std_1 (Nat.le_refl _)), h0, hide1 (Kg.refl g w1)⟩
    case round =>
      obtain ⟨i, G, rfl, hi1, hi2, hstd, hRo, hKo⟩ := hrel
      by_cases hlt : i < n
      · have hrs := hide1 (std_rs ok_ltE hstd.out)
        go_wp2_with fail
        go_loopw [5] (fun s9 wr => ∃ jj : Nat, s9 = .int .i64 (jj : Nat) ∧ 0 ≤ jj ∧ jj ≤ i ∧ Hid (∀ k, jj ≤ k → k < i → ltE (G i) (G k) = true) ∧ Hid (Rw wr B g n cap (rot G jj i (i + 1))) ∧ Hid (Kg g w1 wr)) (fun s9 _ => (intOf s9).toNat)
        case atStart => exact ⟨i, by first | rfl | (congr 1; omega), by omega, Nat.le_refl _, hide1 fun k h1 h2 => by omega, hide1 (by rw [rot_id G (.inl rfl)]; exact hRo.out), hKo⟩
        case round =>
          obtain ⟨jj, rfl, hj1, hj2, hpast, hR, hK⟩ := hrel
          have hfin : ltE (G i) (G (jj - 1)) = false ∨ jj = 0 → Hid (Std ltE E 0 (i + 1) (rot G jj i (i + 1))) := fun hx => hide1 (std_s (by omega) hstd.out (mgd_r hj1 hj2 (fun k h1 h2 => by
            rcases hx with hx | hx
            · by_cases ek : k = jj - 1
              · rw [ek]; exact hx
              · cases e : ltE (G i) (G k) with
                | false => rfl
                | true =>
                  rcases ok_ltE.wk (G i) (G k) (G (jj - 1)) e with h3 | h3
                  · rw [hx] at h3; cases h3
                  · rw [hrs.out k (jj - 1) h1 (by omega) (by omega)] at h3; cases h3
            · omega) hpast.out))
          by_cases hgt' : 0 < jj
          · have hjn : jj < n := by omega
            have hj1n : jj - 1 < n := by omega
            have hsb := fun w => sub1_n (a := jj) (by omega) (by omega) w
            have hgt : ∀ w : World, (binOp .gtr 3 (.int .i64 (jj : Nat)) (.int .i64 0)).run Tryz.prog w = .ok (.bool true) w := fun w => by rw [gt_z, decide_eq_true hgt']
            have e1 : rot G jj i (i + 1) jj = G i := by unfold rot; rw [if_pos (by omega)]; congr 1; omega
            have e2 : rot G jj i (i + 1) (jj - 1) = G (jj - 1) := by unfold rot; rw [if_neg (by omega), if_neg (by omega)]
            have hld1 : ∀ wa, Below wr.heap.size wr wa → (Instr.loadAt 9 (.pointer (some ⟨g, jj * 6, none⟩))).run Tryz.prog wa = .ok (.string (st (G i).1)) wa := fun wa hwa => by
              have := (hR.out.later hwa).name hjn
              rw [e1] at this
              exact ld_s0 this
            have hld2 : ∀ wa, Below wr.heap.size wr wa → (Instr.loadAt 9 (.pointer (some ⟨g, (jj - 1) * 6, none⟩))).run Tryz.prog wa = .ok (.string (st (G (jj - 1)).1)) wa := fun wa hwa => by
              have := (hR.out.later hwa).name hj1n
              rw [e2] at this
              exact ld_s0 this
            obtain ⟨R, hRd⟩ : ∃ R, Hid (R = ltE (G i) (G (jj - 1))) := ⟨_, hide1 rfl⟩
            have hzr : ∀ w, (binOp .lss 9 (.string (st (G i).1)) (.string (st (G (jj - 1)).1))).run Tryz.prog w = .ok (.bool R) w := fun w => by rw [hRd.out]; exact lt_st _ _ w
            replace e1 := hide1 e1
            replace e2 := hide1 e2
            go_upto_region 6 with fail
            refine wp_flowG 15 _ _ (by kernel_rfl) (by kernel_rfl) (by kernel_rfl) rfl (fun j v _ => v = ([(.int .i64 (jj : Nat)), (.bool true), (.bool true), (.slice (some ⟨g, 0, none⟩) n cap), (.int .i64 (jj : Nat)), (.pointer (some ⟨g, jj * 6, none⟩)), (.pointer (some ⟨g, jj * 6, none⟩)), (.string (st (G i).1)), (.slice (some ⟨g, 0, none⟩) n cap), (.int .i64 (jj : Nat)), (.int .i64 (jj - 1 : Nat)), (.pointer (some ⟨g, (jj - 1) * 6, none⟩)), (.pointer (some ⟨g, (jj - 1) * 6, none⟩)), (.string (st (G (jj - 1)).1)), (.bool R), (.bool R)] : List Value).getD j undef) (fun _ _ _ _ h _ => h) ?_ ?_
            · intro j op hop hj a wa hwa hsz hsl hdep K hK
              match j, hop with
              | 0, hop =>
                obtain rfl := Option.some.inj hop
                have p5 : a.tmps.getD 5 undef = (.int .i64 (jj : Nat)) := hsl 5 rfl
                exact .plain rfl (wp_val (w' := wa) (v := (.int .i64 (jj : Nat))) (by simp only [execOp, Act.eval]; rw [show a.tmps.getD 5 undef = _ from p5]; rfl) (hK _ _ (Below.refl _ _) rfl))
              | 1, hop =>
                obtain rfl := Option.some.inj hop
                have t0 : a.tmps.getD 16 undef = (.int .i64 (jj : Nat)) := hdep 0 _ 16 rfl rfl ⟨⟨0, .data⟩, by simp, rfl, rfl⟩
                exact .plain rfl (wp_val (w' := wa) (v := (.bool true)) (by simp only [execOp, Act.eval]; rw [show a.tmps.getD 16 undef = _ from t0]; simp only [Sem.run_bind, eqg_gtr, hgt, Result.andThen_ok, Sem.run_pure]) (hK _ _ (Below.refl _ _) rfl))
              | 2, hop =>
                obtain rfl := Option.some.inj hop
                have t1 : a.tmps.getD 17 undef = (.bool true) := hdep 1 _ 17 rfl rfl ⟨⟨1, .data⟩, by simp, rfl, rfl⟩
                exact .plain rfl (wp_val (w' := wa) (v := (.bool true)) (by simp only [execOp, Act.eval]; rw [show a.tmps.getD 17 undef = _ from t1]; rfl) (hK _ _ (Below.refl _ _) rfl))
              | 3, hop =>
                obtain rfl := Option.some.inj hop
                have gg : a.tmps.getD 18 undef = (.bool true) := hdep 2 _ 18 rfl rfl ⟨⟨2, .guard⟩, by simp, rfl, rfl⟩
                have p3 : a.tmps.getD 3 undef = (.slice (some ⟨g, 0, none⟩) n cap) := hsl 3 rfl
                exact .want rfl rfl (by rw [hsz]; simp) gg (wp_val (w' := wa) (v := (.slice (some ⟨g, 0, none⟩) n cap)) (by simp only [execOp, Act.eval]; rw [show a.tmps.getD 3 undef = _ from p3]; rfl) (hK _ _ (Below.refl _ _) rfl))
              | 4, hop =>
                obtain rfl := Option.some.inj hop
                have gg : a.tmps.getD 18 undef = (.bool true) := hdep 2 _ 18 rfl rfl ⟨⟨2, .guard⟩, by simp, rfl, rfl⟩
                have p5 : a.tmps.getD 5 undef = (.int .i64 (jj : Nat)) := hsl 5 rfl
                exact .want rfl rfl (by rw [hsz]; simp) gg (wp_val (w' := wa) (v := (.int .i64 (jj : Nat))) (by simp only [execOp, Act.eval]; rw [show a.tmps.getD 5 undef = _ from p5]; rfl) (hK _ _ (Below.refl _ _) rfl))
              | 5, hop =>
                obtain rfl := Option.some.inj hop
                have gg : a.tmps.getD 18 undef = (.bool true) := hdep 2 _ 18 rfl rfl ⟨⟨2, .guard⟩, by simp, rfl, rfl⟩
                have t3 : a.tmps.getD 19 undef = (.slice (some ⟨g, 0, none⟩) n cap) := hdep 3 _ 19 rfl rfl ⟨⟨3, .data⟩, by simp, rfl, rfl⟩
                have t4 : a.tmps.getD 20 undef = (.int .i64 (jj : Nat)) := hdep 4 _ 20 rfl rfl ⟨⟨4, .data⟩, by simp, rfl, rfl⟩
                exact .want rfl rfl (by rw [hsz]; simp) gg (wp_val (w' := wa) (v := (.pointer (some ⟨g, jj * 6, none⟩))) (by simp only [execOp, Act.eval]; rw [show a.tmps.getD 19 undef = _ from t3, show a.tmps.getD 20 undef = _ from t4]; simp only [Sem.run_bind, ix_sP hjn, Result.andThen_ok, Sem.run_pure]) (hK _ _ (Below.refl _ _) rfl))
              | 6, hop =>
                obtain rfl := Option.some.inj hop
                have gg : a.tmps.getD 18 undef = (.bool true) := hdep 2 _ 18 rfl rfl ⟨⟨2, .guard⟩, by simp, rfl, rfl⟩
                have t5 : a.tmps.getD 21 undef = (.pointer (some ⟨g, jj * 6, none⟩)) := hdep 5 _ 21 rfl rfl ⟨⟨5, .data⟩, by simp, rfl, rfl⟩
                exact .want rfl rfl (by rw [hsz]; simp) gg (wp_val (w' := wa) (v := (.pointer (some ⟨g, jj * 6, none⟩))) (by simp only [execOp, Act.eval]; rw [show a.tmps.getD 21 undef = _ from t5]; kernel_rfl) (hK _ _ (Below.refl _ _) rfl))
              | 7, hop =>
                obtain rfl := Option.some.inj hop
                have gg : a.tmps.getD 18 undef = (.bool true) := hdep 2 _ 18 rfl rfl ⟨⟨2, .guard⟩, by simp, rfl, rfl⟩
                have t6 : a.tmps.getD 22 undef = (.pointer (some ⟨g, jj * 6, none⟩)) := hdep 6 _ 22 rfl rfl ⟨⟨6, .data⟩, by simp, rfl, rfl⟩
                exact .want rfl rfl (by rw [hsz]; simp) gg (wp_val (w' := wa) (v := (.string (st (G i).1))) (by simp only [execOp, Act.eval]; rw [show a.tmps.getD 22 undef = _ from t6]; simp only [Sem.run_bind, hld1 _ hwa, Result.andThen_ok, Sem.run_pure]) (hK _ _ (Below.refl _ _) rfl))
              | 8, hop =>
                obtain rfl := Option.some.inj hop
                have gg : a.tmps.getD 18 undef = (.bool true) := hdep 2 _ 18 rfl rfl ⟨⟨2, .guard⟩, by simp, rfl, rfl⟩
                have p3 : a.tmps.getD 3 undef = (.slice (some ⟨g, 0, none⟩) n cap) := hsl 3 rfl
                exact .want rfl rfl (by rw [hsz]; simp) gg (wp_val (w' := wa) (v := (.slice (some ⟨g, 0, none⟩) n cap)) (by simp only [execOp, Act.eval]; rw [show a.tmps.getD 3 undef = _ from p3]; rfl) (hK _ _ (Below.refl _ _) rfl))
              | 9, hop =>
                obtain rfl := Option.some.inj hop
                have gg : a.tmps.getD 18 undef = (.bool true) := hdep 2 _ 18 rfl rfl ⟨⟨2, .guard⟩, by simp, rfl, rfl⟩
                have p5 : a.tmps.getD 5 undef = (.int .i64 (jj : Nat)) := hsl 5 rfl
                exact .want rfl rfl (by rw [hsz]; simp) gg (wp_val (w' := wa) (v := (.int .i64 (jj : Nat))) (by simp only [execOp, Act.eval]; rw [show a.tmps.getD 5 undef = _ from p5]; rfl) (hK _ _ (Below.refl _ _) rfl))
              | 10, hop =>
                obtain rfl := Option.some.inj hop
                have gg : a.tmps.getD 18 undef = (.bool true) := hdep 2 _ 18 rfl rfl ⟨⟨2, .guard⟩, by simp, rfl, rfl⟩
                have t9 : a.tmps.getD 25 undef = (.int .i64 (jj : Nat)) := hdep 9 _ 25 rfl rfl ⟨⟨9, .data⟩, by simp, rfl, rfl⟩
                exact .want rfl rfl (by rw [hsz]; simp) gg (wp_val (w' := wa) (v := (.int .i64 (jj - 1 : Nat))) (by simp only [execOp, Act.eval]; rw [show a.tmps.getD 25 undef = _ from t9]; simp only [Sem.run_bind, eqg_sub, hsb, Result.andThen_ok, Sem.run_pure]) (hK _ _ (Below.refl _ _) rfl))
              | 11, hop =>
                obtain rfl := Option.some.inj hop
                have gg : a.tmps.getD 18 undef = (.bool true) := hdep 2 _ 18 rfl rfl ⟨⟨2, .guard⟩, by simp, rfl, rfl⟩
                have t8 : a.tmps.getD 24 undef = (.slice (some ⟨g, 0, none⟩) n cap) := hdep 8 _ 24 rfl rfl ⟨⟨8, .data⟩, by simp, rfl, rfl⟩
                have t10 : a.tmps.getD 26 undef = (.int .i64 (jj - 1 : Nat)) := hdep 10 _ 26 rfl rfl ⟨⟨10, .data⟩, by simp, rfl, rfl⟩
                exact .want rfl rfl (by rw [hsz]; simp) gg (wp_val (w' := wa) (v := (.pointer (some ⟨g, (jj - 1) * 6, none⟩))) (by simp only [execOp, Act.eval]; rw [show a.tmps.getD 24 undef = _ from t8, show a.tmps.getD 26 undef = _ from t10]; simp only [Sem.run_bind, ix_sP hj1n, Result.andThen_ok, Sem.run_pure]) (hK _ _ (Below.refl _ _) rfl))
              | 12, hop =>
                obtain rfl := Option.some.inj hop
                have gg : a.tmps.getD 18 undef = (.bool true) := hdep 2 _ 18 rfl rfl ⟨⟨2, .guard⟩, by simp, rfl, rfl⟩
                have t11 : a.tmps.getD 27 undef = (.pointer (some ⟨g, (jj - 1) * 6, none⟩)) := hdep 11 _ 27 rfl rfl ⟨⟨11, .data⟩, by simp, rfl, rfl⟩
                exact .want rfl rfl (by rw [hsz]; simp) gg (wp_val (w' := wa) (v := (.pointer (some ⟨g, (jj - 1) * 6, none⟩))) (by simp only [execOp, Act.eval]; rw [show a.tmps.getD 27 undef = _ from t11]; kernel_rfl) (hK _ _ (Below.refl _ _) rfl))
              | 13, hop =>
                obtain rfl := Option.some.inj hop
                have gg : a.tmps.getD 18 undef = (.bool true) := hdep 2 _ 18 rfl rfl ⟨⟨2, .guard⟩, by simp, rfl, rfl⟩
                have t12 : a.tmps.getD 28 undef = (.pointer (some ⟨g, (jj - 1) * 6, none⟩)) := hdep 12 _ 28 rfl rfl ⟨⟨12, .data⟩, by simp, rfl, rfl⟩
                exact .want rfl rfl (by rw [hsz]; simp) gg (wp_val (w' := wa) (v := (.string (st (G (jj - 1)).1))) (by simp only [execOp, Act.eval]; rw [show a.tmps.getD 28 undef = _ from t12]; simp only [Sem.run_bind, hld2 _ hwa, Result.andThen_ok, Sem.run_pure]) (hK _ _ (Below.refl _ _) rfl))
              | 14, hop =>
                obtain rfl := Option.some.inj hop
                have gg : a.tmps.getD 18 undef = (.bool true) := hdep 2 _ 18 rfl rfl ⟨⟨2, .guard⟩, by simp, rfl, rfl⟩
                have t7 : a.tmps.getD 23 undef = (.string (st (G i).1)) := hdep 7 _ 23 rfl rfl ⟨⟨7, .data⟩, by simp, rfl, rfl⟩
                have t13 : a.tmps.getD 29 undef = (.string (st (G (jj - 1)).1)) := hdep 13 _ 29 rfl rfl ⟨⟨13, .data⟩, by simp, rfl, rfl⟩
                exact .want rfl rfl (by rw [hsz]; simp) gg (wp_val (w' := wa) (v := (.bool R)) (by simp only [execOp, Act.eval]; rw [show a.tmps.getD 23 undef = _ from t7, show a.tmps.getD 29 undef = _ from t13]; simp only [Sem.run_bind, eqg_lss, hzr, Result.andThen_ok, Sem.run_pure]) (hK _ _ (Below.refl _ _) rfl))
              | 15, _ => exact absurd rfl hj
              | _ + 16, hop => exact absurd hop (by simp)
            · intro a wa hwa hdf hsz hsl hrr K hK
              have t2 : a.tmps.getD 18 undef = (.bool true) := hrr 2 _ 18 rfl (by decide) rfl
              have t14 : a.tmps.getD 30 undef = (.bool R) := hrr 14 _ 30 rfl (by decide) rfl
              refine .plain rfl (wp_val (w' := wa) (v := (.bool R)) (by simp only [execOp, Act.eval]; rw [show a.tmps.getD 18 undef = _ from t2, show a.tmps.getD 30 undef = _ from t14]; rfl) ?_)
              refine hK _ wa ?_
              have hact := act_puts hdf hsz hsl
              clear hrr hsl hdf hsz hK t14 t2
              simp only [List.filterMap_cons, List.filterMap_nil, List.foldl_cons, List.foldl_nil] at hact
              rw [hact]
              generalize a.tmps.getD 16 undef = y16
              generalize a.tmps.getD 17 undef = y17
              generalize a.tmps.getD 18 undef = y18
              generalize a.tmps.getD 19 undef = y19
              generalize a.tmps.getD 20 undef = y20
              generalize a.tmps.getD 21 undef = y21
              generalize a.tmps.getD 22 undef = y22
              generalize a.tmps.getD 23 undef = y23
              generalize a.tmps.getD 24 undef = y24
              generalize a.tmps.getD 25 undef = y25
              generalize a.tmps.getD 26 undef = y26
              generalize a.tmps.getD 27 undef = y27
              generalize a.tmps.getD 28 undef = y28
              generalize a.tmps.getD 29 undef = y29
              generalize a.tmps.getD 30 undef = y30
              clear hact
              simp only [Act.put, List.setIfInBounds_toArray, List.set_cons_succ, List.set_cons_zero]
              have hR4 := hide1 (hR.out.later hwa)
              have hK4 : Hid (Kg g w1 wa) := hide1 (hK.out.trans (Kg.ofB hwa))
              clear hld1 hld2 hzr hgt hwa hR hK
              cases R with
              | true =>
                have hxy : jj ≠ jj - 1 := by omega
                have hsr : Hid (sr (rot G jj i (i + 1)) jj (jj - 1) 1 = rot G (jj - 1) i (i + 1)) := hide1 (by
                  have := rot_dn G (m := i) (k := jj - 1) (by omega)
                  rwa [show jj - 1 + 1 = jj by omega] at this)
                have hpast2 : Hid (∀ k, jj - 1 ≤ k → k < i → ltE (G i) (G k) = true) := hide1 fun k h1 h2 => by
                  by_cases ek : k = jj - 1
                  · rw [ek]; exact hRd.out.symm
                  · exact hpast.out k (by omega) h2
                go_upto_region 8 with fail
                refine wp_rel5 _ _ (fun _ j v _ => RPv g n cap jj (rot G jj i (i + 1)) j v) (fun D w => Msw wa B g n cap (rot G jj i (i + 1)) (jj) (jj - 1) (D 15) (D 17) w) RPvd (by kernel_rfl) (by kernel_rfl) 18 (by kernel_rfl) ?_ ?_ rfl (msw_start hjn hj1n hR4.out) ?_ ?_
                · intro ix o ho
                  match ix, ho with
                  | 0, ho => obtain rfl := Option.some.inj ho; exact .inl ⟨rfl, by show 34 < 51; decide⟩
                  | 1, ho => obtain rfl := Option.some.inj ho; exact .inl ⟨rfl, by show 35 < 51; decide⟩
                  | 2, ho => obtain rfl := Option.some.inj ho; exact .inl ⟨rfl, by show 36 < 51; decide⟩
                  | 3, ho => obtain rfl := Option.some.inj ho; exact .inl ⟨rfl, by show 37 < 51; decide⟩
                  | 4, ho => obtain rfl := Option.some.inj ho; exact .inl ⟨rfl, by show 38 < 51; decide⟩
                  | 5, ho => obtain rfl := Option.some.inj ho; exact .inl ⟨rfl, by show 39 < 51; decide⟩
                  | 6, ho => obtain rfl := Option.some.inj ho; exact .inl ⟨rfl, by show 40 < 51; decide⟩
                  | 7, ho => obtain rfl := Option.some.inj ho; exact .inl ⟨rfl, by show 41 < 51; decide⟩
                  | 8, ho => obtain rfl := Option.some.inj ho; exact .inl ⟨rfl, by show 42 < 51; decide⟩
                  | 9, ho => obtain rfl := Option.some.inj ho; exact .inl ⟨rfl, by show 43 < 51; decide⟩
                  | 10, ho => obtain rfl := Option.some.inj ho; exact .inl ⟨rfl, by show 44 < 51; decide⟩
                  | 11, ho => obtain rfl := Option.some.inj ho; exact .inl ⟨rfl, by show 45 < 51; decide⟩
                  | 12, ho => obtain rfl := Option.some.inj ho; exact .inl ⟨rfl, by show 46 < 51; decide⟩
                  | 13, ho => obtain rfl := Option.some.inj ho; exact .inl ⟨rfl, by show 47 < 51; decide⟩
                  | 14, ho => obtain rfl := Option.some.inj ho; exact .inl ⟨rfl, by show 48 < 51; decide⟩
                  | 15, ho => obtain rfl := Option.some.inj ho; exact .inr ⟨⟨rfl, fun _ _ _ _ => trivial⟩, by show 51 ≤ 1015; decide⟩
                  | 16, ho => obtain rfl := Option.some.inj ho; exact .inl ⟨rfl, by show 49 < 51; decide⟩
                  | 17, ho => obtain rfl := Option.some.inj ho; exact .inr ⟨⟨rfl, fun _ _ _ _ => trivial⟩, by show 51 ≤ 1017; decide⟩
                  | _ + 18, ho => exact absurd ho (by simp)
                · intro ix jx hi hj e; unfold RPvd at e; split at e <;> split at e <;> omega
                · intro ix o ho
                  match ix, ho with
                  | 0, ho =>
                    obtain rfl := Option.some.inj ho
                    intro D a w hM hsl hdep hDi hcl K hK
                    have hp3 : a.tmps.getD 3 undef = (.slice (some ⟨g, 0, none⟩) n cap) := hsl 3 (by intro j hj; unfold RPvd; split <;> omega)
                    refine ⟨rfl, ?_⟩
                    refine wp_val (w' := w) (v := (.slice (some ⟨g, 0, none⟩) n cap)) (by simp only [execOp, Act.eval]; rw [show a.tmps.getD 3 undef = _ from hp3]; rfl) ?_
                    exact hK _ _ rfl (msw_ne (by decide) (by decide) hM) (fun _ _ _ _ h => h)
                  | 1, ho =>
                    obtain rfl := Option.some.inj ho
                    intro D a w hM hsl hdep hDi hcl K hK
                    have hp5 : a.tmps.getD 5 undef = (.int .i64 (jj : Nat)) := hsl 5 (by intro j hj; unfold RPvd; split <;> omega)
                    refine ⟨rfl, ?_⟩
                    refine wp_val (w' := w) (v := (.int .i64 (jj : Nat))) (by simp only [execOp, Act.eval]; rw [show a.tmps.getD 5 undef = _ from hp5]; rfl) ?_
                    exact hK _ _ rfl (msw_ne (by decide) (by decide) hM) (fun _ _ _ _ h => h)
                  | 2, ho =>
                    obtain rfl := Option.some.inj ho
                    intro D a w hM hsl hdep hDi hcl K hK
                    have hp3 : a.tmps.getD 3 undef = (.slice (some ⟨g, 0, none⟩) n cap) := hsl 3 (by intro j hj; unfold RPvd; split <;> omega)
                    refine ⟨rfl, ?_⟩
                    refine wp_val (w' := w) (v := (.slice (some ⟨g, 0, none⟩) n cap)) (by simp only [execOp, Act.eval]; rw [show a.tmps.getD 3 undef = _ from hp3]; rfl) ?_
                    exact hK _ _ rfl (msw_ne (by decide) (by decide) hM) (fun _ _ _ _ h => h)
                  | 3, ho =>
                    obtain rfl := Option.some.inj ho
                    intro D a w hM hsl hdep hDi hcl K hK
                    have hp5 : a.tmps.getD 5 undef = (.int .i64 (jj : Nat)) := hsl 5 (by intro j hj; unfold RPvd; split <;> omega)
                    refine ⟨rfl, ?_⟩
                    refine wp_val (w' := w) (v := (.int .i64 (jj : Nat))) (by simp only [execOp, Act.eval]; rw [show a.tmps.getD 5 undef = _ from hp5]; rfl) ?_
                    exact hK _ _ rfl (msw_ne (by decide) (by decide) hM) (fun _ _ _ _ h => h)
                  | 4, ho =>
                    obtain rfl := Option.some.inj ho
                    intro D a w hM hsl hdep hDi hcl K hK
                    have e3 := (hdep ⟨3, .data⟩ (by simp) rfl).1
                    refine ⟨rfl, ?_⟩
                    refine wp_val (w' := w) (v := (.int .i64 (jj - 1 : Nat))) (by simp only [execOp, Act.eval]; rw [show a.tmps.getD 37 undef = _ from e3]; simp only [Sem.run_bind, eqg_sub, hsb, Result.andThen_ok, Sem.run_pure]) ?_
                    exact hK _ _ rfl (msw_ne (by decide) (by decide) hM) (fun _ _ _ _ h => h)
                  | 5, ho =>
                    obtain rfl := Option.some.inj ho
                    intro D a w hM hsl hdep hDi hcl K hK
                    have hp3 : a.tmps.getD 3 undef = (.slice (some ⟨g, 0, none⟩) n cap) := hsl 3 (by intro j hj; unfold RPvd; split <;> omega)
                    refine ⟨rfl, ?_⟩
                    refine wp_val (w' := w) (v := (.slice (some ⟨g, 0, none⟩) n cap)) (by simp only [execOp, Act.eval]; rw [show a.tmps.getD 3 undef = _ from hp3]; rfl) ?_
                    exact hK _ _ rfl (msw_ne (by decide) (by decide) hM) (fun _ _ _ _ h => h)
                  | 6, ho =>
                    obtain rfl := Option.some.inj ho
                    intro D a w hM hsl hdep hDi hcl K hK
                    have hp5 : a.tmps.getD 5 undef = (.int .i64 (jj : Nat)) := hsl 5 (by intro j hj; unfold RPvd; split <;> omega)
                    refine ⟨rfl, ?_⟩
                    refine wp_val (w' := w) (v := (.int .i64 (jj : Nat))) (by simp only [execOp, Act.eval]; rw [show a.tmps.getD 5 undef = _ from hp5]; rfl) ?_
                    exact hK _ _ rfl (msw_ne (by decide) (by decide) hM) (fun _ _ _ _ h => h)
                  | 7, ho =>
                    obtain rfl := Option.some.inj ho
                    intro D a w hM hsl hdep hDi hcl K hK
                    have e6 := (hdep ⟨6, .data⟩ (by simp) rfl).1
                    refine ⟨rfl, ?_⟩
                    refine wp_val (w' := w) (v := (.int .i64 (jj - 1 : Nat))) (by simp only [execOp, Act.eval]; rw [show a.tmps.getD 40 undef = _ from e6]; simp only [Sem.run_bind, eqg_sub, hsb, Result.andThen_ok, Sem.run_pure]) ?_
                    exact hK _ _ rfl (msw_ne (by decide) (by decide) hM) (fun _ _ _ _ h => h)
                  | 8, ho =>
                    obtain rfl := Option.some.inj ho
                    intro D a w hM hsl hdep hDi hcl K hK
                    have e5 := (hdep ⟨5, .data⟩ (by simp) rfl).1
                    have e7 := (hdep ⟨7, .data⟩ (by simp) rfl).1
                    refine ⟨rfl, ?_⟩
                    refine wp_val (w' := w) (v := .pointer (some ⟨g, (jj - 1) * 6, none⟩)) (by simp only [execOp, Act.eval]; rw [show a.tmps.getD 39 undef = _ from e5, show a.tmps.getD 41 undef = _ from e7]; simp only [Sem.run_bind, ix_sP hj1n, Result.andThen_ok, Sem.run_pure]) ?_
                    exact hK _ _ rfl (msw_ne (by decide) (by decide) hM) (fun _ _ _ _ h => h)
                  | 9, ho =>
                    obtain rfl := Option.some.inj ho
                    intro D a w hM hsl hdep hDi hcl K hK
                    have e8 := (hdep ⟨8, .data⟩ (by simp) rfl).1
                    have hD15 : D 15 = false := by cases h9 : D 15 with | false => rfl | true => have := hcl 15 _ rfl h9 ⟨9, .data⟩ (by simp) rfl; rw [this] at hDi; cases hDi
                    have hD17 : D 17 = false := by cases h9 : D 17 with | false => rfl | true => have := hcl 17 _ rfl h9 ⟨9, .phase⟩ (by simp) rfl; rw [this] at hDi; cases hDi
                    have hl := (msw_00 hD15 hD17 hM).load hj1n
                    refine ⟨rfl, ?_⟩
                    refine wp_val (w' := w) (v := .agg (cl ((rot G jj i (i + 1)) (jj - 1))).toArray) (by simp only [execOp, Act.eval]; rw [show a.tmps.getD 42 undef = _ from e8]; simp only [Sem.run_bind, hl, Result.andThen_ok, Sem.run_pure]) ?_
                    exact hK _ _ rfl (msw_ne (by decide) (by decide) hM) (fun _ _ _ _ h => h)
                  | 10, ho =>
                    obtain rfl := Option.some.inj ho
                    intro D a w hM hsl hdep hDi hcl K hK
                    have hp3 : a.tmps.getD 3 undef = (.slice (some ⟨g, 0, none⟩) n cap) := hsl 3 (by intro j hj; unfold RPvd; split <;> omega)
                    refine ⟨rfl, ?_⟩
                    refine wp_val (w' := w) (v := (.slice (some ⟨g, 0, none⟩) n cap)) (by simp only [execOp, Act.eval]; rw [show a.tmps.getD 3 undef = _ from hp3]; rfl) ?_
                    exact hK _ _ rfl (msw_ne (by decide) (by decide) hM) (fun _ _ _ _ h => h)
                  | 11, ho =>
                    obtain rfl := Option.some.inj ho
                    intro D a w hM hsl hdep hDi hcl K hK
                    have hp5 : a.tmps.getD 5 undef = (.int .i64 (jj : Nat)) := hsl 5 (by intro j hj; unfold RPvd; split <;> omega)
                    refine ⟨rfl, ?_⟩
                    refine wp_val (w' := w) (v := (.int .i64 (jj : Nat))) (by simp only [execOp, Act.eval]; rw [show a.tmps.getD 5 undef = _ from hp5]; rfl) ?_
                    exact hK _ _ rfl (msw_ne (by decide) (by decide) hM) (fun _ _ _ _ h => h)
                  | 12, ho =>
                    obtain rfl := Option.some.inj ho
                    intro D a w hM hsl hdep hDi hcl K hK
                    have e10 := (hdep ⟨10, .data⟩ (by simp) rfl).1
                    have e11 := (hdep ⟨11, .data⟩ (by simp) rfl).1
                    refine ⟨rfl, ?_⟩
                    refine wp_val (w' := w) (v := .pointer (some ⟨g, (jj) * 6, none⟩)) (by simp only [execOp, Act.eval]; rw [show a.tmps.getD 44 undef = _ from e10, show a.tmps.getD 45 undef = _ from e11]; simp only [Sem.run_bind, ix_sP hjn, Result.andThen_ok, Sem.run_pure]) ?_
                    exact hK _ _ rfl (msw_ne (by decide) (by decide) hM) (fun _ _ _ _ h => h)
                  | 13, ho =>
                    obtain rfl := Option.some.inj ho
                    intro D a w hM hsl hdep hDi hcl K hK
                    have e12 := (hdep ⟨12, .data⟩ (by simp) rfl).1
                    have hD15 : D 15 = false := by cases h9 : D 15 with | false => rfl | true => have := hcl 15 _ rfl h9 ⟨13, .phase⟩ (by simp) rfl; rw [this] at hDi; cases hDi
                    have hD17 : D 17 = false := by cases h9 : D 17 with | false => rfl | true => have := hcl 17 _ rfl h9 ⟨13, .data⟩ (by simp) rfl; rw [this] at hDi; cases hDi
                    have hl := (msw_00 hD15 hD17 hM).load hjn
                    refine ⟨rfl, ?_⟩
                    refine wp_val (w' := w) (v := .agg (cl ((rot G jj i (i + 1)) (jj))).toArray) (by simp only [execOp, Act.eval]; rw [show a.tmps.getD 46 undef = _ from e12]; simp only [Sem.run_bind, hl, Result.andThen_ok, Sem.run_pure]) ?_
                    exact hK _ _ rfl (msw_ne (by decide) (by decide) hM) (fun _ _ _ _ h => h)
                  | 14, ho =>
                    obtain rfl := Option.some.inj ho
                    intro D a w hM hsl hdep hDi hcl K hK
                    have e0 := (hdep ⟨0, .data⟩ (by simp) rfl).1
                    have e1 := (hdep ⟨1, .data⟩ (by simp) rfl).1
                    refine ⟨rfl, ?_⟩
                    refine wp_val (w' := w) (v := .pointer (some ⟨g, (jj) * 6, none⟩)) (by simp only [execOp, Act.eval]; rw [show a.tmps.getD 34 undef = _ from e0, show a.tmps.getD 35 undef = _ from e1]; simp only [Sem.run_bind, ix_sP hjn, Result.andThen_ok, Sem.run_pure]) ?_
                    exact hK _ _ rfl (msw_ne (by decide) (by decide) hM) (fun _ _ _ _ h => h)
                  | 15, ho =>
                    obtain rfl := Option.some.inj ho
                    intro D a w hM hsl hdep hDi hcl K hK
                    have e14 := (hdep ⟨14, .data⟩ (by simp) rfl).1
                    have e9 := (hdep ⟨9, .data⟩ (by simp) rfl).1
                    obtain ⟨c, hst, hM2⟩ := msw_1 (s1 := 15) (s2 := 17) (by decide) hxy hjn hDi hM
                    refine ⟨rfl, ?_⟩
                    refine wp_skp (w' := w.setRow g c) (by simp only [execOp, Act.eval]; rw [show a.tmps.getD 48 undef = _ from e14, show a.tmps.getD 43 undef = _ from e9]; simp only [Sem.run_bind, hst, Result.andThen_ok, Sem.run_pure]) ?_
                    exact hK _ _ trivial hM2 (fun _ _ _ _ h => h)
                  | 16, ho =>
                    obtain rfl := Option.some.inj ho
                    intro D a w hM hsl hdep hDi hcl K hK
                    have e2 := (hdep ⟨2, .data⟩ (by simp) rfl).1
                    have e4 := (hdep ⟨4, .data⟩ (by simp) rfl).1
                    refine ⟨rfl, ?_⟩
                    refine wp_val (w' := w) (v := .pointer (some ⟨g, (jj - 1) * 6, none⟩)) (by simp only [execOp, Act.eval]; rw [show a.tmps.getD 36 undef = _ from e2, show a.tmps.getD 38 undef = _ from e4]; simp only [Sem.run_bind, ix_sP hj1n, Result.andThen_ok, Sem.run_pure]) ?_
                    exact hK _ _ rfl (msw_ne (by decide) (by decide) hM) (fun _ _ _ _ h => h)
                  | 17, ho =>
                    obtain rfl := Option.some.inj ho
                    intro D a w hM hsl hdep hDi hcl K hK
                    have e16 := (hdep ⟨16, .data⟩ (by simp) rfl).1
                    have e13 := (hdep ⟨13, .data⟩ (by simp) rfl).1
                    obtain ⟨c, hst, hM2⟩ := msw_2 (s1 := 15) (s2 := 17) (by decide) hxy hj1n hDi hM
                    refine ⟨rfl, ?_⟩
                    refine wp_skp (w' := w.setRow g c) (by simp only [execOp, Act.eval]; rw [show a.tmps.getD 49 undef = _ from e16, show a.tmps.getD 47 undef = _ from e13]; simp only [Sem.run_bind, hst, Result.andThen_ok, Sem.run_pure]) ?_
                    exact hK _ _ trivial hM2 (fun _ _ _ _ h => h)
                  | _ + 18, ho => exact absurd ho (by simp)
                · intro D a wt hall hd hs hM hsl hr hact
                  replace hM := msw_11 hxy (hall 15 (by decide)) (hall 17 (by decide)) hM
                  simp only [List.filterMap_cons, List.filterMap_nil, List.foldl_cons, List.foldl_nil] at hact
                  rw [hact]
                  generalize a.tmps.getD 34 undef = y34
                  generalize a.tmps.getD 35 undef = y35
                  generalize a.tmps.getD 36 undef = y36
                  generalize a.tmps.getD 37 undef = y37
                  generalize a.tmps.getD 38 undef = y38
                  generalize a.tmps.getD 39 undef = y39
                  generalize a.tmps.getD 40 undef = y40
                  generalize a.tmps.getD 41 undef = y41
                  generalize a.tmps.getD 42 undef = y42
                  generalize a.tmps.getD 43 undef = y43
                  generalize a.tmps.getD 44 undef = y44
                  generalize a.tmps.getD 45 undef = y45
                  generalize a.tmps.getD 46 undef = y46
                  generalize a.tmps.getD 47 undef = y47
                  generalize a.tmps.getD 48 undef = y48
                  generalize a.tmps.getD 49 undef = y49
                  clear hact hsl hr hd hs hall a
                  simp only [Act.put, List.setIfInBounds_toArray, List.set_cons_succ, List.set_cons_zero]
                  obtain ⟨hR5, hO5⟩ := hM
                  rw [hsr.out] at hR5
                  have hR6 := hide1 hR5
                  have hK6 : Hid (Kg g w1 wt) := hide1 (hK4.out.trans hO5.kg)
                  clear hR5 hO5 hsr hsb hR4 hK4
                  go_wp2
                  go_roundw
                  case rel => exact ⟨jj - 1, by congr 1; omega, by omega, by omega, hpast2, hR6, hK6⟩
                  case measure => simp [intOf]; omega
              | false =>
                have hst := hfin (.inl hRd.out.symm)
                clear hfin hpast hrs hRd hsb
                go_wp2
                go_roundw
                case rel => exact ⟨i + 1, _, by first | rfl | (congr 1; omega) | go_num, by omega, by omega, hst, hR4, hK4⟩
                case measure => simp [intOf]; omega
          · have hst := hfin (.inr (by omega))
            have hgt : ∀ w : World, (binOp .gtr 3 (.int .i64 (jj : Nat)) (.int .i64 0)).run Tryz.prog w = .ok (.bool false) w := fun w => by rw [gt_z, decide_eq_false hgt']
            clear hfin hpast hrs
            go_upto_region 6 with fail
            refine wp_flowG 15 _ _ (by kernel_rfl) (by kernel_rfl) (by kernel_rfl) rfl (fun j v _ => v = ([(.int .i64 (jj : Nat)), (.bool false), (.bool false), undef, undef, undef, undef, undef, undef, undef, undef, undef, undef, undef, undef, (.bool false)] : List Value).getD j undef) (fun _ _ _ _ h _ => h) ?_ ?_
            · intro j op hop hj a wa hwa hsz hsl hdep K hK
              match j, hop with
              | 0, hop =>
                obtain rfl := Option.some.inj hop
                have p5 : a.tmps.getD 5 undef = (.int .i64 (jj : Nat)) := hsl 5 rfl
                exact .plain rfl (wp_val (w' := wa) (v := (.int .i64 (jj : Nat))) (by simp only [execOp, Act.eval]; rw [show a.tmps.getD 5 undef = _ from p5]; rfl) (hK _ _ (Below.refl _ _) rfl))
              | 1, hop =>
                obtain rfl := Option.some.inj hop
                have t0 : a.tmps.getD 16 undef = (.int .i64 (jj : Nat)) := hdep 0 _ 16 rfl rfl ⟨⟨0, .data⟩, by simp, rfl, rfl⟩
                exact .plain rfl (wp_val (w' := wa) (v := (.bool false)) (by simp only [execOp, Act.eval]; rw [show a.tmps.getD 16 undef = _ from t0]; simp only [Sem.run_bind, eqg_gtr, hgt, Result.andThen_ok, Sem.run_pure]) (hK _ _ (Below.refl _ _) rfl))
              | 2, hop =>
                obtain rfl := Option.some.inj hop
                have t1 : a.tmps.getD 17 undef = (.bool false) := hdep 1 _ 17 rfl rfl ⟨⟨1, .data⟩, by simp, rfl, rfl⟩
                exact .plain rfl (wp_val (w' := wa) (v := (.bool false)) (by simp only [execOp, Act.eval]; rw [show a.tmps.getD 17 undef = _ from t1]; rfl) (hK _ _ (Below.refl _ _) rfl))
              | 3, hop =>
                obtain rfl := Option.some.inj hop
                have gg : a.tmps.getD 18 undef = (.bool false) := hdep 2 _ 18 rfl rfl ⟨⟨2, .guard⟩, by simp, rfl, rfl⟩
                exact .skip rfl rfl (by rw [hsz]; simp) gg (hK _ _ (Below.refl _ _) rfl)
              | 4, hop =>
                obtain rfl := Option.some.inj hop
                have gg : a.tmps.getD 18 undef = (.bool false) := hdep 2 _ 18 rfl rfl ⟨⟨2, .guard⟩, by simp, rfl, rfl⟩
                exact .skip rfl rfl (by rw [hsz]; simp) gg (hK _ _ (Below.refl _ _) rfl)
              | 5, hop =>
                obtain rfl := Option.some.inj hop
                have gg : a.tmps.getD 18 undef = (.bool false) := hdep 2 _ 18 rfl rfl ⟨⟨2, .guard⟩, by simp, rfl, rfl⟩
                exact .skip rfl rfl (by rw [hsz]; simp) gg (hK _ _ (Below.refl _ _) rfl)
              | 6, hop =>
                obtain rfl := Option.some.inj hop
                have gg : a.tmps.getD 18 undef = (.bool false) := hdep 2 _ 18 rfl rfl ⟨⟨2, .guard⟩, by simp, rfl, rfl⟩
                exact .skip rfl rfl (by rw [hsz]; simp) gg (hK _ _ (Below.refl _ _) rfl)
              | 7, hop =>
                obtain rfl := Option.some.inj hop
                have gg : a.tmps.getD 18 undef = (.bool false) := hdep 2 _ 18 rfl rfl ⟨⟨2, .guard⟩, by simp, rfl, rfl⟩
                exact .skip rfl rfl (by rw [hsz]; simp) gg (hK _ _ (Below.refl _ _) rfl)
              | 8, hop =>
                obtain rfl := Option.some.inj hop
                have gg : a.tmps.getD 18 undef = (.bool false) := hdep 2 _ 18 rfl rfl ⟨⟨2, .guard⟩, by simp, rfl, rfl⟩
                exact .skip rfl rfl (by rw [hsz]; simp) gg (hK _ _ (Below.refl _ _) rfl)
              | 9, hop =>
                obtain rfl := Option.some.inj hop
                have gg : a.tmps.getD 18 undef = (.bool false) := hdep 2 _ 18 rfl rfl ⟨⟨2, .guard⟩, by simp, rfl, rfl⟩
                exact .skip rfl rfl (by rw [hsz]; simp) gg (hK _ _ (Below.refl _ _) rfl)
              | 10, hop =>
                obtain rfl := Option.some.inj hop
                have gg : a.tmps.getD 18 undef = (.bool false) := hdep 2 _ 18 rfl rfl ⟨⟨2, .guard⟩, by simp, rfl, rfl⟩
                exact .skip rfl rfl (by rw [hsz]; simp) gg (hK _ _ (Below.refl _ _) rfl)
              | 11, hop =>
                obtain rfl := Option.some.inj hop
                have gg : a.tmps.getD 18 undef = (.bool false) := hdep 2 _ 18 rfl rfl ⟨⟨2, .guard⟩, by simp, rfl, rfl⟩
                exact .skip rfl rfl (by rw [hsz]; simp) gg (hK _ _ (Below.refl _ _) rfl)
              | 12, hop =>
                obtain rfl := Option.some.inj hop
                have gg : a.tmps.getD 18 undef = (.bool false) := hdep 2 _ 18 rfl rfl ⟨⟨2, .guard⟩, by simp, rfl, rfl⟩
                exact .skip rfl rfl (by rw [hsz]; simp) gg (hK _ _ (Below.refl _ _) rfl)
              | 13, hop =>
                obtain rfl := Option.some.inj hop
                have gg : a.tmps.getD 18 undef = (.bool false) := hdep 2 _ 18 rfl rfl ⟨⟨2, .guard⟩, by simp, rfl, rfl⟩
                exact .skip rfl rfl (by rw [hsz]; simp) gg (hK _ _ (Below.refl _ _) rfl)
              | 14, hop =>
                obtain rfl := Option.some.inj hop
                have gg : a.tmps.getD 18 undef = (.bool false) := hdep 2 _ 18 rfl rfl ⟨⟨2, .guard⟩, by simp, rfl, rfl⟩
                exact .skip rfl rfl (by rw [hsz]; simp) gg (hK _ _ (Below.refl _ _) rfl)
              | 15, _ => exact absurd rfl hj
              | _ + 16, hop => exact absurd hop (by simp)
            · intro a wa hwa hdf hsz hsl hrr K hK
              have t2 : a.tmps.getD 18 undef = (.bool false) := hrr 2 _ 18 rfl (by decide) rfl
              have t14 : a.tmps.getD 30 undef = undef := hrr 14 _ 30 rfl (by decide) rfl
              refine .plain rfl (wp_val (w' := wa) (v := (.bool false)) (by simp only [execOp, Act.eval]; rw [show a.tmps.getD 18 undef = _ from t2, show a.tmps.getD 30 undef = _ from t14]; rfl) ?_)
              refine hK _ wa ?_
              have hact := act_puts hdf hsz hsl
              clear hrr hsl hdf hsz hK t14 t2
              simp only [List.filterMap_cons, List.filterMap_nil, List.foldl_cons, List.foldl_nil] at hact
              rw [hact]
              generalize a.tmps.getD 16 undef = y16
              generalize a.tmps.getD 17 undef = y17
              generalize a.tmps.getD 18 undef = y18
              generalize a.tmps.getD 19 undef = y19
              generalize a.tmps.getD 20 undef = y20
              generalize a.tmps.getD 21 undef = y21
              generalize a.tmps.getD 22 undef = y22
              generalize a.tmps.getD 23 undef = y23
              generalize a.tmps.getD 24 undef = y24
              generalize a.tmps.getD 25 undef = y25
              generalize a.tmps.getD 26 undef = y26
              generalize a.tmps.getD 27 undef = y27
              generalize a.tmps.getD 28 undef = y28
              generalize a.tmps.getD 29 undef = y29
              generalize a.tmps.getD 30 undef = y30
              clear hact
              simp only [Act.put, List.setIfInBounds_toArray, List.set_cons_succ, List.set_cons_zero]
              have hR4 := hide1 (hR.out.later hwa)
              have hK4 : Hid (Kg g w1 wa) := hide1 (hK.out.trans (Kg.ofB hwa))
              clear hgt hwa hR hK
              go_wp2
              go_roundw
              case rel => exact ⟨i + 1, _, by first | rfl | (congr 1; omega) | go_num, by omega, by omega, hst, hR4, hK4⟩
              case measure => simp [intOf]; omega
      · have hei : i = n := by omega
        have hfin : Hid (sg G 0 n = ss ltE (sg E 0 n)) := hide1 (by
          have := hstd.out.2
          rw [hei] at this
          simpa using this)
        go_wp2
        go_ret
        refine ⟨g, cap, G, rfl, by rw [← hBe.out]; exact hgB, by rw [← hBe.out]; exact hRo.out, hfin.out, Kg.out hbw.out hKo.out (by rw [← hBe.out]; exact hgB)⟩
def rz : Nat → T → List UInt8
  | 0, _ => []
  | n + 1, .mk k i s l p => if k = 0 then [110, 117, 108, 108] else if k = 1 then Lib.formatBool (decide (i = 1)) else if k = 2 then Lib.itoa i else if k = 3 then qu s
    else if k = 4 then 91 :: (cj (l.map (rz n)) ++ [93]) else if k = 5 then 123 :: (cj ((ss ltT p).map fun q => qu q.1 ++ 58 :: rz n q.2) ++ [125]) else []
def shT : Nat → T → Prop
  | 0, _ => True
  | h + 1, .mk _ _ s l p => s.length ≤ 100000 ∧ (∀ t ∈ l, shT h t) ∧ ∀ q ∈ p, q.1.length ≤ 100000 ∧ shT h q.2
theorem mg_map {α β : Type} {lt : α → α → Bool} {lt' : β → β → Bool} (f : α → β) (hf : ∀ a b, lt' (f a) (f b) = lt a b) : ∀ A B : List α, (mg lt A B).map f = mg lt' (A.map f) (B.map f)
  | [], B => rfl
  | x :: A, B => by
    have h1 : (B.takeWhile (lt · x)).map f = (B.map f).takeWhile (lt' · (f x)) := by
      rw [List.takeWhile_map]; congr 1; congr 1; funext b; simp [hf]
    have h2 : (B.dropWhile (lt · x)).map f = (B.map f).dropWhile (lt' · (f x)) := by
      rw [List.dropWhile_map]; congr 1; congr 1; funext b; simp [hf]
    show (B.takeWhile (lt · x) ++ x :: mg lt A (B.dropWhile (lt · x))).map f = (B.map f).takeWhile (lt' · (f x)) ++ f x :: mg lt' (A.map f) ((B.map f).dropWhile (lt' · (f x)))
    rw [List.map_append, List.map_cons, mg_map f hf A, h1, h2]
theorem ss_map {α β : Type} {lt : α → α → Bool} {lt' : β → β → Bool} (f : α → β) (hf : ∀ a b, lt' (f a) (f b) = lt a b) (L : List α) : (ss lt L).map f = ss lt' (L.map f) := by
  have : ∀ (L P : List α), (L.foldl (fun P x => mg lt P [x]) P).map f = (L.map f).foldl (fun P x => mg lt' P [x]) (P.map f) := by
    intro L
    induction L with
    | nil => intro P; rfl
    | cons x L ih =>
      intro P
      simp only [List.foldl_cons, List.map_cons]
      rw [ih, mg_map f hf]; rfl
  exact this L []
theorem rz_cz : ∀ (n : Nat) (t : T), gd n t = true → rz (n + 1) t = cz (n + 1) (so n t)
  | 0, .mk k i s l p, hg => by
    obtain ⟨g1, g2, _⟩ := gd_list hg
    have hl : l = [] := by
      rcases g1 with e | ⟨m, e, _⟩
      · exact e
      · omega
    have hp : p = [] := by
      rcases g2 with e | ⟨m, e, _⟩
      · exact e
      · omega
    subst hl hp
    show rz 1 (.mk k i s [] []) = cz 1 (.mk k i s [] [])
    unfold rz cz
    rfl
  | n + 1, .mk k i s l p, hg => by
    obtain ⟨g1, g2, _⟩ := gd_list hg
    have hl : l.map (rz (n + 1)) = (l.map (so n)).map (cz (n + 1)) := by
      rw [List.map_map]
      refine List.map_congr_left fun t ht => ?_
      rcases g1 with e | ⟨m, e, g⟩
      · rw [e] at ht; simp at ht
      · cases e
        exact rz_cz n t (g t ht)
    have hp : ((ss ltT p).map fun q => qu q.1 ++ 58 :: rz (n + 1) q.2) = (ss ltT (p.map fun q => (q.1, so n q.2))).map fun q => qu q.1 ++ 58 :: cz (n + 1) q.2 := by
      rw [← ss_map (lt := ltT) (fun q : Tp => (q.1, so n q.2)) (fun _ _ => rfl), List.map_map]
      refine List.map_congr_left fun q hq => ?_
      rcases g2 with e | ⟨m, e, g⟩
      · rw [e] at hq; simp [ss] at hq
      · cases e
        show _ = qu q.1 ++ 58 :: cz (n + 1) (so n q.2)
        rw [rz_cz n q.2 (g q (ss_mem.1 hq))]
    show rz (n + 1 + 1) (.mk k i s l p) = cz (n + 1 + 1) (.mk k i s (l.map (so n)) (ss ltT (p.map fun q => (q.1, so n q.2))))
    rw [rz, cz, hl, hp]
set_option maxHeartbeats 4000000 in
set_option maxRecDepth 100000 in
theorem txt_0 {w : World} {sl sp : Value} {s : List UInt8} {ki : Int} : Calls Tryz.prog 39 #[.agg #[.int .i64 0, .int .i64 ki, .string (st s), sl, sp]] w (AnN w ([110, 117, 108, 108])) := by
  obtain ⟨wb, hwb⟩ : ∃ wb, wb = w.alloc (.cells #[.int .i64 0, .int .i64 ki, .string (st s), sl, sp] 28) := ⟨_, rfl⟩
  have hB : Below w.heap.size w wb := by rw [hwb]; exact (Below.refl _ _).alloc (Nat.le_refl _) _
  have hn : wb.heap[w.heap.size]? = some (.cells #[.int .i64 0, .int .i64 ki, .string (st s), sl, sp] 28 (0, 0)) := by
    rw [hwb]
    show (w.heap.push _)[w.heap.size]? = _
    rw [Array.getElem?_push, if_pos rfl]
  have c0 : wb.cell? ⟨w.heap.size, 0, none⟩ = some (.int .i64 0) := by simp only [World.cell?, hn]; rfl
  have c1 : wb.cell? ⟨w.heap.size, 1, none⟩ = some (.int .i64 ki) := by simp only [World.cell?, hn]; rfl
  have c2 : wb.cell? ⟨w.heap.size, 2, none⟩ = some (.string (st s)) := by simp only [World.cell?, hn]; rfl
  have c3 : wb.cell? ⟨w.heap.size, 3, none⟩ = some sl := by simp only [World.cell?, hn]; rfl
  have c4 : wb.cell? ⟨w.heap.size, 4, none⟩ = some sp := by simp only [World.cell?, hn]; rfl
  replace hB := hide1 hB
  clear hn
  go_enter Tryz.func39, Tryz.ntmps39
  go_upto_region 1 with fail
  rw [← hwb]
  clear hwb
  go_wp2
  go_ret
  exact ⟨rfl, hB.out⟩
set_option maxHeartbeats 4000000 in
set_option maxRecDepth 100000 in
theorem txt_1 {w : World} {sl sp : Value} {s : List UInt8} {ki : Int} : Calls Tryz.prog 39 #[.agg #[.int .i64 1, .int .i64 ki, .string (st s), sl, sp]] w (AnN w (Lib.formatBool (decide (ki = 1)))) := by
  obtain ⟨wb, hwb⟩ : ∃ wb, wb = w.alloc (.cells #[.int .i64 1, .int .i64 ki, .string (st s), sl, sp] 28) := ⟨_, rfl⟩
  have hB : Below w.heap.size w wb := by rw [hwb]; exact (Below.refl _ _).alloc (Nat.le_refl _) _
  have hn : wb.heap[w.heap.size]? = some (.cells #[.int .i64 1, .int .i64 ki, .string (st s), sl, sp] 28 (0, 0)) := by
    rw [hwb]
    show (w.heap.push _)[w.heap.size]? = _
    rw [Array.getElem?_push, if_pos rfl]
  have c0 : wb.cell? ⟨w.heap.size, 0, none⟩ = some (.int .i64 1) := by simp only [World.cell?, hn]; rfl
  have c1 : wb.cell? ⟨w.heap.size, 1, none⟩ = some (.int .i64 ki) := by simp only [World.cell?, hn]; rfl
  have c2 : wb.cell? ⟨w.heap.size, 2, none⟩ = some (.string (st s)) := by simp only [World.cell?, hn]; rfl
  have c3 : wb.cell? ⟨w.heap.size, 3, none⟩ = some sl := by simp only [World.cell?, hn]; rfl
  have c4 : wb.cell? ⟨w.heap.size, 4, none⟩ = some sp := by simp only [World.cell?, hn]; rfl
  by_cases h1 : ki = 1
  · subst h1
    replace hB := hide1 hB
    clear hn
    go_enter Tryz.func39, Tryz.ntmps39
    go_upto_region 1 with fail
    rw [← hwb]
    clear hwb
    go_wp2
    go_ret
    exact ⟨rfl, hB.out⟩
  · rw [decide_eq_false h1]
    replace hB := hide1 hB
    clear hn
    go_enter Tryz.func39, Tryz.ntmps39
    go_upto_region 1 with fail
    rw [← hwb]
    clear hwb
    go_wp2
    go_ret
    exact ⟨rfl, hB.out⟩
set_option maxHeartbeats 4000000 in
set_option maxRecDepth 100000 in
theorem txt_2 {w : World} {sl sp : Value} {s : List UInt8} {ki : Int} (hr : -9007199254740991 ≤ ki ∧ ki ≤ 9007199254740991) : Calls Tryz.prog 39 #[.agg #[.int .i64 2, .int .i64 ki, .string (st s), sl, sp]] w (AnN w (Lib.itoa ki)) := by
  obtain ⟨wb, hwb⟩ : ∃ wb, wb = w.alloc (.cells #[.int .i64 2, .int .i64 ki, .string (st s), sl, sp] 28) := ⟨_, rfl⟩
  have hB : Below w.heap.size w wb := by rw [hwb]; exact (Below.refl _ _).alloc (Nat.le_refl _) _
  have hn : wb.heap[w.heap.size]? = some (.cells #[.int .i64 2, .int .i64 ki, .string (st s), sl, sp] 28 (0, 0)) := by
    rw [hwb]
    show (w.heap.push _)[w.heap.size]? = _
    rw [Array.getElem?_push, if_pos rfl]
  have c0 : wb.cell? ⟨w.heap.size, 0, none⟩ = some (.int .i64 2) := by simp only [World.cell?, hn]; rfl
  have c1 : wb.cell? ⟨w.heap.size, 1, none⟩ = some (.int .i64 ki) := by simp only [World.cell?, hn]; rfl
  have c2 : wb.cell? ⟨w.heap.size, 2, none⟩ = some (.string (st s)) := by simp only [World.cell?, hn]; rfl
  have c3 : wb.cell? ⟨w.heap.size, 3, none⟩ = some sl := by simp only [World.cell?, hn]; rfl
  have c4 : wb.cell? ⟨w.heap.size, 4, none⟩ = some sp := by simp only [World.cell?, hn]; rfl
  have hc := rnum_d (w := wb) hr
  replace hB := hide1 hB
  clear hn
  go_enter Tryz.func39, Tryz.ntmps39
  go_upto_region 1 with fail
  rw [← hwb]
  clear hwb
  go_wp2_with fail
  refine hc.mono ?_
  rintro e w1 ⟨rfl, b1⟩
  have B1 := hide1 (hB.out.trans (b1.mono hB.out.size))
  clear hc b1
  go_wp2
  go_ret
  exact ⟨rfl, B1.out⟩
set_option maxHeartbeats 4000000 in
set_option maxRecDepth 100000 in
theorem txt_3 {w : World} {sl sp : Value} {s : List UInt8} {ki : Int} (hr : s.length ≤ 100000) : Calls Tryz.prog 39 #[.agg #[.int .i64 3, .int .i64 ki, .string (st s), sl, sp]] w (AnN w (qu s)) := by
  obtain ⟨wb, hwb⟩ : ∃ wb, wb = w.alloc (.cells #[.int .i64 3, .int .i64 ki, .string (st s), sl, sp] 28) := ⟨_, rfl⟩
  have hB : Below w.heap.size w wb := by rw [hwb]; exact (Below.refl _ _).alloc (Nat.le_refl _) _
  have hn : wb.heap[w.heap.size]? = some (.cells #[.int .i64 3, .int .i64 ki, .string (st s), sl, sp] 28 (0, 0)) := by
    rw [hwb]
    show (w.heap.push _)[w.heap.size]? = _
    rw [Array.getElem?_push, if_pos rfl]
  have c0 : wb.cell? ⟨w.heap.size, 0, none⟩ = some (.int .i64 3) := by simp only [World.cell?, hn]; rfl
  have c1 : wb.cell? ⟨w.heap.size, 1, none⟩ = some (.int .i64 ki) := by simp only [World.cell?, hn]; rfl
  have c2 : wb.cell? ⟨w.heap.size, 2, none⟩ = some (.string (st s)) := by simp only [World.cell?, hn]; rfl
  have c3 : wb.cell? ⟨w.heap.size, 3, none⟩ = some sl := by simp only [World.cell?, hn]; rfl
  have c4 : wb.cell? ⟨w.heap.size, 4, none⟩ = some sp := by simp only [World.cell?, hn]; rfl
  have hc := rquote_d (w := wb) hr
  replace hB := hide1 hB
  clear hn
  go_enter Tryz.func39, Tryz.ntmps39
  go_upto_region 1 with fail
  rw [← hwb]
  clear hwb
  go_wp2_with fail
  refine hc.mono ?_
  rintro e w1 ⟨rfl, b1⟩
  have B1 := hide1 (hB.out.trans (b1.mono hB.out.size))
  clear hc b1
  go_wp2
  go_ret
  exact ⟨rfl, B1.out⟩
theorem cj_pre (A B : List (List UInt8)) : (cj A).length ≤ (cj (A ++ B)).length := by
  cases A with
  | nil => simp [cj]
  | cons x r => simp [cj]
theorem cj_take (L : List (List UInt8)) (j : Nat) : (cj (L.take j)).length ≤ (cj L).length := by
  have := cj_pre (L.take j) (L.drop j)
  rwa [List.take_append_drop] at this
theorem cj_step {L : List (List UInt8)} {j : Nat} {x : List UInt8} (h : L[j]? = some x) : cj (L.take (j + 1)) = if j = 0 then x else cj (L.take j) ++ 44 :: x := by
  have hj := (List.getElem?_eq_some_iff.1 h).1
  rw [List.take_add_one, h]
  show cj (L.take j ++ [x]) = _
  rw [cj_snoc]
  by_cases h0 : j = 0
  · rw [if_pos h0, if_pos (by rw [h0]; rfl)]
  · rw [if_neg h0, if_neg (fun e => by have := congrArg List.length e; rw [List.length_take, List.length_nil] at this; omega)]
set_option maxHeartbeats 4000000 in
set_option maxRecDepth 100000 in
theorem txt_4 {w : World} {sl sp : Value} {s : List UInt8} {ki : Int} {F : Nat → Prop} {cl : List (List Value)} {L : List (List UInt8)} (hrow : RwA F w 28 5 sl cl) (hln : L.length = cl.length) (hn2 : cl.length ≤ 1000000000) (hlen : (cj L).length ≤ 1000000000000)
    (hval : ∀ (i : Nat) (c : List Value) (x : List UInt8), cl[i]? = some c → L[i]? = some x → ∀ w1, Below w.heap.size w w1 → Calls Tryz.prog 39 #[.agg c.toArray] w1 (AnN w1 x)) : Calls Tryz.prog 39 #[.agg #[.int .i64 4, .int .i64 ki, .string (st s), sl, sp]] w (AnN w (91 :: (cj L ++ [93]))) := by
  obtain ⟨wb, hwb⟩ : ∃ wb, wb = w.alloc (.cells #[.int .i64 4, .int .i64 ki, .string (st s), sl, sp] 28) := ⟨_, rfl⟩
  have hB : Below w.heap.size w wb := by rw [hwb]; exact (Below.refl _ _).alloc (Nat.le_refl _) _
  have hn : wb.heap[w.heap.size]? = some (.cells #[.int .i64 4, .int .i64 ki, .string (st s), sl, sp] 28 (0, 0)) := by
    rw [hwb]
    show (w.heap.push _)[w.heap.size]? = _
    rw [Array.getElem?_push, if_pos rfl]
  have c0 : wb.cell? ⟨w.heap.size, 0, none⟩ = some (.int .i64 4) := by simp only [World.cell?, hn]; rfl
  have c1 : wb.cell? ⟨w.heap.size, 1, none⟩ = some (.int .i64 ki) := by simp only [World.cell?, hn]; rfl
  have c2 : wb.cell? ⟨w.heap.size, 2, none⟩ = some (.string (st s)) := by simp only [World.cell?, hn]; rfl
  have c3 : wb.cell? ⟨w.heap.size, 3, none⟩ = some sl := by simp only [World.cell?, hn]; rfl
  have c4 : wb.cell? ⟨w.heap.size, 4, none⟩ = some sp := by simp only [World.cell?, hn]; rfl
  obtain ⟨sa, scap, hsl⟩ : ∃ a cap, sl = .slice a cl.length cap := by
    obtain ⟨_, ⟨a, cap, h1, h2⟩ | ⟨b, o, cap, cur, fz, h1, _⟩⟩ := hrow
    · exact ⟨a, cap, by rw [h1, h2]; rfl⟩
    · exact ⟨_, cap, h1⟩
  subst hsl
  have hz : w.heap.size < wb.heap.size := (Array.getElem?_eq_some_iff.1 hn).1
  replace hB := hide1 hB
  replace hn := hide1 hn
  replace hlen := hide1 hlen
  go_enter Tryz.func39, Tryz.ntmps39
  go_upto_region 1 with fail
  rw [← hwb]
  clear hwb
  go_wp2_with fail
  go_loopw [3, 4] (fun v i wr => ∃ j : Nat, j ≤ cl.length ∧ i = .int .i64 (j : Nat) ∧ v = .string (st (cj (L.take j))) ∧ Hid (Below wb.heap.size wb wr)) (fun _ i _ => cl.length - (intOf i).toNat)
  case atStart => exact ⟨0, by omega, rfl, rfl, hide1 (Below.refl _ _)⟩
  case round =>
    clear c0 c1 c2 c3 c4
    obtain ⟨j, hj, rfl, rfl, hbw⟩ := hrel
    have hbr := (hbw.out.block w.heap.size hz).trans hn.out
    have c3 : wr.cell? ⟨w.heap.size, 3, none⟩ = some (.slice sa cl.length scap) := by simp only [World.cell?, hbr]; rfl
    have hBr : Hid (Below w.heap.size w wr) := hide1 (hB.out.trans (hbw.out.mono hB.out.size))
    have hPl := hide1 (cj_take L j)
    by_cases hlt : j < cl.length
    · obtain ⟨c, hc⟩ : ∃ c, cl[j]? = some c := ⟨_, List.getElem?_eq_getElem hlt⟩
      obtain ⟨x, hx⟩ : ∃ x, L[j]? = some x := ⟨_, List.getElem?_eq_getElem (by omega)⟩
      obtain ⟨b, o, cap, hve, -, hbl, hr⟩ := hrow.at hc
      have hva : sa = some ⟨b, o, none⟩ := by cases hve; rfl
      subst hva
      obtain ⟨x0, x1, x2, x3, x4, rfl⟩ := five_l (hrow.1 c (List.mem_of_getElem? hc))
      have hr2 : wr.rangeAt b (o + j * 5) [x0, x1, x2, x3, x4] := fun q v hj => by
        rw [World.cell?_of_block (w := w) (hBr.out.block b hbl)]
        exact hr q v hj
      have hcall := hval j _ x hc hx wr hBr.out
      replace hcall : Calls Tryz.prog 39 #[.agg #[x0, x1, x2, x3, x4]] wr (AnN wr x) := hcall
      have hst := cj_step hx
      have hxl : x.length ≤ (cj L).length := by
        have := cj_take L (j + 1)
        rw [hst] at this
        split at this
        · exact this
        · rw [List.length_append, List.length_cons] at this; omega
      replace hxl := hide1 hxl
      generalize hP : cj (L.take j) = P at *
      clear hve hr hx hc hval hrow hbr
      by_cases h0 : j = 0
      · rw [if_pos h0] at hst
        subst h0
        have hP0 : P = [] := by rw [← hP]; rfl
        subst hP0
        have hno : ¬ 9223372036854775807 < (st []).size + (st x).size := by rw [st_size, st_size]; have := hxl.out; have := hlen.out; simp; omega
        have hfin : Hid (st [] ++ st x = st (cj (L.take (0 + 1)))) := hide1 (by rw [st_ap, hst]; rfl)
        clear hst hP
        go_wp2_with (first | refine wpList_load_mid rfl 28 (.tmp 43) rfl b (o + 0 * 5) rfl [x0, x1, x2, x3, x4] _ hr2 Tryz.underlying28 rfl (by kernel_rfl) ?_ | refine wpList_load_mid rfl 28 (.tmp 43) rfl b o rfl [x0, x1, x2, x3, x4] _ (by simpa using hr2) Tryz.underlying28 rfl (by kernel_rfl) ?_)
        refine hcall.mono ?_
        rintro e w2 ⟨rfl, b2⟩
        have hb2 := hide1 (hbw.out.trans (b2.mono hbw.out.size))
        clear hcall b2 hbw hBr hr2 c3
        go_wp2
        go_roundw
        case rel => exact ⟨1, by omega, rfl, by rw [← hfin.out], hb2⟩
        case measure => simp [intOf]; omega
      · rw [if_neg h0] at hst
        have h0' : 0 < j := by omega
        have hno1 : ¬ 9223372036854775807 < (st P).size + (⟨#[44]⟩ : ByteArray).size := by rw [st_size, show (⟨#[44]⟩ : ByteArray).size = 1 from rfl]; have := hPl.out; have := hlen.out; omega
        have hno : ¬ 9223372036854775807 < (st (P ++ [44])).size + (st x).size := by rw [st_size, st_size]; have := hxl.out; have := hPl.out; have := hlen.out; simp; omega
        have hcm : st P ++ (⟨#[44]⟩ : ByteArray) = st (P ++ [44]) := by rw [show (⟨#[44]⟩ : ByteArray) = st [44] from rfl, st_ap]
        have hfin : Hid (st (P ++ [44]) ++ st x = st (cj (L.take (j + 1)))) := hide1 (by rw [st_ap, hst]; simp)
        clear hst hP
        replace hcm := hide1 hcm
        go_upto_region 19 with fail
        rw [hcm.out]
        clear hno1
        go_wp2_with (refine wpList_load_mid rfl 28 (.tmp 43) rfl b (o + j * 5) rfl [x0, x1, x2, x3, x4] _ hr2 Tryz.underlying28 rfl (by kernel_rfl) ?_)
        refine hcall.mono ?_
        rintro e w2 ⟨rfl, b2⟩
        have hb2 := hide1 (hbw.out.trans (b2.mono hbw.out.size))
        clear hcall b2 hbw hBr hr2 c3
        go_wp2
        go_roundw
        case rel => exact ⟨j + 1, by omega, by go_num, by rw [← hfin.out], hb2⟩
        case measure => simp [intOf]; omega
    · have hjn : j = cl.length := by omega
      have hP : L.take j = L := by rw [hjn, ← hln]; exact List.take_length
      rw [hP] at hPl ⊢
      generalize cj L = C at *
      have hno1 : ¬ 9223372036854775807 < (⟨#[91]⟩ : ByteArray).size + (st C).size := by rw [st_size, show (⟨#[91]⟩ : ByteArray).size = 1 from rfl]; have := hlen.out; omega
      have hno2 : ¬ 9223372036854775807 < ((⟨#[91]⟩ : ByteArray) ++ st C).size + (⟨#[93]⟩ : ByteArray).size := by rw [show (⟨#[91]⟩ : ByteArray) = st [91] from rfl, st_ap, st_size, show (⟨#[93]⟩ : ByteArray).size = 1 from rfl]; have := hlen.out; simp; omega
      have hfin : Hid ((⟨#[91]⟩ : ByteArray) ++ st C ++ ⟨#[93]⟩ = st (91 :: (C ++ [93]))) := hide1 (by rw [show (⟨#[91]⟩ : ByteArray) = st [91] from rfl, show (⟨#[93]⟩ : ByteArray) = st [93] from rfl, st_ap, st_ap]; rfl)
      clear hval hrow hP hbr hlt hPl hbw
      go_wp2
      go_ret
      exact ⟨by rw [← hfin.out]; rfl, hBr.out⟩
end Go.Proofs.YtbemaloaobeblaaGreatDoor

/- KP4, KP5, KP6, KP7, KP13, KP14, CA7, CA8, KP8: laid together. -/
import Derived.Test.YtbemaloaobeblaaGreatDoorG6
import Derived.Test.YtbemaloaobeblaaGreatDoorG3
import Derived.Test.YtbemaloaobeblaaGreatDoorG4
namespace Go.Proofs.YtbemaloaobeblaaGreatDoor
open Go.RowKit

theorem nx_at (B : List UInt8) (f k : Nat) : nx B (f + k) = nx (B.drop f) k := by unfold nx; rw [List.getElem?_drop]
theorem tw_at : ∀ {l : List UInt8} {k : Nat}, k < (l.takeWhile dg).length → nx l k = nx (l.takeWhile dg) k ∧ dg (UInt8.ofNat (nx l k)) = true ∧ nx l k < 256
 | [], k, h => by simp at h
 | x :: l, k, h => by
  rw [List.takeWhile_cons] at h ⊢
  by_cases hx : dg x = true
  ·rw [if_pos hx] at h ⊢
   cases k with
   | zero =>
    refine ⟨rfl, ?_, UInt8.toNat_lt x⟩
    show dg (UInt8.ofNat x.toNat) = true
    rw [UInt8.ofNat_toNat]; exact hx
   | succ k =>
    have := tw_at (l := l) (k := k) (by simpa using h)
    exact this
  ·rw [if_neg hx] at h; simp at h
theorem tw_end : ∀ {l : List UInt8}, ¬ (48 ≤ nx l (l.takeWhile dg).length ∧ nx l (l.takeWhile dg).length ≤ 57)
 | [] => by decide
 | x :: l => by
  rw [List.takeWhile_cons]
  by_cases hx : dg x = true
  ·rw [if_pos hx]
   exact tw_end (l := l)
  ·rw [if_neg hx]
   intro h
   apply hx
   unfold dg
   have e : nx (x :: l) ([] : List UInt8).length = x.toNat := rfl
   rw [e] at h
   simp [h.1, h.2]
theorem dg_nat {c : Nat} (h : dg (UInt8.ofNat c) = true) (hc : c < 256) : 48 ≤ c ∧ c ≤ 57 := by
 unfold dg at h
 rw [of_u8 hc] at h
 simpa using h
theorem dgs_snc (l : List UInt8) (x : UInt8) : dgs (l ++ [x]) = 10 * dgs l + (x.toNat - 48) := by unfold dgs; rw [List.foldl_append]; rfl
theorem dgs_ge : ∀ (b : List UInt8) (n : Nat), n ≤ b.foldl (fun n b => 10 * n + (b.toNat - 48)) n
 | [], n => Nat.le_refl _
 | x :: b, n => by
  have := dgs_ge b (10 * n + (x.toNat - 48))
  rw [List.foldl_cons]
  omega
theorem dgs_take (D : List UInt8) (k : Nat) : dgs (D.take k) ≤ dgs D := by
 have h : dgs D = (D.drop k).foldl (fun n b => 10 * n + (b.toNat - 48)) (dgs (D.take k)) := by
  unfold dgs
  rw [← List.foldl_append, List.take_append_drop]
 rw [h]
 exact dgs_ge _ _
theorem dgs_step {D : List UInt8} {k : Nat} (hk : k < D.length) : dgs (D.take (k + 1)) = 10 * dgs (D.take k) + (nx D k - 48) := by
 rw [List.take_add_one, List.getElem?_eq_getElem hk]
 show dgs (D.take k ++ [D[k]]) = _
 rw [dgs_snc]
 unfold nx
 rw [List.getElem?_eq_getElem hk]
def AnIr (sl : Value) (B : List UInt8) (g : Nat) (o : Option (Int × List UInt8)) (w : World) (e : Ending) (w' : World) : Prop :=
 ∃ x q, e = .returned (.int .i64 x) ∧ Tg sl B g q o.isNone w' ∧ Kg g w w' ∧ q ≤ B.length + 1 ∧ ∀ i r, o = some (i, r) → x = i ∧ B.drop q = r ∧ q ≤ B.length
section
variable {sl : Value} {B : List UInt8} {g p : Nat} {w w' : World}
theorem fig_eq {f k : Nat} {D : List UInt8} (hD : D = (B.drop f).takeWhile dg) (hk : k ≤ D.length) : (decide (48 ≤ nx B (f + k)) && decide (nx B (f + k) ≤ 57)) = decide (k < D.length) := by
 rw [nx_at]
 by_cases h : k < D.length
 ·have h2 := tw_at (l := B.drop f) (k := k) (by rw [← hD]; exact h)
  have := dg_nat h2.2.1 h2.2.2
  simp [h, this]
 ·have e : k = D.length := by omega
  have := tw_end (l := B.drop f)
  rw [← hD, ← e] at this
  simp [h]
  omega
theorem fig_at {f k : Nat} {D : List UInt8} (hD : D = (B.drop f).takeWhile dg) (hk : k < D.length) : nx B (f + k) = nx D k ∧ 48 ≤ nx D k ∧ nx D k ≤ 57 := by
 have h2 := tw_at (l := B.drop f) (k := k) (by rw [← hD]; exact hk)
 have h3 := dg_nat h2.2.1 h2.2.2
 rw [nx_at, h2.1, ← hD]
 rw [h2.1, ← hD] at h3
 exact ⟨rfl, h3⟩
theorem tw_len {f : Nat} {D : List UInt8} (hD : D = (B.drop f).takeWhile dg) (hf : f ≤ B.length) : f + D.length ≤ B.length ∧ B.drop (f + D.length) = (B.drop f).dropWhile dg := by
 have h := List.takeWhile_append_dropWhile (p := dg) (l := B.drop f)
 rw [← hD] at h
 constructor
 ·have := congrArg List.length h
  rw [List.length_append, List.length_drop] at this
  omega
 ·rw [← List.drop_drop]
  have e : (B.drop f).drop D.length = (D ++ (B.drop f).dropWhile dg).drop D.length := by rw [h]
  rw [e, List.drop_left]
set_option maxHeartbeats 16000000 in
set_option maxRecDepth 100000 in
theorem number_neg {f : Nat} {D : List UInt8} (h : Tg sl B g p false w) (_hpl : p ≤ B.length) (hB : B.length ≤ 4096) (hc : nx B p = 45) (hf : f = p + 1) (hD : D = (B.drop f).takeWhile dg) (o : Option (Int × List UInt8)) (ho : o = (nmO true D).map fun n => (n, (B.drop f).dropWhile dg)) : Calls Tryz.prog 52 #[.pointer (some ⟨g, 0, none⟩)] w (AnIr sl B g o w) := by
 have hn := next_t h
 have hcl := nx_lt B p
 obtain ⟨a0, cap, hsl, -⟩ := h.bs
 have hp1 : p < B.length := (nx_pos hc (by omega)).choose_spec.choose_spec.2.2
 rw [hc] at hn
 have hfl : f ≤ B.length := by omega
 obtain ⟨hDl, hDd⟩ := tw_len hD hfl
 have hf45 : Hid (f = p + 1) := hide1 hf
 replace hD := hide1 hD
 replace hDd := hide1 hDd
 replace ho := hide1 ho
 clear hf
 go_enter Tryz.func52, Tryz.ntmps52
 go_wp2_with fail
 refine hn.mono ?_
 rintro e w1 ⟨rfl, b1⟩
 have t1 := h.later b1
 have c1 := t1.c1
 have cf := t1.fr 1
 obtain ⟨t2, k2⟩ := t1.set1p
 replace k2 := hide1 ((Kg.of b1).trans k2)
 have e2 : (w1.setCell ⟨g, 1, none⟩ (.int .i64 (((p : Nat) : Int) + 1))).cell? ⟨g, 1, none⟩ = some (.int .i64 (((p + 1 : Nat) : Int))) := t2.c1
 go_upto_region 5 with fail
 generalize w1.setCell ⟨g, 1, none⟩ (.int .i64 (((p : Nat) : Int) + 1)) = w2 at *
 clear hn b1 t1 c1 cf h
 rw [← hf45.out] at t2 e2
 go_wp2_with fail
 replace t2 := hide1 t2
 clear e2 hp1
 go_loopw [5] (fun x wr => ∃ (k q n : Nat) (bad : Bool), x = .int .i64 (n : Nat) ∧ Hid (q = f + k) ∧ q ≤ 100000 ∧ k ≤ D.length ∧ n ≤ 9007199254740991 ∧ Hid (Tg sl B g q bad wr) ∧ Hid (Kg g w wr) ∧ Hid (bad = false → n = dgs (D.take k)) ∧ Hid (bad = true → 9007199254740991 < dgs D)) (fun _ wr => D.length - (atOf g wr - f))
 case atStart => exact ⟨0, f, 0, false, rfl, hide1 rfl, by omega, by omega, by omega, t2, k2, hide1 fun _ => rfl, hide1 fun e => by cases e⟩
 case round =>
  clear t2 k2
  obtain ⟨k, q, n, bad, rfl, hqk, hq5, hk, hn9, ht, hkk, hg, hb⟩ := hrel
  have hat : Hid (atOf g wr = q) := hide1 ht.out.atOf
  have hfg := figure_t ht.out
  have hq6 : Hid (q ≤ B.length) := hide1 (by have := hqk.out; omega)
  rw [hqk.out, fig_eq hD.out hk] at hfg
  go_wp2_with fail
  refine hfg.mono ?_
  rintro e w3 ⟨rfl, b3⟩
  by_cases hlt : k < D.length
  ·rw [decide_eq_true hlt]
   obtain ⟨c, hcD⟩ : ∃ c, Hid (nx D k = c) := ⟨_, hide1 rfl⟩
   obtain ⟨f1, f2, f3⟩ := fig_at hD.out hlt
   have hnx := next_t (ht.out.later b3)
   have hds := dgs_step hlt
   rw [hqk.out, f1, hcD.out] at hnx
   rw [hcD.out] at f2 f3 hds
   replace hds := hide1 hds
   replace b3 := hide1 b3
   clear hfg f1
   go_wp2_with fail
   refine hnx.mono ?_
   rintro e w4 ⟨rfl, b4⟩
   replace b4 := hide1 (b3.out.trans (b4.mono b3.out.size))
   have t4 := ht.out.later b4.out
   have k4 := hide1 (hkk.out.trans (Kg.of b4.out))
   clear hnx b3
   by_cases hov : 9007199254740991 < 10 * n + c - 48
   ·have ho1 : (9007199254740991 : Int) < 10 * (n : Int) + (c : Int) - 48 := by omega
    have cf2 := t4.fr 2
    have cc2 := t4.c2
    obtain ⟨t5, k5⟩ := t4.set2 true
    have k5' := hide1 (k4.out.trans k5)
    have c5 := t5.c1
    have f5 := t5.fr 1
    obtain ⟨t6, k6⟩ := t5.set1p
    replace t5 := hide1 t5
    have k6' := hide1 (k5'.out.trans k6)
    replace t6 := hide1 t6
    have hbig : Hid (9007199254740991 < dgs D) := hide1 (by
     cases bad with
     | true => exact hb.out rfl
     | false =>
      have h1 := dgs_take D (k + 1)
      have h2 := hg.out rfl
      have h3 := hds.out
      omega)
    clear k5 k6 t4 k4 b4 hg hb hds k5' hcD
    go_upto_region 12 with fail
    generalize w4.setCell ⟨g, 2, none⟩ (.bool true) = w5 at *
    go_wp2
    go_roundw
    case rel => exact ⟨k + 1, q + 1, 0, true, rfl, hide1 (by have := hqk.out; omega), by have := hq6.out; omega, by omega, by omega, t6, k6', hide1 (fun e => by cases e), hide1 (fun _ => hbig.out)⟩
    case measure =>
     rw [t6.out.atOf, hat.out]; have := hqk.out; omega
   ·have ho1 : ¬ (9007199254740991 : Int) < 10 * (n : Int) + (c : Int) - 48 := by omega
    have c4 := t4.c1
    have f4' := t4.fr 1
    obtain ⟨t6, k6⟩ := t4.set1p
    have k6' := hide1 (k4.out.trans k6)
    replace t6 := hide1 t6
    have en : (10 * (n : Int) + (c : Int) - 48) = ((10 * n + c - 48 : Nat) : Int) := by omega
    have hg2 : Hid (bad = false → 10 * n + c - 48 = dgs (D.take (k + 1))) := hide1 (fun e => by rw [hds.out, ← hg.out e]; omega)
    have hN : 10 * n + c - 48 ≤ 9007199254740991 := by omega
    replace en := hide1 en
    clear t4 k4 b4 hds hg hcD k6
    go_wp2
    rw [en.out]
    go_roundw
    case rel => exact ⟨k + 1, q + 1, 10 * n + c - 48, bad, rfl, hide1 (by have := hqk.out; omega), by have := hq6.out; omega, by omega, hN, t6, k6', hg2, hb⟩
    case measure =>
     rw [t6.out.atOf, hat.out]; have := hqk.out; omega
  ·rw [decide_eq_false hlt]
   have hke : k = D.length := by omega
   subst hke
   have t3 := ht.out.later b3
   have k3 := hide1 (hkk.out.trans (Kg.of b3))
   have c3 := t3.c1
   have hql : Hid (q ≤ B.length) := hq6
   have hdr : Hid (B.drop q = (B.drop f).dropWhile dg) := hide1 (by rw [hqk.out]; exact hDd.out)
   have hN : o = none → ∀ X : Int, Hid (w3.cell? ⟨g, 2, none⟩ = some (.bool bad) ∧ w3.frozen? ⟨g, 2, none⟩ = false ∧ AnIr sl B g o w (.returned (.int .i64 X)) (w3.setCell ⟨g, 2, none⟩ (.bool true))) := fun e X => hide1 (by
    obtain ⟨t4, k4⟩ := t3.set2 true
    refine ⟨t3.c2, t3.fr 2, X, q, rfl, by rw [e]; exact t4, k3.out.trans k4, by have := hql.out; omega, fun i r e2 => by rw [e] at e2; cases e2⟩)
   have hS : ∀ X : Int, o.isNone = bad → (∀ i r, o = some (i, r) → X = i ∧ (B.drop f).dropWhile dg = r) → Hid (AnIr sl B g o w (.returned (.int .i64 X)) w3) := fun X e1 e2 => hide1 (by
    refine ⟨X, q, rfl, by rw [e1]; exact t3, k3.out, by have := hql.out; omega, fun i r e => ⟨(e2 i r e).1, by rw [hdr.out]; exact (e2 i r e).2, hql.out⟩⟩)
   obtain ⟨b, cap', hsl2, hbc⟩ := t3.bs
   have hx0 : 0 < D.length → ∃ bb oo, sl = .slice (some ⟨bb, oo, none⟩) B.length cap' ∧ f < B.length ∧ w3.cell? ⟨bb, oo + f, none⟩ = some (.int .u8 (nx D 0 : Nat)) := fun h0 => by
    obtain ⟨f1, f2, f3⟩ := fig_at (k := 0) hD.out h0
    have hfB : f < B.length := by omega
    obtain ⟨bb, oo, e, hbb, hcc⟩ := hbc.resolve_left (fun e => by rw [e] at hfB; simp at hfB)
    have h1 := hcc f _ (List.getElem?_eq_getElem hfB)
    refine ⟨bb, oo, by rw [hsl2, e], hfB, ?_⟩
    rw [h1, ← f1]
    unfold nx
    rw [Nat.add_zero, List.getElem?_eq_getElem hfB]
   have hhd : 0 < D.length → (D.head? = some 48 ↔ nx D 0 = 48) := fun h0 => by
    cases D with
    | nil => simp at h0
    | cons x m =>
     show some x = some 48 ↔ x.toNat = 48
     rw [Option.some.injEq]
     exact ⟨fun e => by rw [e]; rfl, fun e => UInt8.toNat_inj.1 e⟩
   have s3 := t3.c0
   have ho2 := ho.out
   have hg2 := hg.out
   have hb2 := hb.out
   have hnm : Hid (nmO true D = if D = [] ∨ (1 < D.length ∧ D.head? = some 48) ∨ 9007199254740991 < dgs D ∨ (true = true ∧ dgs D = 0) then none else some (if true then - (dgs D : Int) else (dgs D : Int))) := hide1 rfl
   have hln := List.take_length (l := D)
   rw [hln] at hg2
   have hqf := hqk.out
   by_cases hz : D.length = 0
   ·have hof : o = none := by rw [ho2, hnm.out, if_pos (.inl (List.length_eq_zero_iff.1 hz))]; rfl
    have hf2 := fun X => (hN hof X).out
    have e1 := (hf2 0).1
    have e2 := (hf2 0).2.1
    have m0 : ((q : Int) - (f : Int) == 0) = true := by simp; omega
    replace hf2 := hide1 fun X => (hf2 X).2.2
    clear hN hS hx0 hhd hnm hln t3 ho2 hg2 hb2 hfg b3 hqf hsl2 hbc
    go_wp2
    go_ret
    exact hf2.out _
   have m0 : ((q : Int) - (f : Int) == 0) = false := by simp; omega
   have hne : D ≠ [] := fun e => hz (by rw [e]; rfl)
   obtain ⟨bb, oo, hsl3, hfB, hcell⟩ := hx0 (by omega)
   subst hsl3
   have hh := hhd (by omega)
   by_cases hbad : 1 < D.length ∧ nx D 0 = 48
   ·have hof : o = none := by rw [ho2, hnm.out, if_pos (.inr (.inl ⟨hbad.1, hh.2 hbad.2⟩))]; rfl
    have hf2 := fun X => (hN hof X).out
    have e1 := (hf2 0).1
    have e2 := (hf2 0).2.1
    have m1 : decide ((q : Int) - (f : Int) > 1) = true := decide_eq_true (by omega)
    rw [hbad.2] at hcell
    replace hf2 := hide1 fun X => (hf2 X).2.2
    clear hN hS hx0 hhd hnm hln t3 ho2 hg2 hb2 hfg b3 hqf hsl2 hbc hbad hh hne
    go_wp2
    go_ret
    exact hf2.out _
   have hns : ¬ (D = [] ∨ (1 < D.length ∧ D.head? = some 48)) := by
    rintro (e | ⟨e1, e2⟩)
    ·exact hne e
    ·exact hbad ⟨e1, hh.1 e2⟩
   have hval : ∀ X : Int, n ≠ 0 ∧ X = - (n : Int) → Hid (AnIr (.slice (some ⟨bb, oo, none⟩) B.length cap') B g o w (.returned (.int .i64 X)) w3) := fun X hX => by
    cases bad with
    | true =>
     have hof : o = none := by rw [ho2, hnm.out, if_pos (.inr (.inr (.inl (hb2 rfl))))]; rfl
     exact hS X (by rw [hof]; rfl) (fun i r e => by rw [hof] at e; cases e)
    | false =>
     have hn0 := hg2 rfl
     have hc4 : ¬ (D = [] ∨ (1 < D.length ∧ D.head? = some 48) ∨ 9007199254740991 < dgs D ∨ (true = true ∧ dgs D = 0)) := by
      rintro (e | e | e | ⟨e, e2⟩)
      ·exact hns (.inl e)
      ·exact hns (.inr e)
      ·omega
      ·omega
     rw [if_neg hc4] at hnm
     have hof : o = some (- (dgs D : Int), (B.drop f).dropWhile dg) := by rw [ho2, hnm.out]; rfl
     refine hS X (by rw [hof]; rfl) (fun i r e => ?_)
     rw [hof] at e
     cases e
     exact ⟨by rw [hX.2, hn0], rfl⟩
   have hzero : n = 0 → ∀ X : Int, Hid (w3.cell? ⟨g, 2, none⟩ = some (.bool bad) ∧ w3.frozen? ⟨g, 2, none⟩ = false ∧ AnIr (.slice (some ⟨bb, oo, none⟩) B.length cap') B g o w (.returned (.int .i64 X)) (w3.setCell ⟨g, 2, none⟩ (.bool true))) := fun e X => by
    refine hN ?_ X
    cases bad with
    | true => rw [ho2, hnm.out, if_pos (.inr (.inr (.inl (hb2 rfl))))]; rfl
    | false => rw [ho2, hnm.out, if_pos (.inr (.inr (.inr ⟨rfl, by rw [← hg2 rfl]; exact e⟩)))]; rfl
   replace hzero := hide1 hzero
   replace hval := hide1 hval
   by_cases h1 : 1 < D.length
   ·have m1 : decide ((q : Int) - (f : Int) > 1) = true := decide_eq_true (by omega)
    have c48 : ((nx D 0 : Int) == 48) = false := by
     have : ¬ nx D 0 = 48 := fun e => hbad ⟨h1, e⟩
     simp; omega
    obtain ⟨y0, hy0⟩ : ∃ y, Hid (nx D 0 = y) := ⟨_, hide1 rfl⟩
    rw [hy0.out] at hcell c48
    clear hN hS hx0 hhd hnm hln t3 ho2 hg2 hb2 hfg b3 hqf hsl2 hbc hbad hh hne hns hy0
    by_cases hn0 : n = 0
    ·subst hn0
     have hf2 := fun X => (hzero.out rfl X).out
     have e1 := (hf2 0).1
     have e2 := (hf2 0).2.1
     replace hf2 := hide1 fun X => (hf2 X).2.2
     clear hzero hval
     go_wp2
     go_ret
     exact hf2.out _
    ·have z0 : ((n : Int) == 0) = false := by simp; omega
     clear hzero
     go_wp2
     go_ret
     refine (hval.out _ ⟨?_, ?_⟩).out
     ·omega
     ·first | rfl | simp | omega
   ·have m1 : decide ((q : Int) - (f : Int) > 1) = false := decide_eq_false (by omega)
    clear hN hS hx0 hhd hnm hln t3 ho2 hg2 hb2 hfg b3 hqf hsl2 hbc hbad hh hne hns hcell
    by_cases hn0 : n = 0
    ·subst hn0
     have hf2 := fun X => (hzero.out rfl X).out
     have e1 := (hf2 0).1
     have e2 := (hf2 0).2.1
     replace hf2 := hide1 fun X => (hf2 X).2.2
     clear hzero hval
     go_wp2
     go_ret
     exact hf2.out _
    ·have z0 : ((n : Int) == 0) = false := by simp; omega
     clear hzero
     go_wp2
     go_ret
     refine (hval.out _ ⟨?_, ?_⟩).out
     ·omega
     ·first | rfl | simp | omega
set_option maxHeartbeats 16000000 in
set_option maxRecDepth 100000 in
theorem number_pos {f : Nat} {D : List UInt8} (h : Tg sl B g p false w) (hpl : p ≤ B.length) (hB : B.length ≤ 4096) (hc : nx B p ≠ 45) (hf : f = p) (hD : D = (B.drop f).takeWhile dg) (o : Option (Int × List UInt8)) (ho : o = (nmO false D).map fun n => (n, (B.drop f).dropWhile dg)) : Calls Tryz.prog 52 #[.pointer (some ⟨g, 0, none⟩)] w (AnIr sl B g o w) := by
 have hn := next_t h
 have hcl := nx_lt B p
 obtain ⟨a0, cap, hsl, -⟩ := h.bs
 generalize nx B p = c at *
 have d0 : ((c : Int) == 45) = false := by simp; omega
 have hfl : f ≤ B.length := by omega
 obtain ⟨hDl, hDd⟩ := tw_len hD hfl
 have hf45 : Hid (f = p) := hide1 hf
 replace hD := hide1 hD
 replace hDd := hide1 hDd
 replace ho := hide1 ho
 clear hf
 go_enter Tryz.func52, Tryz.ntmps52
 go_wp2_with fail
 refine hn.mono ?_
 rintro e w1 ⟨rfl, b1⟩
 have t1 := h.later b1
 have c1 := t1.c1
 have cf := t1.fr 1
 replace b1 := hide1 b1
 go_upto_region 5 with fail
 obtain ⟨w2, hw2⟩ : ∃ w2, w2 = w1 := ⟨_, rfl⟩
 have t2 : Tg sl B g f false w2 := by rw [hw2, hf45.out]; exact t1
 have k2 : Hid (Kg g w w2) := hide1 (by rw [hw2]; exact Kg.of b1.out)
 have e2 := t2.c1
 rw [← hw2]
 clear hn b1 t1 c1 cf h hw2
 go_wp2_with fail
 replace t2 := hide1 t2
 clear e2 
 go_loopw [5] (fun x wr => ∃ (k q n : Nat) (bad : Bool), x = .int .i64 (n : Nat) ∧ Hid (q = f + k) ∧ q ≤ 100000 ∧ k ≤ D.length ∧ n ≤ 9007199254740991 ∧ Hid (Tg sl B g q bad wr) ∧ Hid (Kg g w wr) ∧ Hid (bad = false → n = dgs (D.take k)) ∧ Hid (bad = true → 9007199254740991 < dgs D)) (fun _ wr => D.length - (atOf g wr - f))
 case atStart => exact ⟨0, f, 0, false, rfl, hide1 rfl, by omega, by omega, by omega, t2, k2, hide1 fun _ => rfl, hide1 fun e => by cases e⟩
 case round =>
  clear t2 k2
  obtain ⟨k, q, n, bad, rfl, hqk, hq5, hk, hn9, ht, hkk, hg, hb⟩ := hrel
  have hat : Hid (atOf g wr = q) := hide1 ht.out.atOf
  have hfg := figure_t ht.out
  have hq6 : Hid (q ≤ B.length) := hide1 (by have := hqk.out; omega)
  rw [hqk.out, fig_eq hD.out hk] at hfg
  go_wp2_with fail
  refine hfg.mono ?_
  rintro e w3 ⟨rfl, b3⟩
  by_cases hlt : k < D.length
  ·rw [decide_eq_true hlt]
   obtain ⟨c, hcD⟩ : ∃ c, Hid (nx D k = c) := ⟨_, hide1 rfl⟩
   obtain ⟨f1, f2, f3⟩ := fig_at hD.out hlt
   have hnx := next_t (ht.out.later b3)
   have hds := dgs_step hlt
   rw [hqk.out, f1, hcD.out] at hnx
   rw [hcD.out] at f2 f3 hds
   replace hds := hide1 hds
   replace b3 := hide1 b3
   clear hfg f1
   go_wp2_with fail
   refine hnx.mono ?_
   rintro e w4 ⟨rfl, b4⟩
   replace b4 := hide1 (b3.out.trans (b4.mono b3.out.size))
   have t4 := ht.out.later b4.out
   have k4 := hide1 (hkk.out.trans (Kg.of b4.out))
   clear hnx b3
   by_cases hov : 9007199254740991 < 10 * n + c - 48
   ·have ho1 : (9007199254740991 : Int) < 10 * (n : Int) + (c : Int) - 48 := by omega
    have cf2 := t4.fr 2
    have cc2 := t4.c2
    obtain ⟨t5, k5⟩ := t4.set2 true
    have k5' := hide1 (k4.out.trans k5)
    have c5 := t5.c1
    have f5 := t5.fr 1
    obtain ⟨t6, k6⟩ := t5.set1p
    replace t5 := hide1 t5
    have k6' := hide1 (k5'.out.trans k6)
    replace t6 := hide1 t6
    have hbig : Hid (9007199254740991 < dgs D) := hide1 (by
     cases bad with
     | true => exact hb.out rfl
     | false =>
      have h1 := dgs_take D (k + 1)
      have h2 := hg.out rfl
      have h3 := hds.out
      omega)
    clear k5 k6 t4 k4 b4 hg hb hds k5' hcD
    go_upto_region 12 with fail
    generalize w4.setCell ⟨g, 2, none⟩ (.bool true) = w5 at *
    go_wp2
    go_roundw
    case rel => exact ⟨k + 1, q + 1, 0, true, rfl, hide1 (by have := hqk.out; omega), by have := hq6.out; omega, by omega, by omega, t6, k6', hide1 (fun e => by cases e), hide1 (fun _ => hbig.out)⟩
    case measure =>
     rw [t6.out.atOf, hat.out]; have := hqk.out; omega
   ·have ho1 : ¬ (9007199254740991 : Int) < 10 * (n : Int) + (c : Int) - 48 := by omega
    have c4 := t4.c1
    have f4' := t4.fr 1
    obtain ⟨t6, k6⟩ := t4.set1p
    have k6' := hide1 (k4.out.trans k6)
    replace t6 := hide1 t6
    have en : (10 * (n : Int) + (c : Int) - 48) = ((10 * n + c - 48 : Nat) : Int) := by omega
    have hg2 : Hid (bad = false → 10 * n + c - 48 = dgs (D.take (k + 1))) := hide1 (fun e => by rw [hds.out, ← hg.out e]; omega)
    have hN : 10 * n + c - 48 ≤ 9007199254740991 := by omega
    replace en := hide1 en
    clear t4 k4 b4 hds hg hcD k6
    go_wp2
    rw [en.out]
    go_roundw
    case rel => exact ⟨k + 1, q + 1, 10 * n + c - 48, bad, rfl, hide1 (by have := hqk.out; omega), by have := hq6.out; omega, by omega, hN, t6, k6', hg2, hb⟩
    case measure =>
     rw [t6.out.atOf, hat.out]; have := hqk.out; omega
  ·rw [decide_eq_false hlt]
   have hke : k = D.length := by omega
   subst hke
   have t3 := ht.out.later b3
   have k3 := hide1 (hkk.out.trans (Kg.of b3))
   have c3 := t3.c1
   have hql : Hid (q ≤ B.length) := hq6
   have hdr : Hid (B.drop q = (B.drop f).dropWhile dg) := hide1 (by rw [hqk.out]; exact hDd.out)
   have hN : o = none → ∀ X : Int, Hid (w3.cell? ⟨g, 2, none⟩ = some (.bool bad) ∧ w3.frozen? ⟨g, 2, none⟩ = false ∧ AnIr sl B g o w (.returned (.int .i64 X)) (w3.setCell ⟨g, 2, none⟩ (.bool true))) := fun e X => hide1 (by
    obtain ⟨t4, k4⟩ := t3.set2 true
    refine ⟨t3.c2, t3.fr 2, X, q, rfl, by rw [e]; exact t4, k3.out.trans k4, by have := hql.out; omega, fun i r e2 => by rw [e] at e2; cases e2⟩)
   have hS : ∀ X : Int, o.isNone = bad → (∀ i r, o = some (i, r) → X = i ∧ (B.drop f).dropWhile dg = r) → Hid (AnIr sl B g o w (.returned (.int .i64 X)) w3) := fun X e1 e2 => hide1 (by
    refine ⟨X, q, rfl, by rw [e1]; exact t3, k3.out, by have := hql.out; omega, fun i r e => ⟨(e2 i r e).1, by rw [hdr.out]; exact (e2 i r e).2, hql.out⟩⟩)
   obtain ⟨b, cap', hsl2, hbc⟩ := t3.bs
   have hx0 : 0 < D.length → ∃ bb oo, sl = .slice (some ⟨bb, oo, none⟩) B.length cap' ∧ f < B.length ∧ w3.cell? ⟨bb, oo + f, none⟩ = some (.int .u8 (nx D 0 : Nat)) := fun h0 => by
    obtain ⟨f1, f2, f3⟩ := fig_at (k := 0) hD.out h0
    have hfB : f < B.length := by omega
    obtain ⟨bb, oo, e, hbb, hcc⟩ := hbc.resolve_left (fun e => by rw [e] at hfB; simp at hfB)
    have h1 := hcc f _ (List.getElem?_eq_getElem hfB)
    refine ⟨bb, oo, by rw [hsl2, e], hfB, ?_⟩
    rw [h1, ← f1]
    unfold nx
    rw [Nat.add_zero, List.getElem?_eq_getElem hfB]
   have hhd : 0 < D.length → (D.head? = some 48 ↔ nx D 0 = 48) := fun h0 => by
    cases D with
    | nil => simp at h0
    | cons x m =>
     show some x = some 48 ↔ x.toNat = 48
     rw [Option.some.injEq]
     exact ⟨fun e => by rw [e]; rfl, fun e => UInt8.toNat_inj.1 e⟩
   have s3 := t3.c0
   have ho2 := ho.out
   have hg2 := hg.out
   have hb2 := hb.out
   have hnm : Hid (nmO false D = if D = [] ∨ (1 < D.length ∧ D.head? = some 48) ∨ 9007199254740991 < dgs D ∨ (false = true ∧ dgs D = 0) then none else some (if false then - (dgs D : Int) else (dgs D : Int))) := hide1 rfl
   have hln := List.take_length (l := D)
   rw [hln] at hg2
   have hqf := hqk.out
   by_cases hz : D.length = 0
   ·have hof : o = none := by rw [ho2, hnm.out, if_pos (.inl (List.length_eq_zero_iff.1 hz))]; rfl
    have hf2 := fun X => (hN hof X).out
    have e1 := (hf2 0).1
    have e2 := (hf2 0).2.1
    have m0 : ((q : Int) - (f : Int) == 0) = true := by simp; omega
    replace hf2 := hide1 fun X => (hf2 X).2.2
    clear hN hS hx0 hhd hnm hln t3 ho2 hg2 hb2 hfg b3 hqf hsl2 hbc
    go_wp2
    go_ret
    exact hf2.out _
   have m0 : ((q : Int) - (f : Int) == 0) = false := by simp; omega
   have hne : D ≠ [] := fun e => hz (by rw [e]; rfl)
   obtain ⟨bb, oo, hsl3, hfB, hcell⟩ := hx0 (by omega)
   subst hsl3
   have hh := hhd (by omega)
   by_cases hbad : 1 < D.length ∧ nx D 0 = 48
   ·have hof : o = none := by rw [ho2, hnm.out, if_pos (.inr (.inl ⟨hbad.1, hh.2 hbad.2⟩))]; rfl
    have hf2 := fun X => (hN hof X).out
    have e1 := (hf2 0).1
    have e2 := (hf2 0).2.1
    have m1 : decide ((q : Int) - (f : Int) > 1) = true := decide_eq_true (by omega)
    rw [hbad.2] at hcell
    replace hf2 := hide1 fun X => (hf2 X).2.2
    clear hN hS hx0 hhd hnm hln t3 ho2 hg2 hb2 hfg b3 hqf hsl2 hbc hbad hh hne
    go_wp2
    go_ret
    exact hf2.out _
   have hns : ¬ (D = [] ∨ (1 < D.length ∧ D.head? = some 48)) := by
    rintro (e | ⟨e1, e2⟩)
    ·exact hne e
    ·exact hbad ⟨e1, hh.1 e2⟩
   have hval : ∀ X : Int, X = (n : Int) → Hid (AnIr (.slice (some ⟨bb, oo, none⟩) B.length cap') B g o w (.returned (.int .i64 X)) w3) := fun X hX => by
    cases bad with
    | true =>
     have hof : o = none := by rw [ho2, hnm.out, if_pos (.inr (.inr (.inl (hb2 rfl))))]; rfl
     exact hS X (by rw [hof]; rfl) (fun i r e => by rw [hof] at e; cases e)
    | false =>
     have hn0 := hg2 rfl
     have hc4 : ¬ (D = [] ∨ (1 < D.length ∧ D.head? = some 48) ∨ 9007199254740991 < dgs D ∨ (false = true ∧ dgs D = 0)) := by
      rintro (e | e | e | ⟨e, e2⟩)
      ·exact hns (.inl e)
      ·exact hns (.inr e)
      ·omega
      ·cases e
     rw [if_neg hc4] at hnm
     have hof : o = some ((dgs D : Int), (B.drop f).dropWhile dg) := by rw [ho2, hnm.out]; rfl
     refine hS X (by rw [hof]; rfl) (fun i r e => ?_)
     rw [hof] at e
     cases e
     exact ⟨by rw [hX, hn0], rfl⟩
   replace hval := hide1 hval
   by_cases h1 : 1 < D.length
   ·have m1 : decide ((q : Int) - (f : Int) > 1) = true := decide_eq_true (by omega)
    have c48 : ((nx D 0 : Int) == 48) = false := by
     have : ¬ nx D 0 = 48 := fun e => hbad ⟨h1, e⟩
     simp; omega
    obtain ⟨y0, hy0⟩ : ∃ y, Hid (nx D 0 = y) := ⟨_, hide1 rfl⟩
    rw [hy0.out] at hcell c48
    clear hN hS hx0 hhd hnm hln t3 ho2 hg2 hb2 hfg b3 hqf hsl2 hbc hbad hh hne hns hy0
    by_cases hn0 : n = 0
    ·subst hn0
     go_wp2
     go_ret
     refine (hval.out _ ?_).out
     first | rfl | simp | omega
    ·have z0 : ((n : Int) == 0) = false := by simp; omega
     go_wp2
     go_ret
     refine (hval.out _ ?_).out
     first | rfl | simp | omega
   ·have m1 : decide ((q : Int) - (f : Int) > 1) = false := decide_eq_false (by omega)
    clear hN hS hx0 hhd hnm hln t3 ho2 hg2 hb2 hfg b3 hqf hsl2 hbc hbad hh hne hns hcell
    by_cases hn0 : n = 0
    ·subst hn0
     go_wp2
     go_ret
     refine (hval.out _ ?_).out
     first | rfl | simp | omega
    ·have z0 : ((n : Int) == 0) = false := by simp; omega
     go_wp2
     go_ret
     refine (hval.out _ ?_).out
     first | rfl | simp | omega
theorem hp_one {c : UInt8} {l : List UInt8} : hp [c] l = true ↔ ∃ m, l = c :: m := by
 cases l with
 | nil =>
   constructor
   ·intro h; cases h
   ·rintro ⟨m, e⟩; cases e
 | cons x m =>
  unfold hp
  simp only [List.isPrefixOf, Bool.and_true]
  constructor
  ·intro h
   exact ⟨m, by rw [beq_iff_eq.1 h]⟩
  ·rintro ⟨m', e⟩
   cases e
   simp
theorem hp_nx {c : UInt8} (hc : c.toNat ≠ 0) : hp [c] (B.drop p) = decide (nx B p = c.toNat) := by
 cases e : B.drop p with
 | nil =>
  have h0 : B.length ≤ p := by
   have := congrArg List.length e
   rw [List.length_drop] at this
   simp at this
   omega
  rw [nx_no h0]
  symm
  exact decide_eq_false (fun h => hc h.symm)
 | cons x m =>
  rw [nx_drop e]
  cases hh : hp [c] (x :: m) with
  | true =>
   obtain ⟨m', e'⟩ := hp_one.1 hh
   cases e'
   simp
  | false =>
   symm
   apply decide_eq_false
   intro h
   have : x = c := UInt8.toNat_inj.1 h
   rw [this, hp_one.2 ⟨m, rfl⟩] at hh
   cases hh
theorem tk_nx {c : UInt8} (h : nx B p = c.toNat) (hc : c.toNat ≠ 0) : tk [c] (B.drop p) = B.drop (p + 1) := by
 have hh := hp_nx (B := B) (p := p) hc
 rw [decide_eq_true h] at hh
 unfold tk
 unfold hp at hh
 rw [if_pos hh, List.drop_drop]
 rfl
theorem number_t (h : Tg sl B g p false w) (hpl : p ≤ B.length) (hB : B.length ≤ 4096) : Calls Tryz.prog 52 #[.pointer (some ⟨g, 0, none⟩)] w (AnIr sl B g (nm (B.drop p)) w) := by
 have hh := hp_nx (B := B) (p := p) (c := 45) (by decide)
 by_cases hc : nx B p = 45
 ·refine number_neg h hpl hB hc rfl rfl _ ?_
  rw [show (45 : UInt8).toNat = 45 from rfl, decide_eq_true hc] at hh
  unfold nm
  rw [hh, tk_nx hc (by decide)]
 ·refine number_pos h hpl hB hc rfl rfl _ ?_
  rw [show (45 : UInt8).toNat = 45 from rfl, decide_eq_false hc] at hh
  unfold nm
  rw [hh, tk_no hh]
end
def AnFo (sl : Value) (B : List UInt8) (g p : Nat) (o : Option Nat) (w : World) (e : Ending) (w' : World) : Prop :=
 ∃ x q, e = .returned (.int .i64 (x : Nat)) ∧ Tg sl B g q o.isNone w' ∧ Kg g w w' ∧ q ≤ B.length + 1 ∧ (o = none → x = 0) ∧ x < 65536 ∧ ∀ n, o = some n → x = n ∧ q = p + 4 ∧ q ≤ B.length
section
variable {sl : Value} {B : List UInt8} {g p : Nat} {w w' : World}
theorem f4_one {k n q c : Nat} (hc : nx B q = c) (hd : fg c = none) : f4 (k + 1) n (B.drop q) = none := by
 cases e : B.drop q with
 | nil => rfl
 | cons x m =>
  rw [nx_drop e] at hc
  unfold f4
  rw [hc, hd]
theorem f4_go {k n q c d : Nat} (hc : nx B q = c) (hd : fg c = some d) : q < B.length ∧ f4 (k + 1) n (B.drop q) = f4 k (n * 16 + d) (B.drop (q + 1)) := by
 have h0 : c ≠ 0 := by
  rintro rfl
  rw [show fg 0 = none by decide] at hd
  cases hd
 obtain ⟨x, m, e, hx, hq⟩ := nx_pos hc h0
 refine ⟨hq, ?_⟩
 rw [(drop_lt e).2, e]
 rw [f4, hx, hd]
set_option maxHeartbeats 16000000 in
set_option maxRecDepth 100000 in
theorem four_t (h : Tg sl B g p false w) (hpl : p ≤ B.length) (hB : B.length ≤ 4096) : Calls Tryz.prog 114 #[.pointer (some ⟨g, 0, none⟩)] w (AnFo sl B g p (f4 4 0 (B.drop p)) w) := by
 obtain ⟨o, ho⟩ : ∃ o, Hid (f4 4 0 (B.drop p) = o) := ⟨_, hide1 rfl⟩
 rw [ho.out]
 replace h := hide1 h
 go_enter Tryz.func114, Tryz.ntmps114
 go_wp2_with fail
 go_loopw [3, 4] (fun x y wr => ∃ i n q : Nat, x = .int .i64 (n : Nat) ∧ y = .int .i64 (i : Nat) ∧ i ≤ 4 ∧ Hid (q = p + i) ∧ q ≤ 4096 ∧ Hid (n < 16 ^ i) ∧ n < 65536 ∧ Hid (q ≤ B.length) ∧ Hid (f4 (4 - i) n (B.drop q) = o) ∧ Hid (Tg sl B g q false wr) ∧ Hid (Kg g w wr)) (fun _ y _ => 4 - (intOf y).toNat)
 case atStart => exact ⟨0, 0, p, rfl, rfl, by omega, hide1 rfl, by omega, hide1 (by decide), by omega, hide1 hpl, ho, h, hide1 (Kg.refl _ _)⟩
 case round =>
  obtain ⟨i, n, q, rfl, rfl, hi, hq, hq9, hn, hn6, hql, hf, ht, hk⟩ := hrel
  clear h ho
  by_cases hi4 : i < 4
  ·obtain ⟨c, hc⟩ : ∃ c, Hid (nx B q = c) := ⟨_, hide1 rfl⟩
   have hcl : c < 256 := by rw [← hc.out]; exact nx_lt B q
   have hnx := next_t ht.out
   rw [hc.out] at hnx
   obtain ⟨k, hk4⟩ : ∃ k, Hid (4 - i = k + 1) := ⟨3 - i, hide1 (by omega)⟩
   rw [hk4.out] at hf
   go_wp2_with fail
   refine hnx.mono ?_
   rintro e w1 ⟨rfl, b1⟩
   have t1 := ht.out.later b1
   have k1 := hide1 (hk.out.trans (Kg.of b1))
   have hbad : fg c = none → Hid (w1.cell? ⟨g, 2, none⟩ = some (.bool false) ∧ w1.frozen? ⟨g, 2, none⟩ = false ∧ AnFo sl B g p o w (.returned (.int .i64 0)) (w1.setCell ⟨g, 2, none⟩ (.bool true))) := fun hd => hide1 (by
    have ho : o = none := by rw [← hf.out, f4_one hc.out hd]
    obtain ⟨t2, k2⟩ := t1.set2 true
    exact ⟨t1.c2, t1.fr 2, 0, q, rfl, by rw [ho]; exact t2, k1.out.trans k2, by have := hql.out; omega, fun _ => rfl, by omega, fun n e => by rw [ho] at e; cases e⟩)
   have hgo : ∀ d, fg c = some d → Hid (f4 k (n * 16 + d) (B.drop (q + 1)) = o ∧ q < B.length ∧ d < 16) := fun d hd => hide1 (by
    have := f4_go (k := k) (n := n) hc.out hd
    exact ⟨by rw [← this.2]; exact hf.out, this.1, fg_lt hd⟩)
   have hbnd : ∀ d, d < 16 → Hid (n * 16 + d < 16 ^ (i + 1) ∧ n * 16 + d < 65536) := fun d hd => hide1 (by
    have h1 := hn.out
    have h2 : 16 ^ (i + 1) = 16 ^ i * 16 := Nat.pow_succ ..
    have h3 : 16 ^ (i + 1) ≤ 16 ^ 4 := Nat.pow_le_pow_right (by omega) (by omega)
    have h4 : n * 16 + d < 16 ^ (i + 1) := by omega
    exact ⟨h4, by have : (16 : Nat) ^ 4 = 65536 := rfl; omega⟩)
   replace hbad := hide1 hbad
   replace hgo := hide1 hgo
   replace hbnd := hide1 hbnd
   have cc := t1.c1
   have cf := t1.fr 1
   obtain ⟨t6, k6⟩ := t1.set1p
   replace t6 := hide1 t6
   have k6' := hide1 (k1.out.trans k6)
   clear hnx b1 t1 k1 k6 hf ht hk hc
   by_cases r47 : c ≤ 47
   ·have ga : decide ((c : Int) ≥ 48) = false := decide_eq_false (by omega)
    have la : decide ((c : Int) ≤ 57) = true := decide_eq_true (by omega)
    have gb : decide ((c : Int) ≥ 65) = false := decide_eq_false (by omega)
    have lb : decide ((c : Int) ≤ 70) = true := decide_eq_true (by omega)
    have gc : decide ((c : Int) ≥ 97) = false := decide_eq_false (by omega)
    have lc : decide ((c : Int) ≤ 102) = true := decide_eq_true (by omega)
    have hd : fg c = none := by
     unfold fg
     rw [if_neg (by omega), if_neg (by omega), if_neg (by omega)]
    have hf2 := (hbad.out hd).out
    have e1 := hf2.1
    have e2 := hf2.2.1
    replace hf2 := hide1 hf2.2.2
    clear hbad hgo hbnd t6 k6' cc cf hd
    go_wp2
    go_ret
    exact hf2.out
   by_cases r57 : c ≤ 57
   ·have ga : decide ((c : Int) ≥ 48) = true := decide_eq_true (by omega)
    have la : decide ((c : Int) ≤ 57) = true := decide_eq_true (by omega)
    have gb : decide ((c : Int) ≥ 65) = false := decide_eq_false (by omega)
    have lb : decide ((c : Int) ≤ 70) = true := decide_eq_true (by omega)
    have gc : decide ((c : Int) ≥ 97) = false := decide_eq_false (by omega)
    have lc : decide ((c : Int) ≤ 102) = true := decide_eq_true (by omega)
    have hd : fg c = some (c - 48) := by
     unfold fg
     rw [if_pos (by omega)]
    have hg2 := hgo.out _ hd
    have hb2 := hbnd.out _ hg2.out.2.2
    have en : Hid (16 * (n : Int) + ((c : Int) - 48) = ((n * 16 + (c - 48) : Nat) : Int)) := hide1 (by omega)
    clear hbad hgo hbnd hd
    go_wp2
    rw [en.out]
    go_roundw
    case rel => exact ⟨i + 1, n * 16 + (c - 48), q + 1, rfl, rfl, by omega, hide1 (by have := hq.out; omega), by have := hg2.out.2.1; omega, hide1 hb2.out.1, hb2.out.2, hide1 hg2.out.2.1, hide1 (by rw [show 4 - (i + 1) = k by have := hk4.out; omega]; exact hg2.out.1), t6, k6'⟩
    case measure => simp [intOf]; omega
   by_cases r64 : c ≤ 64
   ·have ga : decide ((c : Int) ≥ 48) = true := decide_eq_true (by omega)
    have la : decide ((c : Int) ≤ 57) = false := decide_eq_false (by omega)
    have gb : decide ((c : Int) ≥ 65) = false := decide_eq_false (by omega)
    have lb : decide ((c : Int) ≤ 70) = true := decide_eq_true (by omega)
    have gc : decide ((c : Int) ≥ 97) = false := decide_eq_false (by omega)
    have lc : decide ((c : Int) ≤ 102) = true := decide_eq_true (by omega)
    have hd : fg c = none := by
     unfold fg
     rw [if_neg (by omega), if_neg (by omega), if_neg (by omega)]
    have hf2 := (hbad.out hd).out
    have e1 := hf2.1
    have e2 := hf2.2.1
    replace hf2 := hide1 hf2.2.2
    clear hbad hgo hbnd t6 k6' cc cf hd
    go_wp2
    go_ret
    exact hf2.out
   by_cases r70 : c ≤ 70
   ·have ga : decide ((c : Int) ≥ 48) = true := decide_eq_true (by omega)
    have la : decide ((c : Int) ≤ 57) = false := decide_eq_false (by omega)
    have gb : decide ((c : Int) ≥ 65) = true := decide_eq_true (by omega)
    have lb : decide ((c : Int) ≤ 70) = true := decide_eq_true (by omega)
    have gc : decide ((c : Int) ≥ 97) = false := decide_eq_false (by omega)
    have lc : decide ((c : Int) ≤ 102) = true := decide_eq_true (by omega)
    have hd : fg c = some (c - 55) := by
     unfold fg
     rw [if_neg (by omega), if_neg (by omega), if_pos (by omega)]
    have hg2 := hgo.out _ hd
    have hb2 := hbnd.out _ hg2.out.2.2
    have en : Hid (16 * (n : Int) + ((c : Int) - 55) = ((n * 16 + (c - 55) : Nat) : Int)) := hide1 (by omega)
    clear hbad hgo hbnd hd
    go_wp2
    rw [en.out]
    go_roundw
    case rel => exact ⟨i + 1, n * 16 + (c - 55), q + 1, rfl, rfl, by omega, hide1 (by have := hq.out; omega), by have := hg2.out.2.1; omega, hide1 hb2.out.1, hb2.out.2, hide1 hg2.out.2.1, hide1 (by rw [show 4 - (i + 1) = k by have := hk4.out; omega]; exact hg2.out.1), t6, k6'⟩
    case measure => simp [intOf]; omega
   by_cases r96 : c ≤ 96
   ·have ga : decide ((c : Int) ≥ 48) = true := decide_eq_true (by omega)
    have la : decide ((c : Int) ≤ 57) = false := decide_eq_false (by omega)
    have gb : decide ((c : Int) ≥ 65) = true := decide_eq_true (by omega)
    have lb : decide ((c : Int) ≤ 70) = false := decide_eq_false (by omega)
    have gc : decide ((c : Int) ≥ 97) = false := decide_eq_false (by omega)
    have lc : decide ((c : Int) ≤ 102) = true := decide_eq_true (by omega)
    have hd : fg c = none := by
     unfold fg
     rw [if_neg (by omega), if_neg (by omega), if_neg (by omega)]
    have hf2 := (hbad.out hd).out
    have e1 := hf2.1
    have e2 := hf2.2.1
    replace hf2 := hide1 hf2.2.2
    clear hbad hgo hbnd t6 k6' cc cf hd
    go_wp2
    go_ret
    exact hf2.out
   by_cases r102 : c ≤ 102
   ·have ga : decide ((c : Int) ≥ 48) = true := decide_eq_true (by omega)
    have la : decide ((c : Int) ≤ 57) = false := decide_eq_false (by omega)
    have gb : decide ((c : Int) ≥ 65) = true := decide_eq_true (by omega)
    have lb : decide ((c : Int) ≤ 70) = false := decide_eq_false (by omega)
    have gc : decide ((c : Int) ≥ 97) = true := decide_eq_true (by omega)
    have lc : decide ((c : Int) ≤ 102) = true := decide_eq_true (by omega)
    have hd : fg c = some (c - 87) := by
     unfold fg
     rw [if_neg (by omega), if_pos (by omega)]
    have hg2 := hgo.out _ hd
    have hb2 := hbnd.out _ hg2.out.2.2
    have en : Hid (16 * (n : Int) + ((c : Int) - 87) = ((n * 16 + (c - 87) : Nat) : Int)) := hide1 (by omega)
    clear hbad hgo hbnd hd
    go_wp2
    rw [en.out]
    go_roundw
    case rel => exact ⟨i + 1, n * 16 + (c - 87), q + 1, rfl, rfl, by omega, hide1 (by have := hq.out; omega), by have := hg2.out.2.1; omega, hide1 hb2.out.1, hb2.out.2, hide1 hg2.out.2.1, hide1 (by rw [show 4 - (i + 1) = k by have := hk4.out; omega]; exact hg2.out.1), t6, k6'⟩
    case measure => simp [intOf]; omega
   have ga : decide ((c : Int) ≥ 48) = true := decide_eq_true (by omega)
   have la : decide ((c : Int) ≤ 57) = false := decide_eq_false (by omega)
   have gb : decide ((c : Int) ≥ 65) = true := decide_eq_true (by omega)
   have lb : decide ((c : Int) ≤ 70) = false := decide_eq_false (by omega)
   have gc : decide ((c : Int) ≥ 97) = true := decide_eq_true (by omega)
   have lc : decide ((c : Int) ≤ 102) = false := decide_eq_false (by omega)
   have hd : fg c = none := by
    unfold fg
    rw [if_neg (by omega), if_neg (by omega), if_neg (by omega)]
   have hf2 := (hbad.out hd).out
   have e1 := hf2.1
   have e2 := hf2.2.1
   replace hf2 := hide1 hf2.2.2
   clear hbad hgo hbnd t6 k6' cc cf hd
   go_wp2
   go_ret
   exact hf2.out
  ·have hi4' : i = 4 := by omega
   subst hi4'
   have hf2 : Hid (AnFo sl B g p o w (.returned (.int .i64 (n : Nat))) wr) := hide1 (by
    have ho : o = some n := by rw [← hf.out]; rfl
    refine ⟨n, q, rfl, by rw [ho]; exact ht.out, hk.out, by have := hql.out; omega, (fun e => by rw [ho] at e; cases e), hn6, fun m e => ?_⟩
    rw [ho] at e
    cases e
    exact ⟨rfl, hq.out, hql.out⟩)
   clear hf ht hk hn hq hql
   go_wp2
   go_ret
   exact hf2.out
end
def AnSg (sl : Value) (B : List UInt8) (g : Nat) (o : Option (Nat × List UInt8)) (w : World) (e : Ending) (w' : World) : Prop :=
 ∃ x q, e = .returned (.int .i64 (x : Nat)) ∧ Tg sl B g q o.isNone w' ∧ Kg g w w' ∧ q ≤ B.length + 1 ∧ x ≤ 1114111 ∧ ∀ n r, o = some (n, r) → x = n ∧ B.drop q = r ∧ q ≤ B.length
section
variable {sl : Value} {B : List UInt8} {g p : Nat} {w w' : World}
theorem surr_le {n y : Nat} (h1 : ¬ n < 55296) (h2 : ¬ 56319 < n) (h3 : ¬ y < 56320) (h4 : ¬ 57343 < y) : 65536 + (n - 55296) * 1024 + (y - 56320) ≤ 1114111 := by omega
theorem surr_eq {n y : Nat} (h1 : ¬ n < 55296) (h3 : ¬ y < 56320) : (65536 : Int) + 1024 * ((n : Int) - 55296) + (y : Int) - 56320 = ((65536 + (n - 55296) * 1024 + (y - 56320) : Nat) : Int) := by omega
theorem esc_nx {o : Option (Nat × List UInt8)} (h : o = esc (B.drop p)) : (nx B p = 0 ∧ o = none) ∨ (∃ m, B.drop p = UInt8.ofNat (nx B p) :: m ∧ p < B.length ∧ o = escN (nx B p) (B.drop (p + 1))) := by
 cases e : B.drop p with
 | nil =>
  left
  have h0 : B.length ≤ p := by
   have := congrArg List.length e
   rw [List.length_drop] at this
   simp at this
   omega
  exact ⟨nx_no h0, by rw [h, e]; rfl⟩
 | cons x m =>
  right
  refine ⟨m, by rw [nx_drop e, UInt8.ofNat_toNat], (drop_lt e).1, ?_⟩
  rw [h, e, nx_drop e, (drop_lt e).2]
  rfl
set_option maxHeartbeats 16000000 in
set_option maxRecDepth 100000 in
theorem esc_34 (h : Tg sl B g p false w) (hpl : p ≤ B.length) (hB : B.length ≤ 4096) (hc : nx B p = 34) : Calls Tryz.prog 87 #[.pointer (some ⟨g, 0, none⟩)] w (AnSg sl B g (esc (B.drop p)) w) := by
 obtain ⟨o, ho⟩ : ∃ o, o = esc (B.drop p) := ⟨_, rfl⟩
 have hcs := esc_nx ho
 have hnx := next_t h
 rw [← ho]
 have hof : o = some (34, B.drop (p + 1)) := by
  rcases hcs with ⟨e, _⟩ | ⟨m, _, _, e⟩
  ·omega
  ·rw [e, hc]; rfl
 have hq : Hid (p < B.length) := hide1 (nx_pos hc (by omega)).choose_spec.choose_spec.2.2
 rw [hc] at hnx
 replace hof := hide1 hof
 clear hcs ho hc
 have sp0 : ((⟨#[34, 92, 47, 98, 102, 110, 114, 116]⟩ : ByteArray)[0]'(by decide)).toNat = 34 := rfl
 have sm0 : ((⟨#[34, 92, 47, 8, 12, 10, 13, 9]⟩ : ByteArray)[0]'(by decide)).toNat = 34 := rfl
 have sp1 : ((⟨#[34, 92, 47, 98, 102, 110, 114, 116]⟩ : ByteArray)[1]'(by decide)).toNat = 92 := rfl
 have sm1 : ((⟨#[34, 92, 47, 8, 12, 10, 13, 9]⟩ : ByteArray)[1]'(by decide)).toNat = 92 := rfl
 have sp2 : ((⟨#[34, 92, 47, 98, 102, 110, 114, 116]⟩ : ByteArray)[2]'(by decide)).toNat = 47 := rfl
 have sm2 : ((⟨#[34, 92, 47, 8, 12, 10, 13, 9]⟩ : ByteArray)[2]'(by decide)).toNat = 47 := rfl
 have sp3 : ((⟨#[34, 92, 47, 98, 102, 110, 114, 116]⟩ : ByteArray)[3]'(by decide)).toNat = 98 := rfl
 have sm3 : ((⟨#[34, 92, 47, 8, 12, 10, 13, 9]⟩ : ByteArray)[3]'(by decide)).toNat = 8 := rfl
 have sp4 : ((⟨#[34, 92, 47, 98, 102, 110, 114, 116]⟩ : ByteArray)[4]'(by decide)).toNat = 102 := rfl
 have sm4 : ((⟨#[34, 92, 47, 8, 12, 10, 13, 9]⟩ : ByteArray)[4]'(by decide)).toNat = 12 := rfl
 have sp5 : ((⟨#[34, 92, 47, 98, 102, 110, 114, 116]⟩ : ByteArray)[5]'(by decide)).toNat = 110 := rfl
 have sm5 : ((⟨#[34, 92, 47, 8, 12, 10, 13, 9]⟩ : ByteArray)[5]'(by decide)).toNat = 10 := rfl
 have sp6 : ((⟨#[34, 92, 47, 98, 102, 110, 114, 116]⟩ : ByteArray)[6]'(by decide)).toNat = 114 := rfl
 have sm6 : ((⟨#[34, 92, 47, 8, 12, 10, 13, 9]⟩ : ByteArray)[6]'(by decide)).toNat = 13 := rfl
 have sp7 : ((⟨#[34, 92, 47, 98, 102, 110, 114, 116]⟩ : ByteArray)[7]'(by decide)).toNat = 116 := rfl
 have sm7 : ((⟨#[34, 92, 47, 8, 12, 10, 13, 9]⟩ : ByteArray)[7]'(by decide)).toNat = 9 := rfl
 go_enter Tryz.func87, Tryz.ntmps87
 go_wp2_with fail
 refine hnx.mono ?_
 rintro e w1 ⟨rfl, b1⟩
 have t1 := h.later b1
 have cc := t1.c1
 have cf := t1.fr 1
 obtain ⟨t2, k2⟩ := t1.set1p
 replace k2 := hide1 ((Kg.of b1).trans k2)
 replace t2 := hide1 t2
 clear hnx b1 t1 h
 go_wp2_with fail
 refine wp_loop_rounds 1 ?_
 rw [rounds_succ]; go_wp2
 go_ret
 refine ⟨34, p + 1, rfl, by rw [hof.out]; exact t2.out, k2.out, by have := hq.out; omega, by omega, fun n r e => ?_⟩
 rw [hof.out] at e
 cases e
 exact ⟨rfl, rfl, by have := hq.out; omega⟩
set_option maxHeartbeats 16000000 in
set_option maxRecDepth 100000 in
theorem esc_92 (h : Tg sl B g p false w) (hpl : p ≤ B.length) (hB : B.length ≤ 4096) (hc : nx B p = 92) : Calls Tryz.prog 87 #[.pointer (some ⟨g, 0, none⟩)] w (AnSg sl B g (esc (B.drop p)) w) := by
 obtain ⟨o, ho⟩ : ∃ o, o = esc (B.drop p) := ⟨_, rfl⟩
 have hcs := esc_nx ho
 have hnx := next_t h
 rw [← ho]
 have hof : o = some (92, B.drop (p + 1)) := by
  rcases hcs with ⟨e, _⟩ | ⟨m, _, _, e⟩
  ·omega
  ·rw [e, hc]; rfl
 have hq : Hid (p < B.length) := hide1 (nx_pos hc (by omega)).choose_spec.choose_spec.2.2
 rw [hc] at hnx
 replace hof := hide1 hof
 clear hcs ho hc
 have sp0 : ((⟨#[34, 92, 47, 98, 102, 110, 114, 116]⟩ : ByteArray)[0]'(by decide)).toNat = 34 := rfl
 have sm0 : ((⟨#[34, 92, 47, 8, 12, 10, 13, 9]⟩ : ByteArray)[0]'(by decide)).toNat = 34 := rfl
 have sp1 : ((⟨#[34, 92, 47, 98, 102, 110, 114, 116]⟩ : ByteArray)[1]'(by decide)).toNat = 92 := rfl
 have sm1 : ((⟨#[34, 92, 47, 8, 12, 10, 13, 9]⟩ : ByteArray)[1]'(by decide)).toNat = 92 := rfl
 have sp2 : ((⟨#[34, 92, 47, 98, 102, 110, 114, 116]⟩ : ByteArray)[2]'(by decide)).toNat = 47 := rfl
 have sm2 : ((⟨#[34, 92, 47, 8, 12, 10, 13, 9]⟩ : ByteArray)[2]'(by decide)).toNat = 47 := rfl
 have sp3 : ((⟨#[34, 92, 47, 98, 102, 110, 114, 116]⟩ : ByteArray)[3]'(by decide)).toNat = 98 := rfl
 have sm3 : ((⟨#[34, 92, 47, 8, 12, 10, 13, 9]⟩ : ByteArray)[3]'(by decide)).toNat = 8 := rfl
 have sp4 : ((⟨#[34, 92, 47, 98, 102, 110, 114, 116]⟩ : ByteArray)[4]'(by decide)).toNat = 102 := rfl
 have sm4 : ((⟨#[34, 92, 47, 8, 12, 10, 13, 9]⟩ : ByteArray)[4]'(by decide)).toNat = 12 := rfl
 have sp5 : ((⟨#[34, 92, 47, 98, 102, 110, 114, 116]⟩ : ByteArray)[5]'(by decide)).toNat = 110 := rfl
 have sm5 : ((⟨#[34, 92, 47, 8, 12, 10, 13, 9]⟩ : ByteArray)[5]'(by decide)).toNat = 10 := rfl
 have sp6 : ((⟨#[34, 92, 47, 98, 102, 110, 114, 116]⟩ : ByteArray)[6]'(by decide)).toNat = 114 := rfl
 have sm6 : ((⟨#[34, 92, 47, 8, 12, 10, 13, 9]⟩ : ByteArray)[6]'(by decide)).toNat = 13 := rfl
 have sp7 : ((⟨#[34, 92, 47, 98, 102, 110, 114, 116]⟩ : ByteArray)[7]'(by decide)).toNat = 116 := rfl
 have sm7 : ((⟨#[34, 92, 47, 8, 12, 10, 13, 9]⟩ : ByteArray)[7]'(by decide)).toNat = 9 := rfl
 go_enter Tryz.func87, Tryz.ntmps87
 go_wp2_with fail
 refine hnx.mono ?_
 rintro e w1 ⟨rfl, b1⟩
 have t1 := h.later b1
 have cc := t1.c1
 have cf := t1.fr 1
 obtain ⟨t2, k2⟩ := t1.set1p
 replace k2 := hide1 ((Kg.of b1).trans k2)
 replace t2 := hide1 t2
 clear hnx b1 t1 h
 go_wp2_with fail
 refine wp_loop_rounds 2 ?_
 rw [rounds_succ]; go_wp2
 rw [rounds_succ]; go_wp2
 go_ret
 refine ⟨92, p + 1, rfl, by rw [hof.out]; exact t2.out, k2.out, by have := hq.out; omega, by omega, fun n r e => ?_⟩
 rw [hof.out] at e
 cases e
 exact ⟨rfl, rfl, by have := hq.out; omega⟩
set_option maxHeartbeats 16000000 in
set_option maxRecDepth 100000 in
theorem esc_47 (h : Tg sl B g p false w) (hpl : p ≤ B.length) (hB : B.length ≤ 4096) (hc : nx B p = 47) : Calls Tryz.prog 87 #[.pointer (some ⟨g, 0, none⟩)] w (AnSg sl B g (esc (B.drop p)) w) := by
 obtain ⟨o, ho⟩ : ∃ o, o = esc (B.drop p) := ⟨_, rfl⟩
 have hcs := esc_nx ho
 have hnx := next_t h
 rw [← ho]
 have hof : o = some (47, B.drop (p + 1)) := by
  rcases hcs with ⟨e, _⟩ | ⟨m, _, _, e⟩
  ·omega
  ·rw [e, hc]; rfl
 have hq : Hid (p < B.length) := hide1 (nx_pos hc (by omega)).choose_spec.choose_spec.2.2
 rw [hc] at hnx
 replace hof := hide1 hof
 clear hcs ho hc
 have sp0 : ((⟨#[34, 92, 47, 98, 102, 110, 114, 116]⟩ : ByteArray)[0]'(by decide)).toNat = 34 := rfl
 have sm0 : ((⟨#[34, 92, 47, 8, 12, 10, 13, 9]⟩ : ByteArray)[0]'(by decide)).toNat = 34 := rfl
 have sp1 : ((⟨#[34, 92, 47, 98, 102, 110, 114, 116]⟩ : ByteArray)[1]'(by decide)).toNat = 92 := rfl
 have sm1 : ((⟨#[34, 92, 47, 8, 12, 10, 13, 9]⟩ : ByteArray)[1]'(by decide)).toNat = 92 := rfl
 have sp2 : ((⟨#[34, 92, 47, 98, 102, 110, 114, 116]⟩ : ByteArray)[2]'(by decide)).toNat = 47 := rfl
 have sm2 : ((⟨#[34, 92, 47, 8, 12, 10, 13, 9]⟩ : ByteArray)[2]'(by decide)).toNat = 47 := rfl
 have sp3 : ((⟨#[34, 92, 47, 98, 102, 110, 114, 116]⟩ : ByteArray)[3]'(by decide)).toNat = 98 := rfl
 have sm3 : ((⟨#[34, 92, 47, 8, 12, 10, 13, 9]⟩ : ByteArray)[3]'(by decide)).toNat = 8 := rfl
 have sp4 : ((⟨#[34, 92, 47, 98, 102, 110, 114, 116]⟩ : ByteArray)[4]'(by decide)).toNat = 102 := rfl
 have sm4 : ((⟨#[34, 92, 47, 8, 12, 10, 13, 9]⟩ : ByteArray)[4]'(by decide)).toNat = 12 := rfl
 have sp5 : ((⟨#[34, 92, 47, 98, 102, 110, 114, 116]⟩ : ByteArray)[5]'(by decide)).toNat = 110 := rfl
 have sm5 : ((⟨#[34, 92, 47, 8, 12, 10, 13, 9]⟩ : ByteArray)[5]'(by decide)).toNat = 10 := rfl
 have sp6 : ((⟨#[34, 92, 47, 98, 102, 110, 114, 116]⟩ : ByteArray)[6]'(by decide)).toNat = 114 := rfl
 have sm6 : ((⟨#[34, 92, 47, 8, 12, 10, 13, 9]⟩ : ByteArray)[6]'(by decide)).toNat = 13 := rfl
 have sp7 : ((⟨#[34, 92, 47, 98, 102, 110, 114, 116]⟩ : ByteArray)[7]'(by decide)).toNat = 116 := rfl
 have sm7 : ((⟨#[34, 92, 47, 8, 12, 10, 13, 9]⟩ : ByteArray)[7]'(by decide)).toNat = 9 := rfl
 go_enter Tryz.func87, Tryz.ntmps87
 go_wp2_with fail
 refine hnx.mono ?_
 rintro e w1 ⟨rfl, b1⟩
 have t1 := h.later b1
 have cc := t1.c1
 have cf := t1.fr 1
 obtain ⟨t2, k2⟩ := t1.set1p
 replace k2 := hide1 ((Kg.of b1).trans k2)
 replace t2 := hide1 t2
 clear hnx b1 t1 h
 go_wp2_with fail
 refine wp_loop_rounds 3 ?_
 rw [rounds_succ]; go_wp2
 rw [rounds_succ]; go_wp2
 rw [rounds_succ]; go_wp2
 go_ret
 refine ⟨47, p + 1, rfl, by rw [hof.out]; exact t2.out, k2.out, by have := hq.out; omega, by omega, fun n r e => ?_⟩
 rw [hof.out] at e
 cases e
 exact ⟨rfl, rfl, by have := hq.out; omega⟩
set_option maxHeartbeats 16000000 in
set_option maxRecDepth 100000 in
theorem esc_98 (h : Tg sl B g p false w) (hpl : p ≤ B.length) (hB : B.length ≤ 4096) (hc : nx B p = 98) : Calls Tryz.prog 87 #[.pointer (some ⟨g, 0, none⟩)] w (AnSg sl B g (esc (B.drop p)) w) := by
 obtain ⟨o, ho⟩ : ∃ o, o = esc (B.drop p) := ⟨_, rfl⟩
 have hcs := esc_nx ho
 have hnx := next_t h
 rw [← ho]
 have hof : o = some (8, B.drop (p + 1)) := by
  rcases hcs with ⟨e, _⟩ | ⟨m, _, _, e⟩
  ·omega
  ·rw [e, hc]; rfl
 have hq : Hid (p < B.length) := hide1 (nx_pos hc (by omega)).choose_spec.choose_spec.2.2
 rw [hc] at hnx
 replace hof := hide1 hof
 clear hcs ho hc
 have sp0 : ((⟨#[34, 92, 47, 98, 102, 110, 114, 116]⟩ : ByteArray)[0]'(by decide)).toNat = 34 := rfl
 have sm0 : ((⟨#[34, 92, 47, 8, 12, 10, 13, 9]⟩ : ByteArray)[0]'(by decide)).toNat = 34 := rfl
 have sp1 : ((⟨#[34, 92, 47, 98, 102, 110, 114, 116]⟩ : ByteArray)[1]'(by decide)).toNat = 92 := rfl
 have sm1 : ((⟨#[34, 92, 47, 8, 12, 10, 13, 9]⟩ : ByteArray)[1]'(by decide)).toNat = 92 := rfl
 have sp2 : ((⟨#[34, 92, 47, 98, 102, 110, 114, 116]⟩ : ByteArray)[2]'(by decide)).toNat = 47 := rfl
 have sm2 : ((⟨#[34, 92, 47, 8, 12, 10, 13, 9]⟩ : ByteArray)[2]'(by decide)).toNat = 47 := rfl
 have sp3 : ((⟨#[34, 92, 47, 98, 102, 110, 114, 116]⟩ : ByteArray)[3]'(by decide)).toNat = 98 := rfl
 have sm3 : ((⟨#[34, 92, 47, 8, 12, 10, 13, 9]⟩ : ByteArray)[3]'(by decide)).toNat = 8 := rfl
 have sp4 : ((⟨#[34, 92, 47, 98, 102, 110, 114, 116]⟩ : ByteArray)[4]'(by decide)).toNat = 102 := rfl
 have sm4 : ((⟨#[34, 92, 47, 8, 12, 10, 13, 9]⟩ : ByteArray)[4]'(by decide)).toNat = 12 := rfl
 have sp5 : ((⟨#[34, 92, 47, 98, 102, 110, 114, 116]⟩ : ByteArray)[5]'(by decide)).toNat = 110 := rfl
 have sm5 : ((⟨#[34, 92, 47, 8, 12, 10, 13, 9]⟩ : ByteArray)[5]'(by decide)).toNat = 10 := rfl
 have sp6 : ((⟨#[34, 92, 47, 98, 102, 110, 114, 116]⟩ : ByteArray)[6]'(by decide)).toNat = 114 := rfl
 have sm6 : ((⟨#[34, 92, 47, 8, 12, 10, 13, 9]⟩ : ByteArray)[6]'(by decide)).toNat = 13 := rfl
 have sp7 : ((⟨#[34, 92, 47, 98, 102, 110, 114, 116]⟩ : ByteArray)[7]'(by decide)).toNat = 116 := rfl
 have sm7 : ((⟨#[34, 92, 47, 8, 12, 10, 13, 9]⟩ : ByteArray)[7]'(by decide)).toNat = 9 := rfl
 go_enter Tryz.func87, Tryz.ntmps87
 go_wp2_with fail
 refine hnx.mono ?_
 rintro e w1 ⟨rfl, b1⟩
 have t1 := h.later b1
 have cc := t1.c1
 have cf := t1.fr 1
 obtain ⟨t2, k2⟩ := t1.set1p
 replace k2 := hide1 ((Kg.of b1).trans k2)
 replace t2 := hide1 t2
 clear hnx b1 t1 h
 go_wp2_with fail
 refine wp_loop_rounds 4 ?_
 rw [rounds_succ]; go_wp2
 rw [rounds_succ]; go_wp2
 rw [rounds_succ]; go_wp2
 rw [rounds_succ]; go_wp2
 go_ret
 refine ⟨8, p + 1, rfl, by rw [hof.out]; exact t2.out, k2.out, by have := hq.out; omega, by omega, fun n r e => ?_⟩
 rw [hof.out] at e
 cases e
 exact ⟨rfl, rfl, by have := hq.out; omega⟩
set_option maxHeartbeats 16000000 in
set_option maxRecDepth 100000 in
theorem esc_102 (h : Tg sl B g p false w) (hpl : p ≤ B.length) (hB : B.length ≤ 4096) (hc : nx B p = 102) : Calls Tryz.prog 87 #[.pointer (some ⟨g, 0, none⟩)] w (AnSg sl B g (esc (B.drop p)) w) := by
 obtain ⟨o, ho⟩ : ∃ o, o = esc (B.drop p) := ⟨_, rfl⟩
 have hcs := esc_nx ho
 have hnx := next_t h
 rw [← ho]
 have hof : o = some (12, B.drop (p + 1)) := by
  rcases hcs with ⟨e, _⟩ | ⟨m, _, _, e⟩
  ·omega
  ·rw [e, hc]; rfl
 have hq : Hid (p < B.length) := hide1 (nx_pos hc (by omega)).choose_spec.choose_spec.2.2
 rw [hc] at hnx
 replace hof := hide1 hof
 clear hcs ho hc
 have sp0 : ((⟨#[34, 92, 47, 98, 102, 110, 114, 116]⟩ : ByteArray)[0]'(by decide)).toNat = 34 := rfl
 have sm0 : ((⟨#[34, 92, 47, 8, 12, 10, 13, 9]⟩ : ByteArray)[0]'(by decide)).toNat = 34 := rfl
 have sp1 : ((⟨#[34, 92, 47, 98, 102, 110, 114, 116]⟩ : ByteArray)[1]'(by decide)).toNat = 92 := rfl
 have sm1 : ((⟨#[34, 92, 47, 8, 12, 10, 13, 9]⟩ : ByteArray)[1]'(by decide)).toNat = 92 := rfl
 have sp2 : ((⟨#[34, 92, 47, 98, 102, 110, 114, 116]⟩ : ByteArray)[2]'(by decide)).toNat = 47 := rfl
 have sm2 : ((⟨#[34, 92, 47, 8, 12, 10, 13, 9]⟩ : ByteArray)[2]'(by decide)).toNat = 47 := rfl
 have sp3 : ((⟨#[34, 92, 47, 98, 102, 110, 114, 116]⟩ : ByteArray)[3]'(by decide)).toNat = 98 := rfl
 have sm3 : ((⟨#[34, 92, 47, 8, 12, 10, 13, 9]⟩ : ByteArray)[3]'(by decide)).toNat = 8 := rfl
 have sp4 : ((⟨#[34, 92, 47, 98, 102, 110, 114, 116]⟩ : ByteArray)[4]'(by decide)).toNat = 102 := rfl
 have sm4 : ((⟨#[34, 92, 47, 8, 12, 10, 13, 9]⟩ : ByteArray)[4]'(by decide)).toNat = 12 := rfl
 have sp5 : ((⟨#[34, 92, 47, 98, 102, 110, 114, 116]⟩ : ByteArray)[5]'(by decide)).toNat = 110 := rfl
 have sm5 : ((⟨#[34, 92, 47, 8, 12, 10, 13, 9]⟩ : ByteArray)[5]'(by decide)).toNat = 10 := rfl
 have sp6 : ((⟨#[34, 92, 47, 98, 102, 110, 114, 116]⟩ : ByteArray)[6]'(by decide)).toNat = 114 := rfl
 have sm6 : ((⟨#[34, 92, 47, 8, 12, 10, 13, 9]⟩ : ByteArray)[6]'(by decide)).toNat = 13 := rfl
 have sp7 : ((⟨#[34, 92, 47, 98, 102, 110, 114, 116]⟩ : ByteArray)[7]'(by decide)).toNat = 116 := rfl
 have sm7 : ((⟨#[34, 92, 47, 8, 12, 10, 13, 9]⟩ : ByteArray)[7]'(by decide)).toNat = 9 := rfl
 go_enter Tryz.func87, Tryz.ntmps87
 go_wp2_with fail
 refine hnx.mono ?_
 rintro e w1 ⟨rfl, b1⟩
 have t1 := h.later b1
 have cc := t1.c1
 have cf := t1.fr 1
 obtain ⟨t2, k2⟩ := t1.set1p
 replace k2 := hide1 ((Kg.of b1).trans k2)
 replace t2 := hide1 t2
 clear hnx b1 t1 h
 go_wp2_with fail
 refine wp_loop_rounds 5 ?_
 rw [rounds_succ]; go_wp2
 rw [rounds_succ]; go_wp2
 rw [rounds_succ]; go_wp2
 rw [rounds_succ]; go_wp2
 rw [rounds_succ]; go_wp2
 go_ret
 refine ⟨12, p + 1, rfl, by rw [hof.out]; exact t2.out, k2.out, by have := hq.out; omega, by omega, fun n r e => ?_⟩
 rw [hof.out] at e
 cases e
 exact ⟨rfl, rfl, by have := hq.out; omega⟩
set_option maxHeartbeats 16000000 in
set_option maxRecDepth 100000 in
theorem esc_110 (h : Tg sl B g p false w) (hpl : p ≤ B.length) (hB : B.length ≤ 4096) (hc : nx B p = 110) : Calls Tryz.prog 87 #[.pointer (some ⟨g, 0, none⟩)] w (AnSg sl B g (esc (B.drop p)) w) := by
 obtain ⟨o, ho⟩ : ∃ o, o = esc (B.drop p) := ⟨_, rfl⟩
 have hcs := esc_nx ho
 have hnx := next_t h
 rw [← ho]
 have hof : o = some (10, B.drop (p + 1)) := by
  rcases hcs with ⟨e, _⟩ | ⟨m, _, _, e⟩
  ·omega
  ·rw [e, hc]; rfl
 have hq : Hid (p < B.length) := hide1 (nx_pos hc (by omega)).choose_spec.choose_spec.2.2
 rw [hc] at hnx
 replace hof := hide1 hof
 clear hcs ho hc
 have sp0 : ((⟨#[34, 92, 47, 98, 102, 110, 114, 116]⟩ : ByteArray)[0]'(by decide)).toNat = 34 := rfl
 have sm0 : ((⟨#[34, 92, 47, 8, 12, 10, 13, 9]⟩ : ByteArray)[0]'(by decide)).toNat = 34 := rfl
 have sp1 : ((⟨#[34, 92, 47, 98, 102, 110, 114, 116]⟩ : ByteArray)[1]'(by decide)).toNat = 92 := rfl
 have sm1 : ((⟨#[34, 92, 47, 8, 12, 10, 13, 9]⟩ : ByteArray)[1]'(by decide)).toNat = 92 := rfl
 have sp2 : ((⟨#[34, 92, 47, 98, 102, 110, 114, 116]⟩ : ByteArray)[2]'(by decide)).toNat = 47 := rfl
 have sm2 : ((⟨#[34, 92, 47, 8, 12, 10, 13, 9]⟩ : ByteArray)[2]'(by decide)).toNat = 47 := rfl
 have sp3 : ((⟨#[34, 92, 47, 98, 102, 110, 114, 116]⟩ : ByteArray)[3]'(by decide)).toNat = 98 := rfl
 have sm3 : ((⟨#[34, 92, 47, 8, 12, 10, 13, 9]⟩ : ByteArray)[3]'(by decide)).toNat = 8 := rfl
 have sp4 : ((⟨#[34, 92, 47, 98, 102, 110, 114, 116]⟩ : ByteArray)[4]'(by decide)).toNat = 102 := rfl
 have sm4 : ((⟨#[34, 92, 47, 8, 12, 10, 13, 9]⟩ : ByteArray)[4]'(by decide)).toNat = 12 := rfl
 have sp5 : ((⟨#[34, 92, 47, 98, 102, 110, 114, 116]⟩ : ByteArray)[5]'(by decide)).toNat = 110 := rfl
 have sm5 : ((⟨#[34, 92, 47, 8, 12, 10, 13, 9]⟩ : ByteArray)[5]'(by decide)).toNat = 10 := rfl
 have sp6 : ((⟨#[34, 92, 47, 98, 102, 110, 114, 116]⟩ : ByteArray)[6]'(by decide)).toNat = 114 := rfl
 have sm6 : ((⟨#[34, 92, 47, 8, 12, 10, 13, 9]⟩ : ByteArray)[6]'(by decide)).toNat = 13 := rfl
 have sp7 : ((⟨#[34, 92, 47, 98, 102, 110, 114, 116]⟩ : ByteArray)[7]'(by decide)).toNat = 116 := rfl
 have sm7 : ((⟨#[34, 92, 47, 8, 12, 10, 13, 9]⟩ : ByteArray)[7]'(by decide)).toNat = 9 := rfl
 go_enter Tryz.func87, Tryz.ntmps87
 go_wp2_with fail
 refine hnx.mono ?_
 rintro e w1 ⟨rfl, b1⟩
 have t1 := h.later b1
 have cc := t1.c1
 have cf := t1.fr 1
 obtain ⟨t2, k2⟩ := t1.set1p
 replace k2 := hide1 ((Kg.of b1).trans k2)
 replace t2 := hide1 t2
 clear hnx b1 t1 h
 go_wp2_with fail
 refine wp_loop_rounds 6 ?_
 rw [rounds_succ]; go_wp2
 rw [rounds_succ]; go_wp2
 rw [rounds_succ]; go_wp2
 rw [rounds_succ]; go_wp2
 rw [rounds_succ]; go_wp2
 rw [rounds_succ]; go_wp2
 go_ret
 refine ⟨10, p + 1, rfl, by rw [hof.out]; exact t2.out, k2.out, by have := hq.out; omega, by omega, fun n r e => ?_⟩
 rw [hof.out] at e
 cases e
 exact ⟨rfl, rfl, by have := hq.out; omega⟩
set_option maxHeartbeats 16000000 in
set_option maxRecDepth 100000 in
theorem esc_114 (h : Tg sl B g p false w) (hpl : p ≤ B.length) (hB : B.length ≤ 4096) (hc : nx B p = 114) : Calls Tryz.prog 87 #[.pointer (some ⟨g, 0, none⟩)] w (AnSg sl B g (esc (B.drop p)) w) := by
 obtain ⟨o, ho⟩ : ∃ o, o = esc (B.drop p) := ⟨_, rfl⟩
 have hcs := esc_nx ho
 have hnx := next_t h
 rw [← ho]
 have hof : o = some (13, B.drop (p + 1)) := by
  rcases hcs with ⟨e, _⟩ | ⟨m, _, _, e⟩
  ·omega
  ·rw [e, hc]; rfl
 have hq : Hid (p < B.length) := hide1 (nx_pos hc (by omega)).choose_spec.choose_spec.2.2
 rw [hc] at hnx
 replace hof := hide1 hof
 clear hcs ho hc
 have sp0 : ((⟨#[34, 92, 47, 98, 102, 110, 114, 116]⟩ : ByteArray)[0]'(by decide)).toNat = 34 := rfl
 have sm0 : ((⟨#[34, 92, 47, 8, 12, 10, 13, 9]⟩ : ByteArray)[0]'(by decide)).toNat = 34 := rfl
 have sp1 : ((⟨#[34, 92, 47, 98, 102, 110, 114, 116]⟩ : ByteArray)[1]'(by decide)).toNat = 92 := rfl
 have sm1 : ((⟨#[34, 92, 47, 8, 12, 10, 13, 9]⟩ : ByteArray)[1]'(by decide)).toNat = 92 := rfl
 have sp2 : ((⟨#[34, 92, 47, 98, 102, 110, 114, 116]⟩ : ByteArray)[2]'(by decide)).toNat = 47 := rfl
 have sm2 : ((⟨#[34, 92, 47, 8, 12, 10, 13, 9]⟩ : ByteArray)[2]'(by decide)).toNat = 47 := rfl
 have sp3 : ((⟨#[34, 92, 47, 98, 102, 110, 114, 116]⟩ : ByteArray)[3]'(by decide)).toNat = 98 := rfl
 have sm3 : ((⟨#[34, 92, 47, 8, 12, 10, 13, 9]⟩ : ByteArray)[3]'(by decide)).toNat = 8 := rfl
 have sp4 : ((⟨#[34, 92, 47, 98, 102, 110, 114, 116]⟩ : ByteArray)[4]'(by decide)).toNat = 102 := rfl
 have sm4 : ((⟨#[34, 92, 47, 8, 12, 10, 13, 9]⟩ : ByteArray)[4]'(by decide)).toNat = 12 := rfl
 have sp5 : ((⟨#[34, 92, 47, 98, 102, 110, 114, 116]⟩ : ByteArray)[5]'(by decide)).toNat = 110 := rfl
 have sm5 : ((⟨#[34, 92, 47, 8, 12, 10, 13, 9]⟩ : ByteArray)[5]'(by decide)).toNat = 10 := rfl
 have sp6 : ((⟨#[34, 92, 47, 98, 102, 110, 114, 116]⟩ : ByteArray)[6]'(by decide)).toNat = 114 := rfl
 have sm6 : ((⟨#[34, 92, 47, 8, 12, 10, 13, 9]⟩ : ByteArray)[6]'(by decide)).toNat = 13 := rfl
 have sp7 : ((⟨#[34, 92, 47, 98, 102, 110, 114, 116]⟩ : ByteArray)[7]'(by decide)).toNat = 116 := rfl
 have sm7 : ((⟨#[34, 92, 47, 8, 12, 10, 13, 9]⟩ : ByteArray)[7]'(by decide)).toNat = 9 := rfl
 go_enter Tryz.func87, Tryz.ntmps87
 go_wp2_with fail
 refine hnx.mono ?_
 rintro e w1 ⟨rfl, b1⟩
 have t1 := h.later b1
 have cc := t1.c1
 have cf := t1.fr 1
 obtain ⟨t2, k2⟩ := t1.set1p
 replace k2 := hide1 ((Kg.of b1).trans k2)
 replace t2 := hide1 t2
 clear hnx b1 t1 h
 go_wp2_with fail
 refine wp_loop_rounds 7 ?_
 rw [rounds_succ]; go_wp2
 rw [rounds_succ]; go_wp2
 rw [rounds_succ]; go_wp2
 rw [rounds_succ]; go_wp2
 rw [rounds_succ]; go_wp2
 rw [rounds_succ]; go_wp2
 rw [rounds_succ]; go_wp2
 go_ret
 refine ⟨13, p + 1, rfl, by rw [hof.out]; exact t2.out, k2.out, by have := hq.out; omega, by omega, fun n r e => ?_⟩
 rw [hof.out] at e
 cases e
 exact ⟨rfl, rfl, by have := hq.out; omega⟩
set_option maxHeartbeats 16000000 in
set_option maxRecDepth 100000 in
theorem esc_116 (h : Tg sl B g p false w) (hpl : p ≤ B.length) (hB : B.length ≤ 4096) (hc : nx B p = 116) : Calls Tryz.prog 87 #[.pointer (some ⟨g, 0, none⟩)] w (AnSg sl B g (esc (B.drop p)) w) := by
 obtain ⟨o, ho⟩ : ∃ o, o = esc (B.drop p) := ⟨_, rfl⟩
 have hcs := esc_nx ho
 have hnx := next_t h
 rw [← ho]
 have hof : o = some (9, B.drop (p + 1)) := by
  rcases hcs with ⟨e, _⟩ | ⟨m, _, _, e⟩
  ·omega
  ·rw [e, hc]; rfl
 have hq : Hid (p < B.length) := hide1 (nx_pos hc (by omega)).choose_spec.choose_spec.2.2
 rw [hc] at hnx
 replace hof := hide1 hof
 clear hcs ho hc
 have sp0 : ((⟨#[34, 92, 47, 98, 102, 110, 114, 116]⟩ : ByteArray)[0]'(by decide)).toNat = 34 := rfl
 have sm0 : ((⟨#[34, 92, 47, 8, 12, 10, 13, 9]⟩ : ByteArray)[0]'(by decide)).toNat = 34 := rfl
 have sp1 : ((⟨#[34, 92, 47, 98, 102, 110, 114, 116]⟩ : ByteArray)[1]'(by decide)).toNat = 92 := rfl
 have sm1 : ((⟨#[34, 92, 47, 8, 12, 10, 13, 9]⟩ : ByteArray)[1]'(by decide)).toNat = 92 := rfl
 have sp2 : ((⟨#[34, 92, 47, 98, 102, 110, 114, 116]⟩ : ByteArray)[2]'(by decide)).toNat = 47 := rfl
 have sm2 : ((⟨#[34, 92, 47, 8, 12, 10, 13, 9]⟩ : ByteArray)[2]'(by decide)).toNat = 47 := rfl
 have sp3 : ((⟨#[34, 92, 47, 98, 102, 110, 114, 116]⟩ : ByteArray)[3]'(by decide)).toNat = 98 := rfl
 have sm3 : ((⟨#[34, 92, 47, 8, 12, 10, 13, 9]⟩ : ByteArray)[3]'(by decide)).toNat = 8 := rfl
 have sp4 : ((⟨#[34, 92, 47, 98, 102, 110, 114, 116]⟩ : ByteArray)[4]'(by decide)).toNat = 102 := rfl
 have sm4 : ((⟨#[34, 92, 47, 8, 12, 10, 13, 9]⟩ : ByteArray)[4]'(by decide)).toNat = 12 := rfl
 have sp5 : ((⟨#[34, 92, 47, 98, 102, 110, 114, 116]⟩ : ByteArray)[5]'(by decide)).toNat = 110 := rfl
 have sm5 : ((⟨#[34, 92, 47, 8, 12, 10, 13, 9]⟩ : ByteArray)[5]'(by decide)).toNat = 10 := rfl
 have sp6 : ((⟨#[34, 92, 47, 98, 102, 110, 114, 116]⟩ : ByteArray)[6]'(by decide)).toNat = 114 := rfl
 have sm6 : ((⟨#[34, 92, 47, 8, 12, 10, 13, 9]⟩ : ByteArray)[6]'(by decide)).toNat = 13 := rfl
 have sp7 : ((⟨#[34, 92, 47, 98, 102, 110, 114, 116]⟩ : ByteArray)[7]'(by decide)).toNat = 116 := rfl
 have sm7 : ((⟨#[34, 92, 47, 8, 12, 10, 13, 9]⟩ : ByteArray)[7]'(by decide)).toNat = 9 := rfl
 go_enter Tryz.func87, Tryz.ntmps87
 go_wp2_with fail
 refine hnx.mono ?_
 rintro e w1 ⟨rfl, b1⟩
 have t1 := h.later b1
 have cc := t1.c1
 have cf := t1.fr 1
 obtain ⟨t2, k2⟩ := t1.set1p
 replace k2 := hide1 ((Kg.of b1).trans k2)
 replace t2 := hide1 t2
 clear hnx b1 t1 h
 go_wp2_with fail
 refine wp_loop_rounds 8 ?_
 rw [rounds_succ]; go_wp2
 rw [rounds_succ]; go_wp2
 rw [rounds_succ]; go_wp2
 rw [rounds_succ]; go_wp2
 rw [rounds_succ]; go_wp2
 rw [rounds_succ]; go_wp2
 rw [rounds_succ]; go_wp2
 rw [rounds_succ]; go_wp2
 go_ret
 refine ⟨9, p + 1, rfl, by rw [hof.out]; exact t2.out, k2.out, by have := hq.out; omega, by omega, fun n r e => ?_⟩
 rw [hof.out] at e
 cases e
 exact ⟨rfl, rfl, by have := hq.out; omega⟩
set_option maxHeartbeats 16000000 in
set_option maxRecDepth 100000 in
theorem esc_no (h : Tg sl B g p false w) (hpl : p ≤ B.length) (hB : B.length ≤ 4096) {c : Nat} (hc : nx B p = c) (n34 : c ≠ 34) (n92 : c ≠ 92) (n47 : c ≠ 47) (n98 : c ≠ 98) (n102 : c ≠ 102) (n110 : c ≠ 110) (n114 : c ≠ 114) (n116 : c ≠ 116) (n117 : c ≠ 117) : Calls Tryz.prog 87 #[.pointer (some ⟨g, 0, none⟩)] w (AnSg sl B g (esc (B.drop p)) w) := by
 obtain ⟨o, ho⟩ : ∃ o, o = esc (B.drop p) := ⟨_, rfl⟩
 have hcs := esc_nx ho
 have hnx := next_t h
 rw [← ho]
 have hof : o = none := by
  rcases hcs with ⟨_, e⟩ | ⟨m, _, _, e⟩
  ·exact e
  ·rw [e, hc]
   unfold escN
   rw [if_neg (by omega), if_neg (by omega), if_neg (by omega), if_neg (by omega), if_neg (by omega), if_neg (by omega), if_neg (by omega)]
 rw [hc] at hnx
 replace hof := hide1 hof
 have hcl : c < 256 := by rw [← hc]; exact nx_lt B p
 clear hcs ho hc
 have d34 : ((c : Int) == 34) = false := by simp; omega
 have d92 : ((c : Int) == 92) = false := by simp; omega
 have d47 : ((c : Int) == 47) = false := by simp; omega
 have d98 : ((c : Int) == 98) = false := by simp; omega
 have d102 : ((c : Int) == 102) = false := by simp; omega
 have d110 : ((c : Int) == 110) = false := by simp; omega
 have d114 : ((c : Int) == 114) = false := by simp; omega
 have d116 : ((c : Int) == 116) = false := by simp; omega
 have d117 : ((c : Int) != 117) = true := by simp; omega
 have sp0 : ((⟨#[34, 92, 47, 98, 102, 110, 114, 116]⟩ : ByteArray)[0]'(by decide)).toNat = 34 := rfl
 have sm0 : ((⟨#[34, 92, 47, 8, 12, 10, 13, 9]⟩ : ByteArray)[0]'(by decide)).toNat = 34 := rfl
 have sp1 : ((⟨#[34, 92, 47, 98, 102, 110, 114, 116]⟩ : ByteArray)[1]'(by decide)).toNat = 92 := rfl
 have sm1 : ((⟨#[34, 92, 47, 8, 12, 10, 13, 9]⟩ : ByteArray)[1]'(by decide)).toNat = 92 := rfl
 have sp2 : ((⟨#[34, 92, 47, 98, 102, 110, 114, 116]⟩ : ByteArray)[2]'(by decide)).toNat = 47 := rfl
 have sm2 : ((⟨#[34, 92, 47, 8, 12, 10, 13, 9]⟩ : ByteArray)[2]'(by decide)).toNat = 47 := rfl
 have sp3 : ((⟨#[34, 92, 47, 98, 102, 110, 114, 116]⟩ : ByteArray)[3]'(by decide)).toNat = 98 := rfl
 have sm3 : ((⟨#[34, 92, 47, 8, 12, 10, 13, 9]⟩ : ByteArray)[3]'(by decide)).toNat = 8 := rfl
 have sp4 : ((⟨#[34, 92, 47, 98, 102, 110, 114, 116]⟩ : ByteArray)[4]'(by decide)).toNat = 102 := rfl
 have sm4 : ((⟨#[34, 92, 47, 8, 12, 10, 13, 9]⟩ : ByteArray)[4]'(by decide)).toNat = 12 := rfl
 have sp5 : ((⟨#[34, 92, 47, 98, 102, 110, 114, 116]⟩ : ByteArray)[5]'(by decide)).toNat = 110 := rfl
 have sm5 : ((⟨#[34, 92, 47, 8, 12, 10, 13, 9]⟩ : ByteArray)[5]'(by decide)).toNat = 10 := rfl
 have sp6 : ((⟨#[34, 92, 47, 98, 102, 110, 114, 116]⟩ : ByteArray)[6]'(by decide)).toNat = 114 := rfl
 have sm6 : ((⟨#[34, 92, 47, 8, 12, 10, 13, 9]⟩ : ByteArray)[6]'(by decide)).toNat = 13 := rfl
 have sp7 : ((⟨#[34, 92, 47, 98, 102, 110, 114, 116]⟩ : ByteArray)[7]'(by decide)).toNat = 116 := rfl
 have sm7 : ((⟨#[34, 92, 47, 8, 12, 10, 13, 9]⟩ : ByteArray)[7]'(by decide)).toNat = 9 := rfl
 go_enter Tryz.func87, Tryz.ntmps87
 go_wp2_with fail
 refine hnx.mono ?_
 rintro e w1 ⟨rfl, b1⟩
 have t1 := h.later b1
 have cc := t1.c1
 have cf := t1.fr 1
 obtain ⟨t2, k2⟩ := t1.set1p
 replace k2 := hide1 ((Kg.of b1).trans k2)
 replace t2 := hide1 t2
 clear hnx b1 t1 h
 go_wp2_with fail
 refine wp_loop_rounds 9 ?_
 rw [rounds_succ]; go_wp2
 rw [rounds_succ]; go_wp2
 rw [rounds_succ]; go_wp2
 rw [rounds_succ]; go_wp2
 rw [rounds_succ]; go_wp2
 rw [rounds_succ]; go_wp2
 rw [rounds_succ]; go_wp2
 rw [rounds_succ]; go_wp2
 rw [rounds_succ]
 have e1 := hide1 t2.out.c2
 have e2 := hide1 (t2.out.fr 2)
 obtain ⟨t3, k3⟩ := t2.out.set2 true
 replace t3 := hide1 t3
 have k3' := hide1 (k2.out.trans k3)
 go_upto_region 11 with fail
 generalize w1.setCell ⟨g, 1, none⟩ (.int .i64 (((p : Nat) : Int) + 1)) = w2 at *
 clear k3 t2 k2
 replace e1 := e1.out
 replace e2 := e2.out
 go_wp2
 go_ret
 exact ⟨0, p + 1, rfl, by rw [hof.out]; exact t3.out, k3'.out, by omega, by omega, fun n r e => by rw [hof.out] at e; cases e⟩
set_option maxHeartbeats 16000000 in
set_option maxRecDepth 100000 in
theorem esc_u (h : Tg sl B g p false w) (_hpl : p ≤ B.length) (hB : B.length ≤ 4096) (hc : nx B p = 117) : Calls Tryz.prog 87 #[.pointer (some ⟨g, 0, none⟩)] w (AnSg sl B g (esc (B.drop p)) w) := by
 obtain ⟨o, ho⟩ : ∃ o, o = esc (B.drop p) := ⟨_, rfl⟩
 have hcs := esc_nx ho
 have hnx := next_t h
 rw [← ho]
 have hof0 : o = cdd (B.drop (p + 1)) := by
  rcases hcs with ⟨e, _⟩ | ⟨m, _, _, e⟩
  ·omega
  ·rw [e, hc]; rfl
 have hq : p < B.length := (nx_pos hc (by omega)).choose_spec.choose_spec.2.2
 have h4 := fun (wx : World) (hx : Tg sl B g (p + 1) false wx) => four_t hx (by omega) hB
 rw [hc] at hnx
 unfold cdd at hof0
 obtain ⟨o4, ho4⟩ : ∃ o4, f4 4 0 (B.drop (p + 1)) = o4 := ⟨_, rfl⟩
 rw [ho4] at hof0 h4
 replace h4 := hide1 h4
 replace hof0 := hide1 hof0
 clear hcs ho hc
 have sp0 : ((⟨#[34, 92, 47, 98, 102, 110, 114, 116]⟩ : ByteArray)[0]'(by decide)).toNat = 34 := rfl
 have sm0 : ((⟨#[34, 92, 47, 8, 12, 10, 13, 9]⟩ : ByteArray)[0]'(by decide)).toNat = 34 := rfl
 have sp1 : ((⟨#[34, 92, 47, 98, 102, 110, 114, 116]⟩ : ByteArray)[1]'(by decide)).toNat = 92 := rfl
 have sm1 : ((⟨#[34, 92, 47, 8, 12, 10, 13, 9]⟩ : ByteArray)[1]'(by decide)).toNat = 92 := rfl
 have sp2 : ((⟨#[34, 92, 47, 98, 102, 110, 114, 116]⟩ : ByteArray)[2]'(by decide)).toNat = 47 := rfl
 have sm2 : ((⟨#[34, 92, 47, 8, 12, 10, 13, 9]⟩ : ByteArray)[2]'(by decide)).toNat = 47 := rfl
 have sp3 : ((⟨#[34, 92, 47, 98, 102, 110, 114, 116]⟩ : ByteArray)[3]'(by decide)).toNat = 98 := rfl
 have sm3 : ((⟨#[34, 92, 47, 8, 12, 10, 13, 9]⟩ : ByteArray)[3]'(by decide)).toNat = 8 := rfl
 have sp4 : ((⟨#[34, 92, 47, 98, 102, 110, 114, 116]⟩ : ByteArray)[4]'(by decide)).toNat = 102 := rfl
 have sm4 : ((⟨#[34, 92, 47, 8, 12, 10, 13, 9]⟩ : ByteArray)[4]'(by decide)).toNat = 12 := rfl
 have sp5 : ((⟨#[34, 92, 47, 98, 102, 110, 114, 116]⟩ : ByteArray)[5]'(by decide)).toNat = 110 := rfl
 have sm5 : ((⟨#[34, 92, 47, 8, 12, 10, 13, 9]⟩ : ByteArray)[5]'(by decide)).toNat = 10 := rfl
 have sp6 : ((⟨#[34, 92, 47, 98, 102, 110, 114, 116]⟩ : ByteArray)[6]'(by decide)).toNat = 114 := rfl
 have sm6 : ((⟨#[34, 92, 47, 8, 12, 10, 13, 9]⟩ : ByteArray)[6]'(by decide)).toNat = 13 := rfl
 have sp7 : ((⟨#[34, 92, 47, 98, 102, 110, 114, 116]⟩ : ByteArray)[7]'(by decide)).toNat = 116 := rfl
 have sm7 : ((⟨#[34, 92, 47, 8, 12, 10, 13, 9]⟩ : ByteArray)[7]'(by decide)).toNat = 9 := rfl
 go_enter Tryz.func87, Tryz.ntmps87
 go_wp2_with fail
 refine hnx.mono ?_
 rintro e w1 ⟨rfl, b1⟩
 have t1 := h.later b1
 have cc := t1.c1
 have cf := t1.fr 1
 obtain ⟨t2, k2⟩ := t1.set1p
 replace k2 := hide1 ((Kg.of b1).trans k2)
 replace t2 := hide1 t2
 clear hnx b1 t1 h
 go_wp2_with fail
 refine wp_loop_rounds 9 ?_
 rw [rounds_succ]; go_wp2
 rw [rounds_succ]; go_wp2
 rw [rounds_succ]; go_wp2
 rw [rounds_succ]; go_wp2
 rw [rounds_succ]; go_wp2
 rw [rounds_succ]; go_wp2
 rw [rounds_succ]; go_wp2
 rw [rounds_succ]; go_wp2
 rw [rounds_succ]; go_wp2_with fail
 have hc4 := h4.out _ t2.out
 go_upto_region 13 with fail
 generalize w1.setCell ⟨g, 1, none⟩ (.int .i64 (((p : Nat) : Int) + 1)) = w2 at *
 clear cc cf t2
 go_wp2_with fail
 refine hc4.mono ?_
 rintro e w3 ⟨n, q, rfl, t3, k3, hq3, hx0, hx6, hval⟩
 replace k3 := hide1 (k2.out.trans k3)
 clear hc4 h4 k2
 cases o4 with
 | none =>
  obtain rfl := hx0 rfl
  have hof : o = none := hof0.out
  have hf2 : Hid (AnSg sl B g o w (.returned (.int .i64 0)) w3) := hide1 ⟨0, q, rfl, by rw [hof]; exact t3, k3.out, hq3, by omega, fun n r e => by rw [hof] at e; cases e⟩
  clear hval t3 k3 hof hof0
  go_wp2
  go_ret
  exact hf2.out
 | some n0 =>
  obtain ⟨rfl, rfl, hqB⟩ := hval _ rfl
  have hof1 := hof0.out
  simp only at hof1
  by_cases r1 : n < 55296
  ·rw [if_pos (.inl r1)] at hof1
   have hf2 : Hid (AnSg sl B g o w (.returned (.int .i64 (n : Nat))) w3) := hide1 ⟨n, _, rfl, by rw [hof1]; exact t3, k3.out, hq3, by omega, fun m r e => by rw [hof1] at e; cases e; exact ⟨rfl, by rw [List.drop_drop], hqB⟩⟩
   clear hval t3 k3 hof1 hof0
   go_wp2
   go_ret
   exact hf2.out
  by_cases r2 : 57343 < n
  ·rw [if_pos (.inr r2)] at hof1
   have hf2 : Hid (AnSg sl B g o w (.returned (.int .i64 (n : Nat))) w3) := hide1 ⟨n, _, rfl, by rw [hof1]; exact t3, k3.out, hq3, by omega, fun m r e => by rw [hof1] at e; cases e; exact ⟨rfl, by rw [List.drop_drop], hqB⟩⟩
   clear hval t3 k3 hof1 hof0
   go_wp2
   go_ret
   exact hf2.out
  rw [if_neg (by omega), List.drop_drop] at hof1
  have hw := word_t (s := [92, 117]) t3 (by omega) hB (by decide) (by decide)
  obtain ⟨z, hz⟩ : ∃ z, hp [92, 117] (B.drop (p + 1 + 4)) = z := ⟨_, rfl⟩
  unfold AnWd at hw
  rw [hz] at hw hof1
  replace hof1 := hide1 hof1
  replace hz := hide1 hz
  clear hval t3 hof0
  replace hw : Calls Tryz.prog 48 #[.pointer (some ⟨g, 0, none⟩), .string ⟨#[92, 117]⟩] w3 _ := hw
  go_wp2_with fail
  refine hw.mono ?_
  rintro e w4 ⟨rfl, t4, k4⟩
  have KK := k3.out.trans k4
  replace KK := hide1 KK
  clear hw k3
  cases z with
  | false =>
   replace t4 : Tg sl B g (p + 1 + 4) true w4 := t4
   have hof : o = none := by
    have := hof1.out
    split at this
    ·exact this
    ·exact this
   have KK := KK.out
   have e1 := t4.c2
   have e2 := t4.fr 2
   obtain ⟨tb, kb⟩ := t4.set2 true
   have hf2 : Hid (AnSg sl B g o w (.returned (.int .i64 0)) (w4.setCell ⟨g, 2, none⟩ (.bool true))) := hide1 ⟨0, _, rfl, by rw [hof]; exact tb, KK.trans kb, by omega, by omega, fun n r e => by rw [hof] at e; cases e⟩
   clear hof tb kb KK t4 hof1 hz
   go_wp2
   go_ret
   exact hf2.out
  | true =>
   replace t4 : Tg sl B g (p + 1 + 4 + 2) false w4 := t4
   have hin : p + 1 + 4 + 2 ≤ B.length := by
    have h1 := hz.out
    unfold hp at h1
    have h2 := (List.isPrefixOf_iff_prefix.1 h1).length_le
    rw [List.length_drop] at h2
    simp at h2
    omega
   have hc5 := four_t t4 hin hB
   have e0 := t4.c2
   have htk : tk [92, 117] (B.drop (p + 1 + 4)) = B.drop (p + 1 + 4 + 2) := by
    have h1 := hz.out
    unfold hp at h1
    unfold tk
    rw [if_pos h1, List.drop_drop]
    rfl
   have hof2 := hof1.out
   rw [htk] at hof2
   obtain ⟨o5, ho5⟩ : ∃ o5, f4 4 0 (B.drop (p + 1 + 4 + 2)) = o5 := ⟨_, rfl⟩
   rw [ho5] at hof2 hc5
   replace hof2 := hide1 hof2
   clear t4 hof1 hz htk ho5
   go_wp2_with fail
   refine hc5.mono ?_
   rintro e w5 ⟨y, q5, rfl, t5, k5, hq5, hy0, hy6, hval⟩
   have KK := KK.out.trans k5
   clear hc5 e0 k5
   cases o5 with
   | none =>
    obtain rfl := hy0 rfl
    have hof : o = none := by
     have := hof2.out
     split at this
     ·exact this
     ·exact this
    replace t5 : Tg sl B g q5 true w5 := t5
    have e1 := t5.c2
    have e2 := t5.fr 2
    obtain ⟨tb, kb⟩ := t5.set2 true
    have hf2 : Hid (AnSg sl B g o w (.returned (.int .i64 0)) (w5.setCell ⟨g, 2, none⟩ (.bool true))) := hide1 ⟨0, _, rfl, by rw [hof]; exact tb, KK.trans kb, by omega, by omega, fun n r e => by rw [hof] at e; cases e⟩
    clear hof tb kb KK t5 hof2 hval
    go_wp2
    go_ret
    exact hf2.out
   | some y0 =>
    obtain ⟨rfl, rfl, hqB2⟩ := hval _ rfl
    replace t5 : Tg sl B g (p + 1 + 4 + 2 + 4) false w5 := t5
    have hof3 := hof2.out
    have e0 := t5.c2
    by_cases r3 : 56319 < n
    ·have hof : o = none := by rw [hof3, if_pos r3]
     have e1 := t5.c2
     have e2 := t5.fr 2
     obtain ⟨tb, kb⟩ := t5.set2 true
     have hf2 : Hid (AnSg sl B g o w (.returned (.int .i64 0)) (w5.setCell ⟨g, 2, none⟩ (.bool true))) := hide1 ⟨0, _, rfl, by rw [hof]; exact tb, KK.trans kb, by omega, by omega, fun n r e => by rw [hof] at e; cases e⟩
     clear hof tb kb KK t5 hof2 hval hof3
     go_wp2
     go_ret
     exact hf2.out
    rw [if_neg r3] at hof3
    simp only [if_true] at hof3
    by_cases r4 : y < 56320
    ·have hof : o = none := by rw [hof3, if_pos (.inl r4)]
     have e1 := t5.c2
     have e2 := t5.fr 2
     obtain ⟨tb, kb⟩ := t5.set2 true
     have hf2 : Hid (AnSg sl B g o w (.returned (.int .i64 0)) (w5.setCell ⟨g, 2, none⟩ (.bool true))) := hide1 ⟨0, _, rfl, by rw [hof]; exact tb, KK.trans kb, by omega, by omega, fun n r e => by rw [hof] at e; cases e⟩
     clear hof tb kb KK t5 hof2 hval hof3
     go_wp2
     go_ret
     exact hf2.out
    by_cases r5 : 57343 < y
    ·have hof : o = none := by rw [hof3, if_pos (.inr r5)]
     have e1 := t5.c2
     have e2 := t5.fr 2
     obtain ⟨tb, kb⟩ := t5.set2 true
     have hf2 : Hid (AnSg sl B g o w (.returned (.int .i64 0)) (w5.setCell ⟨g, 2, none⟩ (.bool true))) := hide1 ⟨0, _, rfl, by rw [hof]; exact tb, KK.trans kb, by omega, by omega, fun n r e => by rw [hof] at e; cases e⟩
     clear hof tb kb KK t5 hof2 hval hof3
     go_wp2
     go_ret
     exact hf2.out
    rw [if_neg (by omega)] at hof3
    have hX : (65536 : Int) + 1024 * ((n : Int) - 55296) + (y : Int) - 56320 = ((65536 + (n - 55296) * 1024 + (y - 56320) : Nat) : Int) := surr_eq r1 r4
    have hf2 : Hid (AnSg sl B g o w (.returned (.int .i64 (65536 + 1024 * ((n : Int) - 55296) + (y : Int) - 56320))) w5) := hide1 ⟨_, _, by rw [hX], by rw [hof3]; exact t5, KK, hq5, surr_le r1 r3 r4 r5, fun m r e => by rw [hof3, Option.some.injEq, Prod.mk.injEq, List.drop_drop] at e; exact ⟨e.1, e.2, hqB2⟩⟩
    clear hX KK t5 hof2 hval hof3
    go_wp2
    go_ret
    exact hf2.out
theorem escaped_t (h : Tg sl B g p false w) (hpl : p ≤ B.length) (hB : B.length ≤ 4096) : Calls Tryz.prog 87 #[.pointer (some ⟨g, 0, none⟩)] w (AnSg sl B g (esc (B.drop p)) w) := by
 by_cases n34 : nx B p = 34
 ·exact esc_34 h hpl hB n34
 by_cases n92 : nx B p = 92
 ·exact esc_92 h hpl hB n92
 by_cases n47 : nx B p = 47
 ·exact esc_47 h hpl hB n47
 by_cases n98 : nx B p = 98
 ·exact esc_98 h hpl hB n98
 by_cases n102 : nx B p = 102
 ·exact esc_102 h hpl hB n102
 by_cases n110 : nx B p = 110
 ·exact esc_110 h hpl hB n110
 by_cases n114 : nx B p = 114
 ·exact esc_114 h hpl hB n114
 by_cases n116 : nx B p = 116
 ·exact esc_116 h hpl hB n116
 by_cases n117 : nx B p = 117
 ·exact esc_u h hpl hB n117
 exact esc_no h hpl hB rfl n34 n92 n47 n98 n102 n110 n114 n116 n117
end
theorem fend_ok {n c c' s : Nat} {l : List UInt8} (h : fend n c l = (c', s)) (hs : s ≠ 0) : c' = c ∧ s = n ∧ sgn c' = l.take s ∧ ¬ bdc c' := by
 unfold fend at h
 split at h
 ·cases h; exact absurd rfl hs
 ·rename_i hn
  cases h
  exact ⟨rfl, rfl, by
    by_cases e : sgn c = l.take n
    ·exact e
    ·exact absurd (.inr e) hn, fun e => hn (.inl e)⟩
theorem fgo_ok {n c0 c s : Nat} {l : List UInt8} (h : fgo n c0 l = (c, s)) (hs : s ≠ 0) : s = n ∧ s ≤ l.length ∧ sgn c = l.take s ∧ ¬ bdc c := by
 unfold fgo at h
 split at h
 ·cases h; exact absurd rfl hs
 ·split at h
  ·cases h; exact absurd rfl hs
  ·obtain ⟨_, e2, e3, e4⟩ := fend_ok h hs
   exact ⟨e2, by omega, e3, e4⟩
theorem frs_ok {l : List UInt8} {c s : Nat} (h : frs l = (c, s)) (hs : s ≠ 0) : s ≤ l.length ∧ sgn c = l.take s ∧ ¬ bdc c ∧ Lib.decodeL l = (c, s) ∧ l ≠ [] ∧ ¬ (c = 65533 ∧ s = 1) := by
 have h2 := h
 rw [← fst_eq] at h2
 have h3 : l ≠ [] ∧ Lib.decodeL l = (c, s) ∧ ¬ (c = 65533 ∧ s = 1) := by
  unfold frs at h
  split at h
  ·cases h; exact absurd rfl hs
  ·rename_i hn
   exact ⟨fun e => hn (.inl e), h, fun e => hn (.inr (by rw [h]; exact e))⟩
 have h4 : s ≤ l.length ∧ sgn c = l.take s ∧ ¬ bdc c := by
  cases l with
  | nil => cases h2; exact absurd rfl hs
  | cons x m =>
   rw [fst_c] at h2
   split at h2
   ·exact (fgo_ok h2 hs).2
   ·split at h2
    ·cases h2; exact absurd rfl hs
    ·split at h2
     ·exact (fgo_ok h2 hs).2
     ·split at h2
      ·exact (fgo_ok h2 hs).2
      ·exact (fgo_ok h2 hs).2
 exact ⟨h4.1, h4.2.1, h4.2.2, h3.2.1, h3.1, h3.2.2⟩
theorem enc_sgn {c : Nat} (h : ¬ bdc c) : enc c = sgn c := by
 unfold bdc at h
 unfold enc sgn Lib.encodeRune
 by_cases h1 : c < 128
 ·rw [Lib.encodeRuneZ_one (by omega) (by omega), if_pos h1]
  simp only [List.map_cons, List.map_nil, Int.toNat_natCast]
 rw [if_neg h1]
 by_cases h2 : c < 2048
 ·rw [Lib.encodeRuneZ_two (by omega) (by omega), if_pos h2]
  simp only [List.map_cons, List.map_nil]
  rw [show (192 + (c : Int) / 64).toNat = 192 + c / 64 by omega, show (128 + (c : Int) % 64).toNat = 128 + c % 64 by omega]
 rw [if_neg h2]
 by_cases h3 : c < 65536
 ·rw [Lib.encodeRuneZ_three (by omega), if_pos h3]
  simp only [List.map_cons, List.map_nil]
  rw [show (224 + (c : Int) / 4096).toNat = 224 + c / 4096 by omega, show (128 + (c : Int) / 64 % 64).toNat = 128 + c / 64 % 64 by omega, show (128 + (c : Int) % 64).toNat = 128 + c % 64 by omega]
 ·rw [Lib.encodeRuneZ_four (by omega) (by omega), if_neg h3]
  simp only [List.map_cons, List.map_nil]
  rw [show (240 + (c : Int) / 262144).toNat = 240 + c / 262144 by omega, show (128 + (c : Int) / 4096 % 64).toNat = 128 + c / 4096 % 64 by omega, show (128 + (c : Int) / 64 % 64).toNat = 128 + c / 64 % 64 by omega, show (128 + (c : Int) % 64).toNat = 128 + c % 64 by omega]
theorem sgn_small {l : List UInt8} {c s : Nat} (hc : c < 128) (h : sgn c = l.take s) (hs : s ≤ l.length) : s = 1 ∧ ∃ m, l = UInt8.ofNat c :: m := by
 unfold sgn at h
 rw [if_pos hc] at h
 have h1 := congrArg List.length h
 rw [List.length_take] at h1
 simp at h1
 have : s = 1 := by omega
 subst this
 cases l with
 | nil => simp at hs
 | cons x m =>
  simp at h
  exact ⟨rfl, m, by rw [h]⟩
theorem sgn_great {l : List UInt8} {c s : Nat} (hc : ¬ c < 128) (hb : ¬ bdc c) (h : sgn c = l.take s) : ∃ x m, l = x :: m ∧ 128 ≤ x.toNat := by
 have h0 : ∃ k r, sgn c = UInt8.ofNat k :: r ∧ 128 ≤ k % 256 := by
  unfold sgn
  rw [if_neg hc]
  by_cases h2 : c < 2048
  ·rw [if_pos h2]; exact ⟨_, _, rfl, by omega⟩
  rw [if_neg h2]
  by_cases h3 : c < 65536
  ·rw [if_pos h3]; exact ⟨_, _, rfl, by omega⟩
  ·rw [if_neg h3]
   unfold bdc at hb
   exact ⟨_, _, rfl, by omega⟩
 obtain ⟨k, r, e, hk⟩ := h0
 rw [e] at h
 cases l with
 | nil => simp at h
 | cons x m =>
  cases s with
  | zero => simp at h
  | succ s =>
   rw [List.take_succ_cons] at h
   refine ⟨x, m, rfl, ?_⟩
   have : UInt8.ofNat k = x := (List.cons.inj h).1
   rw [← this]
   simpa using hk
theorem hp_cons {c x : UInt8} {m : List UInt8} : hp [c] (x :: m) = (c == x) := by
 unfold hp
 simp [List.isPrefixOf]
theorem hp_ne {c x : UInt8} {m : List UInt8} (h : c.toNat ≠ x.toNat) : hp [c] (x :: m) = false := by
 rw [hp_cons, beq_eq_false_iff_ne]
 intro e
 exact h (by rw [e])
theorem ltr_no {l : List UInt8} {c : Nat} (h : frs l = (c, 0)) : hp [34] l = false ∧ ltr l = none := by
 cases l with
 | nil => exact ⟨rfl, rfl⟩
 | cons x m =>
  have hd : (Lib.decodeL (x :: m)).1 = 65533 ∧ (Lib.decodeL (x :: m)).2 = 1 := by
   unfold frs at h
   split at h
   ·rename_i hn
    exact hn.resolve_left (by simp)
   ·have := Lib.decodeL_width (x :: m)
    rw [h] at this
    simp at this
  have hx : 128 ≤ x.toNat := by
   rcases Nat.lt_or_ge x.toNat 128 with hx | hx
   ·rw [Lib.decodeL_ascii x m hx] at hd
    have := hd.1
    simp at this
    omega
   ·exact hx
  have h34 : hp [34] (x :: m) = false := hp_ne (by show 34 ≠ _; omega)
  have h92 : hp [92] (x :: m) = false := hp_ne (by show 92 ≠ _; omega)
  refine ⟨h34, ?_⟩
  unfold ltr pln
  rw [h92, if_neg (by simp), dec_go, if_pos (.inr ⟨hd.1, by omega⟩)]
theorem ltr_yes {l : List UInt8} {c s : Nat} (h : frs l = (c, s)) (hs : s ≠ 0) : (c < 32 → hp [34] l = false ∧ ltr l = none) ∧ (c = 34 → hp [34] l = true ∧ tk [34] l = l.drop s) ∧ (c = 92 → hp [34] l = false ∧ ltr l = esc (l.drop s)) ∧ (32 ≤ c → c ≠ 34 → c ≠ 92 → hp [34] l = false ∧ ltr l = some (c, l.drop s)) := by
 obtain ⟨h1, h2, h3, h4, h5, h6⟩ := frs_ok h hs
 have hpl : pln l = if c < 32 ∨ c = 65533 ∧ s < 2 then none else some (c, l.drop s) := by
  cases l with
  | nil => exact absurd rfl h5
  | cons x m =>
   unfold pln
   rw [dec_go, h4]
 by_cases hc : c < 128
 ·obtain ⟨rfl, m, rfl⟩ := sgn_small hc h2 h1
  have ht : (UInt8.ofNat c).toNat = c := of_u8 (by omega)
  refine ⟨fun h => ?_, fun h => ?_, fun h => ?_, fun g1 g2 g3 => ?_⟩
  ·have e34 : hp [34] (UInt8.ofNat c :: m) = false := hp_ne (by rw [ht]; show 34 ≠ _; omega)
   have e92 : hp [92] (UInt8.ofNat c :: m) = false := hp_ne (by rw [ht]; show 92 ≠ _; omega)
   refine ⟨e34, ?_⟩
   unfold ltr
   rw [e92, if_neg (by simp), hpl, if_pos (.inl h)]
  ·subst h
   exact ⟨by rw [hp_cons]; rfl, rfl⟩
  ·subst h
   exact ⟨by rw [hp_cons]; rfl, rfl⟩
  ·have e34 : hp [34] (UInt8.ofNat c :: m) = false := hp_ne (by rw [ht]; show 34 ≠ _; omega)
   have e92 : hp [92] (UInt8.ofNat c :: m) = false := hp_ne (by rw [ht]; show 92 ≠ _; omega)
   refine ⟨e34, ?_⟩
   unfold ltr
   rw [e92, if_neg (by simp), hpl, if_neg (by omega)]
 ·obtain ⟨x, m, rfl, hx⟩ := sgn_great hc h3 h2
  refine ⟨fun h => by omega, fun h => by omega, fun h => by omega, fun g1 g2 g3 => ?_⟩
  have e34 : hp [34] (x :: m) = false := hp_ne (by show 34 ≠ _; omega)
  have e92 : hp [92] (x :: m) = false := hp_ne (by show 92 ≠ _; omega)
  refine ⟨e34, ?_⟩
  unfold ltr
  rw [e92, if_neg (by simp), hpl, if_neg (by omega)]
theorem f4_bd : ∀ {k n : Nat} {l : List UInt8} {c : Nat}, f4 k n l = some c → c < (n + 1) * 16 ^ k
 | 0, n, l, c, h => by
  rw [f4] at h
  cases h
  simp
 | k + 1, n, [], c, h => by cases h
 | k + 1, n, b :: l, c, h => by
  rw [f4] at h
  cases hf : fg b.toNat with
  | none => rw [hf] at h; cases h
  | some d =>
   rw [hf] at h
   have h1 := f4_bd h
   have h2 := fg_lt hf
   have h3 : (n * 16 + d + 1) * 16 ^ k ≤ ((n + 1) * 16) * 16 ^ k := Nat.mul_le_mul_right _ (by omega)
   rw [Nat.pow_succ, Nat.mul_comm (16 ^ k) 16, ← Nat.mul_assoc]
   omega
theorem f4_l6 {l : List UInt8} {c : Nat} (h : f4 4 0 l = some c) : c < 65536 := by
 have := f4_bd h
 simpa using this
theorem esc_ok {l r : List UInt8} {c : Nat} (h : esc l = some (c, r)) : ¬ bdc c := by
 cases l with
 | nil => cases h
 | cons b t =>
  have h : escN b.toNat t = some (c, r) := h
  unfold escN at h
  unfold bdc
  split at h
  ·cases h; omega
  ·split at h
   ·cases h; omega
   ·split at h
    ·cases h; omega
    ·split at h
     ·cases h; omega
     ·split at h
      ·cases h; omega
      ·split at h
       ·cases h; omega
       ·split at h
        ·unfold cdd at h
         split at h
         ·cases h
         ·rename_i c4 h4
          split at h
          ·rename_i hc
           rw [Option.some.injEq, Prod.mk.injEq] at h
           obtain ⟨rfl, _⟩ := h
           have : c4 < 65536 := f4_l6 h4
           omega
          ·rename_i hc
           split at h
           ·cases h
           ·rename_i hc2
            split at h
            ·split at h
             ·cases h
             ·rename_i x h5
              split at h
              ·cases h
              ·rename_i hx
               rw [Option.some.injEq, Prod.mk.injEq] at h
               obtain ⟨rfl, _⟩ := h
               omega
            ·cases h
        ·cases h
theorem valid_app : ∀ (k : Nat) {a b : List UInt8}, a.length ≤ k → Lib.validD a = true → Lib.validD (a ++ b) = Lib.validD b
 | 0, a, b, hk, _ => by
  have : a = [] := List.length_eq_zero_iff.1 (by omega)
  rw [this]; rfl
 | k + 1, a, b, hk, h => by
  by_cases ha : a = []
  ·rw [ha]; rfl
  have h2 := h
  rw [Lib.validD_step a ha] at h2
  by_cases hbad : (Lib.decodeL a).1 = 65533 ∧ (Lib.decodeL a).2 = 1
  ·rw [if_pos hbad] at h2; cases h2
  rw [if_neg hbad] at h2
  obtain ⟨q, e1, e2, e3, e4⟩ := dec_sw ha hbad
  have hw := Lib.decodeL_width a
  have e5 : Lib.decodeL (a ++ b) = Lib.decodeL a := by
   have : a ++ b = q ++ (a.drop (Lib.decodeL a).2 ++ b) := by rw [← List.append_assoc, ← e1]
   rw [this]; exact e4 _
  have hl := Lib.decodeL_le a ha
  rw [Lib.validD_step (a ++ b) (by simp [ha]), e5, if_neg hbad, List.drop_append_of_le_length hl]
  exact valid_app k (by rw [List.length_drop]; omega) h2
theorem sgn_ne0 (c : Nat) : sgn c ≠ [] := by
 unfold sgn
 split
 ·simp
 ·split
  ·simp
  ·split <;> simp
theorem fend_sgn {n c : Nat} {l : List UInt8} (hb : ¬ bdc c) (h : l = sgn c) (hn : l.length = n) : fend n c l = (c, n) := by
 unfold fend
 rw [if_neg]
 rintro (e | e)
 ·exact hb e
 ·exact e (by rw [← hn, List.take_length, h])
theorem fst_sgn {c : Nat} (h : ¬ bdc c) : fstR (sgn c) = (c, (sgn c).length) := by
 have hb := h
 unfold bdc at hb
 obtain ⟨l, hl⟩ : ∃ l, l = sgn c := ⟨_, rfl⟩
 rw [← hl]
 have hl2 := hl
 unfold sgn at hl2
 by_cases h1 : c < 128
 ·rw [if_pos h1] at hl2
  rw [hl2, fst_c, of_u8 (by omega), if_pos h1, ← hl2]
  have hlen : l.length = 1 := by rw [hl2]; rfl
  unfold fgo
  rw [if_neg (by omega), hlen]
  exact fend_sgn h hl hlen
 rw [if_neg h1] at hl2
 by_cases h2 : c < 2048
 ·rw [if_pos h2] at hl2
  have hlen : l.length = 2 := by rw [hl2]; rfl
  rw [hl2, fst_c, of_u8 (by omega), if_neg (by omega), if_neg (by omega), if_pos (by omega), ← hl2]
  have hf : fcl (192 + c / 64 - 192) (2 - 1) l.tail = some c := by
   rw [hl2]
   show fcl (192 + c / 64 - 192) 1 [UInt8.ofNat (128 + c % 64)] = some c
   rw [fcl, of_u8 (by omega), if_neg (by omega), fcl]
   refine congrArg some ?_
   omega
  unfold fgo
  rw [if_neg (by omega), hf, hlen]
  exact fend_sgn h hl hlen
 rw [if_neg h2] at hl2
 by_cases h3 : c < 65536
 ·rw [if_pos h3] at hl2
  have hlen : l.length = 3 := by rw [hl2]; rfl
  rw [hl2, fst_c, of_u8 (by omega), if_neg (by omega), if_neg (by omega), if_neg (by omega), if_pos (by omega), ← hl2]
  have hf : fcl (224 + c / 4096 - 224) (3 - 1) l.tail = some c := by
   rw [hl2]
   show fcl (224 + c / 4096 - 224) 2 [UInt8.ofNat (128 + c / 64 % 64), UInt8.ofNat (128 + c % 64)] = some c
   rw [fcl, of_u8 (by omega), if_neg (by omega), fcl, of_u8 (by omega), if_neg (by omega), fcl]
   refine congrArg some ?_
   omega
  unfold fgo
  rw [if_neg (by omega), hf, hlen]
  exact fend_sgn h hl hlen
 ·rw [if_neg h3] at hl2
  have hlen : l.length = 4 := by rw [hl2]; rfl
  rw [hl2, fst_c, of_u8 (by omega), if_neg (by omega), if_neg (by omega), if_neg (by omega), if_neg (by omega), ← hl2]
  have hf : fcl (240 + c / 262144 - 240) (4 - 1) l.tail = some c := by
   rw [hl2]
   show fcl (240 + c / 262144 - 240) 3 [UInt8.ofNat (128 + c / 4096 % 64), UInt8.ofNat (128 + c / 64 % 64), UInt8.ofNat (128 + c % 64)] = some c
   rw [fcl, of_u8 (by omega), if_neg (by omega), fcl, of_u8 (by omega), if_neg (by omega), fcl, of_u8 (by omega), if_neg (by omega), fcl]
   refine congrArg some ?_
   omega
  unfold fgo
  rw [if_neg (by omega), hf, hlen]
  exact fend_sgn h hl hlen
theorem enc_valid {c : Nat} (h : ¬ bdc c) : Lib.validD (enc c) = true := by
 rw [enc_sgn h]
 have hl : (sgn c).length ≠ 0 := fun e => sgn_ne0 c (List.length_eq_zero_iff.1 e)
 have hf := fst_sgn h
 rw [fst_eq] at hf
 obtain ⟨_, _, _, h4, h5, h6⟩ := frs_ok hf hl
 rw [Lib.validD_step _ h5, h4, if_neg h6, List.drop_length]
 rfl
theorem ql_valid : ∀ (n : Nat) {out l s r : List UInt8}, Lib.validD out = true → ql n out l = some (s, r) → Lib.validD s = true
 | n, out, l, s, r, ho, h => by
  cases hh : hp [34] l with
  | true => rw [ql_end hh] at h; cases h; exact ho
  | false =>
   cases hl : ltr l with
   | none => rw [ql_non hh hl] at h; cases h
   | some x =>
    obtain ⟨c, q⟩ := x
    cases n with
    | zero => rw [ql, if_neg (by simp [hh]), hl] at h; cases h
    | succ n =>
     rw [ql_go hh hl] at h
     refine ql_valid n ?_ h
     rw [valid_app _ (Nat.le_refl _) ho]
     refine enc_valid ?_
     unfold ltr at hl
     split at hl
     ·exact esc_ok hl
     ·cases hf : frs l with
      | mk c2 s2 =>
       by_cases hs : s2 = 0
       ·subst hs
        have := (ltr_no hf).2
        unfold ltr at this
        rename_i h92
        rw [if_neg h92] at this
        rw [this] at hl; cases hl
       ·obtain ⟨g1, g2, g3, g4, g5, g6⟩ := frs_ok hf hs
        cases l with
        | nil => exact absurd rfl g5
        | cons x m =>
         unfold pln at hl
         rw [dec_go, g4] at hl
         split at hl
         ·cases hl
         ·cases hl; exact g3
theorem qt_valid {l s r : List UInt8} (h : qt l = some (s, r)) : Lib.validD s = true := by
 unfold qt at h
 split at h
 ·exact ql_valid _ rfl h
 ·cases h
theorem nm_rng {l r : List UInt8} {i : Int} (h : nm l = some (i, r)) : inR i = true := by
 unfold nm at h
 cases hq : nmO (hp [45] l) ((tk [45] l).takeWhile dg) with
 | none => rw [hq] at h; cases h
 | some k =>
  rw [hq] at h
  cases h
  unfold nmO at hq
  split at hq
  ·cases hq
  ·rename_i hn
   have : ¬ 9007199254740991 < dgs ((tk [45] l).takeWhile dg) := fun e => hn (.inr (.inr (.inl e)))
   rw [Option.some.injEq] at hq
   unfold inR
   rw [← hq]
   apply decide_eq_true
   split <;> omega
theorem pv_gd : ∀ (n : Nat) (l : List UInt8) (x : T) (r : List UInt8), pv n l = some (x, r) → l.length ≤ 4096 → gd n x = true
 | n, l, x, r, h, hN => by
  have a := sk_le l
  unfold pv at h
  generalize sk l = m at *
  cases m with
  | nil => cases h
  | cons b m =>
   simp only at h
   split at h
   ·split at h
    ·cases h; unfold gd; rfl
    ·cases h
   ·split at h
    ·split at h
     ·cases h; unfold gd; rfl
     ·cases h
    ·split at h
     ·split at h
      ·cases h; unfold gd; rfl
      ·cases h
     ·split at h
      ·split at h
       ·cases h
       ·rename_i hq
        cases h
        have := qt_valid hq
        unfold gd
        rw [spB_f (by simp) (by simp) (by simp) (by simp)]
        simpa using this
      ·split at h
       ·cases n with
        | zero => cases h
        | succ n =>
         simp only at h
         split at h
         ·cases h
         ·rename_i hq
          cases h
          obtain ⟨g1, g2⟩ := rw_all (N := 4096) (Pp := fun x => gd n x = true) (fun l x r h hl => ⟨pv_gd n l x r h hl, pv_le n l x r h⟩) hq (by omega)
          unfold gd
          rw [spB_f (by simp) (by simp) (by simp) (by simp)]
          simpa using g1
       ·split at h
        ·cases n with
         | zero => cases h
         | succ n =>
          simp only at h
          split at h
          ·cases h
          ·rename_i hq
           split at h
           ·rename_i honc
            cases h
            obtain ⟨g1, g2⟩ := rw_all (N := 4096) (Pp := fun q : List UInt8 × T => Lib.validD q.1 = true ∧ gd n q.2 = true) (fun l x r h hl => by
             refine ⟨?_, pr_le (pv_le n) h⟩
             unfold pr at h
             have b1 := sk_le l
             split at h
             ·cases h
             ·rename_i s q hq
              have b2 := qt_le hq
              have b3 := sk_le q
              have b4 := tk_le [58] (sk q)
              split at h
              ·split at h
               ·cases h
               ·rename_i v t hv
                cases h
                exact ⟨qt_valid hq, pv_gd n _ _ _ hv (by omega)⟩
              ·cases h) hq (by omega)
            unfold gd
            rw [spB_f (by simp) (by simp) (by simp) (by simp)]
            simp only [Bool.not_false, Bool.true_and]
            rw [if_neg (by omega), if_neg (by omega), if_neg (by omega), if_neg (by omega), if_neg (by omega)]
            simp only [if_true]
            rw [honc, Bool.and_true, List.all_eq_true]
            intro q hq
            rw [(g1 q hq).1, (g1 q hq).2]
            rfl
           ·cases h
        ·split at h
         ·cases h
         ·rename_i hq
          cases h
          have := nm_rng hq
          unfold gd
          rw [spB_f (by simp) (by simp) (by simp) (by simp)]
          simpa using this
theorem enc_le4 {c : Nat} (h : ¬ bdc c) : (enc c).length ≤ 4 := by
 rw [enc_sgn h]
 unfold sgn
 split
 ·simp
 ·split
  ·simp
  ·split <;> simp
theorem ltr_ok {l r : List UInt8} {c : Nat} (hl : ltr l = some (c, r)) : ¬ bdc c := by
 have hl0 := hl
 unfold ltr at hl
 split at hl
 ·exact esc_ok hl
 ·cases hf : frs l with
  | mk c2 s2 =>
   by_cases hs : s2 = 0
   ·subst hs
    rw [(ltr_no hf).2] at hl0; cases hl0
   ·obtain ⟨g1, g2, g3, g4, g5, g6⟩ := frs_ok hf hs
    cases l with
    | nil => exact absurd rfl g5
    | cons x m =>
     unfold pln at hl
     rw [dec_go, g4] at hl
     split at hl
     ·cases hl
     ·cases hl; exact g3
theorem ql_l4 : ∀ (n : Nat) {out l s r : List UInt8}, ql n out l = some (s, r) → s.length ≤ out.length + 4 * l.length
 | n, out, l, s, r, h => by
  cases hh : hp [34] l with
  | true => rw [ql_end hh] at h; cases h; omega
  | false =>
   cases hl : ltr l with
   | none => rw [ql_non hh hl] at h; cases h
   | some x =>
    obtain ⟨c, q⟩ := x
    cases n with
    | zero => rw [ql, if_neg (by simp [hh]), hl] at h; cases h
    | succ n =>
     rw [ql_go hh hl] at h
     have h1 := ql_l4 n h
     have h2 := ltr_lt hl
     have h3 := enc_le4 (ltr_ok hl)
     rw [List.length_append] at h1
     omega
theorem qt_l4 {l s r : List UInt8} (h : qt l = some (s, r)) : s.length ≤ 4 * l.length := by
 unfold qt at h
 split at h
 ·have h1 := ql_l4 _ h
  have h2 := tk_le [34] l
  simp only [List.length_nil] at h1
  omega
 ·cases h
theorem sbd_leaf {h : Nat} {k i : Int} {s : List UInt8} (hs : s.length ≤ 100000) : sbd h (.mk k i s [] []) := by
 cases h with
 | zero => exact True.intro
 | succ h => exact ⟨by omega, by simp, by simp⟩
theorem pv_sbd : ∀ (n : Nat) (l : List UInt8) (x : T) (r : List UInt8), pv n l = some (x, r) → l.length ≤ 4096 → ∀ h, sbd h x
 | n, l, x, r, h, hN, hh => by
  have a := sk_le l
  unfold pv at h
  generalize sk l = m at *
  cases m with
  | nil => cases h
  | cons b m =>
   simp only at h
   split at h
   ·split at h
    ·cases h; exact sbd_leaf (by simp)
    ·cases h
   ·split at h
    ·split at h
     ·cases h; exact sbd_leaf (by simp)
     ·cases h
    ·split at h
     ·split at h
      ·cases h; exact sbd_leaf (by simp)
      ·cases h
     ·split at h
      ·split at h
       ·cases h
       ·rename_i hq
        cases h
        have := qt_l4 hq
        exact sbd_leaf (by omega)
      ·split at h
       ·cases n with
        | zero => cases h
        | succ n =>
         simp only at h
         split at h
         ·cases h
         ·rename_i hq
          cases h
          obtain ⟨g1, g2⟩ := rw_all (N := 4096) (Pp := fun x => ∀ h, sbd h x) (fun l x r h hl => ⟨pv_sbd n l x r h hl, pv_le n l x r h⟩) hq (by omega)
          cases hh with
          | zero => exact True.intro
          | succ hh => exact ⟨by simp, fun t ht => g1 t ht hh, by simp⟩
       ·split at h
        ·cases n with
         | zero => cases h
         | succ n =>
          simp only at h
          split at h
          ·cases h
          ·rename_i hq
           split at h
           ·cases h
            obtain ⟨g1, g2⟩ := rw_all (N := 4096) (Pp := fun q : List UInt8 × T => q.1.length ≤ 100000 ∧ ∀ h, sbd h q.2) (fun l x r h hl => by
             refine ⟨?_, pr_le (pv_le n) h⟩
             unfold pr at h
             have b1 := sk_le l
             split at h
             ·cases h
             ·rename_i s q hq
              have b2 := qt_le hq
              have b3 := sk_le q
              have b4 := tk_le [58] (sk q)
              have b5 := qt_l4 hq
              split at h
              ·split at h
               ·cases h
               ·rename_i v t hv
                cases h
                exact ⟨by show s.length ≤ 100000; omega, pv_sbd n _ _ _ hv (by omega)⟩
              ·cases h) hq (by omega)
            cases hh with
            | zero => exact True.intro
            | succ hh => exact ⟨by simp, by simp, fun q hq => ⟨by have := (g1 q hq).1; omega, (g1 q hq).2 hh⟩⟩
           ·cases h
        ·split at h
         ·cases h
         ·cases h; exact sbd_leaf (by simp)
end Go.Proofs.YtbemaloaobeblaaGreatDoor

namespace Go.Proofs.YtbemaloaobeblaaGreatDoor
open Go.RowKit Go.Shelf

theorem gd_head {m : Nat} {k i : Int} {s : List UInt8} {l : List T} {p : List (List UInt8 × T)} (h : gd m (.mk k i s l p) = true) : (k = 0 ∨ k = 1 ∨ k = 2 ∨ k = 3 ∨ k = 4 ∨ k = 5) ∧ (k = 2 → -9007199254740991 ≤ i ∧ i ≤ 9007199254740991) := by
 unfold gd at h
 rw [Bool.and_eq_true] at h
 have h2 := h.2
 refine ⟨?_, fun hk => ?_⟩
 ·by_cases h0 : k = 0
  ·exact .inl h0
  by_cases h1 : k = 1
  ·exact .inr (.inl h1)
  by_cases h3 : k = 2
  ·exact .inr (.inr (.inl h3))
  by_cases h4 : k = 3
  ·exact .inr (.inr (.inr (.inl h4)))
  by_cases h5 : k = 4
  ·exact .inr (.inr (.inr (.inr (.inl h5))))
  by_cases h6 : k = 5
  ·exact .inr (.inr (.inr (.inr (.inr h6))))
  simp [h0, h1, h3, h4, h5, h6] at h2
 ·subst hk
  simp [inR] at h2
  exact h2
def Vw (n : Nat) : Prop := ∀ {F : Nat → Prop} {w : World} {q m : Nat} {ov : Value} {z : List UInt8} {t : T} {c : List Value}, hgt n t → gd m t = true → VA F w t c → Fr F w q ov → Wt w q ov z → Ev w → 8 ≤ q →
 Calls Tryz.prog 37 #[.pointer (some ⟨q, 0, none⟩), .agg c.toArray] w (AnK q ov (z ++ cz n t) w)
theorem Ev.wk {w w' : World} {q : Nat} {ov ov' : Value} {z : List UInt8} (h : Ev w) (hW : Wt w q ov z) (hk : Wk q ov ov' w w') (h8 : 8 ≤ q) : Ev w' := h.same fun k hk8 => by
 have hq := (Array.getElem?_eq_some_iff.1 hW.box).1
 obtain ⟨out, ho, _⟩ := hW.own
 exact hk.block k (by omega) (by omega) fun e => by have := ho.block k e; omega
theorem vw_s {n : Nat} (ih : Vw n) : Vw (n + 1) := by
 intro F w q m ov z t c hh hg hv hF hW hT h8
 have hq := (Array.getElem?_eq_some_iff.1 hW.box).1
 cases hv with
 | @mk k ki s l p sl sp cl cp r1 r2 e1 e2 hl hp1 hp2 =>
  obtain ⟨b1, b2, hh1, hh2⟩ := hh
  obtain ⟨g1, g2, _, _⟩ := gd_list hg
  obtain ⟨hk, hr⟩ := gd_head hg
  show Calls Tryz.prog 37 #[.pointer (some ⟨q, 0, none⟩), .agg #[.int .i64 k, .int .i64 ki, .string (st s), sl, sp]] w _
  have hsame : ∀ {k1 k2 : List UInt8}, k1 = k2 → ∀ e w', AnK q ov (z ++ k1) w e w' → AnK q ov (z ++ k2) w e w' := fun e _ _ h => e ▸ h
  rcases hk with rfl | rfl | rfl | rfl | rfl | rfl
  ·exact (val_0 hW).mono (hsame (by simp [cz]))
  ·exact (val_1 hW).mono (hsame (by simp [cz]))
  ·exact (val_2 (by have := hr rfl; omega) hT (by omega) hW).mono (hsame (by simp [cz]))
  ·exact (val_3 hW).mono (hsame (by simp [cz]))
  ·refine (val_4 (X := 91 :: (cj (l.map (cz n)) ++ [93])) (fun w1 hb hW1 => ?_) hW).mono (hsame (by simp [cz]))
   have k1 : Wk q ov ov w w1 := Wk.ofB hb
   refine rowV_d (r1.wk hF k1) e1 (fun c hc => ?_) (by omega) (hF.wk k1) hW1 (fun j t c h1 h2 w' ov' z' hk hW' => ?_)
   ·obtain ⟨j, hj, rfl⟩ := List.mem_iff_getElem.1 hc
    exact (hl j _ _ (List.getElem?_eq_getElem (by omega)) (List.getElem?_eq_getElem hj)).one
   ·have ht := List.mem_of_getElem? h1
    obtain ⟨m', hm'⟩ : ∃ m', gd m' t = true := by
     rcases g1 with e | ⟨m', _, g⟩
     ·rw [e] at ht; simp at ht
     ·exact ⟨m', g t ht⟩
    exact ih (hh1 t ht) hm' (((hl j t c h1 h2).wk hF k1).wk (hF.wk k1) hk) ((hF.wk k1).wk hk) hW' ((hT.below hb (by omega)).wk hW1 hk h8) h8
  ·refine (val_5 (X := 123 :: (cj (p.map fun q => qu q.1 ++ 58 :: cz n q.2) ++ [125])) (fun w1 hb hW1 => ?_) hW).mono (hsame (by simp [cz]))
   have k1 : Wk q ov ov w w1 := Wk.ofB hb
   have hcell : ∀ (j : Nat) (u : List UInt8 × T) (c : List Value), p[j]? = some u → cp[j]? = some c → ∃ r, c = Value.string (st u.1) :: r ∧ r.length = 5 ∧ VA F w u.2 r := fun j u c h1 h2 => by
    have h6 := r2.1 c (List.mem_of_getElem? h2)
    have h7 := hp1 j u c h1 h2
    have h8 := hp2 j u c h1 h2
    cases c with
    | nil => simp at h6
    | cons x r => simp at h7; subst h7; exact ⟨r, rfl, by simpa using h6, h8⟩
   refine rowP_d (f := fun q => qu q.1 ++ 58 :: cz n q.2) (r2.wk hF k1) e2 (fun c hc => ?_) (by omega) (hF.wk k1) hW1 (fun j u c h1 h2 w' ov' z' hk hW' => ?_)
   ·obtain ⟨j, hj, rfl⟩ := List.mem_iff_getElem.1 hc
    obtain ⟨r, hr1, _, hr3⟩ := hcell j _ _ (List.getElem?_eq_getElem (by omega)) (List.getElem?_eq_getElem hj)
    rw [hr1]
    show (true && r.all (·.oneCell')) = true
    rw [hr3.one]; rfl
   ·obtain ⟨r, rfl, hr2, hr3⟩ := hcell j u c h1 h2
    have ht := List.mem_of_getElem? h1
    obtain ⟨m', hm'⟩ : ∃ m', gd m' u.2 = true := by
     rcases g2 with e | ⟨m', _, g⟩
     ·rw [e] at ht; simp at ht
     ·exact ⟨m', g u ht⟩
    refine pair_w hr2 hW' fun w2 ov2 z2 hk2 hW2 => ?_
    have hT' := (hT.below hb (by omega)).wk hW1 hk h8
    exact ih (hh2 u ht) hm' (((hr3.wk hF k1).wk (hF.wk k1) hk).wk ((hF.wk k1).wk hk) hk2) (((hF.wk k1).wk hk).wk hk2) hW2 (hT'.wk hW' hk2 h8) h8
theorem vw : ∀ n, Vw n
 | 0 => fun hh => hh.elim
 | n + 1 => vw_s (vw n)
theorem ss_mem {α : Type} {lt : α → α → Bool} {l : List α} {x : α} : x ∈ ss lt l ↔ x ∈ l := (ss_perm l).mem_iff
theorem so_hgt : ∀ (d : Nat) {h : Nat} {t : T}, hgt h t → hgt h (so d t)
 | 0, _, _, hh => hh
 | _ + 1, 0, _, hh => hh.elim
 | d + 1, h + 1, .mk k i s l p, hh => by
  obtain ⟨b1, b2, h1, h2⟩ := hh
  refine ⟨by rw [List.length_map]; exact b1, by rw [ss_len, List.length_map]; exact b2, fun t ht => ?_, fun q hq => ?_⟩
  ·obtain ⟨u, hu, rfl⟩ := List.mem_map.1 ht
   exact so_hgt d (h1 u hu)
  ·obtain ⟨u, hu, rfl⟩ := List.mem_map.1 (ss_mem.1 hq)
   exact so_hgt d (h2 u hu)
theorem so_gd : ∀ (d : Nat) {n : Nat} {t : T}, gd n t = true → gd n (so d t) = true
 | 0, _, _, hg => hg
 | d + 1, n, .mk k i s l p, hg => by
  show gd n (.mk k i s (l.map (so d)) (ss ltT (p.map fun q => (q.1, so d q.2)))) = true
  unfold gd at hg ⊢
  rw [List.length_map, ss_len, List.length_map]
  rw [Bool.and_eq_true] at hg ⊢
  refine ⟨hg.1, ?_⟩
  have h2 := hg.2
  by_cases h0 : k = 0
  ·simp [h0]
  by_cases h1 : k = 1
  ·simpa [h1] using h2
  by_cases h3 : k = 2
  ·simpa [h3] using h2
  by_cases h4 : k = 3
  ·simpa [h4] using h2
  by_cases h5 : k = 4
  ·subst h5
   cases n with
   | zero => simp at h2
   | succ n =>
    simp only [Int.reduceEq, if_false, if_true] at h2 ⊢
    rw [List.all_eq_true] at h2 ⊢
    intro x hx
    obtain ⟨u, hu, rfl⟩ := List.mem_map.1 hx
    exact so_gd d (h2 u hu)
  by_cases h6 : k = 5
  ·subst h6
   cases n with
   | zero => simp at h2
   | succ n =>
    simp only [Int.reduceEq, if_false, if_true] at h2 ⊢
    rw [Bool.and_eq_true] at h2 ⊢
    refine ⟨?_, ?_⟩
    ·rw [List.all_eq_true]
     intro x hx
     obtain ⟨u, hu, rfl⟩ := List.mem_map.1 (ss_mem.1 hx)
     have := List.all_eq_true.1 h2.1 u hu
     rw [Bool.and_eq_true] at this ⊢
     exact ⟨this.1, so_gd d this.2⟩
    ·have h3 := h2.2
     unfold onc at h3 ⊢
     rw [decide_eq_true_eq] at h3 ⊢
     have hp : ((ss ltT (p.map fun q => (q.1, so d q.2))).map (·.1)).Perm (p.map (·.1)) := by
      refine ((ss_perm _).map _).trans ?_
      rw [List.map_map]
      exact List.Perm.refl _
     exact hp.nodup_iff.2 h3
  ·simp [h0, h1, h3, h4, h5, h6] at h2
theorem gd_hgt : ∀ {n h : Nat} {t : T}, hgt h t → gd n t = true → hgt (n + 1) t
 | _, 0, _, hh, _ => hh.elim
 | n, h + 1, .mk k i s l p, hh, hg => by
  obtain ⟨b1, b2, h1, h2⟩ := hh
  obtain ⟨g1, g2, _⟩ := gd_list hg
  refine ⟨b1, b2, fun t ht => ?_, fun q hq => ?_⟩
  ·rcases g1 with e | ⟨m, e, g⟩
   ·rw [e] at ht; simp at ht
   ·subst e; exact gd_hgt (h1 t ht) (g t ht)
  ·rcases g2 with e | ⟨m, e, g⟩
   ·rw [e] at hq; simp at hq
   ·subst e; exact gd_hgt (h2 q hq) (g q hq)
def ct (t : T) : List UInt8 := cz 9 (so 8 t)
def bx2 (w : World) (c : Array Value) : World := (w.alloc (.cells c 28)).alloc (.cells #[.int .i64 0, .int .i64 0, .string ⟨#[]⟩, .slice none 0 0, .slice none 0 0] 28)
theorem bx2_bl (w : World) (c : Array Value) : Below w.heap.size w (bx2 w c) := blw_al ((Below.refl _ _).alloc (Nat.le_refl _) _) (by simp) _
theorem bx2_at (w : World) (c : Array Value) : (bx2 w c).heap[w.heap.size + 1]? = some (.cells #[.int .i64 0, .int .i64 0, .string ⟨#[]⟩, .slice none 0 0, .slice none 0 0] 28 (0, 0)) := by
 show ((w.heap.push _).push _)[w.heap.size + 1]? = _
 rw [Array.getElem?_push, if_pos (by simp)]
theorem srt_d {h : Nat} {F : Nat → Prop} {w : World} {t : T} {c : List Value} (hh : hgt h t) (hg : gd 8 t = true) (hv : VA F w t c) : Calls Tryz.prog 24 #[.agg c.toArray] w (AnC w (so 8 t)) := by
 have hb := bx2_bl w c.toArray
 have hr := bx2_at w c.toArray
 have hc := sorted_d 8 (Nat.le_refl _) hh hg (hv.frame (w' := bx2 w c.toArray) (G := fun _ => True) (fun k _ hk => hb.block k hk) (fun _ _ _ => trivial))
 obtain ⟨x0, x1, x2, x3, x4, rfl⟩ := five_l hv.len
 replace hc : Calls Tryz.prog 41 #[.agg #[x0, x1, x2, x3, x4], .int .i64 8] (bx2 w #[x0, x1, x2, x3, x4]) _ := hc
 clear hv
 show Calls Tryz.prog 24 #[.agg #[x0, x1, x2, x3, x4]] w _
 obtain ⟨wb, hwb⟩ : ∃ wb, wb = bx2 w #[x0, x1, x2, x3, x4] := ⟨_, rfl⟩
 have hr' : wb.heap[w.heap.size + 1]? = some (.cells #[.int .i64 0, .int .i64 0, .string ⟨#[]⟩, .slice none 0 0, .slice none 0 0] 28 (0, 0)) := by rw [hwb]; exact hr
 have hb' : Below w.heap.size w wb := by rw [hwb]; exact hb
 have hsz : w.heap.size + 1 < wb.heap.size := (Array.getElem?_eq_some_iff.1 hr').1
 rw [← hwb] at hc
 clear hr hb
 replace hr' := hide1 hr'
 replace hb' := hide1 hb'
 go_enter Tryz.func24, Tryz.ntmps24
 go_wp2_with fail
 rw [show (w.alloc (.cells #[x0, x1, x2, x3, x4] 28)).alloc (.cells #[.int .i64 0, .int .i64 0, .string ⟨#[]⟩, .slice none 0 0, .slice none 0 0] 28) = wb from hwb.symm]
 refine hc.mono ?_
 rintro e w1 ⟨c1, rfl, h5, b1, hv1⟩
 have hr1 := (b1.block _ hsz).trans hr'.out
 have hb1 := hb'.out.trans (b1.mono hb'.out.size)
 have h1c := hv1.one
 obtain ⟨y0, y1, y2, y3, y4, hce⟩ := five_l (l := c1.toList) (by simpa using h5)
 obtain rfl : c1 = #[y0, y1, y2, y3, y4] := by cases c1; simp at hce; simp [hce]
 have hz := setRow_heap w1 (w.heap.size + 1) _ #[y0, y1, y2, y3, y4] _ _ hr1
 have ha : Hid (AnC w (so 8 t) (.returned (.agg #[y0, y1, y2, y3, y4])) (w1.setRow (w.heap.size + 1) #[y0, y1, y2, y3, y4])) := hide1 ⟨_, rfl, rfl, blw_own hb1 (by omega) _, VA.frame (c := [y0, y1, y2, y3, y4]) hv1 (fun k hk _ => setRow_other w1 _ k _ (by have h1 : wb.heap.size ≤ k := hk; omega)) (fun k hk _ => by have h1 : wb.heap.size ≤ k := hk; have := hb'.out.size; show w.heap.size ≤ k; omega)⟩
 replace hz := hide1 hz
 clear hwb hc hv1 hb1 hr' hb' b1 hce h5
 go_wp2_with (refine wpList_store_row rfl Vt (.tmp 2) (.tmp 4) rfl (w.heap.size + 1) #[y0, y1, y2, y3, y4] rfl rfl Vt _ hr1 (by kernel_rfl) rfl (by simpa using h1c) ?_)
 refine bodyPost_ret (results_v1 rfl _ rfl rfl hz.out) rfl ?_
 exact ha.out
def AnT (w : World) (t : T) (e : Ending) (w' : World) : Prop := ∃ v ev, e = .returned (.tuple #[v, ev]) ∧ Below w.heap.size w w' ∧
 ((
   gd 8 t = false ∧ v = .slice none 0 0 ∧ ev = .iface 52 (.int .i64 1)) ∨ (gd 8 t = true ∧ 4096 < (ct t).length ∧ v = .slice none 0 0 ∧ ev = .iface 52 (.int .i64 10)) ∨
   (gd 8 t = true ∧ (ct t).length ≤ 4096 ∧ ev = .nilIface ∧ Ow w' w.heap.size v (ct t)))
set_option maxHeartbeats 4000000 in
set_option maxRecDepth 100000 in
theorem put_c {h : Nat} {F : Nat → Prop} {w : World} {t : T} {c : List Value} (hh : hgt h t) (hs : sbd h t) (hv : VA F w t c) (hT : Ev w) (h8 : 8 ≤ w.heap.size) : Calls Tryz.prog 20 #[.agg c.toArray] w (AnT w t) := by
 obtain ⟨x0, x1, x2, x3, x4, rfl⟩ := five_l hv.len
 obtain ⟨wb, hwb⟩ : ∃ wb, wb = w.alloc (.cells #[x0, x1, x2, x3, x4] 28) := ⟨_, rfl⟩
 have hB : Below w.heap.size w wb := by rw [hwb]; exact (Below.refl _ _).alloc (Nat.le_refl _) _
 have hn : wb.heap[w.heap.size]? = some (.cells #[x0, x1, x2, x3, x4] 28 (0, 0)) := by
  rw [hwb]
  show (w.heap.push _)[w.heap.size]? = _
  rw [Array.getElem?_push, if_pos rfl]
 have hvb : VA F wb t [x0, x1, x2, x3, x4] := hv.frame (fun k _ hk => hB.block k hk) (fun _ h _ => h)
 have hTb := hT.below hB (by omega)
 have hsb := hB.size
 have hck := check_d hh hs hvb hTb (by omega)
 replace hck : Calls Tryz.prog 17 #[.agg #[x0, x1, x2, x3, x4]] wb _ := hck
 have hl5 : wb.rangeAt w.heap.size 0 [x0, x1, x2, x3, x4] := fun j u hj => by
  simp only [World.cell?, hn]
  rw [Nat.zero_add]
  simpa using hj
 have hql : w.heap.size < wb.heap.size := (Array.getElem?_eq_some_iff.1 hn).1
 replace hB := hide1 hB
 replace hn := hide1 hn
 replace hvb := hide1 hvb
 replace hTb := hide1 hTb
 clear hv hT
 show Calls Tryz.prog 20 #[.agg #[x0, x1, x2, x3, x4]] w _
 go_enter Tryz.func20, Tryz.ntmps20
 go_upto_region 1 with fail
 rw [← hwb]
 clear hwb
 go_wp2_with (first | refine wpList_load_mid rfl 28 (.tmp 1) rfl w.heap.size 0 rfl [x0, x1, x2, x3, x4] _ hl5 Tryz.underlying28 rfl (by kernel_rfl) ?_ | fail)
 refine hck.mono ?_
 rintro e w1 ⟨rfl, b1⟩
 have hB1 := hide1 (hB.out.trans (b1.mono hB.out.size))
 cases hg : gd 8 t with
 | false =>
  clear hck hl5
  go_wp2
  go_ret2
  exact ⟨_, _, rfl, hB1.out, .inl ⟨hg, rfl, rfl⟩⟩
 | true =>
  have hv1 := hide1 (hvb.out.frame (w' := w1) (G := fun k => F k ∧ k < wb.heap.size) (fun k _ hk => b1.block k hk) (fun _ h hk => ⟨h, hk⟩))
  have hT1 := hide1 (hTb.out.below b1 (by omega))
  have hn1 := hide1 ((b1.block _ hql).trans hn.out)
  have hs1 := b1.size
  clear hck hl5 hvb hTb hn b1
  obtain ⟨w2, hw2⟩ : ∃ w2, w2 = w1.alloc (.cells #[.slice none 0 0, .bool false] 66) := ⟨_, rfl⟩
  have b2 : Below w1.heap.size w1 w2 := by rw [hw2]; exact (Below.refl _ _).alloc (Nat.le_refl _) _
  have hq2 : w2.heap[w1.heap.size]? = some (.cells #[.slice none 0 0, .bool false] 66 (0, 0)) := by
   rw [hw2]
   show (w1.heap.push _)[w1.heap.size]? = _
   rw [Array.getElem?_push, if_pos rfl]
  have hW2 : Wt w2 w1.heap.size (.slice none 0 0) [] := ⟨hq2, [], ⟨rfl, .inl ⟨rfl, rfl⟩⟩, by simp, .inr rfl⟩
  have hs2 := b2.size
  have hn2 := (b2.block _ (by omega)).trans hn1.out
  have hl5 : w2.rangeAt w.heap.size 0 [x0, x1, x2, x3, x4] := fun j u hj => by
   simp only [World.cell?, hn2]
   rw [Nat.zero_add]
   simpa using hj
  have hsd := srt_d hh hg (hv1.out.frame (w' := w2) (G := fun _ => True) (fun k _ hk => b2.block k hk) (fun _ _ _ => trivial))
  replace hsd : Calls Tryz.prog 24 #[.agg #[x0, x1, x2, x3, x4]] w2 _ := hsd
  have hT2 := hide1 (hT1.out.below b2 (by omega))
  have hB2 := hide1 (hB1.out.trans (b2.mono hB1.out.size))
  replace hW2 := hide1 hW2
  have hql2 : w1.heap.size < w2.heap.size := (Array.getElem?_eq_some_iff.1 hq2).1
  clear hB1 hT1 hv1 hn1 hn2 b2 hq2
  go_upto_region 4 with fail
  rw [← hw2]
  clear hw2
  go_wp2_with (first | refine wpList_load_mid rfl 28 (.tmp 1) rfl w.heap.size 0 rfl [x0, x1, x2, x3, x4] _ hl5 Tryz.underlying28 rfl (by kernel_rfl) ?_ | fail)
  refine hsd.mono ?_
  rintro e w3 ⟨c3, rfl, h5, b3, hv3⟩
  have hW3 := hW2.out.below b3
  have hT3 := hT2.out.below b3 (by omega)
  have hB3 := hide1 (hB2.out.trans (b3.mono hB2.out.size))
  have hF3 : Fr (w2.heap.size ≤ ·) w3 w1.heap.size (.slice none 0 0) := fun k hk _ => ⟨by have h1 : w2.heap.size ≤ k := hk; omega, fun e => by cases e⟩
  have hvw := vw 9 (so_hgt 8 (gd_hgt hh hg)) (so_gd 8 hg) hv3 hF3 hW3 hT3 (by omega)
  have hs3 := b3.size
  clear hsd hW3 hT3 hF3 hv3 hl5 b3 hT2 hW2 hB2
  go_wp2_with fail
  refine hvw.mono ?_
  rintro e w4 ⟨rfl, ov, hW4, k4⟩
  have hB4 : Hid (Below w.heap.size w w4) := hide1 ⟨k4.os.trans hB3.out.os, k4.tape.trans hB3.out.tape, k4.output.trans hB3.out.output, Nat.le_trans hB3.out.size k4.size, fun k hk => (k4.block k (by have := hB3.out.size; omega) (by omega) (fun e => by cases e)).trans (hB3.out.block k hk)⟩
  have hW5 : Wt w4 w1.heap.size ov (ct t) := hW4
  obtain ⟨hbx, out, ho, hol, hoz⟩ := hW5
  have c1 : w4.cell? ⟨w1.heap.size, 1, none⟩ = some (.bool (decide (4096 < (ct t).length))) := by simp only [World.cell?, hbx]; rfl
  have c0 : w4.cell? ⟨w1.heap.size, 0, none⟩ = some ov := by simp only [World.cell?, hbx]; rfl
  clear hvw hW4 k4 hB3 hbx
  by_cases hov : 4096 < (ct t).length
  ·rw [decide_eq_true hov] at c1
   have hf : Hid (AnT w t (.returned (.tuple #[.slice none 0 0, .iface 52 (.int .i64 10)])) w4) := hide1 ⟨_, _, rfl, hB4.out, .inr (.inl ⟨hg, hov, rfl, rfl⟩)⟩
   clear ho hoz hov
   go_wp2
   go_ret2
   exact hf.out
  ·rw [decide_eq_false hov] at c1
   obtain rfl : out = ct t := hoz.resolve_left hov
   obtain ⟨oa, oc, rfl⟩ := ho.slc
   have ho2 : Ow w4 w.heap.size (.slice oa (ct t).length oc) (ct t) := by
    obtain ⟨g1, g2 | ⟨g', cap, cur, e1, e2, e3⟩⟩ := ho
    ·exact ⟨g1, .inl g2⟩
    ·exact ⟨g1, .inr ⟨g', cap, cur, e1, by omega, e3⟩⟩
   have hf : Hid (AnT w t (.returned (.tuple #[.slice oa (ct t).length oc, .nilIface])) w4) := hide1 ⟨_, _, rfl, hB4.out, .inr (.inr ⟨hg, hol, rfl, ho2⟩)⟩
   clear ho hoz hov ho2
   generalize (ct t).length = N at *
   go_wp2
   go_ret2
   exact hf.out
end Go.Proofs.YtbemaloaobeblaaGreatDoor

namespace Go.Proofs.YtbemaloaobeblaaGreatDoor
open Go.RowKit

theorem Kg.grown {g : Nat} {w0 w w' : World} {row : Option Nat} (h : Kg g w0 w) (k : w.grownBy w' row) (hr : ∀ r, row = some r → w0.heap.size ≤ r) : Kg g w0 w' :=
 ⟨k.os.trans h.os, k.tape.trans h.tape, k.output.trans h.output, Nat.le_trans h.size k.size, fun j hj hn => (k.block j (Nat.lt_of_lt_of_le hj h.size) (fun e => by
  have := hr j e.symm
  omega)).trans (h.block j hj hn)⟩
theorem Ow.kg {g : Nat} {w w' : World} {B : Nat} {v : Value} {l : List UInt8} (h : Ow w B v l) (k : Kg g w w') (hg : g < B) : Ow w' B v l := own_kept h fun b e => k.block b (h.lt b e).2 (by have := (h.lt b e).1; omega)
theorem ow_nil (w : World) (B : Nat) : Ow w B (.slice none 0 0) [] := ⟨rfl, .inl ⟨rfl, rfl⟩⟩
theorem bs_new (w : World) (l : List UInt8) (_hl : l ≠ []) : BsA (w.alloc (.cells (bc l) 5)) (.slice (some ⟨w.heap.size, 0, none⟩) l.length l.length) l := by
 refine ⟨_, _, rfl, .inr ⟨_, _, rfl, by simp, fun j x hj => ?_⟩⟩
 have h := new_at w (bc l) 5
 simp only [World.cell?, h]
 rw [Nat.zero_add]
 unfold bc
 simp [hj]
theorem sgn_ne (c : Nat) : sgn c ≠ [] := by
 unfold sgn
 split
 ·simp
 ·split
  ·simp
  ·split <;> simp
theorem sgn_le4 (c : Nat) : (sgn c).length ≤ 4 := by
 unfold sgn
 split
 ·simp
 ·split
  ·simp
  ·split <;> simp
theorem Tg.of {sl : Value} {B : List UInt8} {g p q : Nat} {bad bad' : Bool} {w w' : World} (h : Tg sl B g p bad w) (k : Kg g w w') (hb : w'.heap[g]? = some (.cells #[sl, .int .i64 (q : Nat), .bool bad'] 60 (0, 0))) : Tg sl B g q bad' w' :=
 ⟨hb, h.bs.same k.size fun hl a n c e ha => k.block _ ha (h.ng hl a n c e), h.ng, h.cp⟩
def AnQr (sl : Value) (B : List UInt8) (g : Nat) (o : Option (List UInt8 × List UInt8)) (w : World) (e : Ending) (w' : World) : Prop :=
 ∃ x q, e = .returned (.string (st x)) ∧ Tg sl B g q o.isNone w' ∧ Kg g w w' ∧ q ≤ B.length + 1 ∧ ∀ n r, o = some (n, r) → x = n ∧ B.drop q = r ∧ q ≤ B.length
section
variable {sl : Value} {B : List UInt8} {g p : Nat} {w w' : World}
def badOf (g : Nat) (w : World) : Bool := match w.cell? ⟨g, 2, none⟩ with
 | some (.bool b) => b
 | _ => true
theorem Tg.badOf {bad : Bool} (h : Tg sl B g p bad w) : badOf g w = bad := by
 unfold Go.Proofs.YtbemaloaobeblaaGreatDoor.badOf
 rw [h.c2]
set_option maxHeartbeats 8000000 in
set_option maxRecDepth 100000 in
theorem quoted_no (h : Tg sl B g p false w) (hpl : p ≤ B.length) (hc : nx B p ≠ 34) : Calls Tryz.prog 49 #[.pointer (some ⟨g, 0, none⟩)] w (AnQr sl B g (qt (B.drop p)) w) := by
 have ho : qt (B.drop p) = none := by
  have := hp_nx (B := B) (p := p) (c := 34) (by decide)
  unfold qt
  rw [this, show (34 : UInt8).toNat = 34 from rfl, decide_eq_false hc, if_neg (by simp)]
 rw [ho]
 have hn := next_t h
 have hcl := nx_lt B p
 generalize nx B p = c at *
 have d0 : ((c : Int) != 34) = true := by simp; omega
 clear hc ho
 go_enter Tryz.func49, Tryz.ntmps49
 go_wp2_with fail
 refine hn.mono ?_
 rintro e w1 ⟨rfl, b1⟩
 have t1 := h.later b1
 have e1 := t1.c2
 have e2 := t1.fr 2
 obtain ⟨t2, k2⟩ := t1.set2 true
 have hf2 : Hid (AnQr sl B g none w (.returned (.string ⟨#[]⟩)) (w1.setCell ⟨g, 2, none⟩ (.bool true))) := hide1 ⟨[], p, rfl, t2, (Kg.of b1).trans k2, by omega, fun n r e => by cases e⟩
 clear hn t1 t2 k2 b1 h
 go_wp2
 go_ret
 exact hf2.out
set_option maxHeartbeats 16000000 in
set_option maxRecDepth 100000 in
theorem quoted_go (h : Tg sl B g p false w) (hB : B.length ≤ 4096) (hc : nx B p = 34) : Calls Tryz.prog 49 #[.pointer (some ⟨g, 0, none⟩)] w (AnQr sl B g (qt (B.drop p)) w) := by
 have hpB : p < B.length := (nx_pos hc (by omega)).choose_spec.choose_spec.2.2
 obtain ⟨R, hR⟩ : ∃ R, Hid (ql (B.length - p) [] (B.drop (p + 1)) = R) := ⟨_, hide1 rfl⟩
 have ho : qt (B.drop p) = R := by
  have := hp_nx (B := B) (p := p) (c := 34) (by decide)
  unfold qt
  rw [this, show (34 : UInt8).toNat = 34 from rfl, decide_eq_true hc, if_pos rfl, tk_nx hc (by decide), List.length_drop]
  exact hR.out
 rw [ho]
 have hn := next_t h
 rw [hc] at hn
 obtain ⟨aa, cap, rfl, hbs⟩ := h.bs
 have hcap := h.cp _ _ _ rfl
 obtain ⟨b, o, rfl, -, -⟩ := hbs.resolve_left (fun e => by
   have h0 : B.length = 0 := by rw [e]; rfl
   omega)
 have hg0 := h.lt
 clear hc ho hbs
 go_enter Tryz.func49, Tryz.ntmps49
 go_wp2_with fail
 refine hn.mono ?_
 rintro e w1 ⟨rfl, b1⟩
 have t1 := h.later b1
 have cc := t1.c1
 have cf := t1.fr 1
 obtain ⟨t2, k2⟩ := t1.set1p
 replace k2 := hide1 ((Kg.of b1).trans k2)
 replace t2 := hide1 t2
 replace h := hide1 h
 clear hn b1 t1
 go_upto_region 5 with fail
 generalize w1.setCell ⟨g, 1, none⟩ (.int .i64 (((p : Nat) : Int) + 1)) = w2 at *
 clear cc cf
 go_wp2_with fail
 go_loopw [3] (fun x wr => ∃ (q : Nat) (out : List UInt8) (bad : Bool) (n : Nat) (oa : Option Addr) (oc : Nat), x = .slice oa out.length oc ∧ q ≤ B.length + 1 ∧ Hid (bad = false → q ≤ B.length ∧ ql n out (B.drop q) = R ∧ B.length - q ≤ n) ∧ Hid (bad = true → R = none) ∧ Hid (bad = false → out.length + 4 * n ≤ 20000) ∧ Hid (Tg (.slice (some ⟨b, o, none⟩) B.length cap) B g q bad wr) ∧ Hid (Kg g w wr) ∧ Hid (Ow wr w.heap.size (.slice oa out.length oc) out)) (fun _ wr => if badOf g wr then 0 else B.length + 1 - atOf g wr)
 case atStart => exact ⟨p + 1, [], false, B.length - p, none, 0, rfl, by omega, hide1 (fun _ => ⟨by omega, hR.out, by omega⟩), hide1 (fun e => by cases e), hide1 (fun _ => by simp only [List.length_nil]; omega), t2, k2, hide1 (ow_nil _ _)⟩
 case round =>
  obtain ⟨q, out, bad, n, oa, oc, rfl, hq1, hgo, hbd, hol, hT, hK, hO⟩ := hrel
  have hat : Hid (atOf g wr = q) := hide1 hT.out.atOf
  have hbo : Hid (badOf g wr = bad) := hide1 hT.out.badOf
  clear t2 k2 hR
  have cb := hT.out.c2
  cases bad with
  | true =>
   have hf2 : Hid (AnQr (.slice (some ⟨b, o, none⟩) B.length cap) B g R w (.returned (.string ⟨#[]⟩)) wr) := hide1 ⟨[], q, rfl, by rw [hbd.out rfl]; exact hT.out, hK.out, hq1, fun n r e => by rw [hbd.out rfl] at e; cases e⟩
   clear hT hK hO hgo hbd hat hbo hol
   go_wp2
   go_ret
   exact hf2.out
  | false =>
   obtain ⟨hqB, hql, hqn⟩ := hgo.out rfl
   replace hol : Hid (out.length + 4 * n ≤ 20000) := hide1 (hol.out rfl)
   replace hql := hide1 hql
   have hTa : Hid (∀ wa, Below wr.heap.size wr wa → Tg (.slice (some ⟨b, o, none⟩) B.length cap) B g q false wa) := hide1 fun wa hb => hT.out.later hb
   obtain ⟨c, s, hcs⟩ : ∃ c s, Hid (frs (B.drop q) = (c, s)) := ⟨_, _, hide1 rfl⟩
   have hfst : Hid (∀ wa, Below wr.heap.size wr wa → Calls Tryz.prog 86 #[.slice (some ⟨b, if cap = q then o else o + q, none⟩) (B.length - q) (cap - q)] wa (AnF wa (c, s))) := hide1 fun wa hb => by
    have hbs : BsA wa (.slice (some ⟨b, if cap = q then o else o + q, none⟩) (B.drop q).length (cap - q)) (B.drop q) := by
     rw [List.length_drop]
     by_cases hck : cap = q
     ·have hnil : B.drop q = [] := List.drop_of_length_le (by omega)
      have hz0 : B.length - q = 0 := by omega
      rw [hnil, hz0]
      exact ⟨_, _, rfl, .inl rfl⟩
     ·rw [if_neg hck]
      exact (hTa.out wa hb).bs.drop q (cap - q)
    have := first_d hbs (by rw [List.length_drop]; omega)
    rw [fst_eq, hcs.out, List.length_drop] at this
    exact this
   have hcl : c ≤ 1114111 ∧ s ≤ 4096 := by
    by_cases hs : s = 0
    ·subst hs
     have : c = 0 := by
      have e := hcs.out
      unfold frs at e
      split at e
      ·cases e; rfl
      ·have := Lib.decodeL_width (B.drop q)
       rw [e] at this
       simp at this
     omega
    ·obtain ⟨g1, g2, g3, _⟩ := frs_ok hcs.out hs
     rw [List.length_drop] at g1
     unfold bdc at g3
     omega
   obtain ⟨hc1, hs1⟩ := hcl
   clear hgo hbd cb
   have cb := hT.out.c2
   go_upto_region 7 with fail
   refine wp_flowG 14 _ _ (by kernel_rfl) (by kernel_rfl) (by kernel_rfl) rfl (fun j v _ => v = ([(.pointer (some ⟨g, 0, none⟩)), (.pointer (some ⟨g, 0, none⟩)), (.pointer (some ⟨g, 0, none⟩)), (.slice (some ⟨b, o, none⟩) B.length cap), (.pointer (some ⟨g, 0, none⟩)), (.pointer (some ⟨g, 0, none⟩)), (.pointer (some ⟨g, 1, none⟩)), (.int .i64 (q : Nat)), (.slice (some ⟨b, if cap = q then o else o + q, none⟩) (B.length - q) (cap - q)), (.tuple #[.int .i64 (c : Nat), .int .i64 (s : Nat)]), (.tuple #[.int .i64 (c : Nat), .int .i64 (s : Nat)]), (.int .i64 (c : Nat)), (.int .i64 (s : Nat)), (.int .i64 (c : Nat)), (.int .i64 (s : Nat))] : List Value).getD j undef) (fun _ _ _ _ h _ => h) ?_ ?_
   ·intro j op hop hj a wa hwa hsz hsl hdep K hK
    match j, hop with
    | 0, hop =>
     obtain rfl := Option.some.inj hop
     have p0 : a.tmps.getD 0 undef = (.pointer (some ⟨g, 0, none⟩)) := hsl 0 rfl
     exact .plain rfl (wp_val (w' := wa) (v := (.pointer (some ⟨g, 0, none⟩))) (by simp only [execOp, Act.eval]; rw [show a.tmps.getD 0 undef = _ from p0]; rfl) (hK _ _ (Below.refl _ _) rfl))
    | 1, hop =>
     obtain rfl := Option.some.inj hop
     have t0 : a.tmps.getD 25 undef = (.pointer (some ⟨g, 0, none⟩)) := hdep 0 _ 25 rfl rfl ⟨⟨0, .data⟩, by simp, rfl, rfl⟩
     exact .plain rfl (wp_val (w' := wa) (v := (.pointer (some ⟨g, 0, none⟩))) (by simp only [execOp, Act.eval]; rw [show a.tmps.getD 25 undef = _ from t0]; kernel_rfl) (hK _ _ (Below.refl _ _) rfl))
    | 2, hop =>
     obtain rfl := Option.some.inj hop
     have t1 : a.tmps.getD 26 undef = (.pointer (some ⟨g, 0, none⟩)) := hdep 1 _ 26 rfl rfl ⟨⟨1, .data⟩, by simp, rfl, rfl⟩
     exact .plain rfl (wp_val (w' := wa) (v := (.pointer (some ⟨g, 0, none⟩))) (by simp only [execOp, Act.eval]; rw [show a.tmps.getD 26 undef = _ from t1]; kernel_rfl) (hK _ _ (Below.refl _ _) rfl))
    | 3, hop =>
     obtain rfl := Option.some.inj hop
     have t2 : a.tmps.getD 27 undef = (.pointer (some ⟨g, 0, none⟩)) := hdep 2 _ 27 rfl rfl ⟨⟨2, .data⟩, by simp, rfl, rfl⟩
     exact .plain rfl (wp_val (w' := wa) (v := (.slice (some ⟨b, o, none⟩) B.length cap)) (by simp only [execOp, Act.eval]; rw [show a.tmps.getD 27 undef = _ from t2]; simp only [Sem.run_bind, ld_gs (hTa.out wa hwa).c0, Result.andThen_ok, Sem.run_pure]) (hK _ _ (Below.refl _ _) rfl))
    | 4, hop =>
     obtain rfl := Option.some.inj hop
     have p0 : a.tmps.getD 0 undef = (.pointer (some ⟨g, 0, none⟩)) := hsl 0 rfl
     exact .plain rfl (wp_val (w' := wa) (v := (.pointer (some ⟨g, 0, none⟩))) (by simp only [execOp, Act.eval]; rw [show a.tmps.getD 0 undef = _ from p0]; rfl) (hK _ _ (Below.refl _ _) rfl))
    | 5, hop =>
     obtain rfl := Option.some.inj hop
     have t4 : a.tmps.getD 29 undef = (.pointer (some ⟨g, 0, none⟩)) := hdep 4 _ 29 rfl rfl ⟨⟨4, .data⟩, by simp, rfl, rfl⟩
     exact .plain rfl (wp_val (w' := wa) (v := (.pointer (some ⟨g, 0, none⟩))) (by simp only [execOp, Act.eval]; rw [show a.tmps.getD 29 undef = _ from t4]; kernel_rfl) (hK _ _ (Below.refl _ _) rfl))
    | 6, hop =>
     obtain rfl := Option.some.inj hop
     have t5 : a.tmps.getD 30 undef = (.pointer (some ⟨g, 0, none⟩)) := hdep 5 _ 30 rfl rfl ⟨⟨5, .data⟩, by simp, rfl, rfl⟩
     exact .plain rfl (wp_val (w' := wa) (v := (.pointer (some ⟨g, 1, none⟩))) (by simp only [execOp, Act.eval]; rw [show a.tmps.getD 30 undef = _ from t5]; kernel_rfl) (hK _ _ (Below.refl _ _) rfl))
    | 7, hop =>
     obtain rfl := Option.some.inj hop
     have t6 : a.tmps.getD 31 undef = (.pointer (some ⟨g, 1, none⟩)) := hdep 6 _ 31 rfl rfl ⟨⟨6, .data⟩, by simp, rfl, rfl⟩
     exact .plain rfl (wp_val (w' := wa) (v := (.int .i64 (q : Nat))) (by simp only [execOp, Act.eval]; rw [show a.tmps.getD 31 undef = _ from t6]; simp only [Sem.run_bind, ld_gi (hTa.out wa hwa).c1, Result.andThen_ok, Sem.run_pure]) (hK _ _ (Below.refl _ _) rfl))
    | 8, hop =>
     obtain rfl := Option.some.inj hop
     have t3 : a.tmps.getD 28 undef = (.slice (some ⟨b, o, none⟩) B.length cap) := hdep 3 _ 28 rfl rfl ⟨⟨3, .data⟩, by simp, rfl, rfl⟩
     have t7 : a.tmps.getD 32 undef = (.int .i64 (q : Nat)) := hdep 7 _ 32 rfl rfl ⟨⟨7, .data⟩, by simp, rfl, rfl⟩
     exact .plain rfl (wp_val (w' := wa) (v := (.slice (some ⟨b, if cap = q then o else o + q, none⟩) (B.length - q) (cap - q))) (by simp only [execOp, Act.eval, Option.map_some, Option.map_none]; rw [show a.tmps.getD 28 undef = _ from t3, show a.tmps.getD 32 undef = _ from t7]; simp only [Sem.run_bind, sl_from hqB, Result.andThen_ok, Sem.run_pure]) (hK _ _ (Below.refl _ _) rfl))
    | 9, hop =>
     obtain rfl := Option.some.inj hop
     have t8 : a.tmps.getD 33 undef = (.slice (some ⟨b, if cap = q then o else o + q, none⟩) (B.length - q) (cap - q)) := hdep 8 _ 33 rfl rfl ⟨⟨8, .data⟩, by simp, rfl, rfl⟩
     refine .plain rfl (oper_any (J := fun r w' => r = (.tuple #[.int .i64 (c : Nat), .int .i64 (s : Nat)]) ∧ Below wa.heap.size wa w') 86 #[.tmp 33] _ rfl #[(.slice (some ⟨b, if cap = q then o else o + q, none⟩) (B.length - q) (cap - q))] (by simp only [List.map_toArray, List.map_cons, List.map_nil, Act.eval]; rw [show a.tmps.getD 33 undef = _ from t8]) (fun w => by kernel_rfl) ((hfst.out wa hwa).mono fun e w' h => ⟨_, h.1, rfl, h.2⟩) ?_)
     rintro r w' ⟨rfl, hb⟩
     exact hK _ _ hb rfl
    | 10, hop =>
     obtain rfl := Option.some.inj hop
     have t9 : a.tmps.getD 34 undef = (.tuple #[.int .i64 (c : Nat), .int .i64 (s : Nat)]) := hdep 9 _ 34 rfl rfl ⟨⟨9, .data⟩, by simp, rfl, rfl⟩
     exact .plain rfl (wp_val (w' := wa) (v := (.tuple #[.int .i64 (c : Nat), .int .i64 (s : Nat)])) (by simp only [execOp, Act.eval]; rw [show a.tmps.getD 34 undef = _ from t9]; rfl) (hK _ _ (Below.refl _ _) rfl))
    | 11, hop =>
     obtain rfl := Option.some.inj hop
     have t10 : a.tmps.getD 24 undef = (.tuple #[.int .i64 (c : Nat), .int .i64 (s : Nat)]) := hdep 10 _ 24 rfl rfl ⟨⟨10, .data⟩, by simp, rfl, rfl⟩
     exact .plain rfl (wp_val (w' := wa) (v := (.int .i64 (c : Nat))) (by simp only [execOp, Act.eval]; rw [show a.tmps.getD 24 undef = _ from t10]; kernel_rfl) (hK _ _ (Below.refl _ _) rfl))
    | 12, hop =>
     obtain rfl := Option.some.inj hop
     have t10 : a.tmps.getD 24 undef = (.tuple #[.int .i64 (c : Nat), .int .i64 (s : Nat)]) := hdep 10 _ 24 rfl rfl ⟨⟨10, .data⟩, by simp, rfl, rfl⟩
     exact .plain rfl (wp_val (w' := wa) (v := (.int .i64 (s : Nat))) (by simp only [execOp, Act.eval]; rw [show a.tmps.getD 24 undef = _ from t10]; kernel_rfl) (hK _ _ (Below.refl _ _) rfl))
    | 13, hop =>
     obtain rfl := Option.some.inj hop
     have t11 : a.tmps.getD 35 undef = (.int .i64 (c : Nat)) := hdep 11 _ 35 rfl rfl ⟨⟨11, .data⟩, by simp, rfl, rfl⟩
     exact .plain rfl (wp_val (w' := wa) (v := (.int .i64 (c : Nat))) (by simp only [execOp, Act.eval]; rw [show a.tmps.getD 35 undef = _ from t11]; rfl) (hK _ _ (Below.refl _ _) rfl))
    | 14, _ => exact absurd rfl hj
    | _ + 15, hop => exact absurd hop (by simp)
   ·intro a wa hwa hdf hsz hsl hrr K hK
    have t12 : a.tmps.getD 36 undef = (.int .i64 (s : Nat)) := hrr 12 _ 36 rfl (by decide) rfl
    refine .plain rfl (wp_val (w' := wa) (v := (.int .i64 (s : Nat))) (by simp only [execOp, Act.eval]; rw [show a.tmps.getD 36 undef = _ from t12]; rfl) ?_)
    refine hK _ wa ?_
    have hact := act_puts hdf hsz hsl
    have kv4 : a.tmps.getD 4 undef = (.int .i64 (c : Nat)) := hrr 13 _ 4 rfl (by decide) rfl
    clear hrr hsl hdf hsz hK t12
    simp only [List.filterMap_cons, List.filterMap_nil, List.foldl_cons, List.foldl_nil] at hact
    rw [kv4] at hact
    rw [hact]
    generalize a.tmps.getD 25 undef = y25
    generalize a.tmps.getD 26 undef = y26
    generalize a.tmps.getD 27 undef = y27
    generalize a.tmps.getD 28 undef = y28
    generalize a.tmps.getD 29 undef = y29
    generalize a.tmps.getD 30 undef = y30
    generalize a.tmps.getD 31 undef = y31
    generalize a.tmps.getD 32 undef = y32
    generalize a.tmps.getD 33 undef = y33
    generalize a.tmps.getD 34 undef = y34
    generalize a.tmps.getD 24 undef = y24
    generalize a.tmps.getD 35 undef = y35
    generalize a.tmps.getD 36 undef = y36
    clear hact kv4
    simp only [Act.put, List.setIfInBounds_toArray, List.set_cons_succ, List.set_cons_zero]
    have t3 := hTa.out wa hwa
    have k3 := hide1 (hK.out.trans (Kg.of hwa))
    have o3 := hide1 (hO.out.later hwa)
    clear hTa hfst hwa hT hK hO cb
    have hbad : R = none → Hid (wa.cell? ⟨g, 2, none⟩ = some (.bool false) ∧ wa.frozen? ⟨g, 2, none⟩ = false ∧ AnQr (.slice (some ⟨b, o, none⟩) B.length cap) B g R w (.returned (.string ⟨#[]⟩)) (wa.setCell ⟨g, 2, none⟩ (.bool true))) := fun e => hide1 (by
     obtain ⟨t4, k4⟩ := t3.set2 true
     exact ⟨t3.c2, t3.fr 2, [], q, rfl, by rw [e]; exact t4, k3.out.trans k4, hq1, fun n r e2 => by rw [e] at e2; cases e2⟩)
    by_cases hs : s = 0
    ·subst hs
     obtain ⟨g1, g2⟩ := ltr_no hcs.out
     have hf2 := (hbad (by rw [← hql.out, ql_non g1 g2])).out
     have e1 := hf2.1
     have e2 := hf2.2.1
     replace hf2 := hide1 hf2.2.2
     clear hbad t3 k3 o3 hql hcs g1 g2 hat hbo hol
     go_wp2
     go_ret
     exact hf2.out
    obtain ⟨y1, y2, y3, y4⟩ := ltr_yes hcs.out hs
    obtain ⟨z1, z2, z3, -⟩ := frs_ok hcs.out hs
    rw [List.length_drop] at z1
    have ds : ((s : Int) == 0) = false := by simp; omega
    by_cases c32 : c < 32
    ·have hf2 := (hbad (by rw [← hql.out, ql_non (y1 c32).1 (y1 c32).2])).out
     have e1 := hf2.1
     have e2 := hf2.2.1
     replace hf2 := hide1 hf2.2.2
     clear hbad t3 k3 o3 hql hcs y1 y2 y3 y4 z2 z3 hat hbo hol
     go_wp2
     go_ret
     exact hf2.out
    have c1 := t3.c1
    have f1 := t3.fr 1
    obtain ⟨t4, k4⟩ := t3.set1 (q + s)
    have e4 : ((q + s : Nat) : Int) = (q : Int) + (s : Int) := by omega
    rw [e4] at t4 k4
    replace k4 := hide1 (k3.out.trans k4)
    have o4 : Hid (Ow (wa.setCell ⟨g, 1, none⟩ (.int .i64 ((q : Int) + (s : Int)))) w.heap.size (.slice oa out.length oc) out) := hide1 (o3.out.kg (t3.set1 (q + s)).2 hg0)
    replace t4 := hide1 t4
    clear hbad t3 k3 o3
    go_upto_region 11 with fail
    generalize wa.setCell ⟨g, 1, none⟩ (.int .i64 ((q : Int) + (s : Int))) = w4 at *
    by_cases c34 : c = 34
    ·subst c34
     obtain ⟨y5, y6⟩ := y2 rfl
     have hRs : Hid (R = some (out, B.drop (q + s))) := hide1 (by rw [← hql.out, ql_end y5, y6, List.drop_drop])
     have hf2 : Hid (AnQr (.slice (some ⟨b, o, none⟩) B.length cap) B g R w (.returned (.string (st out))) w4) := hide1 ⟨out, q + s, rfl, by rw [hRs.out]; exact t4.out, k4.out, by omega, fun n r e => by rw [hRs.out] at e; cases e; exact ⟨rfl, rfl, by omega⟩⟩
     have hcv := conv_b o4.out.bs
     clear t4 k4 o4 hRs hql hcs y1 y2 y3 y4 y5 y6 z2 z3 hat hbo hol
     go_wp2
     go_ret
     exact hf2.out
    obtain ⟨m, hm⟩ : ∃ m, n = m + 1 := ⟨n - 1, by omega⟩
    subst hm
    have d34 : ((c : Int) == 34) = false := by simp; omega
    by_cases c92 : c = 92
    ·subst c92
     obtain ⟨y5, y6⟩ := y3 rfl
     rw [List.drop_drop] at y6
     have hes := escaped_t t4.out (by omega) hB
     obtain ⟨oe, hoe⟩ : ∃ oe, Hid (esc (B.drop (q + s)) = oe) := ⟨_, hide1 rfl⟩
     rw [hoe.out] at hes y6
     replace y5 := hide1 y5
     replace y6 := hide1 y6
     clear y1 y2 y3 y4 z2 z3 hcs t4
     go_wp2_with fail
     refine hes.mono ?_
     rintro e w5 ⟨x, q5, rfl, t5, k5, hq5, hx, hv⟩
     have k5' := hide1 (k4.out.trans k5)
     have o5 := hide1 (o4.out.kg k5 hg0)
     replace t5 := hide1 t5
     clear hes k4 k5 o4
     cases oe with
     | none =>
      have hRn : Hid (R = none) := hide1 (by rw [← hql.out, ql_non y5.out y6.out])
      replace t5 : Hid (Tg (.slice (some ⟨b, o, none⟩) B.length cap) B g q5 true w5) := t5
      have hsg := rsign_d (c := x) hx (w := w5)
      go_wp2_with fail
      refine hsg.mono ?_
      rintro e w6 ⟨rfl, rfl⟩
      have k6 := hide1 (k5'.out.trans (Kg.alloc w5 (.cells (bc (sgn x)) 5)))
      have t6 := hide1 (t5.out.later (below_al (w := w5) (.cells (bc (sgn x)) 5)))
      have o6 := o5.out.later (below_al (w := w5) (.cells (bc (sgn x)) 5))
      have hbn := bs_new w5 (sgn x) (sgn_ne x)
      have hl4 : Hid ((sgn x).length ≤ 4) := hide1 (sgn_le4 x)
      have hsum : out.length + (sgn x).length ≤ 1000000 := by have := hl4.out; have := hol.out; omega
      have hsz6 : w.heap.size ≤ (w5.alloc (.cells (bc (sgn x)) 5)).heap.size := k6.out.size
      clear hsg t5 k5' o5
      generalize w5.alloc (.cells (bc (sgn x)) 5) = w6 at *
      go_wp2_with (
        at_builtin; refine wpList_apb rfl (.tmp 63) (.tmp 65) rfl w.heap.size _ out rfl o6 _ (sgn x) rfl hbn hsum hsz6 ?_
        intro v7 w7 o7 g7
        have k7 : Hid (Kg g w w7) := hide1 (k6.out.grown g7 (fun r e => (o6.lt r e).1))
        have t7 : Hid (Tg (.slice (some ⟨b, o, none⟩) B.length cap) B g q5 true w7) := hide1 (Tg.of h.out k7.out ((g7.block g t6.out.lt (fun e => by have := (o6.lt g e.symm).1; omega)).trans t6.out.box))
        obtain ⟨a7, c7, rfl⟩ := o7.slc
        replace o7 := hide1 o7
        clear g7 o6 hbn k6 t6 hsum hsz6)
      go_roundw
      case rel => exact ⟨q5, out ++ sgn x, true, 0, a7, c7, by rw [List.length_append], hq5, hide1 (fun e => by cases e), hide1 (fun _ => hRn.out), hide1 (fun e => by cases e), t7, k7, o7⟩
      case measure =>
       rw [t7.out.badOf, t7.out.atOf, hbo.out, hat.out]
       simp only [if_true, Bool.false_eq_true, if_false]; omega
     | some xr =>
      obtain ⟨x', r⟩ := xr
      obtain ⟨rfl, hdr, hq6⟩ := hv _ _ rfl
      replace t5 : Hid (Tg (.slice (some ⟨b, o, none⟩) B.length cap) B g q5 false w5) := t5
      have hnb := esc_ok hoe.out
      have hlt := esc_lt hoe.out
      rw [← hdr, List.length_drop, List.length_drop] at hlt
      have hRg : Hid (ql m (out ++ sgn x) (B.drop q5) = R) := hide1 (by rw [← enc_sgn hnb, hdr, ← ql_go y5.out y6.out]; exact hql.out)
      clear hnb hv hoe
      have hsg := rsign_d (c := x) hx (w := w5)
      go_wp2_with fail
      refine hsg.mono ?_
      rintro e w6 ⟨rfl, rfl⟩
      have k6 := hide1 (k5'.out.trans (Kg.alloc w5 (.cells (bc (sgn x)) 5)))
      have t6 := hide1 (t5.out.later (below_al (w := w5) (.cells (bc (sgn x)) 5)))
      have o6 := o5.out.later (below_al (w := w5) (.cells (bc (sgn x)) 5))
      have hbn := bs_new w5 (sgn x) (sgn_ne x)
      have hl4 : Hid ((sgn x).length ≤ 4) := hide1 (sgn_le4 x)
      have hsum : out.length + (sgn x).length ≤ 1000000 := by have := hl4.out; have := hol.out; omega
      have hsz6 : w.heap.size ≤ (w5.alloc (.cells (bc (sgn x)) 5)).heap.size := k6.out.size
      clear hsg t5 k5' o5
      generalize w5.alloc (.cells (bc (sgn x)) 5) = w6 at *
      go_wp2_with (
        at_builtin; refine wpList_apb rfl (.tmp 63) (.tmp 65) rfl w.heap.size _ out rfl o6 _ (sgn x) rfl hbn hsum hsz6 ?_
        intro v7 w7 o7 g7
        have k7 : Hid (Kg g w w7) := hide1 (k6.out.grown g7 (fun r e => (o6.lt r e).1))
        have t7 : Hid (Tg (.slice (some ⟨b, o, none⟩) B.length cap) B g q5 false w7) := hide1 (Tg.of h.out k7.out ((g7.block g t6.out.lt (fun e => by have := (o6.lt g e.symm).1; omega)).trans t6.out.box))
        obtain ⟨a7, c7, rfl⟩ := o7.slc
        replace o7 := hide1 o7
        clear g7 o6 hbn k6 t6 hsum hsz6)
      go_roundw
      case rel => exact ⟨q5, out ++ sgn x, false, m, a7, c7, by rw [List.length_append], hq5, hide1 (fun _ => ⟨hq6, hRg.out, by omega⟩), hide1 (fun e => by cases e), hide1 (fun _ => by have := hol.out; have := hl4.out; rw [List.length_append]; omega), t7, k7, o7⟩
      case measure =>
       rw [t7.out.badOf, t7.out.atOf, hbo.out, hat.out]
       simp only [Bool.false_eq_true, if_false]; omega
    have d92 : ((c : Int) == 92) = false := by simp; omega
    obtain ⟨y5, y6⟩ := y4 (by omega) c34 c92
    have hRg : Hid (ql m (out ++ sgn c) (B.drop (q + s)) = R) := hide1 (by rw [← enc_sgn z3, ← List.drop_drop, ← ql_go y5 y6]; exact hql.out)
    clear y1 y2 y3 y4 y5 y6 z2 z3 hcs
    have hsg := rsign_d (c := c) (by omega) (w := w4)
    go_wp2_with fail
    refine hsg.mono ?_
    rintro e w6 ⟨rfl, rfl⟩
    have k6 := hide1 (k4.out.trans (Kg.alloc w4 (.cells (bc (sgn c)) 5)))
    have t6 := hide1 (t4.out.later (below_al (w := w4) (.cells (bc (sgn c)) 5)))
    have o6 := o4.out.later (below_al (w := w4) (.cells (bc (sgn c)) 5))
    have hbn := bs_new w4 (sgn c) (sgn_ne c)
    have hl4 : Hid ((sgn c).length ≤ 4) := hide1 (sgn_le4 c)
    have hsum : out.length + (sgn c).length ≤ 1000000 := by have := hl4.out; have := hol.out; omega
    have hsz6 : w.heap.size ≤ (w4.alloc (.cells (bc (sgn c)) 5)).heap.size := k6.out.size
    clear hsg t4 k4 o4
    generalize w4.alloc (.cells (bc (sgn c)) 5) = w6 at *
    go_wp2_with (
      at_builtin; refine wpList_apb rfl (.tmp 63) (.tmp 65) rfl w.heap.size _ out rfl o6 _ (sgn c) rfl hbn hsum hsz6 ?_
      intro v7 w7 o7 g7
      have k7 : Hid (Kg g w w7) := hide1 (k6.out.grown g7 (fun r e => (o6.lt r e).1))
      have t7 : Hid (Tg (.slice (some ⟨b, o, none⟩) B.length cap) B g (q + s) false w7) := hide1 (Tg.of h.out k7.out ((g7.block g t6.out.lt (fun e => by have := (o6.lt g e.symm).1; omega)).trans t6.out.box))
      obtain ⟨a7, c7, rfl⟩ := o7.slc
      replace o7 := hide1 o7
      clear g7 o6 hbn k6 t6 hsum hsz6)
    go_roundw
    case rel => exact ⟨q + s, out ++ sgn c, false, m, a7, c7, by rw [List.length_append], by omega, hide1 (fun _ => ⟨by omega, hRg.out, by omega⟩), hide1 (fun e => by cases e), hide1 (fun _ => by have := hol.out; have := hl4.out; rw [List.length_append]; omega), t7, k7, o7⟩
    case measure =>
     rw [t7.out.badOf, t7.out.atOf, hbo.out, hat.out]
     simp only [Bool.false_eq_true, if_false]; omega
theorem quoted_t (h : Tg sl B g p false w) (hpl : p ≤ B.length) (hB : B.length ≤ 4096) : Calls Tryz.prog 49 #[.pointer (some ⟨g, 0, none⟩)] w (AnQr sl B g (qt (B.drop p)) w) := by
 by_cases hc : nx B p = 34
 ·exact quoted_go h hB hc
 ·exact quoted_no h hpl hc
end
end Go.Proofs.YtbemaloaobeblaaGreatDoor

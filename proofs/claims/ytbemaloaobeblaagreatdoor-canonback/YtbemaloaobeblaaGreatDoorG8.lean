/- CRB, KT: laid together. -/
import Derived.Lib.LaidU8
import Derived.Lib.LaidTab
import Derived.LaidLaws
import Derived.PinnedBridge
import Derived.Lay
import Derived.LaidMore
import Derived.WalkKit
import Derived.ProofKit
import Derived.OpenShut
import Derived.ChangeOld
import Derived.Test.YtbemaloaobeblaaGreatDoorG7
import Derived.Test.YtbemaloaobeblaaGreatDoorG4
import Derived.Test.YtbemaloaobeblaaGreatDoorG2
import Derived.Test.YtbemaloaobeblaaGreatDoorG3
import Derived.Test.YtbemaloaobeblaaGreatDoorRows
namespace Go.Proofs.YtbemaloaobeblaaGreatDoor
open Go.RowKit Go.Shelf

set_option maxHeartbeats 8000000 in
set_option maxRecDepth 100000 in
theorem back_walk {w : World} {t : T} {c : Array Value} (hv : VA (· < w.heap.size) w t c.toList) (hs : ∀ n, sbd n t) (hT : Ev w) (h8 : 8 ≤ w.heap.size) : Calls Tryz.prog 6 #[.agg c] w fun e w' => e = .returned (.bool true) ∧ Below w.heap.size w w' := by
  obtain ⟨x0, x1, x2, x3, x4, hce⟩ := five_l hv.len
  obtain rfl : c = #[x0, x1, x2, x3, x4] := by cases c; simp at hce; simp [hce]
  obtain ⟨wb, hwb⟩ : ∃ wb, wb = w.alloc (.cells #[x0, x1, x2, x3, x4] 28) := ⟨_, rfl⟩
  have hB : Below w.heap.size w wb := by rw [hwb]; exact (Below.refl _ _).alloc (Nat.le_refl _) _
  have hnb : wb.heap[w.heap.size]? = some (.cells #[x0, x1, x2, x3, x4] 28 (0, 0)) := by
    rw [hwb]
    show (w.heap.push _)[w.heap.size]? = _
    rw [Array.getElem?_push, if_pos rfl]
  have hql : w.heap.size < wb.heap.size := (Array.getElem?_eq_some_iff.1 hnb).1
  have hTb := hT.below hB (by omega)
  have hal := alive_c hTb (by omega)
  have hvf : Hid (∀ wa, Below w.heap.size w wa → VA (fun _ => True) wa t [x0, x1, x2, x3, x4]) := hide1 (fun wa hwa => VA.frame (c := [x0, x1, x2, x3, x4]) hv (w' := wa) (G := fun _ => True) (fun k hk _ => hwa.block k hk) (fun _ _ _ => trivial))
  have hl : Hid (∀ wa, Below wb.heap.size wb wa → wa.rangeAt w.heap.size 0 [x0, x1, x2, x3, x4]) := hide1 (fun wa hwa j u hj => by
    have hx := (hwa.block w.heap.size hql).trans hnb
    simp only [World.cell?, hx]
    rw [Nat.zero_add]
    simpa using hj)
  replace hTb := hide1 hTb
  replace hB := hide1 hB
  replace hs := hide1 hs
  clear hv hce hT hnb
  go_enter Tryz.func6, Tryz.ntmps6
  go_upto_region 1 with fail
  rw [← hwb]
  clear hwb
  go_wp2_with fail
  refine hal.mono ?_
  rintro e w1 ⟨rfl, b1⟩
  have g1 : Hid (Below wb.heap.size wb w1) := hide1 b1
  have B1 := hide1 (hB.out.trans (b1.mono hB.out.size))
  have hl1 := hl.out w1 b1
  obtain ⟨X, hX, hhv⟩ := heavy_d (hvf.out w1 B1.out)
  replace hhv : Calls Tryz.prog 19 #[.agg #[x0, x1, x2, x3, x4]] w1 _ := hhv
  clear hal b1
  go_wp2_with (first | refine wpList_load_mid rfl 28 (.tmp 1) rfl w.heap.size 0 rfl [x0, x1, x2, x3, x4] _ hl1 Tryz.underlying28 rfl (by kernel_rfl) ?_ | fail)
  refine hhv.mono ?_
  rintro e w2 ⟨rfl, b2⟩
  have g2 := hide1 (g1.out.trans (b2.mono g1.out.size))
  have B2 := hide1 (B1.out.trans (b2.mono B1.out.size))
  clear hhv b2 hl1 g1 B1
  cases X with
  | true =>
    go_wp2
    go_ret
    exact ⟨rfl, B2.out⟩
  | false =>
    obtain ⟨q1, -⟩ := hX rfl
    have hl2 := hl.out w2 g2.out
    have hT2 := hide1 (hTb.out.below g2.out (by omega))
    have h82 : 8 ≤ w2.heap.size := by have := g2.out.size; omega
    have hpu := put_c q1 (hs.out 200) (hvf.out w2 B2.out) hT2.out h82
    replace hpu : Calls Tryz.prog 20 #[.agg #[x0, x1, x2, x3, x4]] w2 _ := hpu
    clear hX
    go_wp2_with (first | refine wpList_load_mid rfl 28 (.tmp 1) rfl w.heap.size 0 rfl [x0, x1, x2, x3, x4] _ hl2 Tryz.underlying28 rfl (by kernel_rfl) ?_ | fail)
    refine hpu.mono ?_
    rintro e w3 ⟨v, ev, rfl, b3, hans⟩
    have g3 := hide1 (g2.out.trans (b3.mono g2.out.size))
    have B3 := hide1 (B2.out.trans (b3.mono B2.out.size))
    have hT3 := hide1 (hT2.out.below b3 h82)
    have h83 : 8 ≤ w3.heap.size := by have := b3.size; omega
    clear hpu b3 hl2 g2 B2 hT2
    rcases hans with ⟨e1, rfl, rfl⟩ | ⟨e1, e2, rfl, rfl⟩ | ⟨e1, e2, rfl, ho⟩
    · go_wp2
      go_ret
      exact ⟨rfl, B3.out⟩
    · replace e2 := hide1 e2
      go_wp2
      go_ret
      exact ⟨rfl, B3.out⟩
    · have hpp := prsV_ct e1 e2
      obtain ⟨-, hh', hg', hs'⟩ := prs_ok hpp
      have hE : smB 9 t (so 8 t) = true := sm_sorted e1
      have hI : isC (ct t) = true := by unfold isC; rw [hpp]; simp only [ct_so e1]; simpa using e2
      have hC := ct_so e1
      have hbs := hide1 ho.bs
      obtain ⟨oa, oc, rfl⟩ := ho.slc
      have hpa := parse_d hbs.out hT3.out h83
      generalize so 8 t = t' at *
      clear ho
      replace e1 := hide1 e1
      replace e2 := hide1 e2
      replace hC := hide1 hC
      replace hE := hide1 hE
      go_wp2_with fail
      refine hpa.mono ?_
      rintro e w4 ⟨c, ev, rfl, hcs, hco, b4, hx⟩
      rcases hx with ⟨u, hu, rfl, hv'⟩ | ⟨hu, _⟩
      case inr => rw [hpp] at hu; cases hu
      obtain rfl : t' = u := Option.some.inj (hpp.symm.trans hu)
      obtain ⟨c0, c1, c2, c3, c4, rfl⟩ := arr5q hcs
      go_upto_region 9 with (refine wpList_store_row rfl 28 (.tmp 5) (.tmp 24) rfl w4.heap.size #[c0, c1, c2, c3, c4] rfl rfl 28 _ (bxw_z w4) (by kernel_rfl) rfl hco ?_)
      have haA := bxw_at w4 #[c0, c1, c2, c3, c4]
      have hlA := bxw_bl w4 #[c0, c1, c2, c3, c4]
      generalize hwe : bxw w4 #[c0, c1, c2, c3, c4] = wA at *
      rw [show (w4.alloc (.cells #[.int .i64 0, .int .i64 0, .string ⟨#[]⟩, .slice none 0 0, .slice none 0 0] 28)).setRow w4.heap.size #[c0, c1, c2, c3, c4] = wA from hwe]
      clear hwe
      have c4A := b4.trans (hlA.mono b4.size)
      have gA := hide1 (g3.out.trans (c4A.mono g3.out.size))
      have BA := hide1 (B3.out.trans (c4A.mono B3.out.size))
      have hvA := hide1 (hv'.frame (w' := wA) (G := fun _ => True) (fun j h hj => hlA.block j hj) (fun _ h hk => trivial))
      have hTA := hide1 (hT3.out.below c4A h83)
      have h8A : 8 ≤ wA.heap.size := by have := c4A.size; omega
      have hbA := hide1 (hbs.out.below c4A)
      have hqA : w4.heap.size < wA.heap.size := (Array.getElem?_eq_some_iff.1 haA).1
      have hlw : Hid (∀ wa, Below wA.heap.size wA wa → wa.rangeAt w4.heap.size 0 [c0, c1, c2, c3, c4]) := hide1 (fun wa hwa j u hj => by
        have hx := (hwa.block w4.heap.size hqA).trans haA
        simp only [World.cell?, hx]
        rw [Nat.zero_add]
        simpa using hj)
      have l1 := hl.out wA gA.out
      have l2 := hlw.out wA (Below.refl _ _)
      have heq := equal_d q1 hh' (hs.out 200) hs' (hvf.out wA BA.out) hvA.out hTA.out h8A
      rw [e1.out, hg', hE.out] at heq
      replace heq : Calls Tryz.prog 25 #[.agg #[x0, x1, x2, x3, x4], .agg #[c0, c1, c2, c3, c4]] wA fun e w' => e = .returned (.bool true) ∧ Below wA.heap.size wA w' := heq
      clear hpa hv' hlA haA b4 c4A g3 B3 hT3 hbs hu
      have m0 : wA.cell? ⟨w.heap.size, 0, none⟩ = some x0 := by have := l1 0 x0 rfl; simpa using this
      have m1 : wA.cell? ⟨w.heap.size, 1, none⟩ = some x1 := by have := l1 1 x1 rfl; simpa using this
      have m2 : wA.cell? ⟨w.heap.size, 2, none⟩ = some x2 := by have := l1 2 x2 rfl; simpa using this
      have m3 : wA.cell? ⟨w.heap.size, 3, none⟩ = some x3 := by have := l1 3 x3 rfl; simpa using this
      have m4 : wA.cell? ⟨w.heap.size, 4, none⟩ = some x4 := by have := l1 4 x4 rfl; simpa using this
      have n0 : wA.cell? ⟨w4.heap.size, 0, none⟩ = some c0 := by have := l2 0 c0 rfl; simpa using this
      have n1 : wA.cell? ⟨w4.heap.size, 1, none⟩ = some c1 := by have := l2 1 c1 rfl; simpa using this
      have n2 : wA.cell? ⟨w4.heap.size, 2, none⟩ = some c2 := by have := l2 2 c2 rfl; simpa using this
      have n3 : wA.cell? ⟨w4.heap.size, 3, none⟩ = some c3 := by have := l2 3 c3 rfl; simpa using this
      have n4 : wA.cell? ⟨w4.heap.size, 4, none⟩ = some c4 := by have := l2 4 c4 rfl; simpa using this
      clear l1 l2
      go_wp2_with fail
      refine heq.mono ?_
      rintro e w5 ⟨rfl, b5⟩
      have B5 := hide1 (BA.out.trans (b5.mono BA.out.size))
      have hT5 := hide1 (hTA.out.below b5 h8A)
      have h85 : 8 ≤ w5.heap.size := by have := b5.size; omega
      have hb5 := hide1 (hbA.out.below b5)
      have his := is_d hb5.out hT5.out h85
      rw [hI] at his
      replace b5 := hide1 b5
      clear heq BA hTA hbA hI m0 m1 m2 m3 m4 n0 n1 n2 n3 n4
      go_wp2_with fail
      refine his.mono ?_
      rintro e w6 ⟨rfl, b6⟩
      have b56 := b5.out.trans (b6.mono b5.out.size)
      have B6 := hide1 (B5.out.trans (b6.mono B5.out.size))
      have hT6 := hT5.out.below b6 h85
      have hb6 := hide1 (hb5.out.below b6)
      have l6 := hlw.out w6 b56
      have hp6 := put_c hh' hs' (hvA.out.frame (w' := w6) (G := fun _ => True) (fun k _ hk => b56.block k hk) (fun _ _ _ => trivial)) hT6 (by have := b6.size; omega)
      replace hp6 : Calls Tryz.prog 20 #[.agg #[c0, c1, c2, c3, c4]] w6 _ := hp6
      clear his b5 b6 b56 B5 hT5 hb5 hvA hlw
      go_wp2_with (first | refine wpList_load_mid rfl 28 (.tmp 5) rfl w4.heap.size 0 rfl [c0, c1, c2, c3, c4] _ l6 Tryz.underlying28 rfl (by kernel_rfl) ?_ | fail)
      refine hp6.mono ?_
      rintro e w7 ⟨v7, ev7, rfl, b7, h7⟩
      have B7 := hide1 (B6.out.trans (b7.mono B6.out.size))
      rcases h7 with ⟨h, _⟩ | ⟨_, h, _⟩ | ⟨_, _, rfl, ho7⟩
      · rw [hg'] at h; cases h
      · rw [hC.out] at h; have := e2.out; omega
      rw [hC.out] at ho7
      have s1 := hb6.out.below b7
      have s2 := ho7.bs
      obtain ⟨ob, od, rfl⟩ := ho7.slc
      have hsm := same_a s1 s2
      rw [decide_eq_true rfl] at hsm
      clear hp6 l6 b7 B6 hb6 ho7 s1 s2
      go_wp2_with fail
      refine hsm.mono ?_
      rintro e w8 ⟨rfl, rfl⟩
      go_wp2
      go_ret
      exact ⟨rfl, B7.out⟩
end Go.Proofs.YtbemaloaobeblaaGreatDoor

namespace Go.Proofs.YtbemaloaobeblaaGreatDoor
open Go.ChangeShapes Go.WideShapes Go.ChangeAt Go.RowKit

def laidJ : List (String × DataW Unit) := [("math/bits.deBruijn32tab", Rows.laid_math_bits_deBruijn32tab), ("math/bits.deBruijn64tab", Rows.laid_math_bits_deBruijn64tab), ("internal/strconv.uint64pow10", Rows.laid_internal_strconv_uint64pow10), ("unicode/utf8.acceptRanges", Rows.laid_unicode_utf8_acceptRanges), ("strconv.ErrRange", Rows.laid_strconv_ErrRange), ("strconv.ErrSyntax", Rows.laid_strconv_ErrSyntax), ("unicode/utf8.first", Rows.laid_unicode_utf8_first)]
theorem acc_L : (Rows.laid_unicode_utf8_acceptRanges : DataW Unit) = Lib.acceptData := by kernel_rfl
theorem pow_L : (Rows.laid_internal_strconv_uint64pow10 : DataW Unit) = Lib.tabData .u64 Lib.pow10Tab := by kernel_rfl
theorem fst_L : Rows.laid_unicode_utf8_first = Lib.firstData := Pinned.utf8First_eq
theorem err_cell {W : World} {n nm : String} {d : DataW Unit} {g : Nat} {t : TypeId} {ms : Array (String × TypeId)} (hg : Tryz.prog.globalNamed n = some g) (ht : (Tryz.prog.globals[g]?).map (·.type) = some t) (hi : Tryz.prog.underlying t = some (.interface ms))
    (h : Lib.VarReads Tryz.prog W n (.iface nm d)) : ∃ te pe, W.cell? ⟨g, 0, none⟩ = some (.iface te pe) := by
  obtain ⟨g', t', cs, fuel, p, hg', hty, hvar, hd⟩ := h
  obtain rfl := Option.some.inj (hg.symm.trans hg')
  obtain rfl := Option.some.inj (ht.symm.trans hty)
  obtain ⟨f1, u, v, e, hn, h1⟩ := iface_of_trod hi hd
  refine ⟨u, v, ?_⟩
  rw [World.var?_cell hg hvar 0, ← Array.getElem?_toList, e]
  rfl
theorem of_laidJ {W : World} (h : laidMetH Tryz.prog laidJ W) : Ev W ∧ 8 ≤ W.heap.size := by
  rw [MakeChecks.laidMetH_plain _ _ _ (by kernel_rfl)] at h
  have r1 : Lib.VarReads Tryz.prog W "unicode/utf8.first" Lib.firstData := fst_L ▸ Lib.laidMet.reads h (by simp [laidJ])
  have r2 : Lib.VarReads Tryz.prog W "unicode/utf8.acceptRanges" Lib.acceptData := acc_L ▸ Lib.laidMet.reads h (by simp [laidJ])
  have r3 : Lib.VarReads Tryz.prog W "internal/strconv.uint64pow10" (Lib.tabData .u64 Lib.pow10Tab) := pow_L ▸ Lib.laidMet.reads h (by simp [laidJ])
  have r4 : Lib.VarReads Tryz.prog W "strconv.ErrSyntax" Rows.laid_strconv_ErrSyntax := Lib.laidMet.reads h (by simp [laidJ])
  have r5 : Lib.VarReads Tryz.prog W "strconv.ErrRange" Rows.laid_strconv_ErrRange := Lib.laidMet.reads h (by simp [laidJ])
  have r6 : Lib.VarReads Tryz.prog W "math/bits.deBruijn64tab" Rows.laid_math_bits_deBruijn64tab := Lib.laidMet.reads h (by simp [laidJ])
  refine ⟨⟨utf8Tabs_of_reads lays260 ⟨by kernel_rfl, by kernel_rfl, by kernel_rfl, by kernel_rfl, by kernel_rfl, by kernel_rfl, by kernel_rfl⟩ r1 r2, ?_, ?_, ?_⟩, ?_⟩
  · obtain ⟨g, t, cs, fuel, p, hg, hty, hvar, hd⟩ := r3
    have e1 : Tryz.prog.globalNamed "internal/strconv.uint64pow10" = some 3 := by kernel_rfl
    obtain rfl := Option.some.inj (e1.symm.trans hg)
    have e2 : (Tryz.prog.globals[3]?).map (·.type) = some 161 := by kernel_rfl
    obtain rfl := Option.some.inj (e2.symm.trans hty)
    unfold Lib.TabIs
    rw [hvar, ← Lib.cells_of_tab Tryz.underlying161 Tryz.underlying125 (by kernel_rfl) (by kernel_rfl) hd]
  · exact err_cell (by kernel_rfl) (by kernel_rfl) Tryz.underlying30 r4
  · exact err_cell (by kernel_rfl) (by kernel_rfl) Tryz.underlying30 r5
  · obtain ⟨g, t, cs, fuel, p, hg, hty, hvar, hd⟩ := r6
    have e1 : Tryz.prog.globalNamed "math/bits.deBruijn64tab" = some 7 := by kernel_rfl
    obtain rfl := Option.some.inj (e1.symm.trans hg)
    unfold World.var? at hvar
    rw [hg] at hvar
    simp only [Option.bind_some] at hvar
    rcases Nat.lt_or_ge 7 W.heap.size with h' | h'
    · exact h'
    · rw [Array.getElem?_eq_none h'] at hvar; cases hvar
theorem laid_metJ (os : Os) (args : Array Value) : laidMetH Tryz.prog laidJ ((World.laidAll Tryz.prog os laidJ).forCall (fun _ _ => 0) ⟨#[], args, []⟩).memory := by
  rw [MakeChecks.laidMetH_plain _ _ _ (by kernel_rfl)]
  exact laidMet_laidAll _ (by kernel_rfl) (by kernel_rfl)
end Go.Proofs.YtbemaloaobeblaaGreatDoor

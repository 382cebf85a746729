/- CRO, KT: laid together. -/
import Derived.Lib.LaidU8
import Derived.Lib.LaidTab
import Derived.LaidLaws
import Derived.PinnedBridge
import Derived.Lay
import Derived.LaidMore
import Derived.WalkKit
import Derived.ProofKit
import Derived.OpenShut
import Derived.ChangeOld
import Derived.Test.YtbemaloaobeblaaGreatDoorG7
import Derived.Test.YtbemaloaobeblaaGreatDoorG4
import Derived.Test.YtbemaloaobeblaaGreatDoorG2
import Derived.Test.YtbemaloaobeblaaGreatDoorG3
import Derived.Test.YtbemaloaobeblaaGreatDoorRows
namespace Go.Proofs.YtbemaloaobeblaaGreatDoor
open Go.RowKit Go.Shelf

set_option maxHeartbeats 16000000 in
set_option maxRecDepth 100000 in
theorem one_walk {w : World} {t t' : T} {c c' : Array Value} (hv : VA (· < w.heap.size) w t c.toList) (hs : ∀ n, sbd n t) (hv' : VA (· < w.heap.size) w t' c'.toList) (hs' : ∀ n, sbd n t') (hT : Ev w) (h8 : 8 ≤ w.heap.size) :
    Calls Tryz.prog 7 #[.agg c, .agg c'] w fun e w' => e = .returned (.bool true) ∧ Below w.heap.size w w' := by
  obtain ⟨y0, y1, y2, y3, y4, hc⟩ := five_l hv.len
  obtain rfl : c = #[y0, y1, y2, y3, y4] := by cases c; simp at hc; simp [hc]
  obtain ⟨z0, z1, z2, z3, z4, hc'⟩ := five_l hv'.len
  obtain rfl : c' = #[z0, z1, z2, z3, z4] := by cases c'; simp at hc'; simp [hc']
  obtain ⟨w1, hw1⟩ : ∃ w1, w1 = (w.alloc (.cells #[y0, y1, y2, y3, y4] 28)).alloc (.cells #[z0, z1, z2, z3, z4] 28) := ⟨_, rfl⟩
  have hb1 : Below w.heap.size w w1 := by rw [hw1]; exact (below_al _).alloc (by simp) _
  have hbx : w1.heap[w.heap.size]? = some (.cells #[y0, y1, y2, y3, y4] 28 (0, 0)) := by
    rw [hw1]
    show ((w.heap.push _).push _)[w.heap.size]? = _
    rw [Array.getElem?_push, if_neg (by simp), Array.getElem?_push, if_pos rfl]
  have hby : w1.heap[w.heap.size + 1]? = some (.cells #[z0, z1, z2, z3, z4] 28 (0, 0)) := by
    rw [hw1]
    show ((w.heap.push _).push _)[w.heap.size + 1]? = _
    rw [Array.getElem?_push, if_pos (by simp)]
  have hs1 : w1.heap.size = w.heap.size + 2 := by rw [hw1]; simp
  have hal := alive_c (hT.below hb1 (by omega)) (by omega)
  have hvf : Hid (∀ W, Below w.heap.size w W → VA (fun _ => True) W t [y0, y1, y2, y3, y4]) := hide1 fun W hW => VA.frame (c := [y0, y1, y2, y3, y4]) hv (fun j hj _ => hW.block j hj) (fun _ _ _ => trivial)
  have hvf' : Hid (∀ W, Below w.heap.size w W → VA (fun _ => True) W t' [z0, z1, z2, z3, z4]) := hide1 fun W hW => VA.frame (c := [z0, z1, z2, z3, z4]) hv' (fun j hj _ => hW.block j hj) (fun _ _ _ => trivial)
  have hld : Hid (∀ W, Below w1.heap.size w1 W → W.rangeAt w.heap.size 0 [y0, y1, y2, y3, y4]) := hide1 fun W hW j v hj => by
    have := (hW.block w.heap.size (by omega)).trans hbx
    simp only [World.cell?, this]
    rw [Nat.zero_add]
    simpa using hj
  have hld' : Hid (∀ W, Below w1.heap.size w1 W → W.rangeAt (w.heap.size + 1) 0 [z0, z1, z2, z3, z4]) := hide1 fun W hW j v hj => by
    have := (hW.block (w.heap.size + 1) (by omega)).trans hby
    simp only [World.cell?, this]
    rw [Nat.zero_add]
    simpa using hj
  replace hT := hide1 (hT.below hb1 (by omega))
  replace hb1 := hide1 hb1
  replace hs := hide1 hs
  replace hs' := hide1 hs'
  have h81 : Hid (8 ≤ w1.heap.size) := hide1 (by omega)
  clear hv hc hbx hv' hc' hby hs1 h8
  go_enter Tryz.func7, Tryz.ntmps7
  go_wp2_with fail
  rw [← hw1]
  clear hw1
  refine hal.mono ?_
  rintro e w2 ⟨rfl, g2⟩
  have B2 := hide1 (hb1.out.trans (g2.mono hb1.out.size))
  have l2 := hld.out w2 g2
  obtain ⟨X, hX, hhv⟩ := heavy_d (hvf.out w2 B2.out)
  replace hhv : Calls Tryz.prog 19 #[.agg #[y0, y1, y2, y3, y4]] w2 _ := hhv
  replace g2 := hide1 g2
  clear hal
  go_wp2_with (first | refine wpList_load_mid rfl 28 (.tmp 2) rfl w.heap.size 0 rfl [y0, y1, y2, y3, y4] _ l2 Tryz.underlying28 rfl (by kernel_rfl) ?_ | fail)
  refine hhv.mono ?_
  rintro e w3 ⟨rfl, b3⟩
  have g3 := hide1 (g2.out.trans (b3.mono g2.out.size))
  have B3 := hide1 (B2.out.trans (b3.mono B2.out.size))
  clear hhv b3 l2 g2 B2
  cases X with
  | true =>
    go_wp2
    go_ret
    exact ⟨rfl, B3.out⟩
  | false =>
    obtain ⟨q1, -⟩ := hX rfl
    have l3 := hld'.out w3 g3.out
    obtain ⟨X', hX', hhv'⟩ := heavy_d (hvf'.out w3 B3.out)
    replace hhv' : Calls Tryz.prog 19 #[.agg #[z0, z1, z2, z3, z4]] w3 _ := hhv'
    clear hX
    have m0 : w3.cell? ⟨w.heap.size + 1, 0, none⟩ = some z0 := by have := l3 0 z0 rfl; simpa using this
    have m1 : w3.cell? ⟨w.heap.size + 1, 1, none⟩ = some z1 := by have := l3 1 z1 rfl; simpa using this
    have m2 : w3.cell? ⟨w.heap.size + 1, 2, none⟩ = some z2 := by have := l3 2 z2 rfl; simpa using this
    have m3 : w3.cell? ⟨w.heap.size + 1, 3, none⟩ = some z3 := by have := l3 3 z3 rfl; simpa using this
    have m4 : w3.cell? ⟨w.heap.size + 1, 4, none⟩ = some z4 := by have := l3 4 z4 rfl; simpa using this
    clear l3
    go_wp2_with fail
    refine hhv'.mono ?_
    rintro e w4 ⟨rfl, b4⟩
    have g4 := hide1 (g3.out.trans (b4.mono g3.out.size))
    have B4 := hide1 (B3.out.trans (b4.mono B3.out.size))
    clear hhv' b4 g3 B3 m0 m1 m2 m3 m4
    cases X' with
    | true =>
      go_wp2
      go_ret
      exact ⟨rfl, B4.out⟩
    | false =>
      obtain ⟨q2, -⟩ := hX' rfl
      have l4 := hld.out w4 g4.out
      have hp4 := put_c q1 (hs.out 200) (hvf.out w4 B4.out) (hT.out.below g4.out h81.out) (by have := g4.out.size; have := h81.out; omega)
      replace hp4 : Calls Tryz.prog 20 #[.agg #[y0, y1, y2, y3, y4]] w4 _ := hp4
      clear hX'
      go_wp2_with (first | refine wpList_load_mid rfl 28 (.tmp 2) rfl w.heap.size 0 rfl [y0, y1, y2, y3, y4] _ l4 Tryz.underlying28 rfl (by kernel_rfl) ?_ | fail)
      refine hp4.mono ?_
      rintro e w5 ⟨v5, ev5, rfl, b5, a5⟩
      have g5 := hide1 (g4.out.trans (b5.mono g4.out.size))
      have B5 := hide1 (B4.out.trans (b5.mono B4.out.size))
      have l5 := hld'.out w5 g5.out
      have hp5 := put_c q2 (hs'.out 200) (hvf'.out w5 B5.out) (hT.out.below g5.out h81.out) (by have := g5.out.size; have := h81.out; omega)
      replace hp5 : Calls Tryz.prog 20 #[.agg #[z0, z1, z2, z3, z4]] w5 _ := hp5
      clear hp4 b5 l4 g4 B4
      go_wp2_with (first | refine wpList_load_mid rfl 28 (.tmp 3) rfl (w.heap.size + 1) 0 rfl [z0, z1, z2, z3, z4] _ l5 Tryz.underlying28 rfl (by kernel_rfl) ?_ | fail)
      refine hp5.mono ?_
      rintro e w6 ⟨v6, ev6, rfl, b6, a6⟩
      have g6 := hide1 (g5.out.trans (b6.mono g5.out.size))
      have B6 := hide1 (B5.out.trans (b6.mono B5.out.size))
      clear hp5 l5 g5 B5
      have h56 : (v5 = .slice none 0 0 ∧ ∃ E, ev5 = .iface 52 E) ∨ (gd 8 t = true ∧ ev5 = .nilIface ∧ ∃ a n d, v5 = .slice a n d ∧ BsA w6 (.slice a n d) (ct t)) := by
        rcases a5 with ⟨_, rfl, rfl⟩ | ⟨_, _, rfl, rfl⟩ | ⟨h1, _, rfl, ho⟩
        · exact .inl ⟨rfl, _, rfl⟩
        · exact .inl ⟨rfl, _, rfl⟩
        · have hbs := ho.bs.below b6
          obtain ⟨oa, oc, rfl⟩ := ho.slc
          exact .inr ⟨h1, rfl, _, _, _, rfl, hbs⟩
      have h66 : (v6 = .slice none 0 0 ∧ ∃ E, ev6 = .iface 52 E) ∨ (gd 8 t' = true ∧ ev6 = .nilIface ∧ ∃ a n d, v6 = .slice a n d ∧ BsA w6 (.slice a n d) (ct t')) := by
        rcases a6 with ⟨_, rfl, rfl⟩ | ⟨_, _, rfl, rfl⟩ | ⟨h1, _, rfl, ho⟩
        · exact .inl ⟨rfl, _, rfl⟩
        · exact .inl ⟨rfl, _, rfl⟩
        · have hbs := ho.bs
          obtain ⟨oa, oc, rfl⟩ := ho.slc
          exact .inr ⟨h1, rfl, _, _, _, rfl, hbs⟩
      clear a5 a6 b6
      rcases h56 with ⟨rfl, E, rfl⟩ | ⟨h1, rfl, a, n, d, rfl, s1⟩
      · clear h66
        go_wp2
        go_ret
        exact ⟨rfl, B6.out⟩
      rcases h66 with ⟨rfl, E, rfl⟩ | ⟨h2, rfl, a', n', d', rfl, s2⟩
      · clear s1 h1
        by_cases hn : n = 0
        · subst hn
          go_wp2
          go_ret
          exact ⟨rfl, B6.out⟩
        · go_wp2
          go_ret
          exact ⟨rfl, B6.out⟩
      have l1 := hld.out w6 g6.out
      have l2 := hld'.out w6 g6.out
      have heq := equal_d q1 q2 (hs.out 200) (hs'.out 200) (hvf.out w6 B6.out) (hvf'.out w6 B6.out) (hT.out.below g6.out h81.out) (by have := g6.out.size; have := h81.out; omega)
      have hE : (gd 8 t && (gd 8 t' && smB 9 t t')) = decide (ct t = ct t') := by rw [h1, h2, ct_one h1 h2]; rfl
      rw [hE] at heq
      replace heq : Calls Tryz.prog 25 #[.agg #[y0, y1, y2, y3, y4], .agg #[z0, z1, z2, z3, z4]] w6 _ := heq
      have hsm : Hid (∀ w7, Below w6.heap.size w6 w7 → Calls Tryz.prog 22 #[.slice a n d, .slice a' n' d'] w7 fun e w' => e = .returned (.bool (decide (ct t = ct t'))) ∧ w' = w7) := hide1 fun w7 b7 => same_a (s1.below b7) (s2.below b7)
      generalize decide (ct t = ct t') = D at *
      clear s1 s2 h1 h2 hE
      go_wp2_with (first | refine wpList_load_mid rfl 28 (.tmp 2) rfl w.heap.size 0 rfl [y0, y1, y2, y3, y4] _ l1 Tryz.underlying28 rfl (by kernel_rfl) ?_ | refine wpList_load_mid rfl 28 (.tmp 3) rfl (w.heap.size + 1) 0 rfl [z0, z1, z2, z3, z4] _ l2 Tryz.underlying28 rfl (by kernel_rfl) ?_ | fail)
      refine heq.mono ?_
      rintro e w7 ⟨rfl, b7⟩
      have B7 := hide1 (B6.out.trans (b7.mono B6.out.size))
      have hs7 := hsm.out w7 b7
      clear heq l1 l2 b7 hsm
      go_wp2_with fail
      refine hs7.mono ?_
      rintro e w8 ⟨rfl, rfl⟩
      clear hs7
      cases D <;>
      · go_wp2
        go_ret
        exact ⟨rfl, B7.out⟩
end Go.Proofs.YtbemaloaobeblaaGreatDoor

namespace Go.Proofs.YtbemaloaobeblaaGreatDoor
open Go.ChangeShapes Go.WideShapes Go.ChangeAt Go.RowKit

def laidJ : List (String × DataW Unit) := [("math/bits.deBruijn32tab", Rows.laid_math_bits_deBruijn32tab), ("math/bits.deBruijn64tab", Rows.laid_math_bits_deBruijn64tab), ("internal/strconv.uint64pow10", Rows.laid_internal_strconv_uint64pow10), ("unicode/utf8.acceptRanges", Rows.laid_unicode_utf8_acceptRanges), ("strconv.ErrRange", Rows.laid_strconv_ErrRange), ("strconv.ErrSyntax", Rows.laid_strconv_ErrSyntax), ("unicode/utf8.first", Rows.laid_unicode_utf8_first)]
theorem acc_L : (Rows.laid_unicode_utf8_acceptRanges : DataW Unit) = Lib.acceptData := by kernel_rfl
theorem pow_L : (Rows.laid_internal_strconv_uint64pow10 : DataW Unit) = Lib.tabData .u64 Lib.pow10Tab := by kernel_rfl
theorem fst_L : Rows.laid_unicode_utf8_first = Lib.firstData := Pinned.utf8First_eq
theorem err_cell {W : World} {n nm : String} {d : DataW Unit} {g : Nat} {t : TypeId} {ms : Array (String × TypeId)} (hg : Tryz.prog.globalNamed n = some g) (ht : (Tryz.prog.globals[g]?).map (·.type) = some t) (hi : Tryz.prog.underlying t = some (.interface ms))
    (h : Lib.VarReads Tryz.prog W n (.iface nm d)) : ∃ te pe, W.cell? ⟨g, 0, none⟩ = some (.iface te pe) := by
  obtain ⟨g', t', cs, fuel, p, hg', hty, hvar, hd⟩ := h
  obtain rfl := Option.some.inj (hg.symm.trans hg')
  obtain rfl := Option.some.inj (ht.symm.trans hty)
  obtain ⟨f1, u, v, e, hn, h1⟩ := iface_of_trod hi hd
  refine ⟨u, v, ?_⟩
  rw [World.var?_cell hg hvar 0, ← Array.getElem?_toList, e]
  rfl
theorem of_laidJ {W : World} (h : laidMetH Tryz.prog laidJ W) : Ev W ∧ 8 ≤ W.heap.size := by
  rw [MakeChecks.laidMetH_plain _ _ _ (by kernel_rfl)] at h
  have r1 : Lib.VarReads Tryz.prog W "unicode/utf8.first" Lib.firstData := fst_L ▸ Lib.laidMet.reads h (by simp [laidJ])
  have r2 : Lib.VarReads Tryz.prog W "unicode/utf8.acceptRanges" Lib.acceptData := acc_L ▸ Lib.laidMet.reads h (by simp [laidJ])
  have r3 : Lib.VarReads Tryz.prog W "internal/strconv.uint64pow10" (Lib.tabData .u64 Lib.pow10Tab) := pow_L ▸ Lib.laidMet.reads h (by simp [laidJ])
  have r4 : Lib.VarReads Tryz.prog W "strconv.ErrSyntax" Rows.laid_strconv_ErrSyntax := Lib.laidMet.reads h (by simp [laidJ])
  have r5 : Lib.VarReads Tryz.prog W "strconv.ErrRange" Rows.laid_strconv_ErrRange := Lib.laidMet.reads h (by simp [laidJ])
  have r6 : Lib.VarReads Tryz.prog W "math/bits.deBruijn64tab" Rows.laid_math_bits_deBruijn64tab := Lib.laidMet.reads h (by simp [laidJ])
  refine ⟨⟨utf8Tabs_of_reads lays260 ⟨by kernel_rfl, by kernel_rfl, by kernel_rfl, by kernel_rfl, by kernel_rfl, by kernel_rfl, by kernel_rfl⟩ r1 r2, ?_, ?_, ?_⟩, ?_⟩
  · obtain ⟨g, t, cs, fuel, p, hg, hty, hvar, hd⟩ := r3
    have e1 : Tryz.prog.globalNamed "internal/strconv.uint64pow10" = some 3 := by kernel_rfl
    obtain rfl := Option.some.inj (e1.symm.trans hg)
    have e2 : (Tryz.prog.globals[3]?).map (·.type) = some 161 := by kernel_rfl
    obtain rfl := Option.some.inj (e2.symm.trans hty)
    unfold Lib.TabIs
    rw [hvar, ← Lib.cells_of_tab Tryz.underlying161 Tryz.underlying125 (by kernel_rfl) (by kernel_rfl) hd]
  · exact err_cell (by kernel_rfl) (by kernel_rfl) Tryz.underlying30 r4
  · exact err_cell (by kernel_rfl) (by kernel_rfl) Tryz.underlying30 r5
  · obtain ⟨g, t, cs, fuel, p, hg, hty, hvar, hd⟩ := r6
    have e1 : Tryz.prog.globalNamed "math/bits.deBruijn64tab" = some 7 := by kernel_rfl
    obtain rfl := Option.some.inj (e1.symm.trans hg)
    unfold World.var? at hvar
    rw [hg] at hvar
    simp only [Option.bind_some] at hvar
    rcases Nat.lt_or_ge 7 W.heap.size with h' | h'
    · exact h'
    · rw [Array.getElem?_eq_none h'] at hvar; cases hvar
theorem laid_metJ (os : Os) (args : Array Value) : laidMetH Tryz.prog laidJ ((World.laidAll Tryz.prog os laidJ).forCall (fun _ _ => 0) ⟨#[], args, []⟩).memory := by
  rw [MakeChecks.laidMetH_plain _ _ _ (by kernel_rfl)]
  exact laidMet_laidAll _ (by kernel_rfl) (by kernel_rfl)
end Go.Proofs.YtbemaloaobeblaaGreatDoor

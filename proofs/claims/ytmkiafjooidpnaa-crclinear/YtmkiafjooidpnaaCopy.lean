/- Copies with two marks in their spare room, and whether they are kept. -/
import Derived.Test.YtmkiafjooidpnaaRefOf
namespace Go.Proofs.Ytmkiafjooidpnaa
open Go.RowKit

theorem owned_form {w : World} {base : Nat} {v : Value} {n : Nat} {zs : List Int} (h : w.ownsRow base 5 1 v n (byteVals zs)) (hn : 0 < n) :
    ∃ g cap, v = .slice (some ⟨g, 0, none⟩) n cap ∧ base ≤ g ∧ n ≤ cap ∧ cap ≤ maxLen ∧ ∀ j, j < n → w.cell? ⟨g, j, none⟩ = some (.int .u8 (zs.getD j 0)) := by
  have hl : zs.length = n := by have := h.1; simpa [byteVals] using this
  rcases h.2 with ⟨rfl, rfl⟩ | ⟨g, cap, cur, rfl, hb, hg, hnc, hcm, hcs, ht⟩
  · omega
  · refine ⟨g, cap, rfl, hb, hnc, hcm, fun j hj => ?_⟩
    have := h.cellAt j (by omega)
    rw [this]
    simp [byteVals, show j < zs.length by omega]

/-- A copy with its two marks. -/
def Kpt (w : World) (g len cap : Nat) (zs : List Int) : Prop :=
  zs.length = len ∧ (∀ z ∈ zs, 0 ≤ z ∧ z < 256) ∧ len + 2 ≤ cap ∧ cap ≤ maxLen ∧ ∀ j, j < len + 2 → w.cell? ⟨g, j, none⟩ = some (.int .u8 ((zs ++ [165, 90]).getD j 0))

theorem Kpt.later {w w' : World} {g len cap : Nat} {zs : List Int} (h : Kpt w g len cap zs) (hb : Below w.heap.size w w') : Kpt w' g len cap zs :=
  ⟨h.1, h.2.1, h.2.2.1, h.2.2.2.1, fun j hj => cell_later hb (h.2.2.2.2 j hj)⟩

theorem Kpt.bs {w : World} {g len cap : Nat} {zs : List Int} (h : Kpt w g len cap zs) : Bs w (some ⟨g, 0, none⟩) len zs := by
  obtain ⟨h1, h2, _, _, h5⟩ := h
  refine ⟨h1, h2, fun _ => ⟨g, 0, rfl, fun i hi => ?_⟩⟩
  rw [Nat.zero_add, h5 i (by omega)]
  simp [List.getD_eq_getElem?_getD, List.getElem?_append, show i < zs.length by omega]

theorem bs_two (w : World) : Bs (w.alloc (.cells #[.int .u8 165, .int .u8 90] 5)) (some ⟨w.heap.size, 0, none⟩) 2 [165, 90] := bs_new w [165, 90] (0, 0) (by decide)

theorem copy_end {w : World} {base : Nat} {v : Value} {len : Nat} {zs : List Int} (h : w.ownsRow base 5 1 v (0 + len + 2) ([] ++ byteVals zs ++ byteVals [165, 90])) :
    ∃ g cap, v = .slice (some ⟨g, 0, none⟩) (len + 2) cap ∧ len + 2 ≤ cap ∧ cap ≤ maxLen ∧ ∀ j, j < len + 2 → w.cell? ⟨g, j, none⟩ = some (.int .u8 ((zs ++ [165, 90]).getD j 0)) := by
  have e : [] ++ byteVals zs ++ byteVals [165, 90] = byteVals (zs ++ [165, 90]) := by simp [byteVals]
  rw [e, Nat.zero_add] at h
  obtain ⟨g, cap, hv, _, h2, h3, h4⟩ := owned_form h (by omega)
  exact ⟨g, cap, hv, h2, h3, h4⟩

set_option maxHeartbeats 400000 in
theorem copy_any (a : Option Addr) (len cap : Nat) (zs : List Int) (w : World) (hb : Bs w a len zs) (hm : len ≤ 1000000) :
    Calls Try.prog 9 #[.slice a len cap] w fun e w' => ∃ g cap', e = .returned (.slice (some ⟨g, 0, none⟩) len cap') ∧ Kpt w' g len cap' zs ∧ Below w.heap.size w w' := by
  obtain ⟨i0, hi, hz0, hz1, hz2⟩ := info_parts info5
  obtain ⟨w1, hmk, hown0, hg0⟩ := run_make_own (P := Try.prog) w w.heap.size 22 5 i0 (.int .u8 0) 1 Try.underlying22 hi hz0 hz1 .i64 .i64 (len + 2) (by rw [hz2]; omega) (by unfold maxLen; omega) (Nat.le_refl _)
  have ec : ((len + 2 : Nat) : Int) = (len : Int) + 2 := by omega
  rw [ec] at hmk
  have hb1 : Below w.heap.size w w1 := (Below.refl _ _).grown hg0 (Nat.le_refl _) (fun k e => by cases e)
  have hbs1 := hb.later hb1
  clear ec hi hz0 hz1 hz2 hg0
  go_enter Try.func9, Try.ntmps9
  go_wp2_with (first
    | (at_builtin; refine wpList_append_bs rfl (.tmp 6) (.tmp 7) rfl w.heap.size (.slice (some ⟨w.heap.size, 0, none⟩) 0 (len + 2)) 0 [] rfl hown0 a len cap zs rfl hbs1 (by omega) hb1.size ?_; intro v2 w2 hown2 hg2; have hb2 := hb1.grown hg2 hb1.size (fun k e => (hown0.lt k e).1); clear hown0 hg2)
    | (at_builtin; refine wpList_append_bs rfl (.tmp 8) (.tmp 9) rfl w.heap.size v2 (0 + len) ([] ++ byteVals zs) rfl (hown2.alloc _) _ 2 2 [165, 90] rfl (bs_two _) (by omega) (by have := hb2.size; simp; omega) ?_; intro v3 w3 hown3 hg3; have hb3 := below_app hb2 (Nat.le_refl _) hown2 hg3; have hx3 := copy_end hown3; obtain ⟨g, cap3, hv3, hcap3, hm3, hc3⟩ := hx3; clear hown2 hg3 hown3))
  go_ret
  exact ⟨g, cap3, rfl, ⟨hb.1, hb.2.1, hcap3, hm3, hc3⟩, hb3⟩

set_option maxHeartbeats 400000 in
theorem kept_any (g len cap : Nat) (a : Option Addr) (cap' : Nat) (zs : List Int) (w : World) (hk : Kpt w g len cap zs) (hb : Bs w a len zs) :
    Calls Try.prog 13 #[.slice (some ⟨g, 0, none⟩) len cap, .slice a len cap'] w fun e w' => e = .returned (.bool true) ∧ w' = w := by
  have k1 := conv_bs hk.bs cap
  have k2 := conv_bs hb cap'
  obtain ⟨h1, h2, h3, h4, h5⟩ := hk
  unfold maxLen at h4
  have c1 : w.cell? ⟨g, len, none⟩ = some (.int .u8 165) := by
    have := h5 len (by omega)
    simpa [List.getD_eq_getElem?_getD, List.getElem?_append, h1] using this
  have c2 : w.cell? ⟨g, len + 1, none⟩ = some (.int .u8 90) := by
    have := h5 (len + 1) (by omega)
    simpa [List.getD_eq_getElem?_getD, List.getElem?_append, h1] using this
  clear h5
  go_enter Try.func13, Try.ntmps13
  go_wp2
  go_ret
  exact ⟨rfl, rfl⟩

theorem more_sum (x y : List Int) (hx : ∀ z ∈ x, 0 ≤ z ∧ z < 256) : 4294967295 - crcRun (4294967295 - crcSum x) y = crcSum (x ++ y) := by
  have h := crcRun_lt 4294967295 x (by omega) hx
  unfold crcSum
  rw [show 4294967295 - (4294967295 - crcRun 4294967295 x) = crcRun 4294967295 x from by omega, crcRun_append]

theorem crcSum_lt (x : List Int) : crcSum x < 4294967296 := by unfold crcSum; omega

theorem ownsRow_empty (w : World) (base : Nat) (hb : base ≤ w.heap.size) : (w.alloc (.cells #[] 5)).ownsRow base 5 1 (.slice (some ⟨w.heap.size, 0, none⟩) 0 0) 0 [] :=
  World.ownsRow_lit w #[] 0 hb (Nat.zero_le _) rfl

theorem parts_new1 (w : World) {a1 : Option Addr} {l1 c1 : Nat} {z1 : List Int} (k1 : Bs w a1 l1 z1) (m1 : l1 ≤ maxLen) : Parts (w.alloc (.cells #[.slice a1 l1 c1] 22)) (some ⟨w.heap.size, 0, none⟩) 1 [z1] :=
  parts_one (c1 := c1) (by rw [World.cell?_alloc_mark]; rfl) m1 (k1.later (below_one _ _))

theorem parts_new2 (w : World) {a1 a2 : Option Addr} {l1 c1 l2 c2 : Nat} {z1 z2 : List Int} (k1 : Bs w a1 l1 z1) (m1 : l1 ≤ maxLen) (k2 : Bs w a2 l2 z2) (m2 : l2 ≤ maxLen) :
    Parts (w.alloc (.cells #[.slice a1 l1 c1, .slice a2 l2 c2] 22)) (some ⟨w.heap.size, 0, none⟩) 2 [z1, z2] :=
  parts_two (c1 := c1) (c2 := c2) (by rw [World.cell?_alloc_mark]; rfl) m1 (k1.later (below_one _ _)) (by rw [World.cell?_alloc_mark]; rfl) m2 (k2.later (below_one _ _))
end Go.Proofs.Ytmkiafjooidpnaa

/- TRy, TRt: laid together. -/
import Derived.Test.YtdofoampjlebbaaDoorG7
import Derived.Test.YtdofoampjlebbaaDoorG6
namespace Go.Proofs.YtdofoampjlebbaaDoor
open Go.RowKit Go.Maps Sh
set_option linter.unusedVariables false

def TL16 (b off n cap k r11 : Nat) (G : Nat → Nat) : (Nat → Bool) → Nat → Value → World → Prop
  | _, 0, v, _ => v = .nilIface
  | _, 1, v, _ => v = .bool false
  | _, 2, v, _ => v = .bool false
  | _, 3, v, _ => v = .agg (ab 32 G)
  | _, 4, v, _ => v = .slice (some ⟨b, off, none⟩) n cap
  | _, 5, v, _ => v = .int .i64 ((k : Nat) : Int)
  | _, 6, v, _ => v = .pointer (some ⟨b, off + 32 * k, none⟩)
  | _, 7, v, _ => v = .agg (ab 32 G)
  | _, 8, v, _ => v = .bool false
  | _, 9, v, _ => v = .bool false
  | _, _, _, _ => True
def TL16d : Nat → Nat
  | 0 => 67
  | 1 => 68
  | 2 => 69
  | 3 => 70
  | 4 => 71
  | 5 => 72
  | 6 => 73
  | 7 => 74
  | 8 => 75
  | 9 => 76
  | i => 2000 + i
theorem TL16_mono (b off n cap k r11 : Nat) (G : Nat → Nat) {D : Nat → Bool} {ix : Nat} {w w' : World} (_hD : D ix = false) (hb : Below w.heap.size w w') : ∀ (j : Nat) (u : Value), j ≠ ix → TL16 b off n cap k r11 G D j u w → TL16 b off n cap k r11 G (add1 D ix) j u w'
  | 0, _, _, h => h
  | 1, _, _, h => h
  | 2, _, _, h => h
  | 3, _, _, h => h
  | 4, _, _, h => h
  | 5, _, _, h => h
  | 6, _, _, h => h
  | 7, _, _, h => h
  | 8, _, _, h => h
  | 9, _, _, h => h
  | _ + 10, _, _, _ => trivial
def TL30 (n cap r16 tb : Nat) (al : Option Addr) (x z : Int) (R : Nat → Nat) : (Nat → Bool) → Nat → Value → World → Prop
  | _, 0, v, _ => v = .nilIface
  | _, 1, v, _ => v = .bool true
  | _, 2, v, _ => v = .bool true
  | _, 3, v, _ => v = .agg (ab 32 R)
  | _, 4, v, _ => v = .slice al n cap
  | _, 5, v, _ => v = .agg (ab 32 R)
  | _, 6, v, _ => v = .bool true
  | _, 7, v, _ => v = .bool true
  | _, 8, v, _ => v = .bool true
  | _, 9, v, _ => v = .pointer (some ⟨tb, 0, none⟩)
  | _, 10, v, _ => v = .int .i64 x
  | _, 11, v, _ => v = .int .i64 z
  | _, 12, v, w => Sl0 v w
  | _, 13, v, _ => v = .int .i64 ((0 : Nat) : Int)
  | _, 14, v, _ => v = .bool true
  | _, 15, v, _ => v = .bool true
  | _, 16, v, _ => v = .bool true
  | _, _, _, _ => True
def TL30d : Nat → Nat
  | 0 => 107
  | 1 => 108
  | 2 => 109
  | 3 => 110
  | 4 => 111
  | 5 => 112
  | 6 => 113
  | 7 => 114
  | 8 => 115
  | 9 => 116
  | 10 => 117
  | 11 => 118
  | 12 => 119
  | 13 => 120
  | 14 => 121
  | 15 => 122
  | 16 => 6
  | i => 2000 + i
theorem TL30_mono (n cap r16 tb : Nat) (al : Option Addr) (x z : Int) (R : Nat → Nat) {D : Nat → Bool} {ix : Nat} {w w' : World} (_hD : D ix = false) (hb : Below w.heap.size w w') : ∀ (j : Nat) (u : Value), j ≠ ix → TL30 n cap r16 tb al x z R D j u w → TL30 n cap r16 tb al x z R (add1 D ix) j u w'
  | 0, _, _, h => h
  | 1, _, _, h => h
  | 2, _, _, h => h
  | 3, _, _, h => h
  | 4, _, _, h => h
  | 5, _, _, h => h
  | 6, _, _, h => h
  | 7, _, _, h => h
  | 8, _, _, h => h
  | 9, _, _, h => h
  | 10, _, _, h => h
  | 11, _, _, h => h
  | 12, _, _, h => h.later (hb)
  | 13, _, _, h => h
  | 14, _, _, h => h
  | 15, _, _, h => h
  | 16, _, _, h => h
  | _ + 17, _, _, _ => trivial
set_option maxHeartbeats 16000000 in
set_option maxRecDepth 100000 in
theorem leaves_walk {al : Option Addr} {n cap : Nat} {x : Int} {F : Nat → Nat} {L : List (Nat → Nat)} {W0 : World} (hL : L.length = n) (hS : SsAt W0 al L) (hc : n ≤ cap) (hFl : ∀ j, F j < 256) (hg : Gl W0) (hz : Gz W0) : Calls Tryd.prog 5 #[.slice al n cap, .agg (ab 32 F), .int .i64 x] W0 fun e w' => e = .returned (.bool true) ∧ Below W0.heap.size W0 w' := by
  obtain ⟨A, hA⟩ : ∃ A, Hid (A = ab 32 F) := ⟨_, hide1 rfl⟩
  have bxA : ∀ w : World, (Instr.box 27 (.agg A)).run Tryd.prog w = .ok (.pointer (some ⟨w.heap.size, 0, none⟩)) (w.alloc (.cells A 27)) := fun w => bx_agg w
  have hal : Below W0.heap.size W0 (W0.alloc (.cells A 27)) := (Below.refl _ _).alloc (Nat.le_refl _) _
  have hb0 : (W0.alloc (.cells A 27)).heap[W0.heap.size]? = some (.cells A 27 (0, 0)) := (MapKept.heap_alloc W0 _).1
  have hav := alive_t (gl_b hg hal)
  rw [← hA.out]
  by_cases h100 : (100 : Int) < (n : Int)
  · go_enter Tryd.func5, Tryd.ntmps5
    go_wp2_with fail
    refine hav.mono ?_
    rintro e w1 ⟨rfl, hb1⟩
    go_wp2
    go_ret
    exact ⟨rfl, blw hal hb1⟩
  have hn100 : n ≤ 100 := by omega
  have iA : (Tryd.prog.info? 27).map (·.size) = some A.size := by rw [hA.out]; exact sum_sz F
  go_enter Tryd.func5, Tryd.ntmps5
  go_wp2_with fail
  refine hav.mono ?_
  rintro e w1 ⟨rfl, hb1a⟩
  have hb1 := blw hal hb1a
  have hbb1 := (hb1a.block _ (Array.getElem?_eq_some_iff.1 hb0).1).trans hb0
  obtain ⟨b4, hb4e⟩ : ∃ b4, Hid (b4 = W0.heap.size) := ⟨_, hide1 rfl⟩
  rw [← hb4e.out] at hbb1 ⊢
  have hgr := grown_d (cap := cap) (gl_b hg hb1) hL (by omega) (hS.later hb1)
  have hlo : W0.heap.size ≤ w1.heap.size := hb1.size
  obtain ⟨lo, hlo1⟩ : ∃ lo, Hid (lo = w1.heap.size) := ⟨_, hide1 rfl⟩
  rw [← hlo1.out] at hgr hlo
  clear hav hal hb0 bxA hb1a
  go_wp2_with fail
  refine hgr.mono ?_
  rintro e w2 ⟨rfl, hT2, hb2⟩
  have hb02 : Below W0.heap.size W0 w2 := hb1.trans (hb2.mono hlo)
  have hbb2 := (hb2.block b4 (by rw [hlo1.out]; exact (Array.getElem?_eq_some_iff.1 hbb1).1)).trans hbb1
  clear hgr hbb1
  have hfi := find_d hT2 hFl
  rw [← hA.out] at hfi
  go_wp2_with (refine wpList_load_row rfl 27 (.tmp 4) rfl b4 A 27 rfl Tryd.underlying27 iA hbb2 ?_)
  refine hfi.mono ?_
  rintro e w3 ⟨rfl, hb3⟩
  have hbb3 := (hb3.block _ (Array.getElem?_eq_some_iff.1 hbb2).1).trans hbb2
  have hrf := rfind_d (cap := cap) (F := F) (hS.later (blw hb02 hb3)) hL (by omega)
  rw [← hA.out] at hrf
  generalize fstI L F = r at hrf ⊢
  go_wp2_with (refine wpList_load_row rfl 27 (.tmp 4) rfl b4 A 27 rfl Tryd.underlying27 iA hbb3 ?_)
  refine hrf.mono ?_
  rintro e w4 ⟨rfl, hb4⟩
  have h24 := blw hb3 hb4
  clear hfi hrf hbb2 hbb3 hb3 hb4
  go_upto_region 10 with fail
  go_cut [44] from 8 (fun s w => s = .bool false ∧ w = w4)
  case first =>
    cases r with
    | none =>
      have hmx : max (-1 : Int) 0 = 0 := by decide
      go_wp2
      go_meet
      case rel => exact ⟨rfl, rfl⟩
    | some i =>
      have hmx : max ((i : Nat) : Int) 0 = ((i : Nat) : Int) := by omega
      have hi0 : (0 : Int) ≤ ((i : Nat) : Int) := by omega
      go_wp2
      go_meet
      case rel => exact ⟨rfl, rfl⟩
  case rest =>
    obtain ⟨hs44, rfl⟩ := hcut
    subst hs44
    obtain ⟨w4, hw4⟩ : ∃ w4, w4 = wc := ⟨_, rfl⟩
    subst hw4
    obtain ⟨G, E, hGE, hlf⟩ := leaf_ans (L := L) x
    have hlf4 := hlf w4 lo (lo + 1) (hT2.later h24)
    clear hlf
    have is2 := fun w => is_e 2 (by decide) w
    go_wp2_with fail
    refine hlf4.mono ?_
    rintro e w5 ⟨rfl, hb5⟩
    obtain ⟨p1, p2, p3⟩ := sum_put (w0 := W0) G (blw (blw hb02 h24) hb5)
    obtain ⟨hal5, hz5⟩ := sum_new w5
    have h26 := blw (blw h24 hb5) p3
    go_upto_region 13 with (first
      | (refine wpList_alS rfl rfl ?_)
      | (refine wpList_store_row rfl 27 (.tmp 11) (.tmp 49) rfl w5.heap.size (ab 32 G) (ab 32 fun _ => 0) 27 rfl rfl (sum_sz G) hz5 (by rw [ab_size, ab_size]) (ab_one _ _) rfl ?_))
    clear hal5 hz5 hlf4
    generalize (w5.alloc (.cells (ab 32 fun _ => 0) 27)).setRow w5.heap.size (ab 32 G) = w6 at p1 p2 p3 h26 ⊢
    obtain ⟨r11, hr11⟩ : ∃ r11, Hid (r11 = w5.heap.size) := ⟨_, hide1 rfl⟩
    rw [← hr11.out] at p2 ⊢
    clear p3 hb5
    go_cut [11, 12, 58] from 8 (fun s11 s12 s58 w => s11 = .pointer (some ⟨r11, 0, none⟩) ∧ s12 = E ∧ s58 = .bool (decide (x < 0 ∨ (n : Int) ≤ x)) ∧ w = w6)
    case first =>
      by_cases hx0 : x < 0
      · go_wp2
        go_meet
        case rel => exact ⟨rfl, rfl, by rw [decide_eq_true (.inl hx0)], rfl⟩
      · by_cases hxn : (n : Int) ≤ x
        · go_wp2
          go_meet
          case rel => exact ⟨rfl, rfl, by rw [decide_eq_true (.inr hxn)], rfl⟩
        · go_wp2
          go_meet
          case rel => exact ⟨rfl, rfl, by rw [decide_eq_false (by omega)], rfl⟩
    case rest =>
      obtain ⟨rfl, rfl, hs58, rfl⟩ := hcut
      obtain ⟨w6, hw6⟩ : ∃ w6, w6 = wc := ⟨_, rfl⟩
      subst hw6
      go_upto_if 58 with fail
      go_cut [] from 8 (fun w => Below w6.heap.size w6 w)
      case first =>
        rcases hGE with ⟨hx0, hxn, rfl, hG⟩ | ⟨hxx, rfl, hG⟩
        · obtain ⟨k, rfl⟩ : ∃ k : Nat, x = (k : Int) := ⟨x.toNat, by omega⟩
          rw [Int.toNat_natCast] at hG
          rw [hL] at hxn
          have hkn : k < n := by omega
          rw [decide_eq_false (by omega)] at hs58
          subst hs58
          obtain ⟨b, off, rfl, -⟩ := hS.2 (by omega)
          have hl11 := fun w' (h : Below w6.heap.size w6 w') => ldS 27 w' r11 ((h.block _ (Array.getElem?_eq_some_iff.1 p2).1).trans p2)
          have hlL := fun w' (h : Below w6.heap.size w6 w') => ld_st (hS.later (blw p1 h)) rfl (i := k) (by omega)
          rw [← hG] at hlL
          clear hG is2
          go_upto_region 16 with fail
          refine wp_rel3 _ _ (TL16 b off n cap k r11 G) (fun _ w => Below w6.heap.size w6 w) TL16d (by kernel_rfl) (by kernel_rfl) 10 (by kernel_rfl) ?_ ?_ rfl ((Below.refl _ _).drew) ?_ ?_
          · intro ix o ho
            match ix, ho with
            | 0, ho => obtain rfl := Option.some.inj ho; exact .inl ⟨rfl, by show 67 < 123; decide⟩
            | 1, ho => obtain rfl := Option.some.inj ho; exact .inl ⟨rfl, by show 68 < 123; decide⟩
            | 2, ho => obtain rfl := Option.some.inj ho; exact .inl ⟨rfl, by show 69 < 123; decide⟩
            | 3, ho => obtain rfl := Option.some.inj ho; exact .inl ⟨rfl, by show 70 < 123; decide⟩
            | 4, ho => obtain rfl := Option.some.inj ho; exact .inl ⟨rfl, by show 71 < 123; decide⟩
            | 5, ho => obtain rfl := Option.some.inj ho; exact .inl ⟨rfl, by show 72 < 123; decide⟩
            | 6, ho => obtain rfl := Option.some.inj ho; exact .inl ⟨rfl, by show 73 < 123; decide⟩
            | 7, ho => obtain rfl := Option.some.inj ho; exact .inl ⟨rfl, by show 74 < 123; decide⟩
            | 8, ho => obtain rfl := Option.some.inj ho; exact .inl ⟨rfl, by show 75 < 123; decide⟩
            | 9, ho => obtain rfl := Option.some.inj ho; exact .inl ⟨rfl, by show 76 < 123; decide⟩
            | _ + 10, ho => exact absurd ho (by simp)
          · intro ix jx hi hj e; unfold TL16d at e; split at e <;> split at e <;> omega
          · intro ix o ho
            match ix, ho with
            | 0, ho =>
              obtain rfl := Option.some.inj ho
              intro D a w hM hsl hdep hDi hcl K hK
              have hp12 : a.tmps.getD 12 undef = .nilIface := hsl 12 (by intro j hj; unfold TL16d; split <;> omega)
              refine ⟨rfl, ?_⟩
              refine wp_val (w' := w) (v := .nilIface) (by simp only [execOp, Act.eval]; rw [show a.tmps.getD 12 undef = _ from hp12]; rfl) ?_
              exact hK _ _ rfl hM (TL16_mono b off n cap k r11 G hDi ((Below.refl _ _)))
            | 1, ho =>
              obtain rfl := Option.some.inj ho
              intro D a w hM hsl hdep hDi hcl K hK
              have e0 := (hdep ⟨0, .data⟩ (by simp) rfl).1
              refine ⟨rfl, ?_⟩
              have hl := neqn (x := .tmp 67) w
              refine wp_val (w' := w) (v := .bool false) (by simp only [execOp, Act.eval]; rw [show a.tmps.getD 67 undef = _ from e0]; simp only [Sem.run_bind, hl, Result.andThen_ok, Sem.run_pure]) ?_
              exact hK _ _ rfl hM (TL16_mono b off n cap k r11 G hDi ((Below.refl _ _)))
            | 2, ho =>
              obtain rfl := Option.some.inj ho
              intro D a w hM hsl hdep hDi hcl K hK
              have e1 := (hdep ⟨1, .data⟩ (by simp) rfl).1
              refine ⟨rfl, ?_⟩
              refine wp_val (w' := w) (v := .bool false) (by simp only [execOp, Act.eval]; rw [show a.tmps.getD 68 undef = _ from e1]; rfl) ?_
              exact hK _ _ rfl hM (TL16_mono b off n cap k r11 G hDi ((Below.refl _ _)))
            | 3, ho =>
              obtain rfl := Option.some.inj ho
              intro D a w hM hsl hdep hDi hcl K hK
              have hgu := (hdep ⟨2, .guard⟩ (by simp) rfl).1
              have hp11 : a.tmps.getD 11 undef = .pointer (some ⟨r11, 0, none⟩) := hsl 11 (by intro j hj; unfold TL16d; split <;> omega)
              refine ⟨wnf (j := 2) (d := 69) rfl rfl hgu, ?_⟩
              have hl := hl11 w hM
              refine wp_val (w' := w) (v := .agg (ab 32 G)) (by simp only [execOp, Act.eval]; rw [show a.tmps.getD 11 undef = _ from hp11]; simp only [Sem.run_bind, hl, Result.andThen_ok, Sem.run_pure]) ?_
              exact hK _ _ rfl hM (TL16_mono b off n cap k r11 G hDi ((Below.refl _ _)))
            | 4, ho =>
              obtain rfl := Option.some.inj ho
              intro D a w hM hsl hdep hDi hcl K hK
              have hgu := (hdep ⟨2, .guard⟩ (by simp) rfl).1
              have hp0 : a.tmps.getD 0 undef = .slice (some ⟨b, off, none⟩) n cap := hsl 0 (by intro j hj; unfold TL16d; split <;> omega)
              refine ⟨wnf (j := 2) (d := 69) rfl rfl hgu, ?_⟩
              refine wp_val (w' := w) (v := .slice (some ⟨b, off, none⟩) n cap) (by simp only [execOp, Act.eval]; rw [show a.tmps.getD 0 undef = _ from hp0]; rfl) ?_
              exact hK _ _ rfl hM (TL16_mono b off n cap k r11 G hDi ((Below.refl _ _)))
            | 5, ho =>
              obtain rfl := Option.some.inj ho
              intro D a w hM hsl hdep hDi hcl K hK
              have hgu := (hdep ⟨2, .guard⟩ (by simp) rfl).1
              have hp2 : a.tmps.getD 2 undef = .int .i64 ((k : Nat) : Int) := hsl 2 (by intro j hj; unfold TL16d; split <;> omega)
              refine ⟨wnf (j := 2) (d := 69) rfl rfl hgu, ?_⟩
              refine wp_val (w' := w) (v := .int .i64 ((k : Nat) : Int)) (by simp only [execOp, Act.eval]; rw [show a.tmps.getD 2 undef = _ from hp2]; rfl) ?_
              exact hK _ _ rfl hM (TL16_mono b off n cap k r11 G hDi ((Below.refl _ _)))
            | 6, ho =>
              obtain rfl := Option.some.inj ho
              intro D a w hM hsl hdep hDi hcl K hK
              have hgu := (hdep ⟨2, .guard⟩ (by simp) rfl).1
              have e4 := (hdep ⟨4, .data⟩ (by simp) rfl).1
              have e5 := (hdep ⟨5, .data⟩ (by simp) rfl).1
              refine ⟨wnf (j := 2) (d := 69) rfl rfl hgu, ?_⟩
              have hl := ix_ss (b := b) (off := off) (n := n) (cap := cap) (i := k) hkn w
              refine wp_val (w' := w) (v := .pointer (some ⟨b, off + 32 * k, none⟩)) (by simp only [execOp, Act.eval]; rw [show a.tmps.getD 71 undef = _ from e4, show a.tmps.getD 72 undef = _ from e5]; simp only [Sem.run_bind, hl, Result.andThen_ok, Sem.run_pure]) ?_
              exact hK _ _ rfl hM (TL16_mono b off n cap k r11 G hDi ((Below.refl _ _)))
            | 7, ho =>
              obtain rfl := Option.some.inj ho
              intro D a w hM hsl hdep hDi hcl K hK
              have hgu := (hdep ⟨2, .guard⟩ (by simp) rfl).1
              have e6 := (hdep ⟨6, .data⟩ (by simp) rfl).1
              refine ⟨wnf (j := 2) (d := 69) rfl rfl hgu, ?_⟩
              have hl := hlL w hM
              refine wp_val (w' := w) (v := .agg (ab 32 G)) (by simp only [execOp, Act.eval]; rw [show a.tmps.getD 73 undef = _ from e6]; simp only [Sem.run_bind, hl, Result.andThen_ok, Sem.run_pure]) ?_
              exact hK _ _ rfl hM (TL16_mono b off n cap k r11 G hDi ((Below.refl _ _)))
            | 8, ho =>
              obtain rfl := Option.some.inj ho
              intro D a w hM hsl hdep hDi hcl K hK
              have hgu := (hdep ⟨2, .guard⟩ (by simp) rfl).1
              have e3 := (hdep ⟨3, .data⟩ (by simp) rfl).1
              have e7 := (hdep ⟨7, .data⟩ (by simp) rfl).1
              refine ⟨wnf (j := 2) (d := 69) rfl rfl hgu, ?_⟩
              have hl := neS_f (x := .tmp 70) (u := .tmp 74) (F := G) (G := G) (eqD_iff.2 fun _ _ => rfl) w
              refine wp_val (w' := w) (v := .bool false) (by simp only [execOp, Act.eval]; rw [show a.tmps.getD 70 undef = _ from e3, show a.tmps.getD 74 undef = _ from e7]; simp only [Sem.run_bind, hl, Result.andThen_ok, Sem.run_pure]) ?_
              exact hK _ _ rfl hM (TL16_mono b off n cap k r11 G hDi ((Below.refl _ _)))
            | 9, ho =>
              obtain rfl := Option.some.inj ho
              intro D a w hM hsl hdep hDi hcl K hK
              have e2 := (hdep ⟨2, .data⟩ (by simp) rfl).1
              have e8 := (hdep ⟨8, .data⟩ (by simp) rfl).1
              refine ⟨rfl, ?_⟩
              refine wp_val (w' := w) (v := .bool false) (by simp only [execOp, Act.eval]; rw [show a.tmps.getD 69 undef = _ from e2, show a.tmps.getD 75 undef = _ from e8]; rfl) ?_
              exact hK _ _ rfl hM (TL16_mono b off n cap k r11 G hDi ((Below.refl _ _)))
            | _ + 10, ho => exact absurd ho (by simp)
          · intro D a u hall hd hs hM hsl hr
            obtain ⟨tm, df⟩ := a
            obtain rfl : df = [] := hd
            replace hs : tm.size = 123 := hs
            have t0 : tm.getD 0 undef = .slice (some ⟨b, off, none⟩) n cap := hsl 0 (by intro j hj; unfold TL16d; split <;> omega)
            have t1 : tm.getD 1 undef = .agg A := hsl 1 (by intro j hj; unfold TL16d; split <;> omega)
            have t2 : tm.getD 2 undef = .int .i64 ((k : Nat) : Int) := hsl 2 (by intro j hj; unfold TL16d; split <;> omega)
            have t3 : tm.getD 3 undef = undef := hsl 3 (by intro j hj; unfold TL16d; split <;> omega)
            have t4 : tm.getD 4 undef = .pointer (some ⟨b4, 0, none⟩) := hsl 4 (by intro j hj; unfold TL16d; split <;> omega)
            have t5 : tm.getD 5 undef = undef := hsl 5 (by intro j hj; unfold TL16d; split <;> omega)
            have t6 : tm.getD 6 undef = .bool false := hsl 6 (by intro j hj; unfold TL16d; split <;> omega)
            have t7 : tm.getD 7 undef = .pointer (some ⟨lo + 1, 0, none⟩) := hsl 7 (by intro j hj; unfold TL16d; split <;> omega)
            have t76 : tm.getD 76 undef = .bool false := hr 9 (by decide)
            have htm := tm_all tm (n := 123) hs
            obtain ⟨xx, hxx⟩ : ∃ x : Nat → Value, ∀ i, x i = tm.getD i undef := ⟨_, fun _ => rfl⟩
            replace htm : tm = ((.slice (some ⟨b, off, none⟩) n cap) :: (.agg A) :: (.int .i64 ((k : Nat) : Int)) :: undef :: (.pointer (some ⟨b4, 0, none⟩)) :: undef :: (.bool false) :: (.pointer (some ⟨lo + 1, 0, none⟩)) :: (xx 8) :: (xx 9) :: (xx 10) :: (xx 11) :: (xx 12) :: (xx 13) :: (xx 14) :: (xx 15) :: (xx 16) :: (xx 17) :: (xx 18) :: (xx 19) :: (xx 20) :: (xx 21) :: (xx 22) :: (xx 23) :: (xx 24) :: (xx 25) :: (xx 26) :: (xx 27) :: (xx 28) :: (xx 29) :: (xx 30) :: (xx 31) :: (xx 32) :: (xx 33) :: (xx 34) :: (xx 35) :: (xx 36) :: (xx 37) :: (xx 38) :: (xx 39) :: (xx 40) :: (xx 41) :: (xx 42) :: (xx 43) :: (xx 44) :: (xx 45) :: (xx 46) :: (xx 47) :: (xx 48) :: (xx 49) :: (xx 50) :: (xx 51) :: (xx 52) :: (xx 53) :: (xx 54) :: (xx 55) :: (xx 56) :: (xx 57) :: (xx 58) :: (xx 59) :: (xx 60) :: (xx 61) :: (xx 62) :: (xx 63) :: (xx 64) :: (xx 65) :: (xx 66) :: (xx 67) :: (xx 68) :: (xx 69) :: (xx 70) :: (xx 71) :: (xx 72) :: (xx 73) :: (xx 74) :: (xx 75) :: (.bool false) :: (xx 77) :: (xx 78) :: (xx 79) :: (xx 80) :: (xx 81) :: (xx 82) :: (xx 83) :: (xx 84) :: (xx 85) :: (xx 86) :: (xx 87) :: (xx 88) :: (xx 89) :: (xx 90) :: (xx 91) :: (xx 92) :: (xx 93) :: (xx 94) :: (xx 95) :: (xx 96) :: (xx 97) :: (xx 98) :: (xx 99) :: (xx 100) :: (xx 101) :: (xx 102) :: (xx 103) :: (xx 104) :: (xx 105) :: (xx 106) :: (xx 107) :: (xx 108) :: (xx 109) :: (xx 110) :: (xx 111) :: (xx 112) :: (xx 113) :: (xx 114) :: (xx 115) :: (xx 116) :: (xx 117) :: (xx 118) :: (xx 119) :: (xx 120) :: (xx 121) :: (xx 122) :: []).toArray := by
              refine htm.trans ?_
              show ((tm.getD 0 undef) :: (tm.getD 1 undef) :: (tm.getD 2 undef) :: (tm.getD 3 undef) :: (tm.getD 4 undef) :: (tm.getD 5 undef) :: (tm.getD 6 undef) :: (tm.getD 7 undef) :: (tm.getD 8 undef) :: (tm.getD 9 undef) :: (tm.getD 10 undef) :: (tm.getD 11 undef) :: (tm.getD 12 undef) :: (tm.getD 13 undef) :: (tm.getD 14 undef) :: (tm.getD 15 undef) :: (tm.getD 16 undef) :: (tm.getD 17 undef) :: (tm.getD 18 undef) :: (tm.getD 19 undef) :: (tm.getD 20 undef) :: (tm.getD 21 undef) :: (tm.getD 22 undef) :: (tm.getD 23 undef) :: (tm.getD 24 undef) :: (tm.getD 25 undef) :: (tm.getD 26 undef) :: (tm.getD 27 undef) :: (tm.getD 28 undef) :: (tm.getD 29 undef) :: (tm.getD 30 undef) :: (tm.getD 31 undef) :: (tm.getD 32 undef) :: (tm.getD 33 undef) :: (tm.getD 34 undef) :: (tm.getD 35 undef) :: (tm.getD 36 undef) :: (tm.getD 37 undef) :: (tm.getD 38 undef) :: (tm.getD 39 undef) :: (tm.getD 40 undef) :: (tm.getD 41 undef) :: (tm.getD 42 undef) :: (tm.getD 43 undef) :: (tm.getD 44 undef) :: (tm.getD 45 undef) :: (tm.getD 46 undef) :: (tm.getD 47 undef) :: (tm.getD 48 undef) :: (tm.getD 49 undef) :: (tm.getD 50 undef) :: (tm.getD 51 undef) :: (tm.getD 52 undef) :: (tm.getD 53 undef) :: (tm.getD 54 undef) :: (tm.getD 55 undef) :: (tm.getD 56 undef) :: (tm.getD 57 undef) :: (tm.getD 58 undef) :: (tm.getD 59 undef) :: (tm.getD 60 undef) :: (tm.getD 61 undef) :: (tm.getD 62 undef) :: (tm.getD 63 undef) :: (tm.getD 64 undef) :: (tm.getD 65 undef) :: (tm.getD 66 undef) :: (tm.getD 67 undef) :: (tm.getD 68 undef) :: (tm.getD 69 undef) :: (tm.getD 70 undef) :: (tm.getD 71 undef) :: (tm.getD 72 undef) :: (tm.getD 73 undef) :: (tm.getD 74 undef) :: (tm.getD 75 undef) :: (tm.getD 76 undef) :: (tm.getD 77 undef) :: (tm.getD 78 undef) :: (tm.getD 79 undef) :: (tm.getD 80 undef) :: (tm.getD 81 undef) :: (tm.getD 82 undef) :: (tm.getD 83 undef) :: (tm.getD 84 undef) :: (tm.getD 85 undef) :: (tm.getD 86 undef) :: (tm.getD 87 undef) :: (tm.getD 88 undef) :: (tm.getD 89 undef) :: (tm.getD 90 undef) :: (tm.getD 91 undef) :: (tm.getD 92 undef) :: (tm.getD 93 undef) :: (tm.getD 94 undef) :: (tm.getD 95 undef) :: (tm.getD 96 undef) :: (tm.getD 97 undef) :: (tm.getD 98 undef) :: (tm.getD 99 undef) :: (tm.getD 100 undef) :: (tm.getD 101 undef) :: (tm.getD 102 undef) :: (tm.getD 103 undef) :: (tm.getD 104 undef) :: (tm.getD 105 undef) :: (tm.getD 106 undef) :: (tm.getD 107 undef) :: (tm.getD 108 undef) :: (tm.getD 109 undef) :: (tm.getD 110 undef) :: (tm.getD 111 undef) :: (tm.getD 112 undef) :: (tm.getD 113 undef) :: (tm.getD 114 undef) :: (tm.getD 115 undef) :: (tm.getD 116 undef) :: (tm.getD 117 undef) :: (tm.getD 118 undef) :: (tm.getD 119 undef) :: (tm.getD 120 undef) :: (tm.getD 121 undef) :: (tm.getD 122 undef) :: []).toArray = _
              rw [t0, t1, t2, t3, t4, t5, t6, t7, t76]
              simp only [hxx]
            subst htm
            clear hxx hs hsl hr
            clear t0 t1 t2 t3 t4 t5 t6 t7 t76 hall hl11 hlL
            refine (‹∀ (a : Act) (w : World), Code.wp Tryd.prog _ _ a w → _›) _ u ?_
            go_wp2
            go_meet
            case rel => exact hM
        · rw [hL] at hxx
          rw [decide_eq_true (by omega)] at hs58
          subst hs58
          have hl11 := ldS 27 w6 r11 p2
          obtain ⟨Z, hZ⟩ : ∃ Z : Nat → Nat, Hid (Z = fun _ => 0) := ⟨_, hide1 rfl⟩
          rw [← hZ.out] at hG
          subst hG
          have hne : (!eqD G G) = false := by rw [eqD_iff.2 fun _ _ => rfl]; rfl
          go_wp2_with fail
          refine (is2 w6).mono ?_
          rintro e w6 ⟨rfl, rfl⟩
          go_wp2_with (first
            | (refine wpList_ld rfl 27 (.tmp 11) rfl _ rfl hl11 ?_)
            | (refine wpList_bzG hZ.out rfl rfl ?_)
            | (refine wpList_neG' rfl (.tmp 63) (.tmp 64) rfl (F := G) (G := G) rfl rfl hne ?_))
          go_meet
          case rel => exact Below.refl _ _
      case rest =>
        have hbc := hcut
        have h2c := blw h26 hbc
        clear is2 p1 p2 h26 hcut h24
        obtain ⟨Z, hZ⟩ : ∃ Z : Nat → Nat, Hid (Z = d3) := ⟨_, hide1 rfl⟩
        go_wp2_with fail
        go_loopw [13] (fun v wr => ∃ m : Nat, v = .int .i64 ((m : Int) - 1) ∧ m ≤ 10 ∧ Below w2.heap.size w2 wr) (fun v _ => 10 - (intOf v + 1).toNat)
        case atStart => exact ⟨0, rfl, by omega, h2c⟩
        case round =>
          obtain ⟨m, rfl, hm, hbm⟩ := hrel
          obtain ⟨wo, hwo⟩ : ∃ wo, wo = wr := ⟨_, rfl⟩
          subst hwo
          have hTm := hT2.later hbm
          have hb0m := hb02.trans (hbm.mono hb02.size)
          by_cases hm9 : m < 10
          · have hm9' : (m : Int) - 1 < 9 := by omega
            have hlv := lvl_d hTm (by omega) ((m : Int) - 1)
            have hrl := fun w' (h : Below W0.heap.size W0 w') => rlevel_z (hS.later h) hL (by omega) hc (k := (m : Int) - 1) (by omega)
            have hlt := lvlZ_lt hTm ((m : Int) - 1)
            have hle := lvlZ_le L ((m : Int) - 1)
            obtain ⟨X, hX⟩ : ∃ X, Hid (X = lvlZ L ((m : Int) - 1)) := ⟨_, hide1 rfl⟩
            rw [← hX.out] at hlv hrl hlt hle
            have hXl : X.length ≤ 1000 := by omega
            obtain ⟨N, hN⟩ : ∃ N, Hid (N = X.length) := ⟨_, hide1 rfl⟩
            rw [← hN.out] at hlv hrl hXl
            clear hle
            have hmb : m ≤ 10 := hm
            go_wp2_with fail
            refine hlv.mono ?_
            rintro e w7 ⟨r7, rfl, ho7, hb7⟩
            obtain ⟨a7, c7, rfl, hs7, hc7⟩ := ss_own hlt hN.out.symm ho7.1
            go_wp2_with fail
            refine (hrl w7 (blw hb0m hb7)).mono ?_
            rintro e w8 ⟨r8, rfl, ho8, hb8⟩
            obtain ⟨a8, c8, rfl, hs8, hc8⟩ := ss_own hlt hN.out.symm ho8.1
            have hsu := sums_d (cap := c7) (cap2 := c8) (W0 := w8) (hs7.later hb8) hs8 hN.out.symm hN.out.symm (by omega)
            rw [eqLs_refl] at hsu
            clear hlv hrl
            go_wp2_with fail
            refine hsu.mono ?_
            rintro e w9 ⟨rfl, hb9⟩
            have ho79 := (ho7.later hb8).later hb9
            have hb29 : Below w2.heap.size w2 w9 := hbm.trans ((blw (blw hb7 hb8) hb9).mono hbm.size)
            have hth7 := own_th ho79.1
            have hw7 : ∀ g, (Value.slice a7 N c7).ownBlock = some g → w2.heap.size ≤ g := fun g e => Nat.le_trans hbm.size (own_lt ho79.1 e).1
            clear hsu hs7 hs8 ho8 ho7
            go_wp2_with fail
            go_loopw [92] (fun v wr => ∃ k : Nat, v = .int .i64 ((k : Nat) : Int) ∧ k ≤ N ∧ Th N (.slice a7 N c7) wr ∧ w9.grownBy wr (Value.slice a7 N c7).ownBlock) (fun v _ => N - (intOf v).toNat)
            case atStart => exact ⟨0, rfl, by omega, hth7, grown_of (Below.refl _ _)⟩
            case round =>
              obtain ⟨k, rfl, hk, hth, hgr⟩ := hrel
              by_cases hltk : k < N
              · have hlt' : (k : Int) < (N : Int) := by omega
                obtain ⟨g, cg, eg, -⟩ := own_ptr ho79.1 (by omega)
                cases eg
                have hix := ix_ss (b := g) (off := 0) (cap := c7) hltk wr
                obtain ⟨q, hq⟩ : ∃ q, Hid (q = 0 + 32 * k) := ⟨_, hide1 rfl⟩
                rw [← hq.out] at hix
                go_wp2_with (first
                  | (refine wpList_b3 hZ.out rfl rfl ?_)
                  | (refine wpList_ixs rfl (.tmp 95) (.tmp 96) rfl rfl rfl hix ?_)
                  | (refine wpList_zr rfl (.tmp 98) (.tmp 97) rfl hth hltk (by rw [← hq.out]; rfl) rfl hgr ?_; intro wx hth' hgr'))
                go_roundw
                case rel => exact ⟨k + 1, rfl, by omega, hth', hgr'⟩
                case measure => simp [intOf]; omega
              · have hlt' : ¬ (k : Int) < (N : Int) := by omega
                have hb2r : Below w2.heap.size w2 wr := hb29.grown hgr hb29.size (fun g e => hw7 g e)
                clear hth hgr hth7
                go_wp2
                go_roundw
                case rel => exact ⟨m + 1, by simp, by omega, hb2r⟩
                case measure => simp [intOf]; omega
          · have hm9' : ¬ (m : Int) - 1 < 9 := by omega
            have hrt := root_in hTm (gl_b hg hb0m) (gz_b hz hb0m) (by omega) (n := n) (by omega)
            rw [List.take_of_length_le (by omega)] at hrt
            have hRR := fun w' (h : Below W0.heap.size W0 w') => root_r n L al cap w' hL (by omega) (hS.later h) hc
            obtain ⟨R, hR⟩ : ∃ R, Hid (R = root L) := ⟨_, hide1 rfl⟩
            rw [← hR.out] at hrt hRR
            obtain ⟨z, hzz⟩ : ∃ z, Hid (z = bits .or .i64 x 64) := ⟨_, hide1 rfl⟩
            have hor := fun w => or64 (x := .tmp 117) (u := .const (.int .i64 64)) x w
            rw [← hzz.out] at hor
            have hz64 : z < 0 ∨ 64 ≤ z := by rw [hzz.out]; exact or64_z x
            have h21 := lvs_le (n := L.length) (by omega)
            go_wp2_with fail
            refine hrt.mono ?_
            rintro e wa ⟨rfl, hba⟩
            obtain ⟨s1, s2, s3⟩ := sum_put (w0 := W0) R (blw hb0m hba)
            obtain ⟨hala, hza⟩ := sum_new wa
            have hTb := hTm.later (blw hba s3)
            go_upto_region 30 with (first
              | (refine wpList_alS rfl rfl ?_)
              | (refine wpList_store_row rfl 27 (.tmp 16) (.tmp 105) rfl wa.heap.size (ab 32 R) (ab 32 fun _ => 0) 27 rfl rfl (sum_sz R) hza (by rw [ab_size, ab_size]) (ab_one _ _) rfl ?_))
            clear hala hza
            generalize (wa.alloc (.cells (ab 32 fun _ => 0) 27)).setRow wa.heap.size (ab 32 R) = wb at s1 s2 s3 hTb ⊢
            obtain ⟨r16, hr16⟩ : ∃ r16, Hid (r16 = wa.heap.size) := ⟨_, hide1 rfl⟩
            rw [← hr16.out] at s2 ⊢
            have hl16 := fun w' (h : Below wb.heap.size wb w') => ldS 27 w' r16 ((h.block _ (Array.getElem?_eq_some_iff.1 s2).1).trans s2)
            have hR2 := fun w' (h : Below wb.heap.size wb w') => hRR w' (blw s1 h)
            have hLv := fun w' (h : Below wb.heap.size wb w') => (lvl_o (hTb.later h) (k := z) (by omega)).mono fun _ w'' (q : ∃ r, _ = Ending.returned r ∧ OwnS _ 0 [] r w'' ∧ Below _ _ w'') => (show ∃ r, _ = Ending.returned r ∧ (Sl0 r w'' ∧ Below w'.heap.size w' w'') from by
              obtain ⟨r, e1, o1, b1⟩ := q
              exact ⟨r, e1, own_sl o1.1, b1⟩)
            refine wp_rel3 _ _ (TL30 n cap r16 (lo + 1) al x z R) (fun _ w => Below wb.heap.size wb w) TL30d (by kernel_rfl) (by kernel_rfl) 17 (by kernel_rfl) ?_ ?_ rfl ((Below.refl _ _).drew) ?_ ?_
            · intro ix o ho
              match ix, ho with
              | 0, ho => obtain rfl := Option.some.inj ho; exact .inl ⟨rfl, by show 107 < 123; decide⟩
              | 1, ho => obtain rfl := Option.some.inj ho; exact .inl ⟨rfl, by show 108 < 123; decide⟩
              | 2, ho => obtain rfl := Option.some.inj ho; exact .inl ⟨rfl, by show 109 < 123; decide⟩
              | 3, ho => obtain rfl := Option.some.inj ho; exact .inl ⟨rfl, by show 110 < 123; decide⟩
              | 4, ho => obtain rfl := Option.some.inj ho; exact .inl ⟨rfl, by show 111 < 123; decide⟩
              | 5, ho => obtain rfl := Option.some.inj ho; exact .inl ⟨rfl, by show 112 < 123; decide⟩
              | 6, ho => obtain rfl := Option.some.inj ho; exact .inl ⟨rfl, by show 113 < 123; decide⟩
              | 7, ho => obtain rfl := Option.some.inj ho; exact .inl ⟨rfl, by show 114 < 123; decide⟩
              | 8, ho => obtain rfl := Option.some.inj ho; exact .inl ⟨rfl, by show 115 < 123; decide⟩
              | 9, ho => obtain rfl := Option.some.inj ho; exact .inl ⟨rfl, by show 116 < 123; decide⟩
              | 10, ho => obtain rfl := Option.some.inj ho; exact .inl ⟨rfl, by show 117 < 123; decide⟩
              | 11, ho => obtain rfl := Option.some.inj ho; exact .inl ⟨rfl, by show 118 < 123; decide⟩
              | 12, ho => obtain rfl := Option.some.inj ho; exact .inl ⟨rfl, by show 119 < 123; decide⟩
              | 13, ho => obtain rfl := Option.some.inj ho; exact .inl ⟨rfl, by show 120 < 123; decide⟩
              | 14, ho => obtain rfl := Option.some.inj ho; exact .inl ⟨rfl, by show 121 < 123; decide⟩
              | 15, ho => obtain rfl := Option.some.inj ho; exact .inl ⟨rfl, by show 122 < 123; decide⟩
              | 16, ho => obtain rfl := Option.some.inj ho; exact .inl ⟨rfl, by show 6 < 123; decide⟩
              | _ + 17, ho => exact absurd ho (by simp)
            · intro ix jx hi hj e; unfold TL30d at e; split at e <;> split at e <;> omega
            · intro ix o ho
              match ix, ho with
              | 0, ho =>
                obtain rfl := Option.some.inj ho
                intro D a w hM hsl hdep hDi hcl K hK
                have hp12 : a.tmps.getD 12 undef = .nilIface := hsl 12 (by intro j hj; unfold TL30d; split <;> omega)
                refine ⟨rfl, ?_⟩
                refine wp_val (w' := w) (v := .nilIface) (by simp only [execOp, Act.eval]; rw [show a.tmps.getD 12 undef = _ from hp12]; rfl) ?_
                exact hK _ _ rfl hM (TL30_mono n cap r16 (lo + 1) al x z R hDi ((Below.refl _ _)))
              | 1, ho =>
                obtain rfl := Option.some.inj ho
                intro D a w hM hsl hdep hDi hcl K hK
                have e0 := (hdep ⟨0, .data⟩ (by simp) rfl).1
                refine ⟨rfl, ?_⟩
                have hl := eqN_t (x := .tmp 107) w
                refine wp_val (w' := w) (v := .bool true) (by simp only [execOp, Act.eval]; rw [show a.tmps.getD 107 undef = _ from e0]; simp only [Sem.run_bind, hl, Result.andThen_ok, Sem.run_pure]) ?_
                exact hK _ _ rfl hM (TL30_mono n cap r16 (lo + 1) al x z R hDi ((Below.refl _ _)))
              | 2, ho =>
                obtain rfl := Option.some.inj ho
                intro D a w hM hsl hdep hDi hcl K hK
                have e1 := (hdep ⟨1, .data⟩ (by simp) rfl).1
                refine ⟨rfl, ?_⟩
                refine wp_val (w' := w) (v := .bool true) (by simp only [execOp, Act.eval]; rw [show a.tmps.getD 108 undef = _ from e1]; rfl) ?_
                exact hK _ _ rfl hM (TL30_mono n cap r16 (lo + 1) al x z R hDi ((Below.refl _ _)))
              | 3, ho =>
                obtain rfl := Option.some.inj ho
                intro D a w hM hsl hdep hDi hcl K hK
                have hgu := (hdep ⟨2, .guard⟩ (by simp) rfl).1
                have hp16 : a.tmps.getD 16 undef = .pointer (some ⟨r16, 0, none⟩) := hsl 16 (by intro j hj; unfold TL30d; split <;> omega)
                refine ⟨wnt (j := 2) (d := 109) rfl rfl hgu, ?_⟩
                have hl := hl16 w hM
                refine wp_val (w' := w) (v := .agg (ab 32 R)) (by simp only [execOp, Act.eval]; rw [show a.tmps.getD 16 undef = _ from hp16]; simp only [Sem.run_bind, hl, Result.andThen_ok, Sem.run_pure]) ?_
                exact hK _ _ rfl hM (TL30_mono n cap r16 (lo + 1) al x z R hDi ((Below.refl _ _)))
              | 4, ho =>
                obtain rfl := Option.some.inj ho
                intro D a w hM hsl hdep hDi hcl K hK
                have hgu := (hdep ⟨2, .guard⟩ (by simp) rfl).1
                have hp0 : a.tmps.getD 0 undef = .slice al n cap := hsl 0 (by intro j hj; unfold TL30d; split <;> omega)
                refine ⟨wnt (j := 2) (d := 109) rfl rfl hgu, ?_⟩
                refine wp_val (w' := w) (v := .slice al n cap) (by simp only [execOp, Act.eval]; rw [show a.tmps.getD 0 undef = _ from hp0]; rfl) ?_
                exact hK _ _ rfl hM (TL30_mono n cap r16 (lo + 1) al x z R hDi ((Below.refl _ _)))
              | 5, ho =>
                obtain rfl := Option.some.inj ho
                intro D a w hM hsl hdep hDi hcl K hK
                have hgu := (hdep ⟨2, .guard⟩ (by simp) rfl).1
                have e4 := (hdep ⟨4, .data⟩ (by simp) rfl).1
                refine ⟨wnt (j := 2) (d := 109) rfl rfl hgu, ?_⟩
                refine oper_callg 21 #[.tmp 111] _ rfl #[.slice al n cap] (by simp only [List.map_toArray, List.map_cons, List.map_nil, Act.eval]; rw [show a.tmps.getD 111 undef = _ from e4]) (fun w => by kernel_rfl) (hR2 w hM) fun w' hb => ?_
                exact hK _ _ rfl (blw hM hb) (TL30_mono n cap r16 (lo + 1) al x z R hDi (hb))
              | 6, ho =>
                obtain rfl := Option.some.inj ho
                intro D a w hM hsl hdep hDi hcl K hK
                have hgu := (hdep ⟨2, .guard⟩ (by simp) rfl).1
                have e3 := (hdep ⟨3, .data⟩ (by simp) rfl).1
                have e5 := (hdep ⟨5, .data⟩ (by simp) rfl).1
                refine ⟨wnt (j := 2) (d := 109) rfl rfl hgu, ?_⟩
                have hl := eqS_t (x := .tmp 110) (u := .tmp 112) (F := R) (G := R) (fun _ _ => rfl) w
                refine wp_val (w' := w) (v := .bool true) (by simp only [execOp, Act.eval]; rw [show a.tmps.getD 110 undef = _ from e3, show a.tmps.getD 112 undef = _ from e5]; simp only [Sem.run_bind, hl, Result.andThen_ok, Sem.run_pure]) ?_
                exact hK _ _ rfl hM (TL30_mono n cap r16 (lo + 1) al x z R hDi ((Below.refl _ _)))
              | 7, ho =>
                obtain rfl := Option.some.inj ho
                intro D a w hM hsl hdep hDi hcl K hK
                have e2 := (hdep ⟨2, .data⟩ (by simp) rfl).1
                have e6 := (hdep ⟨6, .data⟩ (by simp) rfl).1
                refine ⟨rfl, ?_⟩
                refine wp_val (w' := w) (v := .bool true) (by simp only [execOp, Act.eval]; rw [show a.tmps.getD 109 undef = _ from e2, show a.tmps.getD 113 undef = _ from e6]; rfl) ?_
                exact hK _ _ rfl hM (TL30_mono n cap r16 (lo + 1) al x z R hDi ((Below.refl _ _)))
              | 8, ho =>
                obtain rfl := Option.some.inj ho
                intro D a w hM hsl hdep hDi hcl K hK
                have e7 := (hdep ⟨7, .data⟩ (by simp) rfl).1
                refine ⟨rfl, ?_⟩
                refine wp_val (w' := w) (v := .bool true) (by simp only [execOp, Act.eval]; rw [show a.tmps.getD 114 undef = _ from e7]; rfl) ?_
                exact hK _ _ rfl hM (TL30_mono n cap r16 (lo + 1) al x z R hDi ((Below.refl _ _)))
              | 9, ho =>
                obtain rfl := Option.some.inj ho
                intro D a w hM hsl hdep hDi hcl K hK
                have hgu := (hdep ⟨8, .guard⟩ (by simp) rfl).1
                have hp7 : a.tmps.getD 7 undef = .pointer (some ⟨lo + 1, 0, none⟩) := hsl 7 (by intro j hj; unfold TL30d; split <;> omega)
                refine ⟨wnt (j := 8) (d := 115) rfl rfl hgu, ?_⟩
                refine wp_val (w' := w) (v := .pointer (some ⟨lo + 1, 0, none⟩)) (by simp only [execOp, Act.eval]; rw [show a.tmps.getD 7 undef = _ from hp7]; rfl) ?_
                exact hK _ _ rfl hM (TL30_mono n cap r16 (lo + 1) al x z R hDi ((Below.refl _ _)))
              | 10, ho =>
                obtain rfl := Option.some.inj ho
                intro D a w hM hsl hdep hDi hcl K hK
                have hgu := (hdep ⟨8, .guard⟩ (by simp) rfl).1
                have hp2 : a.tmps.getD 2 undef = .int .i64 x := hsl 2 (by intro j hj; unfold TL30d; split <;> omega)
                refine ⟨wnt (j := 8) (d := 115) rfl rfl hgu, ?_⟩
                refine wp_val (w' := w) (v := .int .i64 x) (by simp only [execOp, Act.eval]; rw [show a.tmps.getD 2 undef = _ from hp2]; rfl) ?_
                exact hK _ _ rfl hM (TL30_mono n cap r16 (lo + 1) al x z R hDi ((Below.refl _ _)))
              | 11, ho =>
                obtain rfl := Option.some.inj ho
                intro D a w hM hsl hdep hDi hcl K hK
                have hgu := (hdep ⟨8, .guard⟩ (by simp) rfl).1
                have e10 := (hdep ⟨10, .data⟩ (by simp) rfl).1
                refine ⟨wnt (j := 8) (d := 115) rfl rfl hgu, ?_⟩
                have hl := hor w
                refine wp_val (w' := w) (v := .int .i64 z) (by simp only [execOp, Act.eval]; rw [show a.tmps.getD 117 undef = _ from e10]; simp only [Sem.run_bind, hl, Result.andThen_ok, Sem.run_pure]) ?_
                exact hK _ _ rfl hM (TL30_mono n cap r16 (lo + 1) al x z R hDi ((Below.refl _ _)))
              | 12, ho =>
                obtain rfl := Option.some.inj ho
                intro D a w hM hsl hdep hDi hcl K hK
                have hgu := (hdep ⟨8, .guard⟩ (by simp) rfl).1
                have e9 := (hdep ⟨9, .data⟩ (by simp) rfl).1
                have e11 := (hdep ⟨11, .data⟩ (by simp) rfl).1
                refine ⟨wnt (j := 8) (d := 115) rfl rfl hgu, ?_⟩
                refine oper_any 25 #[.tmp 116, .tmp 118] _ rfl #[.pointer (some ⟨lo + 1, 0, none⟩), .int .i64 z] (by simp only [List.map_toArray, List.map_cons, List.map_nil, Act.eval]; rw [show a.tmps.getD 116 undef = _ from e9, show a.tmps.getD 118 undef = _ from e11]) (fun w => by kernel_rfl) (hLv w hM) fun r w' hj => ?_
                obtain ⟨hr, hb⟩ := hj
                exact hK _ _ (hr) (blw hM hb) (TL30_mono n cap r16 (lo + 1) al x z R hDi (hb))
              | 13, ho =>
                obtain rfl := Option.some.inj ho
                intro D a w hM hsl hdep hDi hcl K hK
                have hgu := (hdep ⟨8, .guard⟩ (by simp) rfl).1
                have e12 := (hdep ⟨12, .data⟩ (by simp) rfl).1
                refine ⟨wnt (j := 8) (d := 115) rfl rfl hgu, ?_⟩
                obtain ⟨a2, c2, ev2⟩ := e12
                have hl := len_ss (ad := a2) (n := 0) (c := c2) 3 w
                refine wp_val (w' := w) (v := .int .i64 ((0 : Nat) : Int)) (by simp only [execOp, Act.eval, resolve, invoke, builtin, List.map_toArray, List.map_cons, List.map_nil, Sem.run_pure, Result.andThen_ok, Sem.run_bind]; rw [show a.tmps.getD 119 undef = _ from ev2]; simp only [hl, Result.andThen_ok]) ?_
                exact hK _ _ rfl hM (TL30_mono n cap r16 (lo + 1) al x z R hDi ((Below.refl _ _)))
              | 14, ho =>
                obtain rfl := Option.some.inj ho
                intro D a w hM hsl hdep hDi hcl K hK
                have hgu := (hdep ⟨8, .guard⟩ (by simp) rfl).1
                have e13 := (hdep ⟨13, .data⟩ (by simp) rfl).1
                refine ⟨wnt (j := 8) (d := 115) rfl rfl hgu, ?_⟩
                have hl := eq_i (x := .tmp 120) (u := .const (.int .i64 0)) (m := ((0 : Nat) : Int)) (n := 0) (decide_eq_true rfl) w
                refine wp_val (w' := w) (v := .bool true) (by simp only [execOp, Act.eval]; rw [show a.tmps.getD 120 undef = _ from e13]; simp only [Sem.run_bind, hl, Result.andThen_ok, Sem.run_pure]) ?_
                exact hK _ _ rfl hM (TL30_mono n cap r16 (lo + 1) al x z R hDi ((Below.refl _ _)))
              | 15, ho =>
                obtain rfl := Option.some.inj ho
                intro D a w hM hsl hdep hDi hcl K hK
                have e8 := (hdep ⟨8, .data⟩ (by simp) rfl).1
                have e14 := (hdep ⟨14, .data⟩ (by simp) rfl).1
                refine ⟨rfl, ?_⟩
                refine wp_val (w' := w) (v := .bool true) (by simp only [execOp, Act.eval]; rw [show a.tmps.getD 115 undef = _ from e8, show a.tmps.getD 121 undef = _ from e14]; rfl) ?_
                exact hK _ _ rfl hM (TL30_mono n cap r16 (lo + 1) al x z R hDi ((Below.refl _ _)))
              | 16, ho =>
                obtain rfl := Option.some.inj ho
                intro D a w hM hsl hdep hDi hcl K hK
                have e15 := (hdep ⟨15, .data⟩ (by simp) rfl).1
                refine ⟨rfl, ?_⟩
                refine wp_val (w' := w) (v := .bool true) (by simp only [execOp, Act.eval]; rw [show a.tmps.getD 122 undef = _ from e15]; rfl) ?_
                exact hK _ _ rfl hM (TL30_mono n cap r16 (lo + 1) al x z R hDi ((Below.refl _ _)))
              | _ + 17, ho => exact absurd ho (by simp)
            · intro D a u hall hd hs hM hsl hr
              have t6 : a.tmps.getD 6 undef = .bool true := hr 16 (by decide)
              refine (‹∀ (a : Act) (w : World), Code.wp Tryd.prog _ _ a w → _›) a _ ?_
              refine wp_ret ?_
              exact s_raw hd (by rw [hs]; show 6 < 123; decide) t6 Tryd.results5 ⟨rfl, blw s1 hM⟩
end Go.Proofs.YtdofoampjlebbaaDoor

namespace Go.Proofs.YtdofoampjlebbaaDoor
open Go.ChangeShapes Go.WideShapes Go.ChangeAt Go.RowKit Sh

def laidQ : List (String × DataW Unit) := [("math/bits.deBruijn32tab", Rows.laid_math_bits_deBruijn32tab), ("math/bits.deBruijn64tab", Rows.laid_math_bits_deBruijn64tab), ("cachet/sum.cubes", Rows.laid_cachet_sum_cubes), ("cachet/sum.squares", Rows.laid_cachet_sum_squares)]
theorem gTab32 : Tryd.prog.globalNamed "math/bits.deBruijn32tab" = some 0 := by kernel_rfl
theorem gTab64 : Tryd.prog.globalNamed "math/bits.deBruijn64tab" = some 1 := by kernel_rfl
theorem tTab64 : (Tryd.prog.globals[1]?).map (·.type) = some 98 := by kernel_rfl
theorem row_cells8 {W : World} {fuel n t : Nat} {cs : List Value} {ns : List Nat} {ps : List MemPlace} {base : Nat} {sp : Nat → Bool} {held : Bool} {enc : TypeId × Value → Unit} (ht : Tryd.prog.underlying t = some (.array n 5)) (h : DataW.trod enc Tryd.prog W base sp held fuel t cs = some (.agg (ns.map fun k => .lit (.int .u8 ((k : Nat) : Int))), ps)) (hn : ns.length = n) :
    ∀ i, i < n → cs[i]? = some (.int .u8 ((ns.getD i 0 : Nat) : Int)) := by
  obtain ⟨xs, m, rfl, hx, hlen, hxs, hel⟩ := DataW.trod_array ht h
  have c1 : Tryd.prog.cellsOf 5 = 1 := by kernel_rfl
  intro i hi
  have h1 := hel i hi
  rw [c1, Nat.mul_one] at h1
  simp only [Prod.mk.injEq, DataW.agg.injEq] at hx
  have hxi : xs[i]? = some xs[i] := List.getElem?_eq_getElem (by omega)
  rw [hxi] at h1
  obtain ⟨k, e1, e2, _⟩ := DataW.trod_int Tryd.underlying5 h1
  have h3 := congrArg (·[i]?) hx.1
  simp only [List.getElem?_map] at h3
  rw [hxi, List.getElem?_eq_getElem (l := ns) (show i < ns.length by omega)] at h3
  simp only [Option.map_some, Option.some.injEq] at h3
  rw [e2] at h3
  have h4 : ((ns[i] : Nat) : Int) = k := by simpa using h3
  have h5 : cs[i]? = (cs.drop i)[0]? := by simp
  have h6 : ((cs.drop i).take 1)[0]? = (cs.drop i)[0]? := by rw [List.getElem?_take]; simp
  rw [h5, ← h6, e1, List.getD_eq_getElem?_getD, List.getElem?_eq_getElem (l := ns) (show i < ns.length by omega), Option.getD_some, h4]
  rfl
theorem tab_L : (Rows.laid_math_bits_deBruijn64tab : DataW Unit) = .agg (Lib.deBruijn64tab.map fun k => .lit (.int .u8 ((k : Nat) : Int))) := by kernel_rfl
theorem of_laidQ {W : World} (h : laidMetH Tryd.prog laidQ W) : Gl W ∧ Gz W := by
  rw [MakeChecks.laidMetH_plain _ _ _ (by kernel_rfl)] at h
  obtain ⟨ps, ⟨g2, t2, cs2, f2, p2, q2, hg2, ht2, hv2, hd2, ⟨g3, t3, cs3, f3, p3, q3, hg3, ht3, hv3, hd3, ⟨g0, t0, cs0, f0, p0, q0, hg0, ht0, hv0, hd0, ⟨g1, t1, cs1, f1, p1, q1, hg1, ht1, hv1, hd1, _, _⟩, _⟩, _⟩, _⟩, _, _⟩ := h
  obtain rfl := Option.some.inj (gCubes.symm.trans hg0)
  obtain rfl := Option.some.inj (gSquares.symm.trans hg1)
  obtain rfl := Option.some.inj (tCubes.symm.trans ht0)
  obtain rfl := Option.some.inj (tSquares.symm.trans ht1)
  obtain rfl := Option.some.inj (gTab64.symm.trans hg3)
  obtain rfl := Option.some.inj (tTab64.symm.trans ht3)
  rw [cubes_L] at hd0
  rw [squares_L] at hd1
  rw [tab_L] at hd3
  refine ⟨⟨fun i hi => ?_, fun i hi => ?_⟩, fun i hi => ?_⟩
  · rw [World.var?_cell hg1 hv1 i, ← Array.getElem?_toList]
    exact row_cells Tryd.underlying100 hd1 (by kernel_rfl) i hi
  · rw [World.var?_cell hg0 hv0 i, ← Array.getElem?_toList]
    exact row_cells Tryd.underlying106 hd0 (by kernel_rfl) i hi
  · rw [World.var?_cell hg3 hv3 i, ← Array.getElem?_toList]
    exact row_cells8 Tryd.underlying98 hd3 (by kernel_rfl) i (by have : Lib.deBruijn64tab.length = 64 := rfl; omega)
theorem door_metQ (os : Os) (args : Array Value) : laidMetH Tryd.prog laidQ ((World.doorLaid Tryd.prog 400 os).forCall (fun _ _ => 0) ⟨#[], args, []⟩).memory :=
  laidMetH_of_parts3 (fuel := 8) (laidMet_of_run' 8 (by kernel_rfl) (by kernel_rfl)) (by kernel_rfl) (by kernel_rfl)
end Go.Proofs.YtdofoampjlebbaaDoor

/- CS8, CS9, CS10, CS11, CA2: laid together. -/
import Derived.Test.YtbemaloaobeblaaGreatDoorG4
import Derived.Test.YtbemaloaobeblaaGreatDoorG3
namespace Go.Proofs.YtbemaloaobeblaaGreatDoor
open Go.RowKit

def YRv (g n cap kk : Nat) (F : Nat → Ep) : Nat → Value → Prop
 | 0, v => v = (.slice (some ⟨g, 0, none⟩) n cap)
 | 1, v => v = (.int .i64 (kk : Nat))
 | 2, v => v = (.slice (some ⟨g, 0, none⟩) n cap)
 | 3, v => v = (.int .i64 (kk : Nat))
 | 4, v => v = (.int .i64 (kk - 1 : Nat))
 | 5, v => v = (.slice (some ⟨g, 0, none⟩) n cap)
 | 6, v => v = (.int .i64 (kk : Nat))
 | 7, v => v = (.int .i64 (kk - 1 : Nat))
 | 8, v => v = .pointer (some ⟨g, (kk - 1) * 6, none⟩)
 | 9, v => v = .agg (cl (F (kk - 1))).toArray
 | 10, v => v = (.slice (some ⟨g, 0, none⟩) n cap)
 | 11, v => v = (.int .i64 (kk : Nat))
 | 12, v => v = .pointer (some ⟨g, (kk) * 6, none⟩)
 | 13, v => v = .agg (cl (F (kk))).toArray
 | 14, v => v = .pointer (some ⟨g, (kk) * 6, none⟩)
 | 16, v => v = .pointer (some ⟨g, (kk - 1) * 6, none⟩)
 | _, _ => True
def YRvd : Nat → Nat
 | 0 => 113
 | 1 => 114
 | 2 => 115
 | 3 => 116
 | 4 => 117
 | 5 => 118
 | 6 => 119
 | 7 => 120
 | 8 => 121
 | 9 => 122
 | 10 => 123
 | 11 => 124
 | 12 => 125
 | 13 => 126
 | 14 => 127
 | 15 => 1015
 | 16 => 128
 | 17 => 1017
 | i => 2000 + i

set_option maxHeartbeats 8000000 in
set_option maxRecDepth 100000 in
theorem sym_r {w : World} {B g n cap xa xm xb : Nat} {F : Nat → Ep} (h : Rw w B g n cap F) (ham : xa + 1 < xm) (hm : xb = xm + 1) (hbn : xb ≤ n) (hn : n ≤ 2000000) (hr : Rs ltE F xa xm) :
  Calls Tryz.prog 121 #[.slice (some ⟨g, 0, none⟩) n cap, .int .i64 (xa : Nat), .int .i64 (xm : Nat), .int .i64 (xb : Nat), (.func (.func 73) #[] #[])] w fun e w' => e = .returned (.tuple #[]) ∧ ∃ G, Mgd ltE F xa xm xb G ∧ Rw w' B g n cap G ∧ Kg g w w' := by
 have hxn : xm < n := by omega
 have hok1 : EpOk (F xm) := h.ok xm hxn
 have h0 := hide1 h
 replace hr := hide1 hr
 clear h
 have q0 : ((xm : Int) - (xa : Int) == 1) = false := by simp; omega
 have q1 : ((xb : Int) - (xm : Int) == 1) = true := by simp; omega
 replace hm := hide1 hm
 go_enter Tryz.func121, Tryz.ntmps121
 go_wp2_with fail
 go_loopw [14, 15] (fun s14 s15 wr => ∃ i jj : Nat, s14 = .int .i64 (i : Nat) ∧ s15 = .int .i64 (jj : Nat) ∧ xa ≤ i ∧ i ≤ jj ∧ jj ≤ xm ∧ Hid (∀ k, xa ≤ k → k < i → ltE (F xm) (F k) = false) ∧ Hid (∀ k, jj ≤ k → k < xm → ltE (F xm) (F k) = true) ∧ Hid (Rw wr B g n cap F) ∧ Hid (Kg g w wr)) (fun s14 s15 _ => (intOf s15).toNat - (intOf s14).toNat)
 case atStart => exact ⟨xa, xm, rfl, rfl, by omega, by omega, by omega, hide1 fun k h1 h2 => by omega, hide1 fun k h1 h2 => by omega, h0, hide1 (Kg.refl g w)⟩
 case round =>
  obtain ⟨i, jj, rfl, rfl, hi1, hi2, hi3, hlo, hhi, hR, hK⟩ := hrel
  by_cases hlt : i < jj
  ·obtain ⟨hh, hhd⟩ : ∃ hh, hh = (i + jj) / 2 := ⟨_, rfl⟩
   have hhn : hh < n := by omega
   have hok2 : EpOk (F hh) := hR.out.ok hh hhn
   obtain ⟨R, hRd⟩ : ∃ R, Hid (R = ltE (F xm) (F hh)) := ⟨_, hide1 rfl⟩
   have hzr : ∀ w, (binOp .lss 3 (.int .i64 (zc (F xm) (F hh))) (.int .i64 0)).run Tryz.prog w = .ok (.bool R) w := fun w => by rw [hRd.out]; exact zc_lt _ _ w
   have hw1 := half_e (i := i) (j := jj) (by omega)
   go_upto_region 17 with fail
   have ehh : ((i : Int) + (jj : Int)) / 2 = ((hh : Nat) : Int) := by omega
   rw [ehh]
   replace ehh := hide1 ehh
   replace hhd := hide1 hhd
   refine wp_flowG 11 _ _ (by kernel_rfl) (by kernel_rfl) (by kernel_rfl) rfl (fun j v _ => v = ([(.func (.func 73) #[] #[]), (.slice (some ⟨g, 0, none⟩) n cap), (.int .i64 (xm : Nat)), (.pointer (some ⟨g, xm * 6, none⟩)), (.agg (cl (F xm)).toArray), (.slice (some ⟨g, 0, none⟩) n cap), (.int .i64 (hh : Nat)), (.pointer (some ⟨g, hh * 6, none⟩)), (.agg (cl (F hh)).toArray), (.int .i64 (zc (F xm) (F hh))), (.bool R), (.bool (!R))] : List Value).getD j undef) (fun _ _ _ _ h _ => h) ?_ ?_
   ·intro j op hop hj a wa hwa hsz hsl hdep K hK
    match j, hop with
    | 0, hop =>
     obtain rfl := Option.some.inj hop
     have p4 : a.tmps.getD 4 undef = (.func (.func 73) #[] #[]) := hsl 4 rfl
     exact .plain rfl (wp_val (w' := wa) (v := (.func (.func 73) #[] #[])) (by simp only [execOp, Act.eval]; rw [show a.tmps.getD 4 undef = _ from p4]; rfl) (hK _ _ (Below.refl _ _) rfl))
    | 1, hop =>
     obtain rfl := Option.some.inj hop
     have p0 : a.tmps.getD 0 undef = (.slice (some ⟨g, 0, none⟩) n cap) := hsl 0 rfl
     exact .plain rfl (wp_val (w' := wa) (v := (.slice (some ⟨g, 0, none⟩) n cap)) (by simp only [execOp, Act.eval]; rw [show a.tmps.getD 0 undef = _ from p0]; rfl) (hK _ _ (Below.refl _ _) rfl))
    | 2, hop =>
     obtain rfl := Option.some.inj hop
     have p2 : a.tmps.getD 2 undef = (.int .i64 (xm : Nat)) := hsl 2 rfl
     exact .plain rfl (wp_val (w' := wa) (v := (.int .i64 (xm : Nat))) (by simp only [execOp, Act.eval]; rw [show a.tmps.getD 2 undef = _ from p2]; rfl) (hK _ _ (Below.refl _ _) rfl))
    | 3, hop =>
     obtain rfl := Option.some.inj hop
     have t1 : a.tmps.getD 93 undef = (.slice (some ⟨g, 0, none⟩) n cap) := hdep 1 _ 93 rfl rfl ⟨⟨1, .data⟩, by simp, rfl, rfl⟩
     have t2 : a.tmps.getD 94 undef = (.int .i64 (xm : Nat)) := hdep 2 _ 94 rfl rfl ⟨⟨2, .data⟩, by simp, rfl, rfl⟩
     exact .plain rfl (wp_val (w' := wa) (v := (.pointer (some ⟨g, xm * 6, none⟩))) (by simp only [execOp, Act.eval]; rw [show a.tmps.getD 93 undef = _ from t1, show a.tmps.getD 94 undef = _ from t2]; simp only [Sem.run_bind, ix_sP hxn, Result.andThen_ok, Sem.run_pure]) (hK _ _ (Below.refl _ _) rfl))
    | 4, hop =>
     obtain rfl := Option.some.inj hop
     have t3 : a.tmps.getD 95 undef = (.pointer (some ⟨g, xm * 6, none⟩)) := hdep 3 _ 95 rfl rfl ⟨⟨3, .data⟩, by simp, rfl, rfl⟩
     exact .plain rfl (wp_val (w' := wa) (v := (.agg (cl (F xm)).toArray)) (by simp only [execOp, Act.eval]; rw [show a.tmps.getD 95 undef = _ from t3]; simp only [Sem.run_bind, (hR.out.later hwa).load hxn, Result.andThen_ok, Sem.run_pure]) (hK _ _ (Below.refl _ _) rfl))
    | 5, hop =>
     obtain rfl := Option.some.inj hop
     have p0 : a.tmps.getD 0 undef = (.slice (some ⟨g, 0, none⟩) n cap) := hsl 0 rfl
     exact .plain rfl (wp_val (w' := wa) (v := (.slice (some ⟨g, 0, none⟩) n cap)) (by simp only [execOp, Act.eval]; rw [show a.tmps.getD 0 undef = _ from p0]; rfl) (hK _ _ (Below.refl _ _) rfl))
    | 6, hop =>
     obtain rfl := Option.some.inj hop
     have p16 : a.tmps.getD 16 undef = (.int .i64 (hh : Nat)) := hsl 16 rfl
     exact .plain rfl (wp_val (w' := wa) (v := (.int .i64 (hh : Nat))) (by simp only [execOp, Act.eval]; rw [show a.tmps.getD 16 undef = _ from p16]; rfl) (hK _ _ (Below.refl _ _) rfl))
    | 7, hop =>
     obtain rfl := Option.some.inj hop
     have t5 : a.tmps.getD 97 undef = (.slice (some ⟨g, 0, none⟩) n cap) := hdep 5 _ 97 rfl rfl ⟨⟨5, .data⟩, by simp, rfl, rfl⟩
     have t6 : a.tmps.getD 98 undef = (.int .i64 (hh : Nat)) := hdep 6 _ 98 rfl rfl ⟨⟨6, .data⟩, by simp, rfl, rfl⟩
     exact .plain rfl (wp_val (w' := wa) (v := (.pointer (some ⟨g, hh * 6, none⟩))) (by simp only [execOp, Act.eval]; rw [show a.tmps.getD 97 undef = _ from t5, show a.tmps.getD 98 undef = _ from t6]; simp only [Sem.run_bind, ix_sP hhn, Result.andThen_ok, Sem.run_pure]) (hK _ _ (Below.refl _ _) rfl))
    | 8, hop =>
     obtain rfl := Option.some.inj hop
     have t7 : a.tmps.getD 99 undef = (.pointer (some ⟨g, hh * 6, none⟩)) := hdep 7 _ 99 rfl rfl ⟨⟨7, .data⟩, by simp, rfl, rfl⟩
     exact .plain rfl (wp_val (w' := wa) (v := (.agg (cl (F hh)).toArray)) (by simp only [execOp, Act.eval]; rw [show a.tmps.getD 99 undef = _ from t7]; simp only [Sem.run_bind, (hR.out.later hwa).load hhn, Result.andThen_ok, Sem.run_pure]) (hK _ _ (Below.refl _ _) rfl))
    | 9, hop =>
     obtain rfl := Option.some.inj hop
     have t4 : a.tmps.getD 96 undef = (.agg (cl (F xm)).toArray) := hdep 4 _ 96 rfl rfl ⟨⟨4, .data⟩, by simp, rfl, rfl⟩
     have t8 : a.tmps.getD 100 undef = (.agg (cl (F hh)).toArray) := hdep 8 _ 100 rfl rfl ⟨⟨8, .data⟩, by simp, rfl, rfl⟩
     have t0 : a.tmps.getD 92 undef = (.func (.func 73) #[] #[]) := hdep 0 _ 92 rfl rfl ⟨⟨0, .data⟩, by simp, rfl, rfl⟩
     refine .plain rfl (oper_anyv (J := fun r w' => r = (.int .i64 (zc (F xm) (F hh))) ∧ Below wa.heap.size wa w') 73 (.tmp 92) #[.tmp 96, .tmp 100] _ rfl (show a.tmps.getD 92 undef = _ from t0) #[(.agg (cl (F xm)).toArray), (.agg (cl (F hh)).toArray)] (by simp only [List.map_toArray, List.map_cons, List.map_nil, Act.eval]; rw [show a.tmps.getD 96 undef = _ from t4, show a.tmps.getD 100 undef = _ from t8]) (fun w => by kernel_rfl) ((cmp_d hok1 hok2).mono fun e w' h => ⟨_, h.1, rfl, h.2⟩) ?_)
     rintro r w' ⟨rfl, hb⟩
     exact hK _ _ hb rfl
    | 10, hop =>
     obtain rfl := Option.some.inj hop
     have t9 : a.tmps.getD 101 undef = (.int .i64 (zc (F xm) (F hh))) := hdep 9 _ 101 rfl rfl ⟨⟨9, .data⟩, by simp, rfl, rfl⟩
     exact .plain rfl (wp_val (w' := wa) (v := (.bool R)) (by simp only [execOp, Act.eval]; rw [show a.tmps.getD 101 undef = _ from t9]; simp only [Sem.run_bind, eqg_lss, hzr, Result.andThen_ok, Sem.run_pure]) (hK _ _ (Below.refl _ _) rfl))
    | 11, _ => exact absurd rfl hj
    | _ + 12, hop => exact absurd hop (by simp)
   ·intro a wa hwa hdf hsz hsl hrr K hK
    have t10 : a.tmps.getD 102 undef = (.bool R) := hrr 10 _ 102 rfl (by decide) rfl
    refine .plain rfl (wp_val (w' := wa) (v := (.bool (!R))) (by simp only [execOp, Act.eval]; rw [show a.tmps.getD 102 undef = _ from t10]; kernel_rfl) ?_)
    refine hK _ wa ?_
    have hact := act_puts hdf hsz hsl
    clear hrr hsl hdf hsz hK t10
    simp only [List.filterMap_cons, List.filterMap_nil, List.foldl_cons, List.foldl_nil] at hact
    rw [hact]
    generalize a.tmps.getD 92 undef = y92
    generalize a.tmps.getD 93 undef = y93
    generalize a.tmps.getD 94 undef = y94
    generalize a.tmps.getD 95 undef = y95
    generalize a.tmps.getD 96 undef = y96
    generalize a.tmps.getD 97 undef = y97
    generalize a.tmps.getD 98 undef = y98
    generalize a.tmps.getD 99 undef = y99
    generalize a.tmps.getD 100 undef = y100
    generalize a.tmps.getD 101 undef = y101
    generalize a.tmps.getD 102 undef = y102
    clear hact
    simp only [Act.put, List.setIfInBounds_toArray, List.set_cons_succ, List.set_cons_zero]
    have hR4 := hide1 (hR.out.later hwa)
    have hK4 : Hid (Kg g w wa) := hide1 (hK.out.trans (Kg.ofB hwa))
    clear hzr hwa hR hK
    have hd := hhd.out
    cases R with
    | false =>
     have hlo2 : Hid (∀ k, xa ≤ k → k < hh + 1 → ltE (F xm) (F k) = false) := hide1 fun k h1 h2 => rs_dn hr.out hRd.out.symm h1 (by omega) (by omega)
     replace hd := hide1 hd
     clear hlo hRd
     go_wp2
     go_roundw
     case rel => exact ⟨hh + 1, jj, by first | rfl | (congr 1; omega) | go_num, rfl, by have := hd.out; omega, by have := hd.out; omega, hi3, hlo2, hhi, hR4, hK4⟩
     case measure => have := hd.out; simp [intOf]; omega
    | true =>
     have hhi2 : Hid (∀ k, hh ≤ k → k < xm → ltE (F xm) (F k) = true) := hide1 fun k h1 h2 => rs_up hr.out hRd.out.symm (by omega) h1 h2
     replace hd := hide1 hd
     clear hhi hRd
     go_wp2
     go_roundw
     case rel => exact ⟨i, hh, rfl, by first | rfl | (congr 1; omega) | go_num, hi1, by have := hd.out; omega, by have := hd.out; omega, hlo, hhi2, hR4, hK4⟩
     case measure => have := hd.out; simp [intOf]; omega
  ·obtain rfl : i = jj := by omega
   have hfin : Hid (Mgd ltE F xa xm xb (rot F i xm (xm + 1))) := hide1 (by rw [hm.out]; exact mgd_r hi1 hi3 hlo.out hhi.out)
   clear hlo hhi
   go_wp2_with fail
   go_loopw [17] (fun s17 wr => ∃ kk : Nat, s17 = .int .i64 (kk : Nat) ∧ i ≤ kk ∧ kk ≤ xm ∧ Hid (Rw wr B g n cap (rot F kk xm (xm + 1))) ∧ Hid (Kg g w wr)) (fun s17 _ => (intOf s17).toNat)
   case atStart => exact ⟨xm, rfl, hi3, Nat.le_refl _, hide1 (by rw [rot_id F (.inl rfl)]; exact hR.out), hK⟩
   case round =>
    obtain ⟨kk, rfl, hk1, hk2, hR2, hK2⟩ := hrel
    by_cases hlt2 : i < kk
    ·have hxy : kk ≠ kk - 1 := by omega
     have hkn : kk < n := by omega
     have hk1n : kk - 1 < n := by omega
     have hsb := fun w => sub1_n (a := kk) (by omega) (by omega) w
     have hsr : Hid (sr (rot F kk xm (xm + 1)) kk (kk - 1) 1 = rot F (kk - 1) xm (xm + 1)) := hide1 (by
      have := rot_dn F (m := xm) (k := kk - 1) (by omega)
      rwa [show kk - 1 + 1 = kk by omega] at this)
     go_upto_region 23 with fail
     refine wp_rel5 _ _ (fun _ j v _ => YRv g n cap kk (rot F kk xm (xm + 1)) j v) (fun D w => Msw wr B g n cap (rot F kk xm (xm + 1)) (kk) (kk - 1) (D 15) (D 17) w) YRvd (by kernel_rfl) (by kernel_rfl) 18 (by kernel_rfl) ?_ ?_ rfl (msw_start hkn hk1n hR2.out) ?_ ?_
     ·intro ix o ho
      match ix, ho with
      | 0, ho => obtain rfl := Option.some.inj ho; exact .inl ⟨rfl, by show 113 < 220; decide⟩
      | 1, ho => obtain rfl := Option.some.inj ho; exact .inl ⟨rfl, by show 114 < 220; decide⟩
      | 2, ho => obtain rfl := Option.some.inj ho; exact .inl ⟨rfl, by show 115 < 220; decide⟩
      | 3, ho => obtain rfl := Option.some.inj ho; exact .inl ⟨rfl, by show 116 < 220; decide⟩
      | 4, ho => obtain rfl := Option.some.inj ho; exact .inl ⟨rfl, by show 117 < 220; decide⟩
      | 5, ho => obtain rfl := Option.some.inj ho; exact .inl ⟨rfl, by show 118 < 220; decide⟩
      | 6, ho => obtain rfl := Option.some.inj ho; exact .inl ⟨rfl, by show 119 < 220; decide⟩
      | 7, ho => obtain rfl := Option.some.inj ho; exact .inl ⟨rfl, by show 120 < 220; decide⟩
      | 8, ho => obtain rfl := Option.some.inj ho; exact .inl ⟨rfl, by show 121 < 220; decide⟩
      | 9, ho => obtain rfl := Option.some.inj ho; exact .inl ⟨rfl, by show 122 < 220; decide⟩
      | 10, ho => obtain rfl := Option.some.inj ho; exact .inl ⟨rfl, by show 123 < 220; decide⟩
      | 11, ho => obtain rfl := Option.some.inj ho; exact .inl ⟨rfl, by show 124 < 220; decide⟩
      | 12, ho => obtain rfl := Option.some.inj ho; exact .inl ⟨rfl, by show 125 < 220; decide⟩
      | 13, ho => obtain rfl := Option.some.inj ho; exact .inl ⟨rfl, by show 126 < 220; decide⟩
      | 14, ho => obtain rfl := Option.some.inj ho; exact .inl ⟨rfl, by show 127 < 220; decide⟩
      | 15, ho => obtain rfl := Option.some.inj ho; exact .inr ⟨⟨rfl, fun _ _ _ _ => trivial⟩, by show 220 ≤ 1015; decide⟩
      | 16, ho => obtain rfl := Option.some.inj ho; exact .inl ⟨rfl, by show 128 < 220; decide⟩
      | 17, ho => obtain rfl := Option.some.inj ho; exact .inr ⟨⟨rfl, fun _ _ _ _ => trivial⟩, by show 220 ≤ 1017; decide⟩
      | _ + 18, ho => exact absurd ho (by simp)
     ·intro ix jx hi hj e; unfold YRvd at e; split at e <;> split at e <;> omega
     ·intro ix o ho
      match ix, ho with
      | 0, ho =>
       obtain rfl := Option.some.inj ho
       intro D a w hM hsl hdep hDi hcl K hK
       have hp0 : a.tmps.getD 0 undef = (.slice (some ⟨g, 0, none⟩) n cap) := hsl 0 (by intro j hj; unfold YRvd; split <;> omega)
       refine ⟨rfl, ?_⟩
       refine wp_val (w' := w) (v := (.slice (some ⟨g, 0, none⟩) n cap)) (by simp only [execOp, Act.eval]; rw [show a.tmps.getD 0 undef = _ from hp0]; rfl) ?_
       exact hK _ _ rfl (msw_ne (by decide) (by decide) hM) (fun _ _ _ _ h => h)
      | 1, ho =>
       obtain rfl := Option.some.inj ho
       intro D a w hM hsl hdep hDi hcl K hK
       have hp17 : a.tmps.getD 17 undef = (.int .i64 (kk : Nat)) := hsl 17 (by intro j hj; unfold YRvd; split <;> omega)
       refine ⟨rfl, ?_⟩
       refine wp_val (w' := w) (v := (.int .i64 (kk : Nat))) (by simp only [execOp, Act.eval]; rw [show a.tmps.getD 17 undef = _ from hp17]; rfl) ?_
       exact hK _ _ rfl (msw_ne (by decide) (by decide) hM) (fun _ _ _ _ h => h)
      | 2, ho =>
       obtain rfl := Option.some.inj ho
       intro D a w hM hsl hdep hDi hcl K hK
       have hp0 : a.tmps.getD 0 undef = (.slice (some ⟨g, 0, none⟩) n cap) := hsl 0 (by intro j hj; unfold YRvd; split <;> omega)
       refine ⟨rfl, ?_⟩
       refine wp_val (w' := w) (v := (.slice (some ⟨g, 0, none⟩) n cap)) (by simp only [execOp, Act.eval]; rw [show a.tmps.getD 0 undef = _ from hp0]; rfl) ?_
       exact hK _ _ rfl (msw_ne (by decide) (by decide) hM) (fun _ _ _ _ h => h)
      | 3, ho =>
       obtain rfl := Option.some.inj ho
       intro D a w hM hsl hdep hDi hcl K hK
       have hp17 : a.tmps.getD 17 undef = (.int .i64 (kk : Nat)) := hsl 17 (by intro j hj; unfold YRvd; split <;> omega)
       refine ⟨rfl, ?_⟩
       refine wp_val (w' := w) (v := (.int .i64 (kk : Nat))) (by simp only [execOp, Act.eval]; rw [show a.tmps.getD 17 undef = _ from hp17]; rfl) ?_
       exact hK _ _ rfl (msw_ne (by decide) (by decide) hM) (fun _ _ _ _ h => h)
      | 4, ho =>
       obtain rfl := Option.some.inj ho
       intro D a w hM hsl hdep hDi hcl K hK
       have e3 := (hdep ⟨3, .data⟩ (by simp) rfl).1
       refine ⟨rfl, ?_⟩
       refine wp_val (w' := w) (v := (.int .i64 (kk - 1 : Nat))) (by simp only [execOp, Act.eval]; rw [show a.tmps.getD 116 undef = _ from e3]; simp only [Sem.run_bind, eqg_sub, hsb, Result.andThen_ok, Sem.run_pure]) ?_
       exact hK _ _ rfl (msw_ne (by decide) (by decide) hM) (fun _ _ _ _ h => h)
      | 5, ho =>
       obtain rfl := Option.some.inj ho
       intro D a w hM hsl hdep hDi hcl K hK
       have hp0 : a.tmps.getD 0 undef = (.slice (some ⟨g, 0, none⟩) n cap) := hsl 0 (by intro j hj; unfold YRvd; split <;> omega)
       refine ⟨rfl, ?_⟩
       refine wp_val (w' := w) (v := (.slice (some ⟨g, 0, none⟩) n cap)) (by simp only [execOp, Act.eval]; rw [show a.tmps.getD 0 undef = _ from hp0]; rfl) ?_
       exact hK _ _ rfl (msw_ne (by decide) (by decide) hM) (fun _ _ _ _ h => h)
      | 6, ho =>
       obtain rfl := Option.some.inj ho
       intro D a w hM hsl hdep hDi hcl K hK
       have hp17 : a.tmps.getD 17 undef = (.int .i64 (kk : Nat)) := hsl 17 (by intro j hj; unfold YRvd; split <;> omega)
       refine ⟨rfl, ?_⟩
       refine wp_val (w' := w) (v := (.int .i64 (kk : Nat))) (by simp only [execOp, Act.eval]; rw [show a.tmps.getD 17 undef = _ from hp17]; rfl) ?_
       exact hK _ _ rfl (msw_ne (by decide) (by decide) hM) (fun _ _ _ _ h => h)
      | 7, ho =>
       obtain rfl := Option.some.inj ho
       intro D a w hM hsl hdep hDi hcl K hK
       have e6 := (hdep ⟨6, .data⟩ (by simp) rfl).1
       refine ⟨rfl, ?_⟩
       refine wp_val (w' := w) (v := (.int .i64 (kk - 1 : Nat))) (by simp only [execOp, Act.eval]; rw [show a.tmps.getD 119 undef = _ from e6]; simp only [Sem.run_bind, eqg_sub, hsb, Result.andThen_ok, Sem.run_pure]) ?_
       exact hK _ _ rfl (msw_ne (by decide) (by decide) hM) (fun _ _ _ _ h => h)
      | 8, ho =>
       obtain rfl := Option.some.inj ho
       intro D a w hM hsl hdep hDi hcl K hK
       have e5 := (hdep ⟨5, .data⟩ (by simp) rfl).1
       have e7 := (hdep ⟨7, .data⟩ (by simp) rfl).1
       refine ⟨rfl, ?_⟩
       refine wp_val (w' := w) (v := .pointer (some ⟨g, (kk - 1) * 6, none⟩)) (by simp only [execOp, Act.eval]; rw [show a.tmps.getD 118 undef = _ from e5, show a.tmps.getD 120 undef = _ from e7]; simp only [Sem.run_bind, ix_sP hk1n, Result.andThen_ok, Sem.run_pure]) ?_
       exact hK _ _ rfl (msw_ne (by decide) (by decide) hM) (fun _ _ _ _ h => h)
      | 9, ho =>
       obtain rfl := Option.some.inj ho
       intro D a w hM hsl hdep hDi hcl K hK
       have e8 := (hdep ⟨8, .data⟩ (by simp) rfl).1
       have hD15 : D 15 = false := by cases h9 : D 15 with | false => rfl | true => have := hcl 15 _ rfl h9 ⟨9, .data⟩ (by simp) rfl; rw [this] at hDi; cases hDi
       have hD17 : D 17 = false := by cases h9 : D 17 with | false => rfl | true => have := hcl 17 _ rfl h9 ⟨9, .phase⟩ (by simp) rfl; rw [this] at hDi; cases hDi
       have hl := (msw_00 hD15 hD17 hM).load hk1n
       refine ⟨rfl, ?_⟩
       refine wp_val (w' := w) (v := .agg (cl ((rot F kk xm (xm + 1)) (kk - 1))).toArray) (by simp only [execOp, Act.eval]; rw [show a.tmps.getD 121 undef = _ from e8]; simp only [Sem.run_bind, hl, Result.andThen_ok, Sem.run_pure]) ?_
       exact hK _ _ rfl (msw_ne (by decide) (by decide) hM) (fun _ _ _ _ h => h)
      | 10, ho =>
       obtain rfl := Option.some.inj ho
       intro D a w hM hsl hdep hDi hcl K hK
       have hp0 : a.tmps.getD 0 undef = (.slice (some ⟨g, 0, none⟩) n cap) := hsl 0 (by intro j hj; unfold YRvd; split <;> omega)
       refine ⟨rfl, ?_⟩
       refine wp_val (w' := w) (v := (.slice (some ⟨g, 0, none⟩) n cap)) (by simp only [execOp, Act.eval]; rw [show a.tmps.getD 0 undef = _ from hp0]; rfl) ?_
       exact hK _ _ rfl (msw_ne (by decide) (by decide) hM) (fun _ _ _ _ h => h)
      | 11, ho =>
       obtain rfl := Option.some.inj ho
       intro D a w hM hsl hdep hDi hcl K hK
       have hp17 : a.tmps.getD 17 undef = (.int .i64 (kk : Nat)) := hsl 17 (by intro j hj; unfold YRvd; split <;> omega)
       refine ⟨rfl, ?_⟩
       refine wp_val (w' := w) (v := (.int .i64 (kk : Nat))) (by simp only [execOp, Act.eval]; rw [show a.tmps.getD 17 undef = _ from hp17]; rfl) ?_
       exact hK _ _ rfl (msw_ne (by decide) (by decide) hM) (fun _ _ _ _ h => h)
      | 12, ho =>
       obtain rfl := Option.some.inj ho
       intro D a w hM hsl hdep hDi hcl K hK
       have e10 := (hdep ⟨10, .data⟩ (by simp) rfl).1
       have e11 := (hdep ⟨11, .data⟩ (by simp) rfl).1
       refine ⟨rfl, ?_⟩
       refine wp_val (w' := w) (v := .pointer (some ⟨g, (kk) * 6, none⟩)) (by simp only [execOp, Act.eval]; rw [show a.tmps.getD 123 undef = _ from e10, show a.tmps.getD 124 undef = _ from e11]; simp only [Sem.run_bind, ix_sP hkn, Result.andThen_ok, Sem.run_pure]) ?_
       exact hK _ _ rfl (msw_ne (by decide) (by decide) hM) (fun _ _ _ _ h => h)
      | 13, ho =>
       obtain rfl := Option.some.inj ho
       intro D a w hM hsl hdep hDi hcl K hK
       have e12 := (hdep ⟨12, .data⟩ (by simp) rfl).1
       have hD15 : D 15 = false := by cases h9 : D 15 with | false => rfl | true => have := hcl 15 _ rfl h9 ⟨13, .phase⟩ (by simp) rfl; rw [this] at hDi; cases hDi
       have hD17 : D 17 = false := by cases h9 : D 17 with | false => rfl | true => have := hcl 17 _ rfl h9 ⟨13, .data⟩ (by simp) rfl; rw [this] at hDi; cases hDi
       have hl := (msw_00 hD15 hD17 hM).load hkn
       refine ⟨rfl, ?_⟩
       refine wp_val (w' := w) (v := .agg (cl ((rot F kk xm (xm + 1)) (kk))).toArray) (by simp only [execOp, Act.eval]; rw [show a.tmps.getD 125 undef = _ from e12]; simp only [Sem.run_bind, hl, Result.andThen_ok, Sem.run_pure]) ?_
       exact hK _ _ rfl (msw_ne (by decide) (by decide) hM) (fun _ _ _ _ h => h)
      | 14, ho =>
       obtain rfl := Option.some.inj ho
       intro D a w hM hsl hdep hDi hcl K hK
       have e0 := (hdep ⟨0, .data⟩ (by simp) rfl).1
       have e1 := (hdep ⟨1, .data⟩ (by simp) rfl).1
       refine ⟨rfl, ?_⟩
       refine wp_val (w' := w) (v := .pointer (some ⟨g, (kk) * 6, none⟩)) (by simp only [execOp, Act.eval]; rw [show a.tmps.getD 113 undef = _ from e0, show a.tmps.getD 114 undef = _ from e1]; simp only [Sem.run_bind, ix_sP hkn, Result.andThen_ok, Sem.run_pure]) ?_
       exact hK _ _ rfl (msw_ne (by decide) (by decide) hM) (fun _ _ _ _ h => h)
      | 15, ho =>
       obtain rfl := Option.some.inj ho
       intro D a w hM hsl hdep hDi hcl K hK
       have e14 := (hdep ⟨14, .data⟩ (by simp) rfl).1
       have e9 := (hdep ⟨9, .data⟩ (by simp) rfl).1
       obtain ⟨c, hst, hM2⟩ := msw_1 (s1 := 15) (s2 := 17) (by decide) hxy hkn hDi hM
       refine ⟨rfl, ?_⟩
       refine wp_skp (w' := w.setRow g c) (by simp only [execOp, Act.eval]; rw [show a.tmps.getD 127 undef = _ from e14, show a.tmps.getD 122 undef = _ from e9]; simp only [Sem.run_bind, hst, Result.andThen_ok, Sem.run_pure]) ?_
       exact hK _ _ trivial hM2 (fun _ _ _ _ h => h)
      | 16, ho =>
       obtain rfl := Option.some.inj ho
       intro D a w hM hsl hdep hDi hcl K hK
       have e2 := (hdep ⟨2, .data⟩ (by simp) rfl).1
       have e4 := (hdep ⟨4, .data⟩ (by simp) rfl).1
       refine ⟨rfl, ?_⟩
       refine wp_val (w' := w) (v := .pointer (some ⟨g, (kk - 1) * 6, none⟩)) (by simp only [execOp, Act.eval]; rw [show a.tmps.getD 115 undef = _ from e2, show a.tmps.getD 117 undef = _ from e4]; simp only [Sem.run_bind, ix_sP hk1n, Result.andThen_ok, Sem.run_pure]) ?_
       exact hK _ _ rfl (msw_ne (by decide) (by decide) hM) (fun _ _ _ _ h => h)
      | 17, ho =>
       obtain rfl := Option.some.inj ho
       intro D a w hM hsl hdep hDi hcl K hK
       have e16 := (hdep ⟨16, .data⟩ (by simp) rfl).1
       have e13 := (hdep ⟨13, .data⟩ (by simp) rfl).1
       obtain ⟨c, hst, hM2⟩ := msw_2 (s1 := 15) (s2 := 17) (by decide) hxy hk1n hDi hM
       refine ⟨rfl, ?_⟩
       refine wp_skp (w' := w.setRow g c) (by simp only [execOp, Act.eval]; rw [show a.tmps.getD 128 undef = _ from e16, show a.tmps.getD 126 undef = _ from e13]; simp only [Sem.run_bind, hst, Result.andThen_ok, Sem.run_pure]) ?_
       exact hK _ _ trivial hM2 (fun _ _ _ _ h => h)
      | _ + 18, ho => exact absurd ho (by simp)
     ·intro D a wt hall hd hs hM hsl hr hact
      replace hM := msw_11 hxy (hall 15 (by decide)) (hall 17 (by decide)) hM
      simp only [List.filterMap_cons, List.filterMap_nil, List.foldl_cons, List.foldl_nil] at hact
      rw [hact]
      generalize a.tmps.getD 113 undef = y113
      generalize a.tmps.getD 114 undef = y114
      generalize a.tmps.getD 115 undef = y115
      generalize a.tmps.getD 116 undef = y116
      generalize a.tmps.getD 117 undef = y117
      generalize a.tmps.getD 118 undef = y118
      generalize a.tmps.getD 119 undef = y119
      generalize a.tmps.getD 120 undef = y120
      generalize a.tmps.getD 121 undef = y121
      generalize a.tmps.getD 122 undef = y122
      generalize a.tmps.getD 123 undef = y123
      generalize a.tmps.getD 124 undef = y124
      generalize a.tmps.getD 125 undef = y125
      generalize a.tmps.getD 126 undef = y126
      generalize a.tmps.getD 127 undef = y127
      generalize a.tmps.getD 128 undef = y128
      clear hact hsl hr hd hs hall a
      simp only [Act.put, List.setIfInBounds_toArray, List.set_cons_succ, List.set_cons_zero]
      obtain ⟨hR5, hO5⟩ := hM
      rw [hsr.out] at hR5
      have hR6 := hide1 hR5
      have hK6 : Hid (Kg g w wt) := hide1 (hK2.out.trans hO5.kg)
      clear hR5 hO5 hsr hsb hR2 hK2
      go_wp2
      go_roundw
      case rel => exact ⟨kk - 1, by first | rfl | (congr 1; omega) | go_num, by omega, by omega, hR6, hK6⟩
      case measure => simp [intOf]; omega
    ·obtain rfl : i = kk := by omega
     go_wp2
     first
     | (go_end0; exact ⟨rfl, _, hfin.out, hR2.out, hK2.out⟩)
     | (refine bodyPost_ret (results_none rfl _ _ _) rfl ?_; exact ⟨rfl, _, hfin.out, hR2.out, hK2.out⟩)
theorem sub_n {a b : Nat} (h : b ≤ a) (hb : a ≤ 1000000000) (w : World) : (binOp .sub 3 (.int .i64 (a : Nat)) (.int .i64 (b : Nat))).run Tryz.prog w = .ok (.int .i64 (a - b : Nat)) w := by
 have e : ((a - b : Nat) : Int) = (a : Int) - (b : Int) := by omega
 have hwr : IntKind.i64.wrap ((a : Int) - (b : Int)) = (a : Int) - (b : Int) := by go_unwrap
 rw [e]
 simp [go_sem, hwr]
section
variable {F G : Nat → Ep} {a b m s e : Nat}
theorem mgd_no {s e : Nat} (h : a = s ∨ s = e) : Mgd ltE G a s e G := by
 rcases h with rfl | rfl
 ·exact mgd_nl
 ·exact mgd_nr
theorem Rs.sub {x y : Nat} (h : Rs ltE F a b) (h1 : a ≤ x) (h2 : y ≤ b) : Rs ltE F x y := fun i j g1 g2 g3 => h i j (by omega) g2 (by omega)
theorem Rs.eqv {x y : Nat} (h : Rs ltE F a b) (h1 : b - a = y - x) (h2 : ∀ i, i < y - x → G (x + i) = F (a + i)) : Rs ltE G x y := fun i j g1 g2 g3 => by
 have e1 := h2 (i - x) (by omega)
 have e2 := h2 (j - x) (by omega)
 rw [show x + (i - x) = i by omega] at e1
 rw [show x + (j - x) = j by omega] at e2
 rw [e1, e2]
 exact h _ _ (by omega) (by omega) (by omega)
theorem rot_r1 (h : Rs ltE F a m) (h2 : s ≤ m) : Rs ltE (rot F s m e) a s := (h.sub (Nat.le_refl a) h2).eqv rfl fun i hi => by unfold rot; rw [if_neg (by omega), if_neg (by omega)]
theorem rot_r2 (h : Rs ltE F m b) (h3 : m ≤ e) (h4 : e ≤ b) : Rs ltE (rot F s m e) s (s + (e - m)) := (h.sub (Nat.le_refl m) h4).eqv (by omega) fun i hi => by unfold rot; rw [if_pos (by omega)]; congr 1; omega
theorem rot_r3 (h : Rs ltE F a m) (h1 : a ≤ s) (h2 : s ≤ m) (h3 : m ≤ e) : Rs ltE (rot F s m e) (s + (e - m)) e := (h.sub h1 (Nat.le_refl m)).eqv (by omega) fun i hi => by unfold rot; rw [if_neg (by omega), if_pos (by omega)]; congr 1; omega
theorem rot_r4 (h : Rs ltE F m b) (h3 : m ≤ e) (h4 : s ≤ m) : Rs ltE (rot F s m e) e b := (h.sub h3 (Nat.le_refl b)).eqv rfl fun i hi => by unfold rot; rw [if_neg (by omega), if_neg (by omega)]
theorem cut_lo {p c k : Nat} (h1 : Rs ltE F a m) (h2 : Rs ltE F m b) (hl : ltE (F (p - c)) (F c) = false) (g1 : a ≤ k) (g2 : k ≤ c) (g3 : c < m) (g4 : m ≤ p - c) (g5 : p - k < b) (g6 : c ≤ p) : ltE (F (p - k)) (F k) = false :=
 rs_hi h2 (rs_dn h1 hl g1 g2 g3) g4 (by omega) g5
theorem cut_hi {p c k : Nat} (h1 : Rs ltE F a m) (h2 : Rs ltE F m b) (hl : ltE (F (p - c)) (F c) = true) (g1 : a ≤ c) (g2 : c ≤ k) (g3 : k < m) (g4 : m ≤ p - k) (g5 : p - c < b) (g6 : k ≤ p) : ltE (F (p - k)) (F k) = true :=
 rs_lo h2 (rs_up h1 hl g1 g2 g3) g4 (by omega) g5
end
structure Fnd (F : Nat → Ep) (a m b mid s : Nat) : Prop where
 h1 : a ≤ s
 h2 : s ≤ m
 h3 : s ≤ mid
 h4 : mid + m - s ≤ b
 hl : ∀ k, m ≤ k → k < mid + m - s → ∀ k', s ≤ k' → k' < m → ltE (F k) (F k') = true
 hg : ∀ k', a ≤ k' → k' < s → ∀ k, mid + m - s ≤ k → k < b → ltE (F k) (F k') = false
theorem fnd_of {F : Nat → Ep} {a m b mid s s0 r0 : Nat} (hr1 : Rs ltE F a m) (hr2 : Rs ltE F m b) (hm1 : a < mid) (hm2 : mid < b) (hab : mid = (a + b) / 2) (hmb : m < b)
  (h0 : (mid < m ∧ s0 = mid + m - b ∧ r0 = mid) ∨ (m ≤ mid ∧ s0 = a ∧ r0 = m)) (g1 : s0 ≤ s) (g2 : s ≤ r0)
  (hlo : ∀ c, s0 ≤ c → c < s → ltE (F (mid + m - 1 - c)) (F c) = false) (hhi : ∀ c, s ≤ c → c < r0 → ltE (F (mid + m - 1 - c)) (F c) = true) : Fnd F a m b mid s := by
 refine ⟨by omega, by omega, by omega, by omega, fun k k1 k2 k' k3 k4 => ?_, fun k' k1 k2 k k3 k4 => ?_⟩
 ·have h := hhi s (Nat.le_refl _) (by omega)
  exact rs_up hr1 (rs_lo hr2 h k1 (by omega) (by omega)) (by omega) k3 k4
 ·have h := hlo (s - 1) (by omega) (by omega)
  rw [show mid + m - 1 - (s - 1) = mid + m - s by omega] at h
  exact rs_dn hr1 (rs_hi hr2 h (by omega) k3 k4) k1 (by omega) (by omega)
def Sym (N : Nat) : Prop := ∀ {w : World} {B g n cap xa xm xb : Nat} {F : Nat → Ep}, xb - xa ≤ N → Rw w B g n cap F → xa < xm → xm < xb → xb ≤ n → n ≤ 2000000 → Rs ltE F xa xm → Rs ltE F xm xb →
  Calls Tryz.prog 121 #[.slice (some ⟨g, 0, none⟩) n cap, .int .i64 (xa : Nat), .int .i64 (xm : Nat), .int .i64 (xb : Nat), (.func (.func 73) #[] #[])] w fun e w' => e = .returned (.tuple #[]) ∧ ∃ G, Mgd ltE F xa xm xb G ∧ Rw w' B g n cap G ∧ Kg g w w'
set_option maxHeartbeats 16000000 in
set_option maxRecDepth 100000 in
theorem sym_g {M : Nat} (ih : Sym M) {w : World} {B g n cap xa xm xb : Nat} {F : Nat → Ep} (hM : xb - xa ≤ M + 1) (h : Rw w B g n cap F) (ham : xa + 1 < xm) (hmb : xm + 1 < xb) (hbn : xb ≤ n) (hn : n ≤ 2000000) (hr1 : Rs ltE F xa xm) (hr2 : Rs ltE F xm xb) :
  Calls Tryz.prog 121 #[.slice (some ⟨g, 0, none⟩) n cap, .int .i64 (xa : Nat), .int .i64 (xm : Nat), .int .i64 (xb : Nat), (.func (.func 73) #[] #[])] w fun e w' => e = .returned (.tuple #[]) ∧ ∃ G, Mgd ltE F xa xm xb G ∧ Rw w' B g n cap G ∧ Kg g w w' := by
 have h0 := hide1 h
 replace hr1 := hide1 hr1
 replace hr2 := hide1 hr2
 clear h
 obtain ⟨mid, hmid⟩ : ∃ mid, mid = (xa + xb) / 2 := ⟨_, rfl⟩
 have q0 : ((xm : Int) - (xa : Int) == 1) = false := by simp; omega
 have q1 : ((xb : Int) - (xm : Int) == 1) = false := by simp; omega
 have hw1 := half_e (i := xa) (j := xb) (by omega)
 go_enter Tryz.func121, Tryz.ntmps121
 go_upto_region 25 with fail
 have emid : ((xa : Int) + (xb : Int)) / 2 = ((mid : Nat) : Int) := by omega
 rw [emid]
 have hm1 : xa < mid := by omega
 have hm2 : mid < xb := by omega
 obtain ⟨pp, hpp⟩ : ∃ pp, Hid (pp = mid + xm - 1) := ⟨_, hide1 rfl⟩
 replace emid := hide1 emid
 replace hmid := hide1 hmid
 clear q0 q1 hw1
 by_cases hmm : mid < xm
 ·obtain ⟨s0, r0, hs0⟩ : ∃ s0 r0, (mid < xm ∧ s0 = mid + xm - xb ∧ r0 = mid) ∨ (xm ≤ mid ∧ s0 = xa ∧ r0 = xm) := ⟨mid + xm - xb, mid, .inl ⟨hmm, rfl, rfl⟩⟩
  have hN : xa ≤ s0 ∧ r0 ≤ xm ∧ r0 ≤ mid ∧ s0 ≤ r0 ∧ mid + xm ≤ xb + s0 := by have := hmid.out; omega
  obtain ⟨n1, n2, n3, n4, n5⟩ := hN
  have z0 : ((mid + xm - xb : Nat) : Int) = (s0 : Int) := by omega
  have z1 : ((mid : Nat) : Int) = (r0 : Int) := by omega
  have z2 : ((mid + xm - xb : Nat) : Int) = (mid : Int) + (xm : Int) - (xb : Int) := by have := hmid.out; omega
  replace hs0 := hide1 hs0
  replace z0 := hide1 z0
  replace z1 := hide1 z1
  replace z2 := hide1 z2
  go_wp2_with fail
  go_loopw [20, 21] (fun s20 s21 wr => ∃ i jj : Nat, s20 = .int .i64 (i : Nat) ∧ s21 = .int .i64 (jj : Nat) ∧ s0 ≤ i ∧ i ≤ jj ∧ jj ≤ r0 ∧ Hid (∀ c, s0 ≤ c → c < i → ltE (F (pp - c)) (F c) = false) ∧ Hid (∀ c, jj ≤ c → c < r0 → ltE (F (pp - c)) (F c) = true) ∧ Hid (Rw wr B g n cap F) ∧ Hid (Kg g w wr)) (fun s20 s21 _ => (intOf s21).toNat - (intOf s20).toNat)
  case atStart => exact ⟨s0, r0, by have := z0.out; have := z2.out; first | rfl | (congr 1; omega) | congr 1, by have := z1.out; first | rfl | (congr 1; omega) | congr 1, Nat.le_refl _, n4, Nat.le_refl _, hide1 fun c h1 h2 => by omega, hide1 fun c h1 h2 => by omega, h0, hide1 (Kg.refl g w)⟩
  case round =>
   obtain ⟨i, jj, rfl, rfl, hi1, hi2, hi3, hlo, hhi, hR, hK⟩ := hrel
   by_cases hlt : i < jj
   ·obtain ⟨cc, hccd⟩ : ∃ cc, cc = (i + jj) / 2 := ⟨_, rfl⟩
    have hq := hpp.out
    have hccp : cc ≤ pp := by omega
    have hcm : cc < xm := by omega
    have hmq : xm ≤ pp - cc := by omega
    have hqb : pp - cc < xb := by omega
    have hcn : cc < n := by omega
    have hqn : pp - cc < n := by omega
    replace hq := hide1 hq
    have hok1 : EpOk (F (pp - cc)) := hR.out.ok _ hqn
    have hok2 : EpOk (F cc) := hR.out.ok cc hcn
    have hsb := fun w => sub_n (a := pp) (b := cc) hccp (by omega) w
    obtain ⟨R, hRd⟩ : ∃ R, Hid (R = ltE (F (pp - cc)) (F cc)) := ⟨_, hide1 rfl⟩
    have hzr : ∀ w, (binOp .lss 3 (.int .i64 (zc (F (pp - cc)) (F cc))) (.int .i64 0)).run Tryz.prog w = .ok (.bool R) w := fun w => by rw [hRd.out]; exact zc_lt _ _ w
    have hw1 := half_e (i := i) (j := jj) (by omega)
    go_upto_region 35 with fail
    have ecc : ((i : Int) + (jj : Int)) / 2 = ((cc : Nat) : Int) := by omega
    have epp : (mid : Int) + (xm : Int) - 1 = ((pp : Nat) : Int) := by have := hq.out; omega
    rw [ecc, epp]
    replace ecc := hide1 ecc
    replace epp := hide1 epp
    replace hccd := hide1 hccd
    refine wp_flowG 13 _ _ (by kernel_rfl) (by kernel_rfl) (by kernel_rfl) rfl (fun j v _ => v = ([(.func (.func 73) #[] #[]), (.slice (some ⟨g, 0, none⟩) n cap), (.int .i64 (pp : Nat)), (.int .i64 (cc : Nat)), (.int .i64 (pp - cc : Nat)), (.pointer (some ⟨g, (pp - cc) * 6, none⟩)), (.agg (cl (F (pp - cc))).toArray), (.slice (some ⟨g, 0, none⟩) n cap), (.int .i64 (cc : Nat)), (.pointer (some ⟨g, cc * 6, none⟩)), (.agg (cl (F cc)).toArray), (.int .i64 (zc (F (pp - cc)) (F cc))), (.bool R), (.bool (!R))] : List Value).getD j undef) (fun _ _ _ _ h _ => h) ?_ ?_
    ·intro j op hop hj a wa hwa hsz hsl hdep K hK
     match j, hop with
     | 0, hop =>
      obtain rfl := Option.some.inj hop
      have p4 : a.tmps.getD 4 undef = (.func (.func 73) #[] #[]) := hsl 4 rfl
      exact .plain rfl (wp_val (w' := wa) (v := (.func (.func 73) #[] #[])) (by simp only [execOp, Act.eval]; rw [show a.tmps.getD 4 undef = _ from p4]; rfl) (hK _ _ (Below.refl _ _) rfl))
     | 1, hop =>
      obtain rfl := Option.some.inj hop
      have p0 : a.tmps.getD 0 undef = (.slice (some ⟨g, 0, none⟩) n cap) := hsl 0 rfl
      exact .plain rfl (wp_val (w' := wa) (v := (.slice (some ⟨g, 0, none⟩) n cap)) (by simp only [execOp, Act.eval]; rw [show a.tmps.getD 0 undef = _ from p0]; rfl) (hK _ _ (Below.refl _ _) rfl))
     | 2, hop =>
      obtain rfl := Option.some.inj hop
      have p22 : a.tmps.getD 22 undef = (.int .i64 (pp : Nat)) := hsl 22 rfl
      exact .plain rfl (wp_val (w' := wa) (v := (.int .i64 (pp : Nat))) (by simp only [execOp, Act.eval]; rw [show a.tmps.getD 22 undef = _ from p22]; rfl) (hK _ _ (Below.refl _ _) rfl))
     | 3, hop =>
      obtain rfl := Option.some.inj hop
      have p23 : a.tmps.getD 23 undef = (.int .i64 (cc : Nat)) := hsl 23 rfl
      exact .plain rfl (wp_val (w' := wa) (v := (.int .i64 (cc : Nat))) (by simp only [execOp, Act.eval]; rw [show a.tmps.getD 23 undef = _ from p23]; rfl) (hK _ _ (Below.refl _ _) rfl))
     | 4, hop =>
      obtain rfl := Option.some.inj hop
      have t2 : a.tmps.getD 160 undef = (.int .i64 (pp : Nat)) := hdep 2 _ 160 rfl rfl ⟨⟨2, .data⟩, by simp, rfl, rfl⟩
      have t3 : a.tmps.getD 161 undef = (.int .i64 (cc : Nat)) := hdep 3 _ 161 rfl rfl ⟨⟨3, .data⟩, by simp, rfl, rfl⟩
      exact .plain rfl (wp_val (w' := wa) (v := (.int .i64 (pp - cc : Nat))) (by simp only [execOp, Act.eval]; rw [show a.tmps.getD 160 undef = _ from t2, show a.tmps.getD 161 undef = _ from t3]; simp only [Sem.run_bind, eqg_sub, hsb, Result.andThen_ok, Sem.run_pure]) (hK _ _ (Below.refl _ _) rfl))
     | 5, hop =>
      obtain rfl := Option.some.inj hop
      have t1 : a.tmps.getD 159 undef = (.slice (some ⟨g, 0, none⟩) n cap) := hdep 1 _ 159 rfl rfl ⟨⟨1, .data⟩, by simp, rfl, rfl⟩
      have t4 : a.tmps.getD 162 undef = (.int .i64 (pp - cc : Nat)) := hdep 4 _ 162 rfl rfl ⟨⟨4, .data⟩, by simp, rfl, rfl⟩
      exact .plain rfl (wp_val (w' := wa) (v := (.pointer (some ⟨g, (pp - cc) * 6, none⟩))) (by simp only [execOp, Act.eval]; rw [show a.tmps.getD 159 undef = _ from t1, show a.tmps.getD 162 undef = _ from t4]; simp only [Sem.run_bind, ix_sP hqn, Result.andThen_ok, Sem.run_pure]) (hK _ _ (Below.refl _ _) rfl))
     | 6, hop =>
      obtain rfl := Option.some.inj hop
      have t5 : a.tmps.getD 163 undef = (.pointer (some ⟨g, (pp - cc) * 6, none⟩)) := hdep 5 _ 163 rfl rfl ⟨⟨5, .data⟩, by simp, rfl, rfl⟩
      exact .plain rfl (wp_val (w' := wa) (v := (.agg (cl (F (pp - cc))).toArray)) (by simp only [execOp, Act.eval]; rw [show a.tmps.getD 163 undef = _ from t5]; simp only [Sem.run_bind, (hR.out.later hwa).load hqn, Result.andThen_ok, Sem.run_pure]) (hK _ _ (Below.refl _ _) rfl))
     | 7, hop =>
      obtain rfl := Option.some.inj hop
      have p0 : a.tmps.getD 0 undef = (.slice (some ⟨g, 0, none⟩) n cap) := hsl 0 rfl
      exact .plain rfl (wp_val (w' := wa) (v := (.slice (some ⟨g, 0, none⟩) n cap)) (by simp only [execOp, Act.eval]; rw [show a.tmps.getD 0 undef = _ from p0]; rfl) (hK _ _ (Below.refl _ _) rfl))
     | 8, hop =>
      obtain rfl := Option.some.inj hop
      have p23 : a.tmps.getD 23 undef = (.int .i64 (cc : Nat)) := hsl 23 rfl
      exact .plain rfl (wp_val (w' := wa) (v := (.int .i64 (cc : Nat))) (by simp only [execOp, Act.eval]; rw [show a.tmps.getD 23 undef = _ from p23]; rfl) (hK _ _ (Below.refl _ _) rfl))
     | 9, hop =>
      obtain rfl := Option.some.inj hop
      have t7 : a.tmps.getD 165 undef = (.slice (some ⟨g, 0, none⟩) n cap) := hdep 7 _ 165 rfl rfl ⟨⟨7, .data⟩, by simp, rfl, rfl⟩
      have t8 : a.tmps.getD 166 undef = (.int .i64 (cc : Nat)) := hdep 8 _ 166 rfl rfl ⟨⟨8, .data⟩, by simp, rfl, rfl⟩
      exact .plain rfl (wp_val (w' := wa) (v := (.pointer (some ⟨g, cc * 6, none⟩))) (by simp only [execOp, Act.eval]; rw [show a.tmps.getD 165 undef = _ from t7, show a.tmps.getD 166 undef = _ from t8]; simp only [Sem.run_bind, ix_sP hcn, Result.andThen_ok, Sem.run_pure]) (hK _ _ (Below.refl _ _) rfl))
     | 10, hop =>
      obtain rfl := Option.some.inj hop
      have t9 : a.tmps.getD 167 undef = (.pointer (some ⟨g, cc * 6, none⟩)) := hdep 9 _ 167 rfl rfl ⟨⟨9, .data⟩, by simp, rfl, rfl⟩
      exact .plain rfl (wp_val (w' := wa) (v := (.agg (cl (F cc)).toArray)) (by simp only [execOp, Act.eval]; rw [show a.tmps.getD 167 undef = _ from t9]; simp only [Sem.run_bind, (hR.out.later hwa).load hcn, Result.andThen_ok, Sem.run_pure]) (hK _ _ (Below.refl _ _) rfl))
     | 11, hop =>
      obtain rfl := Option.some.inj hop
      have t6 : a.tmps.getD 164 undef = (.agg (cl (F (pp - cc))).toArray) := hdep 6 _ 164 rfl rfl ⟨⟨6, .data⟩, by simp, rfl, rfl⟩
      have t10 : a.tmps.getD 168 undef = (.agg (cl (F cc)).toArray) := hdep 10 _ 168 rfl rfl ⟨⟨10, .data⟩, by simp, rfl, rfl⟩
      have t0 : a.tmps.getD 158 undef = (.func (.func 73) #[] #[]) := hdep 0 _ 158 rfl rfl ⟨⟨0, .data⟩, by simp, rfl, rfl⟩
      refine .plain rfl (oper_anyv (J := fun r w' => r = (.int .i64 (zc (F (pp - cc)) (F cc))) ∧ Below wa.heap.size wa w') 73 (.tmp 158) #[.tmp 164, .tmp 168] _ rfl (show a.tmps.getD 158 undef = _ from t0) #[(.agg (cl (F (pp - cc))).toArray), (.agg (cl (F cc)).toArray)] (by simp only [List.map_toArray, List.map_cons, List.map_nil, Act.eval]; rw [show a.tmps.getD 164 undef = _ from t6, show a.tmps.getD 168 undef = _ from t10]) (fun w => by kernel_rfl) ((cmp_d hok1 hok2).mono fun e w' h => ⟨_, h.1, rfl, h.2⟩) ?_)
      rintro r w' ⟨rfl, hb⟩
      exact hK _ _ hb rfl
     | 12, hop =>
      obtain rfl := Option.some.inj hop
      have t11 : a.tmps.getD 169 undef = (.int .i64 (zc (F (pp - cc)) (F cc))) := hdep 11 _ 169 rfl rfl ⟨⟨11, .data⟩, by simp, rfl, rfl⟩
      exact .plain rfl (wp_val (w' := wa) (v := (.bool R)) (by simp only [execOp, Act.eval]; rw [show a.tmps.getD 169 undef = _ from t11]; simp only [Sem.run_bind, eqg_lss, hzr, Result.andThen_ok, Sem.run_pure]) (hK _ _ (Below.refl _ _) rfl))
     | 13, _ => exact absurd rfl hj
     | _ + 14, hop => exact absurd hop (by simp)
    ·intro a wa hwa hdf hsz hsl hrr K hK
     have t12 : a.tmps.getD 170 undef = (.bool R) := hrr 12 _ 170 rfl (by decide) rfl
     refine .plain rfl (wp_val (w' := wa) (v := (.bool (!R))) (by simp only [execOp, Act.eval]; rw [show a.tmps.getD 170 undef = _ from t12]; kernel_rfl) ?_)
     refine hK _ wa ?_
     have hact := act_puts hdf hsz hsl
     clear hrr hsl hdf hsz hK t12
     simp only [List.filterMap_cons, List.filterMap_nil, List.foldl_cons, List.foldl_nil] at hact
     rw [hact]
     generalize a.tmps.getD 158 undef = y158
     generalize a.tmps.getD 159 undef = y159
     generalize a.tmps.getD 160 undef = y160
     generalize a.tmps.getD 161 undef = y161
     generalize a.tmps.getD 162 undef = y162
     generalize a.tmps.getD 163 undef = y163
     generalize a.tmps.getD 164 undef = y164
     generalize a.tmps.getD 165 undef = y165
     generalize a.tmps.getD 166 undef = y166
     generalize a.tmps.getD 167 undef = y167
     generalize a.tmps.getD 168 undef = y168
     generalize a.tmps.getD 169 undef = y169
     generalize a.tmps.getD 170 undef = y170
     clear hact
     simp only [Act.put, List.setIfInBounds_toArray, List.set_cons_succ, List.set_cons_zero]
     rw [← epp.out]
     have hR4 := hide1 (hR.out.later hwa)
     have hK4 : Hid (Kg g w wa) := hide1 (hK.out.trans (Kg.ofB hwa))
     clear hzr hwa hR hK hsb
     have hd := hccd.out
     cases R with
     | false =>
      have hlo2 : Hid (∀ c, s0 ≤ c → c < cc + 1 → ltE (F (pp - c)) (F c) = false) := hide1 fun c h1 h2 => cut_lo hr1.out hr2.out hRd.out.symm (by omega) (by omega) hcm hmq (by have := hq.out; omega) hccp
      replace hd := hide1 hd
      clear hlo hRd
      go_wp2
      go_roundw
      case rel => exact ⟨cc + 1, jj, by first | rfl | (congr 1; omega) | go_num, rfl, by have := hd.out; omega, by have := hd.out; omega, hi3, hlo2, hhi, hR4, hK4⟩
      case measure => have := hd.out; simp [intOf]; omega
     | true =>
      have hhi2 : Hid (∀ c, cc ≤ c → c < r0 → ltE (F (pp - c)) (F c) = true) := hide1 fun c h1 h2 => cut_hi hr1.out hr2.out hRd.out.symm (by omega) h1 (by omega) (by have := hq.out; omega) hqb (by have := hq.out; omega)
      replace hd := hide1 hd
      clear hhi hRd
      go_wp2
      go_roundw
      case rel => exact ⟨i, cc, rfl, by first | rfl | (congr 1; omega) | go_num, hi1, by have := hd.out; omega, by have := hd.out; omega, hlo, hhi2, hR4, hK4⟩
      case measure => have := hd.out; simp [intOf]; omega
   ·obtain ⟨s, hsi⟩ : ∃ s, s = i := ⟨_, rfl⟩
    obtain rfl : i = jj := by omega
    subst hsi
    obtain ⟨e, he⟩ : ∃ e, e = mid + xm - s := ⟨_, rfl⟩
    have hf : Fnd F xa xm xb mid s := fnd_of hr1.out hr2.out hm1 hm2 hmid.out (by omega) hs0.out hi1 hi3 (by have := hlo.out; rwa [hpp.out] at this) (by have := hhi.out; rwa [hpp.out] at this)
    obtain ⟨f1, f2, f3, f4, hfl, hfg⟩ := hf
    rw [← he] at f4 hfl hfg
    have f5 : xm ≤ e := by omega
    have f6 : mid ≤ e := by omega
    have hmide : Hid (s + (e - xm) = mid) := hide1 (by omega)
    have ee : (mid : Int) + (xm : Int) - (s : Int) = ((e : Nat) : Int) := by omega
    replace he := hide1 he
    replace hfl := hide1 hfl
    replace hfg := hide1 hfg
    clear hlo hhi
    replace ee := hide1 ee
    go_upto_region 39 with fail
    rw [ee.out]
    by_cases c1 : s < xm
    ·have ic10 : (s : Int) < (xm : Int) := by have := he.out; omega
     have ic11 : (mid : Int) < (e : Int) := by have := he.out; omega
     by_cases c2 : s < mid
     ·have ic20 : (s : Int) < (mid : Int) := by have := he.out; omega
      have ic21 : (xm : Int) < (e : Int) := by have := he.out; omega
      by_cases c3 : xa < s
      ·have ic30 : (xa : Int) < (s : Int) := by have := he.out; omega
       by_cases c4 : e < xb
       ·have ic40 : (e : Int) < (xb : Int) := by have := he.out; omega
        go_wp2_with fail
        refine (rot_d (xa := s) (xm := xm) (xb := e) hR.out c1 (by omega) (by omega) hn).mono ?_
        rintro er w1 ⟨rfl, hRa, hO1⟩
        have hRb := hide1 hRa
        have hKb := hide1 (hK.out.trans hO1.kg)
        clear hRa hO1 hR hK
        have hc := ih (xa := xa) (xm := s) (xb := mid) (by omega) hRb.out c3 c2 (by omega) hn (rot_r1 hr1.out (by omega)) (hmide.out ▸ rot_r2 (s := s) hr2.out (by omega) (by omega))
        go_wp2_with fail
        refine hc.mono ?_
        rintro er w2 ⟨rfl, G, hG0, hRc, hKc⟩
        have hG := hide1 hG0
        have hRd := hide1 hRc
        have hKd := hide1 (hKb.out.trans hKc)
        clear hc hG0 hRc hKc hRb hKb
        have hr5 : Rs ltE G mid e := fun i j g1 g2 g3 => by
         rw [hG.out.1 i (by omega), hG.out.1 j (by omega)]
         exact (hmide.out ▸ rot_r3 (s := s) (e := e) hr1.out (by omega) (by omega) (by omega) : Rs ltE (rot F s xm e) mid e) i j g1 g2 g3
        have hr6 : Rs ltE G e xb := fun i j g1 g2 g3 => by
         rw [hG.out.1 i (by omega), hG.out.1 j (by omega)]
         exact (rot_r4 (s := s) (e := e) hr2.out (by omega) (by omega)) i j g1 g2 g3
        have hc := ih (xa := mid) (xm := e) (xb := xb) (by omega) hRd.out (by omega) c4 hbn hn hr5 hr6
        clear hr5 hr6
        go_wp2_with fail
        refine hc.mono ?_
        rintro er w3 ⟨rfl, H, hH0, hRe, hKe⟩
        have hH := hide1 hH0
        have hRf := hide1 hRe
        have hKf := hide1 (hKd.out.trans hKe)
        clear hc hH0 hRe hKe hRd hKd
        have hfin : Hid (Mgd ltE F xa xm xb H) := hide1 (mgd_two (s := s) (e := e) (by omega) (by omega) (by omega) (by omega) hfl.out hfg.out (by rw [hmide.out]; exact hG.out) (by rw [hmide.out]; exact hH.out))
        clear hG hH hfl hfg
        go_wp2
        all_goals (go_end0; exact ⟨rfl, H, hfin.out, hRf.out, hKf.out⟩)
       ·have ic40 : ¬ (e : Int) < (xb : Int) := by have := he.out; omega
        go_wp2_with fail
        refine (rot_d (xa := s) (xm := xm) (xb := e) hR.out c1 (by omega) (by omega) hn).mono ?_
        rintro er w1 ⟨rfl, hRa, hO1⟩
        have hRb := hide1 hRa
        have hKb := hide1 (hK.out.trans hO1.kg)
        clear hRa hO1 hR hK
        have hc := ih (xa := xa) (xm := s) (xb := mid) (by omega) hRb.out c3 c2 (by omega) hn (rot_r1 hr1.out (by omega)) (hmide.out ▸ rot_r2 (s := s) hr2.out (by omega) (by omega))
        go_wp2_with fail
        refine hc.mono ?_
        rintro er w2 ⟨rfl, G, hG0, hRc, hKc⟩
        have hG := hide1 hG0
        have hRd := hide1 hRc
        have hKd := hide1 (hKb.out.trans hKc)
        clear hc hG0 hRc hKc hRb hKb
        obtain ⟨H, hHe⟩ : ∃ H, Hid (H = G) := ⟨_, hide1 rfl⟩
        have hH : Hid (Mgd ltE G mid e xb H) := hide1 (by rw [hHe.out]; exact mgd_no (by omega))
        have hRf := hRd
        have hKf := hKd
        rw [← hHe.out] at hRf
        clear hRd hKd
        have hfin : Hid (Mgd ltE F xa xm xb H) := hide1 (mgd_two (s := s) (e := e) (by omega) (by omega) (by omega) (by omega) hfl.out hfg.out (by rw [hmide.out]; exact hG.out) (by rw [hmide.out]; exact hH.out))
        clear hG hH hfl hfg
        go_wp2
        all_goals (go_end0; exact ⟨rfl, H, hfin.out, hRf.out, hKf.out⟩)
      ·have ic30 : ¬ (xa : Int) < (s : Int) := by have := he.out; omega
       by_cases c4 : e < xb
       ·have ic40 : (e : Int) < (xb : Int) := by have := he.out; omega
        go_wp2_with fail
        refine (rot_d (xa := s) (xm := xm) (xb := e) hR.out c1 (by omega) (by omega) hn).mono ?_
        rintro er w1 ⟨rfl, hRa, hO1⟩
        have hRb := hide1 hRa
        have hKb := hide1 (hK.out.trans hO1.kg)
        clear hRa hO1 hR hK
        obtain ⟨G, hGe⟩ : ∃ G, Hid (G = rot F s xm e) := ⟨_, hide1 rfl⟩
        have hG : Hid (Mgd ltE (rot F s xm e) xa s mid G) := hide1 (by rw [hGe.out]; exact mgd_no (by omega))
        have hRd : Hid (Rw w1 B g n cap G) := hide1 (by rw [hGe.out]; exact hRb.out)
        have hKd := hKb
        clear hRb hKb
        have hr5 : Rs ltE G mid e := fun i j g1 g2 g3 => by
         rw [hG.out.1 i (by omega), hG.out.1 j (by omega)]
         exact (hmide.out ▸ rot_r3 (s := s) (e := e) hr1.out (by omega) (by omega) (by omega) : Rs ltE (rot F s xm e) mid e) i j g1 g2 g3
        have hr6 : Rs ltE G e xb := fun i j g1 g2 g3 => by
         rw [hG.out.1 i (by omega), hG.out.1 j (by omega)]
         exact (rot_r4 (s := s) (e := e) hr2.out (by omega) (by omega)) i j g1 g2 g3
        have hc := ih (xa := mid) (xm := e) (xb := xb) (by omega) hRd.out (by omega) c4 hbn hn hr5 hr6
        clear hr5 hr6
        go_wp2_with fail
        refine hc.mono ?_
        rintro er w3 ⟨rfl, H, hH0, hRe, hKe⟩
        have hH := hide1 hH0
        have hRf := hide1 hRe
        have hKf := hide1 (hKd.out.trans hKe)
        clear hc hH0 hRe hKe hRd hKd
        have hfin : Hid (Mgd ltE F xa xm xb H) := hide1 (mgd_two (s := s) (e := e) (by omega) (by omega) (by omega) (by omega) hfl.out hfg.out (by rw [hmide.out]; exact hG.out) (by rw [hmide.out]; exact hH.out))
        clear hG hH hfl hfg
        go_wp2
        all_goals (go_end0; exact ⟨rfl, H, hfin.out, hRf.out, hKf.out⟩)
       ·have ic40 : ¬ (e : Int) < (xb : Int) := by have := he.out; omega
        go_wp2_with fail
        refine (rot_d (xa := s) (xm := xm) (xb := e) hR.out c1 (by omega) (by omega) hn).mono ?_
        rintro er w1 ⟨rfl, hRa, hO1⟩
        have hRb := hide1 hRa
        have hKb := hide1 (hK.out.trans hO1.kg)
        clear hRa hO1 hR hK
        obtain ⟨G, hGe⟩ : ∃ G, Hid (G = rot F s xm e) := ⟨_, hide1 rfl⟩
        have hG : Hid (Mgd ltE (rot F s xm e) xa s mid G) := hide1 (by rw [hGe.out]; exact mgd_no (by omega))
        have hRd : Hid (Rw w1 B g n cap G) := hide1 (by rw [hGe.out]; exact hRb.out)
        have hKd := hKb
        clear hRb hKb
        obtain ⟨H, hHe⟩ : ∃ H, Hid (H = G) := ⟨_, hide1 rfl⟩
        have hH : Hid (Mgd ltE G mid e xb H) := hide1 (by rw [hHe.out]; exact mgd_no (by omega))
        have hRf := hRd
        have hKf := hKd
        rw [← hHe.out] at hRf
        clear hRd hKd
        have hfin : Hid (Mgd ltE F xa xm xb H) := hide1 (mgd_two (s := s) (e := e) (by omega) (by omega) (by omega) (by omega) hfl.out hfg.out (by rw [hmide.out]; exact hG.out) (by rw [hmide.out]; exact hH.out))
        clear hG hH hfl hfg
        go_wp2
        all_goals (go_end0; exact ⟨rfl, H, hfin.out, hRf.out, hKf.out⟩)
     ·have ic20 : ¬ (s : Int) < (mid : Int) := by have := he.out; omega
      have ic21 : ¬ (xm : Int) < (e : Int) := by have := he.out; omega
      by_cases c3 : xa < s
      ·have ic30 : (xa : Int) < (s : Int) := by have := he.out; omega
       by_cases c4 : e < xb
       ·have ic40 : (e : Int) < (xb : Int) := by have := he.out; omega
        have hRb : Hid (Rw wr B g n cap (rot F s xm e)) := hide1 (by rw [rot_id F (by omega)]; exact hR.out)
        have hKb := hK
        clear hR hK
        obtain ⟨G, hGe⟩ : ∃ G, Hid (G = rot F s xm e) := ⟨_, hide1 rfl⟩
        have hG : Hid (Mgd ltE (rot F s xm e) xa s mid G) := hide1 (by rw [hGe.out]; exact mgd_no (by omega))
        have hRd : Hid (Rw wr B g n cap G) := hide1 (by rw [hGe.out]; exact hRb.out)
        have hKd := hKb
        clear hRb hKb
        have hr5 : Rs ltE G mid e := fun i j g1 g2 g3 => by
         rw [hG.out.1 i (by omega), hG.out.1 j (by omega)]
         exact (hmide.out ▸ rot_r3 (s := s) (e := e) hr1.out (by omega) (by omega) (by omega) : Rs ltE (rot F s xm e) mid e) i j g1 g2 g3
        have hr6 : Rs ltE G e xb := fun i j g1 g2 g3 => by
         rw [hG.out.1 i (by omega), hG.out.1 j (by omega)]
         exact (rot_r4 (s := s) (e := e) hr2.out (by omega) (by omega)) i j g1 g2 g3
        have hc := ih (xa := mid) (xm := e) (xb := xb) (by omega) hRd.out (by omega) c4 hbn hn hr5 hr6
        clear hr5 hr6
        go_wp2_with fail
        refine hc.mono ?_
        rintro er w3 ⟨rfl, H, hH0, hRe, hKe⟩
        have hH := hide1 hH0
        have hRf := hide1 hRe
        have hKf := hide1 (hKd.out.trans hKe)
        clear hc hH0 hRe hKe hRd hKd
        have hfin : Hid (Mgd ltE F xa xm xb H) := hide1 (mgd_two (s := s) (e := e) (by omega) (by omega) (by omega) (by omega) hfl.out hfg.out (by rw [hmide.out]; exact hG.out) (by rw [hmide.out]; exact hH.out))
        clear hG hH hfl hfg
        go_wp2
        all_goals (go_end0; exact ⟨rfl, H, hfin.out, hRf.out, hKf.out⟩)
       ·have ic40 : ¬ (e : Int) < (xb : Int) := by have := he.out; omega
        have hRb : Hid (Rw wr B g n cap (rot F s xm e)) := hide1 (by rw [rot_id F (by omega)]; exact hR.out)
        have hKb := hK
        clear hR hK
        obtain ⟨G, hGe⟩ : ∃ G, Hid (G = rot F s xm e) := ⟨_, hide1 rfl⟩
        have hG : Hid (Mgd ltE (rot F s xm e) xa s mid G) := hide1 (by rw [hGe.out]; exact mgd_no (by omega))
        have hRd : Hid (Rw wr B g n cap G) := hide1 (by rw [hGe.out]; exact hRb.out)
        have hKd := hKb
        clear hRb hKb
        obtain ⟨H, hHe⟩ : ∃ H, Hid (H = G) := ⟨_, hide1 rfl⟩
        have hH : Hid (Mgd ltE G mid e xb H) := hide1 (by rw [hHe.out]; exact mgd_no (by omega))
        have hRf := hRd
        have hKf := hKd
        rw [← hHe.out] at hRf
        clear hRd hKd
        have hfin : Hid (Mgd ltE F xa xm xb H) := hide1 (mgd_two (s := s) (e := e) (by omega) (by omega) (by omega) (by omega) hfl.out hfg.out (by rw [hmide.out]; exact hG.out) (by rw [hmide.out]; exact hH.out))
        clear hG hH hfl hfg
        go_wp2
        all_goals (go_end0; exact ⟨rfl, H, hfin.out, hRf.out, hKf.out⟩)
      ·have ic30 : ¬ (xa : Int) < (s : Int) := by have := he.out; omega
       by_cases c4 : e < xb
       ·have ic40 : (e : Int) < (xb : Int) := by have := he.out; omega
        have hRb : Hid (Rw wr B g n cap (rot F s xm e)) := hide1 (by rw [rot_id F (by omega)]; exact hR.out)
        have hKb := hK
        clear hR hK
        obtain ⟨G, hGe⟩ : ∃ G, Hid (G = rot F s xm e) := ⟨_, hide1 rfl⟩
        have hG : Hid (Mgd ltE (rot F s xm e) xa s mid G) := hide1 (by rw [hGe.out]; exact mgd_no (by omega))
        have hRd : Hid (Rw wr B g n cap G) := hide1 (by rw [hGe.out]; exact hRb.out)
        have hKd := hKb
        clear hRb hKb
        have hr5 : Rs ltE G mid e := fun i j g1 g2 g3 => by
         rw [hG.out.1 i (by omega), hG.out.1 j (by omega)]
         exact (hmide.out ▸ rot_r3 (s := s) (e := e) hr1.out (by omega) (by omega) (by omega) : Rs ltE (rot F s xm e) mid e) i j g1 g2 g3
        have hr6 : Rs ltE G e xb := fun i j g1 g2 g3 => by
         rw [hG.out.1 i (by omega), hG.out.1 j (by omega)]
         exact (rot_r4 (s := s) (e := e) hr2.out (by omega) (by omega)) i j g1 g2 g3
        have hc := ih (xa := mid) (xm := e) (xb := xb) (by omega) hRd.out (by omega) c4 hbn hn hr5 hr6
        clear hr5 hr6
        go_wp2_with fail
        refine hc.mono ?_
        rintro er w3 ⟨rfl, H, hH0, hRe, hKe⟩
        have hH := hide1 hH0
        have hRf := hide1 hRe
        have hKf := hide1 (hKd.out.trans hKe)
        clear hc hH0 hRe hKe hRd hKd
        have hfin : Hid (Mgd ltE F xa xm xb H) := hide1 (mgd_two (s := s) (e := e) (by omega) (by omega) (by omega) (by omega) hfl.out hfg.out (by rw [hmide.out]; exact hG.out) (by rw [hmide.out]; exact hH.out))
        clear hG hH hfl hfg
        go_wp2
        all_goals (go_end0; exact ⟨rfl, H, hfin.out, hRf.out, hKf.out⟩)
       ·have ic40 : ¬ (e : Int) < (xb : Int) := by have := he.out; omega
        have hRb : Hid (Rw wr B g n cap (rot F s xm e)) := hide1 (by rw [rot_id F (by omega)]; exact hR.out)
        have hKb := hK
        clear hR hK
        obtain ⟨G, hGe⟩ : ∃ G, Hid (G = rot F s xm e) := ⟨_, hide1 rfl⟩
        have hG : Hid (Mgd ltE (rot F s xm e) xa s mid G) := hide1 (by rw [hGe.out]; exact mgd_no (by omega))
        have hRd : Hid (Rw wr B g n cap G) := hide1 (by rw [hGe.out]; exact hRb.out)
        have hKd := hKb
        clear hRb hKb
        obtain ⟨H, hHe⟩ : ∃ H, Hid (H = G) := ⟨_, hide1 rfl⟩
        have hH : Hid (Mgd ltE G mid e xb H) := hide1 (by rw [hHe.out]; exact mgd_no (by omega))
        have hRf := hRd
        have hKf := hKd
        rw [← hHe.out] at hRf
        clear hRd hKd
        have hfin : Hid (Mgd ltE F xa xm xb H) := hide1 (mgd_two (s := s) (e := e) (by omega) (by omega) (by omega) (by omega) hfl.out hfg.out (by rw [hmide.out]; exact hG.out) (by rw [hmide.out]; exact hH.out))
        clear hG hH hfl hfg
        go_wp2
        all_goals (go_end0; exact ⟨rfl, H, hfin.out, hRf.out, hKf.out⟩)
    ·have ic10 : ¬ (s : Int) < (xm : Int) := by have := he.out; omega
     have ic11 : ¬ (mid : Int) < (e : Int) := by have := he.out; omega
     by_cases c2 : s < mid
     ·have ic20 : (s : Int) < (mid : Int) := by have := he.out; omega
      have ic21 : (xm : Int) < (e : Int) := by have := he.out; omega
      by_cases c3 : xa < s
      ·have ic30 : (xa : Int) < (s : Int) := by have := he.out; omega
       by_cases c4 : e < xb
       ·have ic40 : (e : Int) < (xb : Int) := by have := he.out; omega
        have hRb : Hid (Rw wr B g n cap (rot F s xm e)) := hide1 (by rw [rot_id F (by omega)]; exact hR.out)
        have hKb := hK
        clear hR hK
        have hc := ih (xa := xa) (xm := s) (xb := mid) (by omega) hRb.out c3 c2 (by omega) hn (rot_r1 hr1.out (by omega)) (hmide.out ▸ rot_r2 (s := s) hr2.out (by omega) (by omega))
        go_wp2_with fail
        refine hc.mono ?_
        rintro er w2 ⟨rfl, G, hG0, hRc, hKc⟩
        have hG := hide1 hG0
        have hRd := hide1 hRc
        have hKd := hide1 (hKb.out.trans hKc)
        clear hc hG0 hRc hKc hRb hKb
        obtain ⟨H, hHe⟩ : ∃ H, Hid (H = G) := ⟨_, hide1 rfl⟩
        have hH : Hid (Mgd ltE G mid e xb H) := hide1 (by rw [hHe.out]; exact mgd_no (by omega))
        have hRf := hRd
        have hKf := hKd
        rw [← hHe.out] at hRf
        clear hRd hKd
        have hfin : Hid (Mgd ltE F xa xm xb H) := hide1 (mgd_two (s := s) (e := e) (by omega) (by omega) (by omega) (by omega) hfl.out hfg.out (by rw [hmide.out]; exact hG.out) (by rw [hmide.out]; exact hH.out))
        clear hG hH hfl hfg
        go_wp2
        all_goals (go_end0; exact ⟨rfl, H, hfin.out, hRf.out, hKf.out⟩)
       ·have ic40 : ¬ (e : Int) < (xb : Int) := by have := he.out; omega
        have hRb : Hid (Rw wr B g n cap (rot F s xm e)) := hide1 (by rw [rot_id F (by omega)]; exact hR.out)
        have hKb := hK
        clear hR hK
        have hc := ih (xa := xa) (xm := s) (xb := mid) (by omega) hRb.out c3 c2 (by omega) hn (rot_r1 hr1.out (by omega)) (hmide.out ▸ rot_r2 (s := s) hr2.out (by omega) (by omega))
        go_wp2_with fail
        refine hc.mono ?_
        rintro er w2 ⟨rfl, G, hG0, hRc, hKc⟩
        have hG := hide1 hG0
        have hRd := hide1 hRc
        have hKd := hide1 (hKb.out.trans hKc)
        clear hc hG0 hRc hKc hRb hKb
        obtain ⟨H, hHe⟩ : ∃ H, Hid (H = G) := ⟨_, hide1 rfl⟩
        have hH : Hid (Mgd ltE G mid e xb H) := hide1 (by rw [hHe.out]; exact mgd_no (by omega))
        have hRf := hRd
        have hKf := hKd
        rw [← hHe.out] at hRf
        clear hRd hKd
        have hfin : Hid (Mgd ltE F xa xm xb H) := hide1 (mgd_two (s := s) (e := e) (by omega) (by omega) (by omega) (by omega) hfl.out hfg.out (by rw [hmide.out]; exact hG.out) (by rw [hmide.out]; exact hH.out))
        clear hG hH hfl hfg
        go_wp2
        all_goals (go_end0; exact ⟨rfl, H, hfin.out, hRf.out, hKf.out⟩)
      ·have ic30 : ¬ (xa : Int) < (s : Int) := by have := he.out; omega
       by_cases c4 : e < xb
       ·have ic40 : (e : Int) < (xb : Int) := by have := he.out; omega
        have hRb : Hid (Rw wr B g n cap (rot F s xm e)) := hide1 (by rw [rot_id F (by omega)]; exact hR.out)
        have hKb := hK
        clear hR hK
        obtain ⟨G, hGe⟩ : ∃ G, Hid (G = rot F s xm e) := ⟨_, hide1 rfl⟩
        have hG : Hid (Mgd ltE (rot F s xm e) xa s mid G) := hide1 (by rw [hGe.out]; exact mgd_no (by omega))
        have hRd : Hid (Rw wr B g n cap G) := hide1 (by rw [hGe.out]; exact hRb.out)
        have hKd := hKb
        clear hRb hKb
        obtain ⟨H, hHe⟩ : ∃ H, Hid (H = G) := ⟨_, hide1 rfl⟩
        have hH : Hid (Mgd ltE G mid e xb H) := hide1 (by rw [hHe.out]; exact mgd_no (by omega))
        have hRf := hRd
        have hKf := hKd
        rw [← hHe.out] at hRf
        clear hRd hKd
        have hfin : Hid (Mgd ltE F xa xm xb H) := hide1 (mgd_two (s := s) (e := e) (by omega) (by omega) (by omega) (by omega) hfl.out hfg.out (by rw [hmide.out]; exact hG.out) (by rw [hmide.out]; exact hH.out))
        clear hG hH hfl hfg
        go_wp2
        all_goals (go_end0; exact ⟨rfl, H, hfin.out, hRf.out, hKf.out⟩)
       ·have ic40 : ¬ (e : Int) < (xb : Int) := by have := he.out; omega
        have hRb : Hid (Rw wr B g n cap (rot F s xm e)) := hide1 (by rw [rot_id F (by omega)]; exact hR.out)
        have hKb := hK
        clear hR hK
        obtain ⟨G, hGe⟩ : ∃ G, Hid (G = rot F s xm e) := ⟨_, hide1 rfl⟩
        have hG : Hid (Mgd ltE (rot F s xm e) xa s mid G) := hide1 (by rw [hGe.out]; exact mgd_no (by omega))
        have hRd : Hid (Rw wr B g n cap G) := hide1 (by rw [hGe.out]; exact hRb.out)
        have hKd := hKb
        clear hRb hKb
        obtain ⟨H, hHe⟩ : ∃ H, Hid (H = G) := ⟨_, hide1 rfl⟩
        have hH : Hid (Mgd ltE G mid e xb H) := hide1 (by rw [hHe.out]; exact mgd_no (by omega))
        have hRf := hRd
        have hKf := hKd
        rw [← hHe.out] at hRf
        clear hRd hKd
        have hfin : Hid (Mgd ltE F xa xm xb H) := hide1 (mgd_two (s := s) (e := e) (by omega) (by omega) (by omega) (by omega) hfl.out hfg.out (by rw [hmide.out]; exact hG.out) (by rw [hmide.out]; exact hH.out))
        clear hG hH hfl hfg
        go_wp2
        all_goals (go_end0; exact ⟨rfl, H, hfin.out, hRf.out, hKf.out⟩)
     ·have ic20 : ¬ (s : Int) < (mid : Int) := by have := he.out; omega
      have ic21 : ¬ (xm : Int) < (e : Int) := by have := he.out; omega
      by_cases c3 : xa < s
      ·have ic30 : (xa : Int) < (s : Int) := by have := he.out; omega
       by_cases c4 : e < xb
       ·have ic40 : (e : Int) < (xb : Int) := by have := he.out; omega
        have hRb : Hid (Rw wr B g n cap (rot F s xm e)) := hide1 (by rw [rot_id F (by omega)]; exact hR.out)
        have hKb := hK
        clear hR hK
        obtain ⟨G, hGe⟩ : ∃ G, Hid (G = rot F s xm e) := ⟨_, hide1 rfl⟩
        have hG : Hid (Mgd ltE (rot F s xm e) xa s mid G) := hide1 (by rw [hGe.out]; exact mgd_no (by omega))
        have hRd : Hid (Rw wr B g n cap G) := hide1 (by rw [hGe.out]; exact hRb.out)
        have hKd := hKb
        clear hRb hKb
        obtain ⟨H, hHe⟩ : ∃ H, Hid (H = G) := ⟨_, hide1 rfl⟩
        have hH : Hid (Mgd ltE G mid e xb H) := hide1 (by rw [hHe.out]; exact mgd_no (by omega))
        have hRf := hRd
        have hKf := hKd
        rw [← hHe.out] at hRf
        clear hRd hKd
        have hfin : Hid (Mgd ltE F xa xm xb H) := hide1 (mgd_two (s := s) (e := e) (by omega) (by omega) (by omega) (by omega) hfl.out hfg.out (by rw [hmide.out]; exact hG.out) (by rw [hmide.out]; exact hH.out))
        clear hG hH hfl hfg
        go_wp2
        all_goals (go_end0; exact ⟨rfl, H, hfin.out, hRf.out, hKf.out⟩)
       ·have ic40 : ¬ (e : Int) < (xb : Int) := by have := he.out; omega
        have hRb : Hid (Rw wr B g n cap (rot F s xm e)) := hide1 (by rw [rot_id F (by omega)]; exact hR.out)
        have hKb := hK
        clear hR hK
        obtain ⟨G, hGe⟩ : ∃ G, Hid (G = rot F s xm e) := ⟨_, hide1 rfl⟩
        have hG : Hid (Mgd ltE (rot F s xm e) xa s mid G) := hide1 (by rw [hGe.out]; exact mgd_no (by omega))
        have hRd : Hid (Rw wr B g n cap G) := hide1 (by rw [hGe.out]; exact hRb.out)
        have hKd := hKb
        clear hRb hKb
        obtain ⟨H, hHe⟩ : ∃ H, Hid (H = G) := ⟨_, hide1 rfl⟩
        have hH : Hid (Mgd ltE G mid e xb H) := hide1 (by rw [hHe.out]; exact mgd_no (by omega))
        have hRf := hRd
        have hKf := hKd
        rw [← hHe.out] at hRf
        clear hRd hKd
        have hfin : Hid (Mgd ltE F xa xm xb H) := hide1 (mgd_two (s := s) (e := e) (by omega) (by omega) (by omega) (by omega) hfl.out hfg.out (by rw [hmide.out]; exact hG.out) (by rw [hmide.out]; exact hH.out))
        clear hG hH hfl hfg
        go_wp2
        all_goals (go_end0; exact ⟨rfl, H, hfin.out, hRf.out, hKf.out⟩)
      ·have ic30 : ¬ (xa : Int) < (s : Int) := by have := he.out; omega
       by_cases c4 : e < xb
       ·have ic40 : (e : Int) < (xb : Int) := by have := he.out; omega
        have hRb : Hid (Rw wr B g n cap (rot F s xm e)) := hide1 (by rw [rot_id F (by omega)]; exact hR.out)
        have hKb := hK
        clear hR hK
        obtain ⟨G, hGe⟩ : ∃ G, Hid (G = rot F s xm e) := ⟨_, hide1 rfl⟩
        have hG : Hid (Mgd ltE (rot F s xm e) xa s mid G) := hide1 (by rw [hGe.out]; exact mgd_no (by omega))
        have hRd : Hid (Rw wr B g n cap G) := hide1 (by rw [hGe.out]; exact hRb.out)
        have hKd := hKb
        clear hRb hKb
        obtain ⟨H, hHe⟩ : ∃ H, Hid (H = G) := ⟨_, hide1 rfl⟩
        have hH : Hid (Mgd ltE G mid e xb H) := hide1 (by rw [hHe.out]; exact mgd_no (by omega))
        have hRf := hRd
        have hKf := hKd
        rw [← hHe.out] at hRf
        clear hRd hKd
        have hfin : Hid (Mgd ltE F xa xm xb H) := hide1 (mgd_two (s := s) (e := e) (by omega) (by omega) (by omega) (by omega) hfl.out hfg.out (by rw [hmide.out]; exact hG.out) (by rw [hmide.out]; exact hH.out))
        clear hG hH hfl hfg
        go_wp2
        all_goals (go_end0; exact ⟨rfl, H, hfin.out, hRf.out, hKf.out⟩)
       ·have ic40 : ¬ (e : Int) < (xb : Int) := by have := he.out; omega
        have hRb : Hid (Rw wr B g n cap (rot F s xm e)) := hide1 (by rw [rot_id F (by omega)]; exact hR.out)
        have hKb := hK
        clear hR hK
        obtain ⟨G, hGe⟩ : ∃ G, Hid (G = rot F s xm e) := ⟨_, hide1 rfl⟩
        have hG : Hid (Mgd ltE (rot F s xm e) xa s mid G) := hide1 (by rw [hGe.out]; exact mgd_no (by omega))
        have hRd : Hid (Rw wr B g n cap G) := hide1 (by rw [hGe.out]; exact hRb.out)
        have hKd := hKb
        clear hRb hKb
        obtain ⟨H, hHe⟩ : ∃ H, Hid (H = G) := ⟨_, hide1 rfl⟩
        have hH : Hid (Mgd ltE G mid e xb H) := hide1 (by rw [hHe.out]; exact mgd_no (by omega))
        have hRf := hRd
        have hKf := hKd
        rw [← hHe.out] at hRf
        clear hRd hKd
        have hfin : Hid (Mgd ltE F xa xm xb H) := hide1 (mgd_two (s := s) (e := e) (by omega) (by omega) (by omega) (by omega) hfl.out hfg.out (by rw [hmide.out]; exact hG.out) (by rw [hmide.out]; exact hH.out))
        clear hG hH hfl hfg
        go_wp2
        all_goals (go_end0; exact ⟨rfl, H, hfin.out, hRf.out, hKf.out⟩)
 ·obtain ⟨s0, r0, hs0⟩ : ∃ s0 r0, (mid < xm ∧ s0 = mid + xm - xb ∧ r0 = mid) ∨ (xm ≤ mid ∧ s0 = xa ∧ r0 = xm) := ⟨xa, xm, .inr ⟨Nat.le_of_not_lt hmm, rfl, rfl⟩⟩
  have hN : xa ≤ s0 ∧ r0 ≤ xm ∧ r0 ≤ mid ∧ s0 ≤ r0 ∧ mid + xm ≤ xb + s0 := by have := hmid.out; omega
  obtain ⟨n1, n2, n3, n4, n5⟩ := hN
  have z0 : ((xa : Nat) : Int) = (s0 : Int) := by omega
  have z1 : ((xm : Nat) : Int) = (r0 : Int) := by omega
  have z2 : (0 : Int) = 0 := by have := hmid.out; omega
  replace hs0 := hide1 hs0
  replace z0 := hide1 z0
  replace z1 := hide1 z1
  replace z2 := hide1 z2
  go_wp2_with fail
  go_loopw [20, 21] (fun s20 s21 wr => ∃ i jj : Nat, s20 = .int .i64 (i : Nat) ∧ s21 = .int .i64 (jj : Nat) ∧ s0 ≤ i ∧ i ≤ jj ∧ jj ≤ r0 ∧ Hid (∀ c, s0 ≤ c → c < i → ltE (F (pp - c)) (F c) = false) ∧ Hid (∀ c, jj ≤ c → c < r0 → ltE (F (pp - c)) (F c) = true) ∧ Hid (Rw wr B g n cap F) ∧ Hid (Kg g w wr)) (fun s20 s21 _ => (intOf s21).toNat - (intOf s20).toNat)
  case atStart => exact ⟨s0, r0, by have := z0.out; have := z2.out; first | rfl | (congr 1; omega) | congr 1, by have := z1.out; first | rfl | (congr 1; omega) | congr 1, Nat.le_refl _, n4, Nat.le_refl _, hide1 fun c h1 h2 => by omega, hide1 fun c h1 h2 => by omega, h0, hide1 (Kg.refl g w)⟩
  case round =>
   obtain ⟨i, jj, rfl, rfl, hi1, hi2, hi3, hlo, hhi, hR, hK⟩ := hrel
   by_cases hlt : i < jj
   ·obtain ⟨cc, hccd⟩ : ∃ cc, cc = (i + jj) / 2 := ⟨_, rfl⟩
    have hq := hpp.out
    have hccp : cc ≤ pp := by omega
    have hcm : cc < xm := by omega
    have hmq : xm ≤ pp - cc := by omega
    have hqb : pp - cc < xb := by omega
    have hcn : cc < n := by omega
    have hqn : pp - cc < n := by omega
    replace hq := hide1 hq
    have hok1 : EpOk (F (pp - cc)) := hR.out.ok _ hqn
    have hok2 : EpOk (F cc) := hR.out.ok cc hcn
    have hsb := fun w => sub_n (a := pp) (b := cc) hccp (by omega) w
    obtain ⟨R, hRd⟩ : ∃ R, Hid (R = ltE (F (pp - cc)) (F cc)) := ⟨_, hide1 rfl⟩
    have hzr : ∀ w, (binOp .lss 3 (.int .i64 (zc (F (pp - cc)) (F cc))) (.int .i64 0)).run Tryz.prog w = .ok (.bool R) w := fun w => by rw [hRd.out]; exact zc_lt _ _ w
    have hw1 := half_e (i := i) (j := jj) (by omega)
    go_upto_region 35 with fail
    have ecc : ((i : Int) + (jj : Int)) / 2 = ((cc : Nat) : Int) := by omega
    have epp : (mid : Int) + (xm : Int) - 1 = ((pp : Nat) : Int) := by have := hq.out; omega
    rw [ecc, epp]
    replace ecc := hide1 ecc
    replace epp := hide1 epp
    replace hccd := hide1 hccd
    refine wp_flowG 13 _ _ (by kernel_rfl) (by kernel_rfl) (by kernel_rfl) rfl (fun j v _ => v = ([(.func (.func 73) #[] #[]), (.slice (some ⟨g, 0, none⟩) n cap), (.int .i64 (pp : Nat)), (.int .i64 (cc : Nat)), (.int .i64 (pp - cc : Nat)), (.pointer (some ⟨g, (pp - cc) * 6, none⟩)), (.agg (cl (F (pp - cc))).toArray), (.slice (some ⟨g, 0, none⟩) n cap), (.int .i64 (cc : Nat)), (.pointer (some ⟨g, cc * 6, none⟩)), (.agg (cl (F cc)).toArray), (.int .i64 (zc (F (pp - cc)) (F cc))), (.bool R), (.bool (!R))] : List Value).getD j undef) (fun _ _ _ _ h _ => h) ?_ ?_
    ·intro j op hop hj a wa hwa hsz hsl hdep K hK
     match j, hop with
     | 0, hop =>
      obtain rfl := Option.some.inj hop
      have p4 : a.tmps.getD 4 undef = (.func (.func 73) #[] #[]) := hsl 4 rfl
      exact .plain rfl (wp_val (w' := wa) (v := (.func (.func 73) #[] #[])) (by simp only [execOp, Act.eval]; rw [show a.tmps.getD 4 undef = _ from p4]; rfl) (hK _ _ (Below.refl _ _) rfl))
     | 1, hop =>
      obtain rfl := Option.some.inj hop
      have p0 : a.tmps.getD 0 undef = (.slice (some ⟨g, 0, none⟩) n cap) := hsl 0 rfl
      exact .plain rfl (wp_val (w' := wa) (v := (.slice (some ⟨g, 0, none⟩) n cap)) (by simp only [execOp, Act.eval]; rw [show a.tmps.getD 0 undef = _ from p0]; rfl) (hK _ _ (Below.refl _ _) rfl))
     | 2, hop =>
      obtain rfl := Option.some.inj hop
      have p22 : a.tmps.getD 22 undef = (.int .i64 (pp : Nat)) := hsl 22 rfl
      exact .plain rfl (wp_val (w' := wa) (v := (.int .i64 (pp : Nat))) (by simp only [execOp, Act.eval]; rw [show a.tmps.getD 22 undef = _ from p22]; rfl) (hK _ _ (Below.refl _ _) rfl))
     | 3, hop =>
      obtain rfl := Option.some.inj hop
      have p23 : a.tmps.getD 23 undef = (.int .i64 (cc : Nat)) := hsl 23 rfl
      exact .plain rfl (wp_val (w' := wa) (v := (.int .i64 (cc : Nat))) (by simp only [execOp, Act.eval]; rw [show a.tmps.getD 23 undef = _ from p23]; rfl) (hK _ _ (Below.refl _ _) rfl))
     | 4, hop =>
      obtain rfl := Option.some.inj hop
      have t2 : a.tmps.getD 160 undef = (.int .i64 (pp : Nat)) := hdep 2 _ 160 rfl rfl ⟨⟨2, .data⟩, by simp, rfl, rfl⟩
      have t3 : a.tmps.getD 161 undef = (.int .i64 (cc : Nat)) := hdep 3 _ 161 rfl rfl ⟨⟨3, .data⟩, by simp, rfl, rfl⟩
      exact .plain rfl (wp_val (w' := wa) (v := (.int .i64 (pp - cc : Nat))) (by simp only [execOp, Act.eval]; rw [show a.tmps.getD 160 undef = _ from t2, show a.tmps.getD 161 undef = _ from t3]; simp only [Sem.run_bind, eqg_sub, hsb, Result.andThen_ok, Sem.run_pure]) (hK _ _ (Below.refl _ _) rfl))
     | 5, hop =>
      obtain rfl := Option.some.inj hop
      have t1 : a.tmps.getD 159 undef = (.slice (some ⟨g, 0, none⟩) n cap) := hdep 1 _ 159 rfl rfl ⟨⟨1, .data⟩, by simp, rfl, rfl⟩
      have t4 : a.tmps.getD 162 undef = (.int .i64 (pp - cc : Nat)) := hdep 4 _ 162 rfl rfl ⟨⟨4, .data⟩, by simp, rfl, rfl⟩
      exact .plain rfl (wp_val (w' := wa) (v := (.pointer (some ⟨g, (pp - cc) * 6, none⟩))) (by simp only [execOp, Act.eval]; rw [show a.tmps.getD 159 undef = _ from t1, show a.tmps.getD 162 undef = _ from t4]; simp only [Sem.run_bind, ix_sP hqn, Result.andThen_ok, Sem.run_pure]) (hK _ _ (Below.refl _ _) rfl))
     | 6, hop =>
      obtain rfl := Option.some.inj hop
      have t5 : a.tmps.getD 163 undef = (.pointer (some ⟨g, (pp - cc) * 6, none⟩)) := hdep 5 _ 163 rfl rfl ⟨⟨5, .data⟩, by simp, rfl, rfl⟩
      exact .plain rfl (wp_val (w' := wa) (v := (.agg (cl (F (pp - cc))).toArray)) (by simp only [execOp, Act.eval]; rw [show a.tmps.getD 163 undef = _ from t5]; simp only [Sem.run_bind, (hR.out.later hwa).load hqn, Result.andThen_ok, Sem.run_pure]) (hK _ _ (Below.refl _ _) rfl))
     | 7, hop =>
      obtain rfl := Option.some.inj hop
      have p0 : a.tmps.getD 0 undef = (.slice (some ⟨g, 0, none⟩) n cap) := hsl 0 rfl
      exact .plain rfl (wp_val (w' := wa) (v := (.slice (some ⟨g, 0, none⟩) n cap)) (by simp only [execOp, Act.eval]; rw [show a.tmps.getD 0 undef = _ from p0]; rfl) (hK _ _ (Below.refl _ _) rfl))
     | 8, hop =>
      obtain rfl := Option.some.inj hop
      have p23 : a.tmps.getD 23 undef = (.int .i64 (cc : Nat)) := hsl 23 rfl
      exact .plain rfl (wp_val (w' := wa) (v := (.int .i64 (cc : Nat))) (by simp only [execOp, Act.eval]; rw [show a.tmps.getD 23 undef = _ from p23]; rfl) (hK _ _ (Below.refl _ _) rfl))
     | 9, hop =>
      obtain rfl := Option.some.inj hop
      have t7 : a.tmps.getD 165 undef = (.slice (some ⟨g, 0, none⟩) n cap) := hdep 7 _ 165 rfl rfl ⟨⟨7, .data⟩, by simp, rfl, rfl⟩
      have t8 : a.tmps.getD 166 undef = (.int .i64 (cc : Nat)) := hdep 8 _ 166 rfl rfl ⟨⟨8, .data⟩, by simp, rfl, rfl⟩
      exact .plain rfl (wp_val (w' := wa) (v := (.pointer (some ⟨g, cc * 6, none⟩))) (by simp only [execOp, Act.eval]; rw [show a.tmps.getD 165 undef = _ from t7, show a.tmps.getD 166 undef = _ from t8]; simp only [Sem.run_bind, ix_sP hcn, Result.andThen_ok, Sem.run_pure]) (hK _ _ (Below.refl _ _) rfl))
     | 10, hop =>
      obtain rfl := Option.some.inj hop
      have t9 : a.tmps.getD 167 undef = (.pointer (some ⟨g, cc * 6, none⟩)) := hdep 9 _ 167 rfl rfl ⟨⟨9, .data⟩, by simp, rfl, rfl⟩
      exact .plain rfl (wp_val (w' := wa) (v := (.agg (cl (F cc)).toArray)) (by simp only [execOp, Act.eval]; rw [show a.tmps.getD 167 undef = _ from t9]; simp only [Sem.run_bind, (hR.out.later hwa).load hcn, Result.andThen_ok, Sem.run_pure]) (hK _ _ (Below.refl _ _) rfl))
     | 11, hop =>
      obtain rfl := Option.some.inj hop
      have t6 : a.tmps.getD 164 undef = (.agg (cl (F (pp - cc))).toArray) := hdep 6 _ 164 rfl rfl ⟨⟨6, .data⟩, by simp, rfl, rfl⟩
      have t10 : a.tmps.getD 168 undef = (.agg (cl (F cc)).toArray) := hdep 10 _ 168 rfl rfl ⟨⟨10, .data⟩, by simp, rfl, rfl⟩
      have t0 : a.tmps.getD 158 undef = (.func (.func 73) #[] #[]) := hdep 0 _ 158 rfl rfl ⟨⟨0, .data⟩, by simp, rfl, rfl⟩
      refine .plain rfl (oper_anyv (J := fun r w' => r = (.int .i64 (zc (F (pp - cc)) (F cc))) ∧ Below wa.heap.size wa w') 73 (.tmp 158) #[.tmp 164, .tmp 168] _ rfl (show a.tmps.getD 158 undef = _ from t0) #[(.agg (cl (F (pp - cc))).toArray), (.agg (cl (F cc)).toArray)] (by simp only [List.map_toArray, List.map_cons, List.map_nil, Act.eval]; rw [show a.tmps.getD 164 undef = _ from t6, show a.tmps.getD 168 undef = _ from t10]) (fun w => by kernel_rfl) ((cmp_d hok1 hok2).mono fun e w' h => ⟨_, h.1, rfl, h.2⟩) ?_)
      rintro r w' ⟨rfl, hb⟩
      exact hK _ _ hb rfl
     | 12, hop =>
      obtain rfl := Option.some.inj hop
      have t11 : a.tmps.getD 169 undef = (.int .i64 (zc (F (pp - cc)) (F cc))) := hdep 11 _ 169 rfl rfl ⟨⟨11, .data⟩, by simp, rfl, rfl⟩
      exact .plain rfl (wp_val (w' := wa) (v := (.bool R)) (by simp only [execOp, Act.eval]; rw [show a.tmps.getD 169 undef = _ from t11]; simp only [Sem.run_bind, eqg_lss, hzr, Result.andThen_ok, Sem.run_pure]) (hK _ _ (Below.refl _ _) rfl))
     | 13, _ => exact absurd rfl hj
     | _ + 14, hop => exact absurd hop (by simp)
    ·intro a wa hwa hdf hsz hsl hrr K hK
     have t12 : a.tmps.getD 170 undef = (.bool R) := hrr 12 _ 170 rfl (by decide) rfl
     refine .plain rfl (wp_val (w' := wa) (v := (.bool (!R))) (by simp only [execOp, Act.eval]; rw [show a.tmps.getD 170 undef = _ from t12]; kernel_rfl) ?_)
     refine hK _ wa ?_
     have hact := act_puts hdf hsz hsl
     clear hrr hsl hdf hsz hK t12
     simp only [List.filterMap_cons, List.filterMap_nil, List.foldl_cons, List.foldl_nil] at hact
     rw [hact]
     generalize a.tmps.getD 158 undef = y158
     generalize a.tmps.getD 159 undef = y159
     generalize a.tmps.getD 160 undef = y160
     generalize a.tmps.getD 161 undef = y161
     generalize a.tmps.getD 162 undef = y162
     generalize a.tmps.getD 163 undef = y163
     generalize a.tmps.getD 164 undef = y164
     generalize a.tmps.getD 165 undef = y165
     generalize a.tmps.getD 166 undef = y166
     generalize a.tmps.getD 167 undef = y167
     generalize a.tmps.getD 168 undef = y168
     generalize a.tmps.getD 169 undef = y169
     generalize a.tmps.getD 170 undef = y170
     clear hact
     simp only [Act.put, List.setIfInBounds_toArray, List.set_cons_succ, List.set_cons_zero]
     rw [← epp.out]
     have hR4 := hide1 (hR.out.later hwa)
     have hK4 : Hid (Kg g w wa) := hide1 (hK.out.trans (Kg.ofB hwa))
     clear hzr hwa hR hK hsb
     have hd := hccd.out
     cases R with
     | false =>
      have hlo2 : Hid (∀ c, s0 ≤ c → c < cc + 1 → ltE (F (pp - c)) (F c) = false) := hide1 fun c h1 h2 => cut_lo hr1.out hr2.out hRd.out.symm (by omega) (by omega) hcm hmq (by have := hq.out; omega) hccp
      replace hd := hide1 hd
      clear hlo hRd
      go_wp2
      go_roundw
      case rel => exact ⟨cc + 1, jj, by first | rfl | (congr 1; omega) | go_num, rfl, by have := hd.out; omega, by have := hd.out; omega, hi3, hlo2, hhi, hR4, hK4⟩
      case measure => have := hd.out; simp [intOf]; omega
     | true =>
      have hhi2 : Hid (∀ c, cc ≤ c → c < r0 → ltE (F (pp - c)) (F c) = true) := hide1 fun c h1 h2 => cut_hi hr1.out hr2.out hRd.out.symm (by omega) h1 (by omega) (by have := hq.out; omega) hqb (by have := hq.out; omega)
      replace hd := hide1 hd
      clear hhi hRd
      go_wp2
      go_roundw
      case rel => exact ⟨i, cc, rfl, by first | rfl | (congr 1; omega) | go_num, hi1, by have := hd.out; omega, by have := hd.out; omega, hlo, hhi2, hR4, hK4⟩
      case measure => have := hd.out; simp [intOf]; omega
   ·obtain ⟨s, hsi⟩ : ∃ s, s = i := ⟨_, rfl⟩
    obtain rfl : i = jj := by omega
    subst hsi
    obtain ⟨e, he⟩ : ∃ e, e = mid + xm - s := ⟨_, rfl⟩
    have hf : Fnd F xa xm xb mid s := fnd_of hr1.out hr2.out hm1 hm2 hmid.out (by omega) hs0.out hi1 hi3 (by have := hlo.out; rwa [hpp.out] at this) (by have := hhi.out; rwa [hpp.out] at this)
    obtain ⟨f1, f2, f3, f4, hfl, hfg⟩ := hf
    rw [← he] at f4 hfl hfg
    have f5 : xm ≤ e := by omega
    have f6 : mid ≤ e := by omega
    have hmide : Hid (s + (e - xm) = mid) := hide1 (by omega)
    have ee : (mid : Int) + (xm : Int) - (s : Int) = ((e : Nat) : Int) := by omega
    replace he := hide1 he
    replace hfl := hide1 hfl
    replace hfg := hide1 hfg
    clear hlo hhi
    replace ee := hide1 ee
    go_upto_region 39 with fail
    rw [ee.out]
    by_cases c1 : s < xm
    ·have ic10 : (s : Int) < (xm : Int) := by have := he.out; omega
     have ic11 : (mid : Int) < (e : Int) := by have := he.out; omega
     by_cases c2 : s < mid
     ·have ic20 : (s : Int) < (mid : Int) := by have := he.out; omega
      have ic21 : (xm : Int) < (e : Int) := by have := he.out; omega
      by_cases c3 : xa < s
      ·have ic30 : (xa : Int) < (s : Int) := by have := he.out; omega
       by_cases c4 : e < xb
       ·have ic40 : (e : Int) < (xb : Int) := by have := he.out; omega
        go_wp2_with fail
        refine (rot_d (xa := s) (xm := xm) (xb := e) hR.out c1 (by omega) (by omega) hn).mono ?_
        rintro er w1 ⟨rfl, hRa, hO1⟩
        have hRb := hide1 hRa
        have hKb := hide1 (hK.out.trans hO1.kg)
        clear hRa hO1 hR hK
        have hc := ih (xa := xa) (xm := s) (xb := mid) (by omega) hRb.out c3 c2 (by omega) hn (rot_r1 hr1.out (by omega)) (hmide.out ▸ rot_r2 (s := s) hr2.out (by omega) (by omega))
        go_wp2_with fail
        refine hc.mono ?_
        rintro er w2 ⟨rfl, G, hG0, hRc, hKc⟩
        have hG := hide1 hG0
        have hRd := hide1 hRc
        have hKd := hide1 (hKb.out.trans hKc)
        clear hc hG0 hRc hKc hRb hKb
        have hr5 : Rs ltE G mid e := fun i j g1 g2 g3 => by
         rw [hG.out.1 i (by omega), hG.out.1 j (by omega)]
         exact (hmide.out ▸ rot_r3 (s := s) (e := e) hr1.out (by omega) (by omega) (by omega) : Rs ltE (rot F s xm e) mid e) i j g1 g2 g3
        have hr6 : Rs ltE G e xb := fun i j g1 g2 g3 => by
         rw [hG.out.1 i (by omega), hG.out.1 j (by omega)]
         exact (rot_r4 (s := s) (e := e) hr2.out (by omega) (by omega)) i j g1 g2 g3
        have hc := ih (xa := mid) (xm := e) (xb := xb) (by omega) hRd.out (by omega) c4 hbn hn hr5 hr6
        clear hr5 hr6
        go_wp2_with fail
        refine hc.mono ?_
        rintro er w3 ⟨rfl, H, hH0, hRe, hKe⟩
        have hH := hide1 hH0
        have hRf := hide1 hRe
        have hKf := hide1 (hKd.out.trans hKe)
        clear hc hH0 hRe hKe hRd hKd
        have hfin : Hid (Mgd ltE F xa xm xb H) := hide1 (mgd_two (s := s) (e := e) (by omega) (by omega) (by omega) (by omega) hfl.out hfg.out (by rw [hmide.out]; exact hG.out) (by rw [hmide.out]; exact hH.out))
        clear hG hH hfl hfg
        go_wp2
        all_goals (go_end0; exact ⟨rfl, H, hfin.out, hRf.out, hKf.out⟩)
       ·have ic40 : ¬ (e : Int) < (xb : Int) := by have := he.out; omega
        go_wp2_with fail
        refine (rot_d (xa := s) (xm := xm) (xb := e) hR.out c1 (by omega) (by omega) hn).mono ?_
        rintro er w1 ⟨rfl, hRa, hO1⟩
        have hRb := hide1 hRa
        have hKb := hide1 (hK.out.trans hO1.kg)
        clear hRa hO1 hR hK
        have hc := ih (xa := xa) (xm := s) (xb := mid) (by omega) hRb.out c3 c2 (by omega) hn (rot_r1 hr1.out (by omega)) (hmide.out ▸ rot_r2 (s := s) hr2.out (by omega) (by omega))
        go_wp2_with fail
        refine hc.mono ?_
        rintro er w2 ⟨rfl, G, hG0, hRc, hKc⟩
        have hG := hide1 hG0
        have hRd := hide1 hRc
        have hKd := hide1 (hKb.out.trans hKc)
        clear hc hG0 hRc hKc hRb hKb
        obtain ⟨H, hHe⟩ : ∃ H, Hid (H = G) := ⟨_, hide1 rfl⟩
        have hH : Hid (Mgd ltE G mid e xb H) := hide1 (by rw [hHe.out]; exact mgd_no (by omega))
        have hRf := hRd
        have hKf := hKd
        rw [← hHe.out] at hRf
        clear hRd hKd
        have hfin : Hid (Mgd ltE F xa xm xb H) := hide1 (mgd_two (s := s) (e := e) (by omega) (by omega) (by omega) (by omega) hfl.out hfg.out (by rw [hmide.out]; exact hG.out) (by rw [hmide.out]; exact hH.out))
        clear hG hH hfl hfg
        go_wp2
        all_goals (go_end0; exact ⟨rfl, H, hfin.out, hRf.out, hKf.out⟩)
      ·have ic30 : ¬ (xa : Int) < (s : Int) := by have := he.out; omega
       by_cases c4 : e < xb
       ·have ic40 : (e : Int) < (xb : Int) := by have := he.out; omega
        go_wp2_with fail
        refine (rot_d (xa := s) (xm := xm) (xb := e) hR.out c1 (by omega) (by omega) hn).mono ?_
        rintro er w1 ⟨rfl, hRa, hO1⟩
        have hRb := hide1 hRa
        have hKb := hide1 (hK.out.trans hO1.kg)
        clear hRa hO1 hR hK
        obtain ⟨G, hGe⟩ : ∃ G, Hid (G = rot F s xm e) := ⟨_, hide1 rfl⟩
        have hG : Hid (Mgd ltE (rot F s xm e) xa s mid G) := hide1 (by rw [hGe.out]; exact mgd_no (by omega))
        have hRd : Hid (Rw w1 B g n cap G) := hide1 (by rw [hGe.out]; exact hRb.out)
        have hKd := hKb
        clear hRb hKb
        have hr5 : Rs ltE G mid e := fun i j g1 g2 g3 => by
         rw [hG.out.1 i (by omega), hG.out.1 j (by omega)]
         exact (hmide.out ▸ rot_r3 (s := s) (e := e) hr1.out (by omega) (by omega) (by omega) : Rs ltE (rot F s xm e) mid e) i j g1 g2 g3
        have hr6 : Rs ltE G e xb := fun i j g1 g2 g3 => by
         rw [hG.out.1 i (by omega), hG.out.1 j (by omega)]
         exact (rot_r4 (s := s) (e := e) hr2.out (by omega) (by omega)) i j g1 g2 g3
        have hc := ih (xa := mid) (xm := e) (xb := xb) (by omega) hRd.out (by omega) c4 hbn hn hr5 hr6
        clear hr5 hr6
        go_wp2_with fail
        refine hc.mono ?_
        rintro er w3 ⟨rfl, H, hH0, hRe, hKe⟩
        have hH := hide1 hH0
        have hRf := hide1 hRe
        have hKf := hide1 (hKd.out.trans hKe)
        clear hc hH0 hRe hKe hRd hKd
        have hfin : Hid (Mgd ltE F xa xm xb H) := hide1 (mgd_two (s := s) (e := e) (by omega) (by omega) (by omega) (by omega) hfl.out hfg.out (by rw [hmide.out]; exact hG.out) (by rw [hmide.out]; exact hH.out))
        clear hG hH hfl hfg
        go_wp2
        all_goals (go_end0; exact ⟨rfl, H, hfin.out, hRf.out, hKf.out⟩)
       ·have ic40 : ¬ (e : Int) < (xb : Int) := by have := he.out; omega
        go_wp2_with fail
        refine (rot_d (xa := s) (xm := xm) (xb := e) hR.out c1 (by omega) (by omega) hn).mono ?_
        rintro er w1 ⟨rfl, hRa, hO1⟩
        have hRb := hide1 hRa
        have hKb := hide1 (hK.out.trans hO1.kg)
        clear hRa hO1 hR hK
        obtain ⟨G, hGe⟩ : ∃ G, Hid (G = rot F s xm e) := ⟨_, hide1 rfl⟩
        have hG : Hid (Mgd ltE (rot F s xm e) xa s mid G) := hide1 (by rw [hGe.out]; exact mgd_no (by omega))
        have hRd : Hid (Rw w1 B g n cap G) := hide1 (by rw [hGe.out]; exact hRb.out)
        have hKd := hKb
        clear hRb hKb
        obtain ⟨H, hHe⟩ : ∃ H, Hid (H = G) := ⟨_, hide1 rfl⟩
        have hH : Hid (Mgd ltE G mid e xb H) := hide1 (by rw [hHe.out]; exact mgd_no (by omega))
        have hRf := hRd
        have hKf := hKd
        rw [← hHe.out] at hRf
        clear hRd hKd
        have hfin : Hid (Mgd ltE F xa xm xb H) := hide1 (mgd_two (s := s) (e := e) (by omega) (by omega) (by omega) (by omega) hfl.out hfg.out (by rw [hmide.out]; exact hG.out) (by rw [hmide.out]; exact hH.out))
        clear hG hH hfl hfg
        go_wp2
        all_goals (go_end0; exact ⟨rfl, H, hfin.out, hRf.out, hKf.out⟩)
     ·have ic20 : ¬ (s : Int) < (mid : Int) := by have := he.out; omega
      have ic21 : ¬ (xm : Int) < (e : Int) := by have := he.out; omega
      by_cases c3 : xa < s
      ·have ic30 : (xa : Int) < (s : Int) := by have := he.out; omega
       by_cases c4 : e < xb
       ·have ic40 : (e : Int) < (xb : Int) := by have := he.out; omega
        have hRb : Hid (Rw wr B g n cap (rot F s xm e)) := hide1 (by rw [rot_id F (by omega)]; exact hR.out)
        have hKb := hK
        clear hR hK
        obtain ⟨G, hGe⟩ : ∃ G, Hid (G = rot F s xm e) := ⟨_, hide1 rfl⟩
        have hG : Hid (Mgd ltE (rot F s xm e) xa s mid G) := hide1 (by rw [hGe.out]; exact mgd_no (by omega))
        have hRd : Hid (Rw wr B g n cap G) := hide1 (by rw [hGe.out]; exact hRb.out)
        have hKd := hKb
        clear hRb hKb
        have hr5 : Rs ltE G mid e := fun i j g1 g2 g3 => by
         rw [hG.out.1 i (by omega), hG.out.1 j (by omega)]
         exact (hmide.out ▸ rot_r3 (s := s) (e := e) hr1.out (by omega) (by omega) (by omega) : Rs ltE (rot F s xm e) mid e) i j g1 g2 g3
        have hr6 : Rs ltE G e xb := fun i j g1 g2 g3 => by
         rw [hG.out.1 i (by omega), hG.out.1 j (by omega)]
         exact (rot_r4 (s := s) (e := e) hr2.out (by omega) (by omega)) i j g1 g2 g3
        have hc := ih (xa := mid) (xm := e) (xb := xb) (by omega) hRd.out (by omega) c4 hbn hn hr5 hr6
        clear hr5 hr6
        go_wp2_with fail
        refine hc.mono ?_
        rintro er w3 ⟨rfl, H, hH0, hRe, hKe⟩
        have hH := hide1 hH0
        have hRf := hide1 hRe
        have hKf := hide1 (hKd.out.trans hKe)
        clear hc hH0 hRe hKe hRd hKd
        have hfin : Hid (Mgd ltE F xa xm xb H) := hide1 (mgd_two (s := s) (e := e) (by omega) (by omega) (by omega) (by omega) hfl.out hfg.out (by rw [hmide.out]; exact hG.out) (by rw [hmide.out]; exact hH.out))
        clear hG hH hfl hfg
        go_wp2
        all_goals (go_end0; exact ⟨rfl, H, hfin.out, hRf.out, hKf.out⟩)
       ·have ic40 : ¬ (e : Int) < (xb : Int) := by have := he.out; omega
        have hRb : Hid (Rw wr B g n cap (rot F s xm e)) := hide1 (by rw [rot_id F (by omega)]; exact hR.out)
        have hKb := hK
        clear hR hK
        obtain ⟨G, hGe⟩ : ∃ G, Hid (G = rot F s xm e) := ⟨_, hide1 rfl⟩
        have hG : Hid (Mgd ltE (rot F s xm e) xa s mid G) := hide1 (by rw [hGe.out]; exact mgd_no (by omega))
        have hRd : Hid (Rw wr B g n cap G) := hide1 (by rw [hGe.out]; exact hRb.out)
        have hKd := hKb
        clear hRb hKb
        obtain ⟨H, hHe⟩ : ∃ H, Hid (H = G) := ⟨_, hide1 rfl⟩
        have hH : Hid (Mgd ltE G mid e xb H) := hide1 (by rw [hHe.out]; exact mgd_no (by omega))
        have hRf := hRd
        have hKf := hKd
        rw [← hHe.out] at hRf
        clear hRd hKd
        have hfin : Hid (Mgd ltE F xa xm xb H) := hide1 (mgd_two (s := s) (e := e) (by omega) (by omega) (by omega) (by omega) hfl.out hfg.out (by rw [hmide.out]; exact hG.out) (by rw [hmide.out]; exact hH.out))
        clear hG hH hfl hfg
        go_wp2
        all_goals (go_end0; exact ⟨rfl, H, hfin.out, hRf.out, hKf.out⟩)
      ·have ic30 : ¬ (xa : Int) < (s : Int) := by have := he.out; omega
       by_cases c4 : e < xb
       ·have ic40 : (e : Int) < (xb : Int) := by have := he.out; omega
        have hRb : Hid (Rw wr B g n cap (rot F s xm e)) := hide1 (by rw [rot_id F (by omega)]; exact hR.out)
        have hKb := hK
        clear hR hK
        obtain ⟨G, hGe⟩ : ∃ G, Hid (G = rot F s xm e) := ⟨_, hide1 rfl⟩
        have hG : Hid (Mgd ltE (rot F s xm e) xa s mid G) := hide1 (by rw [hGe.out]; exact mgd_no (by omega))
        have hRd : Hid (Rw wr B g n cap G) := hide1 (by rw [hGe.out]; exact hRb.out)
        have hKd := hKb
        clear hRb hKb
        have hr5 : Rs ltE G mid e := fun i j g1 g2 g3 => by
         rw [hG.out.1 i (by omega), hG.out.1 j (by omega)]
         exact (hmide.out ▸ rot_r3 (s := s) (e := e) hr1.out (by omega) (by omega) (by omega) : Rs ltE (rot F s xm e) mid e) i j g1 g2 g3
        have hr6 : Rs ltE G e xb := fun i j g1 g2 g3 => by
         rw [hG.out.1 i (by omega), hG.out.1 j (by omega)]
         exact (rot_r4 (s := s) (e := e) hr2.out (by omega) (by omega)) i j g1 g2 g3
        have hc := ih (xa := mid) (xm := e) (xb := xb) (by omega) hRd.out (by omega) c4 hbn hn hr5 hr6
        clear hr5 hr6
        go_wp2_with fail
        refine hc.mono ?_
        rintro er w3 ⟨rfl, H, hH0, hRe, hKe⟩
        have hH := hide1 hH0
        have hRf := hide1 hRe
        have hKf := hide1 (hKd.out.trans hKe)
        clear hc hH0 hRe hKe hRd hKd
        have hfin : Hid (Mgd ltE F xa xm xb H) := hide1 (mgd_two (s := s) (e := e) (by omega) (by omega) (by omega) (by omega) hfl.out hfg.out (by rw [hmide.out]; exact hG.out) (by rw [hmide.out]; exact hH.out))
        clear hG hH hfl hfg
        go_wp2
        all_goals (go_end0; exact ⟨rfl, H, hfin.out, hRf.out, hKf.out⟩)
       ·have ic40 : ¬ (e : Int) < (xb : Int) := by have := he.out; omega
        have hRb : Hid (Rw wr B g n cap (rot F s xm e)) := hide1 (by rw [rot_id F (by omega)]; exact hR.out)
        have hKb := hK
        clear hR hK
        obtain ⟨G, hGe⟩ : ∃ G, Hid (G = rot F s xm e) := ⟨_, hide1 rfl⟩
        have hG : Hid (Mgd ltE (rot F s xm e) xa s mid G) := hide1 (by rw [hGe.out]; exact mgd_no (by omega))
        have hRd : Hid (Rw wr B g n cap G) := hide1 (by rw [hGe.out]; exact hRb.out)
        have hKd := hKb
        clear hRb hKb
        obtain ⟨H, hHe⟩ : ∃ H, Hid (H = G) := ⟨_, hide1 rfl⟩
        have hH : Hid (Mgd ltE G mid e xb H) := hide1 (by rw [hHe.out]; exact mgd_no (by omega))
        have hRf := hRd
        have hKf := hKd
        rw [← hHe.out] at hRf
        clear hRd hKd
        have hfin : Hid (Mgd ltE F xa xm xb H) := hide1 (mgd_two (s := s) (e := e) (by omega) (by omega) (by omega) (by omega) hfl.out hfg.out (by rw [hmide.out]; exact hG.out) (by rw [hmide.out]; exact hH.out))
        clear hG hH hfl hfg
        go_wp2
        all_goals (go_end0; exact ⟨rfl, H, hfin.out, hRf.out, hKf.out⟩)
    ·have ic10 : ¬ (s : Int) < (xm : Int) := by have := he.out; omega
     have ic11 : ¬ (mid : Int) < (e : Int) := by have := he.out; omega
     by_cases c2 : s < mid
     ·have ic20 : (s : Int) < (mid : Int) := by have := he.out; omega
      have ic21 : (xm : Int) < (e : Int) := by have := he.out; omega
      by_cases c3 : xa < s
      ·have ic30 : (xa : Int) < (s : Int) := by have := he.out; omega
       by_cases c4 : e < xb
       ·have ic40 : (e : Int) < (xb : Int) := by have := he.out; omega
        have hRb : Hid (Rw wr B g n cap (rot F s xm e)) := hide1 (by rw [rot_id F (by omega)]; exact hR.out)
        have hKb := hK
        clear hR hK
        have hc := ih (xa := xa) (xm := s) (xb := mid) (by omega) hRb.out c3 c2 (by omega) hn (rot_r1 hr1.out (by omega)) (hmide.out ▸ rot_r2 (s := s) hr2.out (by omega) (by omega))
        go_wp2_with fail
        refine hc.mono ?_
        rintro er w2 ⟨rfl, G, hG0, hRc, hKc⟩
        have hG := hide1 hG0
        have hRd := hide1 hRc
        have hKd := hide1 (hKb.out.trans hKc)
        clear hc hG0 hRc hKc hRb hKb
        obtain ⟨H, hHe⟩ : ∃ H, Hid (H = G) := ⟨_, hide1 rfl⟩
        have hH : Hid (Mgd ltE G mid e xb H) := hide1 (by rw [hHe.out]; exact mgd_no (by omega))
        have hRf := hRd
        have hKf := hKd
        rw [← hHe.out] at hRf
        clear hRd hKd
        have hfin : Hid (Mgd ltE F xa xm xb H) := hide1 (mgd_two (s := s) (e := e) (by omega) (by omega) (by omega) (by omega) hfl.out hfg.out (by rw [hmide.out]; exact hG.out) (by rw [hmide.out]; exact hH.out))
        clear hG hH hfl hfg
        go_wp2
        all_goals (go_end0; exact ⟨rfl, H, hfin.out, hRf.out, hKf.out⟩)
       ·have ic40 : ¬ (e : Int) < (xb : Int) := by have := he.out; omega
        have hRb : Hid (Rw wr B g n cap (rot F s xm e)) := hide1 (by rw [rot_id F (by omega)]; exact hR.out)
        have hKb := hK
        clear hR hK
        have hc := ih (xa := xa) (xm := s) (xb := mid) (by omega) hRb.out c3 c2 (by omega) hn (rot_r1 hr1.out (by omega)) (hmide.out ▸ rot_r2 (s := s) hr2.out (by omega) (by omega))
        go_wp2_with fail
        refine hc.mono ?_
        rintro er w2 ⟨rfl, G, hG0, hRc, hKc⟩
        have hG := hide1 hG0
        have hRd := hide1 hRc
        have hKd := hide1 (hKb.out.trans hKc)
        clear hc hG0 hRc hKc hRb hKb
        obtain ⟨H, hHe⟩ : ∃ H, Hid (H = G) := ⟨_, hide1 rfl⟩
        have hH : Hid (Mgd ltE G mid e xb H) := hide1 (by rw [hHe.out]; exact mgd_no (by omega))
        have hRf := hRd
        have hKf := hKd
        rw [← hHe.out] at hRf
        clear hRd hKd
        have hfin : Hid (Mgd ltE F xa xm xb H) := hide1 (mgd_two (s := s) (e := e) (by omega) (by omega) (by omega) (by omega) hfl.out hfg.out (by rw [hmide.out]; exact hG.out) (by rw [hmide.out]; exact hH.out))
        clear hG hH hfl hfg
        go_wp2
        all_goals (go_end0; exact ⟨rfl, H, hfin.out, hRf.out, hKf.out⟩)
      ·have ic30 : ¬ (xa : Int) < (s : Int) := by have := he.out; omega
       by_cases c4 : e < xb
       ·have ic40 : (e : Int) < (xb : Int) := by have := he.out; omega
        have hRb : Hid (Rw wr B g n cap (rot F s xm e)) := hide1 (by rw [rot_id F (by omega)]; exact hR.out)
        have hKb := hK
        clear hR hK
        obtain ⟨G, hGe⟩ : ∃ G, Hid (G = rot F s xm e) := ⟨_, hide1 rfl⟩
        have hG : Hid (Mgd ltE (rot F s xm e) xa s mid G) := hide1 (by rw [hGe.out]; exact mgd_no (by omega))
        have hRd : Hid (Rw wr B g n cap G) := hide1 (by rw [hGe.out]; exact hRb.out)
        have hKd := hKb
        clear hRb hKb
        obtain ⟨H, hHe⟩ : ∃ H, Hid (H = G) := ⟨_, hide1 rfl⟩
        have hH : Hid (Mgd ltE G mid e xb H) := hide1 (by rw [hHe.out]; exact mgd_no (by omega))
        have hRf := hRd
        have hKf := hKd
        rw [← hHe.out] at hRf
        clear hRd hKd
        have hfin : Hid (Mgd ltE F xa xm xb H) := hide1 (mgd_two (s := s) (e := e) (by omega) (by omega) (by omega) (by omega) hfl.out hfg.out (by rw [hmide.out]; exact hG.out) (by rw [hmide.out]; exact hH.out))
        clear hG hH hfl hfg
        go_wp2
        all_goals (go_end0; exact ⟨rfl, H, hfin.out, hRf.out, hKf.out⟩)
       ·have ic40 : ¬ (e : Int) < (xb : Int) := by have := he.out; omega
        have hRb : Hid (Rw wr B g n cap (rot F s xm e)) := hide1 (by rw [rot_id F (by omega)]; exact hR.out)
        have hKb := hK
        clear hR hK
        obtain ⟨G, hGe⟩ : ∃ G, Hid (G = rot F s xm e) := ⟨_, hide1 rfl⟩
        have hG : Hid (Mgd ltE (rot F s xm e) xa s mid G) := hide1 (by rw [hGe.out]; exact mgd_no (by omega))
        have hRd : Hid (Rw wr B g n cap G) := hide1 (by rw [hGe.out]; exact hRb.out)
        have hKd := hKb
        clear hRb hKb
        obtain ⟨H, hHe⟩ : ∃ H, Hid (H = G) := ⟨_, hide1 rfl⟩
        have hH : Hid (Mgd ltE G mid e xb H) := hide1 (by rw [hHe.out]; exact mgd_no (by omega))
        have hRf := hRd
        have hKf := hKd
        rw [← hHe.out] at hRf
        clear hRd hKd
        have hfin : Hid (Mgd ltE F xa xm xb H) := hide1 (mgd_two (s := s) (e := e) (by omega) (by omega) (by omega) (by omega) hfl.out hfg.out (by rw [hmide.out]; exact hG.out) (by rw [hmide.out]; exact hH.out))
        clear hG hH hfl hfg
        go_wp2
        all_goals (go_end0; exact ⟨rfl, H, hfin.out, hRf.out, hKf.out⟩)
     ·have ic20 : ¬ (s : Int) < (mid : Int) := by have := he.out; omega
      have ic21 : ¬ (xm : Int) < (e : Int) := by have := he.out; omega
      by_cases c3 : xa < s
      ·have ic30 : (xa : Int) < (s : Int) := by have := he.out; omega
       by_cases c4 : e < xb
       ·have ic40 : (e : Int) < (xb : Int) := by have := he.out; omega
        have hRb : Hid (Rw wr B g n cap (rot F s xm e)) := hide1 (by rw [rot_id F (by omega)]; exact hR.out)
        have hKb := hK
        clear hR hK
        obtain ⟨G, hGe⟩ : ∃ G, Hid (G = rot F s xm e) := ⟨_, hide1 rfl⟩
        have hG : Hid (Mgd ltE (rot F s xm e) xa s mid G) := hide1 (by rw [hGe.out]; exact mgd_no (by omega))
        have hRd : Hid (Rw wr B g n cap G) := hide1 (by rw [hGe.out]; exact hRb.out)
        have hKd := hKb
        clear hRb hKb
        obtain ⟨H, hHe⟩ : ∃ H, Hid (H = G) := ⟨_, hide1 rfl⟩
        have hH : Hid (Mgd ltE G mid e xb H) := hide1 (by rw [hHe.out]; exact mgd_no (by omega))
        have hRf := hRd
        have hKf := hKd
        rw [← hHe.out] at hRf
        clear hRd hKd
        have hfin : Hid (Mgd ltE F xa xm xb H) := hide1 (mgd_two (s := s) (e := e) (by omega) (by omega) (by omega) (by omega) hfl.out hfg.out (by rw [hmide.out]; exact hG.out) (by rw [hmide.out]; exact hH.out))
        clear hG hH hfl hfg
        go_wp2
        all_goals (go_end0; exact ⟨rfl, H, hfin.out, hRf.out, hKf.out⟩)
       ·have ic40 : ¬ (e : Int) < (xb : Int) := by have := he.out; omega
        have hRb : Hid (Rw wr B g n cap (rot F s xm e)) := hide1 (by rw [rot_id F (by omega)]; exact hR.out)
        have hKb := hK
        clear hR hK
        obtain ⟨G, hGe⟩ : ∃ G, Hid (G = rot F s xm e) := ⟨_, hide1 rfl⟩
        have hG : Hid (Mgd ltE (rot F s xm e) xa s mid G) := hide1 (by rw [hGe.out]; exact mgd_no (by omega))
        have hRd : Hid (Rw wr B g n cap G) := hide1 (by rw [hGe.out]; exact hRb.out)
        have hKd := hKb
        clear hRb hKb
        obtain ⟨H, hHe⟩ : ∃ H, Hid (H = G) := ⟨_, hide1 rfl⟩
        have hH : Hid (Mgd ltE G mid e xb H) := hide1 (by rw [hHe.out]; exact mgd_no (by omega))
        have hRf := hRd
        have hKf := hKd
        rw [← hHe.out] at hRf
        clear hRd hKd
        have hfin : Hid (Mgd ltE F xa xm xb H) := hide1 (mgd_two (s := s) (e := e) (by omega) (by omega) (by omega) (by omega) hfl.out hfg.out (by rw [hmide.out]; exact hG.out) (by rw [hmide.out]; exact hH.out))
        clear hG hH hfl hfg
        go_wp2
        all_goals (go_end0; exact ⟨rfl, H, hfin.out, hRf.out, hKf.out⟩)
      ·have ic30 : ¬ (xa : Int) < (s : Int) := by have := he.out; omega
       by_cases c4 : e < xb
       ·have ic40 : (e : Int) < (xb : Int) := by have := he.out; omega
        have hRb : Hid (Rw wr B g n cap (rot F s xm e)) := hide1 (by rw [rot_id F (by omega)]; exact hR.out)
        have hKb := hK
        clear hR hK
        obtain ⟨G, hGe⟩ : ∃ G, Hid (G = rot F s xm e) := ⟨_, hide1 rfl⟩
        have hG : Hid (Mgd ltE (rot F s xm e) xa s mid G) := hide1 (by rw [hGe.out]; exact mgd_no (by omega))
        have hRd : Hid (Rw wr B g n cap G) := hide1 (by rw [hGe.out]; exact hRb.out)
        have hKd := hKb
        clear hRb hKb
        obtain ⟨H, hHe⟩ : ∃ H, Hid (H = G) := ⟨_, hide1 rfl⟩
        have hH : Hid (Mgd ltE G mid e xb H) := hide1 (by rw [hHe.out]; exact mgd_no (by omega))
        have hRf := hRd
        have hKf := hKd
        rw [← hHe.out] at hRf
        clear hRd hKd
        have hfin : Hid (Mgd ltE F xa xm xb H) := hide1 (mgd_two (s := s) (e := e) (by omega) (by omega) (by omega) (by omega) hfl.out hfg.out (by rw [hmide.out]; exact hG.out) (by rw [hmide.out]; exact hH.out))
        clear hG hH hfl hfg
        go_wp2
        all_goals (go_end0; exact ⟨rfl, H, hfin.out, hRf.out, hKf.out⟩)
       ·have ic40 : ¬ (e : Int) < (xb : Int) := by have := he.out; omega
        have hRb : Hid (Rw wr B g n cap (rot F s xm e)) := hide1 (by rw [rot_id F (by omega)]; exact hR.out)
        have hKb := hK
        clear hR hK
        obtain ⟨G, hGe⟩ : ∃ G, Hid (G = rot F s xm e) := ⟨_, hide1 rfl⟩
        have hG : Hid (Mgd ltE (rot F s xm e) xa s mid G) := hide1 (by rw [hGe.out]; exact mgd_no (by omega))
        have hRd : Hid (Rw wr B g n cap G) := hide1 (by rw [hGe.out]; exact hRb.out)
        have hKd := hKb
        clear hRb hKb
        obtain ⟨H, hHe⟩ : ∃ H, Hid (H = G) := ⟨_, hide1 rfl⟩
        have hH : Hid (Mgd ltE G mid e xb H) := hide1 (by rw [hHe.out]; exact mgd_no (by omega))
        have hRf := hRd
        have hKf := hKd
        rw [← hHe.out] at hRf
        clear hRd hKd
        have hfin : Hid (Mgd ltE F xa xm xb H) := hide1 (mgd_two (s := s) (e := e) (by omega) (by omega) (by omega) (by omega) hfl.out hfg.out (by rw [hmide.out]; exact hG.out) (by rw [hmide.out]; exact hH.out))
        clear hG hH hfl hfg
        go_wp2
        all_goals (go_end0; exact ⟨rfl, H, hfin.out, hRf.out, hKf.out⟩)
theorem sym_d (N : Nat) : Sym N := by
 induction N with
 | zero =>
  unfold Sym
  intro w B g n cap xa xm xb F hM h h1 h2
  omega
 | succ N ih =>
  unfold Sym
  intro w B g n cap xa xm xb F hM h h1 h2 hbn hn hr1 hr2
  by_cases e1 : xm = xa + 1
  ·exact sym_l h e1 h2 hbn hn hr2
  ·by_cases e2 : xb = xm + 1
   ·exact sym_r h (by omega) e2 hbn hn hr1
   ·exact sym_g ih hM h (by omega) (by omega) hbn hn hr1 hr2
section
variable {F G H : Nat → Ep} {bs n x : Nat}
inductive Bq (bs n : Nat) (F G : Nat → Ep) : Nat → Prop
 | last {x : Nat} : x ≤ n → n < x + bs → sg G x (n - x) = ss ltE (sg F x (n - x)) → Bq bs n F G x
 | cons {x : Nat} : x + bs ≤ n → sg G x bs = ss ltE (sg F x bs) → Bq bs n F G (x + bs) → Bq bs n F G x
theorem Bq.congr (h : Bq bs n F G x) (e : ∀ k, x ≤ k → k < n → H k = G k) : Bq bs n F H x := by
 induction h with
 | last h1 h2 h3 => exact .last h1 h2 (by rw [← h3]; exact sg_congr fun i hi => e _ (by omega) (by omega))
 | cons h1 h2 h3 ih => exact .cons h1 (by rw [← h2]; exact sg_congr fun i hi => e _ (by omega) (by omega)) (ih fun k k1 k2 => e k (by omega) k2)
theorem Bq.whole (h : Bq bs n F G 0) (hb : n ≤ bs) : sg G 0 n = ss ltE (sg F 0 n) := by
 cases h with
 | last h1 h2 h3 => exact h3
 | cons h1 h2 h3 => rw [show n = bs by omega]; exact h2
def Ahd (bs n : Nat) (F G : Nat → Ep) (a : Nat) : Prop := ∀ H : Nat → Ep, (∀ k, k < a → H k = G k) → Bq bs n F H a → Bq bs n F H 0
theorem Ahd.start : Ahd bs n F G 0 := fun _ _ h => h
theorem Ahd.step {a : Nat} (h : Ahd bs n F G a) (hab : a + bs ≤ n) (e : ∀ k, k < a → H k = G k) (hs : sg H a bs = ss ltE (sg F a bs)) : Ahd bs n F H (a + bs) := fun K hK hb =>
 h K (fun k hk => (hK k (by omega)).trans (e k hk)) (.cons hab (by rw [← hs]; exact sg_congr fun i hi => hK _ (by omega)) hb)
theorem Ahd.fin {a : Nat} (h : Ahd bs n F G a) (e : ∀ k, k < a → H k = G k) (hb : Bq bs n F H a) : Bq bs n F H 0 := h H e hb
theorem sorted_rs {a b : Nat} (h : sg G a (b - a) = ss ltE (sg F a (b - a))) : Rs ltE G a b := by
 rw [rs_sg, h]; exact ss_ri ok_ltE _
theorem Bq.two {a : Nat} (h : Bq bs n F G a) (hb : 1 ≤ bs) (h2 : a + 2 * bs ≤ n) : sg G a bs = ss ltE (sg F a bs) ∧ sg G (a + bs) bs = ss ltE (sg F (a + bs) bs) ∧ Bq bs n F G (a + 2 * bs) := by
 cases h with
 | last h1 h2 h3 => omega
 | cons h1 h3 h4 =>
  cases h4 with
  | last g1 g2 g3 => omega
  | cons g1 g2 g3 => exact ⟨h3, g2, by rw [show a + 2 * bs = a + bs + bs by omega]; exact g3⟩
theorem Bq.tail {a : Nat} (h : Bq bs n F G a) (h1 : a + bs < n) (h2 : n < a + 2 * bs) : sg G a bs = ss ltE (sg F a bs) ∧ sg G (a + bs) (n - (a + bs)) = ss ltE (sg F (a + bs) (n - (a + bs))) := by
 cases h with
 | last h1 h2 h3 => omega
 | cons g1 g3 g4 =>
  cases g4 with
  | last g1 g2 g5 => exact ⟨g3, g5⟩
  | cons g1 g2 g5 => omega
theorem Bq.one {a : Nat} (h : Bq bs n F G a) (h1 : n ≤ a + bs) (hb : 1 ≤ bs) : Bq (2 * bs) n F G a := by
 cases h with
 | last h1 h2 h3 => exact .last h1 (by omega) h3
 | cons g1 g3 g4 => exact .last (by omega) (by omega) (by rw [show n - a = bs by omega]; exact g3)
theorem two_std {a m b : Nat} (h1 : a ≤ m) (h2 : m ≤ b) (g1 : sg G a (m - a) = ss ltE (sg F a (m - a))) (g2 : sg G m (b - m) = ss ltE (sg F m (b - m))) (hm : Mgd ltE G a m b H) : sg H a (b - a) = ss ltE (sg F a (b - a)) := by
 rw [hm.2, g1, g2, sg_cut F h1 h2, ss_app ok_ltE]
end
set_option maxHeartbeats 16000000 in
set_option maxRecDepth 100000 in
theorem stb_d {w : World} {B g n cap : Nat} {F : Nat → Ep} (h : Rw w B g n cap F) (hn : n ≤ 2000000) :
  Calls Tryz.prog 99 #[.slice (some ⟨g, 0, none⟩) n cap, .int .i64 (n : Nat), .func (.func 73) #[] #[]] w fun e w' => e = .returned (.tuple #[]) ∧ ∃ G, Rw w' B g n cap G ∧ sg G 0 n = ss ltE (sg F 0 n) ∧ Kg g w w' := by
 have h0 := hide1 h
 clear h
 go_enter Tryz.func99, Tryz.ntmps99
 go_wp2_with fail
 go_loopw [7, 8] (fun s7 s8 wr => ∃ (a : Nat) (G : Nat → Ep), s7 = .int .i64 (a : Nat) ∧ s8 = .int .i64 (a + 20 : Nat) ∧ a ≤ n ∧ Hid (Ahd 20 n F G a) ∧ Hid (∀ k, a ≤ k → G k = F k) ∧ Hid (Rw wr B g n cap G) ∧ Hid (Kg g w wr)) (fun s7 _ _ => n - (intOf s7).toNat)
 case atStart => exact ⟨0, F, rfl, rfl, Nat.zero_le _, hide1 Ahd.start, hide1 fun _ _ => rfl, h0, hide1 (Kg.refl g w)⟩
 case round =>
  obtain ⟨xa, G, rfl, rfl, ha, hA, hF, hR, hK⟩ := hrel
  have e20 : ((xa + 20 : Nat) : Int) = (xa : Int) + 20 := by omega
  by_cases hlt : xa + 20 ≤ n
  ·have hc := ins_d (xa := xa) (xb := xa + 20) hR.out hlt ha hn
   have ht : ((xa + 20 : Nat) : Int) ≤ (n : Int) := by omega
   replace e20 := hide1 e20
   go_wp2_with fail
   refine hc.mono ?_
   rintro er w1 ⟨rfl, H, hs, hR1, hK1⟩
   have hA2 : Hid (Ahd 20 n F H (xa + 20)) := hide1 (hA.out.step hlt (fun k hk => hs.1 k (by omega)) (by
    have := hs.2
    rw [show xa + 20 - xa = 20 by omega] at this
    rw [this]
    congr 1
    exact sg_congr fun i hi => hF.out _ (by omega)))
   have hF2 : Hid (∀ k, xa + 20 ≤ k → H k = F k) := hide1 fun k hk => (hs.1 k (by omega)).trans (hF.out k (by omega))
   have hR2 := hide1 hR1
   have hK2 : Hid (Kg g w w1) := hide1 (hK.out.trans hK1)
   clear hc hs hR1 hK1 hR hK hA hF
   go_wp2
   go_roundw
   case rel => exact ⟨xa + 20, H, by first | rfl | (congr 1; omega) | go_num, by first | rfl | (congr 1; omega) | go_num, hlt, hA2, hF2, hR2, hK2⟩
   case measure => simp [intOf]; omega
  ·have hc := ins_d (xa := xa) (xb := n) hR.out (Nat.le_refl n) ha hn
   have ht : ¬ ((xa + 20 : Nat) : Int) ≤ (n : Int) := by omega
   replace e20 := hide1 e20
   go_wp2_with fail
   refine hc.mono ?_
   rintro er w1 ⟨rfl, H, hs, hR1, hK1⟩
   have hB : Hid (Bq 20 n F H 0) := hide1 (hA.out.fin (fun k hk => hs.1 k (by omega)) (.last ha (by omega) (by
    rw [hs.2]
    congr 1
    exact sg_congr fun i hi => hF.out _ (by omega))))
   have hR2 := hide1 hR1
   have hK2 : Hid (Kg g w w1) := hide1 (hK.out.trans hK1)
   clear hc hs hR1 hK1 hR hK hA hF
   go_wp2_with fail
   go_loopw [6] (fun s6 wr => ∃ (bs : Nat) (G : Nat → Ep), s6 = .int .i64 (bs : Nat) ∧ 1 ≤ bs ∧ bs ≤ 4000000 ∧ Hid (Bq bs n F G 0) ∧ Hid (Rw wr B g n cap G) ∧ Hid (Kg g w wr)) (fun s6 _ => n - (intOf s6).toNat)
   case atStart => exact ⟨20, H, rfl, by omega, by omega, hB, hR2, hK2⟩
   case round =>
    obtain ⟨bs, G, rfl, hb1, hb2, hB, hR, hK⟩ := hrel
    by_cases hbn : bs < n
    ·have e2 : Hid (((2 * bs : Nat) : Int) = 2 * (bs : Int)) := hide1 (by omega)
     go_wp2_with fail
     go_loopw [7, 8] (fun s7 s8 wr => ∃ (a : Nat) (G : Nat → Ep), s7 = .int .i64 (a : Nat) ∧ s8 = .int .i64 (a + 2 * bs : Nat) ∧ a ≤ n ∧ Hid (Ahd (2 * bs) n F G a) ∧ Hid (Bq bs n F G a) ∧ Hid (Rw wr B g n cap G) ∧ Hid (Kg g w wr)) (fun s7 _ _ => n - (intOf s7).toNat)
     case atStart => exact ⟨0, G, rfl, by first | rfl | (congr 1; omega) | go_num, Nat.zero_le _, hide1 Ahd.start, hB, hR, hK⟩
     case round =>
      obtain ⟨xa, L, rfl, rfl, ha, hA, hBk, hR3, hK3⟩ := hrel
      by_cases hlt2 : xa + 2 * bs ≤ n
      ·obtain ⟨g1, g2, g3⟩ := hBk.out.two hb1 hlt2
       have hc := sym_d (xa + 2 * bs - xa) (xa := xa) (xm := xa + bs) (xb := xa + 2 * bs) (Nat.le_refl _) hR3.out (by omega) (by omega) hlt2 hn (sorted_rs (F := F) (by rw [show xa + bs - xa = bs by omega]; exact g1)) (sorted_rs (F := F) (by rw [show xa + 2 * bs - (xa + bs) = bs by omega]; exact g2))
       have em : ((xa + bs : Nat) : Int) = (xa : Int) + (bs : Int) := by omega
       rw [em] at hc
       have ht2 : ((xa + 2 * bs : Nat) : Int) ≤ (n : Int) := by omega
       replace em := hide1 em
       replace g1 := hide1 g1
       replace g2 := hide1 g2
       replace g3 := hide1 g3
       go_wp2_with fail
       refine hc.mono ?_
       rintro er w4 ⟨rfl, M, hM, hR4, hK4⟩
       have hA3 : Hid (Ahd (2 * bs) n F M (xa + 2 * bs)) := hide1 (hA.out.step hlt2 (fun k hk => hM.1 k (by omega)) (by
        have := two_std (F := F) (G := L) (H := M) (a := xa) (m := xa + bs) (b := xa + 2 * bs) (by omega) (by omega) (by rw [show xa + bs - xa = bs by omega]; exact g1.out) (by rw [show xa + 2 * bs - (xa + bs) = bs by omega]; exact g2.out) hM
        rwa [show xa + 2 * bs - xa = 2 * bs by omega] at this))
       have hB3 : Hid (Bq bs n F M (xa + 2 * bs)) := hide1 (g3.out.congr fun k k1 k2 => hM.1 k (by omega))
       have hR5 := hide1 hR4
       have hK5 : Hid (Kg g w w4) := hide1 (hK3.out.trans hK4)
       clear hc hM hR4 hK4 hR3 hK3 hA hBk g1 g2 g3
       go_wp2
       go_roundw
       case rel => exact ⟨xa + 2 * bs, M, by first | rfl | (congr 1; omega) | go_num, by first | rfl | (congr 1; omega) | go_num, hlt2, hA3, hB3, hR5, hK5⟩
       case measure => simp [intOf]; omega
      ·have ht2 : ¬ ((xa + 2 * bs : Nat) : Int) ≤ (n : Int) := by omega
       by_cases hm : xa + bs < n
       ·obtain ⟨g1, g2⟩ := hBk.out.tail hm (by omega)
        have hc := sym_d (n - xa) (xa := xa) (xm := xa + bs) (xb := n) (Nat.le_refl _) hR3.out (by omega) hm (Nat.le_refl n) hn (sorted_rs (F := F) (by rw [show xa + bs - xa = bs by omega]; exact g1)) (sorted_rs (F := F) g2)
        have em : ((xa + bs : Nat) : Int) = (xa : Int) + (bs : Int) := by omega
        rw [em] at hc
        have hm2 : (xa : Int) + (bs : Int) < (n : Int) := by omega
        replace em := hide1 em
        replace g1 := hide1 g1
        replace g2 := hide1 g2
        go_wp2_with fail
        refine hc.mono ?_
        rintro er w4 ⟨rfl, M, hM, hR4, hK4⟩
        have hB3 : Hid (Bq (2 * bs) n F M 0) := hide1 (hA.out.fin (fun k hk => hM.1 k (by omega)) (.last ha (by omega) (two_std (F := F) (G := L) (H := M) (a := xa) (m := xa + bs) (b := n) (by omega) (by omega) (by rw [show xa + bs - xa = bs by omega]; exact g1.out) g2.out hM)))
        have hR5 := hide1 hR4
        have hK5 : Hid (Kg g w w4) := hide1 (hK3.out.trans hK4)
        clear hc hM hR4 hK4 hR3 hK3 hA hBk g1 g2
        go_wp2
        go_roundw
        case rel => exact ⟨2 * bs, M, by first | rfl | (congr 1; omega) | go_num, by omega, by omega, hB3, hR5, hK5⟩
        case measure => simp [intOf]; omega
       ·have hm2 : ¬ (xa : Int) + (bs : Int) < (n : Int) := by omega
        have hB3 : Hid (Bq (2 * bs) n F L 0) := hide1 (hA.out.fin (fun _ _ => rfl) (hBk.out.one (by omega) hb1))
        clear hA hBk
        go_wp2
        go_roundw
        case rel => exact ⟨2 * bs, L, by first | rfl | (congr 1; omega) | go_num, by omega, by omega, hB3, hR3, hK3⟩
        case measure => simp [intOf]; omega
    ·have hfin : Hid (sg G 0 n = ss ltE (sg F 0 n)) := hide1 (hB.out.whole (by omega))
     clear hB
     go_wp2
     go_end0
     exact ⟨rfl, G, hR.out, hfin.out, hK.out⟩
set_option maxRecDepth 100000 in
theorem sort_d {w : World} {B g n cap : Nat} {F : Nat → Ep} (h : Rw w B g n cap F) (hn : n ≤ 2000000) :
  Calls Tryz.prog 72 #[.slice (some ⟨g, 0, none⟩) n cap, .func (.func 73) #[] #[]] w fun e w' => e = .returned (.tuple #[]) ∧ ∃ G, Rw w' B g n cap G ∧ sg G 0 n = ss ltE (sg F 0 n) ∧ Kg g w w' := by
 have hc := stb_d h hn
 clear h
 go_enter Tryz.func72, Tryz.ntmps72
 go_wp2_with fail
 refine hc.mono ?_
 rintro e w1 ⟨rfl, G, h1, h2, h3⟩
 replace h2 := hide1 h2
 go_wp2
 go_end0
 exact ⟨rfl, G, h1, h2.out, h3⟩
section
variable {α β : Type}
inductive A2 (R : α → β → Prop) : List α → List β → Prop
 | nil : A2 R [] []
 | cons {a : α} {b : β} {l : List α} {m : List β} : R a b → A2 R l m → A2 R (a :: l) (b :: m)
variable {R : α → β → Prop} {l : List α} {m : List β}
theorem A2.app {l' : List α} {m' : List β} (h : A2 R l m) (h' : A2 R l' m') : A2 R (l ++ l') (m ++ m') := by
 induction h with
 | nil => exact h'
 | cons h _ ih => exact .cons h ih
theorem A2.at (h : A2 R l m) : ∀ {j : Nat} {a : α} {b : β}, l[j]? = some a → m[j]? = some b → R a b := by
 induction h with
 | nil => intro j a b h; simp at h
 | cons h _ ih =>
  intro j a b h1 h2
  cases j with
  | zero => cases h1; cases h2; exact h
  | succ j => exact ih h1 h2
theorem A2.of : ∀ {l : List α} {m : List β}, l.length = m.length → (∀ (j : Nat) (a : α) (b : β), l[j]? = some a → m[j]? = some b → R a b) → A2 R l m
 | [], [], _, _ => .nil
 | [], _ :: _, h, _ => by simp at h
 | _ :: _, [], h, _ => by simp at h
 | a :: l, b :: m, h, hr => .cons (hr 0 a b rfl rfl) (A2.of (by simpa using h) fun j x y h1 h2 => hr (j + 1) x y h1 h2)
theorem A2.tw {p : α → Bool} {q : β → Bool} (hp : ∀ a b, R a b → p a = q b) (h : A2 R l m) : A2 R (l.takeWhile p) (m.takeWhile q) ∧ A2 R (l.dropWhile p) (m.dropWhile q) := by
 induction h with
 | nil => exact ⟨.nil, .nil⟩
 | @cons a b l m h ht ih =>
  have e := hp a b h
  simp only [List.takeWhile_cons, List.dropWhile_cons, e]
  cases q b with
  | true => exact ⟨.cons h ih.1, ih.2⟩
  | false => exact ⟨.nil, .cons h ht⟩
variable {lt : α → α → Bool} {lt' : β → β → Bool}
theorem mg_rel (hR : ∀ a b a' b', R a b → R a' b' → lt a a' = lt' b b') {A : List α} {A' : List β} (hA : A2 R A A') : ∀ {B : List α} {B' : List β}, A2 R B B' → A2 R (mg lt A B) (mg lt' A' B') := by
 induction hA with
 | nil => intro B B' h; exact h
 | @cons a b l m h _ ih =>
  intro B B' hB
  obtain ⟨h1, h2⟩ := hB.tw (p := (lt · a)) (q := (lt' · b)) fun x y hxy => hR x y a b hxy h
  exact h1.app (.cons h (ih h2))
theorem ss_rel (hR : ∀ a b a' b', R a b → R a' b' → lt a a' = lt' b b') (h : A2 R l m) : A2 R (ss lt l) (ss lt' m) := by
 have : ∀ {P : List α} {P' : List β}, A2 R P P' → A2 R (l.foldl (fun P x => mg lt P [x]) P) (m.foldl (fun P x => mg lt' P [x]) P') := by
  induction h with
  | nil => intro P P' h; exact h
  | cons h _ ih => intro P P' hP; exact ih (mg_rel hR hP (.cons h .nil))
 exact this .nil
end
abbrev Tp := List UInt8 × T
def ltT (q q' : Tp) : Bool := bl q.1 q'.1
def so : Nat → T → T
 | 0, t => t
 | n + 1, .mk k i s l p => .mk k i s (l.map (so n)) (ss ltT (p.map fun q => (q.1, so n q.2)))
def Fp (p : List Tp) (ds : List (List Value)) : Nat → Ep := fun k => ((p.getD k ([], .mk 0 0 [] [] [])).1, (ds.getD k []).tail)
section
variable {B gb vc : Nat} {wr w7 : World} {cp ds : List (List Value)} {p : List Tp}
theorem fp_at (hC : Cp PA 49 6 B p cp (.slice (some ⟨gb, 0, none⟩) cp.length vc) cp.length wr ds) (hp : cp.length = p.length) {j : Nat} (hj : j < cp.length) :
  ∃ q c, p[j]? = some q ∧ ds[j]? = some c ∧ c = cl (Fp p ds j) ∧ (Fp p ds j).1 = q.1 ∧ EpOk (Fp p ds j) ∧ VA (fun k => B ≤ k ∧ k ≠ gb) wr q.2 (Fp p ds j).2 := by
 have hdl := hC.ln
 obtain ⟨q, hq⟩ : ∃ q, p[j]? = some q := ⟨_, List.getElem?_eq_getElem (by omega)⟩
 obtain ⟨c, hc⟩ : ∃ c, ds[j]? = some c := ⟨_, List.getElem?_eq_getElem (by omega)⟩
 obtain ⟨h1, h2⟩ := hC.new j q c hj hq hc
 have h6 := hC.lz c (List.mem_of_getElem? hc)
 have e1 : (p.getD j ([], .mk 0 0 [] [] [])) = q := by rw [List.getD_eq_getElem?_getD, hq]; rfl
 have e2 : ds.getD j [] = c := by rw [List.getD_eq_getElem?_getD, hc]; rfl
 have h2' : VA (fun k => B ≤ k ∧ k ≠ gb) wr q.2 c.tail := h2.frame (fun _ _ _ => rfl) (fun k hk _ => ⟨hk.1, fun e => hk.2 (by rw [e]; rfl)⟩)
 refine ⟨q, c, hq, hc, ?_, by unfold Fp; rw [e1], ?_, ?_⟩
 ·unfold Fp cl
  rw [e1, e2]
  cases c with
  | nil => simp at h6
  | cons x r => simp at h1; rw [h1]; rfl
 ·unfold Fp EpOk
  rw [e2]
  exact ⟨h2'.len, h2'.one⟩
 ·unfold Fp
  rw [e2]
  exact h2'
theorem fp_map (hC : Cp PA 49 6 B p cp (.slice (some ⟨gb, 0, none⟩) cp.length vc) cp.length wr ds) (hp : cp.length = p.length) : (sg (Fp p ds) 0 cp.length).map cl = ds := by
 refine List.ext_getElem? fun j => ?_
 have hdl := hC.ln
 by_cases hj : j < cp.length
 ·obtain ⟨q, c, _, h2, h3, _⟩ := fp_at hC hp hj
  rw [List.getElem?_map, sg_at hj, h2, h3, Nat.zero_add]; rfl
 ·rw [List.getElem?_eq_none (by rw [List.length_map, sg_len]; omega), List.getElem?_eq_none (by omega)]
theorem fp_rw (hC : Cp PA 49 6 B p cp (.slice (some ⟨gb, 0, none⟩) cp.length vc) cp.length wr ds) (hp : cp.length = p.length) : Rw wr B gb cp.length vc (Fp p ds) := by
 refine ⟨?_, fun k hk => by obtain ⟨q, c, _, _, _, _, h, _⟩ := fp_at hC hp hk; exact h⟩
 rw [fp_map hC hp]
 have := hC.row
 rwa [hC.ln] at this
theorem fp_fin (hC : Cp PA 49 6 B p cp (.slice (some ⟨gb, 0, none⟩) cp.length vc) cp.length wr ds) (hp : cp.length = p.length) {G : Nat → Ep} (hG : sg G 0 cp.length = ss ltE (sg (Fp p ds) 0 cp.length)) :
  A2 (fun (e : Ep) (q : Tp) => e.1 = q.1 ∧ VA (fun k => B ≤ k ∧ k ≠ gb) wr q.2 e.2) (sg G 0 cp.length) (ss ltT p) := by
 rw [hG]
 refine ss_rel (fun a b a' b' h h' => by unfold ltE ltT; rw [h.1, h'.1]) (A2.of (by rw [sg_len, hp]) fun j a b h1 h2 => ?_)
 have hj : j < cp.length := by have := (List.getElem?_eq_some_iff.1 h1).1; rwa [sg_len] at this
 obtain ⟨q, c, g1, _, _, g4, _, g6⟩ := fp_at hC hp hj
 rw [sg_at hj, Nat.zero_add] at h1
 cases h1
 rw [g1] at h2
 cases h2
 exact ⟨g4, g6⟩
end
set_option maxRecDepth 100000 in
theorem ins0_d {w : World} {a : Option Addr} {cap : Nat} {fv : Value} : Calls Tryz.prog 120 #[.slice a 0 cap, .int .i64 0, .int .i64 0, fv] w fun e w' => e = .returned (.tuple #[]) ∧ w' = w := by
 go_enter Tryz.func120, Tryz.ntmps120
 go_wp2_with fail
 go_loopw [8] (fun s8 wo => s8 = .int .i64 1 ∧ wo = w) (fun _ _ => 0)
 case atStart => exact ⟨rfl, rfl⟩
 case round =>
  obtain ⟨rfl, rfl⟩ := hrel
  go_wp2
  go_end0
  exact ⟨rfl, rfl⟩
set_option maxRecDepth 100000 in
theorem stb0_d {w : World} {a : Option Addr} {cap : Nat} {fv : Value} : Calls Tryz.prog 99 #[.slice a 0 cap, .int .i64 0, fv] w fun e w' => e = .returned (.tuple #[]) ∧ w' = w := by
 have hc := ins0_d (w := w) (a := a) (cap := cap) (fv := fv)
 go_enter Tryz.func99, Tryz.ntmps99
 go_wp2_with fail
 go_loopw [7, 8] (fun s7 s8 wr => s7 = .int .i64 0 ∧ s8 = .int .i64 20 ∧ wr = w) (fun _ _ _ => 0)
 case atStart => exact ⟨rfl, rfl, rfl⟩
 case round =>
  obtain ⟨rfl, rfl, rfl⟩ := hrel
  go_wp2_with fail
  refine hc.mono ?_
  rintro e w1 ⟨rfl, rfl⟩
  go_wp2_with fail
  go_loopw [6] (fun s6 wr => s6 = .int .i64 20 ∧ wr = w1) (fun _ _ => 0)
  case atStart => exact ⟨rfl, rfl⟩
  case round =>
   obtain ⟨rfl, rfl⟩ := hrel
   go_wp2
   go_end0
   exact ⟨rfl, rfl⟩
set_option maxRecDepth 100000 in
theorem sort0_d {w : World} {a : Option Addr} {cap : Nat} {fv : Value} : Calls Tryz.prog 72 #[.slice a 0 cap, fv] w fun e w' => e = .returned (.tuple #[]) ∧ w' = w := by
 have hc := stb0_d (w := w) (a := a) (cap := cap) (fv := fv)
 go_enter Tryz.func72, Tryz.ntmps72
 go_wp2_with fail
 refine hc.mono ?_
 rintro e w1 ⟨rfl, rfl⟩
 go_wp2
 go_end0
 exact ⟨rfl, rfl⟩
def HQ (Q : T → Prop) : T → Prop
 | .mk _ _ _ l p => l.length ≤ 1000000 ∧ p.length ≤ 1000000 ∧ (∀ t ∈ l, Q t) ∧ ∀ q ∈ p, Q q.2
set_option maxHeartbeats 8000000 in
set_option maxRecDepth 100000 in
theorem sorted_s {Q : T → Prop} {d : Nat} (ih : ∀ {F : Nat → Prop} {w : World} {t : T} {c : List Value}, Q t → VA F w t c → Calls Tryz.prog 41 #[.agg c.toArray, .int .i64 (d - 1 : Nat)] w (AnC w (so (d - 1) t)))
  {F : Nat → Prop} {w : World} {t : T} {c : List Value} (hh : HQ Q t) (hd1 : 0 < d) (hd6 : d ≤ 65536) (h : VA F w t c) : Calls Tryz.prog 41 #[.agg c.toArray, .int .i64 (d : Nat)] w (AnC w (so d t)) := by
  have hd0 : ¬ (d : Int) = 0 := by omega
  cases h with
  | @mk k ki s l p sl sp cl cp r1 r2 e1 e2 hl hp1 hp2 =>
   obtain ⟨b1, b2, hl1, hl2⟩ := hh
   obtain ⟨l', hl'⟩ : ∃ l', Hid (l' = l.map (so (d - 1))) := ⟨_, hide1 rfl⟩
   obtain ⟨p', hp'⟩ : ∃ p', Hid (p' = p.map fun q => (q.1, so (d - 1) q.2)) := ⟨_, hide1 rfl⟩
   -- the boxes
   obtain ⟨wb, hwb⟩ : ∃ wb, wb = (w.alloc (.cells #[.int .i64 k, .int .i64 ki, .string (st s), sl, sp] 28)).alloc (.cells #[.int .i64 0, .int .i64 0, .string ⟨#[]⟩, .slice none 0 0, .slice none 0 0] 28) := ⟨_, rfl⟩
   have hbb : Cb w #[.int .i64 k, .int .i64 ki, .string (st s), sl, sp] wb := by
    rw [hwb]
    refine ⟨blw_al ((Below.refl _ _).alloc (Nat.le_refl _) _) (by simp) _, ?_, ?_, by simp⟩
    ·show ((w.heap.push _).push _)[w.heap.size]? = _
     rw [Array.getElem?_push, if_neg (by simp), Array.getElem?_push, if_pos rfl]
    ·show ((w.heap.push _).push _)[w.heap.size + 1]? = _
     rw [Array.getElem?_push, if_pos (by simp)]
     rfl
   have c3 : wb.cell? ⟨w.heap.size, 3, none⟩ = some sl := by simp only [World.cell?, hbb.b2]; rfl
   have r1b : RwA F wb 28 5 sl cl := r1.frame (fun k _ hs => hbb.bw.block k hs) (fun _ h _ => h)
   have hon1 : ∀ x ∈ cl, x.all (·.oneCell') = true := fun x hx => by
    obtain ⟨j, hj, rfl⟩ := List.mem_iff_getElem.1 hx
    have hj2 : j < l.length := by omega
    exact (hl j _ _ (List.getElem?_eq_getElem hj2) (List.getElem?_eq_getElem hj)).one
   have hcl := clone_V r1b hon1 (by omega)
   have hb1l : cl.length ≤ 1000000 := by omega
   have hb2l : cp.length ≤ 1000000 := by omega
   replace e1 := hide1 e1
   replace e2 := hide1 e2
   replace hbb := hide1 hbb
   subst hwb
   go_enter Tryz.func41, Tryz.ntmps41
   go_wp2_with fail
   refine hcl.mono ?_
   rintro e w1 ⟨v1, rfl, bw1, row1⟩
   have hb1 := hbb.out.keep bw1
   have hsb := hbb.out.sz
   -- the row of the list's own
   obtain ⟨va, vc, hva⟩ : ∃ va vc, v1 = .slice va cl.length vc := by
    obtain ⟨_, ⟨h1, h2⟩ | ⟨g', cap, cur, h1, _⟩⟩ := row1
    ·exact ⟨none, 0, by rw [h1, h2]⟩
    ·exact ⟨_, cap, h1⟩
   have hw2 : w1.setCell ⟨w.heap.size, 3, none⟩ v1 = w1.setRow w.heap.size #[.int .i64 k, .int .i64 ki, .string (st s), v1, sp] := by
    rw [setCell_eq_setRow w1 w.heap.size 3 _ _ (0, 0) _ hb1.b2]; rfl
   have cc : w1.cell? ⟨w.heap.size, 3, none⟩ = some sl := by simp only [World.cell?, hb1.b2]; rfl
   have cf : w1.frozen? ⟨w.heap.size, 3, none⟩ = false := by simp [World.frozen?, hb1.b2]
   have hB1 : w.heap.size + 2 ≤ ((w.alloc (.cells #[.int .i64 k, .int .i64 ki, .string (st s), sl, sp] 28)).alloc (.cells #[.int .i64 0, .int .i64 0, .string ⟨#[]⟩, .slice none 0 0, .slice none 0 0] 28)).heap.size := hsb
   have hb2 : Cb w #[.int .i64 k, .int .i64 ki, .string (st s), v1, sp] (w1.setCell ⟨w.heap.size, 3, none⟩ v1) := by
    rw [hw2]
    exact ⟨blw_own hb1.bw (Nat.le_refl _) _, setRow_heap w1 w.heap.size _ _ _ _ hb1.b2, (setRow_other w1 _ _ _ (by omega)).trans hb1.b4, by simpa [World.setRow] using hb1.sz⟩
   have hcp : Cp VA 28 5 (w.heap.size + 2) l' cl v1 0 (w1.setCell ⟨w.heap.size, 3, none⟩ v1) cl := by
    refine Cp.start ?_ r1.1
    rw [hw2]
    obtain ⟨q1, q2 | ⟨g', cap, cur, h1, hB, h2, h3⟩⟩ := row1
    ·exact ⟨q1, .inl q2⟩
    ·exact ⟨q1, .inr ⟨g', cap, cur, h1, by omega, (setRow_other w1 _ g' _ (by omega)).trans h2, h3⟩⟩
   have cg : (w1.setCell ⟨w.heap.size, 3, none⟩ v1).cell? ⟨w.heap.size, 3, none⟩ = some v1 := by simp only [World.cell?, hb2.b2]; rfl
   replace hb2 := hide1 hb2
   replace hcp := hide1 hcp
   clear hbb hb1 hsb row1 bw1 hcl r1b hw2 hB1 c3
   subst hva
   go_wp2_with fail
   generalize w1.setCell ⟨w.heap.size, 3, none⟩ (.slice va cl.length vc) = w2 at *
   go_loopw [27] (fun x wr => ∃ (i : Nat) (ds : List (List Value)), x = .int .i64 (i : Nat) ∧ i ≤ cl.length ∧ Hid (Cb w #[.int .i64 k, .int .i64 ki, .string (st s), .slice va cl.length vc, sp] wr) ∧ Hid (Cp VA 28 5 (w.heap.size + 2) l' cl (.slice va cl.length vc) i wr ds)) (fun x _ => cl.length - (intOf x).toNat)
   case atStart => exact ⟨0, cl, rfl, by omega, hb2, hcp⟩
   case round =>
    obtain ⟨i, ds, rfl, hin, hb, hc⟩ := hrel
    by_cases hlt : i < cl.length
    ·have hdl : ds.length = cl.length := hc.out.ln
     obtain ⟨x, hx⟩ : ∃ x, cl[i]? = some x := ⟨_, List.getElem?_eq_getElem hlt⟩
     obtain ⟨u, hu⟩ : ∃ u, l[i]? = some u := ⟨_, List.getElem?_eq_getElem (by have := e1.out; omega)⟩
     have hxu := hl i u x hu hx
     have hhu := hl1 u (List.mem_of_getElem? hu)
     have hdx : ds[i]? = some x := by rw [hc.out.old i (Nat.le_refl _)]; exact hx
     have hrw := own_rows hc.out.row hc.out.lz (F := fun _ => True) (fun _ _ => trivial)
     obtain ⟨gb, o, cap, hve, -, hgl, hr⟩ := hrw.at hdx
     have ho : o = 0 := by
      obtain ⟨_, ⟨h1, _⟩ | ⟨g', cap', cur, h1, _⟩⟩ := hc.out.row
      ·rw [h1] at hve; cases hve
      ·rw [h1] at hve; cases hve; rfl
     subst ho
     have hva : va = some ⟨gb, 0, none⟩ := by
      rw [hdl] at hve
      cases hve; rfl
     subst hva
     have hon := hon1 x (List.mem_of_getElem? hx)
     have hx5 : x.length = 5 := r1.1 x (List.mem_of_getElem? hx)
     obtain ⟨x0, x1, x2, x3, x4, rfl⟩ : ∃ x0 x1 x2 x3 x4, x = [x0, x1, x2, x3, x4] := by
      match x, hx5 with
      | [x0, x1, x2, x3, x4], _ => exact ⟨x0, x1, x2, x3, x4, rfl⟩
     rw [Nat.zero_add] at hr
     have hr6 : (wr.alloc (.cells #[.int .i64 0, .int .i64 0, .string ⟨#[]⟩, .slice none 0 0, .slice none 0 0] 28)).heap[wr.heap.size]? = some (.cells #[.int .i64 0, .int .i64 0, .string ⟨#[]⟩, .slice none 0 0, .slice none 0 0] 28 (0, 0)) := by
      show (wr.heap.push _)[wr.heap.size]? = _
      rw [Array.getElem?_push, if_pos rfl]
     have h6 := setRow_heap (wr.alloc (.cells #[.int .i64 0, .int .i64 0, .string ⟨#[]⟩, .slice none 0 0, .slice none 0 0] 28)) wr.heap.size _ #[x0, x1, x2, x3, x4] _ _ hr6
     have hal : ∀ k, k < wr.heap.size → ((wr.alloc (.cells #[.int .i64 0, .int .i64 0, .string ⟨#[]⟩, .slice none 0 0, .slice none 0 0] 28)).setRow wr.heap.size #[x0, x1, x2, x3, x4]).heap[k]? = wr.heap[k]? := fun k hk => (setRow_other _ _ k _ (by omega)).trans (by
      show (wr.heap.push _)[k]? = _
      rw [Array.getElem?_push, if_neg (by omega)])
     have hbw : Below wr.heap.size wr ((wr.alloc (.cells #[.int .i64 0, .int .i64 0, .string ⟨#[]⟩, .slice none 0 0, .slice none 0 0] 28)).setRow wr.heap.size #[x0, x1, x2, x3, x4]) := ⟨rfl, rfl, rfl, by simp [World.setRow], hal⟩
     have hb6 := hb.out.keep hbw
     have hc6 := hc.out.keep VA.fr (fun k _ hs => hal k hs)
     have hxw : VA F ((wr.alloc (.cells #[.int .i64 0, .int .i64 0, .string ⟨#[]⟩, .slice none 0 0, .slice none 0 0] 28)).setRow wr.heap.size #[x0, x1, x2, x3, x4]) u [x0, x1, x2, x3, x4] := hxu.frame (fun k _ hs => hb6.bw.block k hs) (fun _ h _ => h)
     replace h6 := hide1 h6
     replace hb6 := hide1 hb6
     replace hc6 := hide1 hc6
     replace hxw := hide1 hxw
     replace hon := hide1 hon
     clear hal hbw hb hc hxu hrw hve hx hdx hx5
     replace hu := hide1 hu
     go_upto_region 8 with (first | refine wpList_load_mid rfl 28 (.tmp 30) rfl gb (i * 5) rfl [x0, x1, x2, x3, x4] _ hr Tryz.underlying28 rfl (by kernel_rfl) ?_ | refine wpList_store_row rfl 28 (.tmp 6) (.tmp 31) rfl wr.heap.size #[x0, x1, x2, x3, x4] rfl rfl 28 _ hr6 (by kernel_rfl) rfl (by simpa using hon.out) ?_)
     generalize (wr.alloc (.cells #[.int .i64 0, .int .i64 0, .string ⟨#[]⟩, .slice none 0 0, .slice none 0 0] 28)).setRow wr.heap.size #[x0, x1, x2, x3, x4] = w3 at *
     generalize hq6 : wr.heap.size = q6 at *
     have ihc : ∀ w, Below w3.heap.size w3 w → Calls Tryz.prog 41 #[.agg #[x0, x1, x2, x3, x4], .int .i64 (d - 1 : Nat)] w (AnC w (so (d - 1) u)) := fun w hb => ih hhu (hxw.out.frame (F := F) (G := F) (fun k _ hs => hb.block k hs) (fun _ h _ => h))
     refine wp_flow 8 _ _ (by kernel_rfl) (by kernel_rfl) (by kernel_rfl) (by kernel_rfl) rfl (R7 w.heap.size gb cl.length vc i d #[x0, x1, x2, x3, x4] w3 (so (d - 1) u)) R7_mono ?_ ?_
     ·intro j o ho hj a wa hbw hsl hdep K hK
      match j, ho with
      | 0, ho =>
       obtain rfl := Option.some.inj ho
       have t2 : a.tmps.getD 2 undef = .pointer (some ⟨w.heap.size, 0, none⟩) := hsl 2 rfl
       exact wp_val (w' := wa) (by simp only [execOp, Act.eval]; rw [show a.tmps.getD 2 undef = _ from t2]; kernel_rfl) (hK _ _ (Below.refl _ _) rfl)
      | 1, ho =>
       obtain rfl := Option.some.inj ho
       have t := hdep 0 _ 32 rfl rfl ⟨⟨0, .data⟩, by simp, rfl, rfl⟩
       have hc3 : wa.cell? ⟨w.heap.size, 3, none⟩ = some (.slice (some ⟨gb, 0, none⟩) cl.length vc) := by
        rw [World.cell?_of_block (w := w3) (hbw.block _ (by have := hb6.out.sz; show w.heap.size < _; omega))]
        simp only [World.cell?, hb6.out.b2]; rfl
       exact wp_val (w' := wa) (by simp only [execOp, Act.eval]; rw [show a.tmps.getD 32 undef = _ from t]; simp only [Sem.run_bind, ld_sV hc3, Result.andThen_ok, Sem.run_pure]) (hK _ _ (Below.refl _ _) rfl)
      | 2, ho =>
       obtain rfl := Option.some.inj ho
       have t := hsl 5 rfl
       exact wp_val (w' := wa) (by simp only [execOp, Act.eval]; rw [show a.tmps.getD 5 undef = _ from t]; rfl) (hK _ _ (Below.refl _ _) rfl)
      | 3, ho =>
       obtain rfl := Option.some.inj ho
       have t := hsl 6 rfl
       have hl6 := (hbw.block q6 (Array.getElem?_eq_some_iff.1 h6.out).1).trans h6.out
       exact wp_val (w' := wa) (by simp only [execOp, Act.eval]; rw [show a.tmps.getD 6 undef = .pointer (some ⟨q6, 0, none⟩) from t]; simp only [Sem.run_bind, ldEV hl6 rfl, Result.andThen_ok, Sem.run_pure]) (hK _ _ (Below.refl _ _) rfl)
      | 4, ho =>
       obtain rfl := Option.some.inj ho
       have t := hsl 1 rfl
       exact wp_val (w' := wa) (by simp only [execOp, Act.eval]; rw [show a.tmps.getD 1 undef = _ from t]; rfl) (hK _ _ (Below.refl _ _) rfl)
      | 5, ho =>
       obtain rfl := Option.some.inj ho
       have t := hdep 4 _ 36 rfl rfl ⟨⟨4, .data⟩, by simp, rfl, rfl⟩
       exact wp_val (w' := wa) (by simp only [execOp, Act.eval]; rw [show a.tmps.getD 36 undef = _ from t]; simp only [Sem.run_bind, eqg_sub, sub_1 hd1 hd6, Result.andThen_ok, Sem.run_pure]) (hK _ _ (Below.refl _ _) rfl)
      | 6, ho =>
       obtain rfl := Option.some.inj ho
       have t3 := hdep 3 _ 35 rfl rfl ⟨⟨3, .data⟩, by simp, rfl, rfl⟩
       have t5 := hdep 5 _ 37 rfl rfl ⟨⟨5, .data⟩, by simp, rfl, rfl⟩
       refine oper_any (J := fun r w' => ∃ c : Array Value, r = .agg c ∧ c.size = 5 ∧ Below wa.heap.size wa w' ∧ VA (wa.heap.size ≤ ·) w' (so (d - 1) u) c.toList) 41 #[.tmp 35, .tmp 37] _ rfl #[.agg #[x0, x1, x2, x3, x4], .int .i64 (d - 1 : Nat)] (by simp only [List.map_toArray, List.map_cons, List.map_nil, Act.eval]; rw [show a.tmps.getD 35 undef = _ from t3, show a.tmps.getD 37 undef = _ from t5]) (fun w => by kernel_rfl) ((ihc wa hbw).mono fun e w' h => by obtain ⟨c, rfl, h1, h2, h3⟩ := h; exact ⟨_, rfl, c, rfl, h1, h2, h3⟩) ?_
       rintro r w' ⟨c, rfl, h1, h2, h3⟩
       exact hK _ _ h2 ⟨c, rfl, h1, h3.frame (fun _ _ _ => rfl) (fun k hk _ => Nat.le_trans hbw.size hk)⟩
      | 7, ho =>
       obtain rfl := Option.some.inj ho
       have t1 := hdep 1 _ 33 rfl rfl ⟨⟨1, .data⟩, by simp, rfl, rfl⟩
       have t2 := hdep 2 _ 34 rfl rfl ⟨⟨2, .data⟩, by simp, rfl, rfl⟩
       exact wp_val (w' := wa) (by simp only [execOp, Act.eval]; rw [show a.tmps.getD 33 undef = _ from t1, show a.tmps.getD 34 undef = _ from t2]; simp only [Sem.run_bind, ix_sV hlt, Result.andThen_ok, Sem.run_pure]) (hK _ _ (Below.refl _ _) rfl)
      | 8, _ => exact absurd rfl hj
      | _ + 9, ho => exact absurd ho (by simp)
     ·intro a wa hbw hdf hsz hsl hr K hK
      obtain ⟨c', t6, hc5, hcv⟩ := hr 6 _ 38 rfl (by decide) rfl
      have t7 := hr 7 _ 39 rfl (by decide) rfl
      have hca := hc6.out.keep VA.fr (fun k hk hs => hbw.block k hs)
      have hba := hb6.out.keep hbw
      have hrow := hca.row
      rw [hdl] at hrow
      obtain ⟨cur, hgb, hcur, hBg⟩ := own_cur hrow
      have hfit : i * 5 + 5 ≤ cl.length * 5 := by omega
      have hst := st_eV hgb hc5 (Nat.le_trans hfit hcur) (by simpa using hcv.one)
      have hp := own_piece hrow hc5 hfit hgb
      rw [← flat_set hca.lz i c'.toList (by omega)] at hp
      have hw3 := hb6.out.sz
      have hsa := hbw.size
      have hgq : gb < w3.heap.size := by have := (Array.getElem?_eq_some_iff.1 h6.out).1; omega
      have hC : Hid (Cp VA 28 5 (w.heap.size + 2) l' cl (.slice (some ⟨gb, 0, none⟩) cl.length vc) (i + 1) (wa.setRow gb (cur.toList.take (i * 5) ++ c'.toList ++ cur.toList.drop (i * 5 + 5)).toArray) (ds.set i c'.toList)) := hide1 (hca.step VA.fr (by simpa using hc5) (by omega) rfl (fun k hk => setRow_other wa gb k _ hk) (by rw [hdl]; exact hp) (fun t' ht' => by
       rw [hl'.out, List.getElem?_map, hu.out] at ht'
       cases ht'
       refine hcv.frame (fun k hk hs => setRow_other wa gb k _ ?_) (fun k hk hs => ⟨?_, ?_⟩)
       ·have : w3.heap.size ≤ k := hk
        omega
       ·have : w3.heap.size ≤ k := hk
        omega
       ·intro e
        have : k = gb := by simpa [Value.ownBlock] using e
        have : w3.heap.size ≤ k := hk
        omega))
      have hCb := hide1 (hba.over hBg (cur.toList.take (i * 5) ++ c'.toList ++ cur.toList.drop (i * 5 + 5)).toArray)
      generalize (cur.toList.take (i * 5) ++ c'.toList ++ cur.toList.drop (i * 5 + 5)).toArray = nw at *
      refine wp_skp (w' := wa.setRow gb nw) (by simp only [execOp, Act.eval]; rw [show a.tmps.getD 39 undef = _ from t7, show a.tmps.getD 38 undef = _ from t6]; simp only [Sem.run_bind, hst, Result.andThen_ok, Sem.run_pure]) ?_
      refine hK a (wa.setRow gb nw) ?_
      have hact := act_puts hdf hsz hsl
      clear hst hp hcv hca hba hrow hr hsl hdf hsz hbw hK t6 t7 ihc
      simp only [List.filterMap_cons, List.filterMap_nil, List.foldl_cons, List.foldl_nil] at hact
      rw [hact]
      generalize a.tmps.getD 32 undef = y32
      generalize a.tmps.getD 33 undef = y33
      generalize a.tmps.getD 34 undef = y34
      generalize a.tmps.getD 35 undef = y35
      generalize a.tmps.getD 36 undef = y36
      generalize a.tmps.getD 37 undef = y37
      generalize a.tmps.getD 38 undef = y38
      generalize a.tmps.getD 39 undef = y39
      clear hact a
      refine (‹∀ (a : Act) (w : World), Code.wp Tryz.prog _ _ a w → _›) _ (wa.setRow gb nw) ?_
      generalize wa.setRow gb nw = w4 at *
      go_wp2
      go_roundw
      case rel => exact ⟨i + 1, _, rfl, by omega, hCb, hC⟩
      case measure => simp [intOf]; omega
    ·have hie : i = cl.length := by omega
     subst hie
     have hcc : wr.cell? ⟨w.heap.size, 4, none⟩ = some sp := by simp only [World.cell?, hb.out.b2]; rfl
     have r2w : RwA F wr 49 6 sp cp := r2.frame (fun k _ hs => hb.out.bw.block k hs) (fun _ h _ => h)
     have hon2 : ∀ x ∈ cp, x.all (·.oneCell') = true := fun x hx => by
      obtain ⟨j, hj, rfl⟩ := List.mem_iff_getElem.1 hx
      have hj2 : j < p.length := by have := e2.out; omega
      have h1 := hp1 j _ _ (List.getElem?_eq_getElem hj2) (List.getElem?_eq_getElem hj)
      have h2 := (hp2 j _ _ (List.getElem?_eq_getElem hj2) (List.getElem?_eq_getElem hj)).one
      generalize cp[j] = x at *
      cases x with
      | nil => cases h1
      | cons a b =>
       simp at h1
       subst h1
       simpa [Value.oneCell'] using h2
     have hcl2 := clone_P r2w hon2 (by omega)
     have hwA := hb.out.sz
     clear hb2 hcp
     go_wp2_with fail
     refine hcl2.mono ?_
     rintro e w5 ⟨v2, rfl, bw5, row2⟩
     have hb5 := hb.out.keep bw5
     obtain ⟨va2, vc2, hva2⟩ : ∃ va vc, v2 = .slice va cp.length vc := by
      obtain ⟨_, ⟨h1, h2⟩ | ⟨g', cap, cur, h1, _⟩⟩ := row2
      ·exact ⟨none, 0, by rw [h1, h2]⟩
      ·exact ⟨_, cap, h1⟩
     have hw6 : w5.setCell ⟨w.heap.size, 4, none⟩ v2 = w5.setRow w.heap.size #[.int .i64 k, .int .i64 ki, .string (st s), .slice va cl.length vc, v2] := by
      rw [setCell_eq_setRow w5 w.heap.size 4 _ _ (0, 0) _ hb5.b2]; rfl
     have cc5 : w5.cell? ⟨w.heap.size, 4, none⟩ = some sp := by simp only [World.cell?, hb5.b2]; rfl
     have cf5 : w5.frozen? ⟨w.heap.size, 4, none⟩ = false := by simp [World.frozen?, hb5.b2]
     have hb6 : Cb w #[.int .i64 k, .int .i64 ki, .string (st s), .slice va cl.length vc, v2] (w5.setCell ⟨w.heap.size, 4, none⟩ v2) := by
      rw [hw6]
      exact ⟨blw_own hb5.bw (Nat.le_refl _) _, setRow_heap w5 w.heap.size _ _ _ _ hb5.b2, (setRow_other w5 _ _ _ (by omega)).trans hb5.b4, by simpa [World.setRow] using hb5.sz⟩
     have hkA : ∀ k, w.heap.size + 2 ≤ k → k < wr.heap.size → (w5.setCell ⟨w.heap.size, 4, none⟩ v2).heap[k]? = wr.heap[k]? := fun k hk hs => by
      rw [hw6]
      exact (setRow_other w5 _ k _ (by omega)).trans (bw5.block k hs)
     have hcp2 : Cp PA 49 6 wr.heap.size p' cp v2 0 (w5.setCell ⟨w.heap.size, 4, none⟩ v2) cp := by
      refine Cp.start ?_ r2.1
      rw [hw6]
      obtain ⟨q1, q2 | ⟨g', cap, cur, h1, hB, h2, h3⟩⟩ := row2
      ·exact ⟨q1, .inl q2⟩
      ·exact ⟨q1, .inr ⟨g', cap, cur, h1, hB, (setRow_other w5 _ g' _ (by omega)).trans h2, h3⟩⟩
     have hsA : wr.heap.size ≤ (w5.setCell ⟨w.heap.size, 4, none⟩ v2).heap.size := by
      have := bw5.size
      simpa using this
     have cg6 : (w5.setCell ⟨w.heap.size, 4, none⟩ v2).cell? ⟨w.heap.size, 4, none⟩ = some v2 := by simp only [World.cell?, hb6.b2]; rfl
     replace hb6 := hide1 hb6
     replace hcp2 := hide1 hcp2
     replace hkA := hide1 hkA
     replace hsA := hide1 hsA
     clear hb5 row2 bw5 hcl2 r2w hw6
     subst hva2
     go_wp2_with fail
     generalize w5.setCell ⟨w.heap.size, 4, none⟩ (.slice va2 cp.length vc2) = w6 at *
     obtain ⟨wA, rfl⟩ : ∃ x, x = wr := ⟨_, rfl⟩
     go_loopw [48] (fun x wr => ∃ (i : Nat) (ds : List (List Value)), x = .int .i64 (i : Nat) ∧ i ≤ cp.length ∧ Hid (Cb w #[.int .i64 k, .int .i64 ki, .string (st s), .slice va cl.length vc, .slice va2 cp.length vc2] wr) ∧ Hid (Cp PA 49 6 wA.heap.size p' cp (.slice va2 cp.length vc2) i wr ds) ∧ Hid (∀ k, w.heap.size + 2 ≤ k → k < wA.heap.size → wr.heap[k]? = wA.heap[k]?) ∧ Hid (wA.heap.size ≤ wr.heap.size)) (fun x _ => cp.length - (intOf x).toNat)
     case atStart => exact ⟨0, cp, rfl, by omega, hb6, hcp2, hkA, hsA⟩
     case round =>
      clear hb6 hcp2 hkA hsA
      obtain ⟨i, ds2, rfl, hin, hb2, hc2, hkA, hsA⟩ := hrel
      by_cases hlt : i < cp.length
      ·have hdl : ds2.length = cp.length := hc2.out.ln
       obtain ⟨x, hx⟩ : ∃ x, cp[i]? = some x := ⟨_, List.getElem?_eq_getElem hlt⟩
       obtain ⟨u, hu⟩ : ∃ u, p[i]? = some u := ⟨_, List.getElem?_eq_getElem (by have := e2.out; omega)⟩
       have hxn := hp1 i u x hu hx
       have hxu := hp2 i u x hu hx
       have hhu := hl2 u (List.mem_of_getElem? hu)
       have hdx : ds2[i]? = some x := by rw [hc2.out.old i (Nat.le_refl _)]; exact hx
       have hrw := own_rows hc2.out.row hc2.out.lz (F := fun _ => True) (fun _ _ => trivial)
       obtain ⟨gb, o, cap, hve, -, hgl, hr⟩ := hrw.at hdx
       have ho : o = 0 := by
        obtain ⟨_, ⟨h1, _⟩ | ⟨g', cap', cur, h1, _⟩⟩ := hc2.out.row
        ·rw [h1] at hve; cases hve
        ·rw [h1] at hve; cases hve; rfl
       subst ho
       have hva : va2 = some ⟨gb, 0, none⟩ := by
        rw [hdl] at hve
        cases hve; rfl
       subst hva
       have hon := hon2 x (List.mem_of_getElem? hx)
       obtain ⟨x0, x1, x2, x3, x4, x5, rfl⟩ := arr6 (r2.1 x (List.mem_of_getElem? hx))
       have hx0 : x0 = .string (st u.1) := by simpa using hxn
       subst hx0
       rw [Nat.zero_add] at hr
       have hr8 : (wr.alloc (.cells #[.string ⟨#[]⟩, .int .i64 0, .int .i64 0, .string ⟨#[]⟩, .slice none 0 0, .slice none 0 0] 49)).heap[wr.heap.size]? = some (.cells #[.string ⟨#[]⟩, .int .i64 0, .int .i64 0, .string ⟨#[]⟩, .slice none 0 0, .slice none 0 0] 49 (0, 0)) := by
        show (wr.heap.push _)[wr.heap.size]? = _
        rw [Array.getElem?_push, if_pos rfl]
       have h8 := setRow_heap (wr.alloc (.cells #[.string ⟨#[]⟩, .int .i64 0, .int .i64 0, .string ⟨#[]⟩, .slice none 0 0, .slice none 0 0] 49)) wr.heap.size _ #[.string (st u.1), x1, x2, x3, x4, x5] _ _ hr8
       have hal : ∀ k, k < wr.heap.size → ((wr.alloc (.cells #[.string ⟨#[]⟩, .int .i64 0, .int .i64 0, .string ⟨#[]⟩, .slice none 0 0, .slice none 0 0] 49)).setRow wr.heap.size #[.string (st u.1), x1, x2, x3, x4, x5]).heap[k]? = wr.heap[k]? := fun k hk => (setRow_other _ _ k _ (by omega)).trans (by
        show (wr.heap.push _)[k]? = _
        rw [Array.getElem?_push, if_neg (by omega)])
       have hbw : Below wr.heap.size wr ((wr.alloc (.cells #[.string ⟨#[]⟩, .int .i64 0, .int .i64 0, .string ⟨#[]⟩, .slice none 0 0, .slice none 0 0] 49)).setRow wr.heap.size #[.string (st u.1), x1, x2, x3, x4, x5]) := ⟨rfl, rfl, rfl, by simp [World.setRow], hal⟩
       have hb6 := hb2.out.keep hbw
       have hc6 := hc2.out.keep PA.fr (fun k _ hs => hal k hs)
       have hkA6 : ∀ k, w.heap.size + 2 ≤ k → k < wA.heap.size → ((wr.alloc (.cells #[.string ⟨#[]⟩, .int .i64 0, .int .i64 0, .string ⟨#[]⟩, .slice none 0 0, .slice none 0 0] 49)).setRow wr.heap.size #[.string (st u.1), x1, x2, x3, x4, x5]).heap[k]? = wA.heap[k]? := fun k hk hs => (hal k (Nat.lt_of_lt_of_le hs hsA.out)).trans (hkA.out k hk hs)
       have hsA6 : wA.heap.size ≤ ((wr.alloc (.cells #[.string ⟨#[]⟩, .int .i64 0, .int .i64 0, .string ⟨#[]⟩, .slice none 0 0, .slice none 0 0] 49)).setRow wr.heap.size #[.string (st u.1), x1, x2, x3, x4, x5]).heap.size := Nat.le_trans hsA.out hbw.size
       have hxw : VA F ((wr.alloc (.cells #[.string ⟨#[]⟩, .int .i64 0, .int .i64 0, .string ⟨#[]⟩, .slice none 0 0, .slice none 0 0] 49)).setRow wr.heap.size #[.string (st u.1), x1, x2, x3, x4, x5]) u.2 [x1, x2, x3, x4, x5] := VA.frame (c := [x1, x2, x3, x4, x5]) hxu (fun k _ hs => hb6.bw.block k hs) (fun _ h _ => h)
       replace h8 := hide1 h8
       replace hb6 := hide1 hb6
       replace hc6 := hide1 hc6
       replace hxw := hide1 hxw
       replace hon := hide1 hon
       replace hkA6 := hide1 hkA6
       replace hsA6 := hide1 hsA6
       clear hal hbw hb2 hc2 hkA hsA hxu hxn hrw hve hx
       replace hu := hide1 hu
       replace hdx := hide1 hdx
       go_upto_region 14 with (first | refine wpList_load_mid rfl 49 (.tmp 51) rfl gb (i * 6) rfl [.string (st u.1), x1, x2, x3, x4, x5] _ hr Tryz.underlying49 rfl (by kernel_rfl) ?_ | refine wpList_store_row rfl 49 (.tmp 8) (.tmp 52) rfl wr.heap.size #[.string (st u.1), x1, x2, x3, x4, x5] rfl rfl 49 _ hr8 (by kernel_rfl) rfl (by simpa using hon.out) ?_)
       generalize (wr.alloc (.cells #[.string ⟨#[]⟩, .int .i64 0, .int .i64 0, .string ⟨#[]⟩, .slice none 0 0, .slice none 0 0] 49)).setRow wr.heap.size #[.string (st u.1), x1, x2, x3, x4, x5] = w3 at *
       generalize hq8 : wr.heap.size = q8 at *
       have ihc : ∀ w, Below w3.heap.size w3 w → Calls Tryz.prog 41 #[.agg #[x1, x2, x3, x4, x5], .int .i64 (d - 1 : Nat)] w (AnC w (so (d - 1) u.2)) := fun w hb => ih hhu (hxw.out.frame (F := F) (G := F) (fun k _ hs => hb.block k hs) (fun _ h _ => h))
       refine wp_flow 10 _ _ (by kernel_rfl) (by kernel_rfl) (by kernel_rfl) (by kernel_rfl) rfl (R13 w.heap.size q8 gb cp.length vc2 i d #[x1, x2, x3, x4, x5] w3 (so (d - 1) u.2)) R13_mono ?_ ?_
       ·intro j o ho hj a wa hbw hsl hdep K hK
        match j, ho with
        | 0, ho =>
         obtain rfl := Option.some.inj ho
         have t2 : a.tmps.getD 2 undef = .pointer (some ⟨w.heap.size, 0, none⟩) := hsl 2 rfl
         exact wp_val (w' := wa) (by simp only [execOp, Act.eval]; rw [show a.tmps.getD 2 undef = _ from t2]; kernel_rfl) (hK _ _ (Below.refl _ _) rfl)
        | 1, ho =>
         obtain rfl := Option.some.inj ho
         have t := hdep 0 _ 53 rfl rfl ⟨⟨0, .data⟩, by simp, rfl, rfl⟩
         have hc3 : wa.cell? ⟨w.heap.size, 4, none⟩ = some (.slice (some ⟨gb, 0, none⟩) cp.length vc2) := by
          rw [World.cell?_of_block (w := w3) (hbw.block _ (by have := hb6.out.sz; show w.heap.size < _; omega))]
          simp only [World.cell?, hb6.out.b2]; rfl
         exact wp_val (w' := wa) (by simp only [execOp, Act.eval]; rw [show a.tmps.getD 53 undef = _ from t]; simp only [Sem.run_bind, ld_sP hc3, Result.andThen_ok, Sem.run_pure]) (hK _ _ (Below.refl _ _) rfl)
        | 2, ho =>
         obtain rfl := Option.some.inj ho
         have t := hsl 7 rfl
         exact wp_val (w' := wa) (by simp only [execOp, Act.eval]; rw [show a.tmps.getD 7 undef = _ from t]; rfl) (hK _ _ (Below.refl _ _) rfl)
        | 3, ho =>
         obtain rfl := Option.some.inj ho
         have t2 : a.tmps.getD 8 undef = .pointer (some ⟨q8, 0, none⟩) := hsl 8 rfl
         exact wp_val (w' := wa) (by simp only [execOp, Act.eval]; rw [show a.tmps.getD 8 undef = _ from t2]; kernel_rfl) (hK _ _ (Below.refl _ _) rfl)
        | 4, ho =>
         obtain rfl := Option.some.inj ho
         have t := hdep 3 _ 56 rfl rfl ⟨⟨3, .data⟩, by simp, rfl, rfl⟩
         have hl8 := (hbw.block q8 (Array.getElem?_eq_some_iff.1 h8.out).1).trans h8.out
         exact wp_val (w' := wa) (by simp only [execOp, Act.eval]; rw [show a.tmps.getD 56 undef = _ from t]; simp only [Sem.run_bind, ld_v1 hl8, Result.andThen_ok, Sem.run_pure]) (hK _ _ (Below.refl _ _) rfl)
        | 5, ho =>
         obtain rfl := Option.some.inj ho
         have t := hsl 1 rfl
         exact wp_val (w' := wa) (by simp only [execOp, Act.eval]; rw [show a.tmps.getD 1 undef = _ from t]; rfl) (hK _ _ (Below.refl _ _) rfl)
        | 6, ho =>
         obtain rfl := Option.some.inj ho
         have t := hdep 5 _ 58 rfl rfl ⟨⟨5, .data⟩, by simp, rfl, rfl⟩
         exact wp_val (w' := wa) (by simp only [execOp, Act.eval]; rw [show a.tmps.getD 58 undef = _ from t]; simp only [Sem.run_bind, eqg_sub, sub_1 hd1 hd6, Result.andThen_ok, Sem.run_pure]) (hK _ _ (Below.refl _ _) rfl)
        | 7, ho =>
         obtain rfl := Option.some.inj ho
         have t3 := hdep 4 _ 57 rfl rfl ⟨⟨4, .data⟩, by simp, rfl, rfl⟩
         have t5 := hdep 6 _ 59 rfl rfl ⟨⟨6, .data⟩, by simp, rfl, rfl⟩
         refine oper_any (J := fun r w' => ∃ c : Array Value, r = .agg c ∧ c.size = 5 ∧ Below wa.heap.size wa w' ∧ VA (wa.heap.size ≤ ·) w' (so (d - 1) u.2) c.toList) 41 #[.tmp 57, .tmp 59] _ rfl #[.agg #[x1, x2, x3, x4, x5], .int .i64 (d - 1 : Nat)] (by simp only [List.map_toArray, List.map_cons, List.map_nil, Act.eval]; rw [show a.tmps.getD 57 undef = _ from t3, show a.tmps.getD 59 undef = _ from t5]) (fun w => by kernel_rfl) ((ihc wa hbw).mono fun e w' h => by obtain ⟨c, rfl, h1, h2, h3⟩ := h; exact ⟨_, rfl, c, rfl, h1, h2, h3⟩) ?_
         rintro r w' ⟨c, rfl, h1, h2, h3⟩
         exact hK _ _ h2 ⟨c, rfl, h1, h3.frame (fun _ _ _ => rfl) (fun k hk _ => Nat.le_trans hbw.size hk)⟩
        | 8, ho =>
         obtain rfl := Option.some.inj ho
         have t1 := hdep 1 _ 54 rfl rfl ⟨⟨1, .data⟩, by simp, rfl, rfl⟩
         have t2 := hdep 2 _ 55 rfl rfl ⟨⟨2, .data⟩, by simp, rfl, rfl⟩
         exact wp_val (w' := wa) (by simp only [execOp, Act.eval]; rw [show a.tmps.getD 54 undef = _ from t1, show a.tmps.getD 55 undef = _ from t2]; simp only [Sem.run_bind, ix_sP hlt, Result.andThen_ok, Sem.run_pure]) (hK _ _ (Below.refl _ _) rfl)
        | 9, ho =>
         obtain rfl := Option.some.inj ho
         have t1 := hdep 8 _ 61 rfl rfl ⟨⟨8, .data⟩, by simp, rfl, rfl⟩
         exact wp_val (w' := wa) (by simp only [execOp, Act.eval]; rw [show a.tmps.getD 61 undef = _ from t1]; kernel_rfl) (hK _ _ (Below.refl _ _) rfl)
        | 10, _ => exact absurd rfl hj
        | _ + 11, ho => exact absurd ho (by simp)
       ·intro a wa hbw hdf hsz hsl hr K hK
        obtain ⟨c', t6, hc5, hcv⟩ := hr 7 _ 60 rfl (by decide) rfl
        have t7 := hr 9 _ 62 rfl (by decide) rfl
        have hca := hc6.out.keep PA.fr (fun k hk hs => hbw.block k hs)
        have hba := hb6.out.keep hbw
        have hrow := hca.row
        rw [hdl] at hrow
        obtain ⟨cur, hgb, hcur, hBg⟩ := own_cur hrow
        have hfit : i * 6 + 1 + 5 ≤ cp.length * 6 := by omega
        have hst := st_eV hgb hc5 (Nat.le_trans hfit hcur) (by simpa using hcv.one)
        have hp := own_piece hrow hc5 hfit hgb
        rw [← flat_set1 hca.lz hdx.out] at hp
        have hw3 := hb6.out.sz
        have hsa := hbw.size
        have hgq : gb < w3.heap.size := by have := (Array.getElem?_eq_some_iff.1 h8.out).1; omega
        have hsAa := hsA6.out
        have hC : Hid (Cp PA 49 6 wA.heap.size p' cp (.slice (some ⟨gb, 0, none⟩) cp.length vc2) (i + 1) (wa.setRow gb (cur.toList.take (i * 6 + 1) ++ c'.toList ++ cur.toList.drop (i * 6 + 1 + 5)).toArray) (ds2.set i (.string (st u.1) :: c'.toList))) := hide1 (hca.step PA.fr (by simp [hc5]) (by omega) rfl (fun k hk => setRow_other wa gb k _ hk) (by rw [hdl]; exact hp) (fun t' ht' => by
         rw [hp'.out, List.getElem?_map, hu.out] at ht'
         cases ht'
         refine ⟨rfl, VA.frame (c := c'.toList) hcv (fun k hk hs => setRow_other wa gb k _ ?_) (fun k hk hs => ⟨?_, ?_⟩)⟩
         ·have : w3.heap.size ≤ k := hk
          omega
         ·have : w3.heap.size ≤ k := hk
          omega
         ·intro e
          have : k = gb := by simpa [Value.ownBlock] using e
          have : w3.heap.size ≤ k := hk
          omega))
        have hCb := hide1 (hba.over (Nat.le_trans hwA hBg) (cur.toList.take (i * 6 + 1) ++ c'.toList ++ cur.toList.drop (i * 6 + 1 + 5)).toArray)
        have hCk : Hid (∀ k, w.heap.size + 2 ≤ k → k < wA.heap.size → (wa.setRow gb (cur.toList.take (i * 6 + 1) ++ c'.toList ++ cur.toList.drop (i * 6 + 1 + 5)).toArray).heap[k]? = wA.heap[k]?) := hide1 fun k hk hs => (setRow_other wa gb k _ (by omega)).trans ((hbw.block k (by omega)).trans (hkA6.out k hk hs))
        have hCs : Hid (wA.heap.size ≤ (wa.setRow gb (cur.toList.take (i * 6 + 1) ++ c'.toList ++ cur.toList.drop (i * 6 + 1 + 5)).toArray).heap.size) := hide1 (by simp [World.setRow]; omega)
        generalize (cur.toList.take (i * 6 + 1) ++ c'.toList ++ cur.toList.drop (i * 6 + 1 + 5)).toArray = nw at *
        refine wp_skp (w' := wa.setRow gb nw) (by simp only [execOp, Act.eval]; rw [show a.tmps.getD 62 undef = _ from t7, show a.tmps.getD 60 undef = _ from t6]; simp only [Sem.run_bind, hst, Result.andThen_ok, Sem.run_pure]) ?_
        refine hK a (wa.setRow gb nw) ?_
        have hact := act_puts hdf hsz hsl
        clear hst hp hcv hca hba hrow hr hsl hdf hsz hbw hK t6 t7 ihc
        simp only [List.filterMap_cons, List.filterMap_nil, List.foldl_cons, List.foldl_nil] at hact
        rw [hact]
        generalize a.tmps.getD 53 undef = y53
        generalize a.tmps.getD 54 undef = y54
        generalize a.tmps.getD 55 undef = y55
        generalize a.tmps.getD 56 undef = y56
        generalize a.tmps.getD 57 undef = y57
        generalize a.tmps.getD 58 undef = y58
        generalize a.tmps.getD 59 undef = y59
        generalize a.tmps.getD 60 undef = y60
        generalize a.tmps.getD 61 undef = y61
        generalize a.tmps.getD 62 undef = y62
        clear hact a
        refine (‹∀ (a : Act) (w : World), Code.wp Tryz.prog _ _ a w → _›) _ (wa.setRow gb nw) ?_
        generalize wa.setRow gb nw = w4 at *
        go_wp2
        go_roundw
        case rel => exact ⟨i + 1, _, rfl, by omega, hCb, hC, hCk, hCs⟩
        case measure => simp [intOf]; omega
      ·have hie : i = cp.length := by omega
       subst hie
       have hpl' : Hid (cp.length = p'.length) := hide1 (by rw [hp'.out, List.length_map]; exact e2.out)
       have hll' : Hid (cl.length = l'.length) := hide1 (by rw [hl'.out, List.length_map]; exact e1.out)
       -- the sort: the row, the world behind it
       have hsrt : ∃ cs, Hid (cs.length = cp.length) ∧ Hid (∃ B2 : Nat → Prop, (∀ k, B2 k → wA.heap.size ≤ k) ∧ Calls Tryz.prog 72 #[.slice va2 cp.length vc2, .func (.func 73) #[] #[]] wr fun e w7 => e = .returned (.tuple #[]) ∧ w7.os = wr.os ∧ w7.tape = wr.tape ∧ w7.output = wr.output ∧ wr.heap.size ≤ w7.heap.size ∧ (∀ k, k < wr.heap.size → k < wA.heap.size → w7.heap[k]? = wr.heap[k]?) ∧
         RwA (wA.heap.size ≤ ·) w7 49 6 (.slice va2 cp.length vc2) cs ∧ ∀ (j : Nat) (q : Tp) (c : List Value), (ss ltT p')[j]? = some q → cs[j]? = some c → c.head? = some (Value.string (st q.1)) ∧ VA (wA.heap.size ≤ ·) w7 q.2 c.tail) := by
        by_cases hz : cp.length = 0
        ·refine ⟨[], hide1 (by simp [hz]), hide1 ⟨fun k => wA.heap.size ≤ k, fun _ h => h, ?_⟩⟩
         rw [hz]
         refine sort0_d.mono ?_
         rintro e w7 ⟨rfl, rfl⟩
         exact ⟨rfl, rfl, rfl, rfl, Nat.le_refl _, fun _ _ _ => rfl, ⟨by simp, .inl ⟨_, _, rfl, rfl⟩⟩, fun j q c _ h => by simp at h⟩
        ·obtain ⟨gb, rfl⟩ : ∃ gb, va2 = some ⟨gb, 0, none⟩ := by
          have hrow := hc2.out.row
          rw [hc2.out.ln] at hrow
          obtain ⟨_, ⟨h1, h2⟩ | ⟨g', cap, cur, h1, _⟩⟩ := hrow
          ·omega
          ·cases h1; exact ⟨_, rfl⟩
         have hRw := fp_rw hc2.out hpl'.out
         have hs := sort_d hRw (by omega)
         obtain ⟨hBg, hgl⟩ := hRw.lt
         -- the sorted cells are told ahead by the row's own function: the order is the paper's
         refine ⟨(ss ltE (sg (Fp p' ds2) 0 cp.length)).map Go.Proofs.YtbemaloaobeblaaGreatDoor.cl, hide1 (by rw [List.length_map, ss_len, sg_len]), hide1 ⟨fun k => wA.heap.size ≤ k, fun _ h => h, ?_⟩⟩
         refine hs.mono ?_
         rintro e w7 ⟨rfl, G, hG1, hG2, hG3⟩
         have hf := fp_fin hc2.out hpl'.out hG2
         rw [hG2] at hf
         have hrow := hG1.row
         rw [hG2] at hrow
         refine ⟨rfl, hG3.os, hG3.tape, hG3.output, hG3.size, fun k h1 h2 => hG3.block k h1 (by omega), ?_, fun j q c h1 h2 => ?_⟩
         ·have hln : ((ss ltE (sg (Fp p' ds2) 0 cp.length)).map Go.Proofs.YtbemaloaobeblaaGreatDoor.cl).length = cp.length := by rw [List.length_map, ss_len, sg_len]
          have := own_rows (cs := (ss ltE (sg (Fp p' ds2) 0 cp.length)).map Go.Proofs.YtbemaloaobeblaaGreatDoor.cl) (by rw [hln]; exact hrow) (fun c hc => hG1.lens c (by rw [hG2]; exact hc)) (F := (wA.heap.size ≤ ·)) (fun k hk => hk)
          exact this
         ·rw [List.getElem?_map] at h2
          cases he : (ss ltE (sg (Fp p' ds2) 0 cp.length))[j]? with
          | none => rw [he] at h2; cases h2
          | some e =>
           rw [he] at h2
           cases h2
           obtain ⟨g1, g2⟩ := hf.at he h1
           exact ⟨by show some (Value.string (st e.1)) = _; rw [g1], g2.frame (fun k hk hs => hG3.block k hs hk.2) (fun k hk _ => hk.1)⟩
       obtain ⟨cs, hcsl, hsrt⟩ := hsrt
       obtain ⟨-, -, hsc⟩ := hsrt.out
       have lz : wr.cell? ⟨w.heap.size, 4, none⟩ = some (.slice va2 cp.length vc2) := by simp only [World.cell?, hb2.out.b2]; rfl
       clear hsrt
       go_wp2_with fail
       refine hsc.mono ?_
       rintro er w7 ⟨rfl, o1, o2, o3, o4, o5, o6, o7⟩
       have hsz7 := hb2.out.sz
       have hb7 : Cb w #[.int .i64 k, .int .i64 ki, .string (st s), .slice va cl.length vc, .slice va2 cp.length vc2] w7 := ⟨⟨o1.trans hb2.out.bw.os, o2.trans hb2.out.bw.tape, o3.trans hb2.out.bw.output, Nat.le_trans hb2.out.bw.size o4, fun k hk => (o5 k (Nat.lt_of_lt_of_le hk hb2.out.bw.size) (by omega)).trans (hb2.out.bw.block k hk)⟩, (o5 _ (by omega) (by omega)).trans hb2.out.b2, (o5 _ (by omega) (by omega)).trans hb2.out.b4, by omega⟩
       have hr4 := hb7.b4
       have l0 : w7.cell? ⟨w.heap.size, 0, none⟩ = some (.int .i64 k) := by simp only [World.cell?, hb7.b2]; rfl
       have l1 : w7.cell? ⟨w.heap.size, 1, none⟩ = some (.int .i64 ki) := by simp only [World.cell?, hb7.b2]; rfl
       have l2 : w7.cell? ⟨w.heap.size, 2, none⟩ = some (.string (st s)) := by simp only [World.cell?, hb7.b2]; rfl
       have l3 : w7.cell? ⟨w.heap.size, 3, none⟩ = some (.slice va cl.length vc) := by simp only [World.cell?, hb7.b2]; rfl
       have l4 : w7.cell? ⟨w.heap.size, 4, none⟩ = some (.slice va2 cp.length vc2) := by simp only [World.cell?, hb7.b2]; rfl
       have hz := setRow_heap w7 (w.heap.size + 1) _ #[.int .i64 k, .int .i64 ki, .string (st s), .slice va cl.length vc, .slice va2 cp.length vc2] _ _ hr4
       have hso : so d (.mk k ki s l p) = .mk k ki s l' (ss ltT p') := by
        obtain ⟨d', rfl⟩ : ∃ d', d = d' + 1 := ⟨d - 1, by omega⟩
        rw [hl'.out, hp'.out]; rfl
       have ha : AnC w (so d (.mk k ki s l p)) (.returned (.agg #[.int .i64 k, .int .i64 ki, .string (st s), .slice va cl.length vc, .slice va2 cp.length vc2])) (w7.setRow (w.heap.size + 1) #[.int .i64 k, .int .i64 ki, .string (st s), .slice va cl.length vc, .slice va2 cp.length vc2]) := by
        rw [hso]
        refine ⟨_, rfl, rfl, blw_own hb7.bw (by omega) _, ?_⟩
        have hfr : ∀ k', w.heap.size + 2 ≤ k' → (w7.setRow (w.heap.size + 1) #[.int .i64 k, .int .i64 ki, .string (st s), .slice va cl.length vc, .slice va2 cp.length vc2]).heap[k']? = w7.heap[k']? := fun k' hk' => setRow_other w7 _ k' _ (by omega)
        have hsA' := hsA.out
        have r1' := (own_rows hc.out.row hc.out.lz (F := fun k => w.heap.size + 2 ≤ k) (fun k hk => hk)).frame (w' := w7.setRow (w.heap.size + 1) #[.int .i64 k, .int .i64 ki, .string (st s), .slice va cl.length vc, .slice va2 cp.length vc2]) (G := (w.heap.size ≤ ·)) (fun k' hk hs => (hfr k' hk).trans ((o5 k' (by omega) hs).trans (hkA.out k' hk hs))) (fun k' hk _ => by show w.heap.size ≤ k'; have : w.heap.size + 2 ≤ k' := hk; omega)
        have r2' := o6.frame (w' := w7.setRow (w.heap.size + 1) #[.int .i64 k, .int .i64 ki, .string (st s), .slice va cl.length vc, .slice va2 cp.length vc2]) (G := (w.heap.size ≤ ·)) (fun k' hk hs => hfr k' (Nat.le_trans hwA hk)) (fun k' hk _ => by show w.heap.size ≤ k'; have : wA.heap.size ≤ k' := hk; omega)
        have hll := hc.out.ln
        have hcl2 := hcsl.out
        refine VA.mk (s := s) r1' r2' (by have := hll'.out; omega) (by rw [hcl2, ss_len]; exact hpl'.out) (fun j t c h1 h2 => ?_) (fun j q c h1 h2 => (o7 j q c h1 h2).1) (fun j q c h1 h2 => ?_)
        ·have hj := (List.getElem?_eq_some_iff.1 h2).1
         exact (hc.out.new j t c (by have := hll'.out; omega) h1 h2).frame (fun k' hk hs => (hfr k' hk.1).trans ((o5 k' (by omega) hs).trans (hkA.out k' hk.1 hs))) (fun k' hk _ => by show w.heap.size ≤ k'; have := hk.1; omega)
        ·exact (o7 j q c h1 h2).2.frame (fun k' hk hs => hfr k' (Nat.le_trans hwA hk)) (fun k' hk _ => by show w.heap.size ≤ k'; have : wA.heap.size ≤ k' := hk; omega)
       replace ha := hide1 ha
       replace hz := hide1 hz
       clear hb2 hc2 hkA hsA hb hc hsc o1 o2 o3 o4 o5 o6 o7 hb7 lz hso
       go_wp2_with (refine wpList_store_row rfl Vt (.tmp 4) (.tmp 67) rfl (w.heap.size + 1) #[.int .i64 k, .int .i64 ki, .string (st s), .slice va cl.length vc, .slice va2 cp.length vc2] rfl rfl Vt _ hr4 (by kernel_rfl) rfl (by kernel_rfl) ?_)
       refine bodyPost_ret (results_v1 rfl _ rfl rfl hz.out) rfl ?_
       exact ha.out
end Go.Proofs.YtbemaloaobeblaaGreatDoor

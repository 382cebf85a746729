/- CS7, CS8, CS9, CS10, CS11: laid together. -/
import Derived.Test.YtdhmonlhlfkjbaaGreatDoorG5
import Derived.Test.YtdhmonlhlfkjbaaGreatDoorG3
namespace Go.Proofs.YtdhmonlhlfkjbaaGreatDoor
open Go.RowKit

theorem add1_n {a : Nat} (hb : a + 1 ≤ 1000000000) (w : World) : (binOp .add 3 (.int .i64 (a : Nat)) (.int .i64 1)).run Tryz.prog w = .ok (.int .i64 (a + 1 : Nat)) w := add_n (a := a) (b := 1) hb w
theorem half_e {i j : Nat} (h : i + j ≤ 1000000000) : IntKind.u64.wrap ((i : Int) + (j : Int)) = (i : Int) + (j : Int) := by
  go_unwrap
section
variable {F : Nat → Ep} {a b m : Nat}
theorem rs_lo (h : Rs ltE F m b) {c : Ep} {hh k : Nat} (hl : ltE (F hh) c = true) (h1 : m ≤ k) (h2 : k ≤ hh) (h3 : hh < b) : ltE (F k) c = true := by
  by_cases e : k = hh
  · rw [e]; exact hl
  · rcases ok_ltE.wk _ _ (F k) hl with h4 | h4
    · rw [h k hh h1 (by omega) h3] at h4; cases h4
    · exact h4
theorem rs_hi (h : Rs ltE F m b) {c : Ep} {hh k : Nat} (hl : ltE (F hh) c = false) (h1 : m ≤ hh) (h2 : hh ≤ k) (h3 : k < b) : ltE (F k) c = false := by
  cases e : ltE (F k) c with
  | false => rfl
  | true => rw [rs_lo h e h1 h2 h3] at hl; cases hl
theorem rs_up (h : Rs ltE F a m) {c : Ep} {hh k : Nat} (hl : ltE c (F hh) = true) (h1 : a ≤ hh) (h2 : hh ≤ k) (h3 : k < m) : ltE c (F k) = true := by
  by_cases e : k = hh
  · rw [e]; exact hl
  · rcases ok_ltE.wk _ _ (F k) hl with h4 | h4
    · exact h4
    · rw [h hh k h1 (by omega) h3] at h4; cases h4
theorem rs_dn (h : Rs ltE F a m) {c : Ep} {hh k : Nat} (hl : ltE c (F hh) = false) (h1 : a ≤ k) (h2 : k ≤ hh) (h3 : hh < m) : ltE c (F k) = false := by
  cases e : ltE c (F k) with
  | false => rfl
  | true => rw [rs_up h e h1 h2 h3] at hl; cases hl
end
def YLv (g n cap kk : Nat) (F : Nat → Ep) : Nat → Value → Prop
  | 0, v => v = (.slice (some ⟨g, 0, none⟩) n cap)
  | 1, v => v = (.int .i64 (kk : Nat))
  | 2, v => v = (.slice (some ⟨g, 0, none⟩) n cap)
  | 3, v => v = (.int .i64 (kk : Nat))
  | 4, v => v = (.int .i64 (kk + 1 : Nat))
  | 5, v => v = (.slice (some ⟨g, 0, none⟩) n cap)
  | 6, v => v = (.int .i64 (kk : Nat))
  | 7, v => v = (.int .i64 (kk + 1 : Nat))
  | 8, v => v = .pointer (some ⟨g, (kk + 1) * 6, none⟩)
  | 9, v => v = .agg (cl (F (kk + 1))).toArray
  | 10, v => v = (.slice (some ⟨g, 0, none⟩) n cap)
  | 11, v => v = (.int .i64 (kk : Nat))
  | 12, v => v = .pointer (some ⟨g, (kk) * 6, none⟩)
  | 13, v => v = .agg (cl (F (kk))).toArray
  | 14, v => v = .pointer (some ⟨g, (kk) * 6, none⟩)
  | 16, v => v = .pointer (some ⟨g, (kk + 1) * 6, none⟩)
  | _, _ => True
def YLvd : Nat → Nat
  | 0 => 61
  | 1 => 62
  | 2 => 63
  | 3 => 64
  | 4 => 65
  | 5 => 66
  | 6 => 67
  | 7 => 68
  | 8 => 69
  | 9 => 70
  | 10 => 71
  | 11 => 72
  | 12 => 73
  | 13 => 74
  | 14 => 75
  | 15 => 1015
  | 16 => 76
  | 17 => 1017
  | i => 2000 + i

set_option maxHeartbeats 8000000 in
set_option maxRecDepth 100000 in
theorem sym_l {w : World} {B g n cap xa xm xb : Nat} {F : Nat → Ep} (h : Rw w B g n cap F) (hm : xm = xa + 1) (hmb : xm < xb) (hbn : xb ≤ n) (hn : n ≤ 2000000) (hr : Rs ltE F xm xb) :
    Calls Tryz.prog 181 #[.slice (some ⟨g, 0, none⟩) n cap, .int .i64 (xa : Nat), .int .i64 (xm : Nat), .int .i64 (xb : Nat), (.func (.func 95) #[] #[])] w fun e w' => e = .returned (.tuple #[]) ∧ ∃ G, Mgd ltE F xa xm xb G ∧ Rw w' B g n cap G ∧ Kg g w w' := by
  have hxn : xa < n := by omega
  have hok2 : EpOk (F xa) := h.ok xa hxn
  have h0 := hide1 h
  replace hr := hide1 hr
  clear h
  have q1 : ((xm : Int) - (xa : Int) == 1) = true := by simp; omega
  go_enter Tryz.func181, Tryz.ntmps181
  go_wp2_with fail
  go_loopw [10, 11] (fun s10 s11 wr => ∃ i jj : Nat, s10 = .int .i64 (i : Nat) ∧ s11 = .int .i64 (jj : Nat) ∧ xm ≤ i ∧ i ≤ jj ∧ jj ≤ xb ∧ Hid (∀ k, xm ≤ k → k < i → ltE (F k) (F xa) = true) ∧ Hid (∀ k, jj ≤ k → k < xb → ltE (F k) (F xa) = false) ∧ Hid (Rw wr B g n cap F) ∧ Hid (Kg g w wr)) (fun s10 s11 _ => (intOf s11).toNat - (intOf s10).toNat)
  case atStart => exact ⟨xm, xb, rfl, rfl, by omega, by omega, by omega, hide1 fun k h1 h2 => by omega, hide1 fun k h1 h2 => by omega, h0, hide1 (Kg.refl g w)⟩
  case round =>
    obtain ⟨i, jj, rfl, rfl, hi1, hi2, hi3, hlo, hhi, hR, hK⟩ := hrel
    by_cases hlt : i < jj
    · obtain ⟨hh, hhd⟩ : ∃ hh, hh = (i + jj) / 2 := ⟨_, rfl⟩
      have hhn : hh < n := by omega
      have hok1 : EpOk (F hh) := hR.out.ok hh hhn
      obtain ⟨R, hRd⟩ : ∃ R, Hid (R = ltE (F hh) (F xa)) := ⟨_, hide1 rfl⟩
      have hzr : ∀ w, (binOp .lss 3 (.int .i64 (zc (F hh) (F xa))) (.int .i64 0)).run Tryz.prog w = .ok (.bool R) w := fun w => by rw [hRd.out]; exact zc_lt _ _ w
      have hw1 := half_e (i := i) (j := jj) (by omega)
      go_upto_region 5 with fail
      have ehh : ((i : Int) + (jj : Int)) / 2 = ((hh : Nat) : Int) := by omega
      rw [ehh]
      replace ehh := hide1 ehh
      replace hhd := hide1 hhd
      refine wp_flowG 10 _ _ (by kernel_rfl) (by kernel_rfl) (by kernel_rfl) rfl (fun j v _ => v = ([(.func (.func 95) #[] #[]), (.slice (some ⟨g, 0, none⟩) n cap), (.int .i64 (hh : Nat)), (.pointer (some ⟨g, hh * 6, none⟩)), (.agg (cl (F hh)).toArray), (.slice (some ⟨g, 0, none⟩) n cap), (.int .i64 (xa : Nat)), (.pointer (some ⟨g, xa * 6, none⟩)), (.agg (cl (F xa)).toArray), (.int .i64 (zc (F hh) (F xa))), (.bool R)] : List Value).getD j undef) (fun _ _ _ _ h _ => h) ?_ ?_
      · intro j op hop hj a wa hwa hsz hsl hdep K hK
        match j, hop with
        | 0, hop =>
          obtain rfl := Option.some.inj hop
          have p4 : a.tmps.getD 4 undef = (.func (.func 95) #[] #[]) := hsl 4 rfl
          exact .plain rfl (wp_val (w' := wa) (v := (.func (.func 95) #[] #[])) (by simp only [execOp, Act.eval]; rw [show a.tmps.getD 4 undef = _ from p4]; rfl) (hK _ _ (Below.refl _ _) rfl))
        | 1, hop =>
          obtain rfl := Option.some.inj hop
          have p0 : a.tmps.getD 0 undef = (.slice (some ⟨g, 0, none⟩) n cap) := hsl 0 rfl
          exact .plain rfl (wp_val (w' := wa) (v := (.slice (some ⟨g, 0, none⟩) n cap)) (by simp only [execOp, Act.eval]; rw [show a.tmps.getD 0 undef = _ from p0]; rfl) (hK _ _ (Below.refl _ _) rfl))
        | 2, hop =>
          obtain rfl := Option.some.inj hop
          have p12 : a.tmps.getD 12 undef = (.int .i64 (hh : Nat)) := hsl 12 rfl
          exact .plain rfl (wp_val (w' := wa) (v := (.int .i64 (hh : Nat))) (by simp only [execOp, Act.eval]; rw [show a.tmps.getD 12 undef = _ from p12]; rfl) (hK _ _ (Below.refl _ _) rfl))
        | 3, hop =>
          obtain rfl := Option.some.inj hop
          have t1 : a.tmps.getD 41 undef = (.slice (some ⟨g, 0, none⟩) n cap) := hdep 1 _ 41 rfl rfl ⟨⟨1, .data⟩, by simp, rfl, rfl⟩
          have t2 : a.tmps.getD 42 undef = (.int .i64 (hh : Nat)) := hdep 2 _ 42 rfl rfl ⟨⟨2, .data⟩, by simp, rfl, rfl⟩
          exact .plain rfl (wp_val (w' := wa) (v := (.pointer (some ⟨g, hh * 6, none⟩))) (by simp only [execOp, Act.eval]; rw [show a.tmps.getD 41 undef = _ from t1, show a.tmps.getD 42 undef = _ from t2]; simp only [Sem.run_bind, ix_sP hhn, Result.andThen_ok, Sem.run_pure]) (hK _ _ (Below.refl _ _) rfl))
        | 4, hop =>
          obtain rfl := Option.some.inj hop
          have t3 : a.tmps.getD 43 undef = (.pointer (some ⟨g, hh * 6, none⟩)) := hdep 3 _ 43 rfl rfl ⟨⟨3, .data⟩, by simp, rfl, rfl⟩
          exact .plain rfl (wp_val (w' := wa) (v := (.agg (cl (F hh)).toArray)) (by simp only [execOp, Act.eval]; rw [show a.tmps.getD 43 undef = _ from t3]; simp only [Sem.run_bind, (hR.out.later hwa).load hhn, Result.andThen_ok, Sem.run_pure]) (hK _ _ (Below.refl _ _) rfl))
        | 5, hop =>
          obtain rfl := Option.some.inj hop
          have p0 : a.tmps.getD 0 undef = (.slice (some ⟨g, 0, none⟩) n cap) := hsl 0 rfl
          exact .plain rfl (wp_val (w' := wa) (v := (.slice (some ⟨g, 0, none⟩) n cap)) (by simp only [execOp, Act.eval]; rw [show a.tmps.getD 0 undef = _ from p0]; rfl) (hK _ _ (Below.refl _ _) rfl))
        | 6, hop =>
          obtain rfl := Option.some.inj hop
          have p1 : a.tmps.getD 1 undef = (.int .i64 (xa : Nat)) := hsl 1 rfl
          exact .plain rfl (wp_val (w' := wa) (v := (.int .i64 (xa : Nat))) (by simp only [execOp, Act.eval]; rw [show a.tmps.getD 1 undef = _ from p1]; rfl) (hK _ _ (Below.refl _ _) rfl))
        | 7, hop =>
          obtain rfl := Option.some.inj hop
          have t5 : a.tmps.getD 45 undef = (.slice (some ⟨g, 0, none⟩) n cap) := hdep 5 _ 45 rfl rfl ⟨⟨5, .data⟩, by simp, rfl, rfl⟩
          have t6 : a.tmps.getD 46 undef = (.int .i64 (xa : Nat)) := hdep 6 _ 46 rfl rfl ⟨⟨6, .data⟩, by simp, rfl, rfl⟩
          exact .plain rfl (wp_val (w' := wa) (v := (.pointer (some ⟨g, xa * 6, none⟩))) (by simp only [execOp, Act.eval]; rw [show a.tmps.getD 45 undef = _ from t5, show a.tmps.getD 46 undef = _ from t6]; simp only [Sem.run_bind, ix_sP hxn, Result.andThen_ok, Sem.run_pure]) (hK _ _ (Below.refl _ _) rfl))
        | 8, hop =>
          obtain rfl := Option.some.inj hop
          have t7 : a.tmps.getD 47 undef = (.pointer (some ⟨g, xa * 6, none⟩)) := hdep 7 _ 47 rfl rfl ⟨⟨7, .data⟩, by simp, rfl, rfl⟩
          exact .plain rfl (wp_val (w' := wa) (v := (.agg (cl (F xa)).toArray)) (by simp only [execOp, Act.eval]; rw [show a.tmps.getD 47 undef = _ from t7]; simp only [Sem.run_bind, (hR.out.later hwa).load hxn, Result.andThen_ok, Sem.run_pure]) (hK _ _ (Below.refl _ _) rfl))
        | 9, hop =>
          obtain rfl := Option.some.inj hop
          have t4 : a.tmps.getD 44 undef = (.agg (cl (F hh)).toArray) := hdep 4 _ 44 rfl rfl ⟨⟨4, .data⟩, by simp, rfl, rfl⟩
          have t8 : a.tmps.getD 48 undef = (.agg (cl (F xa)).toArray) := hdep 8 _ 48 rfl rfl ⟨⟨8, .data⟩, by simp, rfl, rfl⟩
          have t0 : a.tmps.getD 40 undef = (.func (.func 95) #[] #[]) := hdep 0 _ 40 rfl rfl ⟨⟨0, .data⟩, by simp, rfl, rfl⟩
          refine .plain rfl (oper_anyv (J := fun r w' => r = (.int .i64 (zc (F hh) (F xa))) ∧ Below wa.heap.size wa w') 95 (.tmp 40) #[.tmp 44, .tmp 48] _ rfl (show a.tmps.getD 40 undef = _ from t0) #[(.agg (cl (F hh)).toArray), (.agg (cl (F xa)).toArray)] (by simp only [List.map_toArray, List.map_cons, List.map_nil, Act.eval]; rw [show a.tmps.getD 44 undef = _ from t4, show a.tmps.getD 48 undef = _ from t8]) (fun w => by kernel_rfl) ((cmp_d hok1 hok2).mono fun e w' h => ⟨_, h.1, rfl, h.2⟩) ?_)
          rintro r w' ⟨rfl, hb⟩
          exact hK _ _ hb rfl
        | 10, _ => exact absurd rfl hj
        | _ + 11, hop => exact absurd hop (by simp)
      · intro a wa hwa hdf hsz hsl hrr K hK
        have t9 : a.tmps.getD 49 undef = (.int .i64 (zc (F hh) (F xa))) := hrr 9 _ 49 rfl (by decide) rfl
        refine .plain rfl (wp_val (w' := wa) (v := (.bool R)) (by simp only [execOp, Act.eval]; rw [show a.tmps.getD 49 undef = _ from t9]; simp only [Sem.run_bind, eqg_lss, hzr, Result.andThen_ok, Sem.run_pure]) ?_)
        refine hK _ wa ?_
        have hact := act_puts hdf hsz hsl
        clear hrr hsl hdf hsz hK t9
        simp only [List.filterMap_cons, List.filterMap_nil, List.foldl_cons, List.foldl_nil] at hact
        rw [hact]
        generalize a.tmps.getD 40 undef = y40
        generalize a.tmps.getD 41 undef = y41
        generalize a.tmps.getD 42 undef = y42
        generalize a.tmps.getD 43 undef = y43
        generalize a.tmps.getD 44 undef = y44
        generalize a.tmps.getD 45 undef = y45
        generalize a.tmps.getD 46 undef = y46
        generalize a.tmps.getD 47 undef = y47
        generalize a.tmps.getD 48 undef = y48
        generalize a.tmps.getD 49 undef = y49
        clear hact
        simp only [Act.put, List.setIfInBounds_toArray, List.set_cons_succ, List.set_cons_zero]
        have hR4 := hide1 (hR.out.later hwa)
        have hK4 : Hid (Kg g w wa) := hide1 (hK.out.trans (Kg.ofB hwa))
        clear hzr hwa hR hK
        have hd := hhd.out
        cases R with
        | true =>
          have hlo2 : Hid (∀ k, xm ≤ k → k < hh + 1 → ltE (F k) (F xa) = true) := hide1 fun k h1 h2 => rs_lo hr.out hRd.out.symm h1 (by omega) (by omega)
          replace hd := hide1 hd
          clear hlo hRd
          go_wp2
          go_roundw
          case rel => exact ⟨hh + 1, jj, by first | rfl | (congr 1; omega) | go_num, rfl, by have := hd.out; omega, by have := hd.out; omega, hi3, hlo2, hhi, hR4, hK4⟩
          case measure => have := hd.out; simp [intOf]; omega
        | false =>
          have hhi2 : Hid (∀ k, hh ≤ k → k < xb → ltE (F k) (F xa) = false) := hide1 fun k h1 h2 => rs_hi hr.out hRd.out.symm (by omega) h1 h2
          replace hd := hide1 hd
          clear hhi hRd
          go_wp2
          go_roundw
          case rel => exact ⟨i, hh, rfl, by first | rfl | (congr 1; omega) | go_num, hi1, by have := hd.out; omega, by have := hd.out; omega, hlo, hhi2, hR4, hK4⟩
          case measure => have := hd.out; simp [intOf]; omega
    · obtain rfl : i = jj := by omega
      have hfin : Hid (Mgd ltE F xa xm xb (rot F xa (xa + 1) i)) := hide1 (by subst hm; exact mgd_l hi1 hi3 hlo.out hhi.out)
      clear hlo hhi
      replace hm := hide1 hm
      have him : xa + 1 ≤ i := by have := hm.out; omega
      go_wp2_with fail
      go_loopw [13] (fun s13 wr => ∃ kk : Nat, s13 = .int .i64 (kk : Nat) ∧ xa ≤ kk ∧ kk + 1 ≤ i ∧ Hid (Rw wr B g n cap (rot F xa (xa + 1) (kk + 1))) ∧ Hid (Kg g w wr)) (fun s13 _ => i - (intOf s13).toNat)
      case atStart => exact ⟨xa, rfl, Nat.le_refl _, him, hide1 (by rw [rot_id F (.inr rfl)]; exact hR.out), hK⟩
      case round =>
        obtain ⟨kk, rfl, hk1, hk2, hR2, hK2⟩ := hrel
        by_cases hlt2 : kk + 1 < i
        · have hxy : kk ≠ kk + 1 := by omega
          have hkn : kk < n := by omega
          have hk1n : kk + 1 < n := by omega
          have hadd := fun w => add1_n (a := kk) (by omega) w
          have hsr : Hid (sr (rot F xa (xa + 1) (kk + 1)) kk (kk + 1) 1 = rot F xa (xa + 1) (kk + 2)) := hide1 (rot_up F hk1)
          have hlt3 : (kk : Int) < (i : Int) - 1 := by omega
          go_upto_region 11 with fail
          refine wp_rel5 _ _ (fun _ j v _ => YLv g n cap kk (rot F xa (xa + 1) (kk + 1)) j v) (fun D w => Msw wr B g n cap (rot F xa (xa + 1) (kk + 1)) (kk) (kk + 1) (D 15) (D 17) w) YLvd (by kernel_rfl) (by kernel_rfl) 18 (by kernel_rfl) ?_ ?_ rfl (msw_start hkn hk1n hR2.out) ?_ ?_
          · intro ix o ho
            match ix, ho with
            | 0, ho => obtain rfl := Option.some.inj ho; exact .inl ⟨rfl, by show 61 < 220; decide⟩
            | 1, ho => obtain rfl := Option.some.inj ho; exact .inl ⟨rfl, by show 62 < 220; decide⟩
            | 2, ho => obtain rfl := Option.some.inj ho; exact .inl ⟨rfl, by show 63 < 220; decide⟩
            | 3, ho => obtain rfl := Option.some.inj ho; exact .inl ⟨rfl, by show 64 < 220; decide⟩
            | 4, ho => obtain rfl := Option.some.inj ho; exact .inl ⟨rfl, by show 65 < 220; decide⟩
            | 5, ho => obtain rfl := Option.some.inj ho; exact .inl ⟨rfl, by show 66 < 220; decide⟩
            | 6, ho => obtain rfl := Option.some.inj ho; exact .inl ⟨rfl, by show 67 < 220; decide⟩
            | 7, ho => obtain rfl := Option.some.inj ho; exact .inl ⟨rfl, by show 68 < 220; decide⟩
            | 8, ho => obtain rfl := Option.some.inj ho; exact .inl ⟨rfl, by show 69 < 220; decide⟩
            | 9, ho => obtain rfl := Option.some.inj ho; exact .inl ⟨rfl, by show 70 < 220; decide⟩
            | 10, ho => obtain rfl := Option.some.inj ho; exact .inl ⟨rfl, by show 71 < 220; decide⟩
            | 11, ho => obtain rfl := Option.some.inj ho; exact .inl ⟨rfl, by show 72 < 220; decide⟩
            | 12, ho => obtain rfl := Option.some.inj ho; exact .inl ⟨rfl, by show 73 < 220; decide⟩
            | 13, ho => obtain rfl := Option.some.inj ho; exact .inl ⟨rfl, by show 74 < 220; decide⟩
            | 14, ho => obtain rfl := Option.some.inj ho; exact .inl ⟨rfl, by show 75 < 220; decide⟩
            | 15, ho => obtain rfl := Option.some.inj ho; exact .inr ⟨⟨rfl, fun _ _ _ _ => trivial⟩, by show 220 ≤ 1015; decide⟩
            | 16, ho => obtain rfl := Option.some.inj ho; exact .inl ⟨rfl, by show 76 < 220; decide⟩
            | 17, ho => obtain rfl := Option.some.inj ho; exact .inr ⟨⟨rfl, fun _ _ _ _ => trivial⟩, by show 220 ≤ 1017; decide⟩
            | _ + 18, ho => exact absurd ho (by simp)
          · intro ix jx hi hj e; unfold YLvd at e; split at e <;> split at e <;> omega
          · intro ix o ho
            match ix, ho with
            | 0, ho =>
              obtain rfl := Option.some.inj ho
              intro D a w hM hsl hdep hDi hcl K hK
              have hp0 : a.tmps.getD 0 undef = (.slice (some ⟨g, 0, none⟩) n cap) := hsl 0 (by intro j hj; unfold YLvd; split <;> omega)
              refine ⟨rfl, ?_⟩
              refine wp_val (w' := w) (v := (.slice (some ⟨g, 0, none⟩) n cap)) (by simp only [execOp, Act.eval]; rw [show a.tmps.getD 0 undef = _ from hp0]; rfl) ?_
              exact hK _ _ rfl (msw_ne (by decide) (by decide) hM) (fun _ _ _ _ h => h)
            | 1, ho =>
              obtain rfl := Option.some.inj ho
              intro D a w hM hsl hdep hDi hcl K hK
              have hp13 : a.tmps.getD 13 undef = (.int .i64 (kk : Nat)) := hsl 13 (by intro j hj; unfold YLvd; split <;> omega)
              refine ⟨rfl, ?_⟩
              refine wp_val (w' := w) (v := (.int .i64 (kk : Nat))) (by simp only [execOp, Act.eval]; rw [show a.tmps.getD 13 undef = _ from hp13]; rfl) ?_
              exact hK _ _ rfl (msw_ne (by decide) (by decide) hM) (fun _ _ _ _ h => h)
            | 2, ho =>
              obtain rfl := Option.some.inj ho
              intro D a w hM hsl hdep hDi hcl K hK
              have hp0 : a.tmps.getD 0 undef = (.slice (some ⟨g, 0, none⟩) n cap) := hsl 0 (by intro j hj; unfold YLvd; split <;> omega)
              refine ⟨rfl, ?_⟩
              refine wp_val (w' := w) (v := (.slice (some ⟨g, 0, none⟩) n cap)) (by simp only [execOp, Act.eval]; rw [show a.tmps.getD 0 undef = _ from hp0]; rfl) ?_
              exact hK _ _ rfl (msw_ne (by decide) (by decide) hM) (fun _ _ _ _ h => h)
            | 3, ho =>
              obtain rfl := Option.some.inj ho
              intro D a w hM hsl hdep hDi hcl K hK
              have hp13 : a.tmps.getD 13 undef = (.int .i64 (kk : Nat)) := hsl 13 (by intro j hj; unfold YLvd; split <;> omega)
              refine ⟨rfl, ?_⟩
              refine wp_val (w' := w) (v := (.int .i64 (kk : Nat))) (by simp only [execOp, Act.eval]; rw [show a.tmps.getD 13 undef = _ from hp13]; rfl) ?_
              exact hK _ _ rfl (msw_ne (by decide) (by decide) hM) (fun _ _ _ _ h => h)
            | 4, ho =>
              obtain rfl := Option.some.inj ho
              intro D a w hM hsl hdep hDi hcl K hK
              have e3 := (hdep ⟨3, .data⟩ (by simp) rfl).1
              refine ⟨rfl, ?_⟩
              refine wp_val (w' := w) (v := (.int .i64 (kk + 1 : Nat))) (by simp only [execOp, Act.eval]; rw [show a.tmps.getD 64 undef = _ from e3]; simp only [Sem.run_bind, eqg_add, hadd, Result.andThen_ok, Sem.run_pure]) ?_
              exact hK _ _ rfl (msw_ne (by decide) (by decide) hM) (fun _ _ _ _ h => h)
            | 5, ho =>
              obtain rfl := Option.some.inj ho
              intro D a w hM hsl hdep hDi hcl K hK
              have hp0 : a.tmps.getD 0 undef = (.slice (some ⟨g, 0, none⟩) n cap) := hsl 0 (by intro j hj; unfold YLvd; split <;> omega)
              refine ⟨rfl, ?_⟩
              refine wp_val (w' := w) (v := (.slice (some ⟨g, 0, none⟩) n cap)) (by simp only [execOp, Act.eval]; rw [show a.tmps.getD 0 undef = _ from hp0]; rfl) ?_
              exact hK _ _ rfl (msw_ne (by decide) (by decide) hM) (fun _ _ _ _ h => h)
            | 6, ho =>
              obtain rfl := Option.some.inj ho
              intro D a w hM hsl hdep hDi hcl K hK
              have hp13 : a.tmps.getD 13 undef = (.int .i64 (kk : Nat)) := hsl 13 (by intro j hj; unfold YLvd; split <;> omega)
              refine ⟨rfl, ?_⟩
              refine wp_val (w' := w) (v := (.int .i64 (kk : Nat))) (by simp only [execOp, Act.eval]; rw [show a.tmps.getD 13 undef = _ from hp13]; rfl) ?_
              exact hK _ _ rfl (msw_ne (by decide) (by decide) hM) (fun _ _ _ _ h => h)
            | 7, ho =>
              obtain rfl := Option.some.inj ho
              intro D a w hM hsl hdep hDi hcl K hK
              have e6 := (hdep ⟨6, .data⟩ (by simp) rfl).1
              refine ⟨rfl, ?_⟩
              refine wp_val (w' := w) (v := (.int .i64 (kk + 1 : Nat))) (by simp only [execOp, Act.eval]; rw [show a.tmps.getD 67 undef = _ from e6]; simp only [Sem.run_bind, eqg_add, hadd, Result.andThen_ok, Sem.run_pure]) ?_
              exact hK _ _ rfl (msw_ne (by decide) (by decide) hM) (fun _ _ _ _ h => h)
            | 8, ho =>
              obtain rfl := Option.some.inj ho
              intro D a w hM hsl hdep hDi hcl K hK
              have e5 := (hdep ⟨5, .data⟩ (by simp) rfl).1
              have e7 := (hdep ⟨7, .data⟩ (by simp) rfl).1
              refine ⟨rfl, ?_⟩
              refine wp_val (w' := w) (v := .pointer (some ⟨g, (kk + 1) * 6, none⟩)) (by simp only [execOp, Act.eval]; rw [show a.tmps.getD 66 undef = _ from e5, show a.tmps.getD 68 undef = _ from e7]; simp only [Sem.run_bind, ix_sP hk1n, Result.andThen_ok, Sem.run_pure]) ?_
              exact hK _ _ rfl (msw_ne (by decide) (by decide) hM) (fun _ _ _ _ h => h)
            | 9, ho =>
              obtain rfl := Option.some.inj ho
              intro D a w hM hsl hdep hDi hcl K hK
              have e8 := (hdep ⟨8, .data⟩ (by simp) rfl).1
              have hD15 : D 15 = false := by cases h9 : D 15 with | false => rfl | true => have := hcl 15 _ rfl h9 ⟨9, .data⟩ (by simp) rfl; rw [this] at hDi; cases hDi
              have hD17 : D 17 = false := by cases h9 : D 17 with | false => rfl | true => have := hcl 17 _ rfl h9 ⟨9, .phase⟩ (by simp) rfl; rw [this] at hDi; cases hDi
              have hl := (msw_00 hD15 hD17 hM).load hk1n
              refine ⟨rfl, ?_⟩
              refine wp_val (w' := w) (v := .agg (cl ((rot F xa (xa + 1) (kk + 1)) (kk + 1))).toArray) (by simp only [execOp, Act.eval]; rw [show a.tmps.getD 69 undef = _ from e8]; simp only [Sem.run_bind, hl, Result.andThen_ok, Sem.run_pure]) ?_
              exact hK _ _ rfl (msw_ne (by decide) (by decide) hM) (fun _ _ _ _ h => h)
            | 10, ho =>
              obtain rfl := Option.some.inj ho
              intro D a w hM hsl hdep hDi hcl K hK
              have hp0 : a.tmps.getD 0 undef = (.slice (some ⟨g, 0, none⟩) n cap) := hsl 0 (by intro j hj; unfold YLvd; split <;> omega)
              refine ⟨rfl, ?_⟩
              refine wp_val (w' := w) (v := (.slice (some ⟨g, 0, none⟩) n cap)) (by simp only [execOp, Act.eval]; rw [show a.tmps.getD 0 undef = _ from hp0]; rfl) ?_
              exact hK _ _ rfl (msw_ne (by decide) (by decide) hM) (fun _ _ _ _ h => h)
            | 11, ho =>
              obtain rfl := Option.some.inj ho
              intro D a w hM hsl hdep hDi hcl K hK
              have hp13 : a.tmps.getD 13 undef = (.int .i64 (kk : Nat)) := hsl 13 (by intro j hj; unfold YLvd; split <;> omega)
              refine ⟨rfl, ?_⟩
              refine wp_val (w' := w) (v := (.int .i64 (kk : Nat))) (by simp only [execOp, Act.eval]; rw [show a.tmps.getD 13 undef = _ from hp13]; rfl) ?_
              exact hK _ _ rfl (msw_ne (by decide) (by decide) hM) (fun _ _ _ _ h => h)
            | 12, ho =>
              obtain rfl := Option.some.inj ho
              intro D a w hM hsl hdep hDi hcl K hK
              have e10 := (hdep ⟨10, .data⟩ (by simp) rfl).1
              have e11 := (hdep ⟨11, .data⟩ (by simp) rfl).1
              refine ⟨rfl, ?_⟩
              refine wp_val (w' := w) (v := .pointer (some ⟨g, (kk) * 6, none⟩)) (by simp only [execOp, Act.eval]; rw [show a.tmps.getD 71 undef = _ from e10, show a.tmps.getD 72 undef = _ from e11]; simp only [Sem.run_bind, ix_sP hkn, Result.andThen_ok, Sem.run_pure]) ?_
              exact hK _ _ rfl (msw_ne (by decide) (by decide) hM) (fun _ _ _ _ h => h)
            | 13, ho =>
              obtain rfl := Option.some.inj ho
              intro D a w hM hsl hdep hDi hcl K hK
              have e12 := (hdep ⟨12, .data⟩ (by simp) rfl).1
              have hD15 : D 15 = false := by cases h9 : D 15 with | false => rfl | true => have := hcl 15 _ rfl h9 ⟨13, .phase⟩ (by simp) rfl; rw [this] at hDi; cases hDi
              have hD17 : D 17 = false := by cases h9 : D 17 with | false => rfl | true => have := hcl 17 _ rfl h9 ⟨13, .data⟩ (by simp) rfl; rw [this] at hDi; cases hDi
              have hl := (msw_00 hD15 hD17 hM).load hkn
              refine ⟨rfl, ?_⟩
              refine wp_val (w' := w) (v := .agg (cl ((rot F xa (xa + 1) (kk + 1)) (kk))).toArray) (by simp only [execOp, Act.eval]; rw [show a.tmps.getD 73 undef = _ from e12]; simp only [Sem.run_bind, hl, Result.andThen_ok, Sem.run_pure]) ?_
              exact hK _ _ rfl (msw_ne (by decide) (by decide) hM) (fun _ _ _ _ h => h)
            | 14, ho =>
              obtain rfl := Option.some.inj ho
              intro D a w hM hsl hdep hDi hcl K hK
              have e0 := (hdep ⟨0, .data⟩ (by simp) rfl).1
              have e1 := (hdep ⟨1, .data⟩ (by simp) rfl).1
              refine ⟨rfl, ?_⟩
              refine wp_val (w' := w) (v := .pointer (some ⟨g, (kk) * 6, none⟩)) (by simp only [execOp, Act.eval]; rw [show a.tmps.getD 61 undef = _ from e0, show a.tmps.getD 62 undef = _ from e1]; simp only [Sem.run_bind, ix_sP hkn, Result.andThen_ok, Sem.run_pure]) ?_
              exact hK _ _ rfl (msw_ne (by decide) (by decide) hM) (fun _ _ _ _ h => h)
            | 15, ho =>
              obtain rfl := Option.some.inj ho
              intro D a w hM hsl hdep hDi hcl K hK
              have e14 := (hdep ⟨14, .data⟩ (by simp) rfl).1
              have e9 := (hdep ⟨9, .data⟩ (by simp) rfl).1
              obtain ⟨c, hst, hM2⟩ := msw_1 (s1 := 15) (s2 := 17) (by decide) hxy hkn hDi hM
              refine ⟨rfl, ?_⟩
              refine wp_skp (w' := w.setRow g c) (by simp only [execOp, Act.eval]; rw [show a.tmps.getD 75 undef = _ from e14, show a.tmps.getD 70 undef = _ from e9]; simp only [Sem.run_bind, hst, Result.andThen_ok, Sem.run_pure]) ?_
              exact hK _ _ trivial hM2 (fun _ _ _ _ h => h)
            | 16, ho =>
              obtain rfl := Option.some.inj ho
              intro D a w hM hsl hdep hDi hcl K hK
              have e2 := (hdep ⟨2, .data⟩ (by simp) rfl).1
              have e4 := (hdep ⟨4, .data⟩ (by simp) rfl).1
              refine ⟨rfl, ?_⟩
              refine wp_val (w' := w) (v := .pointer (some ⟨g, (kk + 1) * 6, none⟩)) (by simp only [execOp, Act.eval]; rw [show a.tmps.getD 63 undef = _ from e2, show a.tmps.getD 65 undef = _ from e4]; simp only [Sem.run_bind, ix_sP hk1n, Result.andThen_ok, Sem.run_pure]) ?_
              exact hK _ _ rfl (msw_ne (by decide) (by decide) hM) (fun _ _ _ _ h => h)
            | 17, ho =>
              obtain rfl := Option.some.inj ho
              intro D a w hM hsl hdep hDi hcl K hK
              have e16 := (hdep ⟨16, .data⟩ (by simp) rfl).1
              have e13 := (hdep ⟨13, .data⟩ (by simp) rfl).1
              obtain ⟨c, hst, hM2⟩ := msw_2 (s1 := 15) (s2 := 17) (by decide) hxy hk1n hDi hM
              refine ⟨rfl, ?_⟩
              refine wp_skp (w' := w.setRow g c) (by simp only [execOp, Act.eval]; rw [show a.tmps.getD 76 undef = _ from e16, show a.tmps.getD 74 undef = _ from e13]; simp only [Sem.run_bind, hst, Result.andThen_ok, Sem.run_pure]) ?_
              exact hK _ _ trivial hM2 (fun _ _ _ _ h => h)
            | _ + 18, ho => exact absurd ho (by simp)
          · intro D a wt hall hd hs hM hsl hr hact
            replace hM := msw_11 hxy (hall 15 (by decide)) (hall 17 (by decide)) hM
            simp only [List.filterMap_cons, List.filterMap_nil, List.foldl_cons, List.foldl_nil] at hact
            rw [hact]
            generalize a.tmps.getD 61 undef = y61
            generalize a.tmps.getD 62 undef = y62
            generalize a.tmps.getD 63 undef = y63
            generalize a.tmps.getD 64 undef = y64
            generalize a.tmps.getD 65 undef = y65
            generalize a.tmps.getD 66 undef = y66
            generalize a.tmps.getD 67 undef = y67
            generalize a.tmps.getD 68 undef = y68
            generalize a.tmps.getD 69 undef = y69
            generalize a.tmps.getD 70 undef = y70
            generalize a.tmps.getD 71 undef = y71
            generalize a.tmps.getD 72 undef = y72
            generalize a.tmps.getD 73 undef = y73
            generalize a.tmps.getD 74 undef = y74
            generalize a.tmps.getD 75 undef = y75
            generalize a.tmps.getD 76 undef = y76
            clear hact hsl hr hd hs hall a
            simp only [Act.put, List.setIfInBounds_toArray, List.set_cons_succ, List.set_cons_zero]
            obtain ⟨hR5, hO5⟩ := hM
            rw [hsr.out] at hR5
            have hR6 := hide1 hR5
            have hK6 : Hid (Kg g w wt) := hide1 (hK2.out.trans hO5.kg)
            clear hR5 hO5 hsr hadd hR2 hK2
            go_wp2
            go_roundw
            case rel => exact ⟨kk + 1, by first | rfl | (congr 1; omega) | go_num, by omega, by omega, hR6, hK6⟩
            case measure => simp [intOf]; omega
        · have hlt3 : ¬ (kk : Int) < (i : Int) - 1 := by omega
          obtain rfl : i = kk + 1 := by omega
          go_wp2
          first
          | (go_end0; exact ⟨rfl, _, hfin.out, hR2.out, hK2.out⟩)
          | (refine bodyPost_ret (results_none rfl _ _ _) rfl ?_; exact ⟨rfl, _, hfin.out, hR2.out, hK2.out⟩)
def YRv (g n cap kk : Nat) (F : Nat → Ep) : Nat → Value → Prop
  | 0, v => v = (.slice (some ⟨g, 0, none⟩) n cap)
  | 1, v => v = (.int .i64 (kk : Nat))
  | 2, v => v = (.slice (some ⟨g, 0, none⟩) n cap)
  | 3, v => v = (.int .i64 (kk : Nat))
  | 4, v => v = (.int .i64 (kk - 1 : Nat))
  | 5, v => v = (.slice (some ⟨g, 0, none⟩) n cap)
  | 6, v => v = (.int .i64 (kk : Nat))
  | 7, v => v = (.int .i64 (kk - 1 : Nat))
  | 8, v => v = .pointer (some ⟨g, (kk - 1) * 6, none⟩)
  | 9, v => v = .agg (cl (F (kk - 1))).toArray
  | 10, v => v = (.slice (some ⟨g, 0, none⟩) n cap)
  | 11, v => v = (.int .i64 (kk : Nat))
  | 12, v => v = .pointer (some ⟨g, (kk) * 6, none⟩)
  | 13, v => v = .agg (cl (F (kk))).toArray
  | 14, v => v = .pointer (some ⟨g, (kk) * 6, none⟩)
  | 16, v => v = .pointer (some ⟨g, (kk - 1) * 6, none⟩)
  | _, _ => True
def YRvd : Nat → Nat
  | 0 => 113
  | 1 => 114
  | 2 => 115
  | 3 => 116
  | 4 => 117
  | 5 => 118
  | 6 => 119
  | 7 => 120
  | 8 => 121
  | 9 => 122
  | 10 => 123
  | 11 => 124
  | 12 => 125
  | 13 => 126
  | 14 => 127
  | 15 => 1015
  | 16 => 128
  | 17 => 1017
  | i => 2000 + i

set_option maxHeartbeats 8000000 in
set_option maxRecDepth 100000 in
theorem sym_r {w : World} {B g n cap xa xm xb : Nat} {F : Nat → Ep} (h : Rw w B g n cap F) (ham : xa + 1 < xm) (hm : xb = xm + 1) (hbn : xb ≤ n) (hn : n ≤ 2000000) (hr : Rs ltE F xa xm) :
    Calls Tryz.prog 181 #[.slice (some ⟨g, 0, none⟩) n cap, .int .i64 (xa : Nat), .int .i64 (xm : Nat), .int .i64 (xb : Nat), (.func (.func 95) #[] #[])] w fun e w' => e = .returned (.tuple #[]) ∧ ∃ G, Mgd ltE F xa xm xb G ∧ Rw w' B g n cap G ∧ Kg g w w' := by
  have hxn : xm < n := by omega
  have hok1 : EpOk (F xm) := h.ok xm hxn
  have h0 := hide1 h
  replace hr := hide1 hr
  clear h
  have q0 : ((xm : Int) - (xa : Int) == 1) = false := by simp; omega
  have q1 : ((xb : Int) - (xm : Int) == 1) = true := by simp; omega
  replace hm := hide1 hm
  go_enter Tryz.func181, Tryz.ntmps181
  go_wp2_with fail
  go_loopw [14, 15] (fun s14 s15 wr => ∃ i jj : Nat, s14 = .int .i64 (i : Nat) ∧ s15 = .int .i64 (jj : Nat) ∧ xa ≤ i ∧ i ≤ jj ∧ jj ≤ xm ∧ Hid (∀ k, xa ≤ k → k < i → ltE (F xm) (F k) = false) ∧ Hid (∀ k, jj ≤ k → k < xm → ltE (F xm) (F k) = true) ∧ Hid (Rw wr B g n cap F) ∧ Hid (Kg g w wr)) (fun s14 s15 _ => (intOf s15).toNat - (intOf s14).toNat)
  case atStart => exact ⟨xa, xm, rfl, rfl, by omega, by omega, by omega, hide1 fun k h1 h2 => by omega, hide1 fun k h1 h2 => by omega, h0, hide1 (Kg.refl g w)⟩
  case round =>
    obtain ⟨i, jj, rfl, rfl, hi1, hi2, hi3, hlo, hhi, hR, hK⟩ := hrel
    by_cases hlt : i < jj
    · obtain ⟨hh, hhd⟩ : ∃ hh, hh = (i + jj) / 2 := ⟨_, rfl⟩
      have hhn : hh < n := by omega
      have hok2 : EpOk (F hh) := hR.out.ok hh hhn
      obtain ⟨R, hRd⟩ : ∃ R, Hid (R = ltE (F xm) (F hh)) := ⟨_, hide1 rfl⟩
      have hzr : ∀ w, (binOp .lss 3 (.int .i64 (zc (F xm) (F hh))) (.int .i64 0)).run Tryz.prog w = .ok (.bool R) w := fun w => by rw [hRd.out]; exact zc_lt _ _ w
      have hw1 := half_e (i := i) (j := jj) (by omega)
      go_upto_region 17 with fail
      have ehh : ((i : Int) + (jj : Int)) / 2 = ((hh : Nat) : Int) := by omega
      rw [ehh]
      replace ehh := hide1 ehh
      replace hhd := hide1 hhd
      refine wp_flowG 11 _ _ (by kernel_rfl) (by kernel_rfl) (by kernel_rfl) rfl (fun j v _ => v = ([(.func (.func 95) #[] #[]), (.slice (some ⟨g, 0, none⟩) n cap), (.int .i64 (xm : Nat)), (.pointer (some ⟨g, xm * 6, none⟩)), (.agg (cl (F xm)).toArray), (.slice (some ⟨g, 0, none⟩) n cap), (.int .i64 (hh : Nat)), (.pointer (some ⟨g, hh * 6, none⟩)), (.agg (cl (F hh)).toArray), (.int .i64 (zc (F xm) (F hh))), (.bool R), (.bool (!R))] : List Value).getD j undef) (fun _ _ _ _ h _ => h) ?_ ?_
      · intro j op hop hj a wa hwa hsz hsl hdep K hK
        match j, hop with
        | 0, hop =>
          obtain rfl := Option.some.inj hop
          have p4 : a.tmps.getD 4 undef = (.func (.func 95) #[] #[]) := hsl 4 rfl
          exact .plain rfl (wp_val (w' := wa) (v := (.func (.func 95) #[] #[])) (by simp only [execOp, Act.eval]; rw [show a.tmps.getD 4 undef = _ from p4]; rfl) (hK _ _ (Below.refl _ _) rfl))
        | 1, hop =>
          obtain rfl := Option.some.inj hop
          have p0 : a.tmps.getD 0 undef = (.slice (some ⟨g, 0, none⟩) n cap) := hsl 0 rfl
          exact .plain rfl (wp_val (w' := wa) (v := (.slice (some ⟨g, 0, none⟩) n cap)) (by simp only [execOp, Act.eval]; rw [show a.tmps.getD 0 undef = _ from p0]; rfl) (hK _ _ (Below.refl _ _) rfl))
        | 2, hop =>
          obtain rfl := Option.some.inj hop
          have p2 : a.tmps.getD 2 undef = (.int .i64 (xm : Nat)) := hsl 2 rfl
          exact .plain rfl (wp_val (w' := wa) (v := (.int .i64 (xm : Nat))) (by simp only [execOp, Act.eval]; rw [show a.tmps.getD 2 undef = _ from p2]; rfl) (hK _ _ (Below.refl _ _) rfl))
        | 3, hop =>
          obtain rfl := Option.some.inj hop
          have t1 : a.tmps.getD 93 undef = (.slice (some ⟨g, 0, none⟩) n cap) := hdep 1 _ 93 rfl rfl ⟨⟨1, .data⟩, by simp, rfl, rfl⟩
          have t2 : a.tmps.getD 94 undef = (.int .i64 (xm : Nat)) := hdep 2 _ 94 rfl rfl ⟨⟨2, .data⟩, by simp, rfl, rfl⟩
          exact .plain rfl (wp_val (w' := wa) (v := (.pointer (some ⟨g, xm * 6, none⟩))) (by simp only [execOp, Act.eval]; rw [show a.tmps.getD 93 undef = _ from t1, show a.tmps.getD 94 undef = _ from t2]; simp only [Sem.run_bind, ix_sP hxn, Result.andThen_ok, Sem.run_pure]) (hK _ _ (Below.refl _ _) rfl))
        | 4, hop =>
          obtain rfl := Option.some.inj hop
          have t3 : a.tmps.getD 95 undef = (.pointer (some ⟨g, xm * 6, none⟩)) := hdep 3 _ 95 rfl rfl ⟨⟨3, .data⟩, by simp, rfl, rfl⟩
          exact .plain rfl (wp_val (w' := wa) (v := (.agg (cl (F xm)).toArray)) (by simp only [execOp, Act.eval]; rw [show a.tmps.getD 95 undef = _ from t3]; simp only [Sem.run_bind, (hR.out.later hwa).load hxn, Result.andThen_ok, Sem.run_pure]) (hK _ _ (Below.refl _ _) rfl))
        | 5, hop =>
          obtain rfl := Option.some.inj hop
          have p0 : a.tmps.getD 0 undef = (.slice (some ⟨g, 0, none⟩) n cap) := hsl 0 rfl
          exact .plain rfl (wp_val (w' := wa) (v := (.slice (some ⟨g, 0, none⟩) n cap)) (by simp only [execOp, Act.eval]; rw [show a.tmps.getD 0 undef = _ from p0]; rfl) (hK _ _ (Below.refl _ _) rfl))
        | 6, hop =>
          obtain rfl := Option.some.inj hop
          have p16 : a.tmps.getD 16 undef = (.int .i64 (hh : Nat)) := hsl 16 rfl
          exact .plain rfl (wp_val (w' := wa) (v := (.int .i64 (hh : Nat))) (by simp only [execOp, Act.eval]; rw [show a.tmps.getD 16 undef = _ from p16]; rfl) (hK _ _ (Below.refl _ _) rfl))
        | 7, hop =>
          obtain rfl := Option.some.inj hop
          have t5 : a.tmps.getD 97 undef = (.slice (some ⟨g, 0, none⟩) n cap) := hdep 5 _ 97 rfl rfl ⟨⟨5, .data⟩, by simp, rfl, rfl⟩
          have t6 : a.tmps.getD 98 undef = (.int .i64 (hh : Nat)) := hdep 6 _ 98 rfl rfl ⟨⟨6, .data⟩, by simp, rfl, rfl⟩
          exact .plain rfl (wp_val (w' := wa) (v := (.pointer (some ⟨g, hh * 6, none⟩))) (by simp only [execOp, Act.eval]; rw [show a.tmps.getD 97 undef = _ from t5, show a.tmps.getD 98 undef = _ from t6]; simp only [Sem.run_bind, ix_sP hhn, Result.andThen_ok, Sem.run_pure]) (hK _ _ (Below.refl _ _) rfl))
        | 8, hop =>
          obtain rfl := Option.some.inj hop
          have t7 : a.tmps.getD 99 undef = (.pointer (some ⟨g, hh * 6, none⟩)) := hdep 7 _ 99 rfl rfl ⟨⟨7, .data⟩, by simp, rfl, rfl⟩
          exact .plain rfl (wp_val (w' := wa) (v := (.agg (cl (F hh)).toArray)) (by simp only [execOp, Act.eval]; rw [show a.tmps.getD 99 undef = _ from t7]; simp only [Sem.run_bind, (hR.out.later hwa).load hhn, Result.andThen_ok, Sem.run_pure]) (hK _ _ (Below.refl _ _) rfl))
        | 9, hop =>
          obtain rfl := Option.some.inj hop
          have t4 : a.tmps.getD 96 undef = (.agg (cl (F xm)).toArray) := hdep 4 _ 96 rfl rfl ⟨⟨4, .data⟩, by simp, rfl, rfl⟩
          have t8 : a.tmps.getD 100 undef = (.agg (cl (F hh)).toArray) := hdep 8 _ 100 rfl rfl ⟨⟨8, .data⟩, by simp, rfl, rfl⟩
          have t0 : a.tmps.getD 92 undef = (.func (.func 95) #[] #[]) := hdep 0 _ 92 rfl rfl ⟨⟨0, .data⟩, by simp, rfl, rfl⟩
          refine .plain rfl (oper_anyv (J := fun r w' => r = (.int .i64 (zc (F xm) (F hh))) ∧ Below wa.heap.size wa w') 95 (.tmp 92) #[.tmp 96, .tmp 100] _ rfl (show a.tmps.getD 92 undef = _ from t0) #[(.agg (cl (F xm)).toArray), (.agg (cl (F hh)).toArray)] (by simp only [List.map_toArray, List.map_cons, List.map_nil, Act.eval]; rw [show a.tmps.getD 96 undef = _ from t4, show a.tmps.getD 100 undef = _ from t8]) (fun w => by kernel_rfl) ((cmp_d hok1 hok2).mono fun e w' h => ⟨_, h.1, rfl, h.2⟩) ?_)
          rintro r w' ⟨rfl, hb⟩
          exact hK _ _ hb rfl
        | 10, hop =>
          obtain rfl := Option.some.inj hop
          have t9 : a.tmps.getD 101 undef = (.int .i64 (zc (F xm) (F hh))) := hdep 9 _ 101 rfl rfl ⟨⟨9, .data⟩, by simp, rfl, rfl⟩
          exact .plain rfl (wp_val (w' := wa) (v := (.bool R)) (by simp only [execOp, Act.eval]; rw [show a.tmps.getD 101 undef = _ from t9]; simp only [Sem.run_bind, eqg_lss, hzr, Result.andThen_ok, Sem.run_pure]) (hK _ _ (Below.refl _ _) rfl))
        | 11, _ => exact absurd rfl hj
        | _ + 12, hop => exact absurd hop (by simp)
      · intro a wa hwa hdf hsz hsl hrr K hK
        have t10 : a.tmps.getD 102 undef = (.bool R) := hrr 10 _ 102 rfl (by decide) rfl
        refine .plain rfl (wp_val (w' := wa) (v := (.bool (!R))) (by simp only [execOp, Act.eval]; rw [show a.tmps.getD 102 undef = _ from t10]; kernel_rfl) ?_)
        refine hK _ wa ?_
        have hact := act_puts hdf hsz hsl
        clear hrr hsl hdf hsz hK t10
        simp only [List.filterMap_cons, List.filterMap_nil, List.foldl_cons, List.foldl_nil] at hact
        rw [hact]
        generalize a.tmps.getD 92 undef = y92
        generalize a.tmps.getD 93 undef = y93
        generalize a.tmps.getD 94 undef = y94
        generalize a.tmps.getD 95 undef = y95
        generalize a.tmps.getD 96 undef = y96
        generalize a.tmps.getD 97 undef = y97
        generalize a.tmps.getD 98 undef = y98
        generalize a.tmps.getD 99 undef = y99
        generalize a.tmps.getD 100 undef = y100
        generalize a.tmps.getD 101 undef = y101
        generalize a.tmps.getD 102 undef = y102
        clear hact
        simp only [Act.put, List.setIfInBounds_toArray, List.set_cons_succ, List.set_cons_zero]
        have hR4 := hide1 (hR.out.later hwa)
        have hK4 : Hid (Kg g w wa) := hide1 (hK.out.trans (Kg.ofB hwa))
        clear hzr hwa hR hK
        have hd := hhd.out
        cases R with
        | false =>
          have hlo2 : Hid (∀ k, xa ≤ k → k < hh + 1 → ltE (F xm) (F k) = false) := hide1 fun k h1 h2 => rs_dn hr.out hRd.out.symm h1 (by omega) (by omega)
          replace hd := hide1 hd
          clear hlo hRd
          go_wp2
          go_roundw
          case rel => exact ⟨hh + 1, jj, by first | rfl | (congr 1; omega) | go_num, rfl, by have := hd.out; omega, by have := hd.out; omega, hi3, hlo2, hhi, hR4, hK4⟩
          case measure => have := hd.out; simp [intOf]; omega
        | true =>
          have hhi2 : Hid (∀ k, hh ≤ k → k < xm → ltE (F xm) (F k) = true) := hide1 fun k h1 h2 => rs_up hr.out hRd.out.symm (by omega) h1 h2
          replace hd := hide1 hd
          clear hhi hRd
          go_wp2
          go_roundw
          case rel => exact ⟨i, hh, rfl, by first | rfl | (congr 1; omega) | go_num, hi1, by have := hd.out; omega, by have := hd.out; omega, hlo, hhi2, hR4, hK4⟩
          case measure => have := hd.out; simp [intOf]; omega
    · obtain rfl : i = jj := by omega
      have hfin : Hid (Mgd ltE F xa xm xb (rot F i xm (xm + 1))) := hide1 (by rw [hm.out]; exact mgd_r hi1 hi3 hlo.out hhi.out)
      clear hlo hhi
      go_wp2_with fail
      go_loopw [17] (fun s17 wr => ∃ kk : Nat, s17 = .int .i64 (kk : Nat) ∧ i ≤ kk ∧ kk ≤ xm ∧ Hid (Rw wr B g n cap (rot F kk xm (xm + 1))) ∧ Hid (Kg g w wr)) (fun s17 _ => (intOf s17).toNat)
      case atStart => exact ⟨xm, rfl, hi3, Nat.le_refl _, hide1 (by rw [rot_id F (.inl rfl)]; exact hR.out), hK⟩
      case round =>
        obtain ⟨kk, rfl, hk1, hk2, hR2, hK2⟩ := hrel
        by_cases hlt2 : i < kk
        · have hxy : kk ≠ kk - 1 := by omega
          have hkn : kk < n := by omega
          have hk1n : kk - 1 < n := by omega
          have hsb := fun w => sub1_n (a := kk) (by omega) (by omega) w
          have hsr : Hid (sr (rot F kk xm (xm + 1)) kk (kk - 1) 1 = rot F (kk - 1) xm (xm + 1)) := hide1 (by
            have := rot_dn F (m := xm) (k := kk - 1) (by omega)
            rwa [show kk - 1 + 1 = kk by omega] at this)
          go_upto_region 23 with fail
          refine wp_rel5 _ _ (fun _ j v _ => YRv g n cap kk (rot F kk xm (xm + 1)) j v) (fun D w => Msw wr B g n cap (rot F kk xm (xm + 1)) (kk) (kk - 1) (D 15) (D 17) w) YRvd (by kernel_rfl) (by kernel_rfl) 18 (by kernel_rfl) ?_ ?_ rfl (msw_start hkn hk1n hR2.out) ?_ ?_
          · intro ix o ho
            match ix, ho with
            | 0, ho => obtain rfl := Option.some.inj ho; exact .inl ⟨rfl, by show 113 < 220; decide⟩
            | 1, ho => obtain rfl := Option.some.inj ho; exact .inl ⟨rfl, by show 114 < 220; decide⟩
            | 2, ho => obtain rfl := Option.some.inj ho; exact .inl ⟨rfl, by show 115 < 220; decide⟩
            | 3, ho => obtain rfl := Option.some.inj ho; exact .inl ⟨rfl, by show 116 < 220; decide⟩
            | 4, ho => obtain rfl := Option.some.inj ho; exact .inl ⟨rfl, by show 117 < 220; decide⟩
            | 5, ho => obtain rfl := Option.some.inj ho; exact .inl ⟨rfl, by show 118 < 220; decide⟩
            | 6, ho => obtain rfl := Option.some.inj ho; exact .inl ⟨rfl, by show 119 < 220; decide⟩
            | 7, ho => obtain rfl := Option.some.inj ho; exact .inl ⟨rfl, by show 120 < 220; decide⟩
            | 8, ho => obtain rfl := Option.some.inj ho; exact .inl ⟨rfl, by show 121 < 220; decide⟩
            | 9, ho => obtain rfl := Option.some.inj ho; exact .inl ⟨rfl, by show 122 < 220; decide⟩
            | 10, ho => obtain rfl := Option.some.inj ho; exact .inl ⟨rfl, by show 123 < 220; decide⟩
            | 11, ho => obtain rfl := Option.some.inj ho; exact .inl ⟨rfl, by show 124 < 220; decide⟩
            | 12, ho => obtain rfl := Option.some.inj ho; exact .inl ⟨rfl, by show 125 < 220; decide⟩
            | 13, ho => obtain rfl := Option.some.inj ho; exact .inl ⟨rfl, by show 126 < 220; decide⟩
            | 14, ho => obtain rfl := Option.some.inj ho; exact .inl ⟨rfl, by show 127 < 220; decide⟩
            | 15, ho => obtain rfl := Option.some.inj ho; exact .inr ⟨⟨rfl, fun _ _ _ _ => trivial⟩, by show 220 ≤ 1015; decide⟩
            | 16, ho => obtain rfl := Option.some.inj ho; exact .inl ⟨rfl, by show 128 < 220; decide⟩
            | 17, ho => obtain rfl := Option.some.inj ho; exact .inr ⟨⟨rfl, fun _ _ _ _ => trivial⟩, by show 220 ≤ 1017; decide⟩
            | _ + 18, ho => exact absurd ho (by simp)
          · intro ix jx hi hj e; unfold YRvd at e; split at e <;> split at e <;> omega
          · intro ix o ho
            match ix, ho with
            | 0, ho =>
              obtain rfl := Option.some.inj ho
              intro D a w hM hsl hdep hDi hcl K hK
              have hp0 : a.tmps.getD 0 undef = (.slice (some ⟨g, 0, none⟩) n cap) := hsl 0 (by intro j hj; unfold YRvd; split <;> omega)
              refine ⟨rfl, ?_⟩
              refine wp_val (w' := w) (v := (.slice (some ⟨g, 0, none⟩) n cap)) (by simp only [execOp, Act.eval]; rw [show a.tmps.getD 0 undef = _ from hp0]; rfl) ?_
              exact hK _ _ rfl (msw_ne (by decide) (by decide) hM) (fun _ _ _ _ h => h)
            | 1, ho =>
              obtain rfl := Option.some.inj ho
              intro D a w hM hsl hdep hDi hcl K hK
              have hp17 : a.tmps.getD 17 undef = (.int .i64 (kk : Nat)) := hsl 17 (by intro j hj; unfold YRvd; split <;> omega)
              refine ⟨rfl, ?_⟩
              refine wp_val (w' := w) (v := (.int .i64 (kk : Nat))) (by simp only [execOp, Act.eval]; rw [show a.tmps.getD 17 undef = _ from hp17]; rfl) ?_
              exact hK _ _ rfl (msw_ne (by decide) (by decide) hM) (fun _ _ _ _ h => h)
            | 2, ho =>
              obtain rfl := Option.some.inj ho
              intro D a w hM hsl hdep hDi hcl K hK
              have hp0 : a.tmps.getD 0 undef = (.slice (some ⟨g, 0, none⟩) n cap) := hsl 0 (by intro j hj; unfold YRvd; split <;> omega)
              refine ⟨rfl, ?_⟩
              refine wp_val (w' := w) (v := (.slice (some ⟨g, 0, none⟩) n cap)) (by simp only [execOp, Act.eval]; rw [show a.tmps.getD 0 undef = _ from hp0]; rfl) ?_
              exact hK _ _ rfl (msw_ne (by decide) (by decide) hM) (fun _ _ _ _ h => h)
            | 3, ho =>
              obtain rfl := Option.some.inj ho
              intro D a w hM hsl hdep hDi hcl K hK
              have hp17 : a.tmps.getD 17 undef = (.int .i64 (kk : Nat)) := hsl 17 (by intro j hj; unfold YRvd; split <;> omega)
              refine ⟨rfl, ?_⟩
              refine wp_val (w' := w) (v := (.int .i64 (kk : Nat))) (by simp only [execOp, Act.eval]; rw [show a.tmps.getD 17 undef = _ from hp17]; rfl) ?_
              exact hK _ _ rfl (msw_ne (by decide) (by decide) hM) (fun _ _ _ _ h => h)
            | 4, ho =>
              obtain rfl := Option.some.inj ho
              intro D a w hM hsl hdep hDi hcl K hK
              have e3 := (hdep ⟨3, .data⟩ (by simp) rfl).1
              refine ⟨rfl, ?_⟩
              refine wp_val (w' := w) (v := (.int .i64 (kk - 1 : Nat))) (by simp only [execOp, Act.eval]; rw [show a.tmps.getD 116 undef = _ from e3]; simp only [Sem.run_bind, eqg_sub, hsb, Result.andThen_ok, Sem.run_pure]) ?_
              exact hK _ _ rfl (msw_ne (by decide) (by decide) hM) (fun _ _ _ _ h => h)
            | 5, ho =>
              obtain rfl := Option.some.inj ho
              intro D a w hM hsl hdep hDi hcl K hK
              have hp0 : a.tmps.getD 0 undef = (.slice (some ⟨g, 0, none⟩) n cap) := hsl 0 (by intro j hj; unfold YRvd; split <;> omega)
              refine ⟨rfl, ?_⟩
              refine wp_val (w' := w) (v := (.slice (some ⟨g, 0, none⟩) n cap)) (by simp only [execOp, Act.eval]; rw [show a.tmps.getD 0 undef = _ from hp0]; rfl) ?_
              exact hK _ _ rfl (msw_ne (by decide) (by decide) hM) (fun _ _ _ _ h => h)
            | 6, ho =>
              obtain rfl := Option.some.inj ho
              intro D a w hM hsl hdep hDi hcl K hK
              have hp17 : a.tmps.getD 17 undef = (.int .i64 (kk : Nat)) := hsl 17 (by intro j hj; unfold YRvd; split <;> omega)
              refine ⟨rfl, ?_⟩
              refine wp_val (w' := w) (v := (.int .i64 (kk : Nat))) (by simp only [execOp, Act.eval]; rw [show a.tmps.getD 17 undef = _ from hp17]; rfl) ?_
              exact hK _ _ rfl (msw_ne (by decide) (by decide) hM) (fun _ _ _ _ h => h)
            | 7, ho =>
              obtain rfl := Option.some.inj ho
              intro D a w hM hsl hdep hDi hcl K hK
              have e6 := (hdep ⟨6, .data⟩ (by simp) rfl).1
              refine ⟨rfl, ?_⟩
              refine wp_val (w' := w) (v := (.int .i64 (kk - 1 : Nat))) (by simp only [execOp, Act.eval]; rw [show a.tmps.getD 119 undef = _ from e6]; simp only [Sem.run_bind, eqg_sub, hsb, Result.andThen_ok, Sem.run_pure]) ?_
              exact hK _ _ rfl (msw_ne (by decide) (by decide) hM) (fun _ _ _ _ h => h)
            | 8, ho =>
              obtain rfl := Option.some.inj ho
              intro D a w hM hsl hdep hDi hcl K hK
              have e5 := (hdep ⟨5, .data⟩ (by simp) rfl).1
              have e7 := (hdep ⟨7, .data⟩ (by simp) rfl).1
              refine ⟨rfl, ?_⟩
              refine wp_val (w' := w) (v := .pointer (some ⟨g, (kk - 1) * 6, none⟩)) (by simp only [execOp, Act.eval]; rw [show a.tmps.getD 118 undef = _ from e5, show a.tmps.getD 120 undef = _ from e7]; simp only [Sem.run_bind, ix_sP hk1n, Result.andThen_ok, Sem.run_pure]) ?_
              exact hK _ _ rfl (msw_ne (by decide) (by decide) hM) (fun _ _ _ _ h => h)
            | 9, ho =>
              obtain rfl := Option.some.inj ho
              intro D a w hM hsl hdep hDi hcl K hK
              have e8 := (hdep ⟨8, .data⟩ (by simp) rfl).1
              have hD15 : D 15 = false := by cases h9 : D 15 with | false => rfl | true => have := hcl 15 _ rfl h9 ⟨9, .data⟩ (by simp) rfl; rw [this] at hDi; cases hDi
              have hD17 : D 17 = false := by cases h9 : D 17 with | false => rfl | true => have := hcl 17 _ rfl h9 ⟨9, .phase⟩ (by simp) rfl; rw [this] at hDi; cases hDi
              have hl := (msw_00 hD15 hD17 hM).load hk1n
              refine ⟨rfl, ?_⟩
              refine wp_val (w' := w) (v := .agg (cl ((rot F kk xm (xm + 1)) (kk - 1))).toArray) (by simp only [execOp, Act.eval]; rw [show a.tmps.getD 121 undef = _ from e8]; simp only [Sem.run_bind, hl, Result.andThen_ok, Sem.run_pure]) ?_
              exact hK _ _ rfl (msw_ne (by decide) (by decide) hM) (fun _ _ _ _ h => h)
            | 10, ho =>
              obtain rfl := Option.some.inj ho
              intro D a w hM hsl hdep hDi hcl K hK
              have hp0 : a.tmps.getD 0 undef = (.slice (some ⟨g, 0, none⟩) n cap) := hsl 0 (by intro j hj; unfold YRvd; split <;> omega)
              refine ⟨rfl, ?_⟩
              refine wp_val (w' := w) (v := (.slice (some ⟨g, 0, none⟩) n cap)) (by simp only [execOp, Act.eval]; rw [show a.tmps.getD 0 undef = _ from hp0]; rfl) ?_
              exact hK _ _ rfl (msw_ne (by decide) (by decide) hM) (fun _ _ _ _ h => h)
            | 11, ho =>
              obtain rfl := Option.some.inj ho
              intro D a w hM hsl hdep hDi hcl K hK
              have hp17 : a.tmps.getD 17 undef = (.int .i64 (kk : Nat)) := hsl 17 (by intro j hj; unfold YRvd; split <;> omega)
              refine ⟨rfl, ?_⟩
              refine wp_val (w' := w) (v := (.int .i64 (kk : Nat))) (by simp only [execOp, Act.eval]; rw [show a.tmps.getD 17 undef = _ from hp17]; rfl) ?_
              exact hK _ _ rfl (msw_ne (by decide) (by decide) hM) (fun _ _ _ _ h => h)
            | 12, ho =>
              obtain rfl := Option.some.inj ho
              intro D a w hM hsl hdep hDi hcl K hK
              have e10 := (hdep ⟨10, .data⟩ (by simp) rfl).1
              have e11 := (hdep ⟨11, .data⟩ (by simp) rfl).1
              refine ⟨rfl, ?_⟩
              refine wp_val (w' := w) (v := .pointer (some ⟨g, (kk) * 6, none⟩)) (by simp only [execOp, Act.eval]; rw [show a.tmps.getD 123 undef = _ from e10, show a.tmps.getD 124 undef = _ from e11]; simp only [Sem.run_bind, ix_sP hkn, Result.andThen_ok, Sem.run_pure]) ?_
              exact hK _ _ rfl (msw_ne (by decide) (by decide) hM) (fun _ _ _ _ h => h)
            | 13, ho =>
              obtain rfl := Option.some.inj ho
              intro D a w hM hsl hdep hDi hcl K hK
              have e12 := (hdep ⟨12, .data⟩ (by simp) rfl).1
              have hD15 : D 15 = false := by cases h9 : D 15 with | false => rfl | true => have := hcl 15 _ rfl h9 ⟨13, .phase⟩ (by simp) rfl; rw [this] at hDi; cases hDi
              have hD17 : D 17 = false := by cases h9 : D 17 with | false => rfl | true => have := hcl 17 _ rfl h9 ⟨13, .data⟩ (by simp) rfl; rw [this] at hDi; cases hDi
              have hl := (msw_00 hD15 hD17 hM).load hkn
              refine ⟨rfl, ?_⟩
              refine wp_val (w' := w) (v := .agg (cl ((rot F kk xm (xm + 1)) (kk))).toArray) (by simp only [execOp, Act.eval]; rw [show a.tmps.getD 125 undef = _ from e12]; simp only [Sem.run_bind, hl, Result.andThen_ok, Sem.run_pure]) ?_
              exact hK _ _ rfl (msw_ne (by decide) (by decide) hM) (fun _ _ _ _ h => h)
            | 14, ho =>
              obtain rfl := Option.some.inj ho
              intro D a w hM hsl hdep hDi hcl K hK
              have e0 := (hdep ⟨0, .data⟩ (by simp) rfl).1
              have e1 := (hdep ⟨1, .data⟩ (by simp) rfl).1
              refine ⟨rfl, ?_⟩
              refine wp_val (w' := w) (v := .pointer (some ⟨g, (kk) * 6, none⟩)) (by simp only [execOp, Act.eval]; rw [show a.tmps.getD 113 undef = _ from e0, show a.tmps.getD 114 undef = _ from e1]; simp only [Sem.run_bind, ix_sP hkn, Result.andThen_ok, Sem.run_pure]) ?_
              exact hK _ _ rfl (msw_ne (by decide) (by decide) hM) (fun _ _ _ _ h => h)
            | 15, ho =>
              obtain rfl := Option.some.inj ho
              intro D a w hM hsl hdep hDi hcl K hK
              have e14 := (hdep ⟨14, .data⟩ (by simp) rfl).1
              have e9 := (hdep ⟨9, .data⟩ (by simp) rfl).1
              obtain ⟨c, hst, hM2⟩ := msw_1 (s1 := 15) (s2 := 17) (by decide) hxy hkn hDi hM
              refine ⟨rfl, ?_⟩
              refine wp_skp (w' := w.setRow g c) (by simp only [execOp, Act.eval]; rw [show a.tmps.getD 127 undef = _ from e14, show a.tmps.getD 122 undef = _ from e9]; simp only [Sem.run_bind, hst, Result.andThen_ok, Sem.run_pure]) ?_
              exact hK _ _ trivial hM2 (fun _ _ _ _ h => h)
            | 16, ho =>
              obtain rfl := Option.some.inj ho
              intro D a w hM hsl hdep hDi hcl K hK
              have e2 := (hdep ⟨2, .data⟩ (by simp) rfl).1
              have e4 := (hdep ⟨4, .data⟩ (by simp) rfl).1
              refine ⟨rfl, ?_⟩
              refine wp_val (w' := w) (v := .pointer (some ⟨g, (kk - 1) * 6, none⟩)) (by simp only [execOp, Act.eval]; rw [show a.tmps.getD 115 undef = _ from e2, show a.tmps.getD 117 undef = _ from e4]; simp only [Sem.run_bind, ix_sP hk1n, Result.andThen_ok, Sem.run_pure]) ?_
              exact hK _ _ rfl (msw_ne (by decide) (by decide) hM) (fun _ _ _ _ h => h)
            | 17, ho =>
              obtain rfl := Option.some.inj ho
              intro D a w hM hsl hdep hDi hcl K hK
              have e16 := (hdep ⟨16, .data⟩ (by simp) rfl).1
              have e13 := (hdep ⟨13, .data⟩ (by simp) rfl).1
              obtain ⟨c, hst, hM2⟩ := msw_2 (s1 := 15) (s2 := 17) (by decide) hxy hk1n hDi hM
              refine ⟨rfl, ?_⟩
              refine wp_skp (w' := w.setRow g c) (by simp only [execOp, Act.eval]; rw [show a.tmps.getD 128 undef = _ from e16, show a.tmps.getD 126 undef = _ from e13]; simp only [Sem.run_bind, hst, Result.andThen_ok, Sem.run_pure]) ?_
              exact hK _ _ trivial hM2 (fun _ _ _ _ h => h)
            | _ + 18, ho => exact absurd ho (by simp)
          · intro D a wt hall hd hs hM hsl hr hact
            replace hM := msw_11 hxy (hall 15 (by decide)) (hall 17 (by decide)) hM
            simp only [List.filterMap_cons, List.filterMap_nil, List.foldl_cons, List.foldl_nil] at hact
            rw [hact]
            generalize a.tmps.getD 113 undef = y113
            generalize a.tmps.getD 114 undef = y114
            generalize a.tmps.getD 115 undef = y115
            generalize a.tmps.getD 116 undef = y116
            generalize a.tmps.getD 117 undef = y117
            generalize a.tmps.getD 118 undef = y118
            generalize a.tmps.getD 119 undef = y119
            generalize a.tmps.getD 120 undef = y120
            generalize a.tmps.getD 121 undef = y121
            generalize a.tmps.getD 122 undef = y122
            generalize a.tmps.getD 123 undef = y123
            generalize a.tmps.getD 124 undef = y124
            generalize a.tmps.getD 125 undef = y125
            generalize a.tmps.getD 126 undef = y126
            generalize a.tmps.getD 127 undef = y127
            generalize a.tmps.getD 128 undef = y128
            clear hact hsl hr hd hs hall a
            simp only [Act.put, List.setIfInBounds_toArray, List.set_cons_succ, List.set_cons_zero]
            obtain ⟨hR5, hO5⟩ := hM
            rw [hsr.out] at hR5
            have hR6 := hide1 hR5
            have hK6 : Hid (Kg g w wt) := hide1 (hK2.out.trans hO5.kg)
            clear hR5 hO5 hsr hsb hR2 hK2
            go_wp2
            go_roundw
            case rel => exact ⟨kk - 1, by first | rfl | (congr 1; omega) | go_num, by omega, by omega, hR6, hK6⟩
            case measure => simp [intOf]; omega
        · obtain rfl : i = kk := by omega
          go_wp2
          first
          | (go_end0; exact ⟨rfl, _, hfin.out, hR2.out, hK2.out⟩)
          | (refine bodyPost_ret (results_none rfl _ _ _) rfl ?_; exact ⟨rfl, _, hfin.out, hR2.out, hK2.out⟩)
theorem sub_n {a b : Nat} (h : b ≤ a) (hb : a ≤ 1000000000) (w : World) : (binOp .sub 3 (.int .i64 (a : Nat)) (.int .i64 (b : Nat))).run Tryz.prog w = .ok (.int .i64 (a - b : Nat)) w := by
  have e : ((a - b : Nat) : Int) = (a : Int) - (b : Int) := by omega
  have hwr : IntKind.i64.wrap ((a : Int) - (b : Int)) = (a : Int) - (b : Int) := by go_unwrap
  rw [e]
  simp [go_sem, hwr]
section
variable {F G : Nat → Ep} {a b m s e : Nat}
theorem mgd_no {s e : Nat} (h : a = s ∨ s = e) : Mgd ltE G a s e G := by
  rcases h with rfl | rfl
  · exact mgd_nl
  · exact mgd_nr
theorem Rs.sub {x y : Nat} (h : Rs ltE F a b) (h1 : a ≤ x) (h2 : y ≤ b) : Rs ltE F x y := fun i j g1 g2 g3 => h i j (by omega) g2 (by omega)
theorem Rs.eqv {x y : Nat} (h : Rs ltE F a b) (h1 : b - a = y - x) (h2 : ∀ i, i < y - x → G (x + i) = F (a + i)) : Rs ltE G x y := fun i j g1 g2 g3 => by
  have e1 := h2 (i - x) (by omega)
  have e2 := h2 (j - x) (by omega)
  rw [show x + (i - x) = i by omega] at e1
  rw [show x + (j - x) = j by omega] at e2
  rw [e1, e2]
  exact h _ _ (by omega) (by omega) (by omega)
theorem rot_r1 (h : Rs ltE F a m) (h2 : s ≤ m) : Rs ltE (rot F s m e) a s := (h.sub (Nat.le_refl a) h2).eqv rfl fun i hi => by unfold rot; rw [if_neg (by omega), if_neg (by omega)]
theorem rot_r2 (h : Rs ltE F m b) (h3 : m ≤ e) (h4 : e ≤ b) : Rs ltE (rot F s m e) s (s + (e - m)) := (h.sub (Nat.le_refl m) h4).eqv (by omega) fun i hi => by unfold rot; rw [if_pos (by omega)]; congr 1; omega
theorem rot_r3 (h : Rs ltE F a m) (h1 : a ≤ s) (h2 : s ≤ m) (h3 : m ≤ e) : Rs ltE (rot F s m e) (s + (e - m)) e := (h.sub h1 (Nat.le_refl m)).eqv (by omega) fun i hi => by unfold rot; rw [if_neg (by omega), if_pos (by omega)]; congr 1; omega
theorem rot_r4 (h : Rs ltE F m b) (h3 : m ≤ e) (h4 : s ≤ m) : Rs ltE (rot F s m e) e b := (h.sub h3 (Nat.le_refl b)).eqv rfl fun i hi => by unfold rot; rw [if_neg (by omega), if_neg (by omega)]
theorem cut_lo {p c k : Nat} (h1 : Rs ltE F a m) (h2 : Rs ltE F m b) (hl : ltE (F (p - c)) (F c) = false) (g1 : a ≤ k) (g2 : k ≤ c) (g3 : c < m) (g4 : m ≤ p - c) (g5 : p - k < b) (g6 : c ≤ p) : ltE (F (p - k)) (F k) = false :=
  rs_hi h2 (rs_dn h1 hl g1 g2 g3) g4 (by omega) g5
theorem cut_hi {p c k : Nat} (h1 : Rs ltE F a m) (h2 : Rs ltE F m b) (hl : ltE (F (p - c)) (F c) = true) (g1 : a ≤ c) (g2 : c ≤ k) (g3 : k < m) (g4 : m ≤ p - k) (g5 : p - c < b) (g6 : k ≤ p) : ltE (F (p - k)) (F k) = true :=
  rs_lo h2 (rs_up h1 hl g1 g2 g3) g4 (by omega) g5
end
structure Fnd (F : Nat → Ep) (a m b mid s : Nat) : Prop where
  h1 : a ≤ s
  h2 : s ≤ m
  h3 : s ≤ mid
  h4 : mid + m - s ≤ b
  hl : ∀ k, m ≤ k → k < mid + m - s → ∀ k', s ≤ k' → k' < m → ltE (F k) (F k') = true
  hg : ∀ k', a ≤ k' → k' < s → ∀ k, mid + m - s ≤ k → k < b → ltE (F k) (F k') = false
theorem fnd_of {F : Nat → Ep} {a m b mid s s0 r0 : Nat} (hr1 : Rs ltE F a m) (hr2 : Rs ltE F m b) (hm1 : a < mid) (hm2 : mid < b) (hab : mid = (a + b) / 2) (hmb : m < b)
    (h0 : (mid < m ∧ s0 = mid + m - b ∧ r0 = mid) ∨ (m ≤ mid ∧ s0 = a ∧ r0 = m)) (g1 : s0 ≤ s) (g2 : s ≤ r0)
    (hlo : ∀ c, s0 ≤ c → c < s → ltE (F (mid + m - 1 - c)) (F c) = false) (hhi : ∀ c, s ≤ c → c < r0 → ltE (F (mid + m - 1 - c)) (F c) = true) : Fnd F a m b mid s := by
  refine ⟨by omega, by omega, by omega, by omega, fun k k1 k2 k' k3 k4 => ?_, fun k' k1 k2 k k3 k4 => ?_⟩
  · have h := hhi s (Nat.le_refl _) (by omega)
    exact rs_up hr1 (rs_lo hr2 h k1 (by omega) (by omega)) (by omega) k3 k4
  · have h := hlo (s - 1) (by omega) (by omega)
    rw [show mid + m - 1 - (s - 1) = mid + m - s by omega] at h
    exact rs_dn hr1 (rs_hi hr2 h (by omega) k3 k4) k1 (by omega) (by omega)
def Sym (N : Nat) : Prop := ∀ {w : World} {B g n cap xa xm xb : Nat} {F : Nat → Ep}, xb - xa ≤ N → Rw w B g n cap F → xa < xm → xm < xb → xb ≤ n → n ≤ 2000000 → Rs ltE F xa xm → Rs ltE F xm xb →
    Calls Tryz.prog 181 #[.slice (some ⟨g, 0, none⟩) n cap, .int .i64 (xa : Nat), .int .i64 (xm : Nat), .int .i64 (xb : Nat), (.func (.func 95) #[] #[])] w fun e w' => e = .returned (.tuple #[]) ∧ ∃ G, Mgd ltE F xa xm xb G ∧ Rw w' B g n cap G ∧ Kg g w w'
set_option maxHeartbeats 16000000 in
set_option maxRecDepth 100000 in
theorem sym_g {M : Nat} (ih : Sym M) {w : World} {B g n cap xa xm xb : Nat} {F : Nat → Ep} (hM : xb - xa ≤ M + 1) (h : Rw w B g n cap F) (ham : xa + 1 < xm) (hmb : xm + 1 < xb) (hbn : xb ≤ n) (hn : n ≤ 2000000) (hr1 : Rs ltE F xa xm) (hr2 : Rs ltE F xm xb) :
    Calls Tryz.prog 181 #[.slice (some ⟨g, 0, none⟩) n cap, .int .i64 (xa : Nat), .int .i64 (xm : Nat), .int .i64 (xb : Nat), (.func (.func 95) #[] #[])] w fun e w' => e = .returned (.tuple #[]) ∧ ∃ G, Mgd ltE F xa xm xb G ∧ Rw w' B g n cap G ∧ Kg g w w' := by
  have h0 := hide1 h
  replace hr1 := hide1 hr1
  replace hr2 := hide1 hr2
  clear h
  obtain ⟨mid, hmid⟩ : ∃ mid, mid = (xa + xb) / 2 := ⟨_, rfl⟩
  have q0 : ((xm : Int) - (xa : Int) == 1) = false := by simp; omega
  have q1 : ((xb : Int) - (xm : Int) == 1) = false := by simp; omega
  have hw1 := half_e (i := xa) (j := xb) (by omega)
  go_enter Tryz.func181, Tryz.ntmps181
  go_upto_region 25 with fail
  have emid : ((xa : Int) + (xb : Int)) / 2 = ((mid : Nat) : Int) := by omega
  rw [emid]
  have hm1 : xa < mid := by omega
  have hm2 : mid < xb := by omega
  obtain ⟨pp, hpp⟩ : ∃ pp, Hid (pp = mid + xm - 1) := ⟨_, hide1 rfl⟩
  replace emid := hide1 emid
  replace hmid := hide1 hmid
  clear q0 q1 hw1
  by_cases hmm : mid < xm
  · obtain ⟨s0, r0, hs0⟩ : ∃ s0 r0, (mid < xm ∧ s0 = mid + xm - xb ∧ r0 = mid) ∨ (xm ≤ mid ∧ s0 = xa ∧ r0 = xm) := ⟨mid + xm - xb, mid, .inl ⟨hmm, rfl, rfl⟩⟩
    have hN : xa ≤ s0 ∧ r0 ≤ xm ∧ r0 ≤ mid ∧ s0 ≤ r0 ∧ mid + xm ≤ xb + s0 := by have := hmid.out; omega
    obtain ⟨n1, n2, n3, n4, n5⟩ := hN
    have z0 : ((mid + xm - xb : Nat) : Int) = (s0 : Int) := by omega
    have z1 : ((mid : Nat) : Int) = (r0 : Int) := by omega
    have z2 : ((mid + xm - xb : Nat) : Int) = (mid : Int) + (xm : Int) - (xb : Int) := by have := hmid.out; omega
    replace hs0 := hide1 hs0
    replace z0 := hide1 z0
    replace z1 := hide1 z1
    replace z2 := hide1 z2
    go_wp2_with fail
    go_loopw [20, 21] (fun s20 s21 wr => ∃ i jj : Nat, s20 = .int .i64 (i : Nat) ∧ s21 = .int .i64 (jj : Nat) ∧ s0 ≤ i ∧ i ≤ jj ∧ jj ≤ r0 ∧ Hid (∀ c, s0 ≤ c → c < i → ltE (F (pp - c)) (F c) = false) ∧ Hid (∀ c, jj ≤ c → c < r0 → ltE (F (pp - c)) (F c) = true) ∧ Hid (Rw wr B g n cap F) ∧ Hid (Kg g w wr)) (fun s20 s21 _ => (intOf s21).toNat - (intOf s20).toNat)
    case atStart => exact ⟨s0, r0, by have := z0.out; have := z2.out; first | rfl | (congr 1; omega) | congr 1, by have := z1.out; first | rfl | (congr 1; omega) | congr 1, Nat.le_refl _, n4, Nat.le_refl _, hide1 fun c h1 h2 => by omega, hide1 fun c h1 h2 => by omega, h0, hide1 (Kg.refl g w)⟩
    case round =>
      obtain ⟨i, jj, rfl, rfl, hi1, hi2, hi3, hlo, hhi, hR, hK⟩ := hrel
      by_cases hlt : i < jj
      · obtain ⟨cc, hccd⟩ : ∃ cc, cc = (i + jj) / 2 := ⟨_, rfl⟩
        have hq := hpp.out
        have hccp : cc ≤ pp := by omega
        have hcm : cc < xm := by omega
        have hmq : xm ≤ pp - cc := by omega
        have hqb : pp - cc < xb := by omega
        have hcn : cc < n := by omega
        have hqn : pp - cc < n := by omega
        replace hq := hide1 hq
        have hok1 : EpOk (F (pp - cc)) := hR.out.ok _ hqn
        have hok2 : EpOk (F cc) := hR.out.ok cc hcn
        have hsb := fun w => sub_n (a := pp) (b := cc) hccp (by omega) w
        obtain ⟨R, hRd⟩ : ∃ R, Hid (R = ltE (F (pp - cc)) (F cc)) := ⟨_, hide1 rfl⟩
        have hzr : ∀ w, (binOp .lss 3 (.int .i64 (zc (F (pp - cc)) (F cc))) (.int .i64 0)).run Tryz.prog w = .ok (.bool R) w := fun w => by rw [hRd.out]; exact zc_lt _ _ w
        have hw1 := half_e (i := i) (j := jj) (by omega)
        go_upto_region 35 with fail
        have ecc : ((i : Int) + (jj : Int)) / 2 = ((cc : Nat) : Int) := by omega
        have epp : (mid : Int) + (xm : Int) - 1 = ((pp : Nat) : Int) := by have := hq.out; omega
        rw [ecc, epp]
        replace ecc := hide1 ecc
        replace epp := hide1 epp
        replace hccd := hide1 hccd
        refine wp_flowG 13 _ _ (by kernel_rfl) (by kernel_rfl) (by kernel_rfl) rfl (fun j v _ => v = ([(.func (.func 95) #[] #[]), (.slice (some ⟨g, 0, none⟩) n cap), (.int .i64 (pp : Nat)), (.int .i64 (cc : Nat)), (.int .i64 (pp - cc : Nat)), (.pointer (some ⟨g, (pp - cc) * 6, none⟩)), (.agg (cl (F (pp - cc))).toArray), (.slice (some ⟨g, 0, none⟩) n cap), (.int .i64 (cc : Nat)), (.pointer (some ⟨g, cc * 6, none⟩)), (.agg (cl (F cc)).toArray), (.int .i64 (zc (F (pp - cc)) (F cc))), (.bool R), (.bool (!R))] : List Value).getD j undef) (fun _ _ _ _ h _ => h) ?_ ?_
        · intro j op hop hj a wa hwa hsz hsl hdep K hK
          match j, hop with
          | 0, hop =>
            obtain rfl := Option.some.inj hop
            have p4 : a.tmps.getD 4 undef = (.func (.func 95) #[] #[]) := hsl 4 rfl
            exact .plain rfl (wp_val (w' := wa) (v := (.func (.func 95) #[] #[])) (by simp only [execOp, Act.eval]; rw [show a.tmps.getD 4 undef = _ from p4]; rfl) (hK _ _ (Below.refl _ _) rfl))
          | 1, hop =>
            obtain rfl := Option.some.inj hop
            have p0 : a.tmps.getD 0 undef = (.slice (some ⟨g, 0, none⟩) n cap) := hsl 0 rfl
            exact .plain rfl (wp_val (w' := wa) (v := (.slice (some ⟨g, 0, none⟩) n cap)) (by simp only [execOp, Act.eval]; rw [show a.tmps.getD 0 undef = _ from p0]; rfl) (hK _ _ (Below.refl _ _) rfl))
          | 2, hop =>
            obtain rfl := Option.some.inj hop
            have p22 : a.tmps.getD 22 undef = (.int .i64 (pp : Nat)) := hsl 22 rfl
            exact .plain rfl (wp_val (w' := wa) (v := (.int .i64 (pp : Nat))) (by simp only [execOp, Act.eval]; rw [show a.tmps.getD 22 undef = _ from p22]; rfl) (hK _ _ (Below.refl _ _) rfl))
          | 3, hop =>
            obtain rfl := Option.some.inj hop
            have p23 : a.tmps.getD 23 undef = (.int .i64 (cc : Nat)) := hsl 23 rfl
            exact .plain rfl (wp_val (w' := wa) (v := (.int .i64 (cc : Nat))) (by simp only [execOp, Act.eval]; rw [show a.tmps.getD 23 undef = _ from p23]; rfl) (hK _ _ (Below.refl _ _) rfl))
          | 4, hop =>
            obtain rfl := Option.some.inj hop
            have t2 : a.tmps.getD 160 undef = (.int .i64 (pp : Nat)) := hdep 2 _ 160 rfl rfl ⟨⟨2, .data⟩, by simp, rfl, rfl⟩
            have t3 : a.tmps.getD 161 undef = (.int .i64 (cc : Nat)) := hdep 3 _ 161 rfl rfl ⟨⟨3, .data⟩, by simp, rfl, rfl⟩
            exact .plain rfl (wp_val (w' := wa) (v := (.int .i64 (pp - cc : Nat))) (by simp only [execOp, Act.eval]; rw [show a.tmps.getD 160 undef = _ from t2, show a.tmps.getD 161 undef = _ from t3]; simp only [Sem.run_bind, eqg_sub, hsb, Result.andThen_ok, Sem.run_pure]) (hK _ _ (Below.refl _ _) rfl))
          | 5, hop =>
            obtain rfl := Option.some.inj hop
            have t1 : a.tmps.getD 159 undef = (.slice (some ⟨g, 0, none⟩) n cap) := hdep 1 _ 159 rfl rfl ⟨⟨1, .data⟩, by simp, rfl, rfl⟩
            have t4 : a.tmps.getD 162 undef = (.int .i64 (pp - cc : Nat)) := hdep 4 _ 162 rfl rfl ⟨⟨4, .data⟩, by simp, rfl, rfl⟩
            exact .plain rfl (wp_val (w' := wa) (v := (.pointer (some ⟨g, (pp - cc) * 6, none⟩))) (by simp only [execOp, Act.eval]; rw [show a.tmps.getD 159 undef = _ from t1, show a.tmps.getD 162 undef = _ from t4]; simp only [Sem.run_bind, ix_sP hqn, Result.andThen_ok, Sem.run_pure]) (hK _ _ (Below.refl _ _) rfl))
          | 6, hop =>
            obtain rfl := Option.some.inj hop
            have t5 : a.tmps.getD 163 undef = (.pointer (some ⟨g, (pp - cc) * 6, none⟩)) := hdep 5 _ 163 rfl rfl ⟨⟨5, .data⟩, by simp, rfl, rfl⟩
            exact .plain rfl (wp_val (w' := wa) (v := (.agg (cl (F (pp - cc))).toArray)) (by simp only [execOp, Act.eval]; rw [show a.tmps.getD 163 undef = _ from t5]; simp only [Sem.run_bind, (hR.out.later hwa).load hqn, Result.andThen_ok, Sem.run_pure]) (hK _ _ (Below.refl _ _) rfl))
          | 7, hop =>
            obtain rfl := Option.some.inj hop
            have p0 : a.tmps.getD 0 undef = (.slice (some ⟨g, 0, none⟩) n cap) := hsl 0 rfl
            exact .plain rfl (wp_val (w' := wa) (v := (.slice (some ⟨g, 0, none⟩) n cap)) (by simp only [execOp, Act.eval]; rw [show a.tmps.getD 0 undef = _ from p0]; rfl) (hK _ _ (Below.refl _ _) rfl))
          | 8, hop =>
            obtain rfl := Option.some.inj hop
            have p23 : a.tmps.getD 23 undef = (.int .i64 (cc : Nat)) := hsl 23 rfl
            exact .plain rfl (wp_val (w' := wa) (v := (.int .i64 (cc : Nat))) (by simp only [execOp, Act.eval]; rw [show a.tmps.getD 23 undef = _ from p23]; rfl) (hK _ _ (Below.refl _ _) rfl))
          | 9, hop =>
            obtain rfl := Option.some.inj hop
            have t7 : a.tmps.getD 165 undef = (.slice (some ⟨g, 0, none⟩) n cap) := hdep 7 _ 165 rfl rfl ⟨⟨7, .data⟩, by simp, rfl, rfl⟩
            have t8 : a.tmps.getD 166 undef = (.int .i64 (cc : Nat)) := hdep 8 _ 166 rfl rfl ⟨⟨8, .data⟩, by simp, rfl, rfl⟩
            exact .plain rfl (wp_val (w' := wa) (v := (.pointer (some ⟨g, cc * 6, none⟩))) (by simp only [execOp, Act.eval]; rw [show a.tmps.getD 165 undef = _ from t7, show a.tmps.getD 166 undef = _ from t8]; simp only [Sem.run_bind, ix_sP hcn, Result.andThen_ok, Sem.run_pure]) (hK _ _ (Below.refl _ _) rfl))
          | 10, hop =>
            obtain rfl := Option.some.inj hop
            have t9 : a.tmps.getD 167 undef = (.pointer (some ⟨g, cc * 6, none⟩)) := hdep 9 _ 167 rfl rfl ⟨⟨9, .data⟩, by simp, rfl, rfl⟩
            exact .plain rfl (wp_val (w' := wa) (v := (.agg (cl (F cc)).toArray)) (by simp only [execOp, Act.eval]; rw [show a.tmps.getD 167 undef = _ from t9]; simp only [Sem.run_bind, (hR.out.later hwa).load hcn, Result.andThen_ok, Sem.run_pure]) (hK _ _ (Below.refl _ _) rfl))
          | 11, hop =>
            obtain rfl := Option.some.inj hop
            have t6 : a.tmps.getD 164 undef = (.agg (cl (F (pp - cc))).toArray) := hdep 6 _ 164 rfl rfl ⟨⟨6, .data⟩, by simp, rfl, rfl⟩
            have t10 : a.tmps.getD 168 undef = (.agg (cl (F cc)).toArray) := hdep 10 _ 168 rfl rfl ⟨⟨10, .data⟩, by simp, rfl, rfl⟩
            have t0 : a.tmps.getD 158 undef = (.func (.func 95) #[] #[]) := hdep 0 _ 158 rfl rfl ⟨⟨0, .data⟩, by simp, rfl, rfl⟩
            refine .plain rfl (oper_anyv (J := fun r w' => r = (.int .i64 (zc (F (pp - cc)) (F cc))) ∧ Below wa.heap.size wa w') 95 (.tmp 158) #[.tmp 164, .tmp 168] _ rfl (show a.tmps.getD 158 undef = _ from t0) #[(.agg (cl (F (pp - cc))).toArray), (.agg (cl (F cc)).toArray)] (by simp only [List.map_toArray, List.map_cons, List.map_nil, Act.eval]; rw [show a.tmps.getD 164 undef = _ from t6, show a.tmps.getD 168 undef = _ from t10]) (fun w => by kernel_rfl) ((cmp_d hok1 hok2).mono fun e w' h => ⟨_, h.1, rfl, h.2⟩) ?_)
            rintro r w' ⟨rfl, hb⟩
            exact hK _ _ hb rfl
          | 12, hop =>
            obtain rfl := Option.some.inj hop
            have t11 : a.tmps.getD 169 undef = (.int .i64 (zc (F (pp - cc)) (F cc))) := hdep 11 _ 169 rfl rfl ⟨⟨11, .data⟩, by simp, rfl, rfl⟩
            exact .plain rfl (wp_val (w' := wa) (v := (.bool R)) (by simp only [execOp, Act.eval]; rw [show a.tmps.getD 169 undef = _ from t11]; simp only [Sem.run_bind, eqg_lss, hzr, Result.andThen_ok, Sem.run_pure]) (hK _ _ (Below.refl _ _) rfl))
          | 13, _ => exact absurd rfl hj
          | _ + 14, hop => exact absurd hop (by simp)
        · intro a wa hwa hdf hsz hsl hrr K hK
          have t12 : a.tmps.getD 170 undef = (.bool R) := hrr 12 _ 170 rfl (by decide) rfl
          refine .plain rfl (wp_val (w' := wa) (v := (.bool (!R))) (by simp only [execOp, Act.eval]; rw [show a.tmps.getD 170 undef = _ from t12]; kernel_rfl) ?_)
          refine hK _ wa ?_
          have hact := act_puts hdf hsz hsl
          clear hrr hsl hdf hsz hK t12
          simp only [List.filterMap_cons, List.filterMap_nil, List.foldl_cons, List.foldl_nil] at hact
          rw [hact]
          generalize a.tmps.getD 158 undef = y158
          generalize a.tmps.getD 159 undef = y159
          generalize a.tmps.getD 160 undef = y160
          generalize a.tmps.getD 161 undef = y161
          generalize a.tmps.getD 162 undef = y162
          generalize a.tmps.getD 163 undef = y163
          generalize a.tmps.getD 164 undef = y164
          generalize a.tmps.getD 165 undef = y165
          generalize a.tmps.getD 166 undef = y166
          generalize a.tmps.getD 167 undef = y167
          generalize a.tmps.getD 168 undef = y168
          generalize a.tmps.getD 169 undef = y169
          generalize a.tmps.getD 170 undef = y170
          clear hact
          simp only [Act.put, List.setIfInBounds_toArray, List.set_cons_succ, List.set_cons_zero]
          rw [← epp.out]
          have hR4 := hide1 (hR.out.later hwa)
          have hK4 : Hid (Kg g w wa) := hide1 (hK.out.trans (Kg.ofB hwa))
          clear hzr hwa hR hK hsb
          have hd := hccd.out
          cases R with
          | false =>
            have hlo2 : Hid (∀ c, s0 ≤ c → c < cc + 1 → ltE (F (pp - c)) (F c) = false) := hide1 fun c h1 h2 => cut_lo hr1.out hr2.out hRd.out.symm (by omega) (by omega) hcm hmq (by have := hq.out; omega) hccp
            replace hd := hide1 hd
            clear hlo hRd
            go_wp2
            go_roundw
            case rel => exact ⟨cc + 1, jj, by first | rfl | (congr 1; omega) | go_num, rfl, by have := hd.out; omega, by have := hd.out; omega, hi3, hlo2, hhi, hR4, hK4⟩
            case measure => have := hd.out; simp [intOf]; omega
          | true =>
            have hhi2 : Hid (∀ c, cc ≤ c → c < r0 → ltE (F (pp - c)) (F c) = true) := hide1 fun c h1 h2 => cut_hi hr1.out hr2.out hRd.out.symm (by omega) h1 (by omega) (by have := hq.out; omega) hqb (by have := hq.out; omega)
            replace hd := hide1 hd
            clear hhi hRd
            go_wp2
            go_roundw
            case rel => exact ⟨i, cc, rfl, by first | rfl | (congr 1; omega) | go_num, hi1, by have := hd.out; omega, by have := hd.out; omega, hlo, hhi2, hR4, hK4⟩
            case measure => have := hd.out; simp [intOf]; omega
      · obtain ⟨s, hsi⟩ : ∃ s, s = i := ⟨_, rfl⟩
        obtain rfl : i = jj := by omega
        subst hsi
        obtain ⟨e, he⟩ : ∃ e, e = mid + xm - s := ⟨_, rfl⟩
        have hf : Fnd F xa xm xb mid s := fnd_of hr1.out hr2.out hm1 hm2 hmid.out (by omega) hs0.out hi1 hi3 (by have := hlo.out; rwa [hpp.out] at this) (by have := hhi.out; rwa [hpp.out] at this)
        obtain ⟨f1, f2, f3, f4, hfl, hfg⟩ := hf
        rw [← he] at f4 hfl hfg
        have f5 : xm ≤ e := by omega
        have f6 : mid ≤ e := by omega
        have hmide : Hid (s + (e - xm) = mid) := hide1 (by omega)
        have ee : (mid : Int) + (xm : Int) - (s : Int) = ((e : Nat) : Int) := by omega
        replace he := hide1 he
        replace hfl := hide1 hfl
        replace hfg := hide1 hfg
        clear hlo hhi
        replace ee := hide1 ee
        go_upto_region 39 with fail
        rw [ee.out]
        by_cases c1 : s < xm
        · have ic10 : (s : Int) < (xm : Int) := by have := he.out; omega
          have ic11 : (mid : Int) < (e : Int) := by have := he.out; omega
          by_cases c2 : s < mid
          · have ic20 : (s : Int) < (mid : Int) := by have := he.out; omega
            have ic21 : (xm : Int) < (e : Int) := by have := he.out; omega
            by_cases c3 : xa < s
            · have ic30 : (xa : Int) < (s : Int) := by have := he.out; omega
              by_cases c4 : e < xb
              · have ic40 : (e : Int) < (xb : Int) := by have := he.out; omega
                go_wp2_with fail
                refine (rot_d (xa := s) (xm := xm) (xb := e) hR.out c1 (by omega) (by omega) hn).mono ?_
                rintro er w1 ⟨rfl, hRa, hO1⟩
                have hRb := hide1 hRa
                have hKb := hide1 (hK.out.trans hO1.kg)
                clear hRa hO1 hR hK
                have hc := ih (xa := xa) (xm := s) (xb := mid) (by omega) hRb.out c3 c2 (by omega) hn (rot_r1 hr1.out (by omega)) (hmide.out ▸ rot_r2 (s := s) hr2.out (by omega) (by omega))
                go_wp2_with fail
                refine hc.mono ?_
                rintro er w2 ⟨rfl, G, hG0, hRc, hKc⟩
                have hG := hide1 hG0
                have hRd := hide1 hRc
                have hKd := hide1 (hKb.out.trans hKc)
                clear hc hG0 hRc hKc hRb hKb
                have hr5 : Rs ltE G mid e := fun i j g1 g2 g3 => by
                  rw [hG.out.1 i (by omega), hG.out.1 j (by omega)]
                  exact (hmide.out ▸ rot_r3 (s := s) (e := e) hr1.out (by omega) (by omega) (by omega) : Rs ltE (rot F s xm e) mid e) i j g1 g2 g3
                have hr6 : Rs ltE G e xb := fun i j g1 g2 g3 => by
                  rw [hG.out.1 i (by omega), hG.out.1 j (by omega)]
                  exact (rot_r4 (s := s) (e := e) hr2.out (by omega) (by omega)) i j g1 g2 g3
                have hc := ih (xa := mid) (xm := e) (xb := xb) (by omega) hRd.out (by omega) c4 hbn hn hr5 hr6
                clear hr5 hr6
                go_wp2_with fail
                refine hc.mono ?_
                rintro er w3 ⟨rfl, H, hH0, hRe, hKe⟩
                have hH := hide1 hH0
                have hRf := hide1 hRe
                have hKf := hide1 (hKd.out.trans hKe)
                clear hc hH0 hRe hKe hRd hKd
                have hfin : Hid (Mgd ltE F xa xm xb H) := hide1 (mgd_two (s := s) (e := e) (by omega) (by omega) (by omega) (by omega) hfl.out hfg.out (by rw [hmide.out]; exact hG.out) (by rw [hmide.out]; exact hH.out))
                clear hG hH hfl hfg
                go_wp2
                all_goals (go_end0; exact ⟨rfl, H, hfin.out, hRf.out, hKf.out⟩)
              · have ic40 : ¬ (e : Int) < (xb : Int) := by have := he.out; omega
                go_wp2_with fail
                refine (rot_d (xa := s) (xm := xm) (xb := e) hR.out c1 (by omega) (by omega) hn).mono ?_
                rintro er w1 ⟨rfl, hRa, hO1⟩
                have hRb := hide1 hRa
                have hKb := hide1 (hK.out.trans hO1.kg)
                clear hRa hO1 hR hK
                have hc := ih (xa := xa) (xm := s) (xb := mid) (by omega) hRb.out c3 c2 (by omega) hn (rot_r1 hr1.out (by omega)) (hmide.out ▸ rot_r2 (s := s) hr2.out (by omega) (by omega))
                go_wp2_with fail
                refine hc.mono ?_
                rintro er w2 ⟨rfl, G, hG0, hRc, hKc⟩
                have hG := hide1 hG0
                have hRd := hide1 hRc
                have hKd := hide1 (hKb.out.trans hKc)
                clear hc hG0 hRc hKc hRb hKb
                obtain ⟨H, hHe⟩ : ∃ H, Hid (H = G) := ⟨_, hide1 rfl⟩
                have hH : Hid (Mgd ltE G mid e xb H) := hide1 (by rw [hHe.out]; exact mgd_no (by omega))
                have hRf := hRd
                have hKf := hKd
                rw [← hHe.out] at hRf
                clear hRd hKd
                have hfin : Hid (Mgd ltE F xa xm xb H) := hide1 (mgd_two (s := s) (e := e) (by omega) (by omega) (by omega) (by omega) hfl.out hfg.out (by rw [hmide.out]; exact hG.out) (by rw [hmide.out]; exact hH.out))
                clear hG hH hfl hfg
                go_wp2
                all_goals (go_end0; exact ⟨rfl, H, hfin.out, hRf.out, hKf.out⟩)
            · have ic30 : ¬ (xa : Int) < (s : Int) := by have := he.out; omega
              by_cases c4 : e < xb
              · have ic40 : (e : Int) < (xb : Int) := by have := he.out; omega
                go_wp2_with fail
                refine (rot_d (xa := s) (xm := xm) (xb := e) hR.out c1 (by omega) (by omega) hn).mono ?_
                rintro er w1 ⟨rfl, hRa, hO1⟩
                have hRb := hide1 hRa
                have hKb := hide1 (hK.out.trans hO1.kg)
                clear hRa hO1 hR hK
                obtain ⟨G, hGe⟩ : ∃ G, Hid (G = rot F s xm e) := ⟨_, hide1 rfl⟩
                have hG : Hid (Mgd ltE (rot F s xm e) xa s mid G) := hide1 (by rw [hGe.out]; exact mgd_no (by omega))
                have hRd : Hid (Rw w1 B g n cap G) := hide1 (by rw [hGe.out]; exact hRb.out)
                have hKd := hKb
                clear hRb hKb
                have hr5 : Rs ltE G mid e := fun i j g1 g2 g3 => by
                  rw [hG.out.1 i (by omega), hG.out.1 j (by omega)]
                  exact (hmide.out ▸ rot_r3 (s := s) (e := e) hr1.out (by omega) (by omega) (by omega) : Rs ltE (rot F s xm e) mid e) i j g1 g2 g3
                have hr6 : Rs ltE G e xb := fun i j g1 g2 g3 => by
                  rw [hG.out.1 i (by omega), hG.out.1 j (by omega)]
                  exact (rot_r4 (s := s) (e := e) hr2.out (by omega) (by omega)) i j g1 g2 g3
                have hc := ih (xa := mid) (xm := e) (xb := xb) (by omega) hRd.out (by omega) c4 hbn hn hr5 hr6
                clear hr5 hr6
                go_wp2_with fail
                refine hc.mono ?_
                rintro er w3 ⟨rfl, H, hH0, hRe, hKe⟩
                have hH := hide1 hH0
                have hRf := hide1 hRe
                have hKf := hide1 (hKd.out.trans hKe)
                clear hc hH0 hRe hKe hRd hKd
                have hfin : Hid (Mgd ltE F xa xm xb H) := hide1 (mgd_two (s := s) (e := e) (by omega) (by omega) (by omega) (by omega) hfl.out hfg.out (by rw [hmide.out]; exact hG.out) (by rw [hmide.out]; exact hH.out))
                clear hG hH hfl hfg
                go_wp2
                all_goals (go_end0; exact ⟨rfl, H, hfin.out, hRf.out, hKf.out⟩)
              · have ic40 : ¬ (e : Int) < (xb : Int) := by have := he.out; omega
                go_wp2_with fail
                refine (rot_d (xa := s) (xm := xm) (xb := e) hR.out c1 (by omega) (by omega) hn).mono ?_
                rintro er w1 ⟨rfl, hRa, hO1⟩
                have hRb := hide1 hRa
                have hKb := hide1 (hK.out.trans hO1.kg)
                clear hRa hO1 hR hK
                obtain ⟨G, hGe⟩ : ∃ G, Hid (G = rot F s xm e) := ⟨_, hide1 rfl⟩
                have hG : Hid (Mgd ltE (rot F s xm e) xa s mid G) := hide1 (by rw [hGe.out]; exact mgd_no (by omega))
                have hRd : Hid (Rw w1 B g n cap G) := hide1 (by rw [hGe.out]; exact hRb.out)
                have hKd := hKb
                clear hRb hKb
                obtain ⟨H, hHe⟩ : ∃ H, Hid (H = G) := ⟨_, hide1 rfl⟩
                have hH : Hid (Mgd ltE G mid e xb H) := hide1 (by rw [hHe.out]; exact mgd_no (by omega))
                have hRf := hRd
                have hKf := hKd
                rw [← hHe.out] at hRf
                clear hRd hKd
                have hfin : Hid (Mgd ltE F xa xm xb H) := hide1 (mgd_two (s := s) (e := e) (by omega) (by omega) (by omega) (by omega) hfl.out hfg.out (by rw [hmide.out]; exact hG.out) (by rw [hmide.out]; exact hH.out))
                clear hG hH hfl hfg
                go_wp2
                all_goals (go_end0; exact ⟨rfl, H, hfin.out, hRf.out, hKf.out⟩)
          · have ic20 : ¬ (s : Int) < (mid : Int) := by have := he.out; omega
            have ic21 : ¬ (xm : Int) < (e : Int) := by have := he.out; omega
            by_cases c3 : xa < s
            · have ic30 : (xa : Int) < (s : Int) := by have := he.out; omega
              by_cases c4 : e < xb
              · have ic40 : (e : Int) < (xb : Int) := by have := he.out; omega
                have hRb : Hid (Rw wr B g n cap (rot F s xm e)) := hide1 (by rw [rot_id F (by omega)]; exact hR.out)
                have hKb := hK
                clear hR hK
                obtain ⟨G, hGe⟩ : ∃ G, Hid (G = rot F s xm e) := ⟨_, hide1 rfl⟩
                have hG : Hid (Mgd ltE (rot F s xm e) xa s mid G) := hide1 (by rw [hGe.out]; exact mgd_no (by omega))
                have hRd : Hid (Rw wr B g n cap G) := hide1 (by rw [hGe.out]; exact hRb.out)
                have hKd := hKb
                clear hRb hKb
                have hr5 : Rs ltE G mid e := fun i j g1 g2 g3 => by
                  rw [hG.out.1 i (by omega), hG.out.1 j (by omega)]
                  exact (hmide.out ▸ rot_r3 (s := s) (e := e) hr1.out (by omega) (by omega) (by omega) : Rs ltE (rot F s xm e) mid e) i j g1 g2 g3
                have hr6 : Rs ltE G e xb := fun i j g1 g2 g3 => by
                  rw [hG.out.1 i (by omega), hG.out.1 j (by omega)]
                  exact (rot_r4 (s := s) (e := e) hr2.out (by omega) (by omega)) i j g1 g2 g3
                have hc := ih (xa := mid) (xm := e) (xb := xb) (by omega) hRd.out (by omega) c4 hbn hn hr5 hr6
                clear hr5 hr6
                go_wp2_with fail
                refine hc.mono ?_
                rintro er w3 ⟨rfl, H, hH0, hRe, hKe⟩
                have hH := hide1 hH0
                have hRf := hide1 hRe
                have hKf := hide1 (hKd.out.trans hKe)
                clear hc hH0 hRe hKe hRd hKd
                have hfin : Hid (Mgd ltE F xa xm xb H) := hide1 (mgd_two (s := s) (e := e) (by omega) (by omega) (by omega) (by omega) hfl.out hfg.out (by rw [hmide.out]; exact hG.out) (by rw [hmide.out]; exact hH.out))
                clear hG hH hfl hfg
                go_wp2
                all_goals (go_end0; exact ⟨rfl, H, hfin.out, hRf.out, hKf.out⟩)
              · have ic40 : ¬ (e : Int) < (xb : Int) := by have := he.out; omega
                have hRb : Hid (Rw wr B g n cap (rot F s xm e)) := hide1 (by rw [rot_id F (by omega)]; exact hR.out)
                have hKb := hK
                clear hR hK
                obtain ⟨G, hGe⟩ : ∃ G, Hid (G = rot F s xm e) := ⟨_, hide1 rfl⟩
                have hG : Hid (Mgd ltE (rot F s xm e) xa s mid G) := hide1 (by rw [hGe.out]; exact mgd_no (by omega))
                have hRd : Hid (Rw wr B g n cap G) := hide1 (by rw [hGe.out]; exact hRb.out)
                have hKd := hKb
                clear hRb hKb
                obtain ⟨H, hHe⟩ : ∃ H, Hid (H = G) := ⟨_, hide1 rfl⟩
                have hH : Hid (Mgd ltE G mid e xb H) := hide1 (by rw [hHe.out]; exact mgd_no (by omega))
                have hRf := hRd
                have hKf := hKd
                rw [← hHe.out] at hRf
                clear hRd hKd
                have hfin : Hid (Mgd ltE F xa xm xb H) := hide1 (mgd_two (s := s) (e := e) (by omega) (by omega) (by omega) (by omega) hfl.out hfg.out (by rw [hmide.out]; exact hG.out) (by rw [hmide.out]; exact hH.out))
                clear hG hH hfl hfg
                go_wp2
                all_goals (go_end0; exact ⟨rfl, H, hfin.out, hRf.out, hKf.out⟩)
            · have ic30 : ¬ (xa : Int) < (s : Int) := by have := he.out; omega
              by_cases c4 : e < xb
              · have ic40 : (e : Int) < (xb : Int) := by have := he.out; omega
                have hRb : Hid (Rw wr B g n cap (rot F s xm e)) := hide1 (by rw [rot_id F (by omega)]; exact hR.out)
                have hKb := hK
                clear hR hK
                obtain ⟨G, hGe⟩ : ∃ G, Hid (G = rot F s xm e) := ⟨_, hide1 rfl⟩
                have hG : Hid (Mgd ltE (rot F s xm e) xa s mid G) := hide1 (by rw [hGe.out]; exact mgd_no (by omega))
                have hRd : Hid (Rw wr B g n cap G) := hide1 (by rw [hGe.out]; exact hRb.out)
                have hKd := hKb
                clear hRb hKb
                have hr5 : Rs ltE G mid e := fun i j g1 g2 g3 => by
                  rw [hG.out.1 i (by omega), hG.out.1 j (by omega)]
                  exact (hmide.out ▸ rot_r3 (s := s) (e := e) hr1.out (by omega) (by omega) (by omega) : Rs ltE (rot F s xm e) mid e) i j g1 g2 g3
                have hr6 : Rs ltE G e xb := fun i j g1 g2 g3 => by
                  rw [hG.out.1 i (by omega), hG.out.1 j (by omega)]
                  exact (rot_r4 (s := s) (e := e) hr2.out (by omega) (by omega)) i j g1 g2 g3
                have hc := ih (xa := mid) (xm := e) (xb := xb) (by omega) hRd.out (by omega) c4 hbn hn hr5 hr6
                clear hr5 hr6
                go_wp2_with fail
                refine hc.mono ?_
                rintro er w3 ⟨rfl, H, hH0, hRe, hKe⟩
                have hH := hide1 hH0
                have hRf := hide1 hRe
                have hKf := hide1 (hKd.out.trans hKe)
                clear hc hH0 hRe hKe hRd hKd
                have hfin : Hid (Mgd ltE F xa xm xb H) := hide1 (mgd_two (s := s) (e := e) (by omega) (by omega) (by omega) (by omega) hfl.out hfg.out (by rw [hmide.out]; exact hG.out) (by rw [hmide.out]; exact hH.out))
                clear hG hH hfl hfg
                go_wp2
                all_goals (go_end0; exact ⟨rfl, H, hfin.out, hRf.out, hKf.out⟩)
              · have ic40 : ¬ (e : Int) < (xb : Int) := by have := he.out; omega
                have hRb : Hid (Rw wr B g n cap (rot F s xm e)) := hide1 (by rw [rot_id F (by omega)]; exact hR.out)
                have hKb := hK
                clear hR hK
                obtain ⟨G, hGe⟩ : ∃ G, Hid (G = rot F s xm e) := ⟨_, hide1 rfl⟩
                have hG : Hid (Mgd ltE (rot F s xm e) xa s mid G) := hide1 (by rw [hGe.out]; exact mgd_no (by omega))
                have hRd : Hid (Rw wr B g n cap G) := hide1 (by rw [hGe.out]; exact hRb.out)
                have hKd := hKb
                clear hRb hKb
                obtain ⟨H, hHe⟩ : ∃ H, Hid (H = G) := ⟨_, hide1 rfl⟩
                have hH : Hid (Mgd ltE G mid e xb H) := hide1 (by rw [hHe.out]; exact mgd_no (by omega))
                have hRf := hRd
                have hKf := hKd
                rw [← hHe.out] at hRf
                clear hRd hKd
                have hfin : Hid (Mgd ltE F xa xm xb H) := hide1 (mgd_two (s := s) (e := e) (by omega) (by omega) (by omega) (by omega) hfl.out hfg.out (by rw [hmide.out]; exact hG.out) (by rw [hmide.out]; exact hH.out))
                clear hG hH hfl hfg
                go_wp2
                all_goals (go_end0; exact ⟨rfl, H, hfin.out, hRf.out, hKf.out⟩)
        · have ic10 : ¬ (s : Int) < (xm : Int) := by have := he.out; omega
          have ic11 : ¬ (mid : Int) < (e : Int) := by have := he.out; omega
          by_cases c2 : s < mid
          · have ic20 : (s : Int) < (mid : Int) := by have := he.out; omega
            have ic21 : (xm : Int) < (e : Int) := by have := he.out; omega
            by_cases c3 : xa < s
            · have ic30 : (xa : Int) < (s : Int) := by have := he.out; omega
              by_cases c4 : e < xb
              · have ic40 : (e : Int) < (xb : Int) := by have := he.out; omega
                have hRb : Hid (Rw wr B g n cap (rot F s xm e)) := hide1 (by rw [rot_id F (by omega)]; exact hR.out)
                have hKb := hK
                clear hR hK
                have hc := ih (xa := xa) (xm := s) (xb := mid) (by omega) hRb.out c3 c2 (by omega) hn (rot_r1 hr1.out (by omega)) (hmide.out ▸ rot_r2 (s := s) hr2.out (by omega) (by omega))
                go_wp2_with fail
                refine hc.mono ?_
                rintro er w2 ⟨rfl, G, hG0, hRc, hKc⟩
                have hG := hide1 hG0
                have hRd := hide1 hRc
                have hKd := hide1 (hKb.out.trans hKc)
                clear hc hG0 hRc hKc hRb hKb
                obtain ⟨H, hHe⟩ : ∃ H, Hid (H = G) := ⟨_, hide1 rfl⟩
                have hH : Hid (Mgd ltE G mid e xb H) := hide1 (by rw [hHe.out]; exact mgd_no (by omega))
                have hRf := hRd
                have hKf := hKd
                rw [← hHe.out] at hRf
                clear hRd hKd
                have hfin : Hid (Mgd ltE F xa xm xb H) := hide1 (mgd_two (s := s) (e := e) (by omega) (by omega) (by omega) (by omega) hfl.out hfg.out (by rw [hmide.out]; exact hG.out) (by rw [hmide.out]; exact hH.out))
                clear hG hH hfl hfg
                go_wp2
                all_goals (go_end0; exact ⟨rfl, H, hfin.out, hRf.out, hKf.out⟩)
              · have ic40 : ¬ (e : Int) < (xb : Int) := by have := he.out; omega
                have hRb : Hid (Rw wr B g n cap (rot F s xm e)) := hide1 (by rw [rot_id F (by omega)]; exact hR.out)
                have hKb := hK
                clear hR hK
                have hc := ih (xa := xa) (xm := s) (xb := mid) (by omega) hRb.out c3 c2 (by omega) hn (rot_r1 hr1.out (by omega)) (hmide.out ▸ rot_r2 (s := s) hr2.out (by omega) (by omega))
                go_wp2_with fail
                refine hc.mono ?_
                rintro er w2 ⟨rfl, G, hG0, hRc, hKc⟩
                have hG := hide1 hG0
                have hRd := hide1 hRc
                have hKd := hide1 (hKb.out.trans hKc)
                clear hc hG0 hRc hKc hRb hKb
                obtain ⟨H, hHe⟩ : ∃ H, Hid (H = G) := ⟨_, hide1 rfl⟩
                have hH : Hid (Mgd ltE G mid e xb H) := hide1 (by rw [hHe.out]; exact mgd_no (by omega))
                have hRf := hRd
                have hKf := hKd
                rw [← hHe.out] at hRf
                clear hRd hKd
                have hfin : Hid (Mgd ltE F xa xm xb H) := hide1 (mgd_two (s := s) (e := e) (by omega) (by omega) (by omega) (by omega) hfl.out hfg.out (by rw [hmide.out]; exact hG.out) (by rw [hmide.out]; exact hH.out))
                clear hG hH hfl hfg
                go_wp2
                all_goals (go_end0; exact ⟨rfl, H, hfin.out, hRf.out, hKf.out⟩)
            · have ic30 : ¬ (xa : Int) < (s : Int) := by have := he.out; omega
              by_cases c4 : e < xb
              · have ic40 : (e : Int) < (xb : Int) := by have := he.out; omega
                have hRb : Hid (Rw wr B g n cap (rot F s xm e)) := hide1 (by rw [rot_id F (by omega)]; exact hR.out)
                have hKb := hK
                clear hR hK
                obtain ⟨G, hGe⟩ : ∃ G, Hid (G = rot F s xm e) := ⟨_, hide1 rfl⟩
                have hG : Hid (Mgd ltE (rot F s xm e) xa s mid G) := hide1 (by rw [hGe.out]; exact mgd_no (by omega))
                have hRd : Hid (Rw wr B g n cap G) := hide1 (by rw [hGe.out]; exact hRb.out)
                have hKd := hKb
                clear hRb hKb
                obtain ⟨H, hHe⟩ : ∃ H, Hid (H = G) := ⟨_, hide1 rfl⟩
                have hH : Hid (Mgd ltE G mid e xb H) := hide1 (by rw [hHe.out]; exact mgd_no (by omega))
                have hRf := hRd
                have hKf := hKd
                rw [← hHe.out] at hRf
                clear hRd hKd
                have hfin : Hid (Mgd ltE F xa xm xb H) := hide1 (mgd_two (s := s) (e := e) (by omega) (by omega) (by omega) (by omega) hfl.out hfg.out (by rw [hmide.out]; exact hG.out) (by rw [hmide.out]; exact hH.out))
                clear hG hH hfl hfg
                go_wp2
                all_goals (go_end0; exact ⟨rfl, H, hfin.out, hRf.out, hKf.out⟩)
              · have ic40 : ¬ (e : Int) < (xb : Int) := by have := he.out; omega
                have hRb : Hid (Rw wr B g n cap (rot F s xm e)) := hide1 (by rw [rot_id F (by omega)]; exact hR.out)
                have hKb := hK
                clear hR hK
                obtain ⟨G, hGe⟩ : ∃ G, Hid (G = rot F s xm e) := ⟨_, hide1 rfl⟩
                have hG : Hid (Mgd ltE (rot F s xm e) xa s mid G) := hide1 (by rw [hGe.out]; exact mgd_no (by omega))
                have hRd : Hid (Rw wr B g n cap G) := hide1 (by rw [hGe.out]; exact hRb.out)
                have hKd := hKb
                clear hRb hKb
                obtain ⟨H, hHe⟩ : ∃ H, Hid (H = G) := ⟨_, hide1 rfl⟩
                have hH : Hid (Mgd ltE G mid e xb H) := hide1 (by rw [hHe.out]; exact mgd_no (by omega))
                have hRf := hRd
                have hKf := hKd
                rw [← hHe.out] at hRf
                clear hRd hKd
                have hfin : Hid (Mgd ltE F xa xm xb H) := hide1 (mgd_two (s := s) (e := e) (by omega) (by omega) (by omega) (by omega) hfl.out hfg.out (by rw [hmide.out]; exact hG.out) (by rw [hmide.out]; exact hH.out))
                clear hG hH hfl hfg
                go_wp2
                all_goals (go_end0; exact ⟨rfl, H, hfin.out, hRf.out, hKf.out⟩)
          · have ic20 : ¬ (s : Int) < (mid : Int) := by have := he.out; omega
            have ic21 : ¬ (xm : Int) < (e : Int) := by have := he.out; omega
            by_cases c3 : xa < s
            · have ic30 : (xa : Int) < (s : Int) := by have := he.out; omega
              by_cases c4 : e < xb
              · have ic40 : (e : Int) < (xb : Int) := by have := he.out; omega
                have hRb : Hid (Rw wr B g n cap (rot F s xm e)) := hide1 (by rw [rot_id F (by omega)]; exact hR.out)
                have hKb := hK
                clear hR hK
                obtain ⟨G, hGe⟩ : ∃ G, Hid (G = rot F s xm e) := ⟨_, hide1 rfl⟩
                have hG : Hid (Mgd ltE (rot F s xm e) xa s mid G) := hide1 (by rw [hGe.out]; exact mgd_no (by omega))
                have hRd : Hid (Rw wr B g n cap G) := hide1 (by rw [hGe.out]; exact hRb.out)
                have hKd := hKb
                clear hRb hKb
                obtain ⟨H, hHe⟩ : ∃ H, Hid (H = G) := ⟨_, hide1 rfl⟩
                have hH : Hid (Mgd ltE G mid e xb H) := hide1 (by rw [hHe.out]; exact mgd_no (by omega))
                have hRf := hRd
                have hKf := hKd
                rw [← hHe.out] at hRf
                clear hRd hKd
                have hfin : Hid (Mgd ltE F xa xm xb H) := hide1 (mgd_two (s := s) (e := e) (by omega) (by omega) (by omega) (by omega) hfl.out hfg.out (by rw [hmide.out]; exact hG.out) (by rw [hmide.out]; exact hH.out))
                clear hG hH hfl hfg
                go_wp2
                all_goals (go_end0; exact ⟨rfl, H, hfin.out, hRf.out, hKf.out⟩)
              · have ic40 : ¬ (e : Int) < (xb : Int) := by have := he.out; omega
                have hRb : Hid (Rw wr B g n cap (rot F s xm e)) := hide1 (by rw [rot_id F (by omega)]; exact hR.out)
                have hKb := hK
                clear hR hK
                obtain ⟨G, hGe⟩ : ∃ G, Hid (G = rot F s xm e) := ⟨_, hide1 rfl⟩
                have hG : Hid (Mgd ltE (rot F s xm e) xa s mid G) := hide1 (by rw [hGe.out]; exact mgd_no (by omega))
                have hRd : Hid (Rw wr B g n cap G) := hide1 (by rw [hGe.out]; exact hRb.out)
                have hKd := hKb
                clear hRb hKb
                obtain ⟨H, hHe⟩ : ∃ H, Hid (H = G) := ⟨_, hide1 rfl⟩
                have hH : Hid (Mgd ltE G mid e xb H) := hide1 (by rw [hHe.out]; exact mgd_no (by omega))
                have hRf := hRd
                have hKf := hKd
                rw [← hHe.out] at hRf
                clear hRd hKd
                have hfin : Hid (Mgd ltE F xa xm xb H) := hide1 (mgd_two (s := s) (e := e) (by omega) (by omega) (by omega) (by omega) hfl.out hfg.out (by rw [hmide.out]; exact hG.out) (by rw [hmide.out]; exact hH.out))
                clear hG hH hfl hfg
                go_wp2
                all_goals (go_end0; exact ⟨rfl, H, hfin.out, hRf.out, hKf.out⟩)
            · have ic30 : ¬ (xa : Int) < (s : Int) := by have := he.out; omega
              by_cases c4 : e < xb
              · have ic40 : (e : Int) < (xb : Int) := by have := he.out; omega
                have hRb : Hid (Rw wr B g n cap (rot F s xm e)) := hide1 (by rw [rot_id F (by omega)]; exact hR.out)
                have hKb := hK
                clear hR hK
                obtain ⟨G, hGe⟩ : ∃ G, Hid (G = rot F s xm e) := ⟨_, hide1 rfl⟩
                have hG : Hid (Mgd ltE (rot F s xm e) xa s mid G) := hide1 (by rw [hGe.out]; exact mgd_no (by omega))
                have hRd : Hid (Rw wr B g n cap G) := hide1 (by rw [hGe.out]; exact hRb.out)
                have hKd := hKb
                clear hRb hKb
                obtain ⟨H, hHe⟩ : ∃ H, Hid (H = G) := ⟨_, hide1 rfl⟩
                have hH : Hid (Mgd ltE G mid e xb H) := hide1 (by rw [hHe.out]; exact mgd_no (by omega))
                have hRf := hRd
                have hKf := hKd
                rw [← hHe.out] at hRf
                clear hRd hKd
                have hfin : Hid (Mgd ltE F xa xm xb H) := hide1 (mgd_two (s := s) (e := e) (by omega) (by omega) (by omega) (by omega) hfl.out hfg.out (by rw [hmide.out]; exact hG.out) (by rw [hmide.out]; exact hH.out))
                clear hG hH hfl hfg
                go_wp2
                all_goals (go_end0; exact ⟨rfl, H, hfin.out, hRf.out, hKf.out⟩)
              · have ic40 : ¬ (e : Int) < (xb : Int) := by have := he.out; omega
                have hRb : Hid (Rw wr B g n cap (rot F s xm e)) := hide1 (by rw [rot_id F (by omega)]; exact hR.out)
                have hKb := hK
                clear hR hK
                obtain ⟨G, hGe⟩ : ∃ G, Hid (G = rot F s xm e) := ⟨_, hide1 rfl⟩
                have hG : Hid (Mgd ltE (rot F s xm e) xa s mid G) := hide1 (by rw [hGe.out]; exact mgd_no (by omega))
                have hRd : Hid (Rw wr B g n cap G) := hide1 (by rw [hGe.out]; exact hRb.out)
                have hKd := hKb
                clear hRb hKb
                obtain ⟨H, hHe⟩ : ∃ H, Hid (H = G) := ⟨_, hide1 rfl⟩
                have hH : Hid (Mgd ltE G mid e xb H) := hide1 (by rw [hHe.out]; exact mgd_no (by omega))
                have hRf := hRd
                have hKf := hKd
                rw [← hHe.out] at hRf
                clear hRd hKd
                have hfin : Hid (Mgd ltE F xa xm xb H) := hide1 (mgd_two (s := s) (e := e) (by omega) (by omega) (by omega) (by omega) hfl.out hfg.out (by rw [hmide.out]; exact hG.out) (by rw [hmide.out]; exact hH.out))
                clear hG hH hfl hfg
                go_wp2
                all_goals (go_end0; exact ⟨rfl, H, hfin.out, hRf.out, hKf.out⟩)
  · obtain ⟨s0, r0, hs0⟩ : ∃ s0 r0, (mid < xm ∧ s0 = mid + xm - xb ∧ r0 = mid) ∨ (xm ≤ mid ∧ s0 = xa ∧ r0 = xm) := ⟨xa, xm, .inr ⟨Nat.le_of_not_lt hmm, rfl, rfl⟩⟩
    have hN : xa ≤ s0 ∧ r0 ≤ xm ∧ r0 ≤ mid ∧ s0 ≤ r0 ∧ mid + xm ≤ xb + s0 := by have := hmid.out; omega
    obtain ⟨n1, n2, n3, n4, n5⟩ := hN
    have z0 : ((xa : Nat) : Int) = (s0 : Int) := by omega
    have z1 : ((xm : Nat) : Int) = (r0 : Int) := by omega
    have z2 : (0 : Int) = 0 := by have := hmid.out; omega
    replace hs0 := hide1 hs0
    replace z0 := hide1 z0
    replace z1 := hide1 z1
    replace z2 := hide1 z2
    go_wp2_with fail
    go_loopw [20, 21] (fun s20 s21 wr => ∃ i jj : Nat, s20 = .int .i64 (i : Nat) ∧ s21 = .int .i64 (jj : Nat) ∧ s0 ≤ i ∧ i ≤ jj ∧ jj ≤ r0 ∧ Hid (∀ c, s0 ≤ c → c < i → ltE (F (pp - c)) (F c) = false) ∧ Hid (∀ c, jj ≤ c → c < r0 → ltE (F (pp - c)) (F c) = true) ∧ Hid (Rw wr B g n cap F) ∧ Hid (Kg g w wr)) (fun s20 s21 _ => (intOf s21).toNat - (intOf s20).toNat)
    case atStart => exact ⟨s0, r0, by have := z0.out; have := z2.out; first | rfl | (congr 1; omega) | congr 1, by have := z1.out; first | rfl | (congr 1; omega) | congr 1, Nat.le_refl _, n4, Nat.le_refl _, hide1 fun c h1 h2 => by omega, hide1 fun c h1 h2 => by omega, h0, hide1 (Kg.refl g w)⟩
    case round =>
      obtain ⟨i, jj, rfl, rfl, hi1, hi2, hi3, hlo, hhi, hR, hK⟩ := hrel
      by_cases hlt : i < jj
      · obtain ⟨cc, hccd⟩ : ∃ cc, cc = (i + jj) / 2 := ⟨_, rfl⟩
        have hq := hpp.out
        have hccp : cc ≤ pp := by omega
        have hcm : cc < xm := by omega
        have hmq : xm ≤ pp - cc := by omega
        have hqb : pp - cc < xb := by omega
        have hcn : cc < n := by omega
        have hqn : pp - cc < n := by omega
        replace hq := hide1 hq
        have hok1 : EpOk (F (pp - cc)) := hR.out.ok _ hqn
        have hok2 : EpOk (F cc) := hR.out.ok cc hcn
        have hsb := fun w => sub_n (a := pp) (b := cc) hccp (by omega) w
        obtain ⟨R, hRd⟩ : ∃ R, Hid (R = ltE (F (pp - cc)) (F cc)) := ⟨_, hide1 rfl⟩
        have hzr : ∀ w, (binOp .lss 3 (.int .i64 (zc (F (pp - cc)) (F cc))) (.int .i64 0)).run Tryz.prog w = .ok (.bool R) w := fun w => by rw [hRd.out]; exact zc_lt _ _ w
        have hw1 := half_e (i := i) (j := jj) (by omega)
        go_upto_region 35 with fail
        have ecc : ((i : Int) + (jj : Int)) / 2 = ((cc : Nat) : Int) := by omega
        have epp : (mid : Int) + (xm : Int) - 1 = ((pp : Nat) : Int) := by have := hq.out; omega
        rw [ecc, epp]
        replace ecc := hide1 ecc
        replace epp := hide1 epp
        replace hccd := hide1 hccd
        refine wp_flowG 13 _ _ (by kernel_rfl) (by kernel_rfl) (by kernel_rfl) rfl (fun j v _ => v = ([(.func (.func 95) #[] #[]), (.slice (some ⟨g, 0, none⟩) n cap), (.int .i64 (pp : Nat)), (.int .i64 (cc : Nat)), (.int .i64 (pp - cc : Nat)), (.pointer (some ⟨g, (pp - cc) * 6, none⟩)), (.agg (cl (F (pp - cc))).toArray), (.slice (some ⟨g, 0, none⟩) n cap), (.int .i64 (cc : Nat)), (.pointer (some ⟨g, cc * 6, none⟩)), (.agg (cl (F cc)).toArray), (.int .i64 (zc (F (pp - cc)) (F cc))), (.bool R), (.bool (!R))] : List Value).getD j undef) (fun _ _ _ _ h _ => h) ?_ ?_
        · intro j op hop hj a wa hwa hsz hsl hdep K hK
          match j, hop with
          | 0, hop =>
            obtain rfl := Option.some.inj hop
            have p4 : a.tmps.getD 4 undef = (.func (.func 95) #[] #[]) := hsl 4 rfl
            exact .plain rfl (wp_val (w' := wa) (v := (.func (.func 95) #[] #[])) (by simp only [execOp, Act.eval]; rw [show a.tmps.getD 4 undef = _ from p4]; rfl) (hK _ _ (Below.refl _ _) rfl))
          | 1, hop =>
            obtain rfl := Option.some.inj hop
            have p0 : a.tmps.getD 0 undef = (.slice (some ⟨g, 0, none⟩) n cap) := hsl 0 rfl
            exact .plain rfl (wp_val (w' := wa) (v := (.slice (some ⟨g, 0, none⟩) n cap)) (by simp only [execOp, Act.eval]; rw [show a.tmps.getD 0 undef = _ from p0]; rfl) (hK _ _ (Below.refl _ _) rfl))
          | 2, hop =>
            obtain rfl := Option.some.inj hop
            have p22 : a.tmps.getD 22 undef = (.int .i64 (pp : Nat)) := hsl 22 rfl
            exact .plain rfl (wp_val (w' := wa) (v := (.int .i64 (pp : Nat))) (by simp only [execOp, Act.eval]; rw [show a.tmps.getD 22 undef = _ from p22]; rfl) (hK _ _ (Below.refl _ _) rfl))
          | 3, hop =>
            obtain rfl := Option.some.inj hop
            have p23 : a.tmps.getD 23 undef = (.int .i64 (cc : Nat)) := hsl 23 rfl
            exact .plain rfl (wp_val (w' := wa) (v := (.int .i64 (cc : Nat))) (by simp only [execOp, Act.eval]; rw [show a.tmps.getD 23 undef = _ from p23]; rfl) (hK _ _ (Below.refl _ _) rfl))
          | 4, hop =>
            obtain rfl := Option.some.inj hop
            have t2 : a.tmps.getD 160 undef = (.int .i64 (pp : Nat)) := hdep 2 _ 160 rfl rfl ⟨⟨2, .data⟩, by simp, rfl, rfl⟩
            have t3 : a.tmps.getD 161 undef = (.int .i64 (cc : Nat)) := hdep 3 _ 161 rfl rfl ⟨⟨3, .data⟩, by simp, rfl, rfl⟩
            exact .plain rfl (wp_val (w' := wa) (v := (.int .i64 (pp - cc : Nat))) (by simp only [execOp, Act.eval]; rw [show a.tmps.getD 160 undef = _ from t2, show a.tmps.getD 161 undef = _ from t3]; simp only [Sem.run_bind, eqg_sub, hsb, Result.andThen_ok, Sem.run_pure]) (hK _ _ (Below.refl _ _) rfl))
          | 5, hop =>
            obtain rfl := Option.some.inj hop
            have t1 : a.tmps.getD 159 undef = (.slice (some ⟨g, 0, none⟩) n cap) := hdep 1 _ 159 rfl rfl ⟨⟨1, .data⟩, by simp, rfl, rfl⟩
            have t4 : a.tmps.getD 162 undef = (.int .i64 (pp - cc : Nat)) := hdep 4 _ 162 rfl rfl ⟨⟨4, .data⟩, by simp, rfl, rfl⟩
            exact .plain rfl (wp_val (w' := wa) (v := (.pointer (some ⟨g, (pp - cc) * 6, none⟩))) (by simp only [execOp, Act.eval]; rw [show a.tmps.getD 159 undef = _ from t1, show a.tmps.getD 162 undef = _ from t4]; simp only [Sem.run_bind, ix_sP hqn, Result.andThen_ok, Sem.run_pure]) (hK _ _ (Below.refl _ _) rfl))
          | 6, hop =>
            obtain rfl := Option.some.inj hop
            have t5 : a.tmps.getD 163 undef = (.pointer (some ⟨g, (pp - cc) * 6, none⟩)) := hdep 5 _ 163 rfl rfl ⟨⟨5, .data⟩, by simp, rfl, rfl⟩
            exact .plain rfl (wp_val (w' := wa) (v := (.agg (cl (F (pp - cc))).toArray)) (by simp only [execOp, Act.eval]; rw [show a.tmps.getD 163 undef = _ from t5]; simp only [Sem.run_bind, (hR.out.later hwa).load hqn, Result.andThen_ok, Sem.run_pure]) (hK _ _ (Below.refl _ _) rfl))
          | 7, hop =>
            obtain rfl := Option.some.inj hop
            have p0 : a.tmps.getD 0 undef = (.slice (some ⟨g, 0, none⟩) n cap) := hsl 0 rfl
            exact .plain rfl (wp_val (w' := wa) (v := (.slice (some ⟨g, 0, none⟩) n cap)) (by simp only [execOp, Act.eval]; rw [show a.tmps.getD 0 undef = _ from p0]; rfl) (hK _ _ (Below.refl _ _) rfl))
          | 8, hop =>
            obtain rfl := Option.some.inj hop
            have p23 : a.tmps.getD 23 undef = (.int .i64 (cc : Nat)) := hsl 23 rfl
            exact .plain rfl (wp_val (w' := wa) (v := (.int .i64 (cc : Nat))) (by simp only [execOp, Act.eval]; rw [show a.tmps.getD 23 undef = _ from p23]; rfl) (hK _ _ (Below.refl _ _) rfl))
          | 9, hop =>
            obtain rfl := Option.some.inj hop
            have t7 : a.tmps.getD 165 undef = (.slice (some ⟨g, 0, none⟩) n cap) := hdep 7 _ 165 rfl rfl ⟨⟨7, .data⟩, by simp, rfl, rfl⟩
            have t8 : a.tmps.getD 166 undef = (.int .i64 (cc : Nat)) := hdep 8 _ 166 rfl rfl ⟨⟨8, .data⟩, by simp, rfl, rfl⟩
            exact .plain rfl (wp_val (w' := wa) (v := (.pointer (some ⟨g, cc * 6, none⟩))) (by simp only [execOp, Act.eval]; rw [show a.tmps.getD 165 undef = _ from t7, show a.tmps.getD 166 undef = _ from t8]; simp only [Sem.run_bind, ix_sP hcn, Result.andThen_ok, Sem.run_pure]) (hK _ _ (Below.refl _ _) rfl))
          | 10, hop =>
            obtain rfl := Option.some.inj hop
            have t9 : a.tmps.getD 167 undef = (.pointer (some ⟨g, cc * 6, none⟩)) := hdep 9 _ 167 rfl rfl ⟨⟨9, .data⟩, by simp, rfl, rfl⟩
            exact .plain rfl (wp_val (w' := wa) (v := (.agg (cl (F cc)).toArray)) (by simp only [execOp, Act.eval]; rw [show a.tmps.getD 167 undef = _ from t9]; simp only [Sem.run_bind, (hR.out.later hwa).load hcn, Result.andThen_ok, Sem.run_pure]) (hK _ _ (Below.refl _ _) rfl))
          | 11, hop =>
            obtain rfl := Option.some.inj hop
            have t6 : a.tmps.getD 164 undef = (.agg (cl (F (pp - cc))).toArray) := hdep 6 _ 164 rfl rfl ⟨⟨6, .data⟩, by simp, rfl, rfl⟩
            have t10 : a.tmps.getD 168 undef = (.agg (cl (F cc)).toArray) := hdep 10 _ 168 rfl rfl ⟨⟨10, .data⟩, by simp, rfl, rfl⟩
            have t0 : a.tmps.getD 158 undef = (.func (.func 95) #[] #[]) := hdep 0 _ 158 rfl rfl ⟨⟨0, .data⟩, by simp, rfl, rfl⟩
            refine .plain rfl (oper_anyv (J := fun r w' => r = (.int .i64 (zc (F (pp - cc)) (F cc))) ∧ Below wa.heap.size wa w') 95 (.tmp 158) #[.tmp 164, .tmp 168] _ rfl (show a.tmps.getD 158 undef = _ from t0) #[(.agg (cl (F (pp - cc))).toArray), (.agg (cl (F cc)).toArray)] (by simp only [List.map_toArray, List.map_cons, List.map_nil, Act.eval]; rw [show a.tmps.getD 164 undef = _ from t6, show a.tmps.getD 168 undef = _ from t10]) (fun w => by kernel_rfl) ((cmp_d hok1 hok2).mono fun e w' h => ⟨_, h.1, rfl, h.2⟩) ?_)
            rintro r w' ⟨rfl, hb⟩
            exact hK _ _ hb rfl
          | 12, hop =>
            obtain rfl := Option.some.inj hop
            have t11 : a.tmps.getD 169 undef = (.int .i64 (zc (F (pp - cc)) (F cc))) := hdep 11 _ 169 rfl rfl ⟨⟨11, .data⟩, by simp, rfl, rfl⟩
            exact .plain rfl (wp_val (w' := wa) (v := (.bool R)) (by simp only [execOp, Act.eval]; rw [show a.tmps.getD 169 undef = _ from t11]; simp only [Sem.run_bind, eqg_lss, hzr, Result.andThen_ok, Sem.run_pure]) (hK _ _ (Below.refl _ _) rfl))
          | 13, _ => exact absurd rfl hj
          | _ + 14, hop => exact absurd hop (by simp)
        · intro a wa hwa hdf hsz hsl hrr K hK
          have t12 : a.tmps.getD 170 undef = (.bool R) := hrr 12 _ 170 rfl (by decide) rfl
          refine .plain rfl (wp_val (w' := wa) (v := (.bool (!R))) (by simp only [execOp, Act.eval]; rw [show a.tmps.getD 170 undef = _ from t12]; kernel_rfl) ?_)
          refine hK _ wa ?_
          have hact := act_puts hdf hsz hsl
          clear hrr hsl hdf hsz hK t12
          simp only [List.filterMap_cons, List.filterMap_nil, List.foldl_cons, List.foldl_nil] at hact
          rw [hact]
          generalize a.tmps.getD 158 undef = y158
          generalize a.tmps.getD 159 undef = y159
          generalize a.tmps.getD 160 undef = y160
          generalize a.tmps.getD 161 undef = y161
          generalize a.tmps.getD 162 undef = y162
          generalize a.tmps.getD 163 undef = y163
          generalize a.tmps.getD 164 undef = y164
          generalize a.tmps.getD 165 undef = y165
          generalize a.tmps.getD 166 undef = y166
          generalize a.tmps.getD 167 undef = y167
          generalize a.tmps.getD 168 undef = y168
          generalize a.tmps.getD 169 undef = y169
          generalize a.tmps.getD 170 undef = y170
          clear hact
          simp only [Act.put, List.setIfInBounds_toArray, List.set_cons_succ, List.set_cons_zero]
          rw [← epp.out]
          have hR4 := hide1 (hR.out.later hwa)
          have hK4 : Hid (Kg g w wa) := hide1 (hK.out.trans (Kg.ofB hwa))
          clear hzr hwa hR hK hsb
          have hd := hccd.out
          cases R with
          | false =>
            have hlo2 : Hid (∀ c, s0 ≤ c → c < cc + 1 → ltE (F (pp - c)) (F c) = false) := hide1 fun c h1 h2 => cut_lo hr1.out hr2.out hRd.out.symm (by omega) (by omega) hcm hmq (by have := hq.out; omega) hccp
            replace hd := hide1 hd
            clear hlo hRd
            go_wp2
            go_roundw
            case rel => exact ⟨cc + 1, jj, by first | rfl | (congr 1; omega) | go_num, rfl, by have := hd.out; omega, by have := hd.out; omega, hi3, hlo2, hhi, hR4, hK4⟩
            case measure => have := hd.out; simp [intOf]; omega
          | true =>
            have hhi2 : Hid (∀ c, cc ≤ c → c < r0 → ltE (F (pp - c)) (F c) = true) := hide1 fun c h1 h2 => cut_hi hr1.out hr2.out hRd.out.symm (by omega) h1 (by omega) (by have := hq.out; omega) hqb (by have := hq.out; omega)
            replace hd := hide1 hd
            clear hhi hRd
            go_wp2
            go_roundw
            case rel => exact ⟨i, cc, rfl, by first | rfl | (congr 1; omega) | go_num, hi1, by have := hd.out; omega, by have := hd.out; omega, hlo, hhi2, hR4, hK4⟩
            case measure => have := hd.out; simp [intOf]; omega
      · obtain ⟨s, hsi⟩ : ∃ s, s = i := ⟨_, rfl⟩
        obtain rfl : i = jj := by omega
        subst hsi
        obtain ⟨e, he⟩ : ∃ e, e = mid + xm - s := ⟨_, rfl⟩
        have hf : Fnd F xa xm xb mid s := fnd_of hr1.out hr2.out hm1 hm2 hmid.out (by omega) hs0.out hi1 hi3 (by have := hlo.out; rwa [hpp.out] at this) (by have := hhi.out; rwa [hpp.out] at this)
        obtain ⟨f1, f2, f3, f4, hfl, hfg⟩ := hf
        rw [← he] at f4 hfl hfg
        have f5 : xm ≤ e := by omega
        have f6 : mid ≤ e := by omega
        have hmide : Hid (s + (e - xm) = mid) := hide1 (by omega)
        have ee : (mid : Int) + (xm : Int) - (s : Int) = ((e : Nat) : Int) := by omega
        replace he := hide1 he
        replace hfl := hide1 hfl
        replace hfg := hide1 hfg
        clear hlo hhi
        replace ee := hide1 ee
        go_upto_region 39 with fail
        rw [ee.out]
        by_cases c1 : s < xm
        · have ic10 : (s : Int) < (xm : Int) := by have := he.out; omega
          have ic11 : (mid : Int) < (e : Int) := by have := he.out; omega
          by_cases c2 : s < mid
          · have ic20 : (s : Int) < (mid : Int) := by have := he.out; omega
            have ic21 : (xm : Int) < (e : Int) := by have := he.out; omega
            by_cases c3 : xa < s
            · have ic30 : (xa : Int) < (s : Int) := by have := he.out; omega
              by_cases c4 : e < xb
              · have ic40 : (e : Int) < (xb : Int) := by have := he.out; omega
                go_wp2_with fail
                refine (rot_d (xa := s) (xm := xm) (xb := e) hR.out c1 (by omega) (by omega) hn).mono ?_
                rintro er w1 ⟨rfl, hRa, hO1⟩
                have hRb := hide1 hRa
                have hKb := hide1 (hK.out.trans hO1.kg)
                clear hRa hO1 hR hK
                have hc := ih (xa := xa) (xm := s) (xb := mid) (by omega) hRb.out c3 c2 (by omega) hn (rot_r1 hr1.out (by omega)) (hmide.out ▸ rot_r2 (s := s) hr2.out (by omega) (by omega))
                go_wp2_with fail
                refine hc.mono ?_
                rintro er w2 ⟨rfl, G, hG0, hRc, hKc⟩
                have hG := hide1 hG0
                have hRd := hide1 hRc
                have hKd := hide1 (hKb.out.trans hKc)
                clear hc hG0 hRc hKc hRb hKb
                have hr5 : Rs ltE G mid e := fun i j g1 g2 g3 => by
                  rw [hG.out.1 i (by omega), hG.out.1 j (by omega)]
                  exact (hmide.out ▸ rot_r3 (s := s) (e := e) hr1.out (by omega) (by omega) (by omega) : Rs ltE (rot F s xm e) mid e) i j g1 g2 g3
                have hr6 : Rs ltE G e xb := fun i j g1 g2 g3 => by
                  rw [hG.out.1 i (by omega), hG.out.1 j (by omega)]
                  exact (rot_r4 (s := s) (e := e) hr2.out (by omega) (by omega)) i j g1 g2 g3
                have hc := ih (xa := mid) (xm := e) (xb := xb) (by omega) hRd.out (by omega) c4 hbn hn hr5 hr6
                clear hr5 hr6
                go_wp2_with fail
                refine hc.mono ?_
                rintro er w3 ⟨rfl, H, hH0, hRe, hKe⟩
                have hH := hide1 hH0
                have hRf := hide1 hRe
                have hKf := hide1 (hKd.out.trans hKe)
                clear hc hH0 hRe hKe hRd hKd
                have hfin : Hid (Mgd ltE F xa xm xb H) := hide1 (mgd_two (s := s) (e := e) (by omega) (by omega) (by omega) (by omega) hfl.out hfg.out (by rw [hmide.out]; exact hG.out) (by rw [hmide.out]; exact hH.out))
                clear hG hH hfl hfg
                go_wp2
                all_goals (go_end0; exact ⟨rfl, H, hfin.out, hRf.out, hKf.out⟩)
              · have ic40 : ¬ (e : Int) < (xb : Int) := by have := he.out; omega
                go_wp2_with fail
                refine (rot_d (xa := s) (xm := xm) (xb := e) hR.out c1 (by omega) (by omega) hn).mono ?_
                rintro er w1 ⟨rfl, hRa, hO1⟩
                have hRb := hide1 hRa
                have hKb := hide1 (hK.out.trans hO1.kg)
                clear hRa hO1 hR hK
                have hc := ih (xa := xa) (xm := s) (xb := mid) (by omega) hRb.out c3 c2 (by omega) hn (rot_r1 hr1.out (by omega)) (hmide.out ▸ rot_r2 (s := s) hr2.out (by omega) (by omega))
                go_wp2_with fail
                refine hc.mono ?_
                rintro er w2 ⟨rfl, G, hG0, hRc, hKc⟩
                have hG := hide1 hG0
                have hRd := hide1 hRc
                have hKd := hide1 (hKb.out.trans hKc)
                clear hc hG0 hRc hKc hRb hKb
                obtain ⟨H, hHe⟩ : ∃ H, Hid (H = G) := ⟨_, hide1 rfl⟩
                have hH : Hid (Mgd ltE G mid e xb H) := hide1 (by rw [hHe.out]; exact mgd_no (by omega))
                have hRf := hRd
                have hKf := hKd
                rw [← hHe.out] at hRf
                clear hRd hKd
                have hfin : Hid (Mgd ltE F xa xm xb H) := hide1 (mgd_two (s := s) (e := e) (by omega) (by omega) (by omega) (by omega) hfl.out hfg.out (by rw [hmide.out]; exact hG.out) (by rw [hmide.out]; exact hH.out))
                clear hG hH hfl hfg
                go_wp2
                all_goals (go_end0; exact ⟨rfl, H, hfin.out, hRf.out, hKf.out⟩)
            · have ic30 : ¬ (xa : Int) < (s : Int) := by have := he.out; omega
              by_cases c4 : e < xb
              · have ic40 : (e : Int) < (xb : Int) := by have := he.out; omega
                go_wp2_with fail
                refine (rot_d (xa := s) (xm := xm) (xb := e) hR.out c1 (by omega) (by omega) hn).mono ?_
                rintro er w1 ⟨rfl, hRa, hO1⟩
                have hRb := hide1 hRa
                have hKb := hide1 (hK.out.trans hO1.kg)
                clear hRa hO1 hR hK
                obtain ⟨G, hGe⟩ : ∃ G, Hid (G = rot F s xm e) := ⟨_, hide1 rfl⟩
                have hG : Hid (Mgd ltE (rot F s xm e) xa s mid G) := hide1 (by rw [hGe.out]; exact mgd_no (by omega))
                have hRd : Hid (Rw w1 B g n cap G) := hide1 (by rw [hGe.out]; exact hRb.out)
                have hKd := hKb
                clear hRb hKb
                have hr5 : Rs ltE G mid e := fun i j g1 g2 g3 => by
                  rw [hG.out.1 i (by omega), hG.out.1 j (by omega)]
                  exact (hmide.out ▸ rot_r3 (s := s) (e := e) hr1.out (by omega) (by omega) (by omega) : Rs ltE (rot F s xm e) mid e) i j g1 g2 g3
                have hr6 : Rs ltE G e xb := fun i j g1 g2 g3 => by
                  rw [hG.out.1 i (by omega), hG.out.1 j (by omega)]
                  exact (rot_r4 (s := s) (e := e) hr2.out (by omega) (by omega)) i j g1 g2 g3
                have hc := ih (xa := mid) (xm := e) (xb := xb) (by omega) hRd.out (by omega) c4 hbn hn hr5 hr6
                clear hr5 hr6
                go_wp2_with fail
                refine hc.mono ?_
                rintro er w3 ⟨rfl, H, hH0, hRe, hKe⟩
                have hH := hide1 hH0
                have hRf := hide1 hRe
                have hKf := hide1 (hKd.out.trans hKe)
                clear hc hH0 hRe hKe hRd hKd
                have hfin : Hid (Mgd ltE F xa xm xb H) := hide1 (mgd_two (s := s) (e := e) (by omega) (by omega) (by omega) (by omega) hfl.out hfg.out (by rw [hmide.out]; exact hG.out) (by rw [hmide.out]; exact hH.out))
                clear hG hH hfl hfg
                go_wp2
                all_goals (go_end0; exact ⟨rfl, H, hfin.out, hRf.out, hKf.out⟩)
              · have ic40 : ¬ (e : Int) < (xb : Int) := by have := he.out; omega
                go_wp2_with fail
                refine (rot_d (xa := s) (xm := xm) (xb := e) hR.out c1 (by omega) (by omega) hn).mono ?_
                rintro er w1 ⟨rfl, hRa, hO1⟩
                have hRb := hide1 hRa
                have hKb := hide1 (hK.out.trans hO1.kg)
                clear hRa hO1 hR hK
                obtain ⟨G, hGe⟩ : ∃ G, Hid (G = rot F s xm e) := ⟨_, hide1 rfl⟩
                have hG : Hid (Mgd ltE (rot F s xm e) xa s mid G) := hide1 (by rw [hGe.out]; exact mgd_no (by omega))
                have hRd : Hid (Rw w1 B g n cap G) := hide1 (by rw [hGe.out]; exact hRb.out)
                have hKd := hKb
                clear hRb hKb
                obtain ⟨H, hHe⟩ : ∃ H, Hid (H = G) := ⟨_, hide1 rfl⟩
                have hH : Hid (Mgd ltE G mid e xb H) := hide1 (by rw [hHe.out]; exact mgd_no (by omega))
                have hRf := hRd
                have hKf := hKd
                rw [← hHe.out] at hRf
                clear hRd hKd
                have hfin : Hid (Mgd ltE F xa xm xb H) := hide1 (mgd_two (s := s) (e := e) (by omega) (by omega) (by omega) (by omega) hfl.out hfg.out (by rw [hmide.out]; exact hG.out) (by rw [hmide.out]; exact hH.out))
                clear hG hH hfl hfg
                go_wp2
                all_goals (go_end0; exact ⟨rfl, H, hfin.out, hRf.out, hKf.out⟩)
          · have ic20 : ¬ (s : Int) < (mid : Int) := by have := he.out; omega
            have ic21 : ¬ (xm : Int) < (e : Int) := by have := he.out; omega
            by_cases c3 : xa < s
            · have ic30 : (xa : Int) < (s : Int) := by have := he.out; omega
              by_cases c4 : e < xb
              · have ic40 : (e : Int) < (xb : Int) := by have := he.out; omega
                have hRb : Hid (Rw wr B g n cap (rot F s xm e)) := hide1 (by rw [rot_id F (by omega)]; exact hR.out)
                have hKb := hK
                clear hR hK
                obtain ⟨G, hGe⟩ : ∃ G, Hid (G = rot F s xm e) := ⟨_, hide1 rfl⟩
                have hG : Hid (Mgd ltE (rot F s xm e) xa s mid G) := hide1 (by rw [hGe.out]; exact mgd_no (by omega))
                have hRd : Hid (Rw wr B g n cap G) := hide1 (by rw [hGe.out]; exact hRb.out)
                have hKd := hKb
                clear hRb hKb
                have hr5 : Rs ltE G mid e := fun i j g1 g2 g3 => by
                  rw [hG.out.1 i (by omega), hG.out.1 j (by omega)]
                  exact (hmide.out ▸ rot_r3 (s := s) (e := e) hr1.out (by omega) (by omega) (by omega) : Rs ltE (rot F s xm e) mid e) i j g1 g2 g3
                have hr6 : Rs ltE G e xb := fun i j g1 g2 g3 => by
                  rw [hG.out.1 i (by omega), hG.out.1 j (by omega)]
                  exact (rot_r4 (s := s) (e := e) hr2.out (by omega) (by omega)) i j g1 g2 g3
                have hc := ih (xa := mid) (xm := e) (xb := xb) (by omega) hRd.out (by omega) c4 hbn hn hr5 hr6
                clear hr5 hr6
                go_wp2_with fail
                refine hc.mono ?_
                rintro er w3 ⟨rfl, H, hH0, hRe, hKe⟩
                have hH := hide1 hH0
                have hRf := hide1 hRe
                have hKf := hide1 (hKd.out.trans hKe)
                clear hc hH0 hRe hKe hRd hKd
                have hfin : Hid (Mgd ltE F xa xm xb H) := hide1 (mgd_two (s := s) (e := e) (by omega) (by omega) (by omega) (by omega) hfl.out hfg.out (by rw [hmide.out]; exact hG.out) (by rw [hmide.out]; exact hH.out))
                clear hG hH hfl hfg
                go_wp2
                all_goals (go_end0; exact ⟨rfl, H, hfin.out, hRf.out, hKf.out⟩)
              · have ic40 : ¬ (e : Int) < (xb : Int) := by have := he.out; omega
                have hRb : Hid (Rw wr B g n cap (rot F s xm e)) := hide1 (by rw [rot_id F (by omega)]; exact hR.out)
                have hKb := hK
                clear hR hK
                obtain ⟨G, hGe⟩ : ∃ G, Hid (G = rot F s xm e) := ⟨_, hide1 rfl⟩
                have hG : Hid (Mgd ltE (rot F s xm e) xa s mid G) := hide1 (by rw [hGe.out]; exact mgd_no (by omega))
                have hRd : Hid (Rw wr B g n cap G) := hide1 (by rw [hGe.out]; exact hRb.out)
                have hKd := hKb
                clear hRb hKb
                obtain ⟨H, hHe⟩ : ∃ H, Hid (H = G) := ⟨_, hide1 rfl⟩
                have hH : Hid (Mgd ltE G mid e xb H) := hide1 (by rw [hHe.out]; exact mgd_no (by omega))
                have hRf := hRd
                have hKf := hKd
                rw [← hHe.out] at hRf
                clear hRd hKd
                have hfin : Hid (Mgd ltE F xa xm xb H) := hide1 (mgd_two (s := s) (e := e) (by omega) (by omega) (by omega) (by omega) hfl.out hfg.out (by rw [hmide.out]; exact hG.out) (by rw [hmide.out]; exact hH.out))
                clear hG hH hfl hfg
                go_wp2
                all_goals (go_end0; exact ⟨rfl, H, hfin.out, hRf.out, hKf.out⟩)
            · have ic30 : ¬ (xa : Int) < (s : Int) := by have := he.out; omega
              by_cases c4 : e < xb
              · have ic40 : (e : Int) < (xb : Int) := by have := he.out; omega
                have hRb : Hid (Rw wr B g n cap (rot F s xm e)) := hide1 (by rw [rot_id F (by omega)]; exact hR.out)
                have hKb := hK
                clear hR hK
                obtain ⟨G, hGe⟩ : ∃ G, Hid (G = rot F s xm e) := ⟨_, hide1 rfl⟩
                have hG : Hid (Mgd ltE (rot F s xm e) xa s mid G) := hide1 (by rw [hGe.out]; exact mgd_no (by omega))
                have hRd : Hid (Rw wr B g n cap G) := hide1 (by rw [hGe.out]; exact hRb.out)
                have hKd := hKb
                clear hRb hKb
                have hr5 : Rs ltE G mid e := fun i j g1 g2 g3 => by
                  rw [hG.out.1 i (by omega), hG.out.1 j (by omega)]
                  exact (hmide.out ▸ rot_r3 (s := s) (e := e) hr1.out (by omega) (by omega) (by omega) : Rs ltE (rot F s xm e) mid e) i j g1 g2 g3
                have hr6 : Rs ltE G e xb := fun i j g1 g2 g3 => by
                  rw [hG.out.1 i (by omega), hG.out.1 j (by omega)]
                  exact (rot_r4 (s := s) (e := e) hr2.out (by omega) (by omega)) i j g1 g2 g3
                have hc := ih (xa := mid) (xm := e) (xb := xb) (by omega) hRd.out (by omega) c4 hbn hn hr5 hr6
                clear hr5 hr6
                go_wp2_with fail
                refine hc.mono ?_
                rintro er w3 ⟨rfl, H, hH0, hRe, hKe⟩
                have hH := hide1 hH0
                have hRf := hide1 hRe
                have hKf := hide1 (hKd.out.trans hKe)
                clear hc hH0 hRe hKe hRd hKd
                have hfin : Hid (Mgd ltE F xa xm xb H) := hide1 (mgd_two (s := s) (e := e) (by omega) (by omega) (by omega) (by omega) hfl.out hfg.out (by rw [hmide.out]; exact hG.out) (by rw [hmide.out]; exact hH.out))
                clear hG hH hfl hfg
                go_wp2
                all_goals (go_end0; exact ⟨rfl, H, hfin.out, hRf.out, hKf.out⟩)
              · have ic40 : ¬ (e : Int) < (xb : Int) := by have := he.out; omega
                have hRb : Hid (Rw wr B g n cap (rot F s xm e)) := hide1 (by rw [rot_id F (by omega)]; exact hR.out)
                have hKb := hK
                clear hR hK
                obtain ⟨G, hGe⟩ : ∃ G, Hid (G = rot F s xm e) := ⟨_, hide1 rfl⟩
                have hG : Hid (Mgd ltE (rot F s xm e) xa s mid G) := hide1 (by rw [hGe.out]; exact mgd_no (by omega))
                have hRd : Hid (Rw wr B g n cap G) := hide1 (by rw [hGe.out]; exact hRb.out)
                have hKd := hKb
                clear hRb hKb
                obtain ⟨H, hHe⟩ : ∃ H, Hid (H = G) := ⟨_, hide1 rfl⟩
                have hH : Hid (Mgd ltE G mid e xb H) := hide1 (by rw [hHe.out]; exact mgd_no (by omega))
                have hRf := hRd
                have hKf := hKd
                rw [← hHe.out] at hRf
                clear hRd hKd
                have hfin : Hid (Mgd ltE F xa xm xb H) := hide1 (mgd_two (s := s) (e := e) (by omega) (by omega) (by omega) (by omega) hfl.out hfg.out (by rw [hmide.out]; exact hG.out) (by rw [hmide.out]; exact hH.out))
                clear hG hH hfl hfg
                go_wp2
                all_goals (go_end0; exact ⟨rfl, H, hfin.out, hRf.out, hKf.out⟩)
        · have ic10 : ¬ (s : Int) < (xm : Int) := by have := he.out; omega
          have ic11 : ¬ (mid : Int) < (e : Int) := by have := he.out; omega
          by_cases c2 : s < mid
          · have ic20 : (s : Int) < (mid : Int) := by have := he.out; omega
            have ic21 : (xm : Int) < (e : Int) := by have := he.out; omega
            by_cases c3 : xa < s
            · have ic30 : (xa : Int) < (s : Int) := by have := he.out; omega
              by_cases c4 : e < xb
              · have ic40 : (e : Int) < (xb : Int) := by have := he.out; omega
                have hRb : Hid (Rw wr B g n cap (rot F s xm e)) := hide1 (by rw [rot_id F (by omega)]; exact hR.out)
                have hKb := hK
                clear hR hK
                have hc := ih (xa := xa) (xm := s) (xb := mid) (by omega) hRb.out c3 c2 (by omega) hn (rot_r1 hr1.out (by omega)) (hmide.out ▸ rot_r2 (s := s) hr2.out (by omega) (by omega))
                go_wp2_with fail
                refine hc.mono ?_
                rintro er w2 ⟨rfl, G, hG0, hRc, hKc⟩
                have hG := hide1 hG0
                have hRd := hide1 hRc
                have hKd := hide1 (hKb.out.trans hKc)
                clear hc hG0 hRc hKc hRb hKb
                obtain ⟨H, hHe⟩ : ∃ H, Hid (H = G) := ⟨_, hide1 rfl⟩
                have hH : Hid (Mgd ltE G mid e xb H) := hide1 (by rw [hHe.out]; exact mgd_no (by omega))
                have hRf := hRd
                have hKf := hKd
                rw [← hHe.out] at hRf
                clear hRd hKd
                have hfin : Hid (Mgd ltE F xa xm xb H) := hide1 (mgd_two (s := s) (e := e) (by omega) (by omega) (by omega) (by omega) hfl.out hfg.out (by rw [hmide.out]; exact hG.out) (by rw [hmide.out]; exact hH.out))
                clear hG hH hfl hfg
                go_wp2
                all_goals (go_end0; exact ⟨rfl, H, hfin.out, hRf.out, hKf.out⟩)
              · have ic40 : ¬ (e : Int) < (xb : Int) := by have := he.out; omega
                have hRb : Hid (Rw wr B g n cap (rot F s xm e)) := hide1 (by rw [rot_id F (by omega)]; exact hR.out)
                have hKb := hK
                clear hR hK
                have hc := ih (xa := xa) (xm := s) (xb := mid) (by omega) hRb.out c3 c2 (by omega) hn (rot_r1 hr1.out (by omega)) (hmide.out ▸ rot_r2 (s := s) hr2.out (by omega) (by omega))
                go_wp2_with fail
                refine hc.mono ?_
                rintro er w2 ⟨rfl, G, hG0, hRc, hKc⟩
                have hG := hide1 hG0
                have hRd := hide1 hRc
                have hKd := hide1 (hKb.out.trans hKc)
                clear hc hG0 hRc hKc hRb hKb
                obtain ⟨H, hHe⟩ : ∃ H, Hid (H = G) := ⟨_, hide1 rfl⟩
                have hH : Hid (Mgd ltE G mid e xb H) := hide1 (by rw [hHe.out]; exact mgd_no (by omega))
                have hRf := hRd
                have hKf := hKd
                rw [← hHe.out] at hRf
                clear hRd hKd
                have hfin : Hid (Mgd ltE F xa xm xb H) := hide1 (mgd_two (s := s) (e := e) (by omega) (by omega) (by omega) (by omega) hfl.out hfg.out (by rw [hmide.out]; exact hG.out) (by rw [hmide.out]; exact hH.out))
                clear hG hH hfl hfg
                go_wp2
                all_goals (go_end0; exact ⟨rfl, H, hfin.out, hRf.out, hKf.out⟩)
            · have ic30 : ¬ (xa : Int) < (s : Int) := by have := he.out; omega
              by_cases c4 : e < xb
              · have ic40 : (e : Int) < (xb : Int) := by have := he.out; omega
                have hRb : Hid (Rw wr B g n cap (rot F s xm e)) := hide1 (by rw [rot_id F (by omega)]; exact hR.out)
                have hKb := hK
                clear hR hK
                obtain ⟨G, hGe⟩ : ∃ G, Hid (G = rot F s xm e) := ⟨_, hide1 rfl⟩
                have hG : Hid (Mgd ltE (rot F s xm e) xa s mid G) := hide1 (by rw [hGe.out]; exact mgd_no (by omega))
                have hRd : Hid (Rw wr B g n cap G) := hide1 (by rw [hGe.out]; exact hRb.out)
                have hKd := hKb
                clear hRb hKb
                obtain ⟨H, hHe⟩ : ∃ H, Hid (H = G) := ⟨_, hide1 rfl⟩
                have hH : Hid (Mgd ltE G mid e xb H) := hide1 (by rw [hHe.out]; exact mgd_no (by omega))
                have hRf := hRd
                have hKf := hKd
                rw [← hHe.out] at hRf
                clear hRd hKd
                have hfin : Hid (Mgd ltE F xa xm xb H) := hide1 (mgd_two (s := s) (e := e) (by omega) (by omega) (by omega) (by omega) hfl.out hfg.out (by rw [hmide.out]; exact hG.out) (by rw [hmide.out]; exact hH.out))
                clear hG hH hfl hfg
                go_wp2
                all_goals (go_end0; exact ⟨rfl, H, hfin.out, hRf.out, hKf.out⟩)
              · have ic40 : ¬ (e : Int) < (xb : Int) := by have := he.out; omega
                have hRb : Hid (Rw wr B g n cap (rot F s xm e)) := hide1 (by rw [rot_id F (by omega)]; exact hR.out)
                have hKb := hK
                clear hR hK
                obtain ⟨G, hGe⟩ : ∃ G, Hid (G = rot F s xm e) := ⟨_, hide1 rfl⟩
                have hG : Hid (Mgd ltE (rot F s xm e) xa s mid G) := hide1 (by rw [hGe.out]; exact mgd_no (by omega))
                have hRd : Hid (Rw wr B g n cap G) := hide1 (by rw [hGe.out]; exact hRb.out)
                have hKd := hKb
                clear hRb hKb
                obtain ⟨H, hHe⟩ : ∃ H, Hid (H = G) := ⟨_, hide1 rfl⟩
                have hH : Hid (Mgd ltE G mid e xb H) := hide1 (by rw [hHe.out]; exact mgd_no (by omega))
                have hRf := hRd
                have hKf := hKd
                rw [← hHe.out] at hRf
                clear hRd hKd
                have hfin : Hid (Mgd ltE F xa xm xb H) := hide1 (mgd_two (s := s) (e := e) (by omega) (by omega) (by omega) (by omega) hfl.out hfg.out (by rw [hmide.out]; exact hG.out) (by rw [hmide.out]; exact hH.out))
                clear hG hH hfl hfg
                go_wp2
                all_goals (go_end0; exact ⟨rfl, H, hfin.out, hRf.out, hKf.out⟩)
          · have ic20 : ¬ (s : Int) < (mid : Int) := by have := he.out; omega
            have ic21 : ¬ (xm : Int) < (e : Int) := by have := he.out; omega
            by_cases c3 : xa < s
            · have ic30 : (xa : Int) < (s : Int) := by have := he.out; omega
              by_cases c4 : e < xb
              · have ic40 : (e : Int) < (xb : Int) := by have := he.out; omega
                have hRb : Hid (Rw wr B g n cap (rot F s xm e)) := hide1 (by rw [rot_id F (by omega)]; exact hR.out)
                have hKb := hK
                clear hR hK
                obtain ⟨G, hGe⟩ : ∃ G, Hid (G = rot F s xm e) := ⟨_, hide1 rfl⟩
                have hG : Hid (Mgd ltE (rot F s xm e) xa s mid G) := hide1 (by rw [hGe.out]; exact mgd_no (by omega))
                have hRd : Hid (Rw wr B g n cap G) := hide1 (by rw [hGe.out]; exact hRb.out)
                have hKd := hKb
                clear hRb hKb
                obtain ⟨H, hHe⟩ : ∃ H, Hid (H = G) := ⟨_, hide1 rfl⟩
                have hH : Hid (Mgd ltE G mid e xb H) := hide1 (by rw [hHe.out]; exact mgd_no (by omega))
                have hRf := hRd
                have hKf := hKd
                rw [← hHe.out] at hRf
                clear hRd hKd
                have hfin : Hid (Mgd ltE F xa xm xb H) := hide1 (mgd_two (s := s) (e := e) (by omega) (by omega) (by omega) (by omega) hfl.out hfg.out (by rw [hmide.out]; exact hG.out) (by rw [hmide.out]; exact hH.out))
                clear hG hH hfl hfg
                go_wp2
                all_goals (go_end0; exact ⟨rfl, H, hfin.out, hRf.out, hKf.out⟩)
              · have ic40 : ¬ (e : Int) < (xb : Int) := by have := he.out; omega
                have hRb : Hid (Rw wr B g n cap (rot F s xm e)) := hide1 (by rw [rot_id F (by omega)]; exact hR.out)
                have hKb := hK
                clear hR hK
                obtain ⟨G, hGe⟩ : ∃ G, Hid (G = rot F s xm e) := ⟨_, hide1 rfl⟩
                have hG : Hid (Mgd ltE (rot F s xm e) xa s mid G) := hide1 (by rw [hGe.out]; exact mgd_no (by omega))
                have hRd : Hid (Rw wr B g n cap G) := hide1 (by rw [hGe.out]; exact hRb.out)
                have hKd := hKb
                clear hRb hKb
                obtain ⟨H, hHe⟩ : ∃ H, Hid (H = G) := ⟨_, hide1 rfl⟩
                have hH : Hid (Mgd ltE G mid e xb H) := hide1 (by rw [hHe.out]; exact mgd_no (by omega))
                have hRf := hRd
                have hKf := hKd
                rw [← hHe.out] at hRf
                clear hRd hKd
                have hfin : Hid (Mgd ltE F xa xm xb H) := hide1 (mgd_two (s := s) (e := e) (by omega) (by omega) (by omega) (by omega) hfl.out hfg.out (by rw [hmide.out]; exact hG.out) (by rw [hmide.out]; exact hH.out))
                clear hG hH hfl hfg
                go_wp2
                all_goals (go_end0; exact ⟨rfl, H, hfin.out, hRf.out, hKf.out⟩)
            · have ic30 : ¬ (xa : Int) < (s : Int) := by have := he.out; omega
              by_cases c4 : e < xb
              · have ic40 : (e : Int) < (xb : Int) := by have := he.out; omega
                have hRb : Hid (Rw wr B g n cap (rot F s xm e)) := hide1 (by rw [rot_id F (by omega)]; exact hR.out)
                have hKb := hK
                clear hR hK
                obtain ⟨G, hGe⟩ : ∃ G, Hid (G = rot F s xm e) := ⟨_, hide1 rfl⟩
                have hG : Hid (Mgd ltE (rot F s xm e) xa s mid G) := hide1 (by rw [hGe.out]; exact mgd_no (by omega))
                have hRd : Hid (Rw wr B g n cap G) := hide1 (by rw [hGe.out]; exact hRb.out)
                have hKd := hKb
                clear hRb hKb
                obtain ⟨H, hHe⟩ : ∃ H, Hid (H = G) := ⟨_, hide1 rfl⟩
                have hH : Hid (Mgd ltE G mid e xb H) := hide1 (by rw [hHe.out]; exact mgd_no (by omega))
                have hRf := hRd
                have hKf := hKd
                rw [← hHe.out] at hRf
                clear hRd hKd
                have hfin : Hid (Mgd ltE F xa xm xb H) := hide1 (mgd_two (s := s) (e := e) (by omega) (by omega) (by omega) (by omega) hfl.out hfg.out (by rw [hmide.out]; exact hG.out) (by rw [hmide.out]; exact hH.out))
                clear hG hH hfl hfg
                go_wp2
                all_goals (go_end0; exact ⟨rfl, H, hfin.out, hRf.out, hKf.out⟩)
              · have ic40 : ¬ (e : Int) < (xb : Int) := by have := he.out; omega
                have hRb : Hid (Rw wr B g n cap (rot F s xm e)) := hide1 (by rw [rot_id F (by omega)]; exact hR.out)
                have hKb := hK
                clear hR hK
                obtain ⟨G, hGe⟩ : ∃ G, Hid (G = rot F s xm e) := ⟨_, hide1 rfl⟩
                have hG : Hid (Mgd ltE (rot F s xm e) xa s mid G) := hide1 (by rw [hGe.out]; exact mgd_no (by omega))
                have hRd : Hid (Rw wr B g n cap G) := hide1 (by rw [hGe.out]; exact hRb.out)
                have hKd := hKb
                clear hRb hKb
                obtain ⟨H, hHe⟩ : ∃ H, Hid (H = G) := ⟨_, hide1 rfl⟩
                have hH : Hid (Mgd ltE G mid e xb H) := hide1 (by rw [hHe.out]; exact mgd_no (by omega))
                have hRf := hRd
                have hKf := hKd
                rw [← hHe.out] at hRf
                clear hRd hKd
                have hfin : Hid (Mgd ltE F xa xm xb H) := hide1 (mgd_two (s := s) (e := e) (by omega) (by omega) (by omega) (by omega) hfl.out hfg.out (by rw [hmide.out]; exact hG.out) (by rw [hmide.out]; exact hH.out))
                clear hG hH hfl hfg
                go_wp2
                all_goals (go_end0; exact ⟨rfl, H, hfin.out, hRf.out, hKf.out⟩)
theorem sym_d (N : Nat) : Sym N := by
  induction N with
  | zero =>
    unfold Sym
    intro w B g n cap xa xm xb F hM h h1 h2
    omega
  | succ N ih =>
    unfold Sym
    intro w B g n cap xa xm xb F hM h h1 h2 hbn hn hr1 hr2
    by_cases e1 : xm = xa + 1
    · exact sym_l h e1 h2 hbn hn hr2
    · by_cases e2 : xb = xm + 1
      · exact sym_r h (by omega) e2 hbn hn hr1
      · exact sym_g ih hM h (by omega) (by omega) hbn hn hr1 hr2
section
variable {F G H : Nat → Ep} {bs n x : Nat}
inductive Bq (bs n : Nat) (F G : Nat → Ep) : Nat → Prop
  | last {x : Nat} : x ≤ n → n < x + bs → sg G x (n - x) = ss ltE (sg F x (n - x)) → Bq bs n F G x
  | cons {x : Nat} : x + bs ≤ n → sg G x bs = ss ltE (sg F x bs) → Bq bs n F G (x + bs) → Bq bs n F G x
theorem Bq.congr (h : Bq bs n F G x) (e : ∀ k, x ≤ k → k < n → H k = G k) : Bq bs n F H x := by
  induction h with
  | last h1 h2 h3 => exact .last h1 h2 (by rw [← h3]; exact sg_congr fun i hi => e _ (by omega) (by omega))
  | cons h1 h2 h3 ih => exact .cons h1 (by rw [← h2]; exact sg_congr fun i hi => e _ (by omega) (by omega)) (ih fun k k1 k2 => e k (by omega) k2)
theorem Bq.whole (h : Bq bs n F G 0) (hb : n ≤ bs) : sg G 0 n = ss ltE (sg F 0 n) := by
  cases h with
  | last h1 h2 h3 => exact h3
  | cons h1 h2 h3 => rw [show n = bs by omega]; exact h2
theorem Bq.le (h : Bq bs n F G x) : x ≤ n := by cases h <;> omega
def Ahd (bs n : Nat) (F G : Nat → Ep) (a : Nat) : Prop := ∀ H : Nat → Ep, (∀ k, k < a → H k = G k) → Bq bs n F H a → Bq bs n F H 0
theorem Ahd.start : Ahd bs n F G 0 := fun _ _ h => h
theorem Ahd.step {a : Nat} (h : Ahd bs n F G a) (hab : a + bs ≤ n) (e : ∀ k, k < a → H k = G k) (hs : sg H a bs = ss ltE (sg F a bs)) : Ahd bs n F H (a + bs) := fun K hK hb =>
  h K (fun k hk => (hK k (by omega)).trans (e k hk)) (.cons hab (by rw [← hs]; exact sg_congr fun i hi => hK _ (by omega)) hb)
theorem Ahd.fin {a : Nat} (h : Ahd bs n F G a) (e : ∀ k, k < a → H k = G k) (hb : Bq bs n F H a) : Bq bs n F H 0 := h H e hb
theorem sorted_rs {a b : Nat} (h : sg G a (b - a) = ss ltE (sg F a (b - a))) : Rs ltE G a b := by
  rw [rs_sg, h]; exact ss_ri ok_ltE _
theorem Bq.two {a : Nat} (h : Bq bs n F G a) (hb : 1 ≤ bs) (h2 : a + 2 * bs ≤ n) : sg G a bs = ss ltE (sg F a bs) ∧ sg G (a + bs) bs = ss ltE (sg F (a + bs) bs) ∧ Bq bs n F G (a + 2 * bs) := by
  cases h with
  | last h1 h2 h3 => omega
  | cons h1 h3 h4 =>
    cases h4 with
    | last g1 g2 g3 => omega
    | cons g1 g2 g3 => exact ⟨h3, g2, by rw [show a + 2 * bs = a + bs + bs by omega]; exact g3⟩
theorem Bq.tail {a : Nat} (h : Bq bs n F G a) (h1 : a + bs < n) (h2 : n < a + 2 * bs) : sg G a bs = ss ltE (sg F a bs) ∧ sg G (a + bs) (n - (a + bs)) = ss ltE (sg F (a + bs) (n - (a + bs))) := by
  cases h with
  | last h1 h2 h3 => omega
  | cons g1 g3 g4 =>
    cases g4 with
    | last g1 g2 g5 => exact ⟨g3, g5⟩
    | cons g1 g2 g5 => omega
theorem Bq.one {a : Nat} (h : Bq bs n F G a) (h1 : n ≤ a + bs) (hb : 1 ≤ bs) : Bq (2 * bs) n F G a := by
  cases h with
  | last h1 h2 h3 => exact .last h1 (by omega) h3
  | cons g1 g3 g4 => exact .last (by omega) (by omega) (by rw [show n - a = bs by omega]; exact g3)
theorem two_std {a m b : Nat} (h1 : a ≤ m) (h2 : m ≤ b) (g1 : sg G a (m - a) = ss ltE (sg F a (m - a))) (g2 : sg G m (b - m) = ss ltE (sg F m (b - m))) (hm : Mgd ltE G a m b H) : sg H a (b - a) = ss ltE (sg F a (b - a)) := by
  rw [hm.2, g1, g2, sg_cut F h1 h2, ss_app ok_ltE]
end
set_option maxHeartbeats 16000000 in
set_option maxRecDepth 100000 in
theorem stb_d {w : World} {B g n cap : Nat} {F : Nat → Ep} (h : Rw w B g n cap F) (hn : n ≤ 2000000) :
    Calls Tryz.prog 142 #[.slice (some ⟨g, 0, none⟩) n cap, .int .i64 (n : Nat), .func (.func 95) #[] #[]] w fun e w' => e = .returned (.tuple #[]) ∧ ∃ G, Rw w' B g n cap G ∧ sg G 0 n = ss ltE (sg F 0 n) ∧ Kg g w w' := by
  have h0 := hide1 h
  clear h
  go_enter Tryz.func142, Tryz.ntmps142
  go_wp2_with fail
  go_loopw [7, 8] (fun s7 s8 wr => ∃ (a : Nat) (G : Nat → Ep), s7 = .int .i64 (a : Nat) ∧ s8 = .int .i64 (a + 20 : Nat) ∧ a ≤ n ∧ Hid (Ahd 20 n F G a) ∧ Hid (∀ k, a ≤ k → G k = F k) ∧ Hid (Rw wr B g n cap G) ∧ Hid (Kg g w wr)) (fun s7 _ _ => n - (intOf s7).toNat)
  case atStart => exact ⟨0, F, rfl, rfl, Nat.zero_le _, hide1 Ahd.start, hide1 fun _ _ => rfl, h0, hide1 (Kg.refl g w)⟩
  case round =>
    obtain ⟨xa, G, rfl, rfl, ha, hA, hF, hR, hK⟩ := hrel
    have e20 : ((xa + 20 : Nat) : Int) = (xa : Int) + 20 := by omega
    by_cases hlt : xa + 20 ≤ n
    · have hc := ins_d (xa := xa) (xb := xa + 20) hR.out hlt ha hn
      have ht : ((xa + 20 : Nat) : Int) ≤ (n : Int) := by omega
      replace e20 := hide1 e20
      go_wp2_with fail
      refine hc.mono ?_
      rintro er w1 ⟨rfl, H, hs, hR1, hK1⟩
      have hA2 : Hid (Ahd 20 n F H (xa + 20)) := hide1 (hA.out.step hlt (fun k hk => hs.1 k (by omega)) (by
        have := hs.2
        rw [show xa + 20 - xa = 20 by omega] at this
        rw [this]
        congr 1
        exact sg_congr fun i hi => hF.out _ (by omega)))
      have hF2 : Hid (∀ k, xa + 20 ≤ k → H k = F k) := hide1 fun k hk => (hs.1 k (by omega)).trans (hF.out k (by omega))
      have hR2 := hide1 hR1
      have hK2 : Hid (Kg g w w1) := hide1 (hK.out.trans hK1)
      clear hc hs hR1 hK1 hR hK hA hF
      go_wp2
      go_roundw
      case rel => exact ⟨xa + 20, H, by first | rfl | (congr 1; omega) | go_num, by first | rfl | (congr 1; omega) | go_num, hlt, hA2, hF2, hR2, hK2⟩
      case measure => simp [intOf]; omega
    · have hc := ins_d (xa := xa) (xb := n) hR.out (Nat.le_refl n) ha hn
      have ht : ¬ ((xa + 20 : Nat) : Int) ≤ (n : Int) := by omega
      replace e20 := hide1 e20
      go_wp2_with fail
      refine hc.mono ?_
      rintro er w1 ⟨rfl, H, hs, hR1, hK1⟩
      have hB : Hid (Bq 20 n F H 0) := hide1 (hA.out.fin (fun k hk => hs.1 k (by omega)) (.last ha (by omega) (by
        rw [hs.2]
        congr 1
        exact sg_congr fun i hi => hF.out _ (by omega))))
      have hR2 := hide1 hR1
      have hK2 : Hid (Kg g w w1) := hide1 (hK.out.trans hK1)
      clear hc hs hR1 hK1 hR hK hA hF
      go_wp2_with fail
      go_loopw [6] (fun s6 wr => ∃ (bs : Nat) (G : Nat → Ep), s6 = .int .i64 (bs : Nat) ∧ 1 ≤ bs ∧ bs ≤ 4000000 ∧ Hid (Bq bs n F G 0) ∧ Hid (Rw wr B g n cap G) ∧ Hid (Kg g w wr)) (fun s6 _ => n - (intOf s6).toNat)
      case atStart => exact ⟨20, H, rfl, by omega, by omega, hB, hR2, hK2⟩
      case round =>
        obtain ⟨bs, G, rfl, hb1, hb2, hB, hR, hK⟩ := hrel
        by_cases hbn : bs < n
        · have e2 : Hid (((2 * bs : Nat) : Int) = 2 * (bs : Int)) := hide1 (by omega)
          go_wp2_with fail
          go_loopw [7, 8] (fun s7 s8 wr => ∃ (a : Nat) (G : Nat → Ep), s7 = .int .i64 (a : Nat) ∧ s8 = .int .i64 (a + 2 * bs : Nat) ∧ a ≤ n ∧ Hid (Ahd (2 * bs) n F G a) ∧ Hid (Bq bs n F G a) ∧ Hid (Rw wr B g n cap G) ∧ Hid (Kg g w wr)) (fun s7 _ _ => n - (intOf s7).toNat)
          case atStart => exact ⟨0, G, rfl, by first | rfl | (congr 1; omega) | go_num, Nat.zero_le _, hide1 Ahd.start, hB, hR, hK⟩
          case round =>
            obtain ⟨xa, L, rfl, rfl, ha, hA, hBk, hR3, hK3⟩ := hrel
            by_cases hlt2 : xa + 2 * bs ≤ n
            · obtain ⟨g1, g2, g3⟩ := hBk.out.two hb1 hlt2
              have hc := sym_d (xa + 2 * bs - xa) (xa := xa) (xm := xa + bs) (xb := xa + 2 * bs) (Nat.le_refl _) hR3.out (by omega) (by omega) hlt2 hn (sorted_rs (F := F) (by rw [show xa + bs - xa = bs by omega]; exact g1)) (sorted_rs (F := F) (by rw [show xa + 2 * bs - (xa + bs) = bs by omega]; exact g2))
              have em : ((xa + bs : Nat) : Int) = (xa : Int) + (bs : Int) := by omega
              rw [em] at hc
              have ht2 : ((xa + 2 * bs : Nat) : Int) ≤ (n : Int) := by omega
              replace em := hide1 em
              replace g1 := hide1 g1
              replace g2 := hide1 g2
              replace g3 := hide1 g3
              go_wp2_with fail
              refine hc.mono ?_
              rintro er w4 ⟨rfl, M, hM, hR4, hK4⟩
              have hA3 : Hid (Ahd (2 * bs) n F M (xa + 2 * bs)) := hide1 (hA.out.step hlt2 (fun k hk => hM.1 k (by omega)) (by
                have := two_std (F := F) (G := L) (H := M) (a := xa) (m := xa + bs) (b := xa + 2 * bs) (by omega) (by omega) (by rw [show xa + bs - xa = bs by omega]; exact g1.out) (by rw [show xa + 2 * bs - (xa + bs) = bs by omega]; exact g2.out) hM
                rwa [show xa + 2 * bs - xa = 2 * bs by omega] at this))
              have hB3 : Hid (Bq bs n F M (xa + 2 * bs)) := hide1 (g3.out.congr fun k k1 k2 => hM.1 k (by omega))
              have hR5 := hide1 hR4
              have hK5 : Hid (Kg g w w4) := hide1 (hK3.out.trans hK4)
              clear hc hM hR4 hK4 hR3 hK3 hA hBk g1 g2 g3
              go_wp2
              go_roundw
              case rel => exact ⟨xa + 2 * bs, M, by first | rfl | (congr 1; omega) | go_num, by first | rfl | (congr 1; omega) | go_num, hlt2, hA3, hB3, hR5, hK5⟩
              case measure => simp [intOf]; omega
            · have ht2 : ¬ ((xa + 2 * bs : Nat) : Int) ≤ (n : Int) := by omega
              by_cases hm : xa + bs < n
              · obtain ⟨g1, g2⟩ := hBk.out.tail hm (by omega)
                have hc := sym_d (n - xa) (xa := xa) (xm := xa + bs) (xb := n) (Nat.le_refl _) hR3.out (by omega) hm (Nat.le_refl n) hn (sorted_rs (F := F) (by rw [show xa + bs - xa = bs by omega]; exact g1)) (sorted_rs (F := F) g2)
                have em : ((xa + bs : Nat) : Int) = (xa : Int) + (bs : Int) := by omega
                rw [em] at hc
                have hm2 : (xa : Int) + (bs : Int) < (n : Int) := by omega
                replace em := hide1 em
                replace g1 := hide1 g1
                replace g2 := hide1 g2
                go_wp2_with fail
                refine hc.mono ?_
                rintro er w4 ⟨rfl, M, hM, hR4, hK4⟩
                have hB3 : Hid (Bq (2 * bs) n F M 0) := hide1 (hA.out.fin (fun k hk => hM.1 k (by omega)) (.last ha (by omega) (two_std (F := F) (G := L) (H := M) (a := xa) (m := xa + bs) (b := n) (by omega) (by omega) (by rw [show xa + bs - xa = bs by omega]; exact g1.out) g2.out hM)))
                have hR5 := hide1 hR4
                have hK5 : Hid (Kg g w w4) := hide1 (hK3.out.trans hK4)
                clear hc hM hR4 hK4 hR3 hK3 hA hBk g1 g2
                go_wp2
                go_roundw
                case rel => exact ⟨2 * bs, M, by first | rfl | (congr 1; omega) | go_num, by omega, by omega, hB3, hR5, hK5⟩
                case measure => simp [intOf]; omega
              · have hm2 : ¬ (xa : Int) + (bs : Int) < (n : Int) := by omega
                have hB3 : Hid (Bq (2 * bs) n F L 0) := hide1 (hA.out.fin (fun _ _ => rfl) (hBk.out.one (by omega) hb1))
                clear hA hBk
                go_wp2
                go_roundw
                case rel => exact ⟨2 * bs, L, by first | rfl | (congr 1; omega) | go_num, by omega, by omega, hB3, hR3, hK3⟩
                case measure => simp [intOf]; omega
        · have hfin : Hid (sg G 0 n = ss ltE (sg F 0 n)) := hide1 (hB.out.whole (by omega))
          clear hB
          go_wp2
          go_end0
          exact ⟨rfl, G, hR.out, hfin.out, hK.out⟩
set_option maxRecDepth 100000 in
theorem sort_d {w : World} {B g n cap : Nat} {F : Nat → Ep} (h : Rw w B g n cap F) (hn : n ≤ 2000000) :
    Calls Tryz.prog 94 #[.slice (some ⟨g, 0, none⟩) n cap, .func (.func 95) #[] #[]] w fun e w' => e = .returned (.tuple #[]) ∧ ∃ G, Rw w' B g n cap G ∧ sg G 0 n = ss ltE (sg F 0 n) ∧ Kg g w w' := by
  have hc := stb_d h hn
  clear h
  go_enter Tryz.func94, Tryz.ntmps94
  go_wp2_with fail
  refine hc.mono ?_
  rintro e w1 ⟨rfl, G, h1, h2, h3⟩
  replace h2 := hide1 h2
  go_wp2
  go_end0
  exact ⟨rfl, G, h1, h2.out, h3⟩
section
variable {α β : Type}
inductive A2 (R : α → β → Prop) : List α → List β → Prop
  | nil : A2 R [] []
  | cons {a : α} {b : β} {l : List α} {m : List β} : R a b → A2 R l m → A2 R (a :: l) (b :: m)
variable {R : α → β → Prop} {l : List α} {m : List β}
theorem A2.app {l' : List α} {m' : List β} (h : A2 R l m) (h' : A2 R l' m') : A2 R (l ++ l') (m ++ m') := by
  induction h with
  | nil => exact h'
  | cons h _ ih => exact .cons h ih
theorem A2.len (h : A2 R l m) : l.length = m.length := by
  induction h with
  | nil => rfl
  | cons _ _ ih => simp [ih]
theorem A2.at (h : A2 R l m) : ∀ {j : Nat} {a : α} {b : β}, l[j]? = some a → m[j]? = some b → R a b := by
  induction h with
  | nil => intro j a b h; simp at h
  | cons h _ ih =>
    intro j a b h1 h2
    cases j with
    | zero => cases h1; cases h2; exact h
    | succ j => exact ih h1 h2
theorem A2.of : ∀ {l : List α} {m : List β}, l.length = m.length → (∀ (j : Nat) (a : α) (b : β), l[j]? = some a → m[j]? = some b → R a b) → A2 R l m
  | [], [], _, _ => .nil
  | [], _ :: _, h, _ => by simp at h
  | _ :: _, [], h, _ => by simp at h
  | a :: l, b :: m, h, hr => .cons (hr 0 a b rfl rfl) (A2.of (by simpa using h) fun j x y h1 h2 => hr (j + 1) x y h1 h2)
theorem A2.tw {p : α → Bool} {q : β → Bool} (hp : ∀ a b, R a b → p a = q b) (h : A2 R l m) : A2 R (l.takeWhile p) (m.takeWhile q) ∧ A2 R (l.dropWhile p) (m.dropWhile q) := by
  induction h with
  | nil => exact ⟨.nil, .nil⟩
  | @cons a b l m h ht ih =>
    have e := hp a b h
    simp only [List.takeWhile_cons, List.dropWhile_cons, e]
    cases q b with
    | true => exact ⟨.cons h ih.1, ih.2⟩
    | false => exact ⟨.nil, .cons h ht⟩
variable {lt : α → α → Bool} {lt' : β → β → Bool}
theorem mg_rel (hR : ∀ a b a' b', R a b → R a' b' → lt a a' = lt' b b') {A : List α} {A' : List β} (hA : A2 R A A') : ∀ {B : List α} {B' : List β}, A2 R B B' → A2 R (mg lt A B) (mg lt' A' B') := by
  induction hA with
  | nil => intro B B' h; exact h
  | @cons a b l m h _ ih =>
    intro B B' hB
    obtain ⟨h1, h2⟩ := hB.tw (p := (lt · a)) (q := (lt' · b)) fun x y hxy => hR x y a b hxy h
    exact h1.app (.cons h (ih h2))
theorem ss_rel (hR : ∀ a b a' b', R a b → R a' b' → lt a a' = lt' b b') (h : A2 R l m) : A2 R (ss lt l) (ss lt' m) := by
  have : ∀ {P : List α} {P' : List β}, A2 R P P' → A2 R (l.foldl (fun P x => mg lt P [x]) P) (m.foldl (fun P x => mg lt' P [x]) P') := by
    induction h with
    | nil => intro P P' h; exact h
    | cons h _ ih => intro P P' hP; exact ih (mg_rel hR hP (.cons h .nil))
  exact this .nil
end
abbrev Tp := List UInt8 × T
def ltT (q q' : Tp) : Bool := bl q.1 q'.1
def so : Nat → T → T
  | 0, t => t
  | n + 1, .mk k i s l p => .mk k i s (l.map (so n)) (ss ltT (p.map fun q => (q.1, so n q.2)))
def Fp (p : List Tp) (ds : List (List Value)) : Nat → Ep := fun k => ((p.getD k ([], .mk 0 0 [] [] [])).1, (ds.getD k []).tail)
section
variable {B gb vc : Nat} {wr w7 : World} {cp ds : List (List Value)} {p : List Tp}
theorem fp_at (hC : Cp PA 69 6 B p cp (.slice (some ⟨gb, 0, none⟩) cp.length vc) cp.length wr ds) (hp : cp.length = p.length) {j : Nat} (hj : j < cp.length) :
    ∃ q c, p[j]? = some q ∧ ds[j]? = some c ∧ c = cl (Fp p ds j) ∧ (Fp p ds j).1 = q.1 ∧ EpOk (Fp p ds j) ∧ VA (fun k => B ≤ k ∧ k ≠ gb) wr q.2 (Fp p ds j).2 := by
  have hdl := hC.ln
  obtain ⟨q, hq⟩ : ∃ q, p[j]? = some q := ⟨_, List.getElem?_eq_getElem (by omega)⟩
  obtain ⟨c, hc⟩ : ∃ c, ds[j]? = some c := ⟨_, List.getElem?_eq_getElem (by omega)⟩
  obtain ⟨h1, h2⟩ := hC.new j q c hj hq hc
  have h6 := hC.lz c (List.mem_of_getElem? hc)
  have e1 : (p.getD j ([], .mk 0 0 [] [] [])) = q := by rw [List.getD_eq_getElem?_getD, hq]; rfl
  have e2 : ds.getD j [] = c := by rw [List.getD_eq_getElem?_getD, hc]; rfl
  have h2' : VA (fun k => B ≤ k ∧ k ≠ gb) wr q.2 c.tail := h2.frame (fun _ _ _ => rfl) (fun k hk _ => ⟨hk.1, fun e => hk.2 (by rw [e]; rfl)⟩)
  refine ⟨q, c, hq, hc, ?_, by unfold Fp; rw [e1], ?_, ?_⟩
  · unfold Fp cl
    rw [e1, e2]
    cases c with
    | nil => simp at h6
    | cons x r => simp at h1; rw [h1]; rfl
  · unfold Fp EpOk
    rw [e2]
    exact ⟨h2'.len, h2'.one⟩
  · unfold Fp
    rw [e2]
    exact h2'
theorem fp_map (hC : Cp PA 69 6 B p cp (.slice (some ⟨gb, 0, none⟩) cp.length vc) cp.length wr ds) (hp : cp.length = p.length) : (sg (Fp p ds) 0 cp.length).map cl = ds := by
  refine List.ext_getElem? fun j => ?_
  have hdl := hC.ln
  by_cases hj : j < cp.length
  · obtain ⟨q, c, _, h2, h3, _⟩ := fp_at hC hp hj
    rw [List.getElem?_map, sg_at hj, h2, h3, Nat.zero_add]; rfl
  · rw [List.getElem?_eq_none (by rw [List.length_map, sg_len]; omega), List.getElem?_eq_none (by omega)]
theorem fp_rw (hC : Cp PA 69 6 B p cp (.slice (some ⟨gb, 0, none⟩) cp.length vc) cp.length wr ds) (hp : cp.length = p.length) : Rw wr B gb cp.length vc (Fp p ds) := by
  refine ⟨?_, fun k hk => by obtain ⟨q, c, _, _, _, _, h, _⟩ := fp_at hC hp hk; exact h⟩
  rw [fp_map hC hp]
  have := hC.row
  rwa [hC.ln] at this
theorem fp_fin (hC : Cp PA 69 6 B p cp (.slice (some ⟨gb, 0, none⟩) cp.length vc) cp.length wr ds) (hp : cp.length = p.length) {G : Nat → Ep} (hG : sg G 0 cp.length = ss ltE (sg (Fp p ds) 0 cp.length)) :
    A2 (fun (e : Ep) (q : Tp) => e.1 = q.1 ∧ VA (fun k => B ≤ k ∧ k ≠ gb) wr q.2 e.2) (sg G 0 cp.length) (ss ltT p) := by
  rw [hG]
  refine ss_rel (fun a b a' b' h h' => by unfold ltE ltT; rw [h.1, h'.1]) (A2.of (by rw [sg_len, hp]) fun j a b h1 h2 => ?_)
  have hj : j < cp.length := by have := (List.getElem?_eq_some_iff.1 h1).1; rwa [sg_len] at this
  obtain ⟨q, c, g1, _, _, g4, _, g6⟩ := fp_at hC hp hj
  rw [sg_at hj, Nat.zero_add] at h1
  cases h1
  rw [g1] at h2
  cases h2
  exact ⟨g4, g6⟩
end
set_option maxRecDepth 100000 in
theorem ins0_d {w : World} {a : Option Addr} {cap : Nat} {fv : Value} : Calls Tryz.prog 180 #[.slice a 0 cap, .int .i64 0, .int .i64 0, fv] w fun e w' => e = .returned (.tuple #[]) ∧ w' = w := by
  go_enter Tryz.func180, Tryz.ntmps180
  go_wp2_with fail
  go_loopw [8] (fun s8 wo => s8 = .int .i64 1 ∧ wo = w) (fun _ _ => 0)
  case atStart => exact ⟨rfl, rfl⟩
  case round =>
    obtain ⟨rfl, rfl⟩ := hrel
    go_wp2
    go_end0
    exact ⟨rfl, rfl⟩
set_option maxRecDepth 100000 in
theorem stb0_d {w : World} {a : Option Addr} {cap : Nat} {fv : Value} : Calls Tryz.prog 142 #[.slice a 0 cap, .int .i64 0, fv] w fun e w' => e = .returned (.tuple #[]) ∧ w' = w := by
  have hc := ins0_d (w := w) (a := a) (cap := cap) (fv := fv)
  go_enter Tryz.func142, Tryz.ntmps142
  go_wp2_with fail
  go_loopw [7, 8] (fun s7 s8 wr => s7 = .int .i64 0 ∧ s8 = .int .i64 20 ∧ wr = w) (fun _ _ _ => 0)
  case atStart => exact ⟨rfl, rfl, rfl⟩
  case round =>
    obtain ⟨rfl, rfl, rfl⟩ := hrel
    go_wp2_with fail
    refine hc.mono ?_
    rintro e w1 ⟨rfl, rfl⟩
    go_wp2_with fail
    go_loopw [6] (fun s6 wr => s6 = .int .i64 20 ∧ wr = w1) (fun _ _ => 0)
    case atStart => exact ⟨rfl, rfl⟩
    case round =>
      obtain ⟨rfl, rfl⟩ := hrel
      go_wp2
      go_end0
      exact ⟨rfl, rfl⟩
set_option maxRecDepth 100000 in
theorem sort0_d {w : World} {a : Option Addr} {cap : Nat} {fv : Value} : Calls Tryz.prog 94 #[.slice a 0 cap, fv] w fun e w' => e = .returned (.tuple #[]) ∧ w' = w := by
  have hc := stb0_d (w := w) (a := a) (cap := cap) (fv := fv)
  go_enter Tryz.func94, Tryz.ntmps94
  go_wp2_with fail
  refine hc.mono ?_
  rintro e w1 ⟨rfl, rfl⟩
  go_wp2
  go_end0
  exact ⟨rfl, rfl⟩
end Go.Proofs.YtdhmonlhlfkjbaaGreatDoor

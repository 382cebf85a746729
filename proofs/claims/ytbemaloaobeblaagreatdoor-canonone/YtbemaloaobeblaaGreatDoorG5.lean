/- CS6, CS7, CS8: laid together. -/
import Derived.Test.YtbemaloaobeblaaGreatDoorG4
import Derived.Test.YtbemaloaobeblaaGreatDoorG1
namespace Go.Proofs.YtbemaloaobeblaaGreatDoor
open Go.RowKit

theorem eqg_gtr {t : TypeId} {x u : Operand} {a b : Value} {w : World} : (eqGuard .gtr t x u a b).run Tryz.prog w = .ok () w := rfl
theorem eqg_lss {t : TypeId} {x u : Operand} {a b : Value} {w : World} : (eqGuard .lss t x u a b).run Tryz.prog w = .ok () w := rfl
theorem sub1_n {a : Nat} (h : 1 ≤ a) (hb : a ≤ 1000000000) (w : World) : (binOp .sub 3 (.int .i64 (a : Nat)) (.int .i64 1)).run Tryz.prog w = .ok (.int .i64 (a - 1 : Nat)) w := by
  have e : ((a - 1 : Nat) : Int) = (a : Int) - 1 := by omega
  have hwr : IntKind.i64.wrap ((a : Int) - 1) = (a : Int) - 1 := by go_unwrap
  rw [e]
  simp [go_sem, hwr]
theorem gt_n (a b : Nat) (w : World) : (binOp .gtr 3 (.int .i64 (a : Nat)) (.int .i64 (b : Nat))).run Tryz.prog w = .ok (.bool (decide (b < a))) w := by
  simp [go_sem]
theorem lt_z (z : Int) (w : World) : (binOp .lss 3 (.int .i64 z) (.int .i64 0)).run Tryz.prog w = .ok (.bool (decide (z < 0))) w := by
  simp [go_sem]
section
variable {P : Program} {Q : Exit → Act → World → Prop}
theorem oper_anyv {o : Oper} {a : Act} {w : World} {K : Act → World → Prop} (f : FuncId) (x : Operand) (xs : Array Operand) (tys : Array TypeId) (ho : o.op = .call { callee := .value x, args := xs, argTypes := tys }) (hx : a.eval x = .func (.func f) #[] #[]) (vs : Array Value) (hv : xs.map a.eval = vs) (he : ∀ w, (callFunc f vs).run P w = .ok (.enter f vs) w) {J : Value → World → Prop}
    (hc : Calls P f vs w fun e w' => ∃ r, e = .returned r ∧ J r w') (h : ∀ r w', J r w' → K (a.put o.dst r) w') : o.wp P a w K Q := by
  unfold Oper.wp execOp
  simp only [ho, resolve, invoke, Sem.run_bind, hv, hx, Deferred.ofValue, Sem.run_pure, Result.andThen_ok, Array.append_empty, Array.empty_append, he, Oper.upon_enter]
  exact hc.mono (by rintro e w' ⟨r, rfl, hJ⟩; exact h r w' hJ)
end
def zc (e e' : Ep) : Int := Lib.compareBytes e.1 e'.1
theorem zc_lt (e e' : Ep) (w : World) : (binOp .lss 3 (.int .i64 (zc e e')) (.int .i64 0)).run Tryz.prog w = .ok (.bool (ltE e e')) w := by
  rw [lt_z]
  have : decide (zc e e' < 0) = ltE e e' := by
    have h := cmp_bl e.1 e'.1
    unfold zc ltE
    cases hb : bl e.1 e'.1 with
    | true => rw [decide_eq_true (h.2 hb)]
    | false => rw [decide_eq_false (fun q => by rw [h.1 q] at hb; cases hb)]
  rw [this]
set_option maxRecDepth 100000 in
theorem cmp_d {w : World} {e e' : Ep} (h : EpOk e) (h' : EpOk e') : Calls Tryz.prog 73 #[.agg (cl e).toArray, .agg (cl e').toArray] w fun r w' => r = .returned (.int .i64 (zc e e')) ∧ Below w.heap.size w w' := by
  obtain ⟨s, r⟩ := e
  obtain ⟨s', r'⟩ := e'
  obtain ⟨x1, x2, x3, x4, x5, rfl⟩ := five_l h.1
  obtain ⟨y1, y2, y3, y4, y5, rfl⟩ := five_l h'.1
  have hc := fun w => strings_Compare (st s) (st s') w
  have hb : Hid (Below w.heap.size w ((w.alloc (.cells #[.string (st s), x1, x2, x3, x4, x5] 49)).alloc (.cells #[.string (st s'), y1, y2, y3, y4, y5] 49))) := hide1 (((Below.refl _ _).alloc (Nat.le_refl _) _).alloc (by simp) _)
  have hz : Hid ((.returned (.int .i64 (Lib.compareBytes (st s).data.toList (st s').data.toList)) : Ending) = .returned (.int .i64 (zc (s, [x1, x2, x3, x4, x5]) (s', [y1, y2, y3, y4, y5])))) := hide1 rfl
  generalize Lib.compareBytes (st s).data.toList (st s').data.toList = Z at *
  generalize zc (s, [x1, x2, x3, x4, x5]) (s', [y1, y2, y3, y4, y5]) = Z' at *
  show Calls Tryz.prog 73 #[.agg #[.string (st s), x1, x2, x3, x4, x5], .agg #[.string (st s'), y1, y2, y3, y4, y5]] w _
  clear h h'
  go_enter Tryz.func73, Tryz.ntmps73
  go_wp2_with fail
  refine (hc _).mono ?_
  rintro e w1 ⟨rfl, rfl⟩
  go_wp2
  go_ret
  exact ⟨hz.out, hb.out⟩
def ISv (g n cap jj : Nat) (F : Nat → Ep) : Nat → Value → Prop
  | 0, v => v = (.slice (some ⟨g, 0, none⟩) n cap)
  | 1, v => v = (.int .i64 (jj : Nat))
  | 2, v => v = (.slice (some ⟨g, 0, none⟩) n cap)
  | 3, v => v = (.int .i64 (jj : Nat))
  | 4, v => v = (.int .i64 (jj - 1 : Nat))
  | 5, v => v = (.slice (some ⟨g, 0, none⟩) n cap)
  | 6, v => v = (.int .i64 (jj : Nat))
  | 7, v => v = (.int .i64 (jj - 1 : Nat))
  | 8, v => v = .pointer (some ⟨g, (jj - 1) * 6, none⟩)
  | 9, v => v = .agg (cl (F (jj - 1))).toArray
  | 10, v => v = (.slice (some ⟨g, 0, none⟩) n cap)
  | 11, v => v = (.int .i64 (jj : Nat))
  | 12, v => v = .pointer (some ⟨g, (jj) * 6, none⟩)
  | 13, v => v = .agg (cl (F (jj))).toArray
  | 14, v => v = .pointer (some ⟨g, (jj) * 6, none⟩)
  | 16, v => v = .pointer (some ⟨g, (jj - 1) * 6, none⟩)
  | _, _ => True
def ISvd : Nat → Nat
  | 0 => 37
  | 1 => 38
  | 2 => 39
  | 3 => 40
  | 4 => 41
  | 5 => 42
  | 6 => 43
  | 7 => 44
  | 8 => 45
  | 9 => 46
  | 10 => 47
  | 11 => 48
  | 12 => 49
  | 13 => 50
  | 14 => 51
  | 15 => 1015
  | 16 => 52
  | 17 => 1017
  | i => 2000 + i

theorem Ob.kg {w w' : World} {g : Nat} (h : Ob w w' g) : Kg g w w' := ⟨h.os, h.tape, h.output, by rw [h.size]; exact Nat.le_refl _, fun q _ hn => h.block q hn⟩
theorem Kg.ofB {w w' : World} {g : Nat} (h : Below w.heap.size w w') : Kg g w w' := ⟨h.os, h.tape, h.output, h.size, fun q hq _ => h.block q hq⟩
set_option maxHeartbeats 8000000 in
set_option maxRecDepth 100000 in
theorem ins_d {w : World} {B g n cap xa xb : Nat} {F : Nat → Ep} (h : Rw w B g n cap F) (hbn : xb ≤ n) (han : xa ≤ n) (hn : n ≤ 2000000) :
    Calls Tryz.prog 120 #[.slice (some ⟨g, 0, none⟩) n cap, .int .i64 (xa : Nat), .int .i64 (xb : Nat), (.func (.func 73) #[] #[])] w fun e w' => e = .returned (.tuple #[]) ∧ ∃ G, Std ltE F xa xb G ∧ Rw w' B g n cap G ∧ Kg g w w' := by
  have h0 := hide1 h
  clear h
  go_enter Tryz.func120, Tryz.ntmps120
  go_wp2_with fail
  go_loopw [8] (fun s8 wo => ∃ (i : Nat) (G : Nat → Ep), s8 = .int .i64 (i : Nat) ∧ xa + 1 ≤ i ∧ i ≤ n + 1 ∧ (i ≤ xb ∨ xb ≤ xa + 1) ∧ (xb ≤ xa + 1 → i = xa + 1) ∧ Hid (xb ≤ xa + 1 → G = F) ∧ Hid (Std ltE F xa i G) ∧ Hid (Rw wo B g n cap G) ∧ Hid (Kg g w wo)) (fun s8 _ => n + 1 - (intOf s8).toNat)
  case atStart => exact ⟨xa + 1, F, by first | rfl | (congr 1; omega) | go_num, by omega, by omega, by omega, fun _ => rfl, hide1 fun _ => rfl, hide1 (std_1 (Nat.le_refl _)), h0, hide1 (Kg.refl g w)⟩
  case round =>
    obtain ⟨i, G, rfl, hi1, hi2, hi3, hi4, hGF, hstd, hRo, hKo⟩ := hrel
    by_cases hlt : i < xb
    · have hix : i < xb := hlt
      have hrs := hide1 (std_rs ok_ltE hstd.out)
      go_wp2_with fail
      go_loopw [9] (fun s9 wr => ∃ jj : Nat, s9 = .int .i64 (jj : Nat) ∧ xa ≤ jj ∧ jj ≤ i ∧ Hid (∀ k, jj ≤ k → k < i → ltE (G i) (G k) = true) ∧ Hid (Rw wr B g n cap (rot G jj i (i + 1))) ∧ Hid (Kg g w wr)) (fun s9 _ => (intOf s9).toNat)
      case atStart => exact ⟨i, by first | rfl | (congr 1; omega), by omega, Nat.le_refl _, hide1 fun k h1 h2 => by omega, hide1 (by rw [rot_id G (.inl rfl)]; exact hRo.out), hKo⟩
      case round =>
        obtain ⟨jj, rfl, hj1, hj2, hpast, hR, hK⟩ := hrel
        have hfin : ltE (G i) (G (jj - 1)) = false ∨ jj = xa → Hid (Std ltE F xa (i + 1) (rot G jj i (i + 1))) := fun hx => hide1 (std_s (by omega) hstd.out (mgd_r hj1 hj2 (fun k h1 h2 => by
          rcases hx with hx | hx
          · by_cases ek : k = jj - 1
            · rw [ek]; exact hx
            · cases e : ltE (G i) (G k) with
              | false => rfl
              | true =>
                rcases ok_ltE.wk (G i) (G k) (G (jj - 1)) e with h3 | h3
                · rw [hx] at h3; cases h3
                · rw [hrs.out k (jj - 1) h1 (by omega) (by omega)] at h3; cases h3
          · omega) hpast.out))
        by_cases hgt' : xa < jj
        · have hjn : jj < n := by omega
          have hj1n : jj - 1 < n := by omega
          have hsb := fun w => sub1_n (a := jj) (by omega) (by omega) w
          have hgt : ∀ w : World, (binOp .gtr 3 (.int .i64 (jj : Nat)) (.int .i64 (xa : Nat))).run Tryz.prog w = .ok (.bool true) w := fun w => by rw [gt_n, decide_eq_true hgt']
          have e1 : rot G jj i (i + 1) jj = G i := by unfold rot; rw [if_pos (by omega)]; congr 1; omega
          have e2 : rot G jj i (i + 1) (jj - 1) = G (jj - 1) := by unfold rot; rw [if_neg (by omega), if_neg (by omega)]
          have hok1 : EpOk (G i) := e1 ▸ hR.out.ok jj hjn
          have hok2 : EpOk (G (jj - 1)) := e2 ▸ hR.out.ok (jj - 1) hj1n
          have hld1 : ∀ wa, Below wr.heap.size wr wa → (Instr.loadAt 49 (.pointer (some ⟨g, jj * 6, none⟩))).run Tryz.prog wa = .ok (.agg (cl (G i)).toArray) wa := fun wa hwa => e1 ▸ (hR.out.later hwa).load hjn
          have hld2 : ∀ wa, Below wr.heap.size wr wa → (Instr.loadAt 49 (.pointer (some ⟨g, (jj - 1) * 6, none⟩))).run Tryz.prog wa = .ok (.agg (cl (G (jj - 1))).toArray) wa := fun wa hwa => e2 ▸ (hR.out.later hwa).load hj1n
          obtain ⟨R, hRd⟩ : ∃ R, Hid (R = ltE (G i) (G (jj - 1))) := ⟨_, hide1 rfl⟩
          have hzr : ∀ w, (binOp .lss 3 (.int .i64 (zc (G i) (G (jj - 1)))) (.int .i64 0)).run Tryz.prog w = .ok (.bool R) w := fun w => by rw [hRd.out]; exact zc_lt _ _ w
          replace e1 := hide1 e1
          replace e2 := hide1 e2
          go_upto_region 4 with fail
          refine wp_flowG 16 _ _ (by kernel_rfl) (by kernel_rfl) (by kernel_rfl) rfl (fun j v _ => v = ([(.int .i64 (jj : Nat)), (.int .i64 (xa : Nat)), (.bool true), (.bool true), (.func (.func 73) #[] #[]), (.slice (some ⟨g, 0, none⟩) n cap), (.int .i64 (jj : Nat)), (.pointer (some ⟨g, jj * 6, none⟩)), (.agg (cl (G i)).toArray), (.slice (some ⟨g, 0, none⟩) n cap), (.int .i64 (jj : Nat)), (.int .i64 (jj - 1 : Nat)), (.pointer (some ⟨g, (jj - 1) * 6, none⟩)), (.agg (cl (G (jj - 1))).toArray), (.int .i64 (zc (G i) (G (jj - 1)))), (.bool R), (.bool R)] : List Value).getD j undef) (fun _ _ _ _ h _ => h) ?_ ?_
          · intro j op hop hj a wa hwa hsz hsl hdep K hK
            match j, hop with
            | 0, hop =>
              obtain rfl := Option.some.inj hop
              have p9 : a.tmps.getD 9 undef = (.int .i64 (jj : Nat)) := hsl 9 rfl
              exact .plain rfl (wp_val (w' := wa) (v := (.int .i64 (jj : Nat))) (by simp only [execOp, Act.eval]; rw [show a.tmps.getD 9 undef = _ from p9]; rfl) (hK _ _ (Below.refl _ _) rfl))
            | 1, hop =>
              obtain rfl := Option.some.inj hop
              have p1 : a.tmps.getD 1 undef = (.int .i64 (xa : Nat)) := hsl 1 rfl
              exact .plain rfl (wp_val (w' := wa) (v := (.int .i64 (xa : Nat))) (by simp only [execOp, Act.eval]; rw [show a.tmps.getD 1 undef = _ from p1]; rfl) (hK _ _ (Below.refl _ _) rfl))
            | 2, hop =>
              obtain rfl := Option.some.inj hop
              have t0 : a.tmps.getD 18 undef = (.int .i64 (jj : Nat)) := hdep 0 _ 18 rfl rfl ⟨⟨0, .data⟩, by simp, rfl, rfl⟩
              have t1 : a.tmps.getD 19 undef = (.int .i64 (xa : Nat)) := hdep 1 _ 19 rfl rfl ⟨⟨1, .data⟩, by simp, rfl, rfl⟩
              exact .plain rfl (wp_val (w' := wa) (v := (.bool true)) (by simp only [execOp, Act.eval]; rw [show a.tmps.getD 18 undef = _ from t0, show a.tmps.getD 19 undef = _ from t1]; simp only [Sem.run_bind, eqg_gtr, hgt, Result.andThen_ok, Sem.run_pure]) (hK _ _ (Below.refl _ _) rfl))
            | 3, hop =>
              obtain rfl := Option.some.inj hop
              have t2 : a.tmps.getD 20 undef = (.bool true) := hdep 2 _ 20 rfl rfl ⟨⟨2, .data⟩, by simp, rfl, rfl⟩
              exact .plain rfl (wp_val (w' := wa) (v := (.bool true)) (by simp only [execOp, Act.eval]; rw [show a.tmps.getD 20 undef = _ from t2]; rfl) (hK _ _ (Below.refl _ _) rfl))
            | 4, hop =>
              obtain rfl := Option.some.inj hop
              have gg : a.tmps.getD 21 undef = (.bool true) := hdep 3 _ 21 rfl rfl ⟨⟨3, .guard⟩, by simp, rfl, rfl⟩
              have p3 : a.tmps.getD 3 undef = (.func (.func 73) #[] #[]) := hsl 3 rfl
              exact .want rfl rfl (by rw [hsz]; simp) gg (wp_val (w' := wa) (v := (.func (.func 73) #[] #[])) (by simp only [execOp, Act.eval]; rw [show a.tmps.getD 3 undef = _ from p3]; rfl) (hK _ _ (Below.refl _ _) rfl))
            | 5, hop =>
              obtain rfl := Option.some.inj hop
              have gg : a.tmps.getD 21 undef = (.bool true) := hdep 3 _ 21 rfl rfl ⟨⟨3, .guard⟩, by simp, rfl, rfl⟩
              have p0 : a.tmps.getD 0 undef = (.slice (some ⟨g, 0, none⟩) n cap) := hsl 0 rfl
              exact .want rfl rfl (by rw [hsz]; simp) gg (wp_val (w' := wa) (v := (.slice (some ⟨g, 0, none⟩) n cap)) (by simp only [execOp, Act.eval]; rw [show a.tmps.getD 0 undef = _ from p0]; rfl) (hK _ _ (Below.refl _ _) rfl))
            | 6, hop =>
              obtain rfl := Option.some.inj hop
              have gg : a.tmps.getD 21 undef = (.bool true) := hdep 3 _ 21 rfl rfl ⟨⟨3, .guard⟩, by simp, rfl, rfl⟩
              have p9 : a.tmps.getD 9 undef = (.int .i64 (jj : Nat)) := hsl 9 rfl
              exact .want rfl rfl (by rw [hsz]; simp) gg (wp_val (w' := wa) (v := (.int .i64 (jj : Nat))) (by simp only [execOp, Act.eval]; rw [show a.tmps.getD 9 undef = _ from p9]; rfl) (hK _ _ (Below.refl _ _) rfl))
            | 7, hop =>
              obtain rfl := Option.some.inj hop
              have gg : a.tmps.getD 21 undef = (.bool true) := hdep 3 _ 21 rfl rfl ⟨⟨3, .guard⟩, by simp, rfl, rfl⟩
              have t5 : a.tmps.getD 23 undef = (.slice (some ⟨g, 0, none⟩) n cap) := hdep 5 _ 23 rfl rfl ⟨⟨5, .data⟩, by simp, rfl, rfl⟩
              have t6 : a.tmps.getD 24 undef = (.int .i64 (jj : Nat)) := hdep 6 _ 24 rfl rfl ⟨⟨6, .data⟩, by simp, rfl, rfl⟩
              exact .want rfl rfl (by rw [hsz]; simp) gg (wp_val (w' := wa) (v := (.pointer (some ⟨g, jj * 6, none⟩))) (by simp only [execOp, Act.eval]; rw [show a.tmps.getD 23 undef = _ from t5, show a.tmps.getD 24 undef = _ from t6]; simp only [Sem.run_bind, ix_sP hjn, Result.andThen_ok, Sem.run_pure]) (hK _ _ (Below.refl _ _) rfl))
            | 8, hop =>
              obtain rfl := Option.some.inj hop
              have gg : a.tmps.getD 21 undef = (.bool true) := hdep 3 _ 21 rfl rfl ⟨⟨3, .guard⟩, by simp, rfl, rfl⟩
              have t7 : a.tmps.getD 25 undef = (.pointer (some ⟨g, jj * 6, none⟩)) := hdep 7 _ 25 rfl rfl ⟨⟨7, .data⟩, by simp, rfl, rfl⟩
              exact .want rfl rfl (by rw [hsz]; simp) gg (wp_val (w' := wa) (v := (.agg (cl (G i)).toArray)) (by simp only [execOp, Act.eval]; rw [show a.tmps.getD 25 undef = _ from t7]; simp only [Sem.run_bind, hld1 _ hwa, Result.andThen_ok, Sem.run_pure]) (hK _ _ (Below.refl _ _) rfl))
            | 9, hop =>
              obtain rfl := Option.some.inj hop
              have gg : a.tmps.getD 21 undef = (.bool true) := hdep 3 _ 21 rfl rfl ⟨⟨3, .guard⟩, by simp, rfl, rfl⟩
              have p0 : a.tmps.getD 0 undef = (.slice (some ⟨g, 0, none⟩) n cap) := hsl 0 rfl
              exact .want rfl rfl (by rw [hsz]; simp) gg (wp_val (w' := wa) (v := (.slice (some ⟨g, 0, none⟩) n cap)) (by simp only [execOp, Act.eval]; rw [show a.tmps.getD 0 undef = _ from p0]; rfl) (hK _ _ (Below.refl _ _) rfl))
            | 10, hop =>
              obtain rfl := Option.some.inj hop
              have gg : a.tmps.getD 21 undef = (.bool true) := hdep 3 _ 21 rfl rfl ⟨⟨3, .guard⟩, by simp, rfl, rfl⟩
              have p9 : a.tmps.getD 9 undef = (.int .i64 (jj : Nat)) := hsl 9 rfl
              exact .want rfl rfl (by rw [hsz]; simp) gg (wp_val (w' := wa) (v := (.int .i64 (jj : Nat))) (by simp only [execOp, Act.eval]; rw [show a.tmps.getD 9 undef = _ from p9]; rfl) (hK _ _ (Below.refl _ _) rfl))
            | 11, hop =>
              obtain rfl := Option.some.inj hop
              have gg : a.tmps.getD 21 undef = (.bool true) := hdep 3 _ 21 rfl rfl ⟨⟨3, .guard⟩, by simp, rfl, rfl⟩
              have t10 : a.tmps.getD 28 undef = (.int .i64 (jj : Nat)) := hdep 10 _ 28 rfl rfl ⟨⟨10, .data⟩, by simp, rfl, rfl⟩
              exact .want rfl rfl (by rw [hsz]; simp) gg (wp_val (w' := wa) (v := (.int .i64 (jj - 1 : Nat))) (by simp only [execOp, Act.eval]; rw [show a.tmps.getD 28 undef = _ from t10]; simp only [Sem.run_bind, eqg_sub, hsb, Result.andThen_ok, Sem.run_pure]) (hK _ _ (Below.refl _ _) rfl))
            | 12, hop =>
              obtain rfl := Option.some.inj hop
              have gg : a.tmps.getD 21 undef = (.bool true) := hdep 3 _ 21 rfl rfl ⟨⟨3, .guard⟩, by simp, rfl, rfl⟩
              have t9 : a.tmps.getD 27 undef = (.slice (some ⟨g, 0, none⟩) n cap) := hdep 9 _ 27 rfl rfl ⟨⟨9, .data⟩, by simp, rfl, rfl⟩
              have t11 : a.tmps.getD 29 undef = (.int .i64 (jj - 1 : Nat)) := hdep 11 _ 29 rfl rfl ⟨⟨11, .data⟩, by simp, rfl, rfl⟩
              exact .want rfl rfl (by rw [hsz]; simp) gg (wp_val (w' := wa) (v := (.pointer (some ⟨g, (jj - 1) * 6, none⟩))) (by simp only [execOp, Act.eval]; rw [show a.tmps.getD 27 undef = _ from t9, show a.tmps.getD 29 undef = _ from t11]; simp only [Sem.run_bind, ix_sP hj1n, Result.andThen_ok, Sem.run_pure]) (hK _ _ (Below.refl _ _) rfl))
            | 13, hop =>
              obtain rfl := Option.some.inj hop
              have gg : a.tmps.getD 21 undef = (.bool true) := hdep 3 _ 21 rfl rfl ⟨⟨3, .guard⟩, by simp, rfl, rfl⟩
              have t12 : a.tmps.getD 30 undef = (.pointer (some ⟨g, (jj - 1) * 6, none⟩)) := hdep 12 _ 30 rfl rfl ⟨⟨12, .data⟩, by simp, rfl, rfl⟩
              exact .want rfl rfl (by rw [hsz]; simp) gg (wp_val (w' := wa) (v := (.agg (cl (G (jj - 1))).toArray)) (by simp only [execOp, Act.eval]; rw [show a.tmps.getD 30 undef = _ from t12]; simp only [Sem.run_bind, hld2 _ hwa, Result.andThen_ok, Sem.run_pure]) (hK _ _ (Below.refl _ _) rfl))
            | 14, hop =>
              obtain rfl := Option.some.inj hop
              have gg : a.tmps.getD 21 undef = (.bool true) := hdep 3 _ 21 rfl rfl ⟨⟨3, .guard⟩, by simp, rfl, rfl⟩
              have t8 : a.tmps.getD 26 undef = (.agg (cl (G i)).toArray) := hdep 8 _ 26 rfl rfl ⟨⟨8, .data⟩, by simp, rfl, rfl⟩
              have t13 : a.tmps.getD 31 undef = (.agg (cl (G (jj - 1))).toArray) := hdep 13 _ 31 rfl rfl ⟨⟨13, .data⟩, by simp, rfl, rfl⟩
              have t4 : a.tmps.getD 22 undef = (.func (.func 73) #[] #[]) := hdep 4 _ 22 rfl rfl ⟨⟨4, .data⟩, by simp, rfl, rfl⟩
              refine .want rfl rfl (by rw [hsz]; simp) gg (oper_anyv (J := fun r w' => r = (.int .i64 (zc (G i) (G (jj - 1)))) ∧ Below wa.heap.size wa w') 73 (.tmp 22) #[.tmp 26, .tmp 31] _ rfl (show a.tmps.getD 22 undef = _ from t4) #[(.agg (cl (G i)).toArray), (.agg (cl (G (jj - 1))).toArray)] (by simp only [List.map_toArray, List.map_cons, List.map_nil, Act.eval]; rw [show a.tmps.getD 26 undef = _ from t8, show a.tmps.getD 31 undef = _ from t13]) (fun w => by kernel_rfl) ((cmp_d hok1 hok2).mono fun e w' h => ⟨_, h.1, rfl, h.2⟩) ?_)
              rintro r w' ⟨rfl, hb⟩
              exact hK _ _ hb rfl
            | 15, hop =>
              obtain rfl := Option.some.inj hop
              have gg : a.tmps.getD 21 undef = (.bool true) := hdep 3 _ 21 rfl rfl ⟨⟨3, .guard⟩, by simp, rfl, rfl⟩
              have t14 : a.tmps.getD 32 undef = (.int .i64 (zc (G i) (G (jj - 1)))) := hdep 14 _ 32 rfl rfl ⟨⟨14, .data⟩, by simp, rfl, rfl⟩
              exact .want rfl rfl (by rw [hsz]; simp) gg (wp_val (w' := wa) (v := (.bool R)) (by simp only [execOp, Act.eval]; rw [show a.tmps.getD 32 undef = _ from t14]; simp only [Sem.run_bind, eqg_lss, hzr, Result.andThen_ok, Sem.run_pure]) (hK _ _ (Below.refl _ _) rfl))
            | 16, _ => exact absurd rfl hj
            | _ + 17, hop => exact absurd hop (by simp)
          · intro a wa hwa hdf hsz hsl hrr K hK
            have t3 : a.tmps.getD 21 undef = (.bool true) := hrr 3 _ 21 rfl (by decide) rfl
            have t15 : a.tmps.getD 33 undef = (.bool R) := hrr 15 _ 33 rfl (by decide) rfl
            refine .plain rfl (wp_val (w' := wa) (v := (.bool R)) (by simp only [execOp, Act.eval]; rw [show a.tmps.getD 21 undef = _ from t3, show a.tmps.getD 33 undef = _ from t15]; rfl) ?_)
            refine hK _ wa ?_
            have hact := act_puts hdf hsz hsl
            clear hrr hsl hdf hsz hK t15 t3
            simp only [List.filterMap_cons, List.filterMap_nil, List.foldl_cons, List.foldl_nil] at hact
            rw [hact]
            generalize a.tmps.getD 18 undef = y18
            generalize a.tmps.getD 19 undef = y19
            generalize a.tmps.getD 20 undef = y20
            generalize a.tmps.getD 21 undef = y21
            generalize a.tmps.getD 22 undef = y22
            generalize a.tmps.getD 23 undef = y23
            generalize a.tmps.getD 24 undef = y24
            generalize a.tmps.getD 25 undef = y25
            generalize a.tmps.getD 26 undef = y26
            generalize a.tmps.getD 27 undef = y27
            generalize a.tmps.getD 28 undef = y28
            generalize a.tmps.getD 29 undef = y29
            generalize a.tmps.getD 30 undef = y30
            generalize a.tmps.getD 31 undef = y31
            generalize a.tmps.getD 32 undef = y32
            generalize a.tmps.getD 33 undef = y33
            clear hact
            simp only [Act.put, List.setIfInBounds_toArray, List.set_cons_succ, List.set_cons_zero]
            have hR4 := hide1 (hR.out.later hwa)
            have hK4 : Hid (Kg g w wa) := hide1 (hK.out.trans (Kg.ofB hwa))
            clear hld1 hld2 hzr hgt hwa hR hK
            cases R with
            | true =>
              have hxy : jj ≠ jj - 1 := by omega
              have hsr : Hid (sr (rot G jj i (i + 1)) jj (jj - 1) 1 = rot G (jj - 1) i (i + 1)) := hide1 (by
                have := rot_dn G (m := i) (k := jj - 1) (by omega)
                rwa [show jj - 1 + 1 = jj by omega] at this)
              have hpast2 : Hid (∀ k, jj - 1 ≤ k → k < i → ltE (G i) (G k) = true) := hide1 fun k h1 h2 => by
                by_cases ek : k = jj - 1
                · rw [ek]; exact hRd.out.symm
                · exact hpast.out k (by omega) h2
              go_upto_region 6 with fail
              refine wp_rel5 _ _ (fun _ j v _ => ISv g n cap jj (rot G jj i (i + 1)) j v) (fun D w => Msw wa B g n cap (rot G jj i (i + 1)) (jj) (jj - 1) (D 15) (D 17) w) ISvd (by kernel_rfl) (by kernel_rfl) 18 (by kernel_rfl) ?_ ?_ rfl (msw_start hjn hj1n hR4.out) ?_ ?_
              · intro ix o ho
                match ix, ho with
                | 0, ho => obtain rfl := Option.some.inj ho; exact .inl ⟨rfl, by show 37 < 53; decide⟩
                | 1, ho => obtain rfl := Option.some.inj ho; exact .inl ⟨rfl, by show 38 < 53; decide⟩
                | 2, ho => obtain rfl := Option.some.inj ho; exact .inl ⟨rfl, by show 39 < 53; decide⟩
                | 3, ho => obtain rfl := Option.some.inj ho; exact .inl ⟨rfl, by show 40 < 53; decide⟩
                | 4, ho => obtain rfl := Option.some.inj ho; exact .inl ⟨rfl, by show 41 < 53; decide⟩
                | 5, ho => obtain rfl := Option.some.inj ho; exact .inl ⟨rfl, by show 42 < 53; decide⟩
                | 6, ho => obtain rfl := Option.some.inj ho; exact .inl ⟨rfl, by show 43 < 53; decide⟩
                | 7, ho => obtain rfl := Option.some.inj ho; exact .inl ⟨rfl, by show 44 < 53; decide⟩
                | 8, ho => obtain rfl := Option.some.inj ho; exact .inl ⟨rfl, by show 45 < 53; decide⟩
                | 9, ho => obtain rfl := Option.some.inj ho; exact .inl ⟨rfl, by show 46 < 53; decide⟩
                | 10, ho => obtain rfl := Option.some.inj ho; exact .inl ⟨rfl, by show 47 < 53; decide⟩
                | 11, ho => obtain rfl := Option.some.inj ho; exact .inl ⟨rfl, by show 48 < 53; decide⟩
                | 12, ho => obtain rfl := Option.some.inj ho; exact .inl ⟨rfl, by show 49 < 53; decide⟩
                | 13, ho => obtain rfl := Option.some.inj ho; exact .inl ⟨rfl, by show 50 < 53; decide⟩
                | 14, ho => obtain rfl := Option.some.inj ho; exact .inl ⟨rfl, by show 51 < 53; decide⟩
                | 15, ho => obtain rfl := Option.some.inj ho; exact .inr ⟨⟨rfl, fun _ _ _ _ => trivial⟩, by show 53 ≤ 1015; decide⟩
                | 16, ho => obtain rfl := Option.some.inj ho; exact .inl ⟨rfl, by show 52 < 53; decide⟩
                | 17, ho => obtain rfl := Option.some.inj ho; exact .inr ⟨⟨rfl, fun _ _ _ _ => trivial⟩, by show 53 ≤ 1017; decide⟩
                | _ + 18, ho => exact absurd ho (by simp)
              · intro ix jx hi hj e; unfold ISvd at e; split at e <;> split at e <;> omega
              · intro ix o ho
                match ix, ho with
                | 0, ho =>
                  obtain rfl := Option.some.inj ho
                  intro D a w hM hsl hdep hDi hcl K hK
                  have hp0 : a.tmps.getD 0 undef = (.slice (some ⟨g, 0, none⟩) n cap) := hsl 0 (by intro j hj; unfold ISvd; split <;> omega)
                  refine ⟨rfl, ?_⟩
                  refine wp_val (w' := w) (v := (.slice (some ⟨g, 0, none⟩) n cap)) (by simp only [execOp, Act.eval]; rw [show a.tmps.getD 0 undef = _ from hp0]; rfl) ?_
                  exact hK _ _ rfl (msw_ne (by decide) (by decide) hM) (fun _ _ _ _ h => h)
                | 1, ho =>
                  obtain rfl := Option.some.inj ho
                  intro D a w hM hsl hdep hDi hcl K hK
                  have hp9 : a.tmps.getD 9 undef = (.int .i64 (jj : Nat)) := hsl 9 (by intro j hj; unfold ISvd; split <;> omega)
                  refine ⟨rfl, ?_⟩
                  refine wp_val (w' := w) (v := (.int .i64 (jj : Nat))) (by simp only [execOp, Act.eval]; rw [show a.tmps.getD 9 undef = _ from hp9]; rfl) ?_
                  exact hK _ _ rfl (msw_ne (by decide) (by decide) hM) (fun _ _ _ _ h => h)
                | 2, ho =>
                  obtain rfl := Option.some.inj ho
                  intro D a w hM hsl hdep hDi hcl K hK
                  have hp0 : a.tmps.getD 0 undef = (.slice (some ⟨g, 0, none⟩) n cap) := hsl 0 (by intro j hj; unfold ISvd; split <;> omega)
                  refine ⟨rfl, ?_⟩
                  refine wp_val (w' := w) (v := (.slice (some ⟨g, 0, none⟩) n cap)) (by simp only [execOp, Act.eval]; rw [show a.tmps.getD 0 undef = _ from hp0]; rfl) ?_
                  exact hK _ _ rfl (msw_ne (by decide) (by decide) hM) (fun _ _ _ _ h => h)
                | 3, ho =>
                  obtain rfl := Option.some.inj ho
                  intro D a w hM hsl hdep hDi hcl K hK
                  have hp9 : a.tmps.getD 9 undef = (.int .i64 (jj : Nat)) := hsl 9 (by intro j hj; unfold ISvd; split <;> omega)
                  refine ⟨rfl, ?_⟩
                  refine wp_val (w' := w) (v := (.int .i64 (jj : Nat))) (by simp only [execOp, Act.eval]; rw [show a.tmps.getD 9 undef = _ from hp9]; rfl) ?_
                  exact hK _ _ rfl (msw_ne (by decide) (by decide) hM) (fun _ _ _ _ h => h)
                | 4, ho =>
                  obtain rfl := Option.some.inj ho
                  intro D a w hM hsl hdep hDi hcl K hK
                  have e3 := (hdep ⟨3, .data⟩ (by simp) rfl).1
                  refine ⟨rfl, ?_⟩
                  refine wp_val (w' := w) (v := (.int .i64 (jj - 1 : Nat))) (by simp only [execOp, Act.eval]; rw [show a.tmps.getD 40 undef = _ from e3]; simp only [Sem.run_bind, eqg_sub, hsb, Result.andThen_ok, Sem.run_pure]) ?_
                  exact hK _ _ rfl (msw_ne (by decide) (by decide) hM) (fun _ _ _ _ h => h)
                | 5, ho =>
                  obtain rfl := Option.some.inj ho
                  intro D a w hM hsl hdep hDi hcl K hK
                  have hp0 : a.tmps.getD 0 undef = (.slice (some ⟨g, 0, none⟩) n cap) := hsl 0 (by intro j hj; unfold ISvd; split <;> omega)
                  refine ⟨rfl, ?_⟩
                  refine wp_val (w' := w) (v := (.slice (some ⟨g, 0, none⟩) n cap)) (by simp only [execOp, Act.eval]; rw [show a.tmps.getD 0 undef = _ from hp0]; rfl) ?_
                  exact hK _ _ rfl (msw_ne (by decide) (by decide) hM) (fun _ _ _ _ h => h)
                | 6, ho =>
                  obtain rfl := Option.some.inj ho
                  intro D a w hM hsl hdep hDi hcl K hK
                  have hp9 : a.tmps.getD 9 undef = (.int .i64 (jj : Nat)) := hsl 9 (by intro j hj; unfold ISvd; split <;> omega)
                  refine ⟨rfl, ?_⟩
                  refine wp_val (w' := w) (v := (.int .i64 (jj : Nat))) (by simp only [execOp, Act.eval]; rw [show a.tmps.getD 9 undef = _ from hp9]; rfl) ?_
                  exact hK _ _ rfl (msw_ne (by decide) (by decide) hM) (fun _ _ _ _ h => h)
                | 7, ho =>
                  obtain rfl := Option.some.inj ho
                  intro D a w hM hsl hdep hDi hcl K hK
                  have e6 := (hdep ⟨6, .data⟩ (by simp) rfl).1
                  refine ⟨rfl, ?_⟩
                  refine wp_val (w' := w) (v := (.int .i64 (jj - 1 : Nat))) (by simp only [execOp, Act.eval]; rw [show a.tmps.getD 43 undef = _ from e6]; simp only [Sem.run_bind, eqg_sub, hsb, Result.andThen_ok, Sem.run_pure]) ?_
                  exact hK _ _ rfl (msw_ne (by decide) (by decide) hM) (fun _ _ _ _ h => h)
                | 8, ho =>
                  obtain rfl := Option.some.inj ho
                  intro D a w hM hsl hdep hDi hcl K hK
                  have e5 := (hdep ⟨5, .data⟩ (by simp) rfl).1
                  have e7 := (hdep ⟨7, .data⟩ (by simp) rfl).1
                  refine ⟨rfl, ?_⟩
                  refine wp_val (w' := w) (v := .pointer (some ⟨g, (jj - 1) * 6, none⟩)) (by simp only [execOp, Act.eval]; rw [show a.tmps.getD 42 undef = _ from e5, show a.tmps.getD 44 undef = _ from e7]; simp only [Sem.run_bind, ix_sP hj1n, Result.andThen_ok, Sem.run_pure]) ?_
                  exact hK _ _ rfl (msw_ne (by decide) (by decide) hM) (fun _ _ _ _ h => h)
                | 9, ho =>
                  obtain rfl := Option.some.inj ho
                  intro D a w hM hsl hdep hDi hcl K hK
                  have e8 := (hdep ⟨8, .data⟩ (by simp) rfl).1
                  have hD15 : D 15 = false := by cases h9 : D 15 with | false => rfl | true => have := hcl 15 _ rfl h9 ⟨9, .data⟩ (by simp) rfl; rw [this] at hDi; cases hDi
                  have hD17 : D 17 = false := by cases h9 : D 17 with | false => rfl | true => have := hcl 17 _ rfl h9 ⟨9, .phase⟩ (by simp) rfl; rw [this] at hDi; cases hDi
                  have hl := (msw_00 hD15 hD17 hM).load hj1n
                  refine ⟨rfl, ?_⟩
                  refine wp_val (w' := w) (v := .agg (cl ((rot G jj i (i + 1)) (jj - 1))).toArray) (by simp only [execOp, Act.eval]; rw [show a.tmps.getD 45 undef = _ from e8]; simp only [Sem.run_bind, hl, Result.andThen_ok, Sem.run_pure]) ?_
                  exact hK _ _ rfl (msw_ne (by decide) (by decide) hM) (fun _ _ _ _ h => h)
                | 10, ho =>
                  obtain rfl := Option.some.inj ho
                  intro D a w hM hsl hdep hDi hcl K hK
                  have hp0 : a.tmps.getD 0 undef = (.slice (some ⟨g, 0, none⟩) n cap) := hsl 0 (by intro j hj; unfold ISvd; split <;> omega)
                  refine ⟨rfl, ?_⟩
                  refine wp_val (w' := w) (v := (.slice (some ⟨g, 0, none⟩) n cap)) (by simp only [execOp, Act.eval]; rw [show a.tmps.getD 0 undef = _ from hp0]; rfl) ?_
                  exact hK _ _ rfl (msw_ne (by decide) (by decide) hM) (fun _ _ _ _ h => h)
                | 11, ho =>
                  obtain rfl := Option.some.inj ho
                  intro D a w hM hsl hdep hDi hcl K hK
                  have hp9 : a.tmps.getD 9 undef = (.int .i64 (jj : Nat)) := hsl 9 (by intro j hj; unfold ISvd; split <;> omega)
                  refine ⟨rfl, ?_⟩
                  refine wp_val (w' := w) (v := (.int .i64 (jj : Nat))) (by simp only [execOp, Act.eval]; rw [show a.tmps.getD 9 undef = _ from hp9]; rfl) ?_
                  exact hK _ _ rfl (msw_ne (by decide) (by decide) hM) (fun _ _ _ _ h => h)
                | 12, ho =>
                  obtain rfl := Option.some.inj ho
                  intro D a w hM hsl hdep hDi hcl K hK
                  have e10 := (hdep ⟨10, .data⟩ (by simp) rfl).1
                  have e11 := (hdep ⟨11, .data⟩ (by simp) rfl).1
                  refine ⟨rfl, ?_⟩
                  refine wp_val (w' := w) (v := .pointer (some ⟨g, (jj) * 6, none⟩)) (by simp only [execOp, Act.eval]; rw [show a.tmps.getD 47 undef = _ from e10, show a.tmps.getD 48 undef = _ from e11]; simp only [Sem.run_bind, ix_sP hjn, Result.andThen_ok, Sem.run_pure]) ?_
                  exact hK _ _ rfl (msw_ne (by decide) (by decide) hM) (fun _ _ _ _ h => h)
                | 13, ho =>
                  obtain rfl := Option.some.inj ho
                  intro D a w hM hsl hdep hDi hcl K hK
                  have e12 := (hdep ⟨12, .data⟩ (by simp) rfl).1
                  have hD15 : D 15 = false := by cases h9 : D 15 with | false => rfl | true => have := hcl 15 _ rfl h9 ⟨13, .phase⟩ (by simp) rfl; rw [this] at hDi; cases hDi
                  have hD17 : D 17 = false := by cases h9 : D 17 with | false => rfl | true => have := hcl 17 _ rfl h9 ⟨13, .data⟩ (by simp) rfl; rw [this] at hDi; cases hDi
                  have hl := (msw_00 hD15 hD17 hM).load hjn
                  refine ⟨rfl, ?_⟩
                  refine wp_val (w' := w) (v := .agg (cl ((rot G jj i (i + 1)) (jj))).toArray) (by simp only [execOp, Act.eval]; rw [show a.tmps.getD 49 undef = _ from e12]; simp only [Sem.run_bind, hl, Result.andThen_ok, Sem.run_pure]) ?_
                  exact hK _ _ rfl (msw_ne (by decide) (by decide) hM) (fun _ _ _ _ h => h)
                | 14, ho =>
                  obtain rfl := Option.some.inj ho
                  intro D a w hM hsl hdep hDi hcl K hK
                  have e0 := (hdep ⟨0, .data⟩ (by simp) rfl).1
                  have e1 := (hdep ⟨1, .data⟩ (by simp) rfl).1
                  refine ⟨rfl, ?_⟩
                  refine wp_val (w' := w) (v := .pointer (some ⟨g, (jj) * 6, none⟩)) (by simp only [execOp, Act.eval]; rw [show a.tmps.getD 37 undef = _ from e0, show a.tmps.getD 38 undef = _ from e1]; simp only [Sem.run_bind, ix_sP hjn, Result.andThen_ok, Sem.run_pure]) ?_
                  exact hK _ _ rfl (msw_ne (by decide) (by decide) hM) (fun _ _ _ _ h => h)
                | 15, ho =>
                  obtain rfl := Option.some.inj ho
                  intro D a w hM hsl hdep hDi hcl K hK
                  have e14 := (hdep ⟨14, .data⟩ (by simp) rfl).1
                  have e9 := (hdep ⟨9, .data⟩ (by simp) rfl).1
                  obtain ⟨c, hst, hM2⟩ := msw_1 (s1 := 15) (s2 := 17) (by decide) hxy hjn hDi hM
                  refine ⟨rfl, ?_⟩
                  refine wp_skp (w' := w.setRow g c) (by simp only [execOp, Act.eval]; rw [show a.tmps.getD 51 undef = _ from e14, show a.tmps.getD 46 undef = _ from e9]; simp only [Sem.run_bind, hst, Result.andThen_ok, Sem.run_pure]) ?_
                  exact hK _ _ trivial hM2 (fun _ _ _ _ h => h)
                | 16, ho =>
                  obtain rfl := Option.some.inj ho
                  intro D a w hM hsl hdep hDi hcl K hK
                  have e2 := (hdep ⟨2, .data⟩ (by simp) rfl).1
                  have e4 := (hdep ⟨4, .data⟩ (by simp) rfl).1
                  refine ⟨rfl, ?_⟩
                  refine wp_val (w' := w) (v := .pointer (some ⟨g, (jj - 1) * 6, none⟩)) (by simp only [execOp, Act.eval]; rw [show a.tmps.getD 39 undef = _ from e2, show a.tmps.getD 41 undef = _ from e4]; simp only [Sem.run_bind, ix_sP hj1n, Result.andThen_ok, Sem.run_pure]) ?_
                  exact hK _ _ rfl (msw_ne (by decide) (by decide) hM) (fun _ _ _ _ h => h)
                | 17, ho =>
                  obtain rfl := Option.some.inj ho
                  intro D a w hM hsl hdep hDi hcl K hK
                  have e16 := (hdep ⟨16, .data⟩ (by simp) rfl).1
                  have e13 := (hdep ⟨13, .data⟩ (by simp) rfl).1
                  obtain ⟨c, hst, hM2⟩ := msw_2 (s1 := 15) (s2 := 17) (by decide) hxy hj1n hDi hM
                  refine ⟨rfl, ?_⟩
                  refine wp_skp (w' := w.setRow g c) (by simp only [execOp, Act.eval]; rw [show a.tmps.getD 52 undef = _ from e16, show a.tmps.getD 50 undef = _ from e13]; simp only [Sem.run_bind, hst, Result.andThen_ok, Sem.run_pure]) ?_
                  exact hK _ _ trivial hM2 (fun _ _ _ _ h => h)
                | _ + 18, ho => exact absurd ho (by simp)
              · intro D a wt hall hd hs hM hsl hr hact
                replace hM := msw_11 hxy (hall 15 (by decide)) (hall 17 (by decide)) hM
                simp only [List.filterMap_cons, List.filterMap_nil, List.foldl_cons, List.foldl_nil] at hact
                rw [hact]
                generalize a.tmps.getD 37 undef = y37
                generalize a.tmps.getD 38 undef = y38
                generalize a.tmps.getD 39 undef = y39
                generalize a.tmps.getD 40 undef = y40
                generalize a.tmps.getD 41 undef = y41
                generalize a.tmps.getD 42 undef = y42
                generalize a.tmps.getD 43 undef = y43
                generalize a.tmps.getD 44 undef = y44
                generalize a.tmps.getD 45 undef = y45
                generalize a.tmps.getD 46 undef = y46
                generalize a.tmps.getD 47 undef = y47
                generalize a.tmps.getD 48 undef = y48
                generalize a.tmps.getD 49 undef = y49
                generalize a.tmps.getD 50 undef = y50
                generalize a.tmps.getD 51 undef = y51
                generalize a.tmps.getD 52 undef = y52
                clear hact hsl hr hd hs hall a
                simp only [Act.put, List.setIfInBounds_toArray, List.set_cons_succ, List.set_cons_zero]
                obtain ⟨hR5, hO5⟩ := hM
                rw [hsr.out] at hR5
                have hR6 := hide1 hR5
                have hK6 : Hid (Kg g w wt) := hide1 (hK4.out.trans hO5.kg)
                clear hR5 hO5 hsr hsb hR4 hK4
                go_wp2
                go_roundw
                case rel => exact ⟨jj - 1, by congr 1; omega, by omega, by omega, hpast2, hR6, hK6⟩
                case measure => simp [intOf]; omega
            | false =>
              have hst := hfin (.inl hRd.out.symm)
              clear hfin hpast hrs hRd hsb
              go_wp2
              go_roundw
              case rel => exact ⟨i + 1, _, by first | rfl | (congr 1; omega) | go_num, by omega, by omega, by omega, fun hx => by omega, hide1 (fun hx => by exfalso; omega), hst, hR4, hK4⟩
              case measure => simp [intOf]; omega
        · have hst := hfin (.inr (by omega))
          have hgt : ∀ w : World, (binOp .gtr 3 (.int .i64 (jj : Nat)) (.int .i64 (xa : Nat))).run Tryz.prog w = .ok (.bool false) w := fun w => by rw [gt_n, decide_eq_false hgt']
          clear hfin hpast hrs
          go_upto_region 4 with fail
          refine wp_flowG 16 _ _ (by kernel_rfl) (by kernel_rfl) (by kernel_rfl) rfl (fun j v _ => v = ([(.int .i64 (jj : Nat)), (.int .i64 (xa : Nat)), (.bool false), (.bool false), undef, undef, undef, undef, undef, undef, undef, undef, undef, undef, undef, undef, (.bool false)] : List Value).getD j undef) (fun _ _ _ _ h _ => h) ?_ ?_
          · intro j op hop hj a wa hwa hsz hsl hdep K hK
            match j, hop with
            | 0, hop =>
              obtain rfl := Option.some.inj hop
              have p9 : a.tmps.getD 9 undef = (.int .i64 (jj : Nat)) := hsl 9 rfl
              exact .plain rfl (wp_val (w' := wa) (v := (.int .i64 (jj : Nat))) (by simp only [execOp, Act.eval]; rw [show a.tmps.getD 9 undef = _ from p9]; rfl) (hK _ _ (Below.refl _ _) rfl))
            | 1, hop =>
              obtain rfl := Option.some.inj hop
              have p1 : a.tmps.getD 1 undef = (.int .i64 (xa : Nat)) := hsl 1 rfl
              exact .plain rfl (wp_val (w' := wa) (v := (.int .i64 (xa : Nat))) (by simp only [execOp, Act.eval]; rw [show a.tmps.getD 1 undef = _ from p1]; rfl) (hK _ _ (Below.refl _ _) rfl))
            | 2, hop =>
              obtain rfl := Option.some.inj hop
              have t0 : a.tmps.getD 18 undef = (.int .i64 (jj : Nat)) := hdep 0 _ 18 rfl rfl ⟨⟨0, .data⟩, by simp, rfl, rfl⟩
              have t1 : a.tmps.getD 19 undef = (.int .i64 (xa : Nat)) := hdep 1 _ 19 rfl rfl ⟨⟨1, .data⟩, by simp, rfl, rfl⟩
              exact .plain rfl (wp_val (w' := wa) (v := (.bool false)) (by simp only [execOp, Act.eval]; rw [show a.tmps.getD 18 undef = _ from t0, show a.tmps.getD 19 undef = _ from t1]; simp only [Sem.run_bind, eqg_gtr, hgt, Result.andThen_ok, Sem.run_pure]) (hK _ _ (Below.refl _ _) rfl))
            | 3, hop =>
              obtain rfl := Option.some.inj hop
              have t2 : a.tmps.getD 20 undef = (.bool false) := hdep 2 _ 20 rfl rfl ⟨⟨2, .data⟩, by simp, rfl, rfl⟩
              exact .plain rfl (wp_val (w' := wa) (v := (.bool false)) (by simp only [execOp, Act.eval]; rw [show a.tmps.getD 20 undef = _ from t2]; rfl) (hK _ _ (Below.refl _ _) rfl))
            | 4, hop =>
              obtain rfl := Option.some.inj hop
              have gg : a.tmps.getD 21 undef = (.bool false) := hdep 3 _ 21 rfl rfl ⟨⟨3, .guard⟩, by simp, rfl, rfl⟩
              exact .skip rfl rfl (by rw [hsz]; simp) gg (hK _ _ (Below.refl _ _) rfl)
            | 5, hop =>
              obtain rfl := Option.some.inj hop
              have gg : a.tmps.getD 21 undef = (.bool false) := hdep 3 _ 21 rfl rfl ⟨⟨3, .guard⟩, by simp, rfl, rfl⟩
              exact .skip rfl rfl (by rw [hsz]; simp) gg (hK _ _ (Below.refl _ _) rfl)
            | 6, hop =>
              obtain rfl := Option.some.inj hop
              have gg : a.tmps.getD 21 undef = (.bool false) := hdep 3 _ 21 rfl rfl ⟨⟨3, .guard⟩, by simp, rfl, rfl⟩
              exact .skip rfl rfl (by rw [hsz]; simp) gg (hK _ _ (Below.refl _ _) rfl)
            | 7, hop =>
              obtain rfl := Option.some.inj hop
              have gg : a.tmps.getD 21 undef = (.bool false) := hdep 3 _ 21 rfl rfl ⟨⟨3, .guard⟩, by simp, rfl, rfl⟩
              exact .skip rfl rfl (by rw [hsz]; simp) gg (hK _ _ (Below.refl _ _) rfl)
            | 8, hop =>
              obtain rfl := Option.some.inj hop
              have gg : a.tmps.getD 21 undef = (.bool false) := hdep 3 _ 21 rfl rfl ⟨⟨3, .guard⟩, by simp, rfl, rfl⟩
              exact .skip rfl rfl (by rw [hsz]; simp) gg (hK _ _ (Below.refl _ _) rfl)
            | 9, hop =>
              obtain rfl := Option.some.inj hop
              have gg : a.tmps.getD 21 undef = (.bool false) := hdep 3 _ 21 rfl rfl ⟨⟨3, .guard⟩, by simp, rfl, rfl⟩
              exact .skip rfl rfl (by rw [hsz]; simp) gg (hK _ _ (Below.refl _ _) rfl)
            | 10, hop =>
              obtain rfl := Option.some.inj hop
              have gg : a.tmps.getD 21 undef = (.bool false) := hdep 3 _ 21 rfl rfl ⟨⟨3, .guard⟩, by simp, rfl, rfl⟩
              exact .skip rfl rfl (by rw [hsz]; simp) gg (hK _ _ (Below.refl _ _) rfl)
            | 11, hop =>
              obtain rfl := Option.some.inj hop
              have gg : a.tmps.getD 21 undef = (.bool false) := hdep 3 _ 21 rfl rfl ⟨⟨3, .guard⟩, by simp, rfl, rfl⟩
              exact .skip rfl rfl (by rw [hsz]; simp) gg (hK _ _ (Below.refl _ _) rfl)
            | 12, hop =>
              obtain rfl := Option.some.inj hop
              have gg : a.tmps.getD 21 undef = (.bool false) := hdep 3 _ 21 rfl rfl ⟨⟨3, .guard⟩, by simp, rfl, rfl⟩
              exact .skip rfl rfl (by rw [hsz]; simp) gg (hK _ _ (Below.refl _ _) rfl)
            | 13, hop =>
              obtain rfl := Option.some.inj hop
              have gg : a.tmps.getD 21 undef = (.bool false) := hdep 3 _ 21 rfl rfl ⟨⟨3, .guard⟩, by simp, rfl, rfl⟩
              exact .skip rfl rfl (by rw [hsz]; simp) gg (hK _ _ (Below.refl _ _) rfl)
            | 14, hop =>
              obtain rfl := Option.some.inj hop
              have gg : a.tmps.getD 21 undef = (.bool false) := hdep 3 _ 21 rfl rfl ⟨⟨3, .guard⟩, by simp, rfl, rfl⟩
              exact .skip rfl rfl (by rw [hsz]; simp) gg (hK _ _ (Below.refl _ _) rfl)
            | 15, hop =>
              obtain rfl := Option.some.inj hop
              have gg : a.tmps.getD 21 undef = (.bool false) := hdep 3 _ 21 rfl rfl ⟨⟨3, .guard⟩, by simp, rfl, rfl⟩
              exact .skip rfl rfl (by rw [hsz]; simp) gg (hK _ _ (Below.refl _ _) rfl)
            | 16, _ => exact absurd rfl hj
            | _ + 17, hop => exact absurd hop (by simp)
          · intro a wa hwa hdf hsz hsl hrr K hK
            have t3 : a.tmps.getD 21 undef = (.bool false) := hrr 3 _ 21 rfl (by decide) rfl
            have t15 : a.tmps.getD 33 undef = undef := hrr 15 _ 33 rfl (by decide) rfl
            refine .plain rfl (wp_val (w' := wa) (v := (.bool false)) (by simp only [execOp, Act.eval]; rw [show a.tmps.getD 21 undef = _ from t3, show a.tmps.getD 33 undef = _ from t15]; rfl) ?_)
            refine hK _ wa ?_
            have hact := act_puts hdf hsz hsl
            clear hrr hsl hdf hsz hK t15 t3
            simp only [List.filterMap_cons, List.filterMap_nil, List.foldl_cons, List.foldl_nil] at hact
            rw [hact]
            generalize a.tmps.getD 18 undef = y18
            generalize a.tmps.getD 19 undef = y19
            generalize a.tmps.getD 20 undef = y20
            generalize a.tmps.getD 21 undef = y21
            generalize a.tmps.getD 22 undef = y22
            generalize a.tmps.getD 23 undef = y23
            generalize a.tmps.getD 24 undef = y24
            generalize a.tmps.getD 25 undef = y25
            generalize a.tmps.getD 26 undef = y26
            generalize a.tmps.getD 27 undef = y27
            generalize a.tmps.getD 28 undef = y28
            generalize a.tmps.getD 29 undef = y29
            generalize a.tmps.getD 30 undef = y30
            generalize a.tmps.getD 31 undef = y31
            generalize a.tmps.getD 32 undef = y32
            generalize a.tmps.getD 33 undef = y33
            clear hact
            simp only [Act.put, List.setIfInBounds_toArray, List.set_cons_succ, List.set_cons_zero]
            have hR4 := hide1 (hR.out.later hwa)
            have hK4 : Hid (Kg g w wa) := hide1 (hK.out.trans (Kg.ofB hwa))
            clear hgt hwa hR hK
            go_wp2
            go_roundw
            case rel => exact ⟨i + 1, _, by first | rfl | (congr 1; omega) | go_num, by omega, by omega, by omega, fun hx => by omega, hide1 (fun hx => by exfalso; omega), hst, hR4, hK4⟩
            case measure => simp [intOf]; omega
    · have hfin : Hid (Std ltE F xa xb G) := hide1 (by
        by_cases hx : xb ≤ xa + 1
        · rw [hGF.out hx]; exact std_1 hx
        · have : i = xb := by omega
          rw [← this]; exact hstd.out)
      go_wp2
      go_end0
      exact ⟨rfl, G, hfin.out, hRo.out, hKo.out⟩
theorem add1_n {a : Nat} (hb : a + 1 ≤ 1000000000) (w : World) : (binOp .add 3 (.int .i64 (a : Nat)) (.int .i64 1)).run Tryz.prog w = .ok (.int .i64 (a + 1 : Nat)) w := add_n (a := a) (b := 1) hb w
theorem half_e {i j : Nat} (h : i + j ≤ 1000000000) : IntKind.u64.wrap ((i : Int) + (j : Int)) = (i : Int) + (j : Int) := by
  go_unwrap
section
variable {F : Nat → Ep} {a b m : Nat}
theorem rs_lo (h : Rs ltE F m b) {c : Ep} {hh k : Nat} (hl : ltE (F hh) c = true) (h1 : m ≤ k) (h2 : k ≤ hh) (h3 : hh < b) : ltE (F k) c = true := by
  by_cases e : k = hh
  · rw [e]; exact hl
  · rcases ok_ltE.wk _ _ (F k) hl with h4 | h4
    · rw [h k hh h1 (by omega) h3] at h4; cases h4
    · exact h4
theorem rs_hi (h : Rs ltE F m b) {c : Ep} {hh k : Nat} (hl : ltE (F hh) c = false) (h1 : m ≤ hh) (h2 : hh ≤ k) (h3 : k < b) : ltE (F k) c = false := by
  cases e : ltE (F k) c with
  | false => rfl
  | true => rw [rs_lo h e h1 h2 h3] at hl; cases hl
theorem rs_up (h : Rs ltE F a m) {c : Ep} {hh k : Nat} (hl : ltE c (F hh) = true) (h1 : a ≤ hh) (h2 : hh ≤ k) (h3 : k < m) : ltE c (F k) = true := by
  by_cases e : k = hh
  · rw [e]; exact hl
  · rcases ok_ltE.wk _ _ (F k) hl with h4 | h4
    · exact h4
    · rw [h hh k h1 (by omega) h3] at h4; cases h4
theorem rs_dn (h : Rs ltE F a m) {c : Ep} {hh k : Nat} (hl : ltE c (F hh) = false) (h1 : a ≤ k) (h2 : k ≤ hh) (h3 : hh < m) : ltE c (F k) = false := by
  cases e : ltE c (F k) with
  | false => rfl
  | true => rw [rs_up h e h1 h2 h3] at hl; cases hl
end
def YLv (g n cap kk : Nat) (F : Nat → Ep) : Nat → Value → Prop
  | 0, v => v = (.slice (some ⟨g, 0, none⟩) n cap)
  | 1, v => v = (.int .i64 (kk : Nat))
  | 2, v => v = (.slice (some ⟨g, 0, none⟩) n cap)
  | 3, v => v = (.int .i64 (kk : Nat))
  | 4, v => v = (.int .i64 (kk + 1 : Nat))
  | 5, v => v = (.slice (some ⟨g, 0, none⟩) n cap)
  | 6, v => v = (.int .i64 (kk : Nat))
  | 7, v => v = (.int .i64 (kk + 1 : Nat))
  | 8, v => v = .pointer (some ⟨g, (kk + 1) * 6, none⟩)
  | 9, v => v = .agg (cl (F (kk + 1))).toArray
  | 10, v => v = (.slice (some ⟨g, 0, none⟩) n cap)
  | 11, v => v = (.int .i64 (kk : Nat))
  | 12, v => v = .pointer (some ⟨g, (kk) * 6, none⟩)
  | 13, v => v = .agg (cl (F (kk))).toArray
  | 14, v => v = .pointer (some ⟨g, (kk) * 6, none⟩)
  | 16, v => v = .pointer (some ⟨g, (kk + 1) * 6, none⟩)
  | _, _ => True
def YLvd : Nat → Nat
  | 0 => 61
  | 1 => 62
  | 2 => 63
  | 3 => 64
  | 4 => 65
  | 5 => 66
  | 6 => 67
  | 7 => 68
  | 8 => 69
  | 9 => 70
  | 10 => 71
  | 11 => 72
  | 12 => 73
  | 13 => 74
  | 14 => 75
  | 15 => 1015
  | 16 => 76
  | 17 => 1017
  | i => 2000 + i

set_option maxHeartbeats 8000000 in
set_option maxRecDepth 100000 in
theorem sym_l {w : World} {B g n cap xa xm xb : Nat} {F : Nat → Ep} (h : Rw w B g n cap F) (hm : xm = xa + 1) (hmb : xm < xb) (hbn : xb ≤ n) (hn : n ≤ 2000000) (hr : Rs ltE F xm xb) :
    Calls Tryz.prog 121 #[.slice (some ⟨g, 0, none⟩) n cap, .int .i64 (xa : Nat), .int .i64 (xm : Nat), .int .i64 (xb : Nat), (.func (.func 73) #[] #[])] w fun e w' => e = .returned (.tuple #[]) ∧ ∃ G, Mgd ltE F xa xm xb G ∧ Rw w' B g n cap G ∧ Kg g w w' := by
  have hxn : xa < n := by omega
  have hok2 : EpOk (F xa) := h.ok xa hxn
  have h0 := hide1 h
  replace hr := hide1 hr
  clear h
  have q1 : ((xm : Int) - (xa : Int) == 1) = true := by simp; omega
  go_enter Tryz.func121, Tryz.ntmps121
  go_wp2_with fail
  go_loopw [10, 11] (fun s10 s11 wr => ∃ i jj : Nat, s10 = .int .i64 (i : Nat) ∧ s11 = .int .i64 (jj : Nat) ∧ xm ≤ i ∧ i ≤ jj ∧ jj ≤ xb ∧ Hid (∀ k, xm ≤ k → k < i → ltE (F k) (F xa) = true) ∧ Hid (∀ k, jj ≤ k → k < xb → ltE (F k) (F xa) = false) ∧ Hid (Rw wr B g n cap F) ∧ Hid (Kg g w wr)) (fun s10 s11 _ => (intOf s11).toNat - (intOf s10).toNat)
  case atStart => exact ⟨xm, xb, rfl, rfl, by omega, by omega, by omega, hide1 fun k h1 h2 => by omega, hide1 fun k h1 h2 => by omega, h0, hide1 (Kg.refl g w)⟩
  case round =>
    obtain ⟨i, jj, rfl, rfl, hi1, hi2, hi3, hlo, hhi, hR, hK⟩ := hrel
    by_cases hlt : i < jj
    · obtain ⟨hh, hhd⟩ : ∃ hh, hh = (i + jj) / 2 := ⟨_, rfl⟩
      have hhn : hh < n := by omega
      have hok1 : EpOk (F hh) := hR.out.ok hh hhn
      obtain ⟨R, hRd⟩ : ∃ R, Hid (R = ltE (F hh) (F xa)) := ⟨_, hide1 rfl⟩
      have hzr : ∀ w, (binOp .lss 3 (.int .i64 (zc (F hh) (F xa))) (.int .i64 0)).run Tryz.prog w = .ok (.bool R) w := fun w => by rw [hRd.out]; exact zc_lt _ _ w
      have hw1 := half_e (i := i) (j := jj) (by omega)
      go_upto_region 5 with fail
      have ehh : ((i : Int) + (jj : Int)) / 2 = ((hh : Nat) : Int) := by omega
      rw [ehh]
      replace ehh := hide1 ehh
      replace hhd := hide1 hhd
      refine wp_flowG 10 _ _ (by kernel_rfl) (by kernel_rfl) (by kernel_rfl) rfl (fun j v _ => v = ([(.func (.func 73) #[] #[]), (.slice (some ⟨g, 0, none⟩) n cap), (.int .i64 (hh : Nat)), (.pointer (some ⟨g, hh * 6, none⟩)), (.agg (cl (F hh)).toArray), (.slice (some ⟨g, 0, none⟩) n cap), (.int .i64 (xa : Nat)), (.pointer (some ⟨g, xa * 6, none⟩)), (.agg (cl (F xa)).toArray), (.int .i64 (zc (F hh) (F xa))), (.bool R)] : List Value).getD j undef) (fun _ _ _ _ h _ => h) ?_ ?_
      · intro j op hop hj a wa hwa hsz hsl hdep K hK
        match j, hop with
        | 0, hop =>
          obtain rfl := Option.some.inj hop
          have p4 : a.tmps.getD 4 undef = (.func (.func 73) #[] #[]) := hsl 4 rfl
          exact .plain rfl (wp_val (w' := wa) (v := (.func (.func 73) #[] #[])) (by simp only [execOp, Act.eval]; rw [show a.tmps.getD 4 undef = _ from p4]; rfl) (hK _ _ (Below.refl _ _) rfl))
        | 1, hop =>
          obtain rfl := Option.some.inj hop
          have p0 : a.tmps.getD 0 undef = (.slice (some ⟨g, 0, none⟩) n cap) := hsl 0 rfl
          exact .plain rfl (wp_val (w' := wa) (v := (.slice (some ⟨g, 0, none⟩) n cap)) (by simp only [execOp, Act.eval]; rw [show a.tmps.getD 0 undef = _ from p0]; rfl) (hK _ _ (Below.refl _ _) rfl))
        | 2, hop =>
          obtain rfl := Option.some.inj hop
          have p12 : a.tmps.getD 12 undef = (.int .i64 (hh : Nat)) := hsl 12 rfl
          exact .plain rfl (wp_val (w' := wa) (v := (.int .i64 (hh : Nat))) (by simp only [execOp, Act.eval]; rw [show a.tmps.getD 12 undef = _ from p12]; rfl) (hK _ _ (Below.refl _ _) rfl))
        | 3, hop =>
          obtain rfl := Option.some.inj hop
          have t1 : a.tmps.getD 41 undef = (.slice (some ⟨g, 0, none⟩) n cap) := hdep 1 _ 41 rfl rfl ⟨⟨1, .data⟩, by simp, rfl, rfl⟩
          have t2 : a.tmps.getD 42 undef = (.int .i64 (hh : Nat)) := hdep 2 _ 42 rfl rfl ⟨⟨2, .data⟩, by simp, rfl, rfl⟩
          exact .plain rfl (wp_val (w' := wa) (v := (.pointer (some ⟨g, hh * 6, none⟩))) (by simp only [execOp, Act.eval]; rw [show a.tmps.getD 41 undef = _ from t1, show a.tmps.getD 42 undef = _ from t2]; simp only [Sem.run_bind, ix_sP hhn, Result.andThen_ok, Sem.run_pure]) (hK _ _ (Below.refl _ _) rfl))
        | 4, hop =>
          obtain rfl := Option.some.inj hop
          have t3 : a.tmps.getD 43 undef = (.pointer (some ⟨g, hh * 6, none⟩)) := hdep 3 _ 43 rfl rfl ⟨⟨3, .data⟩, by simp, rfl, rfl⟩
          exact .plain rfl (wp_val (w' := wa) (v := (.agg (cl (F hh)).toArray)) (by simp only [execOp, Act.eval]; rw [show a.tmps.getD 43 undef = _ from t3]; simp only [Sem.run_bind, (hR.out.later hwa).load hhn, Result.andThen_ok, Sem.run_pure]) (hK _ _ (Below.refl _ _) rfl))
        | 5, hop =>
          obtain rfl := Option.some.inj hop
          have p0 : a.tmps.getD 0 undef = (.slice (some ⟨g, 0, none⟩) n cap) := hsl 0 rfl
          exact .plain rfl (wp_val (w' := wa) (v := (.slice (some ⟨g, 0, none⟩) n cap)) (by simp only [execOp, Act.eval]; rw [show a.tmps.getD 0 undef = _ from p0]; rfl) (hK _ _ (Below.refl _ _) rfl))
        | 6, hop =>
          obtain rfl := Option.some.inj hop
          have p1 : a.tmps.getD 1 undef = (.int .i64 (xa : Nat)) := hsl 1 rfl
          exact .plain rfl (wp_val (w' := wa) (v := (.int .i64 (xa : Nat))) (by simp only [execOp, Act.eval]; rw [show a.tmps.getD 1 undef = _ from p1]; rfl) (hK _ _ (Below.refl _ _) rfl))
        | 7, hop =>
          obtain rfl := Option.some.inj hop
          have t5 : a.tmps.getD 45 undef = (.slice (some ⟨g, 0, none⟩) n cap) := hdep 5 _ 45 rfl rfl ⟨⟨5, .data⟩, by simp, rfl, rfl⟩
          have t6 : a.tmps.getD 46 undef = (.int .i64 (xa : Nat)) := hdep 6 _ 46 rfl rfl ⟨⟨6, .data⟩, by simp, rfl, rfl⟩
          exact .plain rfl (wp_val (w' := wa) (v := (.pointer (some ⟨g, xa * 6, none⟩))) (by simp only [execOp, Act.eval]; rw [show a.tmps.getD 45 undef = _ from t5, show a.tmps.getD 46 undef = _ from t6]; simp only [Sem.run_bind, ix_sP hxn, Result.andThen_ok, Sem.run_pure]) (hK _ _ (Below.refl _ _) rfl))
        | 8, hop =>
          obtain rfl := Option.some.inj hop
          have t7 : a.tmps.getD 47 undef = (.pointer (some ⟨g, xa * 6, none⟩)) := hdep 7 _ 47 rfl rfl ⟨⟨7, .data⟩, by simp, rfl, rfl⟩
          exact .plain rfl (wp_val (w' := wa) (v := (.agg (cl (F xa)).toArray)) (by simp only [execOp, Act.eval]; rw [show a.tmps.getD 47 undef = _ from t7]; simp only [Sem.run_bind, (hR.out.later hwa).load hxn, Result.andThen_ok, Sem.run_pure]) (hK _ _ (Below.refl _ _) rfl))
        | 9, hop =>
          obtain rfl := Option.some.inj hop
          have t4 : a.tmps.getD 44 undef = (.agg (cl (F hh)).toArray) := hdep 4 _ 44 rfl rfl ⟨⟨4, .data⟩, by simp, rfl, rfl⟩
          have t8 : a.tmps.getD 48 undef = (.agg (cl (F xa)).toArray) := hdep 8 _ 48 rfl rfl ⟨⟨8, .data⟩, by simp, rfl, rfl⟩
          have t0 : a.tmps.getD 40 undef = (.func (.func 73) #[] #[]) := hdep 0 _ 40 rfl rfl ⟨⟨0, .data⟩, by simp, rfl, rfl⟩
          refine .plain rfl (oper_anyv (J := fun r w' => r = (.int .i64 (zc (F hh) (F xa))) ∧ Below wa.heap.size wa w') 73 (.tmp 40) #[.tmp 44, .tmp 48] _ rfl (show a.tmps.getD 40 undef = _ from t0) #[(.agg (cl (F hh)).toArray), (.agg (cl (F xa)).toArray)] (by simp only [List.map_toArray, List.map_cons, List.map_nil, Act.eval]; rw [show a.tmps.getD 44 undef = _ from t4, show a.tmps.getD 48 undef = _ from t8]) (fun w => by kernel_rfl) ((cmp_d hok1 hok2).mono fun e w' h => ⟨_, h.1, rfl, h.2⟩) ?_)
          rintro r w' ⟨rfl, hb⟩
          exact hK _ _ hb rfl
        | 10, _ => exact absurd rfl hj
        | _ + 11, hop => exact absurd hop (by simp)
      · intro a wa hwa hdf hsz hsl hrr K hK
        have t9 : a.tmps.getD 49 undef = (.int .i64 (zc (F hh) (F xa))) := hrr 9 _ 49 rfl (by decide) rfl
        refine .plain rfl (wp_val (w' := wa) (v := (.bool R)) (by simp only [execOp, Act.eval]; rw [show a.tmps.getD 49 undef = _ from t9]; simp only [Sem.run_bind, eqg_lss, hzr, Result.andThen_ok, Sem.run_pure]) ?_)
        refine hK _ wa ?_
        have hact := act_puts hdf hsz hsl
        clear hrr hsl hdf hsz hK t9
        simp only [List.filterMap_cons, List.filterMap_nil, List.foldl_cons, List.foldl_nil] at hact
        rw [hact]
        generalize a.tmps.getD 40 undef = y40
        generalize a.tmps.getD 41 undef = y41
        generalize a.tmps.getD 42 undef = y42
        generalize a.tmps.getD 43 undef = y43
        generalize a.tmps.getD 44 undef = y44
        generalize a.tmps.getD 45 undef = y45
        generalize a.tmps.getD 46 undef = y46
        generalize a.tmps.getD 47 undef = y47
        generalize a.tmps.getD 48 undef = y48
        generalize a.tmps.getD 49 undef = y49
        clear hact
        simp only [Act.put, List.setIfInBounds_toArray, List.set_cons_succ, List.set_cons_zero]
        have hR4 := hide1 (hR.out.later hwa)
        have hK4 : Hid (Kg g w wa) := hide1 (hK.out.trans (Kg.ofB hwa))
        clear hzr hwa hR hK
        have hd := hhd.out
        cases R with
        | true =>
          have hlo2 : Hid (∀ k, xm ≤ k → k < hh + 1 → ltE (F k) (F xa) = true) := hide1 fun k h1 h2 => rs_lo hr.out hRd.out.symm h1 (by omega) (by omega)
          replace hd := hide1 hd
          clear hlo hRd
          go_wp2
          go_roundw
          case rel => exact ⟨hh + 1, jj, by first | rfl | (congr 1; omega) | go_num, rfl, by have := hd.out; omega, by have := hd.out; omega, hi3, hlo2, hhi, hR4, hK4⟩
          case measure => have := hd.out; simp [intOf]; omega
        | false =>
          have hhi2 : Hid (∀ k, hh ≤ k → k < xb → ltE (F k) (F xa) = false) := hide1 fun k h1 h2 => rs_hi hr.out hRd.out.symm (by omega) h1 h2
          replace hd := hide1 hd
          clear hhi hRd
          go_wp2
          go_roundw
          case rel => exact ⟨i, hh, rfl, by first | rfl | (congr 1; omega) | go_num, hi1, by have := hd.out; omega, by have := hd.out; omega, hlo, hhi2, hR4, hK4⟩
          case measure => have := hd.out; simp [intOf]; omega
    · obtain rfl : i = jj := by omega
      have hfin : Hid (Mgd ltE F xa xm xb (rot F xa (xa + 1) i)) := hide1 (by subst hm; exact mgd_l hi1 hi3 hlo.out hhi.out)
      clear hlo hhi
      replace hm := hide1 hm
      have him : xa + 1 ≤ i := by have := hm.out; omega
      go_wp2_with fail
      go_loopw [13] (fun s13 wr => ∃ kk : Nat, s13 = .int .i64 (kk : Nat) ∧ xa ≤ kk ∧ kk + 1 ≤ i ∧ Hid (Rw wr B g n cap (rot F xa (xa + 1) (kk + 1))) ∧ Hid (Kg g w wr)) (fun s13 _ => i - (intOf s13).toNat)
      case atStart => exact ⟨xa, rfl, Nat.le_refl _, him, hide1 (by rw [rot_id F (.inr rfl)]; exact hR.out), hK⟩
      case round =>
        obtain ⟨kk, rfl, hk1, hk2, hR2, hK2⟩ := hrel
        by_cases hlt2 : kk + 1 < i
        · have hxy : kk ≠ kk + 1 := by omega
          have hkn : kk < n := by omega
          have hk1n : kk + 1 < n := by omega
          have hadd := fun w => add1_n (a := kk) (by omega) w
          have hsr : Hid (sr (rot F xa (xa + 1) (kk + 1)) kk (kk + 1) 1 = rot F xa (xa + 1) (kk + 2)) := hide1 (rot_up F hk1)
          have hlt3 : (kk : Int) < (i : Int) - 1 := by omega
          go_upto_region 11 with fail
          refine wp_rel5 _ _ (fun _ j v _ => YLv g n cap kk (rot F xa (xa + 1) (kk + 1)) j v) (fun D w => Msw wr B g n cap (rot F xa (xa + 1) (kk + 1)) (kk) (kk + 1) (D 15) (D 17) w) YLvd (by kernel_rfl) (by kernel_rfl) 18 (by kernel_rfl) ?_ ?_ rfl (msw_start hkn hk1n hR2.out) ?_ ?_
          · intro ix o ho
            match ix, ho with
            | 0, ho => obtain rfl := Option.some.inj ho; exact .inl ⟨rfl, by show 61 < 220; decide⟩
            | 1, ho => obtain rfl := Option.some.inj ho; exact .inl ⟨rfl, by show 62 < 220; decide⟩
            | 2, ho => obtain rfl := Option.some.inj ho; exact .inl ⟨rfl, by show 63 < 220; decide⟩
            | 3, ho => obtain rfl := Option.some.inj ho; exact .inl ⟨rfl, by show 64 < 220; decide⟩
            | 4, ho => obtain rfl := Option.some.inj ho; exact .inl ⟨rfl, by show 65 < 220; decide⟩
            | 5, ho => obtain rfl := Option.some.inj ho; exact .inl ⟨rfl, by show 66 < 220; decide⟩
            | 6, ho => obtain rfl := Option.some.inj ho; exact .inl ⟨rfl, by show 67 < 220; decide⟩
            | 7, ho => obtain rfl := Option.some.inj ho; exact .inl ⟨rfl, by show 68 < 220; decide⟩
            | 8, ho => obtain rfl := Option.some.inj ho; exact .inl ⟨rfl, by show 69 < 220; decide⟩
            | 9, ho => obtain rfl := Option.some.inj ho; exact .inl ⟨rfl, by show 70 < 220; decide⟩
            | 10, ho => obtain rfl := Option.some.inj ho; exact .inl ⟨rfl, by show 71 < 220; decide⟩
            | 11, ho => obtain rfl := Option.some.inj ho; exact .inl ⟨rfl, by show 72 < 220; decide⟩
            | 12, ho => obtain rfl := Option.some.inj ho; exact .inl ⟨rfl, by show 73 < 220; decide⟩
            | 13, ho => obtain rfl := Option.some.inj ho; exact .inl ⟨rfl, by show 74 < 220; decide⟩
            | 14, ho => obtain rfl := Option.some.inj ho; exact .inl ⟨rfl, by show 75 < 220; decide⟩
            | 15, ho => obtain rfl := Option.some.inj ho; exact .inr ⟨⟨rfl, fun _ _ _ _ => trivial⟩, by show 220 ≤ 1015; decide⟩
            | 16, ho => obtain rfl := Option.some.inj ho; exact .inl ⟨rfl, by show 76 < 220; decide⟩
            | 17, ho => obtain rfl := Option.some.inj ho; exact .inr ⟨⟨rfl, fun _ _ _ _ => trivial⟩, by show 220 ≤ 1017; decide⟩
            | _ + 18, ho => exact absurd ho (by simp)
          · intro ix jx hi hj e; unfold YLvd at e; split at e <;> split at e <;> omega
          · intro ix o ho
            match ix, ho with
            | 0, ho =>
              obtain rfl := Option.some.inj ho
              intro D a w hM hsl hdep hDi hcl K hK
              have hp0 : a.tmps.getD 0 undef = (.slice (some ⟨g, 0, none⟩) n cap) := hsl 0 (by intro j hj; unfold YLvd; split <;> omega)
              refine ⟨rfl, ?_⟩
              refine wp_val (w' := w) (v := (.slice (some ⟨g, 0, none⟩) n cap)) (by simp only [execOp, Act.eval]; rw [show a.tmps.getD 0 undef = _ from hp0]; rfl) ?_
              exact hK _ _ rfl (msw_ne (by decide) (by decide) hM) (fun _ _ _ _ h => h)
            | 1, ho =>
              obtain rfl := Option.some.inj ho
              intro D a w hM hsl hdep hDi hcl K hK
              have hp13 : a.tmps.getD 13 undef = (.int .i64 (kk : Nat)) := hsl 13 (by intro j hj; unfold YLvd; split <;> omega)
              refine ⟨rfl, ?_⟩
              refine wp_val (w' := w) (v := (.int .i64 (kk : Nat))) (by simp only [execOp, Act.eval]; rw [show a.tmps.getD 13 undef = _ from hp13]; rfl) ?_
              exact hK _ _ rfl (msw_ne (by decide) (by decide) hM) (fun _ _ _ _ h => h)
            | 2, ho =>
              obtain rfl := Option.some.inj ho
              intro D a w hM hsl hdep hDi hcl K hK
              have hp0 : a.tmps.getD 0 undef = (.slice (some ⟨g, 0, none⟩) n cap) := hsl 0 (by intro j hj; unfold YLvd; split <;> omega)
              refine ⟨rfl, ?_⟩
              refine wp_val (w' := w) (v := (.slice (some ⟨g, 0, none⟩) n cap)) (by simp only [execOp, Act.eval]; rw [show a.tmps.getD 0 undef = _ from hp0]; rfl) ?_
              exact hK _ _ rfl (msw_ne (by decide) (by decide) hM) (fun _ _ _ _ h => h)
            | 3, ho =>
              obtain rfl := Option.some.inj ho
              intro D a w hM hsl hdep hDi hcl K hK
              have hp13 : a.tmps.getD 13 undef = (.int .i64 (kk : Nat)) := hsl 13 (by intro j hj; unfold YLvd; split <;> omega)
              refine ⟨rfl, ?_⟩
              refine wp_val (w' := w) (v := (.int .i64 (kk : Nat))) (by simp only [execOp, Act.eval]; rw [show a.tmps.getD 13 undef = _ from hp13]; rfl) ?_
              exact hK _ _ rfl (msw_ne (by decide) (by decide) hM) (fun _ _ _ _ h => h)
            | 4, ho =>
              obtain rfl := Option.some.inj ho
              intro D a w hM hsl hdep hDi hcl K hK
              have e3 := (hdep ⟨3, .data⟩ (by simp) rfl).1
              refine ⟨rfl, ?_⟩
              refine wp_val (w' := w) (v := (.int .i64 (kk + 1 : Nat))) (by simp only [execOp, Act.eval]; rw [show a.tmps.getD 64 undef = _ from e3]; simp only [Sem.run_bind, eqg_add, hadd, Result.andThen_ok, Sem.run_pure]) ?_
              exact hK _ _ rfl (msw_ne (by decide) (by decide) hM) (fun _ _ _ _ h => h)
            | 5, ho =>
              obtain rfl := Option.some.inj ho
              intro D a w hM hsl hdep hDi hcl K hK
              have hp0 : a.tmps.getD 0 undef = (.slice (some ⟨g, 0, none⟩) n cap) := hsl 0 (by intro j hj; unfold YLvd; split <;> omega)
              refine ⟨rfl, ?_⟩
              refine wp_val (w' := w) (v := (.slice (some ⟨g, 0, none⟩) n cap)) (by simp only [execOp, Act.eval]; rw [show a.tmps.getD 0 undef = _ from hp0]; rfl) ?_
              exact hK _ _ rfl (msw_ne (by decide) (by decide) hM) (fun _ _ _ _ h => h)
            | 6, ho =>
              obtain rfl := Option.some.inj ho
              intro D a w hM hsl hdep hDi hcl K hK
              have hp13 : a.tmps.getD 13 undef = (.int .i64 (kk : Nat)) := hsl 13 (by intro j hj; unfold YLvd; split <;> omega)
              refine ⟨rfl, ?_⟩
              refine wp_val (w' := w) (v := (.int .i64 (kk : Nat))) (by simp only [execOp, Act.eval]; rw [show a.tmps.getD 13 undef = _ from hp13]; rfl) ?_
              exact hK _ _ rfl (msw_ne (by decide) (by decide) hM) (fun _ _ _ _ h => h)
            | 7, ho =>
              obtain rfl := Option.some.inj ho
              intro D a w hM hsl hdep hDi hcl K hK
              have e6 := (hdep ⟨6, .data⟩ (by simp) rfl).1
              refine ⟨rfl, ?_⟩
              refine wp_val (w' := w) (v := (.int .i64 (kk + 1 : Nat))) (by simp only [execOp, Act.eval]; rw [show a.tmps.getD 67 undef = _ from e6]; simp only [Sem.run_bind, eqg_add, hadd, Result.andThen_ok, Sem.run_pure]) ?_
              exact hK _ _ rfl (msw_ne (by decide) (by decide) hM) (fun _ _ _ _ h => h)
            | 8, ho =>
              obtain rfl := Option.some.inj ho
              intro D a w hM hsl hdep hDi hcl K hK
              have e5 := (hdep ⟨5, .data⟩ (by simp) rfl).1
              have e7 := (hdep ⟨7, .data⟩ (by simp) rfl).1
              refine ⟨rfl, ?_⟩
              refine wp_val (w' := w) (v := .pointer (some ⟨g, (kk + 1) * 6, none⟩)) (by simp only [execOp, Act.eval]; rw [show a.tmps.getD 66 undef = _ from e5, show a.tmps.getD 68 undef = _ from e7]; simp only [Sem.run_bind, ix_sP hk1n, Result.andThen_ok, Sem.run_pure]) ?_
              exact hK _ _ rfl (msw_ne (by decide) (by decide) hM) (fun _ _ _ _ h => h)
            | 9, ho =>
              obtain rfl := Option.some.inj ho
              intro D a w hM hsl hdep hDi hcl K hK
              have e8 := (hdep ⟨8, .data⟩ (by simp) rfl).1
              have hD15 : D 15 = false := by cases h9 : D 15 with | false => rfl | true => have := hcl 15 _ rfl h9 ⟨9, .data⟩ (by simp) rfl; rw [this] at hDi; cases hDi
              have hD17 : D 17 = false := by cases h9 : D 17 with | false => rfl | true => have := hcl 17 _ rfl h9 ⟨9, .phase⟩ (by simp) rfl; rw [this] at hDi; cases hDi
              have hl := (msw_00 hD15 hD17 hM).load hk1n
              refine ⟨rfl, ?_⟩
              refine wp_val (w' := w) (v := .agg (cl ((rot F xa (xa + 1) (kk + 1)) (kk + 1))).toArray) (by simp only [execOp, Act.eval]; rw [show a.tmps.getD 69 undef = _ from e8]; simp only [Sem.run_bind, hl, Result.andThen_ok, Sem.run_pure]) ?_
              exact hK _ _ rfl (msw_ne (by decide) (by decide) hM) (fun _ _ _ _ h => h)
            | 10, ho =>
              obtain rfl := Option.some.inj ho
              intro D a w hM hsl hdep hDi hcl K hK
              have hp0 : a.tmps.getD 0 undef = (.slice (some ⟨g, 0, none⟩) n cap) := hsl 0 (by intro j hj; unfold YLvd; split <;> omega)
              refine ⟨rfl, ?_⟩
              refine wp_val (w' := w) (v := (.slice (some ⟨g, 0, none⟩) n cap)) (by simp only [execOp, Act.eval]; rw [show a.tmps.getD 0 undef = _ from hp0]; rfl) ?_
              exact hK _ _ rfl (msw_ne (by decide) (by decide) hM) (fun _ _ _ _ h => h)
            | 11, ho =>
              obtain rfl := Option.some.inj ho
              intro D a w hM hsl hdep hDi hcl K hK
              have hp13 : a.tmps.getD 13 undef = (.int .i64 (kk : Nat)) := hsl 13 (by intro j hj; unfold YLvd; split <;> omega)
              refine ⟨rfl, ?_⟩
              refine wp_val (w' := w) (v := (.int .i64 (kk : Nat))) (by simp only [execOp, Act.eval]; rw [show a.tmps.getD 13 undef = _ from hp13]; rfl) ?_
              exact hK _ _ rfl (msw_ne (by decide) (by decide) hM) (fun _ _ _ _ h => h)
            | 12, ho =>
              obtain rfl := Option.some.inj ho
              intro D a w hM hsl hdep hDi hcl K hK
              have e10 := (hdep ⟨10, .data⟩ (by simp) rfl).1
              have e11 := (hdep ⟨11, .data⟩ (by simp) rfl).1
              refine ⟨rfl, ?_⟩
              refine wp_val (w' := w) (v := .pointer (some ⟨g, (kk) * 6, none⟩)) (by simp only [execOp, Act.eval]; rw [show a.tmps.getD 71 undef = _ from e10, show a.tmps.getD 72 undef = _ from e11]; simp only [Sem.run_bind, ix_sP hkn, Result.andThen_ok, Sem.run_pure]) ?_
              exact hK _ _ rfl (msw_ne (by decide) (by decide) hM) (fun _ _ _ _ h => h)
            | 13, ho =>
              obtain rfl := Option.some.inj ho
              intro D a w hM hsl hdep hDi hcl K hK
              have e12 := (hdep ⟨12, .data⟩ (by simp) rfl).1
              have hD15 : D 15 = false := by cases h9 : D 15 with | false => rfl | true => have := hcl 15 _ rfl h9 ⟨13, .phase⟩ (by simp) rfl; rw [this] at hDi; cases hDi
              have hD17 : D 17 = false := by cases h9 : D 17 with | false => rfl | true => have := hcl 17 _ rfl h9 ⟨13, .data⟩ (by simp) rfl; rw [this] at hDi; cases hDi
              have hl := (msw_00 hD15 hD17 hM).load hkn
              refine ⟨rfl, ?_⟩
              refine wp_val (w' := w) (v := .agg (cl ((rot F xa (xa + 1) (kk + 1)) (kk))).toArray) (by simp only [execOp, Act.eval]; rw [show a.tmps.getD 73 undef = _ from e12]; simp only [Sem.run_bind, hl, Result.andThen_ok, Sem.run_pure]) ?_
              exact hK _ _ rfl (msw_ne (by decide) (by decide) hM) (fun _ _ _ _ h => h)
            | 14, ho =>
              obtain rfl := Option.some.inj ho
              intro D a w hM hsl hdep hDi hcl K hK
              have e0 := (hdep ⟨0, .data⟩ (by simp) rfl).1
              have e1 := (hdep ⟨1, .data⟩ (by simp) rfl).1
              refine ⟨rfl, ?_⟩
              refine wp_val (w' := w) (v := .pointer (some ⟨g, (kk) * 6, none⟩)) (by simp only [execOp, Act.eval]; rw [show a.tmps.getD 61 undef = _ from e0, show a.tmps.getD 62 undef = _ from e1]; simp only [Sem.run_bind, ix_sP hkn, Result.andThen_ok, Sem.run_pure]) ?_
              exact hK _ _ rfl (msw_ne (by decide) (by decide) hM) (fun _ _ _ _ h => h)
            | 15, ho =>
              obtain rfl := Option.some.inj ho
              intro D a w hM hsl hdep hDi hcl K hK
              have e14 := (hdep ⟨14, .data⟩ (by simp) rfl).1
              have e9 := (hdep ⟨9, .data⟩ (by simp) rfl).1
              obtain ⟨c, hst, hM2⟩ := msw_1 (s1 := 15) (s2 := 17) (by decide) hxy hkn hDi hM
              refine ⟨rfl, ?_⟩
              refine wp_skp (w' := w.setRow g c) (by simp only [execOp, Act.eval]; rw [show a.tmps.getD 75 undef = _ from e14, show a.tmps.getD 70 undef = _ from e9]; simp only [Sem.run_bind, hst, Result.andThen_ok, Sem.run_pure]) ?_
              exact hK _ _ trivial hM2 (fun _ _ _ _ h => h)
            | 16, ho =>
              obtain rfl := Option.some.inj ho
              intro D a w hM hsl hdep hDi hcl K hK
              have e2 := (hdep ⟨2, .data⟩ (by simp) rfl).1
              have e4 := (hdep ⟨4, .data⟩ (by simp) rfl).1
              refine ⟨rfl, ?_⟩
              refine wp_val (w' := w) (v := .pointer (some ⟨g, (kk + 1) * 6, none⟩)) (by simp only [execOp, Act.eval]; rw [show a.tmps.getD 63 undef = _ from e2, show a.tmps.getD 65 undef = _ from e4]; simp only [Sem.run_bind, ix_sP hk1n, Result.andThen_ok, Sem.run_pure]) ?_
              exact hK _ _ rfl (msw_ne (by decide) (by decide) hM) (fun _ _ _ _ h => h)
            | 17, ho =>
              obtain rfl := Option.some.inj ho
              intro D a w hM hsl hdep hDi hcl K hK
              have e16 := (hdep ⟨16, .data⟩ (by simp) rfl).1
              have e13 := (hdep ⟨13, .data⟩ (by simp) rfl).1
              obtain ⟨c, hst, hM2⟩ := msw_2 (s1 := 15) (s2 := 17) (by decide) hxy hk1n hDi hM
              refine ⟨rfl, ?_⟩
              refine wp_skp (w' := w.setRow g c) (by simp only [execOp, Act.eval]; rw [show a.tmps.getD 76 undef = _ from e16, show a.tmps.getD 74 undef = _ from e13]; simp only [Sem.run_bind, hst, Result.andThen_ok, Sem.run_pure]) ?_
              exact hK _ _ trivial hM2 (fun _ _ _ _ h => h)
            | _ + 18, ho => exact absurd ho (by simp)
          · intro D a wt hall hd hs hM hsl hr hact
            replace hM := msw_11 hxy (hall 15 (by decide)) (hall 17 (by decide)) hM
            simp only [List.filterMap_cons, List.filterMap_nil, List.foldl_cons, List.foldl_nil] at hact
            rw [hact]
            generalize a.tmps.getD 61 undef = y61
            generalize a.tmps.getD 62 undef = y62
            generalize a.tmps.getD 63 undef = y63
            generalize a.tmps.getD 64 undef = y64
            generalize a.tmps.getD 65 undef = y65
            generalize a.tmps.getD 66 undef = y66
            generalize a.tmps.getD 67 undef = y67
            generalize a.tmps.getD 68 undef = y68
            generalize a.tmps.getD 69 undef = y69
            generalize a.tmps.getD 70 undef = y70
            generalize a.tmps.getD 71 undef = y71
            generalize a.tmps.getD 72 undef = y72
            generalize a.tmps.getD 73 undef = y73
            generalize a.tmps.getD 74 undef = y74
            generalize a.tmps.getD 75 undef = y75
            generalize a.tmps.getD 76 undef = y76
            clear hact hsl hr hd hs hall a
            simp only [Act.put, List.setIfInBounds_toArray, List.set_cons_succ, List.set_cons_zero]
            obtain ⟨hR5, hO5⟩ := hM
            rw [hsr.out] at hR5
            have hR6 := hide1 hR5
            have hK6 : Hid (Kg g w wt) := hide1 (hK2.out.trans hO5.kg)
            clear hR5 hO5 hsr hadd hR2 hK2
            go_wp2
            go_roundw
            case rel => exact ⟨kk + 1, by first | rfl | (congr 1; omega) | go_num, by omega, by omega, hR6, hK6⟩
            case measure => simp [intOf]; omega
        · have hlt3 : ¬ (kk : Int) < (i : Int) - 1 := by omega
          obtain rfl : i = kk + 1 := by omega
          go_wp2
          first
          | (go_end0; exact ⟨rfl, _, hfin.out, hR2.out, hK2.out⟩)
          | (refine bodyPost_ret (results_none rfl _ _ _) rfl ?_; exact ⟨rfl, _, hfin.out, hR2.out, hK2.out⟩)
def YRv (g n cap kk : Nat) (F : Nat → Ep) : Nat → Value → Prop
  | 0, v => v = (.slice (some ⟨g, 0, none⟩) n cap)
  | 1, v => v = (.int .i64 (kk : Nat))
  | 2, v => v = (.slice (some ⟨g, 0, none⟩) n cap)
  | 3, v => v = (.int .i64 (kk : Nat))
  | 4, v => v = (.int .i64 (kk - 1 : Nat))
  | 5, v => v = (.slice (some ⟨g, 0, none⟩) n cap)
  | 6, v => v = (.int .i64 (kk : Nat))
  | 7, v => v = (.int .i64 (kk - 1 : Nat))
  | 8, v => v = .pointer (some ⟨g, (kk - 1) * 6, none⟩)
  | 9, v => v = .agg (cl (F (kk - 1))).toArray
  | 10, v => v = (.slice (some ⟨g, 0, none⟩) n cap)
  | 11, v => v = (.int .i64 (kk : Nat))
  | 12, v => v = .pointer (some ⟨g, (kk) * 6, none⟩)
  | 13, v => v = .agg (cl (F (kk))).toArray
  | 14, v => v = .pointer (some ⟨g, (kk) * 6, none⟩)
  | 16, v => v = .pointer (some ⟨g, (kk - 1) * 6, none⟩)
  | _, _ => True
def YRvd : Nat → Nat
  | 0 => 113
  | 1 => 114
  | 2 => 115
  | 3 => 116
  | 4 => 117
  | 5 => 118
  | 6 => 119
  | 7 => 120
  | 8 => 121
  | 9 => 122
  | 10 => 123
  | 11 => 124
  | 12 => 125
  | 13 => 126
  | 14 => 127
  | 15 => 1015
  | 16 => 128
  | 17 => 1017
  | i => 2000 + i

set_option maxHeartbeats 8000000 in
set_option maxRecDepth 100000 in
theorem sym_r {w : World} {B g n cap xa xm xb : Nat} {F : Nat → Ep} (h : Rw w B g n cap F) (ham : xa + 1 < xm) (hm : xb = xm + 1) (hbn : xb ≤ n) (hn : n ≤ 2000000) (hr : Rs ltE F xa xm) :
    Calls Tryz.prog 121 #[.slice (some ⟨g, 0, none⟩) n cap, .int .i64 (xa : Nat), .int .i64 (xm : Nat), .int .i64 (xb : Nat), (.func (.func 73) #[] #[])] w fun e w' => e = .returned (.tuple #[]) ∧ ∃ G, Mgd ltE F xa xm xb G ∧ Rw w' B g n cap G ∧ Kg g w w' := by
  have hxn : xm < n := by omega
  have hok1 : EpOk (F xm) := h.ok xm hxn
  have h0 := hide1 h
  replace hr := hide1 hr
  clear h
  have q0 : ((xm : Int) - (xa : Int) == 1) = false := by simp; omega
  have q1 : ((xb : Int) - (xm : Int) == 1) = true := by simp; omega
  replace hm := hide1 hm
  go_enter Tryz.func121, Tryz.ntmps121
  go_wp2_with fail
  go_loopw [14, 15] (fun s14 s15 wr => ∃ i jj : Nat, s14 = .int .i64 (i : Nat) ∧ s15 = .int .i64 (jj : Nat) ∧ xa ≤ i ∧ i ≤ jj ∧ jj ≤ xm ∧ Hid (∀ k, xa ≤ k → k < i → ltE (F xm) (F k) = false) ∧ Hid (∀ k, jj ≤ k → k < xm → ltE (F xm) (F k) = true) ∧ Hid (Rw wr B g n cap F) ∧ Hid (Kg g w wr)) (fun s14 s15 _ => (intOf s15).toNat - (intOf s14).toNat)
  case atStart => exact ⟨xa, xm, rfl, rfl, by omega, by omega, by omega, hide1 fun k h1 h2 => by omega, hide1 fun k h1 h2 => by omega, h0, hide1 (Kg.refl g w)⟩
  case round =>
    obtain ⟨i, jj, rfl, rfl, hi1, hi2, hi3, hlo, hhi, hR, hK⟩ := hrel
    by_cases hlt : i < jj
    · obtain ⟨hh, hhd⟩ : ∃ hh, hh = (i + jj) / 2 := ⟨_, rfl⟩
      have hhn : hh < n := by omega
      have hok2 : EpOk (F hh) := hR.out.ok hh hhn
      obtain ⟨R, hRd⟩ : ∃ R, Hid (R = ltE (F xm) (F hh)) := ⟨_, hide1 rfl⟩
      have hzr : ∀ w, (binOp .lss 3 (.int .i64 (zc (F xm) (F hh))) (.int .i64 0)).run Tryz.prog w = .ok (.bool R) w := fun w => by rw [hRd.out]; exact zc_lt _ _ w
      have hw1 := half_e (i := i) (j := jj) (by omega)
      go_upto_region 17 with fail
      have ehh : ((i : Int) + (jj : Int)) / 2 = ((hh : Nat) : Int) := by omega
      rw [ehh]
      replace ehh := hide1 ehh
      replace hhd := hide1 hhd
      refine wp_flowG 11 _ _ (by kernel_rfl) (by kernel_rfl) (by kernel_rfl) rfl (fun j v _ => v = ([(.func (.func 73) #[] #[]), (.slice (some ⟨g, 0, none⟩) n cap), (.int .i64 (xm : Nat)), (.pointer (some ⟨g, xm * 6, none⟩)), (.agg (cl (F xm)).toArray), (.slice (some ⟨g, 0, none⟩) n cap), (.int .i64 (hh : Nat)), (.pointer (some ⟨g, hh * 6, none⟩)), (.agg (cl (F hh)).toArray), (.int .i64 (zc (F xm) (F hh))), (.bool R), (.bool (!R))] : List Value).getD j undef) (fun _ _ _ _ h _ => h) ?_ ?_
      · intro j op hop hj a wa hwa hsz hsl hdep K hK
        match j, hop with
        | 0, hop =>
          obtain rfl := Option.some.inj hop
          have p4 : a.tmps.getD 4 undef = (.func (.func 73) #[] #[]) := hsl 4 rfl
          exact .plain rfl (wp_val (w' := wa) (v := (.func (.func 73) #[] #[])) (by simp only [execOp, Act.eval]; rw [show a.tmps.getD 4 undef = _ from p4]; rfl) (hK _ _ (Below.refl _ _) rfl))
        | 1, hop =>
          obtain rfl := Option.some.inj hop
          have p0 : a.tmps.getD 0 undef = (.slice (some ⟨g, 0, none⟩) n cap) := hsl 0 rfl
          exact .plain rfl (wp_val (w' := wa) (v := (.slice (some ⟨g, 0, none⟩) n cap)) (by simp only [execOp, Act.eval]; rw [show a.tmps.getD 0 undef = _ from p0]; rfl) (hK _ _ (Below.refl _ _) rfl))
        | 2, hop =>
          obtain rfl := Option.some.inj hop
          have p2 : a.tmps.getD 2 undef = (.int .i64 (xm : Nat)) := hsl 2 rfl
          exact .plain rfl (wp_val (w' := wa) (v := (.int .i64 (xm : Nat))) (by simp only [execOp, Act.eval]; rw [show a.tmps.getD 2 undef = _ from p2]; rfl) (hK _ _ (Below.refl _ _) rfl))
        | 3, hop =>
          obtain rfl := Option.some.inj hop
          have t1 : a.tmps.getD 93 undef = (.slice (some ⟨g, 0, none⟩) n cap) := hdep 1 _ 93 rfl rfl ⟨⟨1, .data⟩, by simp, rfl, rfl⟩
          have t2 : a.tmps.getD 94 undef = (.int .i64 (xm : Nat)) := hdep 2 _ 94 rfl rfl ⟨⟨2, .data⟩, by simp, rfl, rfl⟩
          exact .plain rfl (wp_val (w' := wa) (v := (.pointer (some ⟨g, xm * 6, none⟩))) (by simp only [execOp, Act.eval]; rw [show a.tmps.getD 93 undef = _ from t1, show a.tmps.getD 94 undef = _ from t2]; simp only [Sem.run_bind, ix_sP hxn, Result.andThen_ok, Sem.run_pure]) (hK _ _ (Below.refl _ _) rfl))
        | 4, hop =>
          obtain rfl := Option.some.inj hop
          have t3 : a.tmps.getD 95 undef = (.pointer (some ⟨g, xm * 6, none⟩)) := hdep 3 _ 95 rfl rfl ⟨⟨3, .data⟩, by simp, rfl, rfl⟩
          exact .plain rfl (wp_val (w' := wa) (v := (.agg (cl (F xm)).toArray)) (by simp only [execOp, Act.eval]; rw [show a.tmps.getD 95 undef = _ from t3]; simp only [Sem.run_bind, (hR.out.later hwa).load hxn, Result.andThen_ok, Sem.run_pure]) (hK _ _ (Below.refl _ _) rfl))
        | 5, hop =>
          obtain rfl := Option.some.inj hop
          have p0 : a.tmps.getD 0 undef = (.slice (some ⟨g, 0, none⟩) n cap) := hsl 0 rfl
          exact .plain rfl (wp_val (w' := wa) (v := (.slice (some ⟨g, 0, none⟩) n cap)) (by simp only [execOp, Act.eval]; rw [show a.tmps.getD 0 undef = _ from p0]; rfl) (hK _ _ (Below.refl _ _) rfl))
        | 6, hop =>
          obtain rfl := Option.some.inj hop
          have p16 : a.tmps.getD 16 undef = (.int .i64 (hh : Nat)) := hsl 16 rfl
          exact .plain rfl (wp_val (w' := wa) (v := (.int .i64 (hh : Nat))) (by simp only [execOp, Act.eval]; rw [show a.tmps.getD 16 undef = _ from p16]; rfl) (hK _ _ (Below.refl _ _) rfl))
        | 7, hop =>
          obtain rfl := Option.some.inj hop
          have t5 : a.tmps.getD 97 undef = (.slice (some ⟨g, 0, none⟩) n cap) := hdep 5 _ 97 rfl rfl ⟨⟨5, .data⟩, by simp, rfl, rfl⟩
          have t6 : a.tmps.getD 98 undef = (.int .i64 (hh : Nat)) := hdep 6 _ 98 rfl rfl ⟨⟨6, .data⟩, by simp, rfl, rfl⟩
          exact .plain rfl (wp_val (w' := wa) (v := (.pointer (some ⟨g, hh * 6, none⟩))) (by simp only [execOp, Act.eval]; rw [show a.tmps.getD 97 undef = _ from t5, show a.tmps.getD 98 undef = _ from t6]; simp only [Sem.run_bind, ix_sP hhn, Result.andThen_ok, Sem.run_pure]) (hK _ _ (Below.refl _ _) rfl))
        | 8, hop =>
          obtain rfl := Option.some.inj hop
          have t7 : a.tmps.getD 99 undef = (.pointer (some ⟨g, hh * 6, none⟩)) := hdep 7 _ 99 rfl rfl ⟨⟨7, .data⟩, by simp, rfl, rfl⟩
          exact .plain rfl (wp_val (w' := wa) (v := (.agg (cl (F hh)).toArray)) (by simp only [execOp, Act.eval]; rw [show a.tmps.getD 99 undef = _ from t7]; simp only [Sem.run_bind, (hR.out.later hwa).load hhn, Result.andThen_ok, Sem.run_pure]) (hK _ _ (Below.refl _ _) rfl))
        | 9, hop =>
          obtain rfl := Option.some.inj hop
          have t4 : a.tmps.getD 96 undef = (.agg (cl (F xm)).toArray) := hdep 4 _ 96 rfl rfl ⟨⟨4, .data⟩, by simp, rfl, rfl⟩
          have t8 : a.tmps.getD 100 undef = (.agg (cl (F hh)).toArray) := hdep 8 _ 100 rfl rfl ⟨⟨8, .data⟩, by simp, rfl, rfl⟩
          have t0 : a.tmps.getD 92 undef = (.func (.func 73) #[] #[]) := hdep 0 _ 92 rfl rfl ⟨⟨0, .data⟩, by simp, rfl, rfl⟩
          refine .plain rfl (oper_anyv (J := fun r w' => r = (.int .i64 (zc (F xm) (F hh))) ∧ Below wa.heap.size wa w') 73 (.tmp 92) #[.tmp 96, .tmp 100] _ rfl (show a.tmps.getD 92 undef = _ from t0) #[(.agg (cl (F xm)).toArray), (.agg (cl (F hh)).toArray)] (by simp only [List.map_toArray, List.map_cons, List.map_nil, Act.eval]; rw [show a.tmps.getD 96 undef = _ from t4, show a.tmps.getD 100 undef = _ from t8]) (fun w => by kernel_rfl) ((cmp_d hok1 hok2).mono fun e w' h => ⟨_, h.1, rfl, h.2⟩) ?_)
          rintro r w' ⟨rfl, hb⟩
          exact hK _ _ hb rfl
        | 10, hop =>
          obtain rfl := Option.some.inj hop
          have t9 : a.tmps.getD 101 undef = (.int .i64 (zc (F xm) (F hh))) := hdep 9 _ 101 rfl rfl ⟨⟨9, .data⟩, by simp, rfl, rfl⟩
          exact .plain rfl (wp_val (w' := wa) (v := (.bool R)) (by simp only [execOp, Act.eval]; rw [show a.tmps.getD 101 undef = _ from t9]; simp only [Sem.run_bind, eqg_lss, hzr, Result.andThen_ok, Sem.run_pure]) (hK _ _ (Below.refl _ _) rfl))
        | 11, _ => exact absurd rfl hj
        | _ + 12, hop => exact absurd hop (by simp)
      · intro a wa hwa hdf hsz hsl hrr K hK
        have t10 : a.tmps.getD 102 undef = (.bool R) := hrr 10 _ 102 rfl (by decide) rfl
        refine .plain rfl (wp_val (w' := wa) (v := (.bool (!R))) (by simp only [execOp, Act.eval]; rw [show a.tmps.getD 102 undef = _ from t10]; kernel_rfl) ?_)
        refine hK _ wa ?_
        have hact := act_puts hdf hsz hsl
        clear hrr hsl hdf hsz hK t10
        simp only [List.filterMap_cons, List.filterMap_nil, List.foldl_cons, List.foldl_nil] at hact
        rw [hact]
        generalize a.tmps.getD 92 undef = y92
        generalize a.tmps.getD 93 undef = y93
        generalize a.tmps.getD 94 undef = y94
        generalize a.tmps.getD 95 undef = y95
        generalize a.tmps.getD 96 undef = y96
        generalize a.tmps.getD 97 undef = y97
        generalize a.tmps.getD 98 undef = y98
        generalize a.tmps.getD 99 undef = y99
        generalize a.tmps.getD 100 undef = y100
        generalize a.tmps.getD 101 undef = y101
        generalize a.tmps.getD 102 undef = y102
        clear hact
        simp only [Act.put, List.setIfInBounds_toArray, List.set_cons_succ, List.set_cons_zero]
        have hR4 := hide1 (hR.out.later hwa)
        have hK4 : Hid (Kg g w wa) := hide1 (hK.out.trans (Kg.ofB hwa))
        clear hzr hwa hR hK
        have hd := hhd.out
        cases R with
        | false =>
          have hlo2 : Hid (∀ k, xa ≤ k → k < hh + 1 → ltE (F xm) (F k) = false) := hide1 fun k h1 h2 => rs_dn hr.out hRd.out.symm h1 (by omega) (by omega)
          replace hd := hide1 hd
          clear hlo hRd
          go_wp2
          go_roundw
          case rel => exact ⟨hh + 1, jj, by first | rfl | (congr 1; omega) | go_num, rfl, by have := hd.out; omega, by have := hd.out; omega, hi3, hlo2, hhi, hR4, hK4⟩
          case measure => have := hd.out; simp [intOf]; omega
        | true =>
          have hhi2 : Hid (∀ k, hh ≤ k → k < xm → ltE (F xm) (F k) = true) := hide1 fun k h1 h2 => rs_up hr.out hRd.out.symm (by omega) h1 h2
          replace hd := hide1 hd
          clear hhi hRd
          go_wp2
          go_roundw
          case rel => exact ⟨i, hh, rfl, by first | rfl | (congr 1; omega) | go_num, hi1, by have := hd.out; omega, by have := hd.out; omega, hlo, hhi2, hR4, hK4⟩
          case measure => have := hd.out; simp [intOf]; omega
    · obtain rfl : i = jj := by omega
      have hfin : Hid (Mgd ltE F xa xm xb (rot F i xm (xm + 1))) := hide1 (by rw [hm.out]; exact mgd_r hi1 hi3 hlo.out hhi.out)
      clear hlo hhi
      go_wp2_with fail
      go_loopw [17] (fun s17 wr => ∃ kk : Nat, s17 = .int .i64 (kk : Nat) ∧ i ≤ kk ∧ kk ≤ xm ∧ Hid (Rw wr B g n cap (rot F kk xm (xm + 1))) ∧ Hid (Kg g w wr)) (fun s17 _ => (intOf s17).toNat)
      case atStart => exact ⟨xm, rfl, hi3, Nat.le_refl _, hide1 (by rw [rot_id F (.inl rfl)]; exact hR.out), hK⟩
      case round =>
        obtain ⟨kk, rfl, hk1, hk2, hR2, hK2⟩ := hrel
        by_cases hlt2 : i < kk
        · have hxy : kk ≠ kk - 1 := by omega
          have hkn : kk < n := by omega
          have hk1n : kk - 1 < n := by omega
          have hsb := fun w => sub1_n (a := kk) (by omega) (by omega) w
          have hsr : Hid (sr (rot F kk xm (xm + 1)) kk (kk - 1) 1 = rot F (kk - 1) xm (xm + 1)) := hide1 (by
            have := rot_dn F (m := xm) (k := kk - 1) (by omega)
            rwa [show kk - 1 + 1 = kk by omega] at this)
          go_upto_region 23 with fail
          refine wp_rel5 _ _ (fun _ j v _ => YRv g n cap kk (rot F kk xm (xm + 1)) j v) (fun D w => Msw wr B g n cap (rot F kk xm (xm + 1)) (kk) (kk - 1) (D 15) (D 17) w) YRvd (by kernel_rfl) (by kernel_rfl) 18 (by kernel_rfl) ?_ ?_ rfl (msw_start hkn hk1n hR2.out) ?_ ?_
          · intro ix o ho
            match ix, ho with
            | 0, ho => obtain rfl := Option.some.inj ho; exact .inl ⟨rfl, by show 113 < 220; decide⟩
            | 1, ho => obtain rfl := Option.some.inj ho; exact .inl ⟨rfl, by show 114 < 220; decide⟩
            | 2, ho => obtain rfl := Option.some.inj ho; exact .inl ⟨rfl, by show 115 < 220; decide⟩
            | 3, ho => obtain rfl := Option.some.inj ho; exact .inl ⟨rfl, by show 116 < 220; decide⟩
            | 4, ho => obtain rfl := Option.some.inj ho; exact .inl ⟨rfl, by show 117 < 220; decide⟩
            | 5, ho => obtain rfl := Option.some.inj ho; exact .inl ⟨rfl, by show 118 < 220; decide⟩
            | 6, ho => obtain rfl := Option.some.inj ho; exact .inl ⟨rfl, by show 119 < 220; decide⟩
            | 7, ho => obtain rfl := Option.some.inj ho; exact .inl ⟨rfl, by show 120 < 220; decide⟩
            | 8, ho => obtain rfl := Option.some.inj ho; exact .inl ⟨rfl, by show 121 < 220; decide⟩
            | 9, ho => obtain rfl := Option.some.inj ho; exact .inl ⟨rfl, by show 122 < 220; decide⟩
            | 10, ho => obtain rfl := Option.some.inj ho; exact .inl ⟨rfl, by show 123 < 220; decide⟩
            | 11, ho => obtain rfl := Option.some.inj ho; exact .inl ⟨rfl, by show 124 < 220; decide⟩
            | 12, ho => obtain rfl := Option.some.inj ho; exact .inl ⟨rfl, by show 125 < 220; decide⟩
            | 13, ho => obtain rfl := Option.some.inj ho; exact .inl ⟨rfl, by show 126 < 220; decide⟩
            | 14, ho => obtain rfl := Option.some.inj ho; exact .inl ⟨rfl, by show 127 < 220; decide⟩
            | 15, ho => obtain rfl := Option.some.inj ho; exact .inr ⟨⟨rfl, fun _ _ _ _ => trivial⟩, by show 220 ≤ 1015; decide⟩
            | 16, ho => obtain rfl := Option.some.inj ho; exact .inl ⟨rfl, by show 128 < 220; decide⟩
            | 17, ho => obtain rfl := Option.some.inj ho; exact .inr ⟨⟨rfl, fun _ _ _ _ => trivial⟩, by show 220 ≤ 1017; decide⟩
            | _ + 18, ho => exact absurd ho (by simp)
          · intro ix jx hi hj e; unfold YRvd at e; split at e <;> split at e <;> omega
          · intro ix o ho
            match ix, ho with
            | 0, ho =>
              obtain rfl := Option.some.inj ho
              intro D a w hM hsl hdep hDi hcl K hK
              have hp0 : a.tmps.getD 0 undef = (.slice (some ⟨g, 0, none⟩) n cap) := hsl 0 (by intro j hj; unfold YRvd; split <;> omega)
              refine ⟨rfl, ?_⟩
              refine wp_val (w' := w) (v := (.slice (some ⟨g, 0, none⟩) n cap)) (by simp only [execOp, Act.eval]; rw [show a.tmps.getD 0 undef = _ from hp0]; rfl) ?_
              exact hK _ _ rfl (msw_ne (by decide) (by decide) hM) (fun _ _ _ _ h => h)
            | 1, ho =>
              obtain rfl := Option.some.inj ho
              intro D a w hM hsl hdep hDi hcl K hK
              have hp17 : a.tmps.getD 17 undef = (.int .i64 (kk : Nat)) := hsl 17 (by intro j hj; unfold YRvd; split <;> omega)
              refine ⟨rfl, ?_⟩
              refine wp_val (w' := w) (v := (.int .i64 (kk : Nat))) (by simp only [execOp, Act.eval]; rw [show a.tmps.getD 17 undef = _ from hp17]; rfl) ?_
              exact hK _ _ rfl (msw_ne (by decide) (by decide) hM) (fun _ _ _ _ h => h)
            | 2, ho =>
              obtain rfl := Option.some.inj ho
              intro D a w hM hsl hdep hDi hcl K hK
              have hp0 : a.tmps.getD 0 undef = (.slice (some ⟨g, 0, none⟩) n cap) := hsl 0 (by intro j hj; unfold YRvd; split <;> omega)
              refine ⟨rfl, ?_⟩
              refine wp_val (w' := w) (v := (.slice (some ⟨g, 0, none⟩) n cap)) (by simp only [execOp, Act.eval]; rw [show a.tmps.getD 0 undef = _ from hp0]; rfl) ?_
              exact hK _ _ rfl (msw_ne (by decide) (by decide) hM) (fun _ _ _ _ h => h)
            | 3, ho =>
              obtain rfl := Option.some.inj ho
              intro D a w hM hsl hdep hDi hcl K hK
              have hp17 : a.tmps.getD 17 undef = (.int .i64 (kk : Nat)) := hsl 17 (by intro j hj; unfold YRvd; split <;> omega)
              refine ⟨rfl, ?_⟩
              refine wp_val (w' := w) (v := (.int .i64 (kk : Nat))) (by simp only [execOp, Act.eval]; rw [show a.tmps.getD 17 undef = _ from hp17]; rfl) ?_
              exact hK _ _ rfl (msw_ne (by decide) (by decide) hM) (fun _ _ _ _ h => h)
            | 4, ho =>
              obtain rfl := Option.some.inj ho
              intro D a w hM hsl hdep hDi hcl K hK
              have e3 := (hdep ⟨3, .data⟩ (by simp) rfl).1
              refine ⟨rfl, ?_⟩
              refine wp_val (w' := w) (v := (.int .i64 (kk - 1 : Nat))) (by simp only [execOp, Act.eval]; rw [show a.tmps.getD 116 undef = _ from e3]; simp only [Sem.run_bind, eqg_sub, hsb, Result.andThen_ok, Sem.run_pure]) ?_
              exact hK _ _ rfl (msw_ne (by decide) (by decide) hM) (fun _ _ _ _ h => h)
            | 5, ho =>
              obtain rfl := Option.some.inj ho
              intro D a w hM hsl hdep hDi hcl K hK
              have hp0 : a.tmps.getD 0 undef = (.slice (some ⟨g, 0, none⟩) n cap) := hsl 0 (by intro j hj; unfold YRvd; split <;> omega)
              refine ⟨rfl, ?_⟩
              refine wp_val (w' := w) (v := (.slice (some ⟨g, 0, none⟩) n cap)) (by simp only [execOp, Act.eval]; rw [show a.tmps.getD 0 undef = _ from hp0]; rfl) ?_
              exact hK _ _ rfl (msw_ne (by decide) (by decide) hM) (fun _ _ _ _ h => h)
            | 6, ho =>
              obtain rfl := Option.some.inj ho
              intro D a w hM hsl hdep hDi hcl K hK
              have hp17 : a.tmps.getD 17 undef = (.int .i64 (kk : Nat)) := hsl 17 (by intro j hj; unfold YRvd; split <;> omega)
              refine ⟨rfl, ?_⟩
              refine wp_val (w' := w) (v := (.int .i64 (kk : Nat))) (by simp only [execOp, Act.eval]; rw [show a.tmps.getD 17 undef = _ from hp17]; rfl) ?_
              exact hK _ _ rfl (msw_ne (by decide) (by decide) hM) (fun _ _ _ _ h => h)
            | 7, ho =>
              obtain rfl := Option.some.inj ho
              intro D a w hM hsl hdep hDi hcl K hK
              have e6 := (hdep ⟨6, .data⟩ (by simp) rfl).1
              refine ⟨rfl, ?_⟩
              refine wp_val (w' := w) (v := (.int .i64 (kk - 1 : Nat))) (by simp only [execOp, Act.eval]; rw [show a.tmps.getD 119 undef = _ from e6]; simp only [Sem.run_bind, eqg_sub, hsb, Result.andThen_ok, Sem.run_pure]) ?_
              exact hK _ _ rfl (msw_ne (by decide) (by decide) hM) (fun _ _ _ _ h => h)
            | 8, ho =>
              obtain rfl := Option.some.inj ho
              intro D a w hM hsl hdep hDi hcl K hK
              have e5 := (hdep ⟨5, .data⟩ (by simp) rfl).1
              have e7 := (hdep ⟨7, .data⟩ (by simp) rfl).1
              refine ⟨rfl, ?_⟩
              refine wp_val (w' := w) (v := .pointer (some ⟨g, (kk - 1) * 6, none⟩)) (by simp only [execOp, Act.eval]; rw [show a.tmps.getD 118 undef = _ from e5, show a.tmps.getD 120 undef = _ from e7]; simp only [Sem.run_bind, ix_sP hk1n, Result.andThen_ok, Sem.run_pure]) ?_
              exact hK _ _ rfl (msw_ne (by decide) (by decide) hM) (fun _ _ _ _ h => h)
            | 9, ho =>
              obtain rfl := Option.some.inj ho
              intro D a w hM hsl hdep hDi hcl K hK
              have e8 := (hdep ⟨8, .data⟩ (by simp) rfl).1
              have hD15 : D 15 = false := by cases h9 : D 15 with | false => rfl | true => have := hcl 15 _ rfl h9 ⟨9, .data⟩ (by simp) rfl; rw [this] at hDi; cases hDi
              have hD17 : D 17 = false := by cases h9 : D 17 with | false => rfl | true => have := hcl 17 _ rfl h9 ⟨9, .phase⟩ (by simp) rfl; rw [this] at hDi; cases hDi
              have hl := (msw_00 hD15 hD17 hM).load hk1n
              refine ⟨rfl, ?_⟩
              refine wp_val (w' := w) (v := .agg (cl ((rot F kk xm (xm + 1)) (kk - 1))).toArray) (by simp only [execOp, Act.eval]; rw [show a.tmps.getD 121 undef = _ from e8]; simp only [Sem.run_bind, hl, Result.andThen_ok, Sem.run_pure]) ?_
              exact hK _ _ rfl (msw_ne (by decide) (by decide) hM) (fun _ _ _ _ h => h)
            | 10, ho =>
              obtain rfl := Option.some.inj ho
              intro D a w hM hsl hdep hDi hcl K hK
              have hp0 : a.tmps.getD 0 undef = (.slice (some ⟨g, 0, none⟩) n cap) := hsl 0 (by intro j hj; unfold YRvd; split <;> omega)
              refine ⟨rfl, ?_⟩
              refine wp_val (w' := w) (v := (.slice (some ⟨g, 0, none⟩) n cap)) (by simp only [execOp, Act.eval]; rw [show a.tmps.getD 0 undef = _ from hp0]; rfl) ?_
              exact hK _ _ rfl (msw_ne (by decide) (by decide) hM) (fun _ _ _ _ h => h)
            | 11, ho =>
              obtain rfl := Option.some.inj ho
              intro D a w hM hsl hdep hDi hcl K hK
              have hp17 : a.tmps.getD 17 undef = (.int .i64 (kk : Nat)) := hsl 17 (by intro j hj; unfold YRvd; split <;> omega)
              refine ⟨rfl, ?_⟩
              refine wp_val (w' := w) (v := (.int .i64 (kk : Nat))) (by simp only [execOp, Act.eval]; rw [show a.tmps.getD 17 undef = _ from hp17]; rfl) ?_
              exact hK _ _ rfl (msw_ne (by decide) (by decide) hM) (fun _ _ _ _ h => h)
            | 12, ho =>
              obtain rfl := Option.some.inj ho
              intro D a w hM hsl hdep hDi hcl K hK
              have e10 := (hdep ⟨10, .data⟩ (by simp) rfl).1
              have e11 := (hdep ⟨11, .data⟩ (by simp) rfl).1
              refine ⟨rfl, ?_⟩
              refine wp_val (w' := w) (v := .pointer (some ⟨g, (kk) * 6, none⟩)) (by simp only [execOp, Act.eval]; rw [show a.tmps.getD 123 undef = _ from e10, show a.tmps.getD 124 undef = _ from e11]; simp only [Sem.run_bind, ix_sP hkn, Result.andThen_ok, Sem.run_pure]) ?_
              exact hK _ _ rfl (msw_ne (by decide) (by decide) hM) (fun _ _ _ _ h => h)
            | 13, ho =>
              obtain rfl := Option.some.inj ho
              intro D a w hM hsl hdep hDi hcl K hK
              have e12 := (hdep ⟨12, .data⟩ (by simp) rfl).1
              have hD15 : D 15 = false := by cases h9 : D 15 with | false => rfl | true => have := hcl 15 _ rfl h9 ⟨13, .phase⟩ (by simp) rfl; rw [this] at hDi; cases hDi
              have hD17 : D 17 = false := by cases h9 : D 17 with | false => rfl | true => have := hcl 17 _ rfl h9 ⟨13, .data⟩ (by simp) rfl; rw [this] at hDi; cases hDi
              have hl := (msw_00 hD15 hD17 hM).load hkn
              refine ⟨rfl, ?_⟩
              refine wp_val (w' := w) (v := .agg (cl ((rot F kk xm (xm + 1)) (kk))).toArray) (by simp only [execOp, Act.eval]; rw [show a.tmps.getD 125 undef = _ from e12]; simp only [Sem.run_bind, hl, Result.andThen_ok, Sem.run_pure]) ?_
              exact hK _ _ rfl (msw_ne (by decide) (by decide) hM) (fun _ _ _ _ h => h)
            | 14, ho =>
              obtain rfl := Option.some.inj ho
              intro D a w hM hsl hdep hDi hcl K hK
              have e0 := (hdep ⟨0, .data⟩ (by simp) rfl).1
              have e1 := (hdep ⟨1, .data⟩ (by simp) rfl).1
              refine ⟨rfl, ?_⟩
              refine wp_val (w' := w) (v := .pointer (some ⟨g, (kk) * 6, none⟩)) (by simp only [execOp, Act.eval]; rw [show a.tmps.getD 113 undef = _ from e0, show a.tmps.getD 114 undef = _ from e1]; simp only [Sem.run_bind, ix_sP hkn, Result.andThen_ok, Sem.run_pure]) ?_
              exact hK _ _ rfl (msw_ne (by decide) (by decide) hM) (fun _ _ _ _ h => h)
            | 15, ho =>
              obtain rfl := Option.some.inj ho
              intro D a w hM hsl hdep hDi hcl K hK
              have e14 := (hdep ⟨14, .data⟩ (by simp) rfl).1
              have e9 := (hdep ⟨9, .data⟩ (by simp) rfl).1
              obtain ⟨c, hst, hM2⟩ := msw_1 (s1 := 15) (s2 := 17) (by decide) hxy hkn hDi hM
              refine ⟨rfl, ?_⟩
              refine wp_skp (w' := w.setRow g c) (by simp only [execOp, Act.eval]; rw [show a.tmps.getD 127 undef = _ from e14, show a.tmps.getD 122 undef = _ from e9]; simp only [Sem.run_bind, hst, Result.andThen_ok, Sem.run_pure]) ?_
              exact hK _ _ trivial hM2 (fun _ _ _ _ h => h)
            | 16, ho =>
              obtain rfl := Option.some.inj ho
              intro D a w hM hsl hdep hDi hcl K hK
              have e2 := (hdep ⟨2, .data⟩ (by simp) rfl).1
              have e4 := (hdep ⟨4, .data⟩ (by simp) rfl).1
              refine ⟨rfl, ?_⟩
              refine wp_val (w' := w) (v := .pointer (some ⟨g, (kk - 1) * 6, none⟩)) (by simp only [execOp, Act.eval]; rw [show a.tmps.getD 115 undef = _ from e2, show a.tmps.getD 117 undef = _ from e4]; simp only [Sem.run_bind, ix_sP hk1n, Result.andThen_ok, Sem.run_pure]) ?_
              exact hK _ _ rfl (msw_ne (by decide) (by decide) hM) (fun _ _ _ _ h => h)
            | 17, ho =>
              obtain rfl := Option.some.inj ho
              intro D a w hM hsl hdep hDi hcl K hK
              have e16 := (hdep ⟨16, .data⟩ (by simp) rfl).1
              have e13 := (hdep ⟨13, .data⟩ (by simp) rfl).1
              obtain ⟨c, hst, hM2⟩ := msw_2 (s1 := 15) (s2 := 17) (by decide) hxy hk1n hDi hM
              refine ⟨rfl, ?_⟩
              refine wp_skp (w' := w.setRow g c) (by simp only [execOp, Act.eval]; rw [show a.tmps.getD 128 undef = _ from e16, show a.tmps.getD 126 undef = _ from e13]; simp only [Sem.run_bind, hst, Result.andThen_ok, Sem.run_pure]) ?_
              exact hK _ _ trivial hM2 (fun _ _ _ _ h => h)
            | _ + 18, ho => exact absurd ho (by simp)
          · intro D a wt hall hd hs hM hsl hr hact
            replace hM := msw_11 hxy (hall 15 (by decide)) (hall 17 (by decide)) hM
            simp only [List.filterMap_cons, List.filterMap_nil, List.foldl_cons, List.foldl_nil] at hact
            rw [hact]
            generalize a.tmps.getD 113 undef = y113
            generalize a.tmps.getD 114 undef = y114
            generalize a.tmps.getD 115 undef = y115
            generalize a.tmps.getD 116 undef = y116
            generalize a.tmps.getD 117 undef = y117
            generalize a.tmps.getD 118 undef = y118
            generalize a.tmps.getD 119 undef = y119
            generalize a.tmps.getD 120 undef = y120
            generalize a.tmps.getD 121 undef = y121
            generalize a.tmps.getD 122 undef = y122
            generalize a.tmps.getD 123 undef = y123
            generalize a.tmps.getD 124 undef = y124
            generalize a.tmps.getD 125 undef = y125
            generalize a.tmps.getD 126 undef = y126
            generalize a.tmps.getD 127 undef = y127
            generalize a.tmps.getD 128 undef = y128
            clear hact hsl hr hd hs hall a
            simp only [Act.put, List.setIfInBounds_toArray, List.set_cons_succ, List.set_cons_zero]
            obtain ⟨hR5, hO5⟩ := hM
            rw [hsr.out] at hR5
            have hR6 := hide1 hR5
            have hK6 : Hid (Kg g w wt) := hide1 (hK2.out.trans hO5.kg)
            clear hR5 hO5 hsr hsb hR2 hK2
            go_wp2
            go_roundw
            case rel => exact ⟨kk - 1, by first | rfl | (congr 1; omega) | go_num, by omega, by omega, hR6, hK6⟩
            case measure => simp [intOf]; omega
        · obtain rfl : i = kk := by omega
          go_wp2
          first
          | (go_end0; exact ⟨rfl, _, hfin.out, hR2.out, hK2.out⟩)
          | (refine bodyPost_ret (results_none rfl _ _ _) rfl ?_; exact ⟨rfl, _, hfin.out, hR2.out, hK2.out⟩)
end Go.Proofs.YtbemaloaobeblaaGreatDoor

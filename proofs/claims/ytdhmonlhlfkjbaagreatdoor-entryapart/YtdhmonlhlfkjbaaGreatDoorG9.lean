/- EA16, EA17, EAi: laid together. -/
import Derived.Lib.SlBytesConst
import Derived.Test.YtdhmonlhlfkjbaaGreatDoorG8
import Derived.Test.YtdhmonlhlfkjbaaGreatDoorG3
import Derived.Test.YtdhmonlhlfkjbaaGreatDoorG7
namespace Go.Proofs.YtdhmonlhlfkjbaaGreatDoor
open Go.RowKit Go.Shelf

theorem bs_bc (w : World) : BsA (w.alloc (.cells #[.int .u8 98, .int .u8 99] 5 (2, 3))) (.slice (some ⟨w.heap.size, 0, none⟩) 2 2) [98, 99] :=
  ⟨_, 2, rfl, .inr ⟨w.heap.size, 0, rfl, by simp, fun j x hj => by
    have hn : (w.alloc (.cells #[.int .u8 98, .int .u8 99] 5 (2, 3))).heap[w.heap.size]? = some (.cells #[.int .u8 98, .int .u8 99] 5 (2, 3)) := by
      show (w.heap.push _)[w.heap.size]? = _
      rw [Array.getElem?_push, if_pos rfl]
    match j with
    | 0 => cases hj; simp only [World.cell?, hn]; rfl
    | 1 => cases hj; simp only [World.cell?, hn]; rfl
    | j + 2 => simp at hj⟩⟩
set_option maxHeartbeats 4000000 in
set_option maxRecDepth 100000 in
theorem alive_e {w : World} (hT : Ev w) (h8 : 8 ≤ w.heap.size) : Calls Tryz.prog 6 #[] w fun e w' => e = .returned (.bool true) ∧ Below w.heap.size w w' := by
  obtain ⟨wb, hwb⟩ : ∃ wb, wb = w.alloc (.cells #[.int .u8 98, .int .u8 99] 5 (2, 3)) := ⟨_, rfl⟩
  have bb : Below w.heap.size w wb := by rw [hwb]; exact below_na _
  have hbs : BsA wb (.slice (some ⟨w.heap.size, 0, none⟩) 2 2) [98, 99] := by rw [hwb]; exact bs_bc w
  have hau := auth_e (k := [97]) hbs (by decide) (by decide) (hT.below bb (by omega)) (by have := bb.size; omega)
  rw [au_ex] at hau
  replace hau : Calls Tryz.prog 10 #[.string ⟨#[97]⟩, .slice (some ⟨w.heap.size, 0, none⟩) 2 2] wb _ := hau
  have kc := fun (w : World) (C : Array Value) (n c : Nat) => Lib.run_convert_bytes_const (P := Tryz.prog) w 22 5 C n c Tryz.underlying22 Tryz.underlying5
  replace bb := hide1 bb
  replace hT := hide1 hT
  clear hbs
  go_enter Tryz.func6, Tryz.ntmps6
  go_wp2_with fail
  rw [← hwb]
  refine hau.mono ?_
  rintro e w1 ⟨b, c, rfl, hb1, -, -, b1⟩
  have hcv := conv_b hb1
  replace hcv : (convert 22 9 (.slice (some ⟨b, 0, none⟩) 15 c)).run Tryz.prog w1 = .ok (.string ⟨#[68, 83, 83, 69, 118, 49, 32, 49, 32, 97, 32, 50, 32, 98, 99]⟩) w1 := hcv
  have B1 := hide1 (bb.out.trans (b1.mono bb.out.size))
  have ho := one_e w1
  clear hau hb1 b1 bb hwb kc
  go_wp2_with fail
  refine ho.mono ?_
  rintro e w2 ⟨g, rfl, hs2, -, b2⟩
  have B2 := B1.out.trans (b2.mono B1.out.size)
  have hpu := put_1 (cg := 1) hs2 (hT.out.below B2 (by omega)) (by have := B2.size; omega)
  replace B2 := hide1 B2
  clear ho hs2 b2 B1 hcv
  go_wp2_with fail
  refine hpu.mono ?_
  rintro e w3 ⟨v, rfl, b3, hb3⟩
  have B3 := B2.out.trans (b3.mono B2.out.size)
  have hpa := parse_a hb3 (hT.out.below B3 (by omega)) (by have := B3.size; omega)
  replace B3 := hide1 B3
  clear hpu hb3 b3 B2
  go_wp2_with fail
  refine hpa.mono ?_
  rintro e w8 ⟨gs, cg, rfl, hs8, -, b8⟩
  have B8 := B3.out.trans (b8.mono B3.out.size)
  have ha := heap_na w8 Tryz.zeroCells45 45
  have hx9 := setRow_heap _ _ _ (entA 1 0 [] (.slice (some ⟨gs, 0, none⟩) 1 cg)) _ _ ha
  have hone : ((entA 1 0 [] (.slice (some ⟨gs, 0, none⟩) 1 cg))).all (·.oneCell') = true := by kernel_rfl
  obtain ⟨w9, hw9⟩ : ∃ w9, w9 = (w8.alloc (.cells Tryz.zeroCells45 45)).setRow w8.heap.size (entA 1 0 [] (.slice (some ⟨gs, 0, none⟩) 1 cg)) := ⟨_, rfl⟩
  have b9 : Below w8.heap.size w8 w9 := by rw [hw9]; exact blw_own (below_na _) (Nat.le_refl _) _
  rw [← hw9] at hx9
  have hl9 := (Array.getElem?_eq_some_iff.1 hx9).1
  have hx : Hid (En1 w9 w8.heap.size (entA 1 0 [] (.slice (some ⟨gs, 0, none⟩) 1 cg))) := hide1 ⟨hx9, rfl⟩
  have hc0 : Hid (∀ wa, Below w9.heap.size w9 wa → wa.cell? ⟨w8.heap.size, 0, none⟩ = some (.int .i64 1)) := hide1 fun wa hwa => cell_of 0 ((hwa.block _ hl9).trans hx9) rfl
  have hsg := hide1 (hs8.below b9)
  have B9 := hide1 (B8.trans (b9.mono B8.size))
  clear hpa hs8 b8 B3 B8 b9 hx9
  go_upto_region 7 with (first | (refine wpList_store_row rfl 45 (.tmp 3) (.tmp 19) rfl w8.heap.size (entA 1 0 [] (.slice (some ⟨gs, 0, none⟩) 1 cg)) rfl rfl 45 _ ha (by kernel_rfl) (by kernel_rfl) hone ?_) | fail)
  rw [← hw9]
  clear hw9 ha hone
  refine wp_flowG 12 _ _ (by kernel_rfl) (by kernel_rfl) (by kernel_rfl) rfl (fun j v_ w_ => if j = 4 then (fun v w2 => ∃ g, v = .agg (entA 1 0 [] (.slice (some ⟨g, 0, none⟩) 1 1)) ∧ Sg1 w2 g alc) v_ w_ else v_ = ([.nilIface, (.bool true), (.bool true), (.agg (entA 1 0 [] (.slice (some ⟨gs, 0, none⟩) 1 cg))), undef, (.bool true), (.bool true), (.bool true), (.pointer (some ⟨w8.heap.size, 0, none⟩)), (.int .i64 1), (.bool true), (.bool true), (.bool true)] : List Value).getD j undef) (fun j v w w' h hb => by
        by_cases e4 : j = 4
        · subst e4; exact by obtain ⟨g, e, hs⟩ := h; exact ⟨g, e, hs.below hb⟩
        · simp only [if_neg e4] at h ⊢; exact h
        ) ?_ ?_
  · intro j op hop hj a wa hwa hsz hsl hdep K hK
    match j, hop with
    | 0, hop =>
      obtain rfl := Option.some.inj hop
      have p2 : a.tmps.getD 2 undef = .nilIface := hsl 2 rfl
      exact .plain rfl (wp_val (w' := wa) (v := .nilIface) (by simp only [execOp, Act.eval]; rw [show a.tmps.getD 2 undef = _ from p2]; rfl) (hK _ _ (Below.refl _ _) rfl))
    | 1, hop =>
      obtain rfl := Option.some.inj hop
      have t0 : a.tmps.getD 21 undef = .nilIface := hdep 0 _ 21 rfl rfl ⟨⟨0, .data⟩, by simp, rfl, rfl⟩
      exact .plain rfl (wp_val (w' := wa) (v := (.bool true)) (by simp only [execOp, Act.eval]; rw [show a.tmps.getD 21 undef = _ from t0]; kernel_rfl) (hK _ _ (Below.refl _ _) rfl))
    | 2, hop =>
      obtain rfl := Option.some.inj hop
      have t1 : a.tmps.getD 22 undef = (.bool true) := hdep 1 _ 22 rfl rfl ⟨⟨1, .data⟩, by simp, rfl, rfl⟩
      exact .plain rfl (wp_val (w' := wa) (v := (.bool true)) (by simp only [execOp, Act.eval]; rw [show a.tmps.getD 22 undef = _ from t1]; rfl) (hK _ _ (Below.refl _ _) rfl))
    | 3, hop =>
      obtain rfl := Option.some.inj hop
      have gg : a.tmps.getD 23 undef = (.bool true) := hdep 2 _ 23 rfl rfl ⟨⟨2, .guard⟩, by simp, rfl, rfl⟩
      have p3 : a.tmps.getD 3 undef = (.pointer (some ⟨w8.heap.size, 0, none⟩)) := hsl 3 rfl
      exact .want rfl rfl (by rw [hsz]; simp) gg (wp_val (w' := wa) (v := (.agg (entA 1 0 [] (.slice (some ⟨gs, 0, none⟩) 1 cg)))) (by simp only [execOp, Act.eval]; rw [show a.tmps.getD 3 undef = _ from p3]; simp only [Sem.run_bind, ldEn (hx.out.below hwa), Result.andThen_ok, Sem.run_pure]) (hK _ _ (Below.refl _ _) rfl))
    | 4, hop =>
      obtain rfl := Option.some.inj hop
      have gg : a.tmps.getD 23 undef = (.bool true) := hdep 2 _ 23 rfl rfl ⟨⟨2, .guard⟩, by simp, rfl, rfl⟩
      refine .want rfl rfl (by rw [hsz]; simp) gg (oper_any (J := fun r w' => (fun v w2 => ∃ g, v = .agg (entA 1 0 [] (.slice (some ⟨g, 0, none⟩) 1 1)) ∧ Sg1 w2 g alc) r w' ∧ Below wa.heap.size wa w') 12 #[] _ rfl #[] (by simp) (fun w => by kernel_rfl) ((one_e wa).mono fun e w' h => by obtain ⟨g, rfl, h1, _, h3⟩ := h; exact ⟨_, rfl, ⟨g, rfl, h1⟩, h3⟩) ?_)
      rintro r w' ⟨hr, hb⟩
      exact hK _ _ hb hr
    | 5, hop =>
      obtain rfl := Option.some.inj hop
      have gg : a.tmps.getD 23 undef = (.bool true) := hdep 2 _ 23 rfl rfl ⟨⟨2, .guard⟩, by simp, rfl, rfl⟩
      have t3 : a.tmps.getD 24 undef = (.agg (entA 1 0 [] (.slice (some ⟨gs, 0, none⟩) 1 cg))) := hdep 3 _ 24 rfl rfl ⟨⟨3, .data⟩, by simp, rfl, rfl⟩
      have t4 : (fun v w2 => ∃ g, v = .agg (entA 1 0 [] (.slice (some ⟨g, 0, none⟩) 1 1)) ∧ Sg1 w2 g alc) (a.tmps.getD 25 undef) wa := hdep 4 _ 25 rfl rfl ⟨⟨4, .data⟩, by simp, rfl, rfl⟩
      refine .want rfl rfl (by rw [hsz]; simp) gg (oper_any (J := fun r w' => r = (.bool true) ∧ Below wa.heap.size wa w') 14 #[.tmp 24, .tmp 25] _ rfl #[(.agg (entA 1 0 [] (.slice (some ⟨gs, 0, none⟩) 1 cg))), a.tmps.getD 25 undef] (by simp only [List.map_toArray, List.map_cons, List.map_nil, Act.eval]; rw [show a.tmps.getD 24 undef = _ from t3]) (fun w => by kernel_rfl) (by obtain ⟨g2, ev, hs2⟩ := t4; rw [ev]; exact (equal_e tld_a (hsg.out.below hwa) hs2).mono fun e w' h => ⟨_, h.1, rfl, h.2⟩) ?_)
      rintro r w' ⟨rfl, hb⟩
      exact hK _ _ hb rfl
    | 6, hop =>
      obtain rfl := Option.some.inj hop
      have t2 : a.tmps.getD 23 undef = (.bool true) := hdep 2 _ 23 rfl rfl ⟨⟨2, .data⟩, by simp, rfl, rfl⟩
      have t5 : a.tmps.getD 26 undef = (.bool true) := hdep 5 _ 26 rfl rfl ⟨⟨5, .data⟩, by simp, rfl, rfl⟩
      exact .plain rfl (wp_val (w' := wa) (v := (.bool true)) (by simp only [execOp, Act.eval]; rw [show a.tmps.getD 23 undef = _ from t2, show a.tmps.getD 26 undef = _ from t5]; rfl) (hK _ _ (Below.refl _ _) rfl))
    | 7, hop =>
      obtain rfl := Option.some.inj hop
      have t6 : a.tmps.getD 27 undef = (.bool true) := hdep 6 _ 27 rfl rfl ⟨⟨6, .data⟩, by simp, rfl, rfl⟩
      exact .plain rfl (wp_val (w' := wa) (v := (.bool true)) (by simp only [execOp, Act.eval]; rw [show a.tmps.getD 27 undef = _ from t6]; rfl) (hK _ _ (Below.refl _ _) rfl))
    | 8, hop =>
      obtain rfl := Option.some.inj hop
      have gg : a.tmps.getD 28 undef = (.bool true) := hdep 7 _ 28 rfl rfl ⟨⟨7, .guard⟩, by simp, rfl, rfl⟩
      have p3 : a.tmps.getD 3 undef = (.pointer (some ⟨w8.heap.size, 0, none⟩)) := hsl 3 rfl
      exact .want rfl rfl (by rw [hsz]; simp) gg (wp_val (w' := wa) (v := (.pointer (some ⟨w8.heap.size, 0, none⟩))) (by simp only [execOp, Act.eval]; rw [show a.tmps.getD 3 undef = _ from p3]; kernel_rfl) (hK _ _ (Below.refl _ _) rfl))
    | 9, hop =>
      obtain rfl := Option.some.inj hop
      have gg : a.tmps.getD 28 undef = (.bool true) := hdep 7 _ 28 rfl rfl ⟨⟨7, .guard⟩, by simp, rfl, rfl⟩
      have t8 : a.tmps.getD 29 undef = (.pointer (some ⟨w8.heap.size, 0, none⟩)) := hdep 8 _ 29 rfl rfl ⟨⟨8, .data⟩, by simp, rfl, rfl⟩
      exact .want rfl rfl (by rw [hsz]; simp) gg (wp_val (w' := wa) (v := (.int .i64 1)) (by simp only [execOp, Act.eval]; rw [show a.tmps.getD 29 undef = _ from t8]; simp only [Sem.run_bind, ld_iE (hc0.out wa hwa), Result.andThen_ok, Sem.run_pure]) (hK _ _ (Below.refl _ _) rfl))
    | 10, hop =>
      obtain rfl := Option.some.inj hop
      have gg : a.tmps.getD 28 undef = (.bool true) := hdep 7 _ 28 rfl rfl ⟨⟨7, .guard⟩, by simp, rfl, rfl⟩
      have t9 : a.tmps.getD 30 undef = (.int .i64 1) := hdep 9 _ 30 rfl rfl ⟨⟨9, .data⟩, by simp, rfl, rfl⟩
      exact .want rfl rfl (by rw [hsz]; simp) gg (wp_val (w' := wa) (v := (.bool true)) (by simp only [execOp, Act.eval]; rw [show a.tmps.getD 30 undef = _ from t9]; kernel_rfl) (hK _ _ (Below.refl _ _) rfl))
    | 11, hop =>
      obtain rfl := Option.some.inj hop
      have t7 : a.tmps.getD 28 undef = (.bool true) := hdep 7 _ 28 rfl rfl ⟨⟨7, .data⟩, by simp, rfl, rfl⟩
      have t10 : a.tmps.getD 31 undef = (.bool true) := hdep 10 _ 31 rfl rfl ⟨⟨10, .data⟩, by simp, rfl, rfl⟩
      exact .plain rfl (wp_val (w' := wa) (v := (.bool true)) (by simp only [execOp, Act.eval]; rw [show a.tmps.getD 28 undef = _ from t7, show a.tmps.getD 31 undef = _ from t10]; rfl) (hK _ _ (Below.refl _ _) rfl))
    | 12, _ => exact absurd rfl hj
    | _ + 13, hop => exact absurd hop (by simp)
  · intro a wa hwa hdf hsz hsl hrr K hK
    have t11 : a.tmps.getD 32 undef = (.bool true) := hrr 11 _ 32 rfl (by decide) rfl
    refine .plain rfl (wp_val (w' := wa) (v := (.bool true)) (by simp only [execOp, Act.eval]; rw [show a.tmps.getD 32 undef = _ from t11]; rfl) ?_)
    refine hK _ wa ?_
    have hact := act_puts hdf hsz hsl
    clear hrr hsl hdf hsz hK t11
    simp only [List.filterMap_cons, List.filterMap_nil, List.foldl_cons, List.foldl_nil] at hact
    rw [hact]
    generalize a.tmps.getD 21 undef = y21
    generalize a.tmps.getD 22 undef = y22
    generalize a.tmps.getD 23 undef = y23
    generalize a.tmps.getD 24 undef = y24
    generalize a.tmps.getD 25 undef = y25
    generalize a.tmps.getD 26 undef = y26
    generalize a.tmps.getD 27 undef = y27
    generalize a.tmps.getD 28 undef = y28
    generalize a.tmps.getD 29 undef = y29
    generalize a.tmps.getD 30 undef = y30
    generalize a.tmps.getD 31 undef = y31
    generalize a.tmps.getD 32 undef = y32
    clear hact
    simp only [Act.put, List.setIfInBounds_toArray, List.set_cons_succ, List.set_cons_zero]
    have hfin := hide1 (B9.out.trans (hwa.mono B9.out.size))
    clear hwa hx hc0 hsg B9
    go_wp2
    go_ret
    exact ⟨rfl, hfin.out⟩
set_option maxRecDepth 100000 in
theorem same_e {w : World} {a b : Option Addr} {n m c d : Nat} {l r : List UInt8} (h : BsA w (.slice a n c) l) (h' : BsA w (.slice b m d) r) : Calls Tryz.prog 9 #[.slice a n c, .slice b m d] w fun e w' => e = .returned (.bool (decide (l = r))) ∧ w' = w := by
  have h1 := conv_b h
  have h2 := conv_b h'
  have hf : Hid ((Ending.returned (.bool ((st l).toList == (st r).toList)) : Ending) = .returned (.bool (decide (l = r)))) := hide1 (by rw [st_beqE])
  clear h h'
  go_enter Tryz.func9, Tryz.ntmps9
  go_wp2
  go_ret
  exact ⟨hf.out, rfl⟩
theorem egeqE {x u : Operand} (a b : ByteArray) (w : World) : (eqGuard .eql 9 x u (.string a) (.string b)).run Tryz.prog w = .ok () w := by simp [eqGuard, go_sem]
theorem st_eqE (a b : List UInt8) (w : World) : (binOp .eql 9 (.string (st a)) (.string (st b))).run Tryz.prog w = .ok (.bool (decide (a = b))) w := by
  have h := st_beqE a b
  simp [binOp, go_sem, Op.stringOp, h]
theorem wpList_eqsE {w : World} {ops : Array Oper} {rest : List Oper} {oo : Oper} {a : Act} {Q : Exit → Act → World → Prop} (hgd : oo.guard = none) (x y : Operand) (l m : List UInt8) {t : TypeId} (ho : oo.op = .binOp .eql 9 x y t) (hx : a.eval x = .string (st l)) (hy : a.eval y = .string (st m))
    (h : wpList Tryz.prog ops Q rest (a.put oo.dst (.bool (decide (l = m)))) w) : wpList Tryz.prog ops Q (oo :: rest) a w := by
  refine wpList_plain hgd fun K hK => ?_
  unfold Oper.wp execOp
  simp only [ho, hx, hy, Sem.run_bind, egeqE, st_eqE, Result.andThen_ok, Sem.run_pure]
  exact hK _ _ h
set_option maxHeartbeats 8000000 in
set_option maxRecDepth 100000 in
theorem apart_e {w : World} {a c b d : List UInt8} {ab ad : Option Addr} {cb cd : Nat} (hb : BsA w (.slice ab b.length cb) b) (hd : BsA w (.slice ad d.length cd) d) (hT : Ev w) (h8 : 8 ≤ w.heap.size) :
    Calls Tryz.prog 5 #[.string (st a), .slice ab b.length cb, .string (st c), .slice ad d.length cd] w fun e w' => e = .returned (.bool true) ∧ Below w.heap.size w w' := by
  have hal := alive_e hT h8
  have hsa := st_size a
  have hsc := st_size c
  have hY := auT_dec a b c d
  replace hb := hide1 hb
  replace hd := hide1 hd
  replace hT := hide1 hT
  replace hY := hide1 hY
  by_cases hall : a.length ≤ 1000 ∧ b.length ≤ 1000 ∧ c.length ≤ 1000 ∧ d.length ≤ 1000
  · obtain ⟨ha1, hb1, hc1, hd1⟩ := hall
    have n1 : ¬ (1000 : Int) < ((st a).size : Nat) := by omega
    have n2 : ¬ (1000 : Int) < (b.length : Nat) := by omega
    have n3 : ¬ (1000 : Int) < ((st c).size : Nat) := by omega
    have n4 : ¬ (1000 : Int) < (d.length : Nat) := by omega
    replace hsa := hide1 hsa
    replace hsc := hide1 hsc
    go_enter Tryz.func5, Tryz.ntmps5
    go_wp2_with fail
    refine hal.mono ?_
    rintro e w1 ⟨rfl, b1⟩
    have hx1 := auth_e (k := a) (hb.out.below b1) (by omega) (by omega) (hT.out.below b1 (by omega)) (by have := b1.size; omega)
    have B1 := hide1 b1
    clear hal b1
    go_wp2_with fail
    refine hx1.mono ?_
    rintro e w2 ⟨g1, c1, rfl, hs1, -, -, b2⟩
    have B2 := B1.out.trans (b2.mono B1.out.size)
    have hx2 := auth_e (k := c) (hd.out.below B2) (by omega) (by omega) (hT.out.below B2 (by omega)) (by have := B2.size; omega)
    replace B2 := hide1 B2
    replace hs1 := hide1 hs1
    obtain ⟨M1, hM1⟩ : ∃ M, Hid (M = (auT a b).length) := ⟨_, hide1 rfl⟩
    rw [← hM1.out] at hs1 ⊢
    clear hx1 b2 B1
    go_wp2_with fail
    refine hx2.mono ?_
    rintro e w3 ⟨g2, c2, rfl, hs2, -, -, b3⟩
    have B3 := B2.out.trans (b3.mono B2.out.size)
    have hsm := same_e (hs1.out.below b3) hs2
    rw [hY.out] at hsm
    have hsd := same_e (hb.out.below B3) (hd.out.below B3)
    replace B3 := hide1 B3
    obtain ⟨M2, hM2⟩ : ∃ M, Hid (M = (auT c d).length) := ⟨_, hide1 rfl⟩
    rw [← hM2.out] at hsm ⊢
    clear hx2 b3 B2 hs1 hs2
    obtain ⟨Z, hZ⟩ : ∃ Z, Hid (Z = decide (b = d)) := ⟨_, hide1 rfl⟩
    rw [← hZ.out] at hsm hsd
    obtain ⟨X, hX⟩ : ∃ X, Hid (X = decide (a = c)) := ⟨_, hide1 rfl⟩
    rw [← hX.out] at hsm
    go_wp2_with fail
    refine hsm.mono ?_
    rintro e w4 ⟨rfl, rfl⟩
    cases X with
    | true =>
      go_wp2_with (first | (refine wpList_eqsE rfl (.tmp 36) (.tmp 37) a c rfl rfl rfl ?_; rw [← hX.out]) | fail)
      refine hsd.mono ?_
      rintro e w5 ⟨rfl, rfl⟩
      clear hsm hsd
      cases Z <;>
      · go_wp2
        go_ret
        exact ⟨rfl, B3.out⟩
    | false =>
      clear hsd
      cases Z <;>
      · go_wp2_with (first | (refine wpList_eqsE rfl (.tmp 36) (.tmp 37) a c rfl rfl rfl ?_; rw [← hX.out]) | fail)
        go_ret
        exact ⟨rfl, B3.out⟩
  · clear hY hb hd hT
    go_enter Tryz.func5, Tryz.ntmps5
    go_wp2_with fail
    refine hal.mono ?_
    rintro e w1 ⟨rfl, b1⟩
    replace b1 := hide1 b1
    replace hall := hide1 hall
    clear hal
    by_cases h1 : (1000 : Int) < ((st a).size : Nat)
    · go_wp2
      go_ret
      exact ⟨rfl, b1.out⟩
    · by_cases h2 : (1000 : Int) < (b.length : Nat)
      · go_wp2
        go_ret
        exact ⟨rfl, b1.out⟩
      · by_cases h3 : (1000 : Int) < ((st c).size : Nat)
        · go_wp2
          go_ret
          exact ⟨rfl, b1.out⟩
        · have h4 : (1000 : Int) < (d.length : Nat) := by
            have := hall.out
            omega
          go_wp2
          go_ret
          exact ⟨rfl, b1.out⟩
set_option maxHeartbeats 1000000 in
set_option maxRecDepth 100000 in
theorem apart_walk {w : World} {a c b d : List UInt8} {ab ad : Option Addr} {cb cd : Nat} (hb : BsA w (.slice ab b.length cb) b) (hd : BsA w (.slice ad d.length cd) d) (hT : Ev w) (h8 : 8 ≤ w.heap.size) :
    Calls Tryz.prog 3 #[.agg #[.string (st a), .slice ab b.length cb, .string (st c), .slice ad d.length cd]] w fun e w' => e = .returned (.bool true) ∧ Below w.heap.size w w' := by
  obtain ⟨wb, hwb⟩ : ∃ wb, wb = w.alloc (.cells #[.string (st a), .slice ab b.length cb, .string (st c), .slice ad d.length cd] 24) := ⟨_, rfl⟩
  have bb : Below w.heap.size w wb := by rw [hwb]; exact below_na _
  have hn : wb.heap[w.heap.size]? = some (.cells #[.string (st a), .slice ab b.length cb, .string (st c), .slice ad d.length cd] 24 (0, 0)) := by rw [hwb]; exact heap_na _ _ _
  have c0 : wb.cell? ⟨w.heap.size, 0, none⟩ = some (.string (st a)) := cell_of 0 hn rfl
  have c1 : wb.cell? ⟨w.heap.size, 1, none⟩ = some (.slice ab b.length cb) := cell_of 1 hn rfl
  have c2 : wb.cell? ⟨w.heap.size, 2, none⟩ = some (.string (st c)) := cell_of 2 hn rfl
  have c3 : wb.cell? ⟨w.heap.size, 3, none⟩ = some (.slice ad d.length cd) := cell_of 3 hn rfl
  have hap := apart_e (a := a) (c := c) (hb.below bb) (hd.below bb) (hT.below bb (by omega)) (by have := bb.size; omega)
  generalize st a = A at *
  generalize st c = C at *
  generalize b.length = M at *
  generalize d.length = N at *
  replace bb := hide1 bb
  clear hn hb hd hT
  go_enter Tryz.func3, Tryz.ntmps3
  go_upto_region 1 with fail
  rw [← hwb]
  clear hwb
  go_wp2_with fail
  refine hap.mono ?_
  rintro e w1 ⟨rfl, b1⟩
  have hfin := hide1 (bb.out.trans (b1.mono bb.out.size))
  clear b1 hap
  go_wp2
  go_ret
  exact ⟨rfl, hfin.out⟩
end Go.Proofs.YtdhmonlhlfkjbaaGreatDoor

namespace Go.Proofs.YtdhmonlhlfkjbaaGreatDoor
open Go.ChangeShapes Go.WideShapes Go.ChangeAt Go.RowKit
section
variable {H : Type} {enc : TypeId × Value → H} {W : World} {held : Bool}
theorem byt_l {k : Nat} {l : List Value} {x : DataW H × List MemPlace} (h3 : DataW.trod enc Tryz.prog W 0 (fun _ => true) held k 22 l = some x) : ∃ (a : Option Addr) (cap : Nat) (b : List UInt8), l = [.slice a b.length cap] ∧ BsA W (.slice a b.length cap) b ∧ b.length ≤ cap := by
  obtain ⟨a, m, cap, rfl⟩ : ∃ a m cap, l = [.slice a m cap] := by
    rcases DataW.trod_slice Tryz.underlying22 h3 with ⟨e, _⟩ | ⟨a, m, cap, _, _, _, _, e, _⟩
    · exact ⟨none, 0, 0, e⟩
    · exact ⟨some a, m, cap, e⟩
  obtain ⟨b, rfl, h1, h2⟩ := bytes_inA h3
  exact ⟨a, cap, b, rfl, h2, h1⟩
theorem str_l {k : Nat} {l : List Value} {x : DataW H × List MemPlace} (h3 : DataW.trod enc Tryz.prog W 0 (fun _ => true) held k 9 l = some x) : ∃ a : List UInt8, l = [.string (st a)] := by
  obtain ⟨s0, e0, _, sz0⟩ := DataW.trod_string Tryz.underlying9 h3
  exact ⟨s0.data.toList, by rw [e0]; cases s0; simp [st]⟩
theorem two_in {cs : Array Value} {d : DataW H} {p : List MemPlace} (h : DataW.Trod enc Tryz.prog W 0 (fun _ => true) held 24 (.agg cs) d p) :
    ∃ (a c b d : List UInt8) (ab ad : Option Addr) (cb cd : Nat), cs = #[.string (st a), .slice ab b.length cb, .string (st c), .slice ad d.length cd] ∧ BsA W (.slice ab b.length cb) b ∧ b.length ≤ cb ∧ BsA W (.slice ad d.length cd) d ∧ d.length ≤ cd := by
  obtain ⟨fuel, h⟩ := h
  obtain ⟨xs, k, rfl, -, hl, hx, hi⟩ := DataW.trod_struct Tryz.underlying24 h
  have c1 : Tryz.prog.cellsOf 9 = 1 := by kernel_rfl
  have c2 : Tryz.prog.cellsOf 22 = 1 := by kernel_rfl
  have c39 : Tryz.prog.cellsOf 24 = 4 := by kernel_rfl
  have hx5 : xs.length = 4 := hx
  have hg : ∀ i (h : i < 4), xs[i]? = some (xs[i]'(by omega)) := fun i h => List.getElem?_eq_getElem _
  have h0 : DataW.trod enc Tryz.prog W 0 (fun _ => true) held k 9 ((cs.toList.drop 0).take (Tryz.prog.cellsOf 9)) = xs[0]? := hi 0 _ rfl
  have h1 : DataW.trod enc Tryz.prog W 0 (fun _ => true) held k 22 ((cs.toList.drop 1).take (Tryz.prog.cellsOf 22)) = xs[1]? := hi 1 _ rfl
  have h2 : DataW.trod enc Tryz.prog W 0 (fun _ => true) held k 9 ((cs.toList.drop 2).take (Tryz.prog.cellsOf 9)) = xs[2]? := hi 2 _ rfl
  have h3 : DataW.trod enc Tryz.prog W 0 (fun _ => true) held k 22 ((cs.toList.drop 3).take (Tryz.prog.cellsOf 22)) = xs[3]? := hi 3 _ rfl
  rw [hg 0 (by omega), c1] at h0
  rw [hg 1 (by omega), c2] at h1
  rw [hg 2 (by omega), c1] at h2
  rw [hg 3 (by omega), c2] at h3
  have hcs : (Value.agg cs).cells.toList = cs.toList := rfl
  rw [hcs, c39] at hl
  generalize hL : cs.toList = M at *
  obtain ⟨a, e0⟩ := str_l h0
  obtain ⟨ab, cb, b, e1, q1, q2⟩ := byt_l h1
  obtain ⟨c, e2⟩ := str_l h2
  obtain ⟨ad, cd, d, e3, q3, q4⟩ := byt_l h3
  refine ⟨a, c, b, d, ab, ad, cb, cd, ?_, q1, q2, q3, q4⟩
  have hsp : M = (M.drop 0).take 1 ++ ((M.drop 1).take 1 ++ ((M.drop 2).take 1 ++ (M.drop 3).take 1)) := by
    have t5 : (M.drop 3).take 1 = M.drop 3 := List.take_of_length_le (by rw [List.length_drop]; omega)
    have st : ∀ k q, (M.drop k).take q ++ M.drop (k + q) = M.drop k := fun k q => by
      have := List.take_append_drop q (M.drop k)
      rwa [List.drop_drop] at this
    rw [t5, st 2 1, st 1 1, st 0 1, List.drop_zero]
  rw [e0, e1, e2, e3] at hsp
  have : cs = M.toArray := by rw [← hL]
  rw [this, hsp]
  rfl
end
end Go.Proofs.YtdhmonlhlfkjbaaGreatDoor

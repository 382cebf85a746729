/- CN2, CN3, CN4, CN5, CT0, CN6, CT1, CT2, CT3, CT4: laid together. -/
import Derived.Test.YtbemaloaobeblaaGreatDoorG5
import Derived.Test.YtbemaloaobeblaaGreatDoorG2
import Derived.Test.YtbemaloaobeblaaGreatDoorG3
import Derived.Test.YtbemaloaobeblaaGreatDoorG6
import Derived.Test.YtbemaloaobeblaaGreatDoorG4
namespace Go.Proofs.YtbemaloaobeblaaGreatDoor
open Go.RowKit Go.Shelf

theorem lt_st (a b : List UInt8) (w : World) : (binOp .lss 9 (.string (st a)) (.string (st b))).run Tryz.prog w = .ok (.bool (bl a b)) w := by
  simp [binOp, go_sem, Op.stringOp, bl, ByteArray.toList_eq, st_data]
theorem gt_z (a : Nat) (w : World) : (binOp .gtr 3 (.int .i64 (a : Nat)) (.int .i64 0)).run Tryz.prog w = .ok (.bool (decide (0 < a))) w := by
  simp [go_sem]
def RPv (g n cap jj : Nat) (F : Nat → Ep) : Nat → Value → Prop
  | 0, v => v = (.slice (some ⟨g, 0, none⟩) n cap)
  | 1, v => v = (.int .i64 (jj : Nat))
  | 2, v => v = (.slice (some ⟨g, 0, none⟩) n cap)
  | 3, v => v = (.int .i64 (jj : Nat))
  | 4, v => v = (.int .i64 (jj - 1 : Nat))
  | 5, v => v = (.slice (some ⟨g, 0, none⟩) n cap)
  | 6, v => v = (.int .i64 (jj : Nat))
  | 7, v => v = (.int .i64 (jj - 1 : Nat))
  | 8, v => v = .pointer (some ⟨g, (jj - 1) * 6, none⟩)
  | 9, v => v = .agg (cl (F (jj - 1))).toArray
  | 10, v => v = (.slice (some ⟨g, 0, none⟩) n cap)
  | 11, v => v = (.int .i64 (jj : Nat))
  | 12, v => v = .pointer (some ⟨g, (jj) * 6, none⟩)
  | 13, v => v = .agg (cl (F (jj))).toArray
  | 14, v => v = .pointer (some ⟨g, (jj) * 6, none⟩)
  | 16, v => v = .pointer (some ⟨g, (jj - 1) * 6, none⟩)
  | _, _ => True
def RPvd : Nat → Nat
  | 0 => 34
  | 1 => 35
  | 2 => 36
  | 3 => 37
  | 4 => 38
  | 5 => 39
  | 6 => 40
  | 7 => 41
  | 8 => 42
  | 9 => 43
  | 10 => 44
  | 11 => 45
  | 12 => 46
  | 13 => 47
  | 14 => 48
  | 15 => 1015
  | 16 => 49
  | 17 => 1017
  | i => 2000 + i

theorem Kg.out {g : Nat} {w w1 w' : World} (h : Below w.heap.size w w1) (k : Kg g w1 w') (hg : w.heap.size ≤ g) : Below w.heap.size w w' :=
  ⟨k.os.trans h.os, k.tape.trans h.tape, k.output.trans h.output, Nat.le_trans h.size k.size, fun q hq => (k.block q (Nat.lt_of_lt_of_le hq h.size) (by omega)).trans (h.block q hq)⟩
set_option maxHeartbeats 8000000 in
set_option maxRecDepth 100000 in
theorem rpairs_n {F : Nat → Prop} {w : World} {v : Value} {cs : List (List Value)} {n : Nat} {E : Nat → Ep} (h : RwA F w 49 6 v cs) (hcs : cs = (sg E 0 n).map cl) (hok : ∀ k, k < n → EpOk (E k)) (h1 : 1 ≤ n) (hn : n ≤ 2000000) :
    Calls Tryz.prog 40 #[v] w fun e w' => ∃ g cap G, e = .returned (.slice (some ⟨g, 0, none⟩) n cap) ∧ w.heap.size ≤ g ∧ Rw w' w.heap.size g n cap G ∧ sg G 0 n = ss ltE (sg E 0 n) ∧ Below w.heap.size w w' := by
  have hln : cs.length = n := by rw [hcs, List.length_map, sg_len]
  have hon : ∀ c ∈ cs, c.all (·.oneCell') = true := fun c hc => by
    rw [hcs] at hc
    obtain ⟨e, he, rfl⟩ := List.mem_map.1 hc
    obtain ⟨k, _, hk, rfl⟩ := sg_mem.1 he
    exact (hok k (by omega)).one
  have hfl : cs.flatten.length = cs.length * 6 := by
    rw [List.length_flatten, List.map_congr_left (g := fun _ => 6) (fun c hc => h.1 c hc), List.map_const', List.sum_replicate_nat]
  have hone : ∀ u ∈ cs.flatten, u.oneCell' = true := fun u hu => by
    obtain ⟨c, hc, huc⟩ := List.mem_flatten.1 hu
    exact List.all_eq_true.1 (hon c hc) u huc
  obtain ⟨a, cap0, rfl, hc, hnil⟩ := h.sliceP
  cases a with
  | none =>
    have := hnil rfl
    subst this
    simp at hln
    omega
  | some ad =>
    have hb0 : Below w.heap.size w (w.alloc (.cells #[] 49)) := (Below.refl _ _).alloc (Nat.le_refl _) _
    have hw0 : (w.alloc (.cells #[] 49)).ownsRow w.heap.size 49 6 (.slice (some ⟨w.heap.size, 0, none⟩) 0 0) 0 [] := by
      refine ⟨rfl, .inr ⟨w.heap.size, 0, #[], rfl, Nat.le_refl _, ?_, Nat.le_refl _, by unfold maxLen; omega, rfl, rfl⟩⟩
      show (w.heap.push _)[w.heap.size]? = _
      rw [Array.getElem?_push, if_pos rfl]
    have hnw : ∀ j u, cs.flatten[j]? = some u → (w.alloc (.cells #[] 49)).cell? (ad.add j) = some u := fun j u hj => by
      have h1 := hc ad rfl j u hj
      have hbl : (ad.add j).block < w.heap.size := by
        rcases Nat.lt_or_ge (ad.add j).block w.heap.size with h' | h'
        · exact h'
        · simp [World.cell?, Array.getElem?_eq_none h'] at h1
      exact (hb0.cell hbl).trans h1
    have hbs := bs_0P w
    have hrw : ∀ {w1 : World} {g cap : Nat}, w1.ownsRow w.heap.size 49 6 (.slice (some ⟨g, 0, none⟩) n cap) n cs.flatten → Hid (Rw w1 w.heap.size g n cap E) := fun hr => hide1 ⟨by rw [← hcs]; exact hr, hok⟩
    rw [hln] at hfl ⊢
    generalize cs.flatten = ys at *
    obtain ⟨B, hBe⟩ : ∃ B, Hid (B = w.heap.size) := ⟨_, hide1 rfl⟩
    clear hc hnil h hon hok hcs hln
    go_enter Tryz.func40, Tryz.ntmps40
    go_upto_region 2 with (at_builtin; refine wpList_apP rfl (.tmp 6) (.tmp 7) rfl w.heap.size _ 0 [] rfl hw0 ad n cap0 ys rfl hfl hnw hone (by omega) (by simp) ?_; intro v' w1 hrow hgr)
    rw [Nat.zero_add, List.nil_append] at hrow
    obtain ⟨g, cap, rfl, hgB⟩ : ∃ g cap, v' = .slice (some ⟨g, 0, none⟩) n cap ∧ w.heap.size ≤ g := by
      rcases hrow.2 with ⟨_, e⟩ | ⟨g, cap, cur, e, hg, _⟩
      · omega
      · exact ⟨g, cap, e, hg⟩
    have h0 := hrw hrow
    have hbw : Hid (Below w.heap.size w w1) := hide1 ⟨hgr.os, hgr.tape, hgr.output, Nat.le_trans hb0.size hgr.size, fun k hk => (hgr.block k (Nat.lt_of_lt_of_le hk hb0.size) (fun e => by
      have e2 : some k = some w.heap.size := e
      have : k = w.heap.size := by simpa using e2
      omega)).trans (hb0.block k hk)⟩
    rw [← hBe.out] at h0 hgB
    clear hrow hgr hrw hw0 hnw hb0 hbs hfl hone
    go_wp2_with fail
    go_loopw [4] (fun s8 wo => ∃ (i : Nat) (G : Nat → Ep), s8 = .int .i64 (i : Nat) ∧ 1 ≤ i ∧ i ≤ n ∧ Hid (Std ltE E 0 i G) ∧ Hid (Rw wo B g n cap G) ∧ Hid (Kg g w1 wo)) (fun s8 _ => n + 1 - (intOf s8).toNat)
    case atStart => exact ⟨1, E, by first | rfl | (congr 1; omega) | go_num, by omega, by omega, hide1 (std_1 (Nat.le_refl _)), h0, hide1 (Kg.refl g w1)⟩
    case round =>
      obtain ⟨i, G, rfl, hi1, hi2, hstd, hRo, hKo⟩ := hrel
      by_cases hlt : i < n
      · have hrs := hide1 (std_rs ok_ltE hstd.out)
        go_wp2_with fail
        go_loopw [5] (fun s9 wr => ∃ jj : Nat, s9 = .int .i64 (jj : Nat) ∧ 0 ≤ jj ∧ jj ≤ i ∧ Hid (∀ k, jj ≤ k → k < i → ltE (G i) (G k) = true) ∧ Hid (Rw wr B g n cap (rot G jj i (i + 1))) ∧ Hid (Kg g w1 wr)) (fun s9 _ => (intOf s9).toNat)
        case atStart => exact ⟨i, by first | rfl | (congr 1; omega), by omega, Nat.le_refl _, hide1 fun k h1 h2 => by omega, hide1 (by rw [rot_id G (.inl rfl)]; exact hRo.out), hKo⟩
        case round =>
          obtain ⟨jj, rfl, hj1, hj2, hpast, hR, hK⟩ := hrel
          have hfin : ltE (G i) (G (jj - 1)) = false ∨ jj = 0 → Hid (Std ltE E 0 (i + 1) (rot G jj i (i + 1))) := fun hx => hide1 (std_s (by omega) hstd.out (mgd_r hj1 hj2 (fun k h1 h2 => by
            rcases hx with hx | hx
            · by_cases ek : k = jj - 1
              · rw [ek]; exact hx
              · cases e : ltE (G i) (G k) with
                | false => rfl
                | true =>
                  rcases ok_ltE.wk (G i) (G k) (G (jj - 1)) e with h3 | h3
                  · rw [hx] at h3; cases h3
                  · rw [hrs.out k (jj - 1) h1 (by omega) (by omega)] at h3; cases h3
            · omega) hpast.out))
          by_cases hgt' : 0 < jj
          · have hjn : jj < n := by omega
            have hj1n : jj - 1 < n := by omega
            have hsb := fun w => sub1_n (a := jj) (by omega) (by omega) w
            have hgt : ∀ w : World, (binOp .gtr 3 (.int .i64 (jj : Nat)) (.int .i64 0)).run Tryz.prog w = .ok (.bool true) w := fun w => by rw [gt_z, decide_eq_true hgt']
            have e1 : rot G jj i (i + 1) jj = G i := by unfold rot; rw [if_pos (by omega)]; congr 1; omega
            have e2 : rot G jj i (i + 1) (jj - 1) = G (jj - 1) := by unfold rot; rw [if_neg (by omega), if_neg (by omega)]
            have hld1 : ∀ wa, Below wr.heap.size wr wa → (Instr.loadAt 9 (.pointer (some ⟨g, jj * 6, none⟩))).run Tryz.prog wa = .ok (.string (st (G i).1)) wa := fun wa hwa => by
              have := (hR.out.later hwa).name hjn
              rw [e1] at this
              exact ld_s0 this
            have hld2 : ∀ wa, Below wr.heap.size wr wa → (Instr.loadAt 9 (.pointer (some ⟨g, (jj - 1) * 6, none⟩))).run Tryz.prog wa = .ok (.string (st (G (jj - 1)).1)) wa := fun wa hwa => by
              have := (hR.out.later hwa).name hj1n
              rw [e2] at this
              exact ld_s0 this
            obtain ⟨R, hRd⟩ : ∃ R, Hid (R = ltE (G i) (G (jj - 1))) := ⟨_, hide1 rfl⟩
            have hzr : ∀ w, (binOp .lss 9 (.string (st (G i).1)) (.string (st (G (jj - 1)).1))).run Tryz.prog w = .ok (.bool R) w := fun w => by rw [hRd.out]; exact lt_st _ _ w
            replace e1 := hide1 e1
            replace e2 := hide1 e2
            go_upto_region 6 with fail
            refine wp_flowG 15 _ _ (by kernel_rfl) (by kernel_rfl) (by kernel_rfl) rfl (fun j v _ => v = ([(.int .i64 (jj : Nat)), (.bool true), (.bool true), (.slice (some ⟨g, 0, none⟩) n cap), (.int .i64 (jj : Nat)), (.pointer (some ⟨g, jj * 6, none⟩)), (.pointer (some ⟨g, jj * 6, none⟩)), (.string (st (G i).1)), (.slice (some ⟨g, 0, none⟩) n cap), (.int .i64 (jj : Nat)), (.int .i64 (jj - 1 : Nat)), (.pointer (some ⟨g, (jj - 1) * 6, none⟩)), (.pointer (some ⟨g, (jj - 1) * 6, none⟩)), (.string (st (G (jj - 1)).1)), (.bool R), (.bool R)] : List Value).getD j undef) (fun _ _ _ _ h _ => h) ?_ ?_
            · intro j op hop hj a wa hwa hsz hsl hdep K hK
              match j, hop with
              | 0, hop =>
                obtain rfl := Option.some.inj hop
                have p5 : a.tmps.getD 5 undef = (.int .i64 (jj : Nat)) := hsl 5 rfl
                exact .plain rfl (wp_val (w' := wa) (v := (.int .i64 (jj : Nat))) (by simp only [execOp, Act.eval]; rw [show a.tmps.getD 5 undef = _ from p5]; rfl) (hK _ _ (Below.refl _ _) rfl))
              | 1, hop =>
                obtain rfl := Option.some.inj hop
                have t0 : a.tmps.getD 16 undef = (.int .i64 (jj : Nat)) := hdep 0 _ 16 rfl rfl ⟨⟨0, .data⟩, by simp, rfl, rfl⟩
                exact .plain rfl (wp_val (w' := wa) (v := (.bool true)) (by simp only [execOp, Act.eval]; rw [show a.tmps.getD 16 undef = _ from t0]; simp only [Sem.run_bind, eqg_gtr, hgt, Result.andThen_ok, Sem.run_pure]) (hK _ _ (Below.refl _ _) rfl))
              | 2, hop =>
                obtain rfl := Option.some.inj hop
                have t1 : a.tmps.getD 17 undef = (.bool true) := hdep 1 _ 17 rfl rfl ⟨⟨1, .data⟩, by simp, rfl, rfl⟩
                exact .plain rfl (wp_val (w' := wa) (v := (.bool true)) (by simp only [execOp, Act.eval]; rw [show a.tmps.getD 17 undef = _ from t1]; rfl) (hK _ _ (Below.refl _ _) rfl))
              | 3, hop =>
                obtain rfl := Option.some.inj hop
                have gg : a.tmps.getD 18 undef = (.bool true) := hdep 2 _ 18 rfl rfl ⟨⟨2, .guard⟩, by simp, rfl, rfl⟩
                have p3 : a.tmps.getD 3 undef = (.slice (some ⟨g, 0, none⟩) n cap) := hsl 3 rfl
                exact .want rfl rfl (by rw [hsz]; simp) gg (wp_val (w' := wa) (v := (.slice (some ⟨g, 0, none⟩) n cap)) (by simp only [execOp, Act.eval]; rw [show a.tmps.getD 3 undef = _ from p3]; rfl) (hK _ _ (Below.refl _ _) rfl))
              | 4, hop =>
                obtain rfl := Option.some.inj hop
                have gg : a.tmps.getD 18 undef = (.bool true) := hdep 2 _ 18 rfl rfl ⟨⟨2, .guard⟩, by simp, rfl, rfl⟩
                have p5 : a.tmps.getD 5 undef = (.int .i64 (jj : Nat)) := hsl 5 rfl
                exact .want rfl rfl (by rw [hsz]; simp) gg (wp_val (w' := wa) (v := (.int .i64 (jj : Nat))) (by simp only [execOp, Act.eval]; rw [show a.tmps.getD 5 undef = _ from p5]; rfl) (hK _ _ (Below.refl _ _) rfl))
              | 5, hop =>
                obtain rfl := Option.some.inj hop
                have gg : a.tmps.getD 18 undef = (.bool true) := hdep 2 _ 18 rfl rfl ⟨⟨2, .guard⟩, by simp, rfl, rfl⟩
                have t3 : a.tmps.getD 19 undef = (.slice (some ⟨g, 0, none⟩) n cap) := hdep 3 _ 19 rfl rfl ⟨⟨3, .data⟩, by simp, rfl, rfl⟩
                have t4 : a.tmps.getD 20 undef = (.int .i64 (jj : Nat)) := hdep 4 _ 20 rfl rfl ⟨⟨4, .data⟩, by simp, rfl, rfl⟩
                exact .want rfl rfl (by rw [hsz]; simp) gg (wp_val (w' := wa) (v := (.pointer (some ⟨g, jj * 6, none⟩))) (by simp only [execOp, Act.eval]; rw [show a.tmps.getD 19 undef = _ from t3, show a.tmps.getD 20 undef = _ from t4]; simp only [Sem.run_bind, ix_sP hjn, Result.andThen_ok, Sem.run_pure]) (hK _ _ (Below.refl _ _) rfl))
              | 6, hop =>
                obtain rfl := Option.some.inj hop
                have gg : a.tmps.getD 18 undef = (.bool true) := hdep 2 _ 18 rfl rfl ⟨⟨2, .guard⟩, by simp, rfl, rfl⟩
                have t5 : a.tmps.getD 21 undef = (.pointer (some ⟨g, jj * 6, none⟩)) := hdep 5 _ 21 rfl rfl ⟨⟨5, .data⟩, by simp, rfl, rfl⟩
                exact .want rfl rfl (by rw [hsz]; simp) gg (wp_val (w' := wa) (v := (.pointer (some ⟨g, jj * 6, none⟩))) (by simp only [execOp, Act.eval]; rw [show a.tmps.getD 21 undef = _ from t5]; kernel_rfl) (hK _ _ (Below.refl _ _) rfl))
              | 7, hop =>
                obtain rfl := Option.some.inj hop
                have gg : a.tmps.getD 18 undef = (.bool true) := hdep 2 _ 18 rfl rfl ⟨⟨2, .guard⟩, by simp, rfl, rfl⟩
                have t6 : a.tmps.getD 22 undef = (.pointer (some ⟨g, jj * 6, none⟩)) := hdep 6 _ 22 rfl rfl ⟨⟨6, .data⟩, by simp, rfl, rfl⟩
                exact .want rfl rfl (by rw [hsz]; simp) gg (wp_val (w' := wa) (v := (.string (st (G i).1))) (by simp only [execOp, Act.eval]; rw [show a.tmps.getD 22 undef = _ from t6]; simp only [Sem.run_bind, hld1 _ hwa, Result.andThen_ok, Sem.run_pure]) (hK _ _ (Below.refl _ _) rfl))
              | 8, hop =>
                obtain rfl := Option.some.inj hop
                have gg : a.tmps.getD 18 undef = (.bool true) := hdep 2 _ 18 rfl rfl ⟨⟨2, .guard⟩, by simp, rfl, rfl⟩
                have p3 : a.tmps.getD 3 undef = (.slice (some ⟨g, 0, none⟩) n cap) := hsl 3 rfl
                exact .want rfl rfl (by rw [hsz]; simp) gg (wp_val (w' := wa) (v := (.slice (some ⟨g, 0, none⟩) n cap)) (by simp only [execOp, Act.eval]; rw [show a.tmps.getD 3 undef = _ from p3]; rfl) (hK _ _ (Below.refl _ _) rfl))
              | 9, hop =>
                obtain rfl := Option.some.inj hop
                have gg : a.tmps.getD 18 undef = (.bool true) := hdep 2 _ 18 rfl rfl ⟨⟨2, .guard⟩, by simp, rfl, rfl⟩
                have p5 : a.tmps.getD 5 undef = (.int .i64 (jj : Nat)) := hsl 5 rfl
                exact .want rfl rfl (by rw [hsz]; simp) gg (wp_val (w' := wa) (v := (.int .i64 (jj : Nat))) (by simp only [execOp, Act.eval]; rw [show a.tmps.getD 5 undef = _ from p5]; rfl) (hK _ _ (Below.refl _ _) rfl))
              | 10, hop =>
                obtain rfl := Option.some.inj hop
                have gg : a.tmps.getD 18 undef = (.bool true) := hdep 2 _ 18 rfl rfl ⟨⟨2, .guard⟩, by simp, rfl, rfl⟩
                have t9 : a.tmps.getD 25 undef = (.int .i64 (jj : Nat)) := hdep 9 _ 25 rfl rfl ⟨⟨9, .data⟩, by simp, rfl, rfl⟩
                exact .want rfl rfl (by rw [hsz]; simp) gg (wp_val (w' := wa) (v := (.int .i64 (jj - 1 : Nat))) (by simp only [execOp, Act.eval]; rw [show a.tmps.getD 25 undef = _ from t9]; simp only [Sem.run_bind, eqg_sub, hsb, Result.andThen_ok, Sem.run_pure]) (hK _ _ (Below.refl _ _) rfl))
              | 11, hop =>
                obtain rfl := Option.some.inj hop
                have gg : a.tmps.getD 18 undef = (.bool true) := hdep 2 _ 18 rfl rfl ⟨⟨2, .guard⟩, by simp, rfl, rfl⟩
                have t8 : a.tmps.getD 24 undef = (.slice (some ⟨g, 0, none⟩) n cap) := hdep 8 _ 24 rfl rfl ⟨⟨8, .data⟩, by simp, rfl, rfl⟩
                have t10 : a.tmps.getD 26 undef = (.int .i64 (jj - 1 : Nat)) := hdep 10 _ 26 rfl rfl ⟨⟨10, .data⟩, by simp, rfl, rfl⟩
                exact .want rfl rfl (by rw [hsz]; simp) gg (wp_val (w' := wa) (v := (.pointer (some ⟨g, (jj - 1) * 6, none⟩))) (by simp only [execOp, Act.eval]; rw [show a.tmps.getD 24 undef = _ from t8, show a.tmps.getD 26 undef = _ from t10]; simp only [Sem.run_bind, ix_sP hj1n, Result.andThen_ok, Sem.run_pure]) (hK _ _ (Below.refl _ _) rfl))
              | 12, hop =>
                obtain rfl := Option.some.inj hop
                have gg : a.tmps.getD 18 undef = (.bool true) := hdep 2 _ 18 rfl rfl ⟨⟨2, .guard⟩, by simp, rfl, rfl⟩
                have t11 : a.tmps.getD 27 undef = (.pointer (some ⟨g, (jj - 1) * 6, none⟩)) := hdep 11 _ 27 rfl rfl ⟨⟨11, .data⟩, by simp, rfl, rfl⟩
                exact .want rfl rfl (by rw [hsz]; simp) gg (wp_val (w' := wa) (v := (.pointer (some ⟨g, (jj - 1) * 6, none⟩))) (by simp only [execOp, Act.eval]; rw [show a.tmps.getD 27 undef = _ from t11]; kernel_rfl) (hK _ _ (Below.refl _ _) rfl))
              | 13, hop =>
                obtain rfl := Option.some.inj hop
                have gg : a.tmps.getD 18 undef = (.bool true) := hdep 2 _ 18 rfl rfl ⟨⟨2, .guard⟩, by simp, rfl, rfl⟩
                have t12 : a.tmps.getD 28 undef = (.pointer (some ⟨g, (jj - 1) * 6, none⟩)) := hdep 12 _ 28 rfl rfl ⟨⟨12, .data⟩, by simp, rfl, rfl⟩
                exact .want rfl rfl (by rw [hsz]; simp) gg (wp_val (w' := wa) (v := (.string (st (G (jj - 1)).1))) (by simp only [execOp, Act.eval]; rw [show a.tmps.getD 28 undef = _ from t12]; simp only [Sem.run_bind, hld2 _ hwa, Result.andThen_ok, Sem.run_pure]) (hK _ _ (Below.refl _ _) rfl))
              | 14, hop =>
                obtain rfl := Option.some.inj hop
                have gg : a.tmps.getD 18 undef = (.bool true) := hdep 2 _ 18 rfl rfl ⟨⟨2, .guard⟩, by simp, rfl, rfl⟩
                have t7 : a.tmps.getD 23 undef = (.string (st (G i).1)) := hdep 7 _ 23 rfl rfl ⟨⟨7, .data⟩, by simp, rfl, rfl⟩
                have t13 : a.tmps.getD 29 undef = (.string (st (G (jj - 1)).1)) := hdep 13 _ 29 rfl rfl ⟨⟨13, .data⟩, by simp, rfl, rfl⟩
                exact .want rfl rfl (by rw [hsz]; simp) gg (wp_val (w' := wa) (v := (.bool R)) (by simp only [execOp, Act.eval]; rw [show a.tmps.getD 23 undef = _ from t7, show a.tmps.getD 29 undef = _ from t13]; simp only [Sem.run_bind, eqg_lss, hzr, Result.andThen_ok, Sem.run_pure]) (hK _ _ (Below.refl _ _) rfl))
              | 15, _ => exact absurd rfl hj
              | _ + 16, hop => exact absurd hop (by simp)
            · intro a wa hwa hdf hsz hsl hrr K hK
              have t2 : a.tmps.getD 18 undef = (.bool true) := hrr 2 _ 18 rfl (by decide) rfl
              have t14 : a.tmps.getD 30 undef = (.bool R) := hrr 14 _ 30 rfl (by decide) rfl
              refine .plain rfl (wp_val (w' := wa) (v := (.bool R)) (by simp only [execOp, Act.eval]; rw [show a.tmps.getD 18 undef = _ from t2, show a.tmps.getD 30 undef = _ from t14]; rfl) ?_)
              refine hK _ wa ?_
              have hact := act_puts hdf hsz hsl
              clear hrr hsl hdf hsz hK t14 t2
              simp only [List.filterMap_cons, List.filterMap_nil, List.foldl_cons, List.foldl_nil] at hact
              rw [hact]
              generalize a.tmps.getD 16 undef = y16
              generalize a.tmps.getD 17 undef = y17
              generalize a.tmps.getD 18 undef = y18
              generalize a.tmps.getD 19 undef = y19
              generalize a.tmps.getD 20 undef = y20
              generalize a.tmps.getD 21 undef = y21
              generalize a.tmps.getD 22 undef = y22
              generalize a.tmps.getD 23 undef = y23
              generalize a.tmps.getD 24 undef = y24
              generalize a.tmps.getD 25 undef = y25
              generalize a.tmps.getD 26 undef = y26
              generalize a.tmps.getD 27 undef = y27
              generalize a.tmps.getD 28 undef = y28
              generalize a.tmps.getD 29 undef = y29
              generalize a.tmps.getD 30 undef = y30
              clear hact
              simp only [Act.put, List.setIfInBounds_toArray, List.set_cons_succ, List.set_cons_zero]
              have hR4 := hide1 (hR.out.later hwa)
              have hK4 : Hid (Kg g w1 wa) := hide1 (hK.out.trans (Kg.ofB hwa))
              clear hld1 hld2 hzr hgt hwa hR hK
              cases R with
              | true =>
                have hxy : jj ≠ jj - 1 := by omega
                have hsr : Hid (sr (rot G jj i (i + 1)) jj (jj - 1) 1 = rot G (jj - 1) i (i + 1)) := hide1 (by
                  have := rot_dn G (m := i) (k := jj - 1) (by omega)
                  rwa [show jj - 1 + 1 = jj by omega] at this)
                have hpast2 : Hid (∀ k, jj - 1 ≤ k → k < i → ltE (G i) (G k) = true) := hide1 fun k h1 h2 => by
                  by_cases ek : k = jj - 1
                  · rw [ek]; exact hRd.out.symm
                  · exact hpast.out k (by omega) h2
                go_upto_region 8 with fail
                refine wp_rel5 _ _ (fun _ j v _ => RPv g n cap jj (rot G jj i (i + 1)) j v) (fun D w => Msw wa B g n cap (rot G jj i (i + 1)) (jj) (jj - 1) (D 15) (D 17) w) RPvd (by kernel_rfl) (by kernel_rfl) 18 (by kernel_rfl) ?_ ?_ rfl (msw_start hjn hj1n hR4.out) ?_ ?_
                · intro ix o ho
                  match ix, ho with
                  | 0, ho => obtain rfl := Option.some.inj ho; exact .inl ⟨rfl, by show 34 < 51; decide⟩
                  | 1, ho => obtain rfl := Option.some.inj ho; exact .inl ⟨rfl, by show 35 < 51; decide⟩
                  | 2, ho => obtain rfl := Option.some.inj ho; exact .inl ⟨rfl, by show 36 < 51; decide⟩
                  | 3, ho => obtain rfl := Option.some.inj ho; exact .inl ⟨rfl, by show 37 < 51; decide⟩
                  | 4, ho => obtain rfl := Option.some.inj ho; exact .inl ⟨rfl, by show 38 < 51; decide⟩
                  | 5, ho => obtain rfl := Option.some.inj ho; exact .inl ⟨rfl, by show 39 < 51; decide⟩
                  | 6, ho => obtain rfl := Option.some.inj ho; exact .inl ⟨rfl, by show 40 < 51; decide⟩
                  | 7, ho => obtain rfl := Option.some.inj ho; exact .inl ⟨rfl, by show 41 < 51; decide⟩
                  | 8, ho => obtain rfl := Option.some.inj ho; exact .inl ⟨rfl, by show 42 < 51; decide⟩
                  | 9, ho => obtain rfl := Option.some.inj ho; exact .inl ⟨rfl, by show 43 < 51; decide⟩
                  | 10, ho => obtain rfl := Option.some.inj ho; exact .inl ⟨rfl, by show 44 < 51; decide⟩
                  | 11, ho => obtain rfl := Option.some.inj ho; exact .inl ⟨rfl, by show 45 < 51; decide⟩
                  | 12, ho => obtain rfl := Option.some.inj ho; exact .inl ⟨rfl, by show 46 < 51; decide⟩
                  | 13, ho => obtain rfl := Option.some.inj ho; exact .inl ⟨rfl, by show 47 < 51; decide⟩
                  | 14, ho => obtain rfl := Option.some.inj ho; exact .inl ⟨rfl, by show 48 < 51; decide⟩
                  | 15, ho => obtain rfl := Option.some.inj ho; exact .inr ⟨⟨rfl, fun _ _ _ _ => trivial⟩, by show 51 ≤ 1015; decide⟩
                  | 16, ho => obtain rfl := Option.some.inj ho; exact .inl ⟨rfl, by show 49 < 51; decide⟩
                  | 17, ho => obtain rfl := Option.some.inj ho; exact .inr ⟨⟨rfl, fun _ _ _ _ => trivial⟩, by show 51 ≤ 1017; decide⟩
                  | _ + 18, ho => exact absurd ho (by simp)
                · intro ix jx hi hj e; unfold RPvd at e; split at e <;> split at e <;> omega
                · intro ix o ho
                  match ix, ho with
                  | 0, ho =>
                    obtain rfl := Option.some.inj ho
                    intro D a w hM hsl hdep hDi hcl K hK
                    have hp3 : a.tmps.getD 3 undef = (.slice (some ⟨g, 0, none⟩) n cap) := hsl 3 (by intro j hj; unfold RPvd; split <;> omega)
                    refine ⟨rfl, ?_⟩
                    refine wp_val (w' := w) (v := (.slice (some ⟨g, 0, none⟩) n cap)) (by simp only [execOp, Act.eval]; rw [show a.tmps.getD 3 undef = _ from hp3]; rfl) ?_
                    exact hK _ _ rfl (msw_ne (by decide) (by decide) hM) (fun _ _ _ _ h => h)
                  | 1, ho =>
                    obtain rfl := Option.some.inj ho
                    intro D a w hM hsl hdep hDi hcl K hK
                    have hp5 : a.tmps.getD 5 undef = (.int .i64 (jj : Nat)) := hsl 5 (by intro j hj; unfold RPvd; split <;> omega)
                    refine ⟨rfl, ?_⟩
                    refine wp_val (w' := w) (v := (.int .i64 (jj : Nat))) (by simp only [execOp, Act.eval]; rw [show a.tmps.getD 5 undef = _ from hp5]; rfl) ?_
                    exact hK _ _ rfl (msw_ne (by decide) (by decide) hM) (fun _ _ _ _ h => h)
                  | 2, ho =>
                    obtain rfl := Option.some.inj ho
                    intro D a w hM hsl hdep hDi hcl K hK
                    have hp3 : a.tmps.getD 3 undef = (.slice (some ⟨g, 0, none⟩) n cap) := hsl 3 (by intro j hj; unfold RPvd; split <;> omega)
                    refine ⟨rfl, ?_⟩
                    refine wp_val (w' := w) (v := (.slice (some ⟨g, 0, none⟩) n cap)) (by simp only [execOp, Act.eval]; rw [show a.tmps.getD 3 undef = _ from hp3]; rfl) ?_
                    exact hK _ _ rfl (msw_ne (by decide) (by decide) hM) (fun _ _ _ _ h => h)
                  | 3, ho =>
                    obtain rfl := Option.some.inj ho
                    intro D a w hM hsl hdep hDi hcl K hK
                    have hp5 : a.tmps.getD 5 undef = (.int .i64 (jj : Nat)) := hsl 5 (by intro j hj; unfold RPvd; split <;> omega)
                    refine ⟨rfl, ?_⟩
                    refine wp_val (w' := w) (v := (.int .i64 (jj : Nat))) (by simp only [execOp, Act.eval]; rw [show a.tmps.getD 5 undef = _ from hp5]; rfl) ?_
                    exact hK _ _ rfl (msw_ne (by decide) (by decide) hM) (fun _ _ _ _ h => h)
                  | 4, ho =>
                    obtain rfl := Option.some.inj ho
                    intro D a w hM hsl hdep hDi hcl K hK
                    have e3 := (hdep ⟨3, .data⟩ (by simp) rfl).1
                    refine ⟨rfl, ?_⟩
                    refine wp_val (w' := w) (v := (.int .i64 (jj - 1 : Nat))) (by simp only [execOp, Act.eval]; rw [show a.tmps.getD 37 undef = _ from e3]; simp only [Sem.run_bind, eqg_sub, hsb, Result.andThen_ok, Sem.run_pure]) ?_
                    exact hK _ _ rfl (msw_ne (by decide) (by decide) hM) (fun _ _ _ _ h => h)
                  | 5, ho =>
                    obtain rfl := Option.some.inj ho
                    intro D a w hM hsl hdep hDi hcl K hK
                    have hp3 : a.tmps.getD 3 undef = (.slice (some ⟨g, 0, none⟩) n cap) := hsl 3 (by intro j hj; unfold RPvd; split <;> omega)
                    refine ⟨rfl, ?_⟩
                    refine wp_val (w' := w) (v := (.slice (some ⟨g, 0, none⟩) n cap)) (by simp only [execOp, Act.eval]; rw [show a.tmps.getD 3 undef = _ from hp3]; rfl) ?_
                    exact hK _ _ rfl (msw_ne (by decide) (by decide) hM) (fun _ _ _ _ h => h)
                  | 6, ho =>
                    obtain rfl := Option.some.inj ho
                    intro D a w hM hsl hdep hDi hcl K hK
                    have hp5 : a.tmps.getD 5 undef = (.int .i64 (jj : Nat)) := hsl 5 (by intro j hj; unfold RPvd; split <;> omega)
                    refine ⟨rfl, ?_⟩
                    refine wp_val (w' := w) (v := (.int .i64 (jj : Nat))) (by simp only [execOp, Act.eval]; rw [show a.tmps.getD 5 undef = _ from hp5]; rfl) ?_
                    exact hK _ _ rfl (msw_ne (by decide) (by decide) hM) (fun _ _ _ _ h => h)
                  | 7, ho =>
                    obtain rfl := Option.some.inj ho
                    intro D a w hM hsl hdep hDi hcl K hK
                    have e6 := (hdep ⟨6, .data⟩ (by simp) rfl).1
                    refine ⟨rfl, ?_⟩
                    refine wp_val (w' := w) (v := (.int .i64 (jj - 1 : Nat))) (by simp only [execOp, Act.eval]; rw [show a.tmps.getD 40 undef = _ from e6]; simp only [Sem.run_bind, eqg_sub, hsb, Result.andThen_ok, Sem.run_pure]) ?_
                    exact hK _ _ rfl (msw_ne (by decide) (by decide) hM) (fun _ _ _ _ h => h)
                  | 8, ho =>
                    obtain rfl := Option.some.inj ho
                    intro D a w hM hsl hdep hDi hcl K hK
                    have e5 := (hdep ⟨5, .data⟩ (by simp) rfl).1
                    have e7 := (hdep ⟨7, .data⟩ (by simp) rfl).1
                    refine ⟨rfl, ?_⟩
                    refine wp_val (w' := w) (v := .pointer (some ⟨g, (jj - 1) * 6, none⟩)) (by simp only [execOp, Act.eval]; rw [show a.tmps.getD 39 undef = _ from e5, show a.tmps.getD 41 undef = _ from e7]; simp only [Sem.run_bind, ix_sP hj1n, Result.andThen_ok, Sem.run_pure]) ?_
                    exact hK _ _ rfl (msw_ne (by decide) (by decide) hM) (fun _ _ _ _ h => h)
                  | 9, ho =>
                    obtain rfl := Option.some.inj ho
                    intro D a w hM hsl hdep hDi hcl K hK
                    have e8 := (hdep ⟨8, .data⟩ (by simp) rfl).1
                    have hD15 : D 15 = false := by cases h9 : D 15 with | false => rfl | true => have := hcl 15 _ rfl h9 ⟨9, .data⟩ (by simp) rfl; rw [this] at hDi; cases hDi
                    have hD17 : D 17 = false := by cases h9 : D 17 with | false => rfl | true => have := hcl 17 _ rfl h9 ⟨9, .phase⟩ (by simp) rfl; rw [this] at hDi; cases hDi
                    have hl := (msw_00 hD15 hD17 hM).load hj1n
                    refine ⟨rfl, ?_⟩
                    refine wp_val (w' := w) (v := .agg (cl ((rot G jj i (i + 1)) (jj - 1))).toArray) (by simp only [execOp, Act.eval]; rw [show a.tmps.getD 42 undef = _ from e8]; simp only [Sem.run_bind, hl, Result.andThen_ok, Sem.run_pure]) ?_
                    exact hK _ _ rfl (msw_ne (by decide) (by decide) hM) (fun _ _ _ _ h => h)
                  | 10, ho =>
                    obtain rfl := Option.some.inj ho
                    intro D a w hM hsl hdep hDi hcl K hK
                    have hp3 : a.tmps.getD 3 undef = (.slice (some ⟨g, 0, none⟩) n cap) := hsl 3 (by intro j hj; unfold RPvd; split <;> omega)
                    refine ⟨rfl, ?_⟩
                    refine wp_val (w' := w) (v := (.slice (some ⟨g, 0, none⟩) n cap)) (by simp only [execOp, Act.eval]; rw [show a.tmps.getD 3 undef = _ from hp3]; rfl) ?_
                    exact hK _ _ rfl (msw_ne (by decide) (by decide) hM) (fun _ _ _ _ h => h)
                  | 11, ho =>
                    obtain rfl := Option.some.inj ho
                    intro D a w hM hsl hdep hDi hcl K hK
                    have hp5 : a.tmps.getD 5 undef = (.int .i64 (jj : Nat)) := hsl 5 (by intro j hj; unfold RPvd; split <;> omega)
                    refine ⟨rfl, ?_⟩
                    refine wp_val (w' := w) (v := (.int .i64 (jj : Nat))) (by simp only [execOp, Act.eval]; rw [show a.tmps.getD 5 undef = _ from hp5]; rfl) ?_
                    exact hK _ _ rfl (msw_ne (by decide) (by decide) hM) (fun _ _ _ _ h => h)
                  | 12, ho =>
                    obtain rfl := Option.some.inj ho
                    intro D a w hM hsl hdep hDi hcl K hK
                    have e10 := (hdep ⟨10, .data⟩ (by simp) rfl).1
                    have e11 := (hdep ⟨11, .data⟩ (by simp) rfl).1
                    refine ⟨rfl, ?_⟩
                    refine wp_val (w' := w) (v := .pointer (some ⟨g, (jj) * 6, none⟩)) (by simp only [execOp, Act.eval]; rw [show a.tmps.getD 44 undef = _ from e10, show a.tmps.getD 45 undef = _ from e11]; simp only [Sem.run_bind, ix_sP hjn, Result.andThen_ok, Sem.run_pure]) ?_
                    exact hK _ _ rfl (msw_ne (by decide) (by decide) hM) (fun _ _ _ _ h => h)
                  | 13, ho =>
                    obtain rfl := Option.some.inj ho
                    intro D a w hM hsl hdep hDi hcl K hK
                    have e12 := (hdep ⟨12, .data⟩ (by simp) rfl).1
                    have hD15 : D 15 = false := by cases h9 : D 15 with | false => rfl | true => have := hcl 15 _ rfl h9 ⟨13, .phase⟩ (by simp) rfl; rw [this] at hDi; cases hDi
                    have hD17 : D 17 = false := by cases h9 : D 17 with | false => rfl | true => have := hcl 17 _ rfl h9 ⟨13, .data⟩ (by simp) rfl; rw [this] at hDi; cases hDi
                    have hl := (msw_00 hD15 hD17 hM).load hjn
                    refine ⟨rfl, ?_⟩
                    refine wp_val (w' := w) (v := .agg (cl ((rot G jj i (i + 1)) (jj))).toArray) (by simp only [execOp, Act.eval]; rw [show a.tmps.getD 46 undef = _ from e12]; simp only [Sem.run_bind, hl, Result.andThen_ok, Sem.run_pure]) ?_
                    exact hK _ _ rfl (msw_ne (by decide) (by decide) hM) (fun _ _ _ _ h => h)
                  | 14, ho =>
                    obtain rfl := Option.some.inj ho
                    intro D a w hM hsl hdep hDi hcl K hK
                    have e0 := (hdep ⟨0, .data⟩ (by simp) rfl).1
                    have e1 := (hdep ⟨1, .data⟩ (by simp) rfl).1
                    refine ⟨rfl, ?_⟩
                    refine wp_val (w' := w) (v := .pointer (some ⟨g, (jj) * 6, none⟩)) (by simp only [execOp, Act.eval]; rw [show a.tmps.getD 34 undef = _ from e0, show a.tmps.getD 35 undef = _ from e1]; simp only [Sem.run_bind, ix_sP hjn, Result.andThen_ok, Sem.run_pure]) ?_
                    exact hK _ _ rfl (msw_ne (by decide) (by decide) hM) (fun _ _ _ _ h => h)
                  | 15, ho =>
                    obtain rfl := Option.some.inj ho
                    intro D a w hM hsl hdep hDi hcl K hK
                    have e14 := (hdep ⟨14, .data⟩ (by simp) rfl).1
                    have e9 := (hdep ⟨9, .data⟩ (by simp) rfl).1
                    obtain ⟨c, hst, hM2⟩ := msw_1 (s1 := 15) (s2 := 17) (by decide) hxy hjn hDi hM
                    refine ⟨rfl, ?_⟩
                    refine wp_skp (w' := w.setRow g c) (by simp only [execOp, Act.eval]; rw [show a.tmps.getD 48 undef = _ from e14, show a.tmps.getD 43 undef = _ from e9]; simp only [Sem.run_bind, hst, Result.andThen_ok, Sem.run_pure]) ?_
                    exact hK _ _ trivial hM2 (fun _ _ _ _ h => h)
                  | 16, ho =>
                    obtain rfl := Option.some.inj ho
                    intro D a w hM hsl hdep hDi hcl K hK
                    have e2 := (hdep ⟨2, .data⟩ (by simp) rfl).1
                    have e4 := (hdep ⟨4, .data⟩ (by simp) rfl).1
                    refine ⟨rfl, ?_⟩
                    refine wp_val (w' := w) (v := .pointer (some ⟨g, (jj - 1) * 6, none⟩)) (by simp only [execOp, Act.eval]; rw [show a.tmps.getD 36 undef = _ from e2, show a.tmps.getD 38 undef = _ from e4]; simp only [Sem.run_bind, ix_sP hj1n, Result.andThen_ok, Sem.run_pure]) ?_
                    exact hK _ _ rfl (msw_ne (by decide) (by decide) hM) (fun _ _ _ _ h => h)
                  | 17, ho =>
                    obtain rfl := Option.some.inj ho
                    intro D a w hM hsl hdep hDi hcl K hK
                    have e16 := (hdep ⟨16, .data⟩ (by simp) rfl).1
                    have e13 := (hdep ⟨13, .data⟩ (by simp) rfl).1
                    obtain ⟨c, hst, hM2⟩ := msw_2 (s1 := 15) (s2 := 17) (by decide) hxy hj1n hDi hM
                    refine ⟨rfl, ?_⟩
                    refine wp_skp (w' := w.setRow g c) (by simp only [execOp, Act.eval]; rw [show a.tmps.getD 49 undef = _ from e16, show a.tmps.getD 47 undef = _ from e13]; simp only [Sem.run_bind, hst, Result.andThen_ok, Sem.run_pure]) ?_
                    exact hK _ _ trivial hM2 (fun _ _ _ _ h => h)
                  | _ + 18, ho => exact absurd ho (by simp)
                · intro D a wt hall hd hs hM hsl hr hact
                  replace hM := msw_11 hxy (hall 15 (by decide)) (hall 17 (by decide)) hM
                  simp only [List.filterMap_cons, List.filterMap_nil, List.foldl_cons, List.foldl_nil] at hact
                  rw [hact]
                  generalize a.tmps.getD 34 undef = y34
                  generalize a.tmps.getD 35 undef = y35
                  generalize a.tmps.getD 36 undef = y36
                  generalize a.tmps.getD 37 undef = y37
                  generalize a.tmps.getD 38 undef = y38
                  generalize a.tmps.getD 39 undef = y39
                  generalize a.tmps.getD 40 undef = y40
                  generalize a.tmps.getD 41 undef = y41
                  generalize a.tmps.getD 42 undef = y42
                  generalize a.tmps.getD 43 undef = y43
                  generalize a.tmps.getD 44 undef = y44
                  generalize a.tmps.getD 45 undef = y45
                  generalize a.tmps.getD 46 undef = y46
                  generalize a.tmps.getD 47 undef = y47
                  generalize a.tmps.getD 48 undef = y48
                  generalize a.tmps.getD 49 undef = y49
                  clear hact hsl hr hd hs hall a
                  simp only [Act.put, List.setIfInBounds_toArray, List.set_cons_succ, List.set_cons_zero]
                  obtain ⟨hR5, hO5⟩ := hM
                  rw [hsr.out] at hR5
                  have hR6 := hide1 hR5
                  have hK6 : Hid (Kg g w1 wt) := hide1 (hK4.out.trans hO5.kg)
                  clear hR5 hO5 hsr hsb hR4 hK4
                  go_wp2
                  go_roundw
                  case rel => exact ⟨jj - 1, by congr 1; omega, by omega, by omega, hpast2, hR6, hK6⟩
                  case measure => simp [intOf]; omega
              | false =>
                have hst := hfin (.inl hRd.out.symm)
                clear hfin hpast hrs hRd hsb
                go_wp2
                go_roundw
                case rel => exact ⟨i + 1, _, by first | rfl | (congr 1; omega) | go_num, by omega, by omega, hst, hR4, hK4⟩
                case measure => simp [intOf]; omega
          · have hst := hfin (.inr (by omega))
            have hgt : ∀ w : World, (binOp .gtr 3 (.int .i64 (jj : Nat)) (.int .i64 0)).run Tryz.prog w = .ok (.bool false) w := fun w => by rw [gt_z, decide_eq_false hgt']
            clear hfin hpast hrs
            go_upto_region 6 with fail
            refine wp_flowG 15 _ _ (by kernel_rfl) (by kernel_rfl) (by kernel_rfl) rfl (fun j v _ => v = ([(.int .i64 (jj : Nat)), (.bool false), (.bool false), undef, undef, undef, undef, undef, undef, undef, undef, undef, undef, undef, undef, (.bool false)] : List Value).getD j undef) (fun _ _ _ _ h _ => h) ?_ ?_
            · intro j op hop hj a wa hwa hsz hsl hdep K hK
              match j, hop with
              | 0, hop =>
                obtain rfl := Option.some.inj hop
                have p5 : a.tmps.getD 5 undef = (.int .i64 (jj : Nat)) := hsl 5 rfl
                exact .plain rfl (wp_val (w' := wa) (v := (.int .i64 (jj : Nat))) (by simp only [execOp, Act.eval]; rw [show a.tmps.getD 5 undef = _ from p5]; rfl) (hK _ _ (Below.refl _ _) rfl))
              | 1, hop =>
                obtain rfl := Option.some.inj hop
                have t0 : a.tmps.getD 16 undef = (.int .i64 (jj : Nat)) := hdep 0 _ 16 rfl rfl ⟨⟨0, .data⟩, by simp, rfl, rfl⟩
                exact .plain rfl (wp_val (w' := wa) (v := (.bool false)) (by simp only [execOp, Act.eval]; rw [show a.tmps.getD 16 undef = _ from t0]; simp only [Sem.run_bind, eqg_gtr, hgt, Result.andThen_ok, Sem.run_pure]) (hK _ _ (Below.refl _ _) rfl))
              | 2, hop =>
                obtain rfl := Option.some.inj hop
                have t1 : a.tmps.getD 17 undef = (.bool false) := hdep 1 _ 17 rfl rfl ⟨⟨1, .data⟩, by simp, rfl, rfl⟩
                exact .plain rfl (wp_val (w' := wa) (v := (.bool false)) (by simp only [execOp, Act.eval]; rw [show a.tmps.getD 17 undef = _ from t1]; rfl) (hK _ _ (Below.refl _ _) rfl))
              | 3, hop =>
                obtain rfl := Option.some.inj hop
                have gg : a.tmps.getD 18 undef = (.bool false) := hdep 2 _ 18 rfl rfl ⟨⟨2, .guard⟩, by simp, rfl, rfl⟩
                exact .skip rfl rfl (by rw [hsz]; simp) gg (hK _ _ (Below.refl _ _) rfl)
              | 4, hop =>
                obtain rfl := Option.some.inj hop
                have gg : a.tmps.getD 18 undef = (.bool false) := hdep 2 _ 18 rfl rfl ⟨⟨2, .guard⟩, by simp, rfl, rfl⟩
                exact .skip rfl rfl (by rw [hsz]; simp) gg (hK _ _ (Below.refl _ _) rfl)
              | 5, hop =>
                obtain rfl := Option.some.inj hop
                have gg : a.tmps.getD 18 undef = (.bool false) := hdep 2 _ 18 rfl rfl ⟨⟨2, .guard⟩, by simp, rfl, rfl⟩
                exact .skip rfl rfl (by rw [hsz]; simp) gg (hK _ _ (Below.refl _ _) rfl)
              | 6, hop =>
                obtain rfl := Option.some.inj hop
                have gg : a.tmps.getD 18 undef = (.bool false) := hdep 2 _ 18 rfl rfl ⟨⟨2, .guard⟩, by simp, rfl, rfl⟩
                exact .skip rfl rfl (by rw [hsz]; simp) gg (hK _ _ (Below.refl _ _) rfl)
              | 7, hop =>
                obtain rfl := Option.some.inj hop
                have gg : a.tmps.getD 18 undef = (.bool false) := hdep 2 _ 18 rfl rfl ⟨⟨2, .guard⟩, by simp, rfl, rfl⟩
                exact .skip rfl rfl (by rw [hsz]; simp) gg (hK _ _ (Below.refl _ _) rfl)
              | 8, hop =>
                obtain rfl := Option.some.inj hop
                have gg : a.tmps.getD 18 undef = (.bool false) := hdep 2 _ 18 rfl rfl ⟨⟨2, .guard⟩, by simp, rfl, rfl⟩
                exact .skip rfl rfl (by rw [hsz]; simp) gg (hK _ _ (Below.refl _ _) rfl)
              | 9, hop =>
                obtain rfl := Option.some.inj hop
                have gg : a.tmps.getD 18 undef = (.bool false) := hdep 2 _ 18 rfl rfl ⟨⟨2, .guard⟩, by simp, rfl, rfl⟩
                exact .skip rfl rfl (by rw [hsz]; simp) gg (hK _ _ (Below.refl _ _) rfl)
              | 10, hop =>
                obtain rfl := Option.some.inj hop
                have gg : a.tmps.getD 18 undef = (.bool false) := hdep 2 _ 18 rfl rfl ⟨⟨2, .guard⟩, by simp, rfl, rfl⟩
                exact .skip rfl rfl (by rw [hsz]; simp) gg (hK _ _ (Below.refl _ _) rfl)
              | 11, hop =>
                obtain rfl := Option.some.inj hop
                have gg : a.tmps.getD 18 undef = (.bool false) := hdep 2 _ 18 rfl rfl ⟨⟨2, .guard⟩, by simp, rfl, rfl⟩
                exact .skip rfl rfl (by rw [hsz]; simp) gg (hK _ _ (Below.refl _ _) rfl)
              | 12, hop =>
                obtain rfl := Option.some.inj hop
                have gg : a.tmps.getD 18 undef = (.bool false) := hdep 2 _ 18 rfl rfl ⟨⟨2, .guard⟩, by simp, rfl, rfl⟩
                exact .skip rfl rfl (by rw [hsz]; simp) gg (hK _ _ (Below.refl _ _) rfl)
              | 13, hop =>
                obtain rfl := Option.some.inj hop
                have gg : a.tmps.getD 18 undef = (.bool false) := hdep 2 _ 18 rfl rfl ⟨⟨2, .guard⟩, by simp, rfl, rfl⟩
                exact .skip rfl rfl (by rw [hsz]; simp) gg (hK _ _ (Below.refl _ _) rfl)
              | 14, hop =>
                obtain rfl := Option.some.inj hop
                have gg : a.tmps.getD 18 undef = (.bool false) := hdep 2 _ 18 rfl rfl ⟨⟨2, .guard⟩, by simp, rfl, rfl⟩
                exact .skip rfl rfl (by rw [hsz]; simp) gg (hK _ _ (Below.refl _ _) rfl)
              | 15, _ => exact absurd rfl hj
              | _ + 16, hop => exact absurd hop (by simp)
            · intro a wa hwa hdf hsz hsl hrr K hK
              have t2 : a.tmps.getD 18 undef = (.bool false) := hrr 2 _ 18 rfl (by decide) rfl
              have t14 : a.tmps.getD 30 undef = undef := hrr 14 _ 30 rfl (by decide) rfl
              refine .plain rfl (wp_val (w' := wa) (v := (.bool false)) (by simp only [execOp, Act.eval]; rw [show a.tmps.getD 18 undef = _ from t2, show a.tmps.getD 30 undef = _ from t14]; rfl) ?_)
              refine hK _ wa ?_
              have hact := act_puts hdf hsz hsl
              clear hrr hsl hdf hsz hK t14 t2
              simp only [List.filterMap_cons, List.filterMap_nil, List.foldl_cons, List.foldl_nil] at hact
              rw [hact]
              generalize a.tmps.getD 16 undef = y16
              generalize a.tmps.getD 17 undef = y17
              generalize a.tmps.getD 18 undef = y18
              generalize a.tmps.getD 19 undef = y19
              generalize a.tmps.getD 20 undef = y20
              generalize a.tmps.getD 21 undef = y21
              generalize a.tmps.getD 22 undef = y22
              generalize a.tmps.getD 23 undef = y23
              generalize a.tmps.getD 24 undef = y24
              generalize a.tmps.getD 25 undef = y25
              generalize a.tmps.getD 26 undef = y26
              generalize a.tmps.getD 27 undef = y27
              generalize a.tmps.getD 28 undef = y28
              generalize a.tmps.getD 29 undef = y29
              generalize a.tmps.getD 30 undef = y30
              clear hact
              simp only [Act.put, List.setIfInBounds_toArray, List.set_cons_succ, List.set_cons_zero]
              have hR4 := hide1 (hR.out.later hwa)
              have hK4 : Hid (Kg g w1 wa) := hide1 (hK.out.trans (Kg.ofB hwa))
              clear hgt hwa hR hK
              go_wp2
              go_roundw
              case rel => exact ⟨i + 1, _, by first | rfl | (congr 1; omega) | go_num, by omega, by omega, hst, hR4, hK4⟩
              case measure => simp [intOf]; omega
      · have hei : i = n := by omega
        have hfin : Hid (sg G 0 n = ss ltE (sg E 0 n)) := hide1 (by
          have := hstd.out.2
          rw [hei] at this
          simpa using this)
        go_wp2
        go_ret
        refine ⟨g, cap, G, rfl, by rw [← hBe.out]; exact hgB, by rw [← hBe.out]; exact hRo.out, hfin.out, Kg.out hbw.out hKo.out (by rw [← hBe.out]; exact hgB)⟩
theorem mg_map {α β : Type} {lt : α → α → Bool} {lt' : β → β → Bool} (f : α → β) (hf : ∀ a b, lt' (f a) (f b) = lt a b) : ∀ A B : List α, (mg lt A B).map f = mg lt' (A.map f) (B.map f)
  | [], B => rfl
  | x :: A, B => by
    have h1 : (B.takeWhile (lt · x)).map f = (B.map f).takeWhile (lt' · (f x)) := by
      rw [List.takeWhile_map]; congr 1; congr 1; funext b; simp [hf]
    have h2 : (B.dropWhile (lt · x)).map f = (B.map f).dropWhile (lt' · (f x)) := by
      rw [List.dropWhile_map]; congr 1; congr 1; funext b; simp [hf]
    show (B.takeWhile (lt · x) ++ x :: mg lt A (B.dropWhile (lt · x))).map f = (B.map f).takeWhile (lt' · (f x)) ++ f x :: mg lt' (A.map f) ((B.map f).dropWhile (lt' · (f x)))
    rw [List.map_append, List.map_cons, mg_map f hf A, h1, h2]
theorem ss_map {α β : Type} {lt : α → α → Bool} {lt' : β → β → Bool} (f : α → β) (hf : ∀ a b, lt' (f a) (f b) = lt a b) (L : List α) : (ss lt L).map f = ss lt' (L.map f) := by
  have : ∀ (L P : List α), (L.foldl (fun P x => mg lt P [x]) P).map f = (L.map f).foldl (fun P x => mg lt' P [x]) (P.map f) := by
    intro L
    induction L with
    | nil => intro P; rfl
    | cons x L ih =>
      intro P
      simp only [List.foldl_cons, List.map_cons]
      rw [ih, mg_map f hf]; rfl
  exact this L []
section
variable {P : Program} {Q : Exit → Act → World → Prop}
end
set_option maxRecDepth 100000 in
theorem rpairs_0 {F : Nat → Prop} {w : World} {v : Value} (h : RwA F w 49 6 v []) : Calls Tryz.prog 40 #[v] w fun e w' => (∃ a cap, e = .returned (.slice a 0 cap)) ∧ Below w.heap.size w w' := by
  have hbs := bs_0P w
  have hb0 : Hid (Below w.heap.size w (w.alloc (.cells #[] 49))) := hide1 ((Below.refl _ _).alloc (Nat.le_refl _) _)
  obtain ⟨a, cap, rfl, -, -⟩ := h.sliceP
  clear h
  simp only [List.length_nil]
  go_enter Tryz.func40, Tryz.ntmps40
  cases a <;>
    (go_wp2_with fail
     go_loopw [4] (fun s8 wo => s8 = .int .i64 1 ∧ Hid (Below w.heap.size w wo)) (fun _ _ => 0)
     case atStart => exact ⟨rfl, hb0⟩
     case round =>
       obtain ⟨rfl, hb⟩ := hrel
       clear hb0 hbs
       go_wp2
       go_ret
       exact ⟨⟨_, _, rfl⟩, hb.out⟩)
end Go.Proofs.YtbemaloaobeblaaGreatDoor

namespace Go.Proofs.YtbemaloaobeblaaGreatDoor
open Go.RowKit
section
variable {P : Program} {Q : Exit → Act → World → Prop}
def tlw (P : Program) (l : List Oper) (Q : Exit → Act → World → Prop) : List Oper → Act → World → Prop
  | [], a, w => Q .normal a w
  | o :: r, a, w => ∀ K : Act → World → Prop, (∀ a w, tlw P l Q r a w → K a w) → OpG P l Q o a w K
theorem tlw_val {l r : List Oper} {o : Oper} {a : Act} {w w' : World} {v : Value} (hg : o.guard = none) (h : (execOp a.eval o).run P w = .ok (.value v) w') (hk : tlw P l Q r (a.put o.dst v) w') : tlw P l Q (o :: r) a w :=
  fun _ hK => .plain hg (wp_val h (hK _ _ hk))
theorem tlw_skp {l r : List Oper} {o : Oper} {a : Act} {w w' : World} (hg : o.guard = none) (h : (execOp a.eval o).run P w = .ok .skip w') (hk : tlw P l Q r (a.put o.dst undef) w') : tlw P l Q (o :: r) a w :=
  fun _ hK => .plain hg (wp_skp h (hK _ _ hk))
def finT (l : List Oper) (m n : Nat) : Bool := ((List.range l.length).all fun j => decide (j < m) || (List.range j).all fun i => rch l l.length j i) && (List.range m).all fun i => match (l[i]?).bind (·.dst) with
    | some d => decide (d < n) && (List.range l.length).all fun j => j == i || ((l[j]?).bind (·.dst)) != some d
    | none => false
theorem finT_at {l : List Oper} {m n : Nat} (h : finT l m n = true) {i : Nat} {o : Oper} (ho : l[i]? = some o) (hi : i < m) : ∃ d, o.dst = some d ∧ d < n ∧ ∀ j oj, l[j]? = some oj → j ≠ i → oj.dst ≠ some d := by
  unfold finT at h
  rw [Bool.and_eq_true] at h
  have h1 := List.all_eq_true.1 h.2 i (by simp [hi])
  simp only [ho, Option.bind_some] at h1
  cases hd : o.dst with
  | none => rw [hd] at h1; cases h1
  | some d =>
    rw [hd] at h1
    simp only [Bool.and_eq_true, decide_eq_true_eq] at h1
    refine ⟨d, rfl, h1.1, fun j oj hj hne e => ?_⟩
    have h5 := List.all_eq_true.1 h1.2 j (by simp [(List.getElem?_eq_some_iff.1 hj).1])
    simp [hj, hne, e] at h5
theorem finT_rch {l : List Oper} {m n : Nat} (h : finT l m n = true) {i j : Nat} (hj : j < l.length) (hm : m ≤ j) (hi : i < j) : rch l l.length j i = true := by
  unfold finT at h
  rw [Bool.and_eq_true] at h
  have h1 := List.all_eq_true.1 h.1 j (by simp [hj])
  rw [Bool.or_eq_true] at h1
  rcases h1 with h1 | h1
  · have := of_decide_eq_true h1; omega
  · exact List.all_eq_true.1 h1 i (by simp [hi])
theorem wp_flowT {l : List Oper} {id : Nat} (m : Nat) (a0 : Act) (w0 : World) (hm : P.follows .mixedOrders = true) (hac : acycB l.toArray = true) (hfin : finT l m a0.tmps.size = true) (hml : m < l.length)
    (Rr : Nat → Value → World → Prop) (hmono : ∀ i v w w', Rr i v w → Below w.heap.size w w' → Rr i v w')
    (hop : ∀ i o, l[i]? = some o → i < m → ∀ a w, Below w0.heap.size w0 w → a.tmps.size = a0.tmps.size → (∀ t, wrB l t = false → a.tmps.getD t undef = a0.tmps.getD t undef) → (∀ j oj d, l[j]? = some oj → oj.dst = some d → (∃ e ∈ o.after, Region.binds .any e = true ∧ e.on = j) → Rr j (a.tmps.getD d undef) w) →
      ∀ K : Act → World → Prop, (∀ v w', Below w.heap.size w w' → Rr i v w' → K (a.put o.dst v) w') → OpG P l Q o a w K)
    (hlast : ∀ a w, Below w0.heap.size w0 w → a.defers = a0.defers → a.tmps.size = a0.tmps.size → (∀ t, wrB l t = false → a.tmps.getD t undef = a0.tmps.getD t undef) → (∀ j oj d, l[j]? = some oj → j < m → oj.dst = some d → Rr j (a.tmps.getD d undef) w) → tlw P l Q (l.drop m) a w) : (Code.region id l.toArray true).wp P Q a0 w0 := by
  have hacyc := acyc_of (ops := l.toArray) hac
  have hac' : ∀ (i : Nat) (o : Oper), l[i]? = some o → ∀ e ∈ o.after, Region.binds .any e = true → e.on < i := fun i o ho => hacyc i o (by simpa using ho)
  refine wp_region_any hm (wpAny_sym hacyc (fun D a w => (∃ k, m < k ∧ k ≤ l.length ∧ (∀ j, j < k → D j = true) ∧ (∀ j, k ≤ j → D j = false) ∧ tlw P l Q (l.drop k) a w) ∨ ((∀ j, m ≤ j → D j = false) ∧ a.defers = a0.defers ∧ a.tmps.size = a0.tmps.size ∧ Below w0.heap.size w0 w ∧ (∀ t, wrB l t = false → a.tmps.getD t undef = a0.tmps.getD t undef) ∧ (∀ j oj, l[j]? = some oj → D j = true → ∀ e ∈ oj.after, Region.binds .any e = true → D e.on = true) ∧ ∀ j oj d, l[j]? = some oj → D j = true → oj.dst = some d → Rr j (a.tmps.getD d undef) w)) ?_ ?_ _ _ _ _ (by simp) ?_ ?_)
  · intro D a w hI i o ho hD hdep K hK
    have ho : l[i]? = some o := by simpa using ho
    have hil := (List.getElem?_eq_some_iff.1 ho).1
    -- what waits for another has it behind it
    have hwait : (∀ j oj, l[j]? = some oj → D j = true → ∀ e ∈ oj.after, Region.binds .any e = true → D e.on = true) → ∀ j, rch l l.length i j = true → D j = true := fun hcl j hr => by
      cases hk : l.length with
      | zero => omega
      | succ k =>
        rw [hk] at hr
        unfold rch at hr
        rw [ho] at hr
        obtain ⟨e, he, h4⟩ := Array.any_eq_true'.1 hr
        simp only [Bool.and_eq_true, Bool.or_eq_true, beq_iff_eq] at h4
        rcases h4.2 with h5 | h5
        · rw [← h5]; exact hdep e he h4.1
        · exact rch_of hcl k e.on j h5 (hdep e he h4.1)
    have htail : ∀ (k : Nat), m ≤ k → (∀ j, j < k → D j = true) → (∀ j, k ≤ j → D j = false) → i = k → tlw P l Q (l.drop k) a w → OpG P l Q o a w K := fun k hmk h1 h2 hik ht => by
      subst hik
      rw [List.drop_eq_getElem_cons hil] at ht
      obtain rfl : l[i] = o := by rw [List.getElem?_eq_getElem hil] at ho; exact Option.some.inj ho
      refine ht K fun a' w' ht' => hK a' w' (.inl ⟨i + 1, by omega, hil, fun j hj => ?_, fun j hj => ?_, ht'⟩)
      · by_cases hji : j = i
        · rw [hji]; exact add1_eq
        · rw [add1_ne hji]; exact h1 j (by omega)
      · rw [add1_ne (by omega)]; exact h2 j (by omega)
    rcases hI with ⟨k, hmk, hkl, h1, h2, ht⟩ | ⟨h1, hdf, hsz, hb, hsl, hcl, hr⟩
    · have hik : i = k := by
        have h3 : k ≤ i := Nat.le_of_not_lt fun h => by rw [h1 i h] at hD; cases hD
        rcases Nat.eq_or_lt_of_le h3 with e | h4
        · exact e.symm
        · have := hwait (fun j oj hj hDj e he hb => h1 e.on (Nat.lt_trans (hac' j oj hj e he hb) (Nat.lt_of_not_le fun h => by rw [h2 j h] at hDj; cases hDj))) k (finT_rch hfin hil (by omega) h4)
          rw [h2 k (Nat.le_refl k)] at this; cases this
      exact htail k (by omega) h1 h2 hik ht
    · by_cases hi : m ≤ i
      · have hall : ∀ j, j < i → D j = true := fun j hj => hwait hcl j (finT_rch hfin hil hi hj)
        have him : i = m := by
          rcases Nat.eq_or_lt_of_le hi with e | h4
          · exact e.symm
          · have := hall m h4
            rw [h1 m (Nat.le_refl m)] at this; cases this
        subst him
        exact htail i (Nat.le_refl i) hall h1 rfl (hlast a w hb hdf hsz hsl fun j oj d hj hjm hd => hr j oj d hj (hall j hjm) hd)
      · obtain ⟨d, hd, hdn, hap⟩ := finT_at hfin ho (by omega)
        have hds : d < a.tmps.size := by rw [hsz]; exact hdn
        refine hop i o ho (by omega) a w hb hsz hsl (fun j oj d' hj hd' ⟨e, he, h3, h4⟩ => hr j oj d' hj (by rw [← h4]; exact hdep e he h3) hd') K (fun v w' hb' hR => hK _ _ (.inr ⟨?_, ?_, ?_, ?_, ?_, ?_, ?_⟩))
        · intro j hj
          rw [add1_ne (by omega)]; exact h1 j hj
        · rw [put_df]; exact hdf
        · rw [put_sz]; exact hsz
        · exact hb.trans (hb'.mono hb.size)
        · intro t ht
          rw [hd, put_of hds (fun e => by
            subst e
            have : wrB l t = true := List.any_eq_true.2 ⟨o, List.mem_of_getElem? ho, by simp [hd]⟩
            rw [this] at ht; cases ht)]
          exact hsl t ht
        · intro j oj hj hDj e he h3
          by_cases hji : j = i
          · subst hji
            rw [ho] at hj
            cases hj
            exact add1_mono (hdep e he h3)
          · rw [add1_ne hji] at hDj
            exact add1_mono (hcl j oj hj hDj e he h3)
        · intro j oj d' hj hDj hd'
          by_cases hji : j = i
          · subst hji
            rw [ho] at hj
            cases hj
            rw [hd] at hd'
            cases hd'
            rw [hd, put_at hds]
            exact hR
          · rw [add1_ne hji] at hDj
            rw [hd, put_of hds (fun e => hap j oj hj hji (by rw [hd', e]))]
            exact hmono _ _ _ _ (hr j oj d' hj hDj hd') hb'
  · intro D a w hI hall
    rcases hI with ⟨k, _, hkl, _, h2, ht⟩ | ⟨h1, _⟩
    · have hkl' : k = l.length := by
        rcases Nat.eq_or_lt_of_le hkl with e | h4
        · exact e
        · have := hall k (by simpa using h4)
          rw [h2 k (Nat.le_refl k)] at this; cases this
      subst hkl'
      rw [List.drop_length] at ht
      exact ht
    · have := hall m (by simpa using hml)
      rw [h1 m (Nat.le_refl m)] at this; cases this
  · exact Nat.le_trans (List.length_filter_le _ _) (by simp)
  · have e : (fun i => (Array.replicate l.toArray.size false).getD i false) = fun _ => false := by
      funext i
      by_cases h : i < l.toArray.size <;> simp [Array.getD]
    rw [e]
    exact .inr ⟨fun _ _ => rfl, rfl, rfl, (Below.refl _ _).drew, fun _ _ => rfl, (fun _ _ _ h => absurd h (by simp)), (fun _ _ _ _ h => absurd h (by simp))⟩
end
end Go.Proofs.YtbemaloaobeblaaGreatDoor

namespace Go.Proofs.YtbemaloaobeblaaGreatDoor
open Go.RowKit Go.Shelf

def Eq' (p : List Tp) (cp : List (List Value)) : Nat → Ep := fun k => ((p.getD k ([], .mk 0 0 [] [] [])).1, (cp.getD k []).tail)
section
variable {F : Nat → Prop} {w : World} {p : List Tp} {cp : List (List Value)}
theorem eq_at (h6 : ∀ c ∈ cp, c.length = 6) (hp : cp.length = p.length) (hp1 : ∀ (j : Nat) (q : List UInt8 × T) (c : List Value), p[j]? = some q → cp[j]? = some c → c.head? = some (Value.string (st q.1)))
    (hp2 : ∀ (j : Nat) (q : List UInt8 × T) (c : List Value), p[j]? = some q → cp[j]? = some c → VA F w q.2 c.tail) {j : Nat} (hj : j < cp.length) :
    ∃ q c, p[j]? = some q ∧ cp[j]? = some c ∧ c = cl (Eq' p cp j) ∧ (Eq' p cp j).1 = q.1 ∧ EpOk (Eq' p cp j) ∧ VA F w q.2 (Eq' p cp j).2 := by
  obtain ⟨q, hq⟩ : ∃ q, p[j]? = some q := ⟨_, List.getElem?_eq_getElem (by omega)⟩
  obtain ⟨c, hc⟩ : ∃ c, cp[j]? = some c := ⟨_, List.getElem?_eq_getElem hj⟩
  have h1 := hp1 j q c hq hc
  have h2 := hp2 j q c hq hc
  have hl := h6 c (List.mem_of_getElem? hc)
  have e1 : (p.getD j ([], .mk 0 0 [] [] [])) = q := by rw [List.getD_eq_getElem?_getD, hq]; rfl
  have e2 : cp.getD j [] = c := by rw [List.getD_eq_getElem?_getD, hc]; rfl
  refine ⟨q, c, hq, hc, ?_, by unfold Eq'; rw [e1], ?_, ?_⟩
  · unfold Eq' cl
    rw [e1, e2]
    cases c with
    | nil => simp at hl
    | cons x r => simp at h1; rw [h1]; rfl
  · unfold Eq' EpOk
    rw [e2]
    exact ⟨h2.len, h2.one⟩
  · unfold Eq'
    rw [e2]
    exact h2
end
end Go.Proofs.YtbemaloaobeblaaGreatDoor

namespace Go.Proofs.YtbemaloaobeblaaGreatDoor
open Go.RowKit

abbrev Xt (α : Type) := (Nat → Prop) → World → α → List Value → Prop
def XFr {α : Type} (X : Xt α) : Prop := ∀ {F F' : Nat → Prop} {w w' : World} {t : α} {c : List Value}, X F w t c → (∀ k, F k → k < w.heap.size → w'.heap[k]? = w.heap[k]?) → (∀ k, F k → k < w.heap.size → F' k) → X F' w' t c
theorem VA.xfr : XFr VA := fun h h1 h2 => h.frame h1 h2
theorem PA.xfr : XFr PA := fun h h1 h2 => ⟨h.1, h.2.frame h1 h2⟩
structure Gw5 {α : Type} (X : Xt α) (EL : TypeId) (z B : Nat) (G : Nat → Prop) (xs : List α) (cs : List (List Value)) (v : Value) (W : World) : Prop where
  row : W.ownsRow B EL z v cs.length cs.flatten
  ln : ∀ c ∈ cs, c.length = z
  el : cs.length = xs.length
  va : ∀ (j : Nat) (t : α) (c : List Value), xs[j]? = some t → cs[j]? = some c → X (fun k => G k ∨ (B ≤ k ∧ some k ≠ v.ownBlock)) W t c
section
variable {α : Type} {X : Xt α} {EL : TypeId} {z B : Nat} {G : Nat → Prop} {xs : List α} {cs : List (List Value)} {v v' : Value} {W W1 W' : World} {t : α} {c : List Value}
theorem Gw5.nil : Gw5 X EL z B G [] [] (.slice none 0 0) W := ⟨⟨by simp, .inl ⟨rfl, rfl⟩⟩, by simp, rfl, by simp⟩
theorem Gw5.keep (hX : XFr X) (h : Gw5 X EL z B G xs cs v W) (hk : ∀ k, (G k ∨ B ≤ k) → k < W.heap.size → W'.heap[k]? = W.heap[k]?) : Gw5 X EL z B G xs cs v W' :=
  ⟨own_kept h.row fun b e => hk b (.inr (h.row.lt b e).1) (h.row.lt b e).2, h.ln, h.el, fun j t c h1 h2 => hX (h.va j t c h1 h2) (fun k hF hs => hk k (hF.imp id (·.1)) hs) fun _ h _ => h⟩
theorem Gw5.slc (h : Gw5 X EL z B G xs cs v W) : ∃ a cap, v = .slice a cs.length cap := by
  obtain ⟨_, ⟨h1, h2⟩ | ⟨g, cap, cur, h1, _⟩⟩ := h.row
  · exact ⟨none, 0, by rw [h2]; exact h1⟩
  · exact ⟨_, _, h1⟩
theorem Gw5.app (hX : XFr X) (hG : ∀ k, G k → k < B) (hB : B ≤ W.heap.size) (h : Gw5 X EL z B G xs cs v W) (hb : Below W.heap.size W W1) (hc : c.length = z) (hx : X (fun k => G k ∨ W.heap.size ≤ k) W1 t c)
    (g4 : W'.ownsRow B EL z v' (cs.length + 1) (cs.flatten ++ c)) (g5 : W1.grownBy W' v.ownBlock) (g6 : v'.ownBlock = v.ownBlock ∨ v'.ownBlock = some W1.heap.size) : Gw5 X EL z B G (xs ++ [t]) (cs ++ [c]) v' W' := by
  have hown : ∀ b, v.ownBlock = some b → B ≤ b ∧ b < W.heap.size := fun b e => h.row.lt b e
  have hWs := hb.size
  have hne : ∀ k, k < W1.heap.size → some k ≠ v.ownBlock → some k ≠ v'.ownBlock := fun k hk hn e => by
    rcases g6 with e1 | e1
    · exact hn (e.trans e1)
    · rw [e1] at e
      cases e; omega
  refine ⟨by rw [List.length_append, List.length_singleton, List.flatten_append, List.flatten_singleton]; exact g4, fun x hx => ?_, by simp [h.el], fun j t' c' k1 k2 => ?_⟩
  · rcases List.mem_append.1 hx with hx | hx
    · exact h.ln x hx
    · rw [List.mem_singleton.1 hx]; exact hc
  · have hel := h.el
    have old : ∀ {t' c'}, xs[j]? = some t' → cs[j]? = some c' → X (fun k => G k ∨ (B ≤ k ∧ some k ≠ v'.ownBlock)) W' t' c' := fun {t' c'} h3 h4 =>
      hX (h.va j t' c' h3 h4) (fun k hF hs => (g5.block k (by omega) (fun e => by
        rcases hF with h5 | h5
        · have := (hown k e.symm).1; have := hG k h5; omega
        · exact h5.2 e)).trans (hb.block k hs)) (fun k hF hs => hF.imp id fun h5 => ⟨h5.1, hne k (by omega) h5.2⟩)
    rcases snoc_get k1 with h3 | ⟨h3, rfl⟩
    · rcases snoc_get k2 with h4 | ⟨h4, rfl⟩
      · exact old h3 h4
      · have := (List.getElem?_eq_some_iff.1 h3).1
        omega
    · rcases snoc_get k2 with h4 | ⟨h4, rfl⟩
      · have := (List.getElem?_eq_some_iff.1 h4).1
        omega
      · have hnb : ∀ k, G k ∨ W.heap.size ≤ k → some k ≠ v.ownBlock := fun k hF e => by
          have := hown k e.symm
          rcases hF with h5 | h5
          · have := hG k h5; omega
          · omega
        exact hX hx (fun k hF hs => g5.block k hs (hnb k hF)) (fun k hF hs => hF.imp id fun h5 => ⟨by omega, hne k hs (hnb k (.inr h5))⟩)
end
section
variable {B : Nat} {G : Nat → Prop} {cs : List (List Value)} {v : Value} {W W1 : World}
theorem app_GV {xs : List T} {t : T} {c : Array Value} (tr : TypeId) (hG : ∀ k, G k → k < B) (hB : B ≤ W.heap.size) (h : Gw5 VA 28 5 B G xs cs v W) (hb : Below W.heap.size W W1) (hx : VA (fun k => G k ∨ W.heap.size ≤ k) W1 t c.toList) {nb : Nat} (hnb : W1.heap[nb]? = some (.cells c 28 (0, 0))) (hn : cs.length ≤ 1000000) :
    ∃ v' W', (Builtin.append_ #[25, 25] tr #[v, .slice (some ⟨nb, 0, none⟩) 1 1]).run Tryz.prog W1 = .ok v' W' ∧ W1.grownBy W' v.ownBlock ∧ Gw5 VA 28 5 B G (xs ++ [t]) (cs ++ [c.toList]) v' W' := by
  obtain ⟨i0, hi, hz0, hz1, hz2⟩ := info_parts inf_V
  have hnews : ∀ j u, c.toList[j]? = some u → W1.cell? ((⟨nb, 0, none⟩ : Addr).add j) = some u := by
    intro j u hj
    rw [Addr.add_lit, Nat.zero_add]
    simp only [World.cell?, hnb]
    simpa using hj
  have hrow := own_kept (w' := W1) h.row fun b e => hb.block b (h.row.lt b e).2
  obtain ⟨v', W', hr, g4, g5, -, g6⟩ := run_append_own_at (P := Tryz.prog) W1 B 25 tr 28 i0 _ 5 80 Tryz.underlying25 hi hz0 hz1 hz2 rfl (by decide) v cs.length cs.flatten hrow ⟨nb, 0, none⟩ 1 1 c.toList (by simpa using hx.len) hnews
    (fun u hu => List.all_eq_true.1 hx.one u hu) (by unfold maxLen; omega) (by omega) (Nat.le_trans hB hb.size)
  exact ⟨v', W', hr, g5, h.app VA.xfr hG hB hb hx.len hx g4 g5 g6⟩
theorem app_GP {xs : List Tp} {t : Tp} {c : Array Value} (tr : TypeId) (hG : ∀ k, G k → k < B) (hB : B ≤ W.heap.size) (h : Gw5 PA 49 6 B G xs cs v W) (hb : Below W.heap.size W W1) (hc : c.size = 6) (hx : PA (fun k => G k ∨ W.heap.size ≤ k) W1 t c.toList) {nb : Nat} (hnb : W1.heap[nb]? = some (.cells c 49 (0, 0))) (hn : cs.length ≤ 1000000) :
    ∃ v' W', (Builtin.append_ #[26, 26] tr #[v, .slice (some ⟨nb, 0, none⟩) 1 1]).run Tryz.prog W1 = .ok v' W' ∧ W1.grownBy W' v.ownBlock ∧ Gw5 PA 49 6 B G (xs ++ [t]) (cs ++ [c.toList]) v' W' := by
  obtain ⟨i0, hi, hz0, hz1, hz2⟩ := info_parts inf_P
  have hnews : ∀ j u, c.toList[j]? = some u → W1.cell? ((⟨nb, 0, none⟩ : Addr).add j) = some u := by
    intro j u hj
    rw [Addr.add_lit, Nat.zero_add]
    simp only [World.cell?, hnb]
    simpa using hj
  have hrow := own_kept (w' := W1) h.row fun b e => hb.block b (h.row.lt b e).2
  have hone : ∀ u ∈ c.toList, u.oneCell' = true := by
    obtain ⟨h1, h2⟩ := hx
    have h3 := h2.one
    cases hcl : c.toList with
    | nil => simp
    | cons x r =>
      rw [hcl] at h1 h3
      simp only [List.head?_cons, Option.some.injEq] at h1
      intro u hu
      rcases List.mem_cons.1 hu with rfl | hu
      · rw [h1]; rfl
      · exact List.all_eq_true.1 h3 u hu
  obtain ⟨v', W', hr, g4, g5, -, g6⟩ := run_append_own_at (P := Tryz.prog) W1 B 26 tr 49 i0 _ 6 96 Tryz.underlying26 hi hz0 hz1 hz2 rfl (by decide) v cs.length cs.flatten hrow ⟨nb, 0, none⟩ 1 1 c.toList (by simpa using hc) hnews
    hone (by unfold maxLen; omega) (by omega) (Nat.le_trans hB hb.size)
  exact ⟨v', W', hr, g5, h.app PA.xfr hG hB hb (by simpa using hc) hx g4 g5 g6⟩
end
structure Sx5 (w : World) (ca c5 : Array Value) (B : Nat) (A W : World) : Prop where
  bw : Below w.heap.size w W
  b2 : W.heap[w.heap.size]? = some (.cells ca 28 (0, 0))
  b4 : W.heap[w.heap.size + 1]? = some (.cells zV 28 (0, 0))
  b5 : W.heap[w.heap.size + 2]? = some (.cells c5 28 (0, 0))
  hB : w.heap.size + 3 ≤ B
  sz : B ≤ W.heap.size
  kp : ∀ k, w.heap.size + 3 ≤ k → k < B → W.heap[k]? = A.heap[k]?
section
variable {w A W W' : World} {ca c5 : Array Value} {B : Nat}
theorem Sx5.grown (h : Sx5 w ca c5 B A W) {o : Option Nat} (g : W.grownBy W' o) (ho : ∀ b, o = some b → B ≤ b) : Sx5 w ca c5 B A W' := by
  have h1 := h.hB
  have h2 := h.sz
  have hk : ∀ k, k < B → W'.heap[k]? = W.heap[k]? := fun k hk => g.block k (by omega) fun e => by have := ho k e.symm; omega
  exact ⟨⟨g.os.trans h.bw.os, g.tape.trans h.bw.tape, g.output.trans h.bw.output, Nat.le_trans h.bw.size g.size, fun k hs => (hk k (by omega)).trans (h.bw.block k hs)⟩, (hk _ (by omega)).trans h.b2, (hk _ (by omega)).trans h.b4, (hk _ (by omega)).trans h.b5, h1, Nat.le_trans h2 g.size, fun k k1 k2 => (hk k k2).trans (h.kp k k1 k2)⟩
theorem Sx5.below (h : Sx5 w ca c5 B A W) (hb : Below W.heap.size W W') : Sx5 w ca c5 B A W' :=
  h.grown (o := none) ⟨hb.os, hb.tape, hb.output, hb.size, fun k hk _ => hb.block k hk⟩ (fun _ e => by cases e)
theorem Sx5.sto (h : Sx5 w ca c5 B A W) (x : Array Value) : Sx5 w ca x B A (W.setRow (w.heap.size + 2) x) := by
  have h1 := h.hB
  have hk : ∀ k, k ≠ w.heap.size + 2 → (W.setRow (w.heap.size + 2) x).heap[k]? = W.heap[k]? := fun k hk => setRow_other W _ k _ hk
  exact ⟨blw_own h.bw (by omega) x, (hk _ (by omega)).trans h.b2, (hk _ (by omega)).trans h.b4, setRow_heap W _ _ _ _ _ h.b5, h1, by simpa [World.setRow] using h.sz, fun k k1 k2 => (hk k (by omega)).trans (h.kp k k1 k2)⟩
end
def AnG5 (F : Nat → Prop) (w : World) (t : T) (e : Ending) (w' : World) : Prop := ∃ c : Array Value, e = .returned (.agg c) ∧ c.size = 5 ∧ Below w.heap.size w w' ∧ VA (fun k => F k ∨ w.heap.size ≤ k) w' t c.toList
end Go.Proofs.YtbemaloaobeblaaGreatDoor

namespace Go.Proofs.YtbemaloaobeblaaGreatDoor
open Go.RowKit Go.Shelf

theorem eqg_a5 {t : TypeId} {x u : Operand} {a b : Value} {w : World} : (eqGuard .add t x u a b).run Tryz.prog w = .ok () w := rfl
theorem tlw_end {l : List Oper} {Q : Exit → Act → World → Prop} {a : Act} {w : World} (h : Q .normal a w) : tlw Tryz.prog l Q [] a w := h
theorem bs_P6 {x0 x1 x2 x3 x4 x5 : Value} (w : World) : (Instr.buildSlice 26 1 #[(0, .agg #[x0, x1, x2, x3, x4, x5])]).run Tryz.prog w = .ok (.slice (some ⟨w.heap.size, 0, none⟩) 1 1) (w.alloc (.cells #[x0, x1, x2, x3, x4, x5] 49)) := by kernel_rfl
set_option maxHeartbeats 16000000 in
set_option maxRecDepth 100000 in
theorem rs_s {Q : T → Prop} {F : Nat → Prop} {d m : Nat} (hd : d + 1 + m = 8) (ih : ∀ {w : World} {t : T} {c : List Value}, Q t → VA F w t c → (∀ k, F k → k < w.heap.size) → Calls Tryz.prog 23 #[.agg c.toArray, .int .i64 (d + 1 : Nat)] w (AnG5 F w (so m t)))
    {w : World} {t : T} {c : List Value} (hh : HQ Q t) (h : VA F w t c) (hF : ∀ k, F k → k < w.heap.size) : Calls Tryz.prog 23 #[.agg c.toArray, .int .i64 (d : Nat)] w (AnG5 F w (so (m + 1) t)) := by
  cases h with
  | @mk k ki s l p sl sp cl cp r1 r2 e1 e2 hl hp1 hp2 =>
    obtain ⟨b1, b2, hl1, hl2⟩ := hh
    obtain ⟨l', hl'⟩ : ∃ l', Hid (l' = l.map (so m)) := ⟨_, hide1 rfl⟩
    obtain ⟨sa, scap, rfl⟩ := r1.slc
    obtain ⟨pa, pcap, rfl⟩ := r2.slc
    have hd7 : d < 8 := by omega
    have hd8 : ¬ (8 : Int) ≤ ((d : Nat) : Int) := by omega
    obtain ⟨N, hN⟩ : ∃ N, Hid (N = w.heap.size) := ⟨_, hide1 rfl⟩
    obtain ⟨w2, hw2⟩ : ∃ w2, w2 = ((w.alloc (.cells #[.int .i64 k, .int .i64 ki, .string (st s), .slice sa cl.length scap, .slice pa cp.length pcap] 28)).alloc (.cells #[.int .i64 0, .int .i64 0, .string ⟨#[]⟩, .slice none 0 0, .slice none 0 0] 28)).alloc (.cells #[.int .i64 k, .int .i64 ki, .string (st s), .slice sa cl.length scap, .slice pa cp.length pcap] 28) := ⟨_, rfl⟩
    have S0 : Sx5 w #[.int .i64 k, .int .i64 ki, .string (st s), .slice sa cl.length scap, .slice pa cp.length pcap] #[.int .i64 k, .int .i64 ki, .string (st s), .slice sa cl.length scap, .slice pa cp.length pcap] (w.heap.size + 3) w w2 := by
      rw [hw2]
      refine ⟨((below_al _).alloc (by simp) _).alloc (by simp; omega) _, ?_, ?_, ?_, Nat.le_refl _, by simp, fun k h1 h2 => by omega⟩
      · show (((w.heap.push _).push _).push _)[w.heap.size]? = _
        rw [Array.getElem?_push, if_neg (by simp; omega), Array.getElem?_push, if_neg (by simp), Array.getElem?_push, if_pos rfl]
      · show (((w.heap.push _).push _).push _)[w.heap.size + 1]? = _
        rw [Array.getElem?_push, if_neg (by simp), Array.getElem?_push, if_pos (by simp)]
        rfl
      · show (((w.heap.push _).push _).push _)[w.heap.size + 2]? = _
        rw [Array.getElem?_push, if_pos (by simp)]
    obtain ⟨w3, hw3⟩ : ∃ w3, w3 = (w2.setCell ⟨w.heap.size + 1 + 1, 3, none⟩ (.slice none 0 0)).setCell ⟨w.heap.size + 1 + 1, 4, none⟩ (.slice none 0 0) := ⟨_, rfl⟩
    have x3 : w2.setCell ⟨w.heap.size + 1 + 1, 3, none⟩ (.slice none 0 0) = w2.setRow (w.heap.size + 2) #[.int .i64 k, .int .i64 ki, .string (st s), .slice none 0 0, .slice pa cp.length pcap] := by
      rw [setCell_eq_setRow w2 (w.heap.size + 1 + 1) 3 _ _ (0, 0) _ S0.b5]; rfl
    have S1 := S0.sto #[.int .i64 k, .int .i64 ki, .string (st s), .slice none 0 0, .slice pa cp.length pcap]
    have x4 : w3 = (w2.setRow (w.heap.size + 2) #[.int .i64 k, .int .i64 ki, .string (st s), .slice none 0 0, .slice pa cp.length pcap]).setRow (w.heap.size + 2) #[.int .i64 k, .int .i64 ki, .string (st s), .slice none 0 0, .slice none 0 0] := by
      rw [hw3, x3, setCell_eq_setRow _ (w.heap.size + 1 + 1) 4 _ _ (0, 0) _ S1.b5]; rfl
    have S2 := S1.sto #[.int .i64 k, .int .i64 ki, .string (st s), .slice none 0 0, .slice none 0 0]
    rw [← x4] at S2
    have d3 : w2.cell? ⟨w.heap.size + 1 + 1, 3, none⟩ = some (.slice sa cl.length scap) := by simp only [World.cell?, S0.b5]; rfl
    have f3 : w2.frozen? ⟨w.heap.size + 1 + 1, 3, none⟩ = false := by simp [World.frozen?, S0.b5]
    have d4 : (w2.setCell ⟨w.heap.size + 1 + 1, 3, none⟩ (.slice none 0 0)).cell? ⟨w.heap.size + 1 + 1, 4, none⟩ = some (.slice pa cp.length pcap) := by rw [x3]; simp only [World.cell?, S1.b5]; rfl
    have f4 : (w2.setCell ⟨w.heap.size + 1 + 1, 3, none⟩ (.slice none 0 0)).frozen? ⟨w.heap.size + 1 + 1, 4, none⟩ = false := by rw [x3]; simp [World.frozen?, S1.b5]
    replace S2 := hide1 S2
    replace e1 := hide1 e1
    replace e2 := hide1 e2
    clear S0 S1 x3 x4
    go_enter Tryz.func23, Tryz.ntmps23
    go_upto_region 4 with fail
    rw [← hw2]
    clear hw2
    go_upto_region 6 with fail
    rw [← hw3]
    clear hw3 d3 f3 d4 f4 hd8
    have hcl9 : cl.length ≤ 1000000 := by have := e1.out; omega
    have hcp9 : cp.length ≤ 1000000 := by have := e2.out; omega
    have hN3 : ∀ k, F k → k < w.heap.size + 3 := fun k hk => by have := hF k hk; omega
    go_wp2_with fail
    go_loopw [6] (fun x wr => ∃ (i : Nat) (v : Value) (cs : List (List Value)), x = .int .i64 (i : Nat) ∧ i ≤ cl.length ∧ Hid (Sx5 w #[.int .i64 k, .int .i64 ki, .string (st s), .slice sa cl.length scap, .slice pa cp.length pcap] #[.int .i64 k, .int .i64 ki, .string (st s), v, .slice none 0 0] (w.heap.size + 3) w wr) ∧ Hid (Gw5 VA 28 5 (w.heap.size + 3) F (l'.take i) cs v wr)) (fun x _ => cl.length - (intOf x).toNat)
    case atStart => exact ⟨0, _, [], rfl, by omega, S2, hide1 Gw5.nil⟩
    case round =>
      clear S2
      obtain ⟨i, v, cs, rfl, hin, hS, hG⟩ := hrel
      obtain ⟨va, vc, rfl⟩ := hG.out.slc
      have c3 : wr.cell? ⟨w.heap.size, 3, none⟩ = some (.slice sa cl.length scap) := by simp only [World.cell?, hS.out.b2]; rfl
      have hbw := hide1 hS.out.bw
      have hel := hG.out.el
      rw [List.length_take] at hel
      have hlen' : l'.length = l.length := by rw [hl'.out, List.length_map]
      by_cases hlt : i < cl.length
      · obtain ⟨x, hx⟩ : ∃ x, cl[i]? = some x := ⟨_, List.getElem?_eq_getElem hlt⟩
        obtain ⟨u, hu⟩ : ∃ u, l[i]? = some u := ⟨_, List.getElem?_eq_getElem (by have := e1.out; omega)⟩
        have hxu := hl i u x hu hx
        have hhu := hl1 u (List.mem_of_getElem? hu)
        have hu' : l'[i]? = some (so m u) := by rw [hl'.out, List.getElem?_map, hu]; rfl
        have r1b : RwA F wr 28 5 (.slice sa cl.length scap) cl := r1.frame (fun k _ hs => hbw.out.block k hs) (fun _ h _ => h)
        obtain ⟨gb, o, cap, hve, hFg, hgl, hr⟩ := r1b.at hx
        obtain ⟨rfl, rfl⟩ : sa = some ⟨gb, o, none⟩ ∧ scap = cap := by cases hve; exact ⟨rfl, rfl⟩
        obtain ⟨x0, x1, x2, x3, x4, rfl⟩ := five_l hxu.len
        have hldE : ∀ wa, Below wr.heap.size wr wa → (Instr.loadAt 28 (.pointer (some ⟨gb, o + i * 5, none⟩))).run Tryz.prog wa = .ok (.agg #[x0, x1, x2, x3, x4]) wa := fun wa hwa => ld_mV (fun q v hq => (World.cell?_of_block (hwa.block _ hgl)).trans (hr q v hq))
        have ihc : ∀ wa, Below wr.heap.size wr wa → Calls Tryz.prog 23 #[.agg #[x0, x1, x2, x3, x4], .int .i64 (d + 1 : Nat)] wa (AnG5 F wa (so m u)) := fun wa hwa => ih (c := [x0, x1, x2, x3, x4]) hhu (VA.frame (c := [x0, x1, x2, x3, x4]) hxu (fun k _ hs => (hwa.block k (Nat.lt_of_lt_of_le hs hbw.out.size)).trans (hbw.out.block k hs)) (fun _ h _ => h)) (fun k hk => Nat.lt_of_lt_of_le (hF k hk) (Nat.le_trans hbw.out.size hwa.size))
        have hcsl : cs.length ≤ 1000000 := by have := e1.out; omega
        clear hxu hve hr r1b hel
        replace hu' := hide1 hu'
        go_upto_region 9 with fail
        refine wp_flowT 11 _ _ (by kernel_rfl) (by kernel_rfl) (by kernel_rfl) (by decide) (fun j v_ w_ => if j = 9 then (fun v w => ∃ c : Array Value, v = .agg c ∧ VA (fun k => F k ∨ wr.heap.size ≤ k) w (so m u) c.toList) v_ w_ else if j = 10 then (fun v w => ∃ (c : Array Value) (nb : Nat), v = .slice (some ⟨nb, 0, none⟩) 1 1 ∧ w.heap[nb]? = some (.cells c 28 (0, 0)) ∧ VA (fun k => F k ∨ wr.heap.size ≤ k) w (so m u) c.toList) v_ w_ else v_ = ([.pointer (some ⟨w.heap.size + 1 + 1, 3, none⟩), .slice va cs.length vc, .pointer (some ⟨w.heap.size, 3, none⟩), .slice (some ⟨gb, o, none⟩) cl.length scap, .int .i64 (i : Nat), .pointer (some ⟨gb, o + i * 5, none⟩), .agg #[x0, x1, x2, x3, x4], .int .i64 (d : Nat), .int .i64 (d + 1 : Nat), undef, undef, undef, undef, undef] : List Value).getD j undef) (fun j v w w' h hb => by
              by_cases e9 : j = 9
              · subst e9; exact by obtain ⟨c, e, hx⟩ := h; exact ⟨c, e, hx.frame (fun k _ hs => hb.block k hs) (fun _ h _ => h)⟩
              by_cases e10 : j = 10
              · subst e10; exact by obtain ⟨c, nb, e, hn, hx⟩ := h; exact ⟨c, nb, e, (hb.block _ (Array.getElem?_eq_some_iff.1 hn).1).trans hn, hx.frame (fun k _ hs => hb.block k hs) (fun _ h _ => h)⟩
              · simp only [if_neg e9, if_neg e10] at h ⊢; exact h
              ) ?_ ?_
        · intro j op hop hj a wa hwa hsz hsl hdep K hK
          match j, hop, hj with
          | 0, hop, _ =>
            obtain rfl := Option.some.inj hop
            have p5 : a.tmps.getD 5 undef = .pointer (some ⟨w.heap.size + 1 + 1, 0, none⟩) := hsl 5 rfl
            exact .plain rfl (wp_val (w' := wa) (v := .pointer (some ⟨w.heap.size + 1 + 1, 3, none⟩)) (by simp only [execOp, Act.eval]; rw [show a.tmps.getD 5 undef = _ from p5]; kernel_rfl) (hK _ _ (Below.refl _ _) rfl))
          | 1, hop, _ =>
            obtain rfl := Option.some.inj hop
            have t0 : a.tmps.getD 22 undef = .pointer (some ⟨w.heap.size + 1 + 1, 3, none⟩) := hdep 0 _ 22 rfl rfl ⟨⟨0, .data⟩, by simp, rfl, rfl⟩
            have hc : wa.cell? ⟨w.heap.size + 1 + 1, 3, none⟩ = some (.slice va cs.length vc) := by simp only [World.cell?, (hS.out.below hwa).b5]; rfl
            exact .plain rfl (wp_val (w' := wa) (v := .slice va cs.length vc) (by simp only [execOp, Act.eval]; rw [show a.tmps.getD 22 undef = _ from t0]; simp only [Sem.run_bind, ld_sV hc, Result.andThen_ok, Sem.run_pure]) (hK _ _ (Below.refl _ _) rfl))
          | 2, hop, _ =>
            obtain rfl := Option.some.inj hop
            have p2 : a.tmps.getD 2 undef = .pointer (some ⟨w.heap.size, 0, none⟩) := hsl 2 rfl
            exact .plain rfl (wp_val (w' := wa) (v := .pointer (some ⟨w.heap.size, 3, none⟩)) (by simp only [execOp, Act.eval]; rw [show a.tmps.getD 2 undef = _ from p2]; kernel_rfl) (hK _ _ (Below.refl _ _) rfl))
          | 3, hop, _ =>
            obtain rfl := Option.some.inj hop
            have t2 : a.tmps.getD 24 undef = .pointer (some ⟨w.heap.size, 3, none⟩) := hdep 2 _ 24 rfl rfl ⟨⟨2, .data⟩, by simp, rfl, rfl⟩
            have hc : wa.cell? ⟨w.heap.size, 3, none⟩ = some (.slice (some ⟨gb, o, none⟩) cl.length scap) := by simp only [World.cell?, (hS.out.below hwa).b2]; rfl
            exact .plain rfl (wp_val (w' := wa) (v := .slice (some ⟨gb, o, none⟩) cl.length scap) (by simp only [execOp, Act.eval]; rw [show a.tmps.getD 24 undef = _ from t2]; simp only [Sem.run_bind, ld_sV hc, Result.andThen_ok, Sem.run_pure]) (hK _ _ (Below.refl _ _) rfl))
          | 4, hop, _ =>
            obtain rfl := Option.some.inj hop
            have p6 : a.tmps.getD 6 undef = .int .i64 (i : Nat) := hsl 6 rfl
            exact .plain rfl (wp_val (w' := wa) (v := .int .i64 (i : Nat)) (by simp only [execOp, Act.eval]; rw [show a.tmps.getD 6 undef = _ from p6]; rfl) (hK _ _ (Below.refl _ _) rfl))
          | 5, hop, _ =>
            obtain rfl := Option.some.inj hop
            have t3 : a.tmps.getD 25 undef = .slice (some ⟨gb, o, none⟩) cl.length scap := hdep 3 _ 25 rfl rfl ⟨⟨3, .data⟩, by simp, rfl, rfl⟩
            have t4 : a.tmps.getD 26 undef = .int .i64 (i : Nat) := hdep 4 _ 26 rfl rfl ⟨⟨4, .data⟩, by simp, rfl, rfl⟩
            exact .plain rfl (wp_val (w' := wa) (v := .pointer (some ⟨gb, o + i * 5, none⟩)) (by simp only [execOp, Act.eval]; rw [show a.tmps.getD 25 undef = _ from t3, show a.tmps.getD 26 undef = _ from t4]; simp only [Sem.run_bind, ix_oV hlt, Result.andThen_ok, Sem.run_pure]) (hK _ _ (Below.refl _ _) rfl))
          | 6, hop, _ =>
            obtain rfl := Option.some.inj hop
            have t5 : a.tmps.getD 27 undef = .pointer (some ⟨gb, o + i * 5, none⟩) := hdep 5 _ 27 rfl rfl ⟨⟨5, .data⟩, by simp, rfl, rfl⟩
            exact .plain rfl (wp_val (w' := wa) (v := .agg #[x0, x1, x2, x3, x4]) (by simp only [execOp, Act.eval]; rw [show a.tmps.getD 27 undef = _ from t5]; simp only [Sem.run_bind, hldE wa hwa, Result.andThen_ok, Sem.run_pure]) (hK _ _ (Below.refl _ _) rfl))
          | 7, hop, _ =>
            obtain rfl := Option.some.inj hop
            have p1 : a.tmps.getD 1 undef = .int .i64 (d : Nat) := hsl 1 rfl
            exact .plain rfl (wp_val (w' := wa) (v := .int .i64 (d : Nat)) (by simp only [execOp, Act.eval]; rw [show a.tmps.getD 1 undef = _ from p1]; rfl) (hK _ _ (Below.refl _ _) rfl))
          | 8, hop, _ =>
            obtain rfl := Option.some.inj hop
            have t7 : a.tmps.getD 29 undef = .int .i64 (d : Nat) := hdep 7 _ 29 rfl rfl ⟨⟨7, .data⟩, by simp, rfl, rfl⟩
            exact .plain rfl (wp_val (w' := wa) (v := .int .i64 (d + 1 : Nat)) (by simp only [execOp, Act.eval]; rw [show a.tmps.getD 29 undef = _ from t7]; simp only [Sem.run_bind, eqg_a5, add1_n (a := d) (by omega), Result.andThen_ok, Sem.run_pure]) (hK _ _ (Below.refl _ _) rfl))
          | 9, hop, _ =>
            obtain rfl := Option.some.inj hop
            have t6 : a.tmps.getD 28 undef = .agg #[x0, x1, x2, x3, x4] := hdep 6 _ 28 rfl rfl ⟨⟨6, .data⟩, by simp, rfl, rfl⟩
            have t8 : a.tmps.getD 30 undef = .int .i64 (d + 1 : Nat) := hdep 8 _ 30 rfl rfl ⟨⟨8, .data⟩, by simp, rfl, rfl⟩
            refine .plain rfl (oper_any (J := fun r w' => (fun v w => ∃ c : Array Value, v = .agg c ∧ VA (fun k => F k ∨ wr.heap.size ≤ k) w (so m u) c.toList) r w' ∧ Below wa.heap.size wa w') 23 #[.tmp 28, .tmp 30] _ rfl #[.agg #[x0, x1, x2, x3, x4], .int .i64 (d + 1 : Nat)] (by simp only [List.map_toArray, List.map_cons, List.map_nil, Act.eval]; rw [show a.tmps.getD 28 undef = _ from t6, show a.tmps.getD 30 undef = _ from t8]) (fun w => by kernel_rfl) ((ihc wa hwa).mono fun e w' h => by obtain ⟨c, rfl, h5, hb, hx⟩ := h; exact ⟨_, rfl, ⟨c, rfl, hx.frame (fun _ _ _ => rfl) (fun k hk _ => hk.imp id (Nat.le_trans hwa.size))⟩, hb⟩) ?_)
            rintro r w' ⟨hr, hb⟩
            exact hK _ _ hb hr
          | 10, hop, _ =>
            obtain rfl := Option.some.inj hop
            have t9 : (fun v w => ∃ c : Array Value, v = .agg c ∧ VA (fun k => F k ∨ wr.heap.size ≤ k) w (so m u) c.toList) (a.tmps.getD 31 undef) wa := hdep 9 _ 31 rfl rfl ⟨⟨9, .data⟩, by simp, rfl, rfl⟩
            obtain ⟨c, ev, hx⟩ := t9
            have hb5 := below_al (w := wa) (.cells c 28)
            exact .plain rfl (wp_val (w' := wa.alloc (.cells c 28)) (v := .slice (some ⟨wa.heap.size, 0, none⟩) 1 1) (by simp only [execOp, Act.eval, List.map_toArray, List.map_cons, List.map_nil]; rw [show a.tmps.getD 31 undef = _ from ev]; simp only [Sem.run_bind, bs_V5 (by simpa using hx.len), Result.andThen_ok, Sem.run_pure]) (hK _ _ hb5 ⟨c, _, rfl, new_at wa c 28, hx.frame (fun k _ hs => hb5.block k hs) (fun _ h _ => h)⟩))
          | j + 11, _, hj => exact absurd hj (by omega)
        · intro a wa hwa hdf hsz hsl hrr
          have kv23 : a.tmps.getD 23 undef = .slice va cs.length vc := hrr 1 _ 23 rfl (by decide) rfl
          have kr32 : (fun v w => ∃ (c : Array Value) (nb : Nat), v = .slice (some ⟨nb, 0, none⟩) 1 1 ∧ w.heap[nb]? = some (.cells c 28 (0, 0)) ∧ VA (fun k => F k ∨ wr.heap.size ≤ k) w (so m u) c.toList) (a.tmps.getD 32 undef) wa := hrr 10 _ 32 rfl (by decide) rfl
          have hact := act_puts hdf hsz hsl
          clear hrr hsl hdf hsz
          simp only [List.filterMap_cons, List.filterMap_nil, List.foldl_cons, List.foldl_nil] at hact
          rw [kv23] at hact
          rw [hact]
          generalize a.tmps.getD 22 undef = y22
          generalize a.tmps.getD 24 undef = y24
          generalize a.tmps.getD 25 undef = y25
          generalize a.tmps.getD 26 undef = y26
          generalize a.tmps.getD 27 undef = y27
          generalize a.tmps.getD 28 undef = y28
          generalize a.tmps.getD 29 undef = y29
          generalize a.tmps.getD 30 undef = y30
          generalize a.tmps.getD 31 undef = y31
          generalize a.tmps.getD 32 undef = y32 at kr32 ⊢
          generalize a.tmps.getD 33 undef = y33
          generalize a.tmps.getD 34 undef = y34
          clear hact kv23 a
          simp only [Act.put, List.setIfInBounds_toArray, List.set_cons_succ, List.set_cons_zero]
          obtain ⟨c, nb, rfl, hnb, hx⟩ := kr32
          obtain ⟨v', W', hr, g5, hG'⟩ := app_GV 25 hN3 hS.out.sz hG.out hwa hx hnb hcsl
          obtain ⟨va', vc', rfl⟩ := hG'.slc
          have hS' := (hS.out.below hwa).grown g5 (fun b e => (hG.out.row.lt b e).1)
          have hc' : W'.cell? ⟨w.heap.size + 1 + 1, 3, none⟩ = some (.slice va cs.length vc) := by simp only [World.cell?, hS'.b5]; rfl
          have hf' : W'.frozen? ⟨w.heap.size + 1 + 1, 3, none⟩ = false := by simp [World.frozen?, hS'.b5]
          have hst : (Instr.storeAt 25 (.pointer (some ⟨w.heap.size + 1 + 1, 3, none⟩)) (.slice va' (cs ++ [c.toList]).length vc')).run Tryz.prog W' = .ok () (W'.setCell ⟨w.heap.size + 1 + 1, 3, none⟩ (.slice va' (cs ++ [c.toList]).length vc')) := by simp [Instr.storeAt, Instr.sureAddr, go_sem, hc', hf']
          have hsw : W'.setCell ⟨w.heap.size + 1 + 1, 3, none⟩ (.slice va' (cs ++ [c.toList]).length vc') = W'.setRow (w.heap.size + 2) #[.int .i64 k, .int .i64 ki, .string (st s), .slice va' (cs ++ [c.toList]).length vc', .slice none 0 0] := by
            rw [setCell_eq_setRow W' (w.heap.size + 1 + 1) 3 _ _ (0, 0) _ hS'.b5]; rfl
          have hS2 := hS'.sto #[.int .i64 k, .int .i64 ki, .string (st s), .slice va' (cs ++ [c.toList]).length vc', .slice none 0 0]
          have hG2 := hG'.keep (X := VA) VA.xfr (W' := W'.setRow (w.heap.size + 2) #[.int .i64 k, .int .i64 ki, .string (st s), .slice va' (cs ++ [c.toList]).length vc', .slice none 0 0]) (fun k hk _ => setRow_other W' _ k _ (hk.elim (fun h => by have := hF k h; omega) (fun h => by omega)))
          rw [← hsw] at hS2 hG2
          rw [show l'.take i ++ [so m u] = l'.take (i + 1) by rw [List.take_add_one, hu'.out]; rfl] at hG2
          replace hS2 := hide1 hS2
          replace hG2 := hide1 hG2
          generalize (cs ++ [c.toList]) = cs2 at *
          refine tlw_val (w' := W') (v := .slice va' cs2.length vc') rfl (by unfold execOp; simp only [resolve, invoke, builtin, Sem.run_bind, Sem.run_pure, Result.andThen_ok, List.map_toArray, List.map_cons, List.map_nil]; exact (by rw [show (Act.eval _ (.tmp 23)) = .slice va cs.length vc from rfl, show (Act.eval _ (.tmp 32)) = .slice (some ⟨nb, 0, none⟩) 1 1 from rfl, hr]; rfl)) ?_
          simp only [Act.put, List.setIfInBounds_toArray, List.set_cons_succ, List.set_cons_zero]
          refine tlw_val (w' := W') (v := .pointer (some ⟨w.heap.size + 1 + 1, 3, none⟩)) rfl (by kernel_rfl) ?_
          simp only [Act.put, List.setIfInBounds_toArray, List.set_cons_succ, List.set_cons_zero]
          refine tlw_skp (w' := W'.setCell ⟨w.heap.size + 1 + 1, 3, none⟩ (.slice va' cs2.length vc')) rfl (by simp only [execOp, Act.eval]; exact (by rw [show (Array.getD _ 34 undef) = .pointer (some ⟨w.heap.size + 1 + 1, 3, none⟩) from rfl, show (Array.getD _ 33 undef) = .slice va' cs2.length vc' from rfl]; simp only [Sem.run_bind, hst, Result.andThen_ok, Sem.run_pure])) ?_
          refine tlw_end ?_
          generalize W'.setCell ⟨w.heap.size + 1 + 1, 3, none⟩ (.slice va' cs2.length vc') = W2 at *
          clear hst hc' hf' hsw hS' hG' g5 hr hx hnb hwa hldE ihc c3 hbw hS hG
          go_wp2
          go_roundw
          case rel => exact ⟨i + 1, _, cs2, rfl, by omega, hS2, hG2⟩
          case measure => simp [intOf]; omega
      · have hie : i = cl.length := by omega
        subst hie
        have c4 : wr.cell? ⟨w.heap.size, 4, none⟩ = some (.slice pa cp.length pcap) := by simp only [World.cell?, hS.out.b2]; rfl
        have hcs : cs.length = l'.length := by have := e1.out; omega
        have htk : l'.take cl.length = l' := List.take_of_length_le (by have := e1.out; omega)
        rw [htk] at hG
        have r2b : RwA F wr 49 6 (.slice pa cp.length pcap) cp := r2.frame (fun k _ hs => hbw.out.block k hs) (fun _ h _ => h)
        have hat : ∀ {j : Nat}, j < cp.length → _ := fun hj => eq_at r2.1 e2.out hp1 hp2 hj
        have hcsE : cp = (sg (Eq' p cp) 0 cp.length).map Go.Proofs.YtbemaloaobeblaaGreatDoor.cl := by
          refine List.ext_getElem? fun j => ?_
          by_cases hj : j < cp.length
          · obtain ⟨q, c, g1, g2, g3, _⟩ := hat hj
            rw [List.getElem?_map, sg_at hj, Nat.zero_add, g2, g3]; rfl
          · rw [List.getElem?_eq_none (by omega), List.getElem?_eq_none (by rw [List.length_map, sg_len]; omega)]
        have hpr : Calls Tryz.prog 40 #[.slice pa cp.length pcap] wr fun e w' => ∃ a cap G, e = .returned (.slice a cp.length cap) ∧ Below wr.heap.size wr w' ∧ sg G 0 cp.length = ss ltE (sg (Eq' p cp) 0 cp.length) ∧ (0 < cp.length → ∃ g, a = some ⟨g, 0, none⟩ ∧ wr.heap.size ≤ g ∧ Rw w' wr.heap.size g cp.length cap G) := by
          rcases Nat.eq_zero_or_pos cp.length with h0 | h1
          · obtain rfl : cp = [] := List.length_eq_zero_iff.1 h0
            refine (rpairs_0 r2b).mono ?_
            rintro e w' ⟨⟨a, cap, rfl⟩, hb⟩
            exact ⟨a, cap, fun _ => ([], []), rfl, hb, rfl, fun h => absurd h (by simp)⟩
          · refine (rpairs_n r2b hcsE (fun j hj => by obtain ⟨_, _, _, _, _, _, x, _⟩ := hat hj; exact x) h1 (by omega)).mono ?_
            rintro e w' ⟨g, cap, G, rfl, hg, hR, hsg, hb⟩
            exact ⟨_, cap, G, rfl, hb, hsg, fun _ => ⟨g, rfl, hg, hR⟩⟩
        have hA : A2 (fun (e : Ep) (q : Tp) => e.1 = q.1 ∧ VA F w q.2 e.2 ∧ q ∈ p) (ss ltE (sg (Eq' p cp) 0 cp.length)) (ss ltT p) := by
          refine ss_rel (fun a b a' b' h h' => by unfold ltE ltT; rw [h.1, h'.1]) (A2.of (by rw [sg_len, e2.out]) fun j a b h1 h2 => ?_)
          have hj : j < cp.length := by have := (List.getElem?_eq_some_iff.1 h1).1; rwa [sg_len] at this
          obtain ⟨q, c, g1, _, _, g4, _, g6⟩ := hat hj
          rw [sg_at hj, Nat.zero_add] at h1
          cases h1
          rw [g1] at h2
          cases h2
          exact ⟨g4, g6, List.mem_of_getElem? g1⟩
        replace hA := hide1 hA
        clear hat hcsE r2b htk hel hlen'
        go_wp2_with fail
        refine hpr.mono ?_
        rintro e w5 ⟨pb, pc, E, rfl, b5, hsg, hrow⟩
        have hgrow : Hid (0 < cp.length → ∃ g, pb = some ⟨g, 0, none⟩ ∧ wr.heap.size ≤ g ∧ Rw w5 wr.heap.size g cp.length pc E) := hide1 hrow
        have hwr3 : w.heap.size + 3 ≤ wr.heap.size := hS.out.sz
        have S5 : Hid (Sx5 w #[.int .i64 k, .int .i64 ki, .string (st s), .slice sa cl.length scap, .slice pa cp.length pcap] #[.int .i64 k, .int .i64 ki, .string (st s), .slice va cs.length vc, .slice none 0 0] w5.heap.size w5 w5) := hide1 (by
          have h := hS.out.below b5
          exact ⟨h.bw, h.b2, h.b4, h.b5, Nat.le_trans hwr3 b5.size, Nat.le_refl _, fun _ _ _ => rfl⟩)
        have hrl : Hid (RwA (fun k => w.heap.size + 3 ≤ k ∧ k < w5.heap.size) w5 28 5 (.slice va cs.length vc) cs) := hide1 ((own_rows hG.out.row hG.out.ln (F := fun k => w.heap.size + 3 ≤ k) (fun k hk => hk)).frame (fun k _ hs => b5.block k hs) (fun k hk hs => ⟨hk, Nat.lt_of_lt_of_le hs b5.size⟩))
        have hvl : Hid (∀ (j : Nat) (t : T) (c : List Value), l'[j]? = some t → cs[j]? = some c → VA (fun k => F k ∨ (w.heap.size + 3 ≤ k ∧ k < w5.heap.size)) w5 t c) := hide1 fun j t c h1 h2 => (hG.out.va j t c h1 h2).frame (fun k _ hs => b5.block k hs) (fun k hk hs => hk.imp id fun h => ⟨h.1, Nat.lt_of_lt_of_le hs b5.size⟩)
        obtain ⟨p', hp'⟩ : ∃ p', Hid (p' = (ss ltT p).map fun q => (q.1, so m q.2)) := ⟨_, hide1 rfl⟩
        have hpl' : p'.length = cp.length := by rw [hp'.out, List.length_map, ss_len]; exact e2.out.symm
        have hso : Hid (so (m + 1) (.mk k ki s l p) = .mk k ki s l' p') := hide1 (by
          rw [hl'.out, hp'.out]
          show T.mk k ki s (l.map (so m)) (ss ltT (p.map fun q => (q.1, so m q.2))) = _
          rw [← ss_map (lt := ltT) (lt' := ltT) (fun q : Tp => (q.1, so m q.2)) (fun _ _ => rfl)])
        rw [← hsg] at hA
        have hFN : ∀ k, F k → k < w5.heap.size := fun k hk => by have := hF k hk; have := b5.size; omega
        have hb05 : Hid (w.heap.size ≤ w5.heap.size) := hide1 (by have := b5.size; omega)
        have hb5w : Hid (Below w.heap.size w w5) := hide1 (hbw.out.trans (b5.mono hbw.out.size))
        clear hpr hrow hsg b5 hG c3 c4 hbw hS hin hN3
        go_wp2_with fail
        obtain ⟨wr0, rfl⟩ : ∃ x, x = wr := ⟨_, rfl⟩
        go_loopw [8] (fun x wr => ∃ (i : Nat) (v : Value) (cs2 : List (List Value)), x = .int .i64 (i : Nat) ∧ i ≤ cp.length ∧ Hid (Sx5 w #[.int .i64 k, .int .i64 ki, .string (st s), .slice sa cl.length scap, .slice pa cp.length pcap] #[.int .i64 k, .int .i64 ki, .string (st s), .slice va cs.length vc, v] w5.heap.size w5 wr) ∧ Hid (Gw5 PA 49 6 w5.heap.size F (p'.take i) cs2 v wr)) (fun x _ => cp.length - (intOf x).toNat)
        case atStart => exact ⟨0, _, [], rfl, by omega, S5, hide1 Gw5.nil⟩
        case round =>
          clear S5
          obtain ⟨i, v2, cs2, rfl, hin, hS, hG⟩ := hrel
          obtain ⟨va2, vc2, rfl⟩ := hG.out.slc
          have hbw := hide1 hS.out.bw
          have hel := hG.out.el
          rw [List.length_take] at hel
          by_cases hlt : i < cp.length
          · obtain ⟨g, rfl, hgw, hR⟩ := hgrow.out (by omega)
            obtain ⟨q, hq⟩ : ∃ q, (ss ltT p)[i]? = some q := ⟨_, List.getElem?_eq_getElem (by rw [ss_len]; have := e2.out; omega)⟩
            obtain ⟨hq1, hq2, hq3⟩ := hA.out.at (j := i) (a := E i) (b := q) (by rw [sg_at hlt, Nat.zero_add]) hq
            obtain ⟨x0, x1, x2, x3, x4, hce⟩ := five_l hq2.len
            rw [hce] at hq2
            have hhu := hl2 q hq3
            have hu' : p'[i]? = some (q.1, so m q.2) := by rw [hp'.out, List.getElem?_map, hq]; rfl
            have hgl : g < w5.heap.size := hR.lt.2
            have hgk : ∀ wa, Below wr.heap.size wr wa → ∀ o, wa.cell? ⟨g, o, none⟩ = w5.cell? ⟨g, o, none⟩ := fun wa hwa o => World.cell?_of_block ((hwa.block g (Nat.lt_of_lt_of_le hgl hS.out.sz)).trans (hS.out.kp g (by omega) hgl))
            have hld1 : ∀ wa, Below wr.heap.size wr wa → (Instr.loadAt 9 (.pointer (some ⟨g, i * 6, none⟩))).run Tryz.prog wa = .ok (.string (st q.1)) wa := fun wa hwa => ld_s0 ((hgk wa hwa _).trans (by rw [hR.name hlt, hq1]))
            have hld2 : ∀ wa, Below wr.heap.size wr wa → (Instr.loadAt 28 (.pointer (some ⟨g, i * 6 + 1, none⟩))).run Tryz.prog wa = .ok (.agg #[x0, x1, x2, x3, x4]) wa := fun wa hwa => ld_mV (fun j v hj => by
              have := hR.range hlt (j + 1) v (by unfold Go.Proofs.YtbemaloaobeblaaGreatDoor.cl; rw [hce]; simpa using hj)
              rw [hgk wa hwa, show i * 6 + 1 + j = i * 6 + (j + 1) by omega]
              exact this)
            have ihc : ∀ wa, Below wr.heap.size wr wa → Calls Tryz.prog 23 #[.agg #[x0, x1, x2, x3, x4], .int .i64 (d + 1 : Nat)] wa (AnG5 F wa (so m q.2)) := fun wa hwa => ih (c := [x0, x1, x2, x3, x4]) hhu (VA.frame (c := [x0, x1, x2, x3, x4]) hq2 (fun k _ hs => (hwa.block k (Nat.lt_of_lt_of_le hs hbw.out.size)).trans (hbw.out.block k hs)) (fun _ h _ => h)) (fun k hk => Nat.lt_of_lt_of_le (hF k hk) (Nat.le_trans hbw.out.size hwa.size))
            have hcsl : cs2.length ≤ 1000000 := by omega
            clear hq2 hgk hR hgrow hel hA hce hq1 hq3 hq
            replace hu' := hide1 hu'
            go_upto_region 14 with fail
            refine wp_flowT 17 _ _ (by kernel_rfl) (by kernel_rfl) (by kernel_rfl) (by decide) (fun j v_ w_ => if j = 14 then (fun v w => ∃ y0 y1 y2 y3 y4 : Value, v = .agg #[y0, y1, y2, y3, y4] ∧ VA (fun k => F k ∨ wr.heap.size ≤ k) w (so m q.2) [y0, y1, y2, y3, y4]) v_ w_ else if j = 15 then (fun v w => ∃ y0 y1 y2 y3 y4 : Value, v = .agg #[.string (st q.1), y0, y1, y2, y3, y4] ∧ VA (fun k => F k ∨ wr.heap.size ≤ k) w (so m q.2) [y0, y1, y2, y3, y4]) v_ w_ else if j = 16 then (fun v w => ∃ (y0 y1 y2 y3 y4 : Value) (nb : Nat), v = .slice (some ⟨nb, 0, none⟩) 1 1 ∧ w.heap[nb]? = some (.cells #[.string (st q.1), y0, y1, y2, y3, y4] 49 (0, 0)) ∧ VA (fun k => F k ∨ wr.heap.size ≤ k) w (so m q.2) [y0, y1, y2, y3, y4]) v_ w_ else v_ = ([.pointer (some ⟨w.heap.size + 1 + 1, 4, none⟩), .slice va2 cs2.length vc2, .slice (some ⟨g, 0, none⟩) cp.length pc, .int .i64 (i : Nat), .pointer (some ⟨g, i * 6, none⟩), .pointer (some ⟨g, i * 6, none⟩), .string (st q.1), .slice (some ⟨g, 0, none⟩) cp.length pc, .int .i64 (i : Nat), .pointer (some ⟨g, i * 6, none⟩), .pointer (some ⟨g, i * 6 + 1, none⟩), .agg #[x0, x1, x2, x3, x4], .int .i64 (d : Nat), .int .i64 (d + 1 : Nat), undef, undef, undef, undef, undef, undef] : List Value).getD j undef) (fun j v w w' h hb => by
                  by_cases e14 : j = 14
                  · subst e14; exact by obtain ⟨y0, y1, y2, y3, y4, e, hx⟩ := h; exact ⟨y0, y1, y2, y3, y4, e, VA.frame (c := [y0, y1, y2, y3, y4]) hx (fun k _ hs => hb.block k hs) (fun _ h _ => h)⟩
                  by_cases e15 : j = 15
                  · subst e15; exact by obtain ⟨y0, y1, y2, y3, y4, e, hx⟩ := h; exact ⟨y0, y1, y2, y3, y4, e, VA.frame (c := [y0, y1, y2, y3, y4]) hx (fun k _ hs => hb.block k hs) (fun _ h _ => h)⟩
                  by_cases e16 : j = 16
                  · subst e16; exact by obtain ⟨y0, y1, y2, y3, y4, nb, e, hn, hx⟩ := h; exact ⟨y0, y1, y2, y3, y4, nb, e, (hb.block _ (Array.getElem?_eq_some_iff.1 hn).1).trans hn, VA.frame (c := [y0, y1, y2, y3, y4]) hx (fun k _ hs => hb.block k hs) (fun _ h _ => h)⟩
                  · simp only [if_neg e14, if_neg e15, if_neg e16] at h ⊢; exact h
                  ) ?_ ?_
            · intro j op hop hj a wa hwa hsz hsl hdep K hK
              match j, hop, hj with
              | 0, hop, _ =>
                obtain rfl := Option.some.inj hop
                have p5 : a.tmps.getD 5 undef = .pointer (some ⟨w.heap.size + 1 + 1, 0, none⟩) := hsl 5 rfl
                exact .plain rfl (wp_val (w' := wa) (v := .pointer (some ⟨w.heap.size + 1 + 1, 4, none⟩)) (by simp only [execOp, Act.eval]; rw [show a.tmps.getD 5 undef = _ from p5]; kernel_rfl) (hK _ _ (Below.refl _ _) rfl))
              | 1, hop, _ =>
                obtain rfl := Option.some.inj hop
                have t0 : a.tmps.getD 44 undef = .pointer (some ⟨w.heap.size + 1 + 1, 4, none⟩) := hdep 0 _ 44 rfl rfl ⟨⟨0, .data⟩, by simp, rfl, rfl⟩
                have hc : wa.cell? ⟨w.heap.size + 1 + 1, 4, none⟩ = some (.slice va2 cs2.length vc2) := by simp only [World.cell?, (hS.out.below hwa).b5]; rfl
                exact .plain rfl (wp_val (w' := wa) (v := .slice va2 cs2.length vc2) (by simp only [execOp, Act.eval]; rw [show a.tmps.getD 44 undef = _ from t0]; simp only [Sem.run_bind, ld_sP hc, Result.andThen_ok, Sem.run_pure]) (hK _ _ (Below.refl _ _) rfl))
              | 2, hop, _ =>
                obtain rfl := Option.some.inj hop
                have p7 : a.tmps.getD 7 undef = .slice (some ⟨g, 0, none⟩) cp.length pc := hsl 7 rfl
                exact .plain rfl (wp_val (w' := wa) (v := .slice (some ⟨g, 0, none⟩) cp.length pc) (by simp only [execOp, Act.eval]; rw [show a.tmps.getD 7 undef = _ from p7]; rfl) (hK _ _ (Below.refl _ _) rfl))
              | 3, hop, _ =>
                obtain rfl := Option.some.inj hop
                have p8 : a.tmps.getD 8 undef = .int .i64 (i : Nat) := hsl 8 rfl
                exact .plain rfl (wp_val (w' := wa) (v := .int .i64 (i : Nat)) (by simp only [execOp, Act.eval]; rw [show a.tmps.getD 8 undef = _ from p8]; rfl) (hK _ _ (Below.refl _ _) rfl))
              | 4, hop, _ =>
                obtain rfl := Option.some.inj hop
                have t2 : a.tmps.getD 46 undef = .slice (some ⟨g, 0, none⟩) cp.length pc := hdep 2 _ 46 rfl rfl ⟨⟨2, .data⟩, by simp, rfl, rfl⟩
                have t3 : a.tmps.getD 47 undef = .int .i64 (i : Nat) := hdep 3 _ 47 rfl rfl ⟨⟨3, .data⟩, by simp, rfl, rfl⟩
                exact .plain rfl (wp_val (w' := wa) (v := .pointer (some ⟨g, i * 6, none⟩)) (by simp only [execOp, Act.eval]; rw [show a.tmps.getD 46 undef = _ from t2, show a.tmps.getD 47 undef = _ from t3]; simp only [Sem.run_bind, ix_sP hlt, Result.andThen_ok, Sem.run_pure]) (hK _ _ (Below.refl _ _) rfl))
              | 5, hop, _ =>
                obtain rfl := Option.some.inj hop
                have t4 : a.tmps.getD 48 undef = .pointer (some ⟨g, i * 6, none⟩) := hdep 4 _ 48 rfl rfl ⟨⟨4, .data⟩, by simp, rfl, rfl⟩
                exact .plain rfl (wp_val (w' := wa) (v := .pointer (some ⟨g, i * 6, none⟩)) (by simp only [execOp, Act.eval]; rw [show a.tmps.getD 48 undef = _ from t4]; kernel_rfl) (hK _ _ (Below.refl _ _) rfl))
              | 6, hop, _ =>
                obtain rfl := Option.some.inj hop
                have t5 : a.tmps.getD 49 undef = .pointer (some ⟨g, i * 6, none⟩) := hdep 5 _ 49 rfl rfl ⟨⟨5, .data⟩, by simp, rfl, rfl⟩
                exact .plain rfl (wp_val (w' := wa) (v := .string (st q.1)) (by simp only [execOp, Act.eval]; rw [show a.tmps.getD 49 undef = _ from t5]; simp only [Sem.run_bind, hld1 wa hwa, Result.andThen_ok, Sem.run_pure]) (hK _ _ (Below.refl _ _) rfl))
              | 7, hop, _ =>
                obtain rfl := Option.some.inj hop
                have p7 : a.tmps.getD 7 undef = .slice (some ⟨g, 0, none⟩) cp.length pc := hsl 7 rfl
                exact .plain rfl (wp_val (w' := wa) (v := .slice (some ⟨g, 0, none⟩) cp.length pc) (by simp only [execOp, Act.eval]; rw [show a.tmps.getD 7 undef = _ from p7]; rfl) (hK _ _ (Below.refl _ _) rfl))
              | 8, hop, _ =>
                obtain rfl := Option.some.inj hop
                have p8 : a.tmps.getD 8 undef = .int .i64 (i : Nat) := hsl 8 rfl
                exact .plain rfl (wp_val (w' := wa) (v := .int .i64 (i : Nat)) (by simp only [execOp, Act.eval]; rw [show a.tmps.getD 8 undef = _ from p8]; rfl) (hK _ _ (Below.refl _ _) rfl))
              | 9, hop, _ =>
                obtain rfl := Option.some.inj hop
                have t7 : a.tmps.getD 51 undef = .slice (some ⟨g, 0, none⟩) cp.length pc := hdep 7 _ 51 rfl rfl ⟨⟨7, .data⟩, by simp, rfl, rfl⟩
                have t8 : a.tmps.getD 52 undef = .int .i64 (i : Nat) := hdep 8 _ 52 rfl rfl ⟨⟨8, .data⟩, by simp, rfl, rfl⟩
                exact .plain rfl (wp_val (w' := wa) (v := .pointer (some ⟨g, i * 6, none⟩)) (by simp only [execOp, Act.eval]; rw [show a.tmps.getD 51 undef = _ from t7, show a.tmps.getD 52 undef = _ from t8]; simp only [Sem.run_bind, ix_sP hlt, Result.andThen_ok, Sem.run_pure]) (hK _ _ (Below.refl _ _) rfl))
              | 10, hop, _ =>
                obtain rfl := Option.some.inj hop
                have t9 : a.tmps.getD 53 undef = .pointer (some ⟨g, i * 6, none⟩) := hdep 9 _ 53 rfl rfl ⟨⟨9, .data⟩, by simp, rfl, rfl⟩
                exact .plain rfl (wp_val (w' := wa) (v := .pointer (some ⟨g, i * 6 + 1, none⟩)) (by simp only [execOp, Act.eval]; rw [show a.tmps.getD 53 undef = _ from t9]; kernel_rfl) (hK _ _ (Below.refl _ _) rfl))
              | 11, hop, _ =>
                obtain rfl := Option.some.inj hop
                have t10 : a.tmps.getD 54 undef = .pointer (some ⟨g, i * 6 + 1, none⟩) := hdep 10 _ 54 rfl rfl ⟨⟨10, .data⟩, by simp, rfl, rfl⟩
                exact .plain rfl (wp_val (w' := wa) (v := .agg #[x0, x1, x2, x3, x4]) (by simp only [execOp, Act.eval]; rw [show a.tmps.getD 54 undef = _ from t10]; simp only [Sem.run_bind, hld2 wa hwa, Result.andThen_ok, Sem.run_pure]) (hK _ _ (Below.refl _ _) rfl))
              | 12, hop, _ =>
                obtain rfl := Option.some.inj hop
                have p1 : a.tmps.getD 1 undef = .int .i64 (d : Nat) := hsl 1 rfl
                exact .plain rfl (wp_val (w' := wa) (v := .int .i64 (d : Nat)) (by simp only [execOp, Act.eval]; rw [show a.tmps.getD 1 undef = _ from p1]; rfl) (hK _ _ (Below.refl _ _) rfl))
              | 13, hop, _ =>
                obtain rfl := Option.some.inj hop
                have t12 : a.tmps.getD 56 undef = .int .i64 (d : Nat) := hdep 12 _ 56 rfl rfl ⟨⟨12, .data⟩, by simp, rfl, rfl⟩
                exact .plain rfl (wp_val (w' := wa) (v := .int .i64 (d + 1 : Nat)) (by simp only [execOp, Act.eval]; rw [show a.tmps.getD 56 undef = _ from t12]; simp only [Sem.run_bind, eqg_a5, add1_n (a := d) (by omega), Result.andThen_ok, Sem.run_pure]) (hK _ _ (Below.refl _ _) rfl))
              | 14, hop, _ =>
                obtain rfl := Option.some.inj hop
                have t11 : a.tmps.getD 55 undef = .agg #[x0, x1, x2, x3, x4] := hdep 11 _ 55 rfl rfl ⟨⟨11, .data⟩, by simp, rfl, rfl⟩
                have t13 : a.tmps.getD 57 undef = .int .i64 (d + 1 : Nat) := hdep 13 _ 57 rfl rfl ⟨⟨13, .data⟩, by simp, rfl, rfl⟩
                refine .plain rfl (oper_any (J := fun r w' => (fun v w => ∃ y0 y1 y2 y3 y4 : Value, v = .agg #[y0, y1, y2, y3, y4] ∧ VA (fun k => F k ∨ wr.heap.size ≤ k) w (so m q.2) [y0, y1, y2, y3, y4]) r w' ∧ Below wa.heap.size wa w') 23 #[.tmp 55, .tmp 57] _ rfl #[.agg #[x0, x1, x2, x3, x4], .int .i64 (d + 1 : Nat)] (by simp only [List.map_toArray, List.map_cons, List.map_nil, Act.eval]; rw [show a.tmps.getD 55 undef = _ from t11, show a.tmps.getD 57 undef = _ from t13]) (fun w => by kernel_rfl) ((ihc wa hwa).mono fun e w' h => by obtain ⟨c, rfl, h5, hb, hx⟩ := h; obtain ⟨y0, y1, y2, y3, y4, hce⟩ := five_l (l := c.toList) (by simpa using h5); obtain rfl : c = #[y0, y1, y2, y3, y4] := (by cases c; simp at hce; simp [hce]); exact ⟨_, rfl, ⟨y0, y1, y2, y3, y4, rfl, VA.frame (c := [y0, y1, y2, y3, y4]) hx (fun _ _ _ => rfl) (fun k hk _ => hk.imp id (Nat.le_trans hwa.size))⟩, hb⟩) ?_)
                rintro r w' ⟨hr, hb⟩
                exact hK _ _ hb hr
              | 15, hop, _ =>
                obtain rfl := Option.some.inj hop
                have t6 : a.tmps.getD 50 undef = .string (st q.1) := hdep 6 _ 50 rfl rfl ⟨⟨6, .data⟩, by simp, rfl, rfl⟩
                have t14 : (fun v w => ∃ y0 y1 y2 y3 y4 : Value, v = .agg #[y0, y1, y2, y3, y4] ∧ VA (fun k => F k ∨ wr.heap.size ≤ k) w (so m q.2) [y0, y1, y2, y3, y4]) (a.tmps.getD 58 undef) wa := hdep 14 _ 58 rfl rfl ⟨⟨14, .data⟩, by simp, rfl, rfl⟩
                obtain ⟨y0, y1, y2, y3, y4, ev, hx⟩ := t14
                exact .plain rfl (wp_val (w' := wa) (v := .agg #[.string (st q.1), y0, y1, y2, y3, y4]) (by simp only [execOp, Act.eval, List.map_toArray, List.map_cons, List.map_nil]; rw [show a.tmps.getD 50 undef = _ from t6, show a.tmps.getD 58 undef = _ from ev]; kernel_rfl) (hK _ _ (Below.refl _ _) ⟨y0, y1, y2, y3, y4, rfl, hx⟩))
              | 16, hop, _ =>
                obtain rfl := Option.some.inj hop
                have t15 : (fun v w => ∃ y0 y1 y2 y3 y4 : Value, v = .agg #[.string (st q.1), y0, y1, y2, y3, y4] ∧ VA (fun k => F k ∨ wr.heap.size ≤ k) w (so m q.2) [y0, y1, y2, y3, y4]) (a.tmps.getD 59 undef) wa := hdep 15 _ 59 rfl rfl ⟨⟨15, .data⟩, by simp, rfl, rfl⟩
                obtain ⟨y0, y1, y2, y3, y4, ev, hx⟩ := t15
                have hb5 := below_al (w := wa) (.cells #[.string (st q.1), y0, y1, y2, y3, y4] 49)
                exact .plain rfl (wp_val (w' := wa.alloc (.cells #[.string (st q.1), y0, y1, y2, y3, y4] 49)) (v := .slice (some ⟨wa.heap.size, 0, none⟩) 1 1) (by simp only [execOp, Act.eval, List.map_toArray, List.map_cons, List.map_nil]; rw [show a.tmps.getD 59 undef = _ from ev]; simp only [Sem.run_bind, bs_P6, Result.andThen_ok, Sem.run_pure]) (hK _ _ hb5 ⟨y0, y1, y2, y3, y4, _, rfl, new_at wa _ 49, VA.frame (c := [y0, y1, y2, y3, y4]) hx (fun k _ hs => hb5.block k hs) (fun _ h _ => h)⟩))
              | j + 17, _, hj => exact absurd hj (by omega)
            · intro a wa hwa hdf hsz hsl hrr
              have kv45 : a.tmps.getD 45 undef = .slice va2 cs2.length vc2 := hrr 1 _ 45 rfl (by decide) rfl
              have kr60 : (fun v w => ∃ (y0 y1 y2 y3 y4 : Value) (nb : Nat), v = .slice (some ⟨nb, 0, none⟩) 1 1 ∧ w.heap[nb]? = some (.cells #[.string (st q.1), y0, y1, y2, y3, y4] 49 (0, 0)) ∧ VA (fun k => F k ∨ wr.heap.size ≤ k) w (so m q.2) [y0, y1, y2, y3, y4]) (a.tmps.getD 60 undef) wa := hrr 16 _ 60 rfl (by decide) rfl
              have hact := act_puts hdf hsz hsl
              clear hrr hsl hdf hsz
              simp only [List.filterMap_cons, List.filterMap_nil, List.foldl_cons, List.foldl_nil] at hact
              rw [kv45] at hact
              rw [hact]
              generalize a.tmps.getD 44 undef = y44
              generalize a.tmps.getD 46 undef = y46
              generalize a.tmps.getD 47 undef = y47
              generalize a.tmps.getD 48 undef = y48
              generalize a.tmps.getD 49 undef = y49
              generalize a.tmps.getD 50 undef = y50
              generalize a.tmps.getD 51 undef = y51
              generalize a.tmps.getD 52 undef = y52
              generalize a.tmps.getD 53 undef = y53
              generalize a.tmps.getD 54 undef = y54
              generalize a.tmps.getD 55 undef = y55
              generalize a.tmps.getD 56 undef = y56
              generalize a.tmps.getD 57 undef = y57
              generalize a.tmps.getD 58 undef = y58
              generalize a.tmps.getD 59 undef = y59
              generalize a.tmps.getD 60 undef = y60 at kr60 ⊢
              generalize a.tmps.getD 61 undef = y61
              generalize a.tmps.getD 62 undef = y62
              clear hact kv45 a
              simp only [Act.put, List.setIfInBounds_toArray, List.set_cons_succ, List.set_cons_zero]
              obtain ⟨y0, y1, y2, y3, y4, nb, rfl, hnb, hx⟩ := kr60
              obtain ⟨v', W', hr, g5, hG'⟩ := app_GP (t := (q.1, so m q.2)) (c := #[.string (st q.1), y0, y1, y2, y3, y4]) 26 hFN hS.out.sz hG.out hwa rfl ⟨rfl, hx⟩ hnb hcsl
              obtain ⟨va', vc', rfl⟩ := hG'.slc
              have hS' := (hS.out.below hwa).grown g5 (fun b e => (hG.out.row.lt b e).1)
              have hc' : W'.cell? ⟨w.heap.size + 1 + 1, 4, none⟩ = some (.slice va2 cs2.length vc2) := by simp only [World.cell?, hS'.b5]; rfl
              have hf' : W'.frozen? ⟨w.heap.size + 1 + 1, 4, none⟩ = false := by simp [World.frozen?, hS'.b5]
              have hst : (Instr.storeAt 26 (.pointer (some ⟨w.heap.size + 1 + 1, 4, none⟩)) (.slice va' (cs2 ++ [[.string (st q.1), y0, y1, y2, y3, y4]]).length vc')).run Tryz.prog W' = .ok () (W'.setCell ⟨w.heap.size + 1 + 1, 4, none⟩ (.slice va' (cs2 ++ [[.string (st q.1), y0, y1, y2, y3, y4]]).length vc')) := by simp [Instr.storeAt, Instr.sureAddr, go_sem, hc', hf']
              have hsw : W'.setCell ⟨w.heap.size + 1 + 1, 4, none⟩ (.slice va' (cs2 ++ [[.string (st q.1), y0, y1, y2, y3, y4]]).length vc') = W'.setRow (w.heap.size + 2) #[.int .i64 k, .int .i64 ki, .string (st s), .slice va cs.length vc, .slice va' (cs2 ++ [[.string (st q.1), y0, y1, y2, y3, y4]]).length vc'] := by
                rw [setCell_eq_setRow W' (w.heap.size + 1 + 1) 4 _ _ (0, 0) _ hS'.b5]; rfl
              have hS2 := hS'.sto #[.int .i64 k, .int .i64 ki, .string (st s), .slice va cs.length vc, .slice va' (cs2 ++ [[.string (st q.1), y0, y1, y2, y3, y4]]).length vc']
              have hG2 := hG'.keep (X := PA) PA.xfr (W' := W'.setRow (w.heap.size + 2) #[.int .i64 k, .int .i64 ki, .string (st s), .slice va cs.length vc, .slice va' (cs2 ++ [[.string (st q.1), y0, y1, y2, y3, y4]]).length vc']) (fun k hk _ => setRow_other W' _ k _ (hk.elim (fun h => by have := hF k h; omega) (fun h => by have := hb05.out; have := hS.out.hB; omega)))
              rw [← hsw] at hS2 hG2
              rw [show p'.take i ++ [(q.1, so m q.2)] = p'.take (i + 1) by rw [List.take_add_one, hu'.out]; rfl] at hG2
              replace hS2 := hide1 hS2
              replace hG2 := hide1 hG2
              generalize (cs2 ++ [[.string (st q.1), y0, y1, y2, y3, y4]]) = cs3 at *
              refine tlw_val (w' := W') (v := .slice va' cs3.length vc') rfl (by unfold execOp; simp only [resolve, invoke, builtin, Sem.run_bind, Sem.run_pure, Result.andThen_ok, List.map_toArray, List.map_cons, List.map_nil]; exact (by rw [show (Act.eval _ (.tmp 45)) = .slice va2 cs2.length vc2 from rfl, show (Act.eval _ (.tmp 60)) = .slice (some ⟨nb, 0, none⟩) 1 1 from rfl, hr]; rfl)) ?_
              simp only [Act.put, List.setIfInBounds_toArray, List.set_cons_succ, List.set_cons_zero]
              refine tlw_val (w' := W') (v := .pointer (some ⟨w.heap.size + 1 + 1, 4, none⟩)) rfl (by kernel_rfl) ?_
              simp only [Act.put, List.setIfInBounds_toArray, List.set_cons_succ, List.set_cons_zero]
              refine tlw_skp (w' := W'.setCell ⟨w.heap.size + 1 + 1, 4, none⟩ (.slice va' cs3.length vc')) rfl (by simp only [execOp, Act.eval]; exact (by rw [show (Array.getD _ 62 undef) = .pointer (some ⟨w.heap.size + 1 + 1, 4, none⟩) from rfl, show (Array.getD _ 61 undef) = .slice va' cs3.length vc' from rfl]; simp only [Sem.run_bind, hst, Result.andThen_ok, Sem.run_pure])) ?_
              refine tlw_end ?_
              generalize W'.setCell ⟨w.heap.size + 1 + 1, 4, none⟩ (.slice va' cs3.length vc') = W2 at *
              clear hst hc' hf' hsw hS' hG' g5 hr hx hnb hwa hld1 hld2 ihc hbw hS hG
              go_wp2
              go_roundw
              case rel => exact ⟨i + 1, _, cs3, rfl, by omega, hS2, hG2⟩
              case measure => simp [intOf]; omega
          · have hie : i = cp.length := by omega
            subst hie
            have htk : p'.take cp.length = p' := List.take_of_length_le (by omega)
            rw [htk] at hG
            have hcs2 : cs2.length = p'.length := by omega
            have hb5' : wr.heap[w.heap.size + 1 + 1]? = some (.cells #[.int .i64 k, .int .i64 ki, .string (st s), .slice va cs.length vc, .slice va2 cs2.length vc2] 28 (0, 0)) := hS.out.b5
            have hl5 : wr.rangeAt (w.heap.size + 1 + 1) 0 [.int .i64 k, .int .i64 ki, .string (st s), .slice va cs.length vc, .slice va2 cs2.length vc2] := fun j z hj => by
              simp only [World.cell?, hb5']
              rw [Nat.zero_add]
              simpa using hj
            have hr4 : wr.heap[w.heap.size + 1]? = some (.cells #[.int .i64 0, .int .i64 0, .string ⟨#[]⟩, .slice none 0 0, .slice none 0 0] 28 (0, 0)) := hS.out.b4
            have hz := hide1 (setRow_heap wr (w.heap.size + 1) _ #[.int .i64 k, .int .i64 ki, .string (st s), .slice va cs.length vc, .slice va2 cs2.length vc2] _ _ hr4)
            have ha : Hid (AnG5 F w (so (m + 1) (.mk k ki s l p)) (.returned (.agg #[.int .i64 k, .int .i64 ki, .string (st s), .slice va cs.length vc, .slice va2 cs2.length vc2])) (wr.setRow (w.heap.size + 1) #[.int .i64 k, .int .i64 ki, .string (st s), .slice va cs.length vc, .slice va2 cs2.length vc2])) := hide1 (by
              rw [hso.out]
              refine ⟨_, rfl, rfl, blw_own hS.out.bw (by omega) _, ?_⟩
              have hfr : ∀ k', k' ≠ w.heap.size + 1 → (wr.setRow (w.heap.size + 1) #[.int .i64 k, .int .i64 ki, .string (st s), .slice va cs.length vc, .slice va2 cs2.length vc2]).heap[k']? = wr.heap[k']? := fun k' hk' => setRow_other wr _ k' _ hk'
              have h05 := hb05.out
              have hBB := hS.out.hB
              have kpl : ∀ k', w.heap.size + 3 ≤ k' → k' < w5.heap.size → (wr.setRow (w.heap.size + 1) #[.int .i64 k, .int .i64 ki, .string (st s), .slice va cs.length vc, .slice va2 cs2.length vc2]).heap[k']? = w5.heap[k']? := fun k' h1 h2 => (hfr k' (by omega)).trans (hS.out.kp k' h1 h2)
              have kpF : ∀ k', F k' → (wr.setRow (w.heap.size + 1) #[.int .i64 k, .int .i64 ki, .string (st s), .slice va cs.length vc, .slice va2 cs2.length vc2]).heap[k']? = w5.heap[k']? := fun k' h1 => (hfr k' (by have := hF k' h1; omega)).trans ((hS.out.bw.block k' (hF k' h1)).trans (hb5w.out.block k' (hF k' h1)).symm)
              have r1' := hrl.out.frame (w' := wr.setRow (w.heap.size + 1) #[.int .i64 k, .int .i64 ki, .string (st s), .slice va cs.length vc, .slice va2 cs2.length vc2]) (G := fun k => F k ∨ w.heap.size ≤ k) (fun k' hk _ => kpl k' hk.1 hk.2) (fun k' hk _ => .inr (by have := hk.1; omega))
              have r2' := (own_rows hG.out.row hG.out.ln (F := fun k => w5.heap.size ≤ k) (fun k hk => hk)).frame (w' := wr.setRow (w.heap.size + 1) #[.int .i64 k, .int .i64 ki, .string (st s), .slice va cs.length vc, .slice va2 cs2.length vc2]) (G := fun k => F k ∨ w.heap.size ≤ k) (fun k' hk _ => hfr k' (by have h1 : w5.heap.size ≤ k' := hk; omega)) (fun k' hk _ => .inr (by have h1 : w5.heap.size ≤ k' := hk; omega))
              refine VA.mk (s := s) r1' r2' hcs hcs2 (fun j t c h1 h2 => ?_) (fun j q c h1 h2 => (hG.out.va j q c h1 h2).1) (fun j q c h1 h2 => ?_)
              · exact (hvl.out j t c h1 h2).frame (fun k' hk _ => hk.elim (kpF k') (fun h => kpl k' h.1 h.2)) (fun k' hk _ => hk.imp id (fun h => by have := h.1; omega))
              · exact (hG.out.va j q c h1 h2).2.frame (fun k' hk _ => hfr k' (hk.elim (fun h => by have := hF k' h; omega) (fun h => by have := h.1; omega))) (fun k' hk _ => hk.imp id (fun h => by have := h.1; omega)))
            clear hS hG hgrow hA hbw hrl hvl hso hb5w hel htk hFN hcs hcs2
            go_wp2_with (first
              | refine wpList_load_mid rfl 28 (.tmp 5) rfl (w.heap.size + 1 + 1) 0 rfl [.int .i64 k, .int .i64 ki, .string (st s), .slice va cs.length vc, .slice va2 cs2.length vc2] _ hl5 Tryz.underlying28 rfl (by kernel_rfl) ?_
              | refine wpList_store_row rfl Vt (.tmp 4) (.tmp 63) rfl (w.heap.size + 1) #[.int .i64 k, .int .i64 ki, .string (st s), .slice va cs.length vc, .slice va2 cs2.length vc2] rfl rfl Vt _ hr4 (by kernel_rfl) rfl (by kernel_rfl) ?_)
            refine bodyPost_ret (results_v1 rfl _ rfl rfl hz.out) rfl ?_
            exact ha.out
set_option maxHeartbeats 4000000 in
set_option maxRecDepth 100000 in
theorem rs_0 {F : Nat → Prop} {w : World} {t : T} {c : List Value} (h : VA F w t c) : Calls Tryz.prog 23 #[.agg c.toArray, .int .i64 8] w (AnG5 F w t) := by
  obtain ⟨x0, x1, x2, x3, x4, rfl⟩ := five_l h.len
  have hon := h.one
  show Calls Tryz.prog 23 #[.agg #[x0, x1, x2, x3, x4], .int .i64 8] w _
  obtain ⟨wb, hwb⟩ : ∃ wb, wb = bx2 w #[x0, x1, x2, x3, x4] := ⟨_, rfl⟩
  have hb : Below w.heap.size w wb := by rw [hwb]; exact bx2_bl w _
  have hr4 : wb.heap[w.heap.size + 1]? = some (.cells #[.int .i64 0, .int .i64 0, .string ⟨#[]⟩, .slice none 0 0, .slice none 0 0] 28 (0, 0)) := by rw [hwb]; exact bx2_at w _
  have hr2 : wb.heap[w.heap.size]? = some (.cells #[x0, x1, x2, x3, x4] 28 (0, 0)) := by
    rw [hwb]
    show ((w.heap.push _).push _)[w.heap.size]? = _
    rw [Array.getElem?_push, if_neg (by simp), Array.getElem?_push, if_pos rfl]
  have hl5 : wb.rangeAt w.heap.size 0 [x0, x1, x2, x3, x4] := fun j z hj => by
    simp only [World.cell?, hr2]
    rw [Nat.zero_add]
    simpa using hj
  have hz := hide1 (setRow_heap wb (w.heap.size + 1) _ #[x0, x1, x2, x3, x4] _ _ hr4)
  have ha : Hid (AnG5 F w t (.returned (.agg #[x0, x1, x2, x3, x4])) (wb.setRow (w.heap.size + 1) #[x0, x1, x2, x3, x4])) := hide1 ⟨_, rfl, rfl, blw_own hb (by omega) _, VA.frame (c := [x0, x1, x2, x3, x4]) h (fun k _ hs => (setRow_other wb _ k _ (by omega)).trans (hb.block k hs)) (fun _ h _ => .inl h)⟩
  clear hr2 hb h
  go_enter Tryz.func23, Tryz.ntmps23
  go_upto_region 1 with fail
  rw [show (w.alloc (.cells #[x0, x1, x2, x3, x4] 28)).alloc (.cells #[.int .i64 0, .int .i64 0, .string ⟨#[]⟩, .slice none 0 0, .slice none 0 0] 28) = wb from hwb.symm]
  clear hwb
  go_wp2_with (first
    | refine wpList_load_mid rfl 28 (.tmp 2) rfl w.heap.size 0 rfl [x0, x1, x2, x3, x4] _ hl5 Tryz.underlying28 rfl (by kernel_rfl) ?_
    | refine wpList_store_row rfl Vt (.tmp 4) (.tmp 11) rfl (w.heap.size + 1) #[x0, x1, x2, x3, x4] rfl rfl Vt _ hr4 (by kernel_rfl) rfl (by simpa using hon) ?_)
  refine bodyPost_ret (results_v1 rfl _ rfl rfl hz.out) rfl ?_
  exact ha.out
theorem rs_d : ∀ (m d : Nat), d + m = 8 → ∀ {h : Nat} {F : Nat → Prop} {w : World} {t : T} {c : List Value}, hgt h t → VA F w t c → (∀ k, F k → k < w.heap.size) → Calls Tryz.prog 23 #[.agg c.toArray, .int .i64 (d : Nat)] w (AnG5 F w (so m t))
  | 0, d, hd, h, F, w, t, c, _, hv, _ => by
    obtain rfl : d = 8 := by omega
    exact rs_0 hv
  | m + 1, d, hd, h, F, w, t, c, hh, hv, hF => by
    refine rs_s (Q := fun t => ∃ h, hgt h t) (m := m) (by omega) (fun ht hv hF => ?_) ?_ hv hF
    · obtain ⟨h', h1⟩ := ht
      exact rs_d m (d + 1) (by omega) h1 hv hF
    · obtain ⟨k, ki, s, l, p⟩ := t
      cases h with
      | zero => exact hh.elim
      | succ h =>
        obtain ⟨b1, b2, h1, h2⟩ := hh
        exact ⟨b1, b2, fun t ht => ⟨h, h1 t ht⟩, fun q hq => ⟨h, h2 q hq⟩⟩
end Go.Proofs.YtbemaloaobeblaaGreatDoor

namespace Go.Proofs.YtbemaloaobeblaaGreatDoor
open Go.RowKit

def R7x (q2 gb nn vc i d : Nat) (C : Array Value) (w3 : World) (u : T) (F : Nat → Prop) : Nat → Value → World → Prop
  | 0, v, _ => v = .pointer (some ⟨q2, 3, none⟩)
  | 1, v, _ => v = .slice (some ⟨gb, 0, none⟩) nn vc
  | 2, v, _ => v = .int .i64 (i : Nat)
  | 3, v, _ => v = .agg C
  | 4, v, _ => v = .int .i64 (d : Nat)
  | 5, v, _ => v = .int .i64 (d - 1 : Nat)
  | 6, v, w => ∃ c : Array Value, v = .agg c ∧ c.size = 5 ∧ VA (fun k => F k ∨ w3.heap.size ≤ k) w u c.toList
  | 7, v, _ => v = .pointer (some ⟨gb, i * 5, none⟩)
  | _, _, _ => True
theorem R7x_mono {q2 gb nn vc i d : Nat} {C : Array Value} {w3 : World} {u : T} {F : Nat → Prop} (j : Nat) (v : Value) (w w' : World) (h : R7x q2 gb nn vc i d C w3 u F j v w) (hb : Below w.heap.size w w') : R7x q2 gb nn vc i d C w3 u F j v w' := by
  match j, h with
  | 0, h | 1, h | 2, h | 3, h | 4, h | 5, h | 7, h => exact h
  | 6, h =>
    obtain ⟨c, h1, h2, h3⟩ := h
    exact ⟨c, h1, h2, h3.frame (fun k _ hs => hb.block k hs) (fun _ h _ => h)⟩
  | _ + 8, h => trivial
def R13x (q2 q8 gb nn vc i d : Nat) (C : Array Value) (w3 : World) (u : T) (F : Nat → Prop) : Nat → Value → World → Prop
  | 0, v, _ => v = .pointer (some ⟨q2, 4, none⟩)
  | 1, v, _ => v = .slice (some ⟨gb, 0, none⟩) nn vc
  | 2, v, _ => v = .int .i64 (i : Nat)
  | 3, v, _ => v = .pointer (some ⟨q8, 1, none⟩)
  | 4, v, _ => v = .agg C
  | 5, v, _ => v = .int .i64 (d : Nat)
  | 6, v, _ => v = .int .i64 (d - 1 : Nat)
  | 7, v, w => ∃ c : Array Value, v = .agg c ∧ c.size = 5 ∧ VA (fun k => F k ∨ w3.heap.size ≤ k) w u c.toList
  | 8, v, _ => v = .pointer (some ⟨gb, i * 6, none⟩)
  | 9, v, _ => v = .pointer (some ⟨gb, i * 6 + 1, none⟩)
  | _, _, _ => True
theorem R13x_mono {q2 q8 gb nn vc i d : Nat} {C : Array Value} {w3 : World} {u : T} {F : Nat → Prop} (j : Nat) (v : Value) (w w' : World) (h : R13x q2 q8 gb nn vc i d C w3 u F j v w) (hb : Below w.heap.size w w') : R13x q2 q8 gb nn vc i d C w3 u F j v w' := by
  match j, h with
  | 0, h | 1, h | 2, h | 3, h | 4, h | 5, h | 6, h | 8, h | 9, h => exact h
  | 7, h =>
    obtain ⟨c, h1, h2, h3⟩ := h
    exact ⟨c, h1, h2, h3.frame (fun k _ hs => hb.block k hs) (fun _ h _ => h)⟩
  | _ + 10, h => trivial
def CapOk (v : Value) : Prop := ∀ a n c, v = .slice a n c → n ≤ c ∧ c ≤ 9223372036854775807
inductive VB (F : Nat → Prop) (w : World) : T → List Value → Prop
  | mk {k i : Int} {s : List UInt8} {l : List T} {p : List (List UInt8 × T)} {sl sp : Value} {cl cp : List (List Value)} :
    RwA F w Vt 5 sl cl → RwA F w Pt 6 sp cp → cl.length = l.length → cp.length = p.length →
    (∀ (j : Nat) (t : T) (c : List Value), l[j]? = some t → cl[j]? = some c → VB F w t c) →
    (∀ (j : Nat) (q : List UInt8 × T) (c : List Value), p[j]? = some q → cp[j]? = some c → c.head? = some (Value.string (st q.1))) →
    (∀ (j : Nat) (q : List UInt8 × T) (c : List Value), p[j]? = some q → cp[j]? = some c → VB F w q.2 c.tail) → CapOk sl → CapOk sp →
    VB F w (.mk k i s l p) [.int .i64 k, .int .i64 i, .string (st s), sl, sp]
theorem VB.va {F : Nat → Prop} {w : World} {t : T} {c : List Value} (h : VB F w t c) : VA F w t c := by
  induction h with
  | mk h1 h2 e1 e2 _ h4 _ _ _ i1 i2 => exact .mk h1 h2 e1 e2 i1 h4 i2
theorem VB.frame {F G : Nat → Prop} {w w' : World} {t : T} {c : List Value} (h : VB F w t c)
    (hk : ∀ k, F k → k < w.heap.size → w'.heap[k]? = w.heap[k]?) (hG : ∀ k, F k → k < w.heap.size → G k) : VB G w' t c := by
  induction h with
  | mk h1 h2 e1 e2 _ h4 _ a1 a2 i1 i2 => exact .mk (h1.frame hk hG) (h2.frame hk hG) e1 e2 i1 h4 i2 a1 a2
def VX (G : Nat → Prop) (W : World) (Fr : Nat → Prop) (w : World) (t : T) (c : List Value) : Prop := ∀ w2 : World, (∀ k, Fr k → k < w.heap.size → w2.heap[k]? = w.heap[k]?) → (∀ k, G k → w2.heap[k]? = W.heap[k]?) → VA (fun k => G k ∨ Fr k) w2 t c
def PX (G : Nat → Prop) (W : World) (Fr : Nat → Prop) (w : World) (q : List UInt8 × T) (c : List Value) : Prop := c.head? = some (.string (st q.1)) ∧ VX G W Fr w q.2 c.tail
theorem VX.fr {G : Nat → Prop} {W : World} (F : Nat → Prop) (w w' : World) (t : T) (c : List Value) (h : VX G W F w t c) (hk : ∀ k, F k → k < w.heap.size → w'.heap[k]? = w.heap[k]?) : VX G W F w' t c := fun w2 h1 h2 => h w2 (fun k hF hs => by
  have h3 := hk k hF hs
  have h4 : k < w'.heap.size := by
    rw [Array.getElem?_eq_getElem hs] at h3
    exact (Array.getElem?_eq_some_iff.1 h3).1
  exact (h1 k hF h4).trans h3) h2
theorem PX.fr {G : Nat → Prop} {W : World} (F : Nat → Prop) (w w' : World) (t : List UInt8 × T) (c : List Value) (h : PX G W F w t c) (hk : ∀ k, F k → k < w.heap.size → w'.heap[k]? = w.heap[k]?) : PX G W F w' t c := ⟨h.1, VX.fr F w w' _ _ h.2 hk⟩
theorem ownsRow_mono {w : World} {B B' : Nat} {e : TypeId} {z : Nat} {v : Value} {n : Nat} {xs : List Value} (h : w.ownsRow B e z v n xs) (hb : B' ≤ B) : w.ownsRow B' e z v n xs := by
  obtain ⟨h1, h2 | ⟨g, cap, cur, h3, h4, h5⟩⟩ := h
  · exact ⟨h1, .inl h2⟩
  · exact ⟨h1, .inr ⟨g, cap, cur, h3, Nat.le_trans hb h4, h5⟩⟩
section
variable {B gb vc : Nat} {W wr : World} {G : Nat → Prop} {cp ds : List (List Value)} {p : List Tp}
theorem fpx_at (hW : ∀ k, G k → wr.heap[k]? = W.heap[k]?) (hC : Cp (PX G W) 49 6 B p cp (.slice (some ⟨gb, 0, none⟩) cp.length vc) cp.length wr ds) (hp : cp.length = p.length) {j : Nat} (hj : j < cp.length) :
    ∃ q c, p[j]? = some q ∧ ds[j]? = some c ∧ c = cl (Fp p ds j) ∧ (Fp p ds j).1 = q.1 ∧ EpOk (Fp p ds j) ∧ VX G W (fun k => B ≤ k ∧ some k ≠ (Value.slice (some ⟨gb, 0, none⟩) cp.length vc).ownBlock) wr q.2 (Fp p ds j).2 := by
  have hdl := hC.ln
  obtain ⟨q, hq⟩ : ∃ q, p[j]? = some q := ⟨_, List.getElem?_eq_getElem (by omega)⟩
  obtain ⟨c, hc⟩ : ∃ c, ds[j]? = some c := ⟨_, List.getElem?_eq_getElem (by omega)⟩
  obtain ⟨h1, h2⟩ := hC.new j q c hj hq hc
  have h6 := hC.lz c (List.mem_of_getElem? hc)
  have e1 : (p.getD j ([], .mk 0 0 [] [] [])) = q := by rw [List.getD_eq_getElem?_getD, hq]; rfl
  have e2 : ds.getD j [] = c := by rw [List.getD_eq_getElem?_getD, hc]; rfl
  have h3 := h2 wr (fun _ _ _ => rfl) hW
  refine ⟨q, c, hq, hc, ?_, by unfold Fp; rw [e1], ?_, ?_⟩
  · unfold Fp cl
    rw [e1, e2]
    cases c with
    | nil => simp at h6
    | cons x r => simp at h1; rw [h1]; rfl
  · unfold Fp EpOk
    rw [e2]
    exact ⟨h3.len, h3.one⟩
  · unfold Fp
    rw [e2]
    exact h2
theorem fpx_map (hW : ∀ k, G k → wr.heap[k]? = W.heap[k]?) (hC : Cp (PX G W) 49 6 B p cp (.slice (some ⟨gb, 0, none⟩) cp.length vc) cp.length wr ds) (hp : cp.length = p.length) : (sg (Fp p ds) 0 cp.length).map cl = ds := by
  refine List.ext_getElem? fun j => ?_
  have hdl := hC.ln
  by_cases hj : j < cp.length
  · obtain ⟨q, c, _, h2, h3, _⟩ := fpx_at hW hC hp hj
    rw [List.getElem?_map, sg_at hj, h2, h3, Nat.zero_add]; rfl
  · rw [List.getElem?_eq_none (by rw [List.length_map, sg_len]; omega), List.getElem?_eq_none (by omega)]
theorem fpx_rw (hW : ∀ k, G k → wr.heap[k]? = W.heap[k]?) (hC : Cp (PX G W) 49 6 B p cp (.slice (some ⟨gb, 0, none⟩) cp.length vc) cp.length wr ds) (hp : cp.length = p.length) : Rw wr B gb cp.length vc (Fp p ds) := by
  refine ⟨?_, fun k hk => by obtain ⟨q, c, _, _, _, _, h, _⟩ := fpx_at hW hC hp hk; exact h⟩
  rw [fpx_map hW hC hp]
  have := hC.row
  rwa [hC.ln] at this
theorem fpx_fin (hW : ∀ k, G k → wr.heap[k]? = W.heap[k]?) (hC : Cp (PX G W) 49 6 B p cp (.slice (some ⟨gb, 0, none⟩) cp.length vc) cp.length wr ds) (hp : cp.length = p.length) {H : Nat → Ep} (hG : sg H 0 cp.length = ss ltE (sg (Fp p ds) 0 cp.length)) :
    A2 (fun (e : Ep) (q : Tp) => e.1 = q.1 ∧ VX G W (fun k => B ≤ k ∧ some k ≠ (Value.slice (some ⟨gb, 0, none⟩) cp.length vc).ownBlock) wr q.2 e.2) (sg H 0 cp.length) (ss ltT p) := by
  rw [hG]
  refine ss_rel (fun a b a' b' h h' => by unfold ltE ltT; rw [h.1, h'.1]) (A2.of (by rw [sg_len, hp]) fun j a b h1 h2 => ?_)
  have hj : j < cp.length := by have := (List.getElem?_eq_some_iff.1 h1).1; rwa [sg_len] at this
  obtain ⟨q, c, g1, _, _, g4, _, g6⟩ := fpx_at hW hC hp hj
  rw [sg_at hj, Nat.zero_add] at h1
  cases h1
  rw [g1] at h2
  cases h2
  exact ⟨g4, g6⟩
end
def AnX5 (F : Nat → Prop) (w : World) (t : T) (e : Ending) (w' : World) : Prop := ∃ (k ki : Int) (s : List UInt8) (sl sp : Value) (xl xp : List (List Value)), e = .returned (.agg #[.int .i64 k, .int .i64 ki, .string (st s), sl, sp]) ∧ Below w.heap.size w w' ∧
  (w'.ownsRow w.heap.size 28 5 sl xl.length xl.flatten ∧ ∀ c ∈ xl, c.length = 5) ∧ (w'.ownsRow w.heap.size 49 6 sp xp.length xp.flatten ∧ ∀ c ∈ xp, c.length = 6) ∧ VA (fun k => F k ∨ w.heap.size ≤ k) w' t [.int .i64 k, .int .i64 ki, .string (st s), sl, sp]
theorem AnX5.g {F : Nat → Prop} {w w' : World} {t : T} {e : Ending} (h : AnX5 F w t e w') : AnG5 F w t e w' := by
  obtain ⟨k, ki, s, sl, sp, xl, xp, rfl, hb, _, _, hv⟩ := h
  exact ⟨_, rfl, rfl, hb, hv⟩
set_option maxHeartbeats 8000000 in
set_option maxRecDepth 100000 in
theorem sorted_x {Q : T → Prop} {F : Nat → Prop} {d : Nat} (ih : ∀ {w : World} {t : T} {c : List Value}, Q t → VB F w t c → (∀ k, F k → k < w.heap.size) → Calls Tryz.prog 41 #[.agg c.toArray, .int .i64 (d - 1 : Nat)] w (AnG5 F w (so (d - 1) t)))
    {w : World} {t : T} {c : List Value} (hh : HQ Q t) (hd1 : 0 < d) (hd6 : d ≤ 65536) (h : VB F w t c) (hF : ∀ k, F k → k < w.heap.size) : Calls Tryz.prog 41 #[.agg c.toArray, .int .i64 (d : Nat)] w (AnX5 F w (so d t)) := by
    have hd0 : ¬ (d : Int) = 0 := by omega
    cases h with
    | @mk k ki s l p sl sp cl cp r1 r2 e1 e2 hl hp1 hp2 _ _ =>
      obtain ⟨b1, b2, hl1, hl2⟩ := hh
      obtain ⟨l', hl'⟩ : ∃ l', Hid (l' = l.map (so (d - 1))) := ⟨_, hide1 rfl⟩
      obtain ⟨p', hp'⟩ : ∃ p', Hid (p' = p.map fun q => (q.1, so (d - 1) q.2)) := ⟨_, hide1 rfl⟩
      -- the boxes
      obtain ⟨wb, hwb⟩ : ∃ wb, wb = (w.alloc (.cells #[.int .i64 k, .int .i64 ki, .string (st s), sl, sp] 28)).alloc (.cells #[.int .i64 0, .int .i64 0, .string ⟨#[]⟩, .slice none 0 0, .slice none 0 0] 28) := ⟨_, rfl⟩
      have hbb : Cb w #[.int .i64 k, .int .i64 ki, .string (st s), sl, sp] wb := by
        rw [hwb]
        refine ⟨blw_al ((Below.refl _ _).alloc (Nat.le_refl _) _) (by simp) _, ?_, ?_, by simp⟩
        · show ((w.heap.push _).push _)[w.heap.size]? = _
          rw [Array.getElem?_push, if_neg (by simp), Array.getElem?_push, if_pos rfl]
        · show ((w.heap.push _).push _)[w.heap.size + 1]? = _
          rw [Array.getElem?_push, if_pos (by simp)]
          rfl
      have c3 : wb.cell? ⟨w.heap.size, 3, none⟩ = some sl := by simp only [World.cell?, hbb.b2]; rfl
      have r1b : RwA F wb 28 5 sl cl := r1.frame (fun k _ hs => hbb.bw.block k hs) (fun _ h _ => h)
      have hon1 : ∀ x ∈ cl, x.all (·.oneCell') = true := fun x hx => by
        obtain ⟨j, hj, rfl⟩ := List.mem_iff_getElem.1 hx
        have hj2 : j < l.length := by omega
        exact (hl j _ _ (List.getElem?_eq_getElem hj2) (List.getElem?_eq_getElem hj)).va.one
      have hcl := clone_V r1b hon1 (by omega)
      have hb1l : cl.length ≤ 1000000 := by omega
      have hb2l : cp.length ≤ 1000000 := by omega
      replace e1 := hide1 e1
      replace e2 := hide1 e2
      replace hbb := hide1 hbb
      subst hwb
      go_enter Tryz.func41, Tryz.ntmps41
      go_wp2_with fail
      refine hcl.mono ?_
      rintro e w1 ⟨v1, rfl, bw1, row1⟩
      have hb1 := hbb.out.keep bw1
      have hsb := hbb.out.sz
      -- the row of the list's own
      obtain ⟨va, vc, hva⟩ : ∃ va vc, v1 = .slice va cl.length vc := by
        obtain ⟨_, ⟨h1, h2⟩ | ⟨g', cap, cur, h1, _⟩⟩ := row1
        · exact ⟨none, 0, by rw [h1, h2]⟩
        · exact ⟨_, cap, h1⟩
      have hw2 : w1.setCell ⟨w.heap.size, 3, none⟩ v1 = w1.setRow w.heap.size #[.int .i64 k, .int .i64 ki, .string (st s), v1, sp] := by
        rw [setCell_eq_setRow w1 w.heap.size 3 _ _ (0, 0) _ hb1.b2]; rfl
      have cc : w1.cell? ⟨w.heap.size, 3, none⟩ = some sl := by simp only [World.cell?, hb1.b2]; rfl
      have cf : w1.frozen? ⟨w.heap.size, 3, none⟩ = false := by simp [World.frozen?, hb1.b2]
      have hB1 : w.heap.size + 2 ≤ ((w.alloc (.cells #[.int .i64 k, .int .i64 ki, .string (st s), sl, sp] 28)).alloc (.cells #[.int .i64 0, .int .i64 0, .string ⟨#[]⟩, .slice none 0 0, .slice none 0 0] 28)).heap.size := hsb
      have hb2 : Cb w #[.int .i64 k, .int .i64 ki, .string (st s), v1, sp] (w1.setCell ⟨w.heap.size, 3, none⟩ v1) := by
        rw [hw2]
        exact ⟨blw_own hb1.bw (Nat.le_refl _) _, setRow_heap w1 w.heap.size _ _ _ _ hb1.b2, (setRow_other w1 _ _ _ (by omega)).trans hb1.b4, by simpa [World.setRow] using hb1.sz⟩
      have hcp : Cp (VX F w) 28 5 (w.heap.size + 2) l' cl v1 0 (w1.setCell ⟨w.heap.size, 3, none⟩ v1) cl := by
        refine Cp.start ?_ r1.1
        rw [hw2]
        obtain ⟨q1, q2 | ⟨g', cap, cur, h1, hB, h2, h3⟩⟩ := row1
        · exact ⟨q1, .inl q2⟩
        · exact ⟨q1, .inr ⟨g', cap, cur, h1, by omega, (setRow_other w1 _ g' _ (by omega)).trans h2, h3⟩⟩
      have cg : (w1.setCell ⟨w.heap.size, 3, none⟩ v1).cell? ⟨w.heap.size, 3, none⟩ = some v1 := by simp only [World.cell?, hb2.b2]; rfl
      replace hb2 := hide1 hb2
      replace hcp := hide1 hcp
      clear hbb hb1 hsb row1 bw1 hcl r1b hw2 hB1 c3
      subst hva
      go_wp2_with fail
      generalize w1.setCell ⟨w.heap.size, 3, none⟩ (.slice va cl.length vc) = w2 at *
      go_loopw [27] (fun x wr => ∃ (i : Nat) (ds : List (List Value)), x = .int .i64 (i : Nat) ∧ i ≤ cl.length ∧ Hid (Cb w #[.int .i64 k, .int .i64 ki, .string (st s), .slice va cl.length vc, sp] wr) ∧ Hid (Cp (VX F w) 28 5 (w.heap.size + 2) l' cl (.slice va cl.length vc) i wr ds)) (fun x _ => cl.length - (intOf x).toNat)
      case atStart => exact ⟨0, cl, rfl, by omega, hb2, hcp⟩
      case round =>
        obtain ⟨i, ds, rfl, hin, hb, hc⟩ := hrel
        by_cases hlt : i < cl.length
        · have hdl : ds.length = cl.length := hc.out.ln
          obtain ⟨x, hx⟩ : ∃ x, cl[i]? = some x := ⟨_, List.getElem?_eq_getElem hlt⟩
          obtain ⟨u, hu⟩ : ∃ u, l[i]? = some u := ⟨_, List.getElem?_eq_getElem (by have := e1.out; omega)⟩
          have hxu := hl i u x hu hx
          have hhu := hl1 u (List.mem_of_getElem? hu)
          have hdx : ds[i]? = some x := by rw [hc.out.old i (Nat.le_refl _)]; exact hx
          have hrw := own_rows hc.out.row hc.out.lz (F := fun _ => True) (fun _ _ => trivial)
          obtain ⟨gb, o, cap, hve, -, hgl, hr⟩ := hrw.at hdx
          have ho : o = 0 := by
            obtain ⟨_, ⟨h1, _⟩ | ⟨g', cap', cur, h1, _⟩⟩ := hc.out.row
            · rw [h1] at hve; cases hve
            · rw [h1] at hve; cases hve; rfl
          subst ho
          have hva : va = some ⟨gb, 0, none⟩ := by
            rw [hdl] at hve
            cases hve; rfl
          subst hva
          have hon := hon1 x (List.mem_of_getElem? hx)
          have hx5 : x.length = 5 := r1.1 x (List.mem_of_getElem? hx)
          obtain ⟨x0, x1, x2, x3, x4, rfl⟩ : ∃ x0 x1 x2 x3 x4, x = [x0, x1, x2, x3, x4] := by
            match x, hx5 with
            | [x0, x1, x2, x3, x4], _ => exact ⟨x0, x1, x2, x3, x4, rfl⟩
          rw [Nat.zero_add] at hr
          have hr6 : (wr.alloc (.cells #[.int .i64 0, .int .i64 0, .string ⟨#[]⟩, .slice none 0 0, .slice none 0 0] 28)).heap[wr.heap.size]? = some (.cells #[.int .i64 0, .int .i64 0, .string ⟨#[]⟩, .slice none 0 0, .slice none 0 0] 28 (0, 0)) := by
            show (wr.heap.push _)[wr.heap.size]? = _
            rw [Array.getElem?_push, if_pos rfl]
          have h6 := setRow_heap (wr.alloc (.cells #[.int .i64 0, .int .i64 0, .string ⟨#[]⟩, .slice none 0 0, .slice none 0 0] 28)) wr.heap.size _ #[x0, x1, x2, x3, x4] _ _ hr6
          have hal : ∀ k, k < wr.heap.size → ((wr.alloc (.cells #[.int .i64 0, .int .i64 0, .string ⟨#[]⟩, .slice none 0 0, .slice none 0 0] 28)).setRow wr.heap.size #[x0, x1, x2, x3, x4]).heap[k]? = wr.heap[k]? := fun k hk => (setRow_other _ _ k _ (by omega)).trans (by
            show (wr.heap.push _)[k]? = _
            rw [Array.getElem?_push, if_neg (by omega)])
          have hbw : Below wr.heap.size wr ((wr.alloc (.cells #[.int .i64 0, .int .i64 0, .string ⟨#[]⟩, .slice none 0 0, .slice none 0 0] 28)).setRow wr.heap.size #[x0, x1, x2, x3, x4]) := ⟨rfl, rfl, rfl, by simp [World.setRow], hal⟩
          have hb6 := hb.out.keep hbw
          have hc6 := hc.out.keep VX.fr (fun k _ hs => hal k hs)
          have hxw : VB F ((wr.alloc (.cells #[.int .i64 0, .int .i64 0, .string ⟨#[]⟩, .slice none 0 0, .slice none 0 0] 28)).setRow wr.heap.size #[x0, x1, x2, x3, x4]) u [x0, x1, x2, x3, x4] := hxu.frame (fun k _ hs => hb6.bw.block k hs) (fun _ h _ => h)
          replace h6 := hide1 h6
          replace hb6 := hide1 hb6
          replace hc6 := hide1 hc6
          replace hxw := hide1 hxw
          replace hon := hide1 hon
          clear hal hbw hb hc hxu hrw hve hx hdx hx5
          replace hu := hide1 hu
          go_upto_region 8 with (first | refine wpList_load_mid rfl 28 (.tmp 30) rfl gb (i * 5) rfl [x0, x1, x2, x3, x4] _ hr Tryz.underlying28 rfl (by kernel_rfl) ?_ | refine wpList_store_row rfl 28 (.tmp 6) (.tmp 31) rfl wr.heap.size #[x0, x1, x2, x3, x4] rfl rfl 28 _ hr6 (by kernel_rfl) rfl (by simpa using hon.out) ?_)
          generalize (wr.alloc (.cells #[.int .i64 0, .int .i64 0, .string ⟨#[]⟩, .slice none 0 0, .slice none 0 0] 28)).setRow wr.heap.size #[x0, x1, x2, x3, x4] = w3 at *
          generalize hq6 : wr.heap.size = q6 at *
          have ihc : ∀ wz, Below w3.heap.size w3 wz → Calls Tryz.prog 41 #[.agg #[x0, x1, x2, x3, x4], .int .i64 (d - 1 : Nat)] wz (AnG5 F wz (so (d - 1) u)) := fun wz hb => ih hhu (hxw.out.frame (F := F) (G := F) (fun k _ hs => hb.block k hs) (fun _ h _ => h)) (fun k hk => by have := hF k hk; have := hb6.out.sz; have := hb.size; omega)
          refine wp_flow 8 _ _ (by kernel_rfl) (by kernel_rfl) (by kernel_rfl) (by kernel_rfl) rfl (R7x w.heap.size gb cl.length vc i d #[x0, x1, x2, x3, x4] w3 (so (d - 1) u) F) R7x_mono ?_ ?_
          · intro j o ho hj a wa hbw hsl hdep K hK
            match j, ho with
            | 0, ho =>
              obtain rfl := Option.some.inj ho
              have t2 : a.tmps.getD 2 undef = .pointer (some ⟨w.heap.size, 0, none⟩) := hsl 2 rfl
              exact wp_val (w' := wa) (by simp only [execOp, Act.eval]; rw [show a.tmps.getD 2 undef = _ from t2]; kernel_rfl) (hK _ _ (Below.refl _ _) rfl)
            | 1, ho =>
              obtain rfl := Option.some.inj ho
              have t := hdep 0 _ 32 rfl rfl ⟨⟨0, .data⟩, by simp, rfl, rfl⟩
              have hc3 : wa.cell? ⟨w.heap.size, 3, none⟩ = some (.slice (some ⟨gb, 0, none⟩) cl.length vc) := by
                rw [World.cell?_of_block (w := w3) (hbw.block _ (by have := hb6.out.sz; show w.heap.size < _; omega))]
                simp only [World.cell?, hb6.out.b2]; rfl
              exact wp_val (w' := wa) (by simp only [execOp, Act.eval]; rw [show a.tmps.getD 32 undef = _ from t]; simp only [Sem.run_bind, ld_sV hc3, Result.andThen_ok, Sem.run_pure]) (hK _ _ (Below.refl _ _) rfl)
            | 2, ho =>
              obtain rfl := Option.some.inj ho
              have t := hsl 5 rfl
              exact wp_val (w' := wa) (by simp only [execOp, Act.eval]; rw [show a.tmps.getD 5 undef = _ from t]; rfl) (hK _ _ (Below.refl _ _) rfl)
            | 3, ho =>
              obtain rfl := Option.some.inj ho
              have t := hsl 6 rfl
              have hl6 := (hbw.block q6 (Array.getElem?_eq_some_iff.1 h6.out).1).trans h6.out
              exact wp_val (w' := wa) (by simp only [execOp, Act.eval]; rw [show a.tmps.getD 6 undef = .pointer (some ⟨q6, 0, none⟩) from t]; simp only [Sem.run_bind, ldEV hl6 rfl, Result.andThen_ok, Sem.run_pure]) (hK _ _ (Below.refl _ _) rfl)
            | 4, ho =>
              obtain rfl := Option.some.inj ho
              have t := hsl 1 rfl
              exact wp_val (w' := wa) (by simp only [execOp, Act.eval]; rw [show a.tmps.getD 1 undef = _ from t]; rfl) (hK _ _ (Below.refl _ _) rfl)
            | 5, ho =>
              obtain rfl := Option.some.inj ho
              have t := hdep 4 _ 36 rfl rfl ⟨⟨4, .data⟩, by simp, rfl, rfl⟩
              exact wp_val (w' := wa) (by simp only [execOp, Act.eval]; rw [show a.tmps.getD 36 undef = _ from t]; simp only [Sem.run_bind, eqg_sub, sub_1 hd1 hd6, Result.andThen_ok, Sem.run_pure]) (hK _ _ (Below.refl _ _) rfl)
            | 6, ho =>
              obtain rfl := Option.some.inj ho
              have t3 := hdep 3 _ 35 rfl rfl ⟨⟨3, .data⟩, by simp, rfl, rfl⟩
              have t5 := hdep 5 _ 37 rfl rfl ⟨⟨5, .data⟩, by simp, rfl, rfl⟩
              refine oper_any (J := fun r w' => ∃ c : Array Value, r = .agg c ∧ c.size = 5 ∧ Below wa.heap.size wa w' ∧ VA (fun k => F k ∨ wa.heap.size ≤ k) w' (so (d - 1) u) c.toList) 41 #[.tmp 35, .tmp 37] _ rfl #[.agg #[x0, x1, x2, x3, x4], .int .i64 (d - 1 : Nat)] (by simp only [List.map_toArray, List.map_cons, List.map_nil, Act.eval]; rw [show a.tmps.getD 35 undef = _ from t3, show a.tmps.getD 37 undef = _ from t5]) (fun w => by kernel_rfl) ((ihc wa hbw).mono fun e w' h => by obtain ⟨c, rfl, h1, h2, h3⟩ := h; exact ⟨_, rfl, c, rfl, h1, h2, h3⟩) ?_
              rintro r w' ⟨c, rfl, h1, h2, h3⟩
              exact hK _ _ h2 ⟨c, rfl, h1, h3.frame (fun _ _ _ => rfl) (fun k hk _ => hk.imp id (Nat.le_trans hbw.size))⟩
            | 7, ho =>
              obtain rfl := Option.some.inj ho
              have t1 := hdep 1 _ 33 rfl rfl ⟨⟨1, .data⟩, by simp, rfl, rfl⟩
              have t2 := hdep 2 _ 34 rfl rfl ⟨⟨2, .data⟩, by simp, rfl, rfl⟩
              exact wp_val (w' := wa) (by simp only [execOp, Act.eval]; rw [show a.tmps.getD 33 undef = _ from t1, show a.tmps.getD 34 undef = _ from t2]; simp only [Sem.run_bind, ix_sV hlt, Result.andThen_ok, Sem.run_pure]) (hK _ _ (Below.refl _ _) rfl)
            | 8, _ => exact absurd rfl hj
            | _ + 9, ho => exact absurd ho (by simp)
          · intro a wa hbw hdf hsz hsl hr K hK
            obtain ⟨c', t6, hc5, hcv⟩ := hr 6 _ 38 rfl (by decide) rfl
            have t7 := hr 7 _ 39 rfl (by decide) rfl
            have hca := hc6.out.keep VX.fr (fun k hk hs => hbw.block k hs)
            have hba := hb6.out.keep hbw
            have hrow := hca.row
            rw [hdl] at hrow
            obtain ⟨cur, hgb, hcur, hBg⟩ := own_cur hrow
            have hfit : i * 5 + 5 ≤ cl.length * 5 := by omega
            have hst := st_eV hgb hc5 (Nat.le_trans hfit hcur) (by simpa using hcv.one)
            have hp := own_piece hrow hc5 hfit hgb
            rw [← flat_set hca.lz i c'.toList (by omega)] at hp
            have hw3 := hb6.out.sz
            have hsa := hbw.size
            have hgq : gb < w3.heap.size := by have := (Array.getElem?_eq_some_iff.1 h6.out).1; omega
            have hC : Hid (Cp (VX F w) 28 5 (w.heap.size + 2) l' cl (.slice (some ⟨gb, 0, none⟩) cl.length vc) (i + 1) (wa.setRow gb (cur.toList.take (i * 5) ++ c'.toList ++ cur.toList.drop (i * 5 + 5)).toArray) (ds.set i c'.toList)) := hide1 (hca.step VX.fr (by simpa using hc5) (by omega) rfl (fun k hk => setRow_other wa gb k _ hk) (by rw [hdl]; exact hp) (fun t' ht' => by
              rw [hl'.out, List.getElem?_map, hu.out] at ht'
              cases ht'
              intro wz hz1 hz2
              have hlw : ∀ k, k < wa.heap.size → k < (wa.setRow gb (cur.toList.take (i * 5) ++ c'.toList ++ cur.toList.drop (i * 5 + 5)).toArray).heap.size := fun k hk => by simpa [World.setRow] using hk
              have hnw : ∀ k, w3.heap.size ≤ k → w.heap.size + 2 ≤ k ∧ some k ≠ (Value.slice (some ⟨gb, 0, none⟩) cl.length vc).ownBlock := fun k hk => ⟨by omega, fun e => by
                have : k = gb := by simpa [Value.ownBlock] using e
                omega⟩
              refine hcv.frame (fun k hk hs => hk.elim (fun h => (hz2 k h).trans (hba.bw.block k (hF k h)).symm) (fun h => (hz1 k (hnw k h) (hlw k hs)).trans (setRow_other wa gb k _ (by omega)))) (fun k hk _ => hk.imp id (hnw k))))
            have hCb := hide1 (hba.over hBg (cur.toList.take (i * 5) ++ c'.toList ++ cur.toList.drop (i * 5 + 5)).toArray)
            generalize (cur.toList.take (i * 5) ++ c'.toList ++ cur.toList.drop (i * 5 + 5)).toArray = nw at *
            refine wp_skp (w' := wa.setRow gb nw) (by simp only [execOp, Act.eval]; rw [show a.tmps.getD 39 undef = _ from t7, show a.tmps.getD 38 undef = _ from t6]; simp only [Sem.run_bind, hst, Result.andThen_ok, Sem.run_pure]) ?_
            refine hK a (wa.setRow gb nw) ?_
            have hact := act_puts hdf hsz hsl
            clear hst hp hcv hca hba hrow hr hsl hdf hsz hbw hK t6 t7 ihc
            simp only [List.filterMap_cons, List.filterMap_nil, List.foldl_cons, List.foldl_nil] at hact
            rw [hact]
            generalize a.tmps.getD 32 undef = y32
            generalize a.tmps.getD 33 undef = y33
            generalize a.tmps.getD 34 undef = y34
            generalize a.tmps.getD 35 undef = y35
            generalize a.tmps.getD 36 undef = y36
            generalize a.tmps.getD 37 undef = y37
            generalize a.tmps.getD 38 undef = y38
            generalize a.tmps.getD 39 undef = y39
            clear hact a
            refine (‹∀ (a : Act) (w : World), Code.wp Tryz.prog _ _ a w → _›) _ (wa.setRow gb nw) ?_
            generalize wa.setRow gb nw = w4 at *
            go_wp2
            go_roundw
            case rel => exact ⟨i + 1, _, rfl, by omega, hCb, hC⟩
            case measure => simp [intOf]; omega
        · have hie : i = cl.length := by omega
          subst hie
          have hcc : wr.cell? ⟨w.heap.size, 4, none⟩ = some sp := by simp only [World.cell?, hb.out.b2]; rfl
          have r2w : RwA F wr 49 6 sp cp := r2.frame (fun k _ hs => hb.out.bw.block k hs) (fun _ h _ => h)
          have hon2 : ∀ x ∈ cp, x.all (·.oneCell') = true := fun x hx => by
            obtain ⟨j, hj, rfl⟩ := List.mem_iff_getElem.1 hx
            have hj2 : j < p.length := by have := e2.out; omega
            have h1 := hp1 j _ _ (List.getElem?_eq_getElem hj2) (List.getElem?_eq_getElem hj)
            have h2 := (hp2 j _ _ (List.getElem?_eq_getElem hj2) (List.getElem?_eq_getElem hj)).va.one
            generalize cp[j] = x at *
            cases x with
            | nil => cases h1
            | cons a b =>
              simp at h1
              subst h1
              simpa [Value.oneCell'] using h2
          have hcl2 := clone_P r2w hon2 (by omega)
          have hwA := hb.out.sz
          clear hb2 hcp
          go_wp2_with fail
          refine hcl2.mono ?_
          rintro e w5 ⟨v2, rfl, bw5, row2⟩
          have hb5 := hb.out.keep bw5
          obtain ⟨va2, vc2, hva2⟩ : ∃ va vc, v2 = .slice va cp.length vc := by
            obtain ⟨_, ⟨h1, h2⟩ | ⟨g', cap, cur, h1, _⟩⟩ := row2
            · exact ⟨none, 0, by rw [h1, h2]⟩
            · exact ⟨_, cap, h1⟩
          have hw6 : w5.setCell ⟨w.heap.size, 4, none⟩ v2 = w5.setRow w.heap.size #[.int .i64 k, .int .i64 ki, .string (st s), .slice va cl.length vc, v2] := by
            rw [setCell_eq_setRow w5 w.heap.size 4 _ _ (0, 0) _ hb5.b2]; rfl
          have cc5 : w5.cell? ⟨w.heap.size, 4, none⟩ = some sp := by simp only [World.cell?, hb5.b2]; rfl
          have cf5 : w5.frozen? ⟨w.heap.size, 4, none⟩ = false := by simp [World.frozen?, hb5.b2]
          have hb6 : Cb w #[.int .i64 k, .int .i64 ki, .string (st s), .slice va cl.length vc, v2] (w5.setCell ⟨w.heap.size, 4, none⟩ v2) := by
            rw [hw6]
            exact ⟨blw_own hb5.bw (Nat.le_refl _) _, setRow_heap w5 w.heap.size _ _ _ _ hb5.b2, (setRow_other w5 _ _ _ (by omega)).trans hb5.b4, by simpa [World.setRow] using hb5.sz⟩
          have hkA : ∀ k, w.heap.size + 2 ≤ k → k < wr.heap.size → (w5.setCell ⟨w.heap.size, 4, none⟩ v2).heap[k]? = wr.heap[k]? := fun k hk hs => by
            rw [hw6]
            exact (setRow_other w5 _ k _ (by omega)).trans (bw5.block k hs)
          have hcp2 : Cp (PX F w) 49 6 wr.heap.size p' cp v2 0 (w5.setCell ⟨w.heap.size, 4, none⟩ v2) cp := by
            refine Cp.start ?_ r2.1
            rw [hw6]
            obtain ⟨q1, q2 | ⟨g', cap, cur, h1, hB, h2, h3⟩⟩ := row2
            · exact ⟨q1, .inl q2⟩
            · exact ⟨q1, .inr ⟨g', cap, cur, h1, hB, (setRow_other w5 _ g' _ (by omega)).trans h2, h3⟩⟩
          have hsA : wr.heap.size ≤ (w5.setCell ⟨w.heap.size, 4, none⟩ v2).heap.size := by
            have := bw5.size
            simpa using this
          have cg6 : (w5.setCell ⟨w.heap.size, 4, none⟩ v2).cell? ⟨w.heap.size, 4, none⟩ = some v2 := by simp only [World.cell?, hb6.b2]; rfl
          replace hb6 := hide1 hb6
          replace hcp2 := hide1 hcp2
          replace hkA := hide1 hkA
          replace hsA := hide1 hsA
          clear hb5 row2 bw5 hcl2 r2w hw6
          subst hva2
          go_wp2_with fail
          generalize w5.setCell ⟨w.heap.size, 4, none⟩ (.slice va2 cp.length vc2) = w6 at *
          obtain ⟨wA, rfl⟩ : ∃ x, x = wr := ⟨_, rfl⟩
          go_loopw [48] (fun x wr => ∃ (i : Nat) (ds : List (List Value)), x = .int .i64 (i : Nat) ∧ i ≤ cp.length ∧ Hid (Cb w #[.int .i64 k, .int .i64 ki, .string (st s), .slice va cl.length vc, .slice va2 cp.length vc2] wr) ∧ Hid (Cp (PX F w) 49 6 wA.heap.size p' cp (.slice va2 cp.length vc2) i wr ds) ∧ Hid (∀ k, w.heap.size + 2 ≤ k → k < wA.heap.size → wr.heap[k]? = wA.heap[k]?) ∧ Hid (wA.heap.size ≤ wr.heap.size)) (fun x _ => cp.length - (intOf x).toNat)
          case atStart => exact ⟨0, cp, rfl, by omega, hb6, hcp2, hkA, hsA⟩
          case round =>
            clear hb6 hcp2 hkA hsA
            obtain ⟨i, ds2, rfl, hin, hb2, hc2, hkA, hsA⟩ := hrel
            by_cases hlt : i < cp.length
            · have hdl : ds2.length = cp.length := hc2.out.ln
              obtain ⟨x, hx⟩ : ∃ x, cp[i]? = some x := ⟨_, List.getElem?_eq_getElem hlt⟩
              obtain ⟨u, hu⟩ : ∃ u, p[i]? = some u := ⟨_, List.getElem?_eq_getElem (by have := e2.out; omega)⟩
              have hxn := hp1 i u x hu hx
              have hxu := hp2 i u x hu hx
              have hhu := hl2 u (List.mem_of_getElem? hu)
              have hdx : ds2[i]? = some x := by rw [hc2.out.old i (Nat.le_refl _)]; exact hx
              have hrw := own_rows hc2.out.row hc2.out.lz (F := fun _ => True) (fun _ _ => trivial)
              obtain ⟨gb, o, cap, hve, -, hgl, hr⟩ := hrw.at hdx
              have ho : o = 0 := by
                obtain ⟨_, ⟨h1, _⟩ | ⟨g', cap', cur, h1, _⟩⟩ := hc2.out.row
                · rw [h1] at hve; cases hve
                · rw [h1] at hve; cases hve; rfl
              subst ho
              have hva : va2 = some ⟨gb, 0, none⟩ := by
                rw [hdl] at hve
                cases hve; rfl
              subst hva
              have hon := hon2 x (List.mem_of_getElem? hx)
              obtain ⟨x0, x1, x2, x3, x4, x5, rfl⟩ := arr6 (r2.1 x (List.mem_of_getElem? hx))
              have hx0 : x0 = .string (st u.1) := by simpa using hxn
              subst hx0
              rw [Nat.zero_add] at hr
              have hr8 : (wr.alloc (.cells #[.string ⟨#[]⟩, .int .i64 0, .int .i64 0, .string ⟨#[]⟩, .slice none 0 0, .slice none 0 0] 49)).heap[wr.heap.size]? = some (.cells #[.string ⟨#[]⟩, .int .i64 0, .int .i64 0, .string ⟨#[]⟩, .slice none 0 0, .slice none 0 0] 49 (0, 0)) := by
                show (wr.heap.push _)[wr.heap.size]? = _
                rw [Array.getElem?_push, if_pos rfl]
              have h8 := setRow_heap (wr.alloc (.cells #[.string ⟨#[]⟩, .int .i64 0, .int .i64 0, .string ⟨#[]⟩, .slice none 0 0, .slice none 0 0] 49)) wr.heap.size _ #[.string (st u.1), x1, x2, x3, x4, x5] _ _ hr8
              have hal : ∀ k, k < wr.heap.size → ((wr.alloc (.cells #[.string ⟨#[]⟩, .int .i64 0, .int .i64 0, .string ⟨#[]⟩, .slice none 0 0, .slice none 0 0] 49)).setRow wr.heap.size #[.string (st u.1), x1, x2, x3, x4, x5]).heap[k]? = wr.heap[k]? := fun k hk => (setRow_other _ _ k _ (by omega)).trans (by
                show (wr.heap.push _)[k]? = _
                rw [Array.getElem?_push, if_neg (by omega)])
              have hbw : Below wr.heap.size wr ((wr.alloc (.cells #[.string ⟨#[]⟩, .int .i64 0, .int .i64 0, .string ⟨#[]⟩, .slice none 0 0, .slice none 0 0] 49)).setRow wr.heap.size #[.string (st u.1), x1, x2, x3, x4, x5]) := ⟨rfl, rfl, rfl, by simp [World.setRow], hal⟩
              have hb6 := hb2.out.keep hbw
              have hc6 := hc2.out.keep PX.fr (fun k _ hs => hal k hs)
              have hkA6 : ∀ k, w.heap.size + 2 ≤ k → k < wA.heap.size → ((wr.alloc (.cells #[.string ⟨#[]⟩, .int .i64 0, .int .i64 0, .string ⟨#[]⟩, .slice none 0 0, .slice none 0 0] 49)).setRow wr.heap.size #[.string (st u.1), x1, x2, x3, x4, x5]).heap[k]? = wA.heap[k]? := fun k hk hs => (hal k (Nat.lt_of_lt_of_le hs hsA.out)).trans (hkA.out k hk hs)
              have hsA6 : wA.heap.size ≤ ((wr.alloc (.cells #[.string ⟨#[]⟩, .int .i64 0, .int .i64 0, .string ⟨#[]⟩, .slice none 0 0, .slice none 0 0] 49)).setRow wr.heap.size #[.string (st u.1), x1, x2, x3, x4, x5]).heap.size := Nat.le_trans hsA.out hbw.size
              have hxw : VB F ((wr.alloc (.cells #[.string ⟨#[]⟩, .int .i64 0, .int .i64 0, .string ⟨#[]⟩, .slice none 0 0, .slice none 0 0] 49)).setRow wr.heap.size #[.string (st u.1), x1, x2, x3, x4, x5]) u.2 [x1, x2, x3, x4, x5] := VB.frame (c := [x1, x2, x3, x4, x5]) hxu (fun k _ hs => hb6.bw.block k hs) (fun _ h _ => h)
              replace h8 := hide1 h8
              replace hb6 := hide1 hb6
              replace hc6 := hide1 hc6
              replace hxw := hide1 hxw
              replace hon := hide1 hon
              replace hkA6 := hide1 hkA6
              replace hsA6 := hide1 hsA6
              clear hal hbw hb2 hc2 hkA hsA hxu hxn hrw hve hx
              replace hu := hide1 hu
              replace hdx := hide1 hdx
              go_upto_region 14 with (first | refine wpList_load_mid rfl 49 (.tmp 51) rfl gb (i * 6) rfl [.string (st u.1), x1, x2, x3, x4, x5] _ hr Tryz.underlying49 rfl (by kernel_rfl) ?_ | refine wpList_store_row rfl 49 (.tmp 8) (.tmp 52) rfl wr.heap.size #[.string (st u.1), x1, x2, x3, x4, x5] rfl rfl 49 _ hr8 (by kernel_rfl) rfl (by simpa using hon.out) ?_)
              generalize (wr.alloc (.cells #[.string ⟨#[]⟩, .int .i64 0, .int .i64 0, .string ⟨#[]⟩, .slice none 0 0, .slice none 0 0] 49)).setRow wr.heap.size #[.string (st u.1), x1, x2, x3, x4, x5] = w3 at *
              generalize hq8 : wr.heap.size = q8 at *
              have ihc : ∀ wz, Below w3.heap.size w3 wz → Calls Tryz.prog 41 #[.agg #[x1, x2, x3, x4, x5], .int .i64 (d - 1 : Nat)] wz (AnG5 F wz (so (d - 1) u.2)) := fun wz hb => ih hhu (hxw.out.frame (F := F) (G := F) (fun k _ hs => hb.block k hs) (fun _ h _ => h)) (fun k hk => by have := hF k hk; have := hb6.out.sz; have := hb.size; omega)
              refine wp_flow 10 _ _ (by kernel_rfl) (by kernel_rfl) (by kernel_rfl) (by kernel_rfl) rfl (R13x w.heap.size q8 gb cp.length vc2 i d #[x1, x2, x3, x4, x5] w3 (so (d - 1) u.2) F) R13x_mono ?_ ?_
              · intro j o ho hj a wa hbw hsl hdep K hK
                match j, ho with
                | 0, ho =>
                  obtain rfl := Option.some.inj ho
                  have t2 : a.tmps.getD 2 undef = .pointer (some ⟨w.heap.size, 0, none⟩) := hsl 2 rfl
                  exact wp_val (w' := wa) (by simp only [execOp, Act.eval]; rw [show a.tmps.getD 2 undef = _ from t2]; kernel_rfl) (hK _ _ (Below.refl _ _) rfl)
                | 1, ho =>
                  obtain rfl := Option.some.inj ho
                  have t := hdep 0 _ 53 rfl rfl ⟨⟨0, .data⟩, by simp, rfl, rfl⟩
                  have hc3 : wa.cell? ⟨w.heap.size, 4, none⟩ = some (.slice (some ⟨gb, 0, none⟩) cp.length vc2) := by
                    rw [World.cell?_of_block (w := w3) (hbw.block _ (by have := hb6.out.sz; show w.heap.size < _; omega))]
                    simp only [World.cell?, hb6.out.b2]; rfl
                  exact wp_val (w' := wa) (by simp only [execOp, Act.eval]; rw [show a.tmps.getD 53 undef = _ from t]; simp only [Sem.run_bind, ld_sP hc3, Result.andThen_ok, Sem.run_pure]) (hK _ _ (Below.refl _ _) rfl)
                | 2, ho =>
                  obtain rfl := Option.some.inj ho
                  have t := hsl 7 rfl
                  exact wp_val (w' := wa) (by simp only [execOp, Act.eval]; rw [show a.tmps.getD 7 undef = _ from t]; rfl) (hK _ _ (Below.refl _ _) rfl)
                | 3, ho =>
                  obtain rfl := Option.some.inj ho
                  have t2 : a.tmps.getD 8 undef = .pointer (some ⟨q8, 0, none⟩) := hsl 8 rfl
                  exact wp_val (w' := wa) (by simp only [execOp, Act.eval]; rw [show a.tmps.getD 8 undef = _ from t2]; kernel_rfl) (hK _ _ (Below.refl _ _) rfl)
                | 4, ho =>
                  obtain rfl := Option.some.inj ho
                  have t := hdep 3 _ 56 rfl rfl ⟨⟨3, .data⟩, by simp, rfl, rfl⟩
                  have hl8 := (hbw.block q8 (Array.getElem?_eq_some_iff.1 h8.out).1).trans h8.out
                  exact wp_val (w' := wa) (by simp only [execOp, Act.eval]; rw [show a.tmps.getD 56 undef = _ from t]; simp only [Sem.run_bind, ld_v1 hl8, Result.andThen_ok, Sem.run_pure]) (hK _ _ (Below.refl _ _) rfl)
                | 5, ho =>
                  obtain rfl := Option.some.inj ho
                  have t := hsl 1 rfl
                  exact wp_val (w' := wa) (by simp only [execOp, Act.eval]; rw [show a.tmps.getD 1 undef = _ from t]; rfl) (hK _ _ (Below.refl _ _) rfl)
                | 6, ho =>
                  obtain rfl := Option.some.inj ho
                  have t := hdep 5 _ 58 rfl rfl ⟨⟨5, .data⟩, by simp, rfl, rfl⟩
                  exact wp_val (w' := wa) (by simp only [execOp, Act.eval]; rw [show a.tmps.getD 58 undef = _ from t]; simp only [Sem.run_bind, eqg_sub, sub_1 hd1 hd6, Result.andThen_ok, Sem.run_pure]) (hK _ _ (Below.refl _ _) rfl)
                | 7, ho =>
                  obtain rfl := Option.some.inj ho
                  have t3 := hdep 4 _ 57 rfl rfl ⟨⟨4, .data⟩, by simp, rfl, rfl⟩
                  have t5 := hdep 6 _ 59 rfl rfl ⟨⟨6, .data⟩, by simp, rfl, rfl⟩
                  refine oper_any (J := fun r w' => ∃ c : Array Value, r = .agg c ∧ c.size = 5 ∧ Below wa.heap.size wa w' ∧ VA (fun k => F k ∨ wa.heap.size ≤ k) w' (so (d - 1) u.2) c.toList) 41 #[.tmp 57, .tmp 59] _ rfl #[.agg #[x1, x2, x3, x4, x5], .int .i64 (d - 1 : Nat)] (by simp only [List.map_toArray, List.map_cons, List.map_nil, Act.eval]; rw [show a.tmps.getD 57 undef = _ from t3, show a.tmps.getD 59 undef = _ from t5]) (fun w => by kernel_rfl) ((ihc wa hbw).mono fun e w' h => by obtain ⟨c, rfl, h1, h2, h3⟩ := h; exact ⟨_, rfl, c, rfl, h1, h2, h3⟩) ?_
                  rintro r w' ⟨c, rfl, h1, h2, h3⟩
                  exact hK _ _ h2 ⟨c, rfl, h1, h3.frame (fun _ _ _ => rfl) (fun k hk _ => hk.imp id (Nat.le_trans hbw.size))⟩
                | 8, ho =>
                  obtain rfl := Option.some.inj ho
                  have t1 := hdep 1 _ 54 rfl rfl ⟨⟨1, .data⟩, by simp, rfl, rfl⟩
                  have t2 := hdep 2 _ 55 rfl rfl ⟨⟨2, .data⟩, by simp, rfl, rfl⟩
                  exact wp_val (w' := wa) (by simp only [execOp, Act.eval]; rw [show a.tmps.getD 54 undef = _ from t1, show a.tmps.getD 55 undef = _ from t2]; simp only [Sem.run_bind, ix_sP hlt, Result.andThen_ok, Sem.run_pure]) (hK _ _ (Below.refl _ _) rfl)
                | 9, ho =>
                  obtain rfl := Option.some.inj ho
                  have t1 := hdep 8 _ 61 rfl rfl ⟨⟨8, .data⟩, by simp, rfl, rfl⟩
                  exact wp_val (w' := wa) (by simp only [execOp, Act.eval]; rw [show a.tmps.getD 61 undef = _ from t1]; kernel_rfl) (hK _ _ (Below.refl _ _) rfl)
                | 10, _ => exact absurd rfl hj
                | _ + 11, ho => exact absurd ho (by simp)
              · intro a wa hbw hdf hsz hsl hr K hK
                obtain ⟨c', t6, hc5, hcv⟩ := hr 7 _ 60 rfl (by decide) rfl
                have t7 := hr 9 _ 62 rfl (by decide) rfl
                have hca := hc6.out.keep PX.fr (fun k hk hs => hbw.block k hs)
                have hba := hb6.out.keep hbw
                have hrow := hca.row
                rw [hdl] at hrow
                obtain ⟨cur, hgb, hcur, hBg⟩ := own_cur hrow
                have hfit : i * 6 + 1 + 5 ≤ cp.length * 6 := by omega
                have hst := st_eV hgb hc5 (Nat.le_trans hfit hcur) (by simpa using hcv.one)
                have hp := own_piece hrow hc5 hfit hgb
                rw [← flat_set1 hca.lz hdx.out] at hp
                have hw3 := hb6.out.sz
                have hsa := hbw.size
                have hgq : gb < w3.heap.size := by have := (Array.getElem?_eq_some_iff.1 h8.out).1; omega
                have hsAa := hsA6.out
                have hC : Hid (Cp (PX F w) 49 6 wA.heap.size p' cp (.slice (some ⟨gb, 0, none⟩) cp.length vc2) (i + 1) (wa.setRow gb (cur.toList.take (i * 6 + 1) ++ c'.toList ++ cur.toList.drop (i * 6 + 1 + 5)).toArray) (ds2.set i (.string (st u.1) :: c'.toList))) := hide1 (hca.step PX.fr (by simp [hc5]) (by omega) rfl (fun k hk => setRow_other wa gb k _ hk) (by rw [hdl]; exact hp) (fun t' ht' => by
                  rw [hp'.out, List.getElem?_map, hu.out] at ht'
                  cases ht'
                  refine ⟨rfl, ?_⟩
                  intro wz hz1 hz2
                  have hlw : ∀ k, k < wa.heap.size → k < (wa.setRow gb (cur.toList.take (i * 6 + 1) ++ c'.toList ++ cur.toList.drop (i * 6 + 1 + 5)).toArray).heap.size := fun k hk => by simpa [World.setRow] using hk
                  have hnw : ∀ k, w3.heap.size ≤ k → wA.heap.size ≤ k ∧ some k ≠ (Value.slice (some ⟨gb, 0, none⟩) cp.length vc2).ownBlock := fun k hk => ⟨by omega, fun e => by
                    have : k = gb := by simpa [Value.ownBlock] using e
                    omega⟩
                  exact VA.frame (c := c'.toList) hcv (fun k hk hs => hk.elim (fun h => (hz2 k h).trans (hba.bw.block k (hF k h)).symm) (fun h => (hz1 k (hnw k h) (hlw k hs)).trans (setRow_other wa gb k _ (by omega)))) (fun k hk _ => hk.imp id (hnw k))))
                have hCb := hide1 (hba.over (Nat.le_trans hwA hBg) (cur.toList.take (i * 6 + 1) ++ c'.toList ++ cur.toList.drop (i * 6 + 1 + 5)).toArray)
                have hCk : Hid (∀ k, w.heap.size + 2 ≤ k → k < wA.heap.size → (wa.setRow gb (cur.toList.take (i * 6 + 1) ++ c'.toList ++ cur.toList.drop (i * 6 + 1 + 5)).toArray).heap[k]? = wA.heap[k]?) := hide1 fun k hk hs => (setRow_other wa gb k _ (by omega)).trans ((hbw.block k (by omega)).trans (hkA6.out k hk hs))
                have hCs : Hid (wA.heap.size ≤ (wa.setRow gb (cur.toList.take (i * 6 + 1) ++ c'.toList ++ cur.toList.drop (i * 6 + 1 + 5)).toArray).heap.size) := hide1 (by simp [World.setRow]; omega)
                generalize (cur.toList.take (i * 6 + 1) ++ c'.toList ++ cur.toList.drop (i * 6 + 1 + 5)).toArray = nw at *
                refine wp_skp (w' := wa.setRow gb nw) (by simp only [execOp, Act.eval]; rw [show a.tmps.getD 62 undef = _ from t7, show a.tmps.getD 60 undef = _ from t6]; simp only [Sem.run_bind, hst, Result.andThen_ok, Sem.run_pure]) ?_
                refine hK a (wa.setRow gb nw) ?_
                have hact := act_puts hdf hsz hsl
                clear hst hp hcv hca hba hrow hr hsl hdf hsz hbw hK t6 t7 ihc
                simp only [List.filterMap_cons, List.filterMap_nil, List.foldl_cons, List.foldl_nil] at hact
                rw [hact]
                generalize a.tmps.getD 53 undef = y53
                generalize a.tmps.getD 54 undef = y54
                generalize a.tmps.getD 55 undef = y55
                generalize a.tmps.getD 56 undef = y56
                generalize a.tmps.getD 57 undef = y57
                generalize a.tmps.getD 58 undef = y58
                generalize a.tmps.getD 59 undef = y59
                generalize a.tmps.getD 60 undef = y60
                generalize a.tmps.getD 61 undef = y61
                generalize a.tmps.getD 62 undef = y62
                clear hact a
                refine (‹∀ (a : Act) (w : World), Code.wp Tryz.prog _ _ a w → _›) _ (wa.setRow gb nw) ?_
                generalize wa.setRow gb nw = w4 at *
                go_wp2
                go_roundw
                case rel => exact ⟨i + 1, _, rfl, by omega, hCb, hC, hCk, hCs⟩
                case measure => simp [intOf]; omega
            · have hie : i = cp.length := by omega
              subst hie
              have hpl' : Hid (cp.length = p'.length) := hide1 (by rw [hp'.out, List.length_map]; exact e2.out)
              have hll' : Hid (cl.length = l'.length) := hide1 (by rw [hl'.out, List.length_map]; exact e1.out)
              have hgw : ∀ k, F k → wr.heap[k]? = w.heap[k]? := fun k hk => hb2.out.bw.block k (hF k hk)
              have hsrt : ∃ cs : List (List Value), Hid (cs.length = cp.length) ∧ Hid (Calls Tryz.prog 72 #[.slice va2 cp.length vc2, .func (.func 73) #[] #[]] wr fun e w7 => e = .returned (.tuple #[]) ∧ w7.os = wr.os ∧ w7.tape = wr.tape ∧ w7.output = wr.output ∧ wr.heap.size ≤ w7.heap.size ∧ (∀ k, k < wr.heap.size → k < wA.heap.size → w7.heap[k]? = wr.heap[k]?) ∧
                  (w7.ownsRow wA.heap.size 49 6 (.slice va2 cp.length vc2) cs.length cs.flatten ∧ ∀ c ∈ cs, c.length = 6) ∧ ∀ (j : Nat) (q : Tp) (c : List Value), (ss ltT p')[j]? = some q → cs[j]? = some c → c.head? = some (Value.string (st q.1)) ∧ VA (fun k => F k ∨ wA.heap.size ≤ k) w7 q.2 c.tail) := by
                by_cases hz : cp.length = 0
                · have hd0 : ds2 = [] := List.length_eq_zero_iff.1 (by rw [hc2.out.ln]; exact hz)
                  have hrow := hc2.out.row
                  rw [hd0, hz] at hrow
                  refine ⟨[], hide1 (by simp [hz]), hide1 ?_⟩
                  rw [hz]
                  refine sort0_d.mono ?_
                  rintro e w7 ⟨rfl, rfl⟩
                  exact ⟨rfl, rfl, rfl, rfl, Nat.le_refl _, fun _ _ _ => rfl, ⟨hrow, by simp⟩, fun j q c _ h => by simp at h⟩
                · obtain ⟨gb, rfl⟩ : ∃ gb, va2 = some ⟨gb, 0, none⟩ := by
                    have hrow := hc2.out.row
                    rw [hc2.out.ln] at hrow
                    obtain ⟨_, ⟨h1, h2⟩ | ⟨g', cap, cur, h1, _⟩⟩ := hrow
                    · omega
                    · cases h1; exact ⟨_, rfl⟩
                  have hRw := fpx_rw hgw hc2.out hpl'.out
                  have hs := sort_d hRw (by omega)
                  obtain ⟨hBg, hgl⟩ := hRw.lt
                  refine ⟨(ss ltE (sg (Fp p' ds2) 0 cp.length)).map Go.Proofs.YtbemaloaobeblaaGreatDoor.cl, hide1 (by rw [List.length_map, ss_len, sg_len]), hide1 ?_⟩
                  refine hs.mono ?_
                  rintro e w7 ⟨rfl, G, hG1, hG2, hG3⟩
                  have hf := fpx_fin hgw hc2.out hpl'.out hG2
                  rw [hG2] at hf
                  have hrow := hG1.row
                  rw [hG2] at hrow
                  have hln : ((ss ltE (sg (Fp p' ds2) 0 cp.length)).map Go.Proofs.YtbemaloaobeblaaGreatDoor.cl).length = cp.length := by rw [List.length_map, ss_len, sg_len]
                  refine ⟨rfl, hG3.os, hG3.tape, hG3.output, hG3.size, fun k h1 h2 => hG3.block k h1 (by omega), ⟨by rw [hln]; exact hrow, fun c hc => hG1.lens c (by rw [hG2]; exact hc)⟩, fun j q c h1 h2 => ?_⟩
                  rw [List.getElem?_map] at h2
                  cases he : (ss ltE (sg (Fp p' ds2) 0 cp.length))[j]? with
                  | none => rw [he] at h2; cases h2
                  | some e =>
                    rw [he] at h2
                    cases h2
                    obtain ⟨g1, g2⟩ := hf.at he h1
                    refine ⟨by show some (Value.string (st e.1)) = _; rw [g1], ?_⟩
                    have g3 := g2 w7 (fun k hk hs => hG3.block k hs (fun e => hk.2 (by rw [e]; rfl))) (fun k hk => (hG3.block k (by have := hF k hk; have := hb2.out.bw.size; omega) (by have := hF k hk; omega)).trans (hgw k hk))
                    exact g3.frame (fun _ _ _ => rfl) (fun k hk _ => hk.imp id fun h => h.1)
              obtain ⟨cs, hcsl, hsrt⟩ := hsrt
              have hsc := hsrt.out
              have lz : wr.cell? ⟨w.heap.size, 4, none⟩ = some (.slice va2 cp.length vc2) := by simp only [World.cell?, hb2.out.b2]; rfl
              clear hsrt
              go_wp2_with fail
              refine hsc.mono ?_
              rintro er w7 ⟨rfl, o1, o2, o3, o4, o5, ⟨o6, o6l⟩, o7⟩
              have hsz7 := hb2.out.sz
              have hb7 : Cb w #[.int .i64 k, .int .i64 ki, .string (st s), .slice va cl.length vc, .slice va2 cp.length vc2] w7 := ⟨⟨o1.trans hb2.out.bw.os, o2.trans hb2.out.bw.tape, o3.trans hb2.out.bw.output, Nat.le_trans hb2.out.bw.size o4, fun k hk => (o5 k (Nat.lt_of_lt_of_le hk hb2.out.bw.size) (by omega)).trans (hb2.out.bw.block k hk)⟩, (o5 _ (by omega) (by omega)).trans hb2.out.b2, (o5 _ (by omega) (by omega)).trans hb2.out.b4, by omega⟩
              have hr4 := hb7.b4
              have l0 : w7.cell? ⟨w.heap.size, 0, none⟩ = some (.int .i64 k) := by simp only [World.cell?, hb7.b2]; rfl
              have l1 : w7.cell? ⟨w.heap.size, 1, none⟩ = some (.int .i64 ki) := by simp only [World.cell?, hb7.b2]; rfl
              have l2 : w7.cell? ⟨w.heap.size, 2, none⟩ = some (.string (st s)) := by simp only [World.cell?, hb7.b2]; rfl
              have l3 : w7.cell? ⟨w.heap.size, 3, none⟩ = some (.slice va cl.length vc) := by simp only [World.cell?, hb7.b2]; rfl
              have l4 : w7.cell? ⟨w.heap.size, 4, none⟩ = some (.slice va2 cp.length vc2) := by simp only [World.cell?, hb7.b2]; rfl
              have hz := setRow_heap w7 (w.heap.size + 1) _ #[.int .i64 k, .int .i64 ki, .string (st s), .slice va cl.length vc, .slice va2 cp.length vc2] _ _ hr4
              have hso : so d (.mk k ki s l p) = .mk k ki s l' (ss ltT p') := by
                obtain ⟨d', rfl⟩ : ∃ d', d = d' + 1 := ⟨d - 1, by omega⟩
                rw [hl'.out, hp'.out]; rfl
              have ha : AnX5 F w (so d (.mk k ki s l p)) (.returned (.agg #[.int .i64 k, .int .i64 ki, .string (st s), .slice va cl.length vc, .slice va2 cp.length vc2])) (w7.setRow (w.heap.size + 1) #[.int .i64 k, .int .i64 ki, .string (st s), .slice va cl.length vc, .slice va2 cp.length vc2]) := by
                rw [hso]
                have hfr : ∀ k', k' ≠ w.heap.size + 1 → (w7.setRow (w.heap.size + 1) #[.int .i64 k, .int .i64 ki, .string (st s), .slice va cl.length vc, .slice va2 cp.length vc2]).heap[k']? = w7.heap[k']? := fun k' hk' => setRow_other w7 _ k' _ hk'
                have hsA' := hsA.out
                have hll := hc.out.ln
                have hcl2 := hcsl.out
                have hFw : ∀ k', F k' → (w7.setRow (w.heap.size + 1) #[.int .i64 k, .int .i64 ki, .string (st s), .slice va cl.length vc, .slice va2 cp.length vc2]).heap[k']? = w.heap[k']? := fun k' hk' => (hfr k' (by have := hF k' hk'; omega)).trans (hb7.bw.block k' (hF k' hk'))
                have hAk : ∀ k', w.heap.size + 2 ≤ k' → k' < wA.heap.size → (w7.setRow (w.heap.size + 1) #[.int .i64 k, .int .i64 ki, .string (st s), .slice va cl.length vc, .slice va2 cp.length vc2]).heap[k']? = wA.heap[k']? := fun k' h1 h2 => (hfr k' (by omega)).trans ((o5 k' (by omega) h2).trans (hkA.out k' h1 h2))
                have q1 := own_kept (w' := w7.setRow (w.heap.size + 1) #[.int .i64 k, .int .i64 ki, .string (st s), .slice va cl.length vc, .slice va2 cp.length vc2]) hc.out.row (fun b e => hAk b (hc.out.row.lt b e).1 (hc.out.row.lt b e).2)
                have q2 := own_kept (w' := w7.setRow (w.heap.size + 1) #[.int .i64 k, .int .i64 ki, .string (st s), .slice va cl.length vc, .slice va2 cp.length vc2]) o6 (fun b e => hfr b (by have := (o6.lt b e).1; omega))
                refine ⟨k, ki, s, _, _, ds, cs, rfl, blw_own hb7.bw (by omega) _, ⟨ownsRow_mono q1 (by omega), hc.out.lz⟩, ⟨ownsRow_mono q2 (by omega), o6l⟩, ?_⟩
                have r1' := own_rows q1 hc.out.lz (F := fun k => F k ∨ w.heap.size ≤ k) (fun k hk => .inr (by omega))
                have r2' := own_rows q2 o6l (F := fun k => F k ∨ w.heap.size ≤ k) (fun k hk => .inr (by omega))
                refine VA.mk (s := s) r1' r2' (by have := hll'.out; omega) (by rw [hcl2, ss_len]; exact hpl'.out) (fun j t c h1 h2 => ?_) (fun j q c h1 h2 => (o7 j q c h1 h2).1) (fun j q c h1 h2 => ?_)
                · have hj := (List.getElem?_eq_some_iff.1 h2).1
                  exact (hc.out.new j t c (by have := hll'.out; omega) h1 h2 _ (fun k' hk hs => hAk k' hk.1 hs) hFw).frame (fun _ _ _ => rfl) (fun k' hk _ => hk.imp id fun h => by have := h.1; omega)
                · exact (o7 j q c h1 h2).2.frame (fun k' hk _ => hk.elim (fun h => (hfr k' (by have := hF k' h; omega))) (fun h => hfr k' (by omega))) (fun k' hk _ => hk.imp id fun h => by omega)
              replace ha := hide1 ha
              replace hz := hide1 hz
              clear hb2 hc2 hkA hsA hb hc hsc o1 o2 o3 o4 o5 o6 o7 hb7 lz hso
              go_wp2_with (refine wpList_store_row rfl Vt (.tmp 4) (.tmp 67) rfl (w.heap.size + 1) #[.int .i64 k, .int .i64 ki, .string (st s), .slice va cl.length vc, .slice va2 cp.length vc2] rfl rfl Vt _ hr4 (by kernel_rfl) rfl (by kernel_rfl) ?_)
              refine bodyPost_ret (results_v1 rfl _ rfl rfl hz.out) rfl ?_
              exact ha.out
end Go.Proofs.YtbemaloaobeblaaGreatDoor

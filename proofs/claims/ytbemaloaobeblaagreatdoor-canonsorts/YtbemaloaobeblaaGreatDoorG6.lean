/- CA2, CA3, CA5, CA6, KR1, KR2, KR3, KR4, KP1, KP2, KP3, KP4, KP5, KP6, KP7, KP13, KP14, CA7, CA8, KP8, KP9, KP10, KP11, KP12, KP15, KP16, KQ1, CA9, CBQ, CN1: laid together. -/
import Derived.BigQuiet
import Derived.Lib.ValidLaws
import Derived.Lib.ConvBytes
import Derived.Deep.RegionHeld3
import Derived.Test.YtbemaloaobeblaaGreatDoorG5
import Derived.Test.YtbemaloaobeblaaGreatDoorG3
import Derived.Test.YtbemaloaobeblaaGreatDoorG4
import Derived.Test.YtbemaloaobeblaaGreatDoorG2
namespace Go.Proofs.YtbemaloaobeblaaGreatDoor
open Go.RowKit

def HQ (Q : T → Prop) : T → Prop
  | .mk _ _ _ l p => l.length ≤ 1000000 ∧ p.length ≤ 1000000 ∧ (∀ t ∈ l, Q t) ∧ ∀ q ∈ p, Q q.2
set_option maxHeartbeats 8000000 in
set_option maxRecDepth 100000 in
theorem sorted_s {Q : T → Prop} {d : Nat} (ih : ∀ {F : Nat → Prop} {w : World} {t : T} {c : List Value}, Q t → VA F w t c → Calls Tryz.prog 41 #[.agg c.toArray, .int .i64 (d - 1 : Nat)] w (AnC w (so (d - 1) t)))
    {F : Nat → Prop} {w : World} {t : T} {c : List Value} (hh : HQ Q t) (hd1 : 0 < d) (hd6 : d ≤ 65536) (h : VA F w t c) : Calls Tryz.prog 41 #[.agg c.toArray, .int .i64 (d : Nat)] w (AnC w (so d t)) := by
    have hd0 : ¬ (d : Int) = 0 := by omega
    cases h with
    | @mk k ki s l p sl sp cl cp r1 r2 e1 e2 hl hp1 hp2 =>
      obtain ⟨b1, b2, hl1, hl2⟩ := hh
      obtain ⟨l', hl'⟩ : ∃ l', Hid (l' = l.map (so (d - 1))) := ⟨_, hide1 rfl⟩
      obtain ⟨p', hp'⟩ : ∃ p', Hid (p' = p.map fun q => (q.1, so (d - 1) q.2)) := ⟨_, hide1 rfl⟩
      -- the boxes
      obtain ⟨wb, hwb⟩ : ∃ wb, wb = (w.alloc (.cells #[.int .i64 k, .int .i64 ki, .string (st s), sl, sp] 28)).alloc (.cells #[.int .i64 0, .int .i64 0, .string ⟨#[]⟩, .slice none 0 0, .slice none 0 0] 28) := ⟨_, rfl⟩
      have hbb : Cb w #[.int .i64 k, .int .i64 ki, .string (st s), sl, sp] wb := by
        rw [hwb]
        refine ⟨blw_al ((Below.refl _ _).alloc (Nat.le_refl _) _) (by simp) _, ?_, ?_, by simp⟩
        · show ((w.heap.push _).push _)[w.heap.size]? = _
          rw [Array.getElem?_push, if_neg (by simp), Array.getElem?_push, if_pos rfl]
        · show ((w.heap.push _).push _)[w.heap.size + 1]? = _
          rw [Array.getElem?_push, if_pos (by simp)]
          rfl
      have c3 : wb.cell? ⟨w.heap.size, 3, none⟩ = some sl := by simp only [World.cell?, hbb.b2]; rfl
      have r1b : RwA F wb 28 5 sl cl := r1.frame (fun k _ hs => hbb.bw.block k hs) (fun _ h _ => h)
      have hon1 : ∀ x ∈ cl, x.all (·.oneCell') = true := fun x hx => by
        obtain ⟨j, hj, rfl⟩ := List.mem_iff_getElem.1 hx
        have hj2 : j < l.length := by omega
        exact (hl j _ _ (List.getElem?_eq_getElem hj2) (List.getElem?_eq_getElem hj)).one
      have hcl := clone_V r1b hon1 (by omega)
      have hb1l : cl.length ≤ 1000000 := by omega
      have hb2l : cp.length ≤ 1000000 := by omega
      replace e1 := hide1 e1
      replace e2 := hide1 e2
      replace hbb := hide1 hbb
      subst hwb
      go_enter Tryz.func41, Tryz.ntmps41
      go_wp2_with fail
      refine hcl.mono ?_
      rintro e w1 ⟨v1, rfl, bw1, row1⟩
      have hb1 := hbb.out.keep bw1
      have hsb := hbb.out.sz
      -- the row of the list's own
      obtain ⟨va, vc, hva⟩ : ∃ va vc, v1 = .slice va cl.length vc := by
        obtain ⟨_, ⟨h1, h2⟩ | ⟨g', cap, cur, h1, _⟩⟩ := row1
        · exact ⟨none, 0, by rw [h1, h2]⟩
        · exact ⟨_, cap, h1⟩
      have hw2 : w1.setCell ⟨w.heap.size, 3, none⟩ v1 = w1.setRow w.heap.size #[.int .i64 k, .int .i64 ki, .string (st s), v1, sp] := by
        rw [setCell_eq_setRow w1 w.heap.size 3 _ _ (0, 0) _ hb1.b2]; rfl
      have cc : w1.cell? ⟨w.heap.size, 3, none⟩ = some sl := by simp only [World.cell?, hb1.b2]; rfl
      have cf : w1.frozen? ⟨w.heap.size, 3, none⟩ = false := by simp [World.frozen?, hb1.b2]
      have hB1 : w.heap.size + 2 ≤ ((w.alloc (.cells #[.int .i64 k, .int .i64 ki, .string (st s), sl, sp] 28)).alloc (.cells #[.int .i64 0, .int .i64 0, .string ⟨#[]⟩, .slice none 0 0, .slice none 0 0] 28)).heap.size := hsb
      have hb2 : Cb w #[.int .i64 k, .int .i64 ki, .string (st s), v1, sp] (w1.setCell ⟨w.heap.size, 3, none⟩ v1) := by
        rw [hw2]
        exact ⟨blw_own hb1.bw (Nat.le_refl _) _, setRow_heap w1 w.heap.size _ _ _ _ hb1.b2, (setRow_other w1 _ _ _ (by omega)).trans hb1.b4, by simpa [World.setRow] using hb1.sz⟩
      have hcp : Cp VA 28 5 (w.heap.size + 2) l' cl v1 0 (w1.setCell ⟨w.heap.size, 3, none⟩ v1) cl := by
        refine Cp.start ?_ r1.1
        rw [hw2]
        obtain ⟨q1, q2 | ⟨g', cap, cur, h1, hB, h2, h3⟩⟩ := row1
        · exact ⟨q1, .inl q2⟩
        · exact ⟨q1, .inr ⟨g', cap, cur, h1, by omega, (setRow_other w1 _ g' _ (by omega)).trans h2, h3⟩⟩
      have cg : (w1.setCell ⟨w.heap.size, 3, none⟩ v1).cell? ⟨w.heap.size, 3, none⟩ = some v1 := by simp only [World.cell?, hb2.b2]; rfl
      replace hb2 := hide1 hb2
      replace hcp := hide1 hcp
      clear hbb hb1 hsb row1 bw1 hcl r1b hw2 hB1 c3
      subst hva
      go_wp2_with fail
      generalize w1.setCell ⟨w.heap.size, 3, none⟩ (.slice va cl.length vc) = w2 at *
      go_loopw [27] (fun x wr => ∃ (i : Nat) (ds : List (List Value)), x = .int .i64 (i : Nat) ∧ i ≤ cl.length ∧ Hid (Cb w #[.int .i64 k, .int .i64 ki, .string (st s), .slice va cl.length vc, sp] wr) ∧ Hid (Cp VA 28 5 (w.heap.size + 2) l' cl (.slice va cl.length vc) i wr ds)) (fun x _ => cl.length - (intOf x).toNat)
      case atStart => exact ⟨0, cl, rfl, by omega, hb2, hcp⟩
      case round =>
        obtain ⟨i, ds, rfl, hin, hb, hc⟩ := hrel
        by_cases hlt : i < cl.length
        · have hdl : ds.length = cl.length := hc.out.ln
          obtain ⟨x, hx⟩ : ∃ x, cl[i]? = some x := ⟨_, List.getElem?_eq_getElem hlt⟩
          obtain ⟨u, hu⟩ : ∃ u, l[i]? = some u := ⟨_, List.getElem?_eq_getElem (by have := e1.out; omega)⟩
          have hxu := hl i u x hu hx
          have hhu := hl1 u (List.mem_of_getElem? hu)
          have hdx : ds[i]? = some x := by rw [hc.out.old i (Nat.le_refl _)]; exact hx
          have hrw := own_rows hc.out.row hc.out.lz (F := fun _ => True) (fun _ _ => trivial)
          obtain ⟨gb, o, cap, hve, -, hgl, hr⟩ := hrw.at hdx
          have ho : o = 0 := by
            obtain ⟨_, ⟨h1, _⟩ | ⟨g', cap', cur, h1, _⟩⟩ := hc.out.row
            · rw [h1] at hve; cases hve
            · rw [h1] at hve; cases hve; rfl
          subst ho
          have hva : va = some ⟨gb, 0, none⟩ := by
            rw [hdl] at hve
            cases hve; rfl
          subst hva
          have hon := hon1 x (List.mem_of_getElem? hx)
          have hx5 : x.length = 5 := r1.1 x (List.mem_of_getElem? hx)
          obtain ⟨x0, x1, x2, x3, x4, rfl⟩ : ∃ x0 x1 x2 x3 x4, x = [x0, x1, x2, x3, x4] := by
            match x, hx5 with
            | [x0, x1, x2, x3, x4], _ => exact ⟨x0, x1, x2, x3, x4, rfl⟩
          rw [Nat.zero_add] at hr
          have hr6 : (wr.alloc (.cells #[.int .i64 0, .int .i64 0, .string ⟨#[]⟩, .slice none 0 0, .slice none 0 0] 28)).heap[wr.heap.size]? = some (.cells #[.int .i64 0, .int .i64 0, .string ⟨#[]⟩, .slice none 0 0, .slice none 0 0] 28 (0, 0)) := by
            show (wr.heap.push _)[wr.heap.size]? = _
            rw [Array.getElem?_push, if_pos rfl]
          have h6 := setRow_heap (wr.alloc (.cells #[.int .i64 0, .int .i64 0, .string ⟨#[]⟩, .slice none 0 0, .slice none 0 0] 28)) wr.heap.size _ #[x0, x1, x2, x3, x4] _ _ hr6
          have hal : ∀ k, k < wr.heap.size → ((wr.alloc (.cells #[.int .i64 0, .int .i64 0, .string ⟨#[]⟩, .slice none 0 0, .slice none 0 0] 28)).setRow wr.heap.size #[x0, x1, x2, x3, x4]).heap[k]? = wr.heap[k]? := fun k hk => (setRow_other _ _ k _ (by omega)).trans (by
            show (wr.heap.push _)[k]? = _
            rw [Array.getElem?_push, if_neg (by omega)])
          have hbw : Below wr.heap.size wr ((wr.alloc (.cells #[.int .i64 0, .int .i64 0, .string ⟨#[]⟩, .slice none 0 0, .slice none 0 0] 28)).setRow wr.heap.size #[x0, x1, x2, x3, x4]) := ⟨rfl, rfl, rfl, by simp [World.setRow], hal⟩
          have hb6 := hb.out.keep hbw
          have hc6 := hc.out.keep VA.fr (fun k _ hs => hal k hs)
          have hxw : VA F ((wr.alloc (.cells #[.int .i64 0, .int .i64 0, .string ⟨#[]⟩, .slice none 0 0, .slice none 0 0] 28)).setRow wr.heap.size #[x0, x1, x2, x3, x4]) u [x0, x1, x2, x3, x4] := hxu.frame (fun k _ hs => hb6.bw.block k hs) (fun _ h _ => h)
          replace h6 := hide1 h6
          replace hb6 := hide1 hb6
          replace hc6 := hide1 hc6
          replace hxw := hide1 hxw
          replace hon := hide1 hon
          clear hal hbw hb hc hxu hrw hve hx hdx hx5
          replace hu := hide1 hu
          go_upto_region 8 with (first | refine wpList_load_mid rfl 28 (.tmp 30) rfl gb (i * 5) rfl [x0, x1, x2, x3, x4] _ hr Tryz.underlying28 rfl (by kernel_rfl) ?_ | refine wpList_store_row rfl 28 (.tmp 6) (.tmp 31) rfl wr.heap.size #[x0, x1, x2, x3, x4] rfl rfl 28 _ hr6 (by kernel_rfl) rfl (by simpa using hon.out) ?_)
          generalize (wr.alloc (.cells #[.int .i64 0, .int .i64 0, .string ⟨#[]⟩, .slice none 0 0, .slice none 0 0] 28)).setRow wr.heap.size #[x0, x1, x2, x3, x4] = w3 at *
          generalize hq6 : wr.heap.size = q6 at *
          have ihc : ∀ w, Below w3.heap.size w3 w → Calls Tryz.prog 41 #[.agg #[x0, x1, x2, x3, x4], .int .i64 (d - 1 : Nat)] w (AnC w (so (d - 1) u)) := fun w hb => ih hhu (hxw.out.frame (F := F) (G := F) (fun k _ hs => hb.block k hs) (fun _ h _ => h))
          refine wp_flow 8 _ _ (by kernel_rfl) (by kernel_rfl) (by kernel_rfl) (by kernel_rfl) rfl (R7 w.heap.size gb cl.length vc i d #[x0, x1, x2, x3, x4] w3 (so (d - 1) u)) R7_mono ?_ ?_
          · intro j o ho hj a wa hbw hsl hdep K hK
            match j, ho with
            | 0, ho =>
              obtain rfl := Option.some.inj ho
              have t2 : a.tmps.getD 2 undef = .pointer (some ⟨w.heap.size, 0, none⟩) := hsl 2 rfl
              exact wp_val (w' := wa) (by simp only [execOp, Act.eval]; rw [show a.tmps.getD 2 undef = _ from t2]; kernel_rfl) (hK _ _ (Below.refl _ _) rfl)
            | 1, ho =>
              obtain rfl := Option.some.inj ho
              have t := hdep 0 _ 32 rfl rfl ⟨⟨0, .data⟩, by simp, rfl, rfl⟩
              have hc3 : wa.cell? ⟨w.heap.size, 3, none⟩ = some (.slice (some ⟨gb, 0, none⟩) cl.length vc) := by
                rw [World.cell?_of_block (w := w3) (hbw.block _ (by have := hb6.out.sz; show w.heap.size < _; omega))]
                simp only [World.cell?, hb6.out.b2]; rfl
              exact wp_val (w' := wa) (by simp only [execOp, Act.eval]; rw [show a.tmps.getD 32 undef = _ from t]; simp only [Sem.run_bind, ld_sV hc3, Result.andThen_ok, Sem.run_pure]) (hK _ _ (Below.refl _ _) rfl)
            | 2, ho =>
              obtain rfl := Option.some.inj ho
              have t := hsl 5 rfl
              exact wp_val (w' := wa) (by simp only [execOp, Act.eval]; rw [show a.tmps.getD 5 undef = _ from t]; rfl) (hK _ _ (Below.refl _ _) rfl)
            | 3, ho =>
              obtain rfl := Option.some.inj ho
              have t := hsl 6 rfl
              have hl6 := (hbw.block q6 (Array.getElem?_eq_some_iff.1 h6.out).1).trans h6.out
              exact wp_val (w' := wa) (by simp only [execOp, Act.eval]; rw [show a.tmps.getD 6 undef = .pointer (some ⟨q6, 0, none⟩) from t]; simp only [Sem.run_bind, ldEV hl6 rfl, Result.andThen_ok, Sem.run_pure]) (hK _ _ (Below.refl _ _) rfl)
            | 4, ho =>
              obtain rfl := Option.some.inj ho
              have t := hsl 1 rfl
              exact wp_val (w' := wa) (by simp only [execOp, Act.eval]; rw [show a.tmps.getD 1 undef = _ from t]; rfl) (hK _ _ (Below.refl _ _) rfl)
            | 5, ho =>
              obtain rfl := Option.some.inj ho
              have t := hdep 4 _ 36 rfl rfl ⟨⟨4, .data⟩, by simp, rfl, rfl⟩
              exact wp_val (w' := wa) (by simp only [execOp, Act.eval]; rw [show a.tmps.getD 36 undef = _ from t]; simp only [Sem.run_bind, eqg_sub, sub_1 hd1 hd6, Result.andThen_ok, Sem.run_pure]) (hK _ _ (Below.refl _ _) rfl)
            | 6, ho =>
              obtain rfl := Option.some.inj ho
              have t3 := hdep 3 _ 35 rfl rfl ⟨⟨3, .data⟩, by simp, rfl, rfl⟩
              have t5 := hdep 5 _ 37 rfl rfl ⟨⟨5, .data⟩, by simp, rfl, rfl⟩
              refine oper_any (J := fun r w' => ∃ c : Array Value, r = .agg c ∧ c.size = 5 ∧ Below wa.heap.size wa w' ∧ VA (wa.heap.size ≤ ·) w' (so (d - 1) u) c.toList) 41 #[.tmp 35, .tmp 37] _ rfl #[.agg #[x0, x1, x2, x3, x4], .int .i64 (d - 1 : Nat)] (by simp only [List.map_toArray, List.map_cons, List.map_nil, Act.eval]; rw [show a.tmps.getD 35 undef = _ from t3, show a.tmps.getD 37 undef = _ from t5]) (fun w => by kernel_rfl) ((ihc wa hbw).mono fun e w' h => by obtain ⟨c, rfl, h1, h2, h3⟩ := h; exact ⟨_, rfl, c, rfl, h1, h2, h3⟩) ?_
              rintro r w' ⟨c, rfl, h1, h2, h3⟩
              exact hK _ _ h2 ⟨c, rfl, h1, h3.frame (fun _ _ _ => rfl) (fun k hk _ => Nat.le_trans hbw.size hk)⟩
            | 7, ho =>
              obtain rfl := Option.some.inj ho
              have t1 := hdep 1 _ 33 rfl rfl ⟨⟨1, .data⟩, by simp, rfl, rfl⟩
              have t2 := hdep 2 _ 34 rfl rfl ⟨⟨2, .data⟩, by simp, rfl, rfl⟩
              exact wp_val (w' := wa) (by simp only [execOp, Act.eval]; rw [show a.tmps.getD 33 undef = _ from t1, show a.tmps.getD 34 undef = _ from t2]; simp only [Sem.run_bind, ix_sV hlt, Result.andThen_ok, Sem.run_pure]) (hK _ _ (Below.refl _ _) rfl)
            | 8, _ => exact absurd rfl hj
            | _ + 9, ho => exact absurd ho (by simp)
          · intro a wa hbw hdf hsz hsl hr K hK
            obtain ⟨c', t6, hc5, hcv⟩ := hr 6 _ 38 rfl (by decide) rfl
            have t7 := hr 7 _ 39 rfl (by decide) rfl
            have hca := hc6.out.keep VA.fr (fun k hk hs => hbw.block k hs)
            have hba := hb6.out.keep hbw
            have hrow := hca.row
            rw [hdl] at hrow
            obtain ⟨cur, hgb, hcur, hBg⟩ := own_cur hrow
            have hfit : i * 5 + 5 ≤ cl.length * 5 := by omega
            have hst := st_eV hgb hc5 (Nat.le_trans hfit hcur) (by simpa using hcv.one)
            have hp := own_piece hrow hc5 hfit hgb
            rw [← flat_set hca.lz i c'.toList (by omega)] at hp
            have hw3 := hb6.out.sz
            have hsa := hbw.size
            have hgq : gb < w3.heap.size := by have := (Array.getElem?_eq_some_iff.1 h6.out).1; omega
            have hC : Hid (Cp VA 28 5 (w.heap.size + 2) l' cl (.slice (some ⟨gb, 0, none⟩) cl.length vc) (i + 1) (wa.setRow gb (cur.toList.take (i * 5) ++ c'.toList ++ cur.toList.drop (i * 5 + 5)).toArray) (ds.set i c'.toList)) := hide1 (hca.step VA.fr (by simpa using hc5) (by omega) rfl (fun k hk => setRow_other wa gb k _ hk) (by rw [hdl]; exact hp) (fun t' ht' => by
              rw [hl'.out, List.getElem?_map, hu.out] at ht'
              cases ht'
              refine hcv.frame (fun k hk hs => setRow_other wa gb k _ ?_) (fun k hk hs => ⟨?_, ?_⟩)
              · have : w3.heap.size ≤ k := hk
                omega
              · have : w3.heap.size ≤ k := hk
                omega
              · intro e
                have : k = gb := by simpa [Value.ownBlock] using e
                have : w3.heap.size ≤ k := hk
                omega))
            have hCb := hide1 (hba.over hBg (cur.toList.take (i * 5) ++ c'.toList ++ cur.toList.drop (i * 5 + 5)).toArray)
            generalize (cur.toList.take (i * 5) ++ c'.toList ++ cur.toList.drop (i * 5 + 5)).toArray = nw at *
            refine wp_skp (w' := wa.setRow gb nw) (by simp only [execOp, Act.eval]; rw [show a.tmps.getD 39 undef = _ from t7, show a.tmps.getD 38 undef = _ from t6]; simp only [Sem.run_bind, hst, Result.andThen_ok, Sem.run_pure]) ?_
            refine hK a (wa.setRow gb nw) ?_
            have hact := act_puts hdf hsz hsl
            clear hst hp hcv hca hba hrow hr hsl hdf hsz hbw hK t6 t7 ihc
            simp only [List.filterMap_cons, List.filterMap_nil, List.foldl_cons, List.foldl_nil] at hact
            rw [hact]
            generalize a.tmps.getD 32 undef = y32
            generalize a.tmps.getD 33 undef = y33
            generalize a.tmps.getD 34 undef = y34
            generalize a.tmps.getD 35 undef = y35
            generalize a.tmps.getD 36 undef = y36
            generalize a.tmps.getD 37 undef = y37
            generalize a.tmps.getD 38 undef = y38
            generalize a.tmps.getD 39 undef = y39
            clear hact a
            refine (‹∀ (a : Act) (w : World), Code.wp Tryz.prog _ _ a w → _›) _ (wa.setRow gb nw) ?_
            generalize wa.setRow gb nw = w4 at *
            go_wp2
            go_roundw
            case rel => exact ⟨i + 1, _, rfl, by omega, hCb, hC⟩
            case measure => simp [intOf]; omega
        · have hie : i = cl.length := by omega
          subst hie
          have hcc : wr.cell? ⟨w.heap.size, 4, none⟩ = some sp := by simp only [World.cell?, hb.out.b2]; rfl
          have r2w : RwA F wr 49 6 sp cp := r2.frame (fun k _ hs => hb.out.bw.block k hs) (fun _ h _ => h)
          have hon2 : ∀ x ∈ cp, x.all (·.oneCell') = true := fun x hx => by
            obtain ⟨j, hj, rfl⟩ := List.mem_iff_getElem.1 hx
            have hj2 : j < p.length := by have := e2.out; omega
            have h1 := hp1 j _ _ (List.getElem?_eq_getElem hj2) (List.getElem?_eq_getElem hj)
            have h2 := (hp2 j _ _ (List.getElem?_eq_getElem hj2) (List.getElem?_eq_getElem hj)).one
            generalize cp[j] = x at *
            cases x with
            | nil => cases h1
            | cons a b =>
              simp at h1
              subst h1
              simpa [Value.oneCell'] using h2
          have hcl2 := clone_P r2w hon2 (by omega)
          have hwA := hb.out.sz
          clear hb2 hcp
          go_wp2_with fail
          refine hcl2.mono ?_
          rintro e w5 ⟨v2, rfl, bw5, row2⟩
          have hb5 := hb.out.keep bw5
          obtain ⟨va2, vc2, hva2⟩ : ∃ va vc, v2 = .slice va cp.length vc := by
            obtain ⟨_, ⟨h1, h2⟩ | ⟨g', cap, cur, h1, _⟩⟩ := row2
            · exact ⟨none, 0, by rw [h1, h2]⟩
            · exact ⟨_, cap, h1⟩
          have hw6 : w5.setCell ⟨w.heap.size, 4, none⟩ v2 = w5.setRow w.heap.size #[.int .i64 k, .int .i64 ki, .string (st s), .slice va cl.length vc, v2] := by
            rw [setCell_eq_setRow w5 w.heap.size 4 _ _ (0, 0) _ hb5.b2]; rfl
          have cc5 : w5.cell? ⟨w.heap.size, 4, none⟩ = some sp := by simp only [World.cell?, hb5.b2]; rfl
          have cf5 : w5.frozen? ⟨w.heap.size, 4, none⟩ = false := by simp [World.frozen?, hb5.b2]
          have hb6 : Cb w #[.int .i64 k, .int .i64 ki, .string (st s), .slice va cl.length vc, v2] (w5.setCell ⟨w.heap.size, 4, none⟩ v2) := by
            rw [hw6]
            exact ⟨blw_own hb5.bw (Nat.le_refl _) _, setRow_heap w5 w.heap.size _ _ _ _ hb5.b2, (setRow_other w5 _ _ _ (by omega)).trans hb5.b4, by simpa [World.setRow] using hb5.sz⟩
          have hkA : ∀ k, w.heap.size + 2 ≤ k → k < wr.heap.size → (w5.setCell ⟨w.heap.size, 4, none⟩ v2).heap[k]? = wr.heap[k]? := fun k hk hs => by
            rw [hw6]
            exact (setRow_other w5 _ k _ (by omega)).trans (bw5.block k hs)
          have hcp2 : Cp PA 49 6 wr.heap.size p' cp v2 0 (w5.setCell ⟨w.heap.size, 4, none⟩ v2) cp := by
            refine Cp.start ?_ r2.1
            rw [hw6]
            obtain ⟨q1, q2 | ⟨g', cap, cur, h1, hB, h2, h3⟩⟩ := row2
            · exact ⟨q1, .inl q2⟩
            · exact ⟨q1, .inr ⟨g', cap, cur, h1, hB, (setRow_other w5 _ g' _ (by omega)).trans h2, h3⟩⟩
          have hsA : wr.heap.size ≤ (w5.setCell ⟨w.heap.size, 4, none⟩ v2).heap.size := by
            have := bw5.size
            simpa using this
          have cg6 : (w5.setCell ⟨w.heap.size, 4, none⟩ v2).cell? ⟨w.heap.size, 4, none⟩ = some v2 := by simp only [World.cell?, hb6.b2]; rfl
          replace hb6 := hide1 hb6
          replace hcp2 := hide1 hcp2
          replace hkA := hide1 hkA
          replace hsA := hide1 hsA
          clear hb5 row2 bw5 hcl2 r2w hw6
          subst hva2
          go_wp2_with fail
          generalize w5.setCell ⟨w.heap.size, 4, none⟩ (.slice va2 cp.length vc2) = w6 at *
          obtain ⟨wA, rfl⟩ : ∃ x, x = wr := ⟨_, rfl⟩
          go_loopw [48] (fun x wr => ∃ (i : Nat) (ds : List (List Value)), x = .int .i64 (i : Nat) ∧ i ≤ cp.length ∧ Hid (Cb w #[.int .i64 k, .int .i64 ki, .string (st s), .slice va cl.length vc, .slice va2 cp.length vc2] wr) ∧ Hid (Cp PA 49 6 wA.heap.size p' cp (.slice va2 cp.length vc2) i wr ds) ∧ Hid (∀ k, w.heap.size + 2 ≤ k → k < wA.heap.size → wr.heap[k]? = wA.heap[k]?) ∧ Hid (wA.heap.size ≤ wr.heap.size)) (fun x _ => cp.length - (intOf x).toNat)
          case atStart => exact ⟨0, cp, rfl, by omega, hb6, hcp2, hkA, hsA⟩
          case round =>
            clear hb6 hcp2 hkA hsA
            obtain ⟨i, ds2, rfl, hin, hb2, hc2, hkA, hsA⟩ := hrel
            by_cases hlt : i < cp.length
            · have hdl : ds2.length = cp.length := hc2.out.ln
              obtain ⟨x, hx⟩ : ∃ x, cp[i]? = some x := ⟨_, List.getElem?_eq_getElem hlt⟩
              obtain ⟨u, hu⟩ : ∃ u, p[i]? = some u := ⟨_, List.getElem?_eq_getElem (by have := e2.out; omega)⟩
              have hxn := hp1 i u x hu hx
              have hxu := hp2 i u x hu hx
              have hhu := hl2 u (List.mem_of_getElem? hu)
              have hdx : ds2[i]? = some x := by rw [hc2.out.old i (Nat.le_refl _)]; exact hx
              have hrw := own_rows hc2.out.row hc2.out.lz (F := fun _ => True) (fun _ _ => trivial)
              obtain ⟨gb, o, cap, hve, -, hgl, hr⟩ := hrw.at hdx
              have ho : o = 0 := by
                obtain ⟨_, ⟨h1, _⟩ | ⟨g', cap', cur, h1, _⟩⟩ := hc2.out.row
                · rw [h1] at hve; cases hve
                · rw [h1] at hve; cases hve; rfl
              subst ho
              have hva : va2 = some ⟨gb, 0, none⟩ := by
                rw [hdl] at hve
                cases hve; rfl
              subst hva
              have hon := hon2 x (List.mem_of_getElem? hx)
              obtain ⟨x0, x1, x2, x3, x4, x5, rfl⟩ := arr6 (r2.1 x (List.mem_of_getElem? hx))
              have hx0 : x0 = .string (st u.1) := by simpa using hxn
              subst hx0
              rw [Nat.zero_add] at hr
              have hr8 : (wr.alloc (.cells #[.string ⟨#[]⟩, .int .i64 0, .int .i64 0, .string ⟨#[]⟩, .slice none 0 0, .slice none 0 0] 49)).heap[wr.heap.size]? = some (.cells #[.string ⟨#[]⟩, .int .i64 0, .int .i64 0, .string ⟨#[]⟩, .slice none 0 0, .slice none 0 0] 49 (0, 0)) := by
                show (wr.heap.push _)[wr.heap.size]? = _
                rw [Array.getElem?_push, if_pos rfl]
              have h8 := setRow_heap (wr.alloc (.cells #[.string ⟨#[]⟩, .int .i64 0, .int .i64 0, .string ⟨#[]⟩, .slice none 0 0, .slice none 0 0] 49)) wr.heap.size _ #[.string (st u.1), x1, x2, x3, x4, x5] _ _ hr8
              have hal : ∀ k, k < wr.heap.size → ((wr.alloc (.cells #[.string ⟨#[]⟩, .int .i64 0, .int .i64 0, .string ⟨#[]⟩, .slice none 0 0, .slice none 0 0] 49)).setRow wr.heap.size #[.string (st u.1), x1, x2, x3, x4, x5]).heap[k]? = wr.heap[k]? := fun k hk => (setRow_other _ _ k _ (by omega)).trans (by
                show (wr.heap.push _)[k]? = _
                rw [Array.getElem?_push, if_neg (by omega)])
              have hbw : Below wr.heap.size wr ((wr.alloc (.cells #[.string ⟨#[]⟩, .int .i64 0, .int .i64 0, .string ⟨#[]⟩, .slice none 0 0, .slice none 0 0] 49)).setRow wr.heap.size #[.string (st u.1), x1, x2, x3, x4, x5]) := ⟨rfl, rfl, rfl, by simp [World.setRow], hal⟩
              have hb6 := hb2.out.keep hbw
              have hc6 := hc2.out.keep PA.fr (fun k _ hs => hal k hs)
              have hkA6 : ∀ k, w.heap.size + 2 ≤ k → k < wA.heap.size → ((wr.alloc (.cells #[.string ⟨#[]⟩, .int .i64 0, .int .i64 0, .string ⟨#[]⟩, .slice none 0 0, .slice none 0 0] 49)).setRow wr.heap.size #[.string (st u.1), x1, x2, x3, x4, x5]).heap[k]? = wA.heap[k]? := fun k hk hs => (hal k (Nat.lt_of_lt_of_le hs hsA.out)).trans (hkA.out k hk hs)
              have hsA6 : wA.heap.size ≤ ((wr.alloc (.cells #[.string ⟨#[]⟩, .int .i64 0, .int .i64 0, .string ⟨#[]⟩, .slice none 0 0, .slice none 0 0] 49)).setRow wr.heap.size #[.string (st u.1), x1, x2, x3, x4, x5]).heap.size := Nat.le_trans hsA.out hbw.size
              have hxw : VA F ((wr.alloc (.cells #[.string ⟨#[]⟩, .int .i64 0, .int .i64 0, .string ⟨#[]⟩, .slice none 0 0, .slice none 0 0] 49)).setRow wr.heap.size #[.string (st u.1), x1, x2, x3, x4, x5]) u.2 [x1, x2, x3, x4, x5] := VA.frame (c := [x1, x2, x3, x4, x5]) hxu (fun k _ hs => hb6.bw.block k hs) (fun _ h _ => h)
              replace h8 := hide1 h8
              replace hb6 := hide1 hb6
              replace hc6 := hide1 hc6
              replace hxw := hide1 hxw
              replace hon := hide1 hon
              replace hkA6 := hide1 hkA6
              replace hsA6 := hide1 hsA6
              clear hal hbw hb2 hc2 hkA hsA hxu hxn hrw hve hx
              replace hu := hide1 hu
              replace hdx := hide1 hdx
              go_upto_region 14 with (first | refine wpList_load_mid rfl 49 (.tmp 51) rfl gb (i * 6) rfl [.string (st u.1), x1, x2, x3, x4, x5] _ hr Tryz.underlying49 rfl (by kernel_rfl) ?_ | refine wpList_store_row rfl 49 (.tmp 8) (.tmp 52) rfl wr.heap.size #[.string (st u.1), x1, x2, x3, x4, x5] rfl rfl 49 _ hr8 (by kernel_rfl) rfl (by simpa using hon.out) ?_)
              generalize (wr.alloc (.cells #[.string ⟨#[]⟩, .int .i64 0, .int .i64 0, .string ⟨#[]⟩, .slice none 0 0, .slice none 0 0] 49)).setRow wr.heap.size #[.string (st u.1), x1, x2, x3, x4, x5] = w3 at *
              generalize hq8 : wr.heap.size = q8 at *
              have ihc : ∀ w, Below w3.heap.size w3 w → Calls Tryz.prog 41 #[.agg #[x1, x2, x3, x4, x5], .int .i64 (d - 1 : Nat)] w (AnC w (so (d - 1) u.2)) := fun w hb => ih hhu (hxw.out.frame (F := F) (G := F) (fun k _ hs => hb.block k hs) (fun _ h _ => h))
              refine wp_flow 10 _ _ (by kernel_rfl) (by kernel_rfl) (by kernel_rfl) (by kernel_rfl) rfl (R13 w.heap.size q8 gb cp.length vc2 i d #[x1, x2, x3, x4, x5] w3 (so (d - 1) u.2)) R13_mono ?_ ?_
              · intro j o ho hj a wa hbw hsl hdep K hK
                match j, ho with
                | 0, ho =>
                  obtain rfl := Option.some.inj ho
                  have t2 : a.tmps.getD 2 undef = .pointer (some ⟨w.heap.size, 0, none⟩) := hsl 2 rfl
                  exact wp_val (w' := wa) (by simp only [execOp, Act.eval]; rw [show a.tmps.getD 2 undef = _ from t2]; kernel_rfl) (hK _ _ (Below.refl _ _) rfl)
                | 1, ho =>
                  obtain rfl := Option.some.inj ho
                  have t := hdep 0 _ 53 rfl rfl ⟨⟨0, .data⟩, by simp, rfl, rfl⟩
                  have hc3 : wa.cell? ⟨w.heap.size, 4, none⟩ = some (.slice (some ⟨gb, 0, none⟩) cp.length vc2) := by
                    rw [World.cell?_of_block (w := w3) (hbw.block _ (by have := hb6.out.sz; show w.heap.size < _; omega))]
                    simp only [World.cell?, hb6.out.b2]; rfl
                  exact wp_val (w' := wa) (by simp only [execOp, Act.eval]; rw [show a.tmps.getD 53 undef = _ from t]; simp only [Sem.run_bind, ld_sP hc3, Result.andThen_ok, Sem.run_pure]) (hK _ _ (Below.refl _ _) rfl)
                | 2, ho =>
                  obtain rfl := Option.some.inj ho
                  have t := hsl 7 rfl
                  exact wp_val (w' := wa) (by simp only [execOp, Act.eval]; rw [show a.tmps.getD 7 undef = _ from t]; rfl) (hK _ _ (Below.refl _ _) rfl)
                | 3, ho =>
                  obtain rfl := Option.some.inj ho
                  have t2 : a.tmps.getD 8 undef = .pointer (some ⟨q8, 0, none⟩) := hsl 8 rfl
                  exact wp_val (w' := wa) (by simp only [execOp, Act.eval]; rw [show a.tmps.getD 8 undef = _ from t2]; kernel_rfl) (hK _ _ (Below.refl _ _) rfl)
                | 4, ho =>
                  obtain rfl := Option.some.inj ho
                  have t := hdep 3 _ 56 rfl rfl ⟨⟨3, .data⟩, by simp, rfl, rfl⟩
                  have hl8 := (hbw.block q8 (Array.getElem?_eq_some_iff.1 h8.out).1).trans h8.out
                  exact wp_val (w' := wa) (by simp only [execOp, Act.eval]; rw [show a.tmps.getD 56 undef = _ from t]; simp only [Sem.run_bind, ld_v1 hl8, Result.andThen_ok, Sem.run_pure]) (hK _ _ (Below.refl _ _) rfl)
                | 5, ho =>
                  obtain rfl := Option.some.inj ho
                  have t := hsl 1 rfl
                  exact wp_val (w' := wa) (by simp only [execOp, Act.eval]; rw [show a.tmps.getD 1 undef = _ from t]; rfl) (hK _ _ (Below.refl _ _) rfl)
                | 6, ho =>
                  obtain rfl := Option.some.inj ho
                  have t := hdep 5 _ 58 rfl rfl ⟨⟨5, .data⟩, by simp, rfl, rfl⟩
                  exact wp_val (w' := wa) (by simp only [execOp, Act.eval]; rw [show a.tmps.getD 58 undef = _ from t]; simp only [Sem.run_bind, eqg_sub, sub_1 hd1 hd6, Result.andThen_ok, Sem.run_pure]) (hK _ _ (Below.refl _ _) rfl)
                | 7, ho =>
                  obtain rfl := Option.some.inj ho
                  have t3 := hdep 4 _ 57 rfl rfl ⟨⟨4, .data⟩, by simp, rfl, rfl⟩
                  have t5 := hdep 6 _ 59 rfl rfl ⟨⟨6, .data⟩, by simp, rfl, rfl⟩
                  refine oper_any (J := fun r w' => ∃ c : Array Value, r = .agg c ∧ c.size = 5 ∧ Below wa.heap.size wa w' ∧ VA (wa.heap.size ≤ ·) w' (so (d - 1) u.2) c.toList) 41 #[.tmp 57, .tmp 59] _ rfl #[.agg #[x1, x2, x3, x4, x5], .int .i64 (d - 1 : Nat)] (by simp only [List.map_toArray, List.map_cons, List.map_nil, Act.eval]; rw [show a.tmps.getD 57 undef = _ from t3, show a.tmps.getD 59 undef = _ from t5]) (fun w => by kernel_rfl) ((ihc wa hbw).mono fun e w' h => by obtain ⟨c, rfl, h1, h2, h3⟩ := h; exact ⟨_, rfl, c, rfl, h1, h2, h3⟩) ?_
                  rintro r w' ⟨c, rfl, h1, h2, h3⟩
                  exact hK _ _ h2 ⟨c, rfl, h1, h3.frame (fun _ _ _ => rfl) (fun k hk _ => Nat.le_trans hbw.size hk)⟩
                | 8, ho =>
                  obtain rfl := Option.some.inj ho
                  have t1 := hdep 1 _ 54 rfl rfl ⟨⟨1, .data⟩, by simp, rfl, rfl⟩
                  have t2 := hdep 2 _ 55 rfl rfl ⟨⟨2, .data⟩, by simp, rfl, rfl⟩
                  exact wp_val (w' := wa) (by simp only [execOp, Act.eval]; rw [show a.tmps.getD 54 undef = _ from t1, show a.tmps.getD 55 undef = _ from t2]; simp only [Sem.run_bind, ix_sP hlt, Result.andThen_ok, Sem.run_pure]) (hK _ _ (Below.refl _ _) rfl)
                | 9, ho =>
                  obtain rfl := Option.some.inj ho
                  have t1 := hdep 8 _ 61 rfl rfl ⟨⟨8, .data⟩, by simp, rfl, rfl⟩
                  exact wp_val (w' := wa) (by simp only [execOp, Act.eval]; rw [show a.tmps.getD 61 undef = _ from t1]; kernel_rfl) (hK _ _ (Below.refl _ _) rfl)
                | 10, _ => exact absurd rfl hj
                | _ + 11, ho => exact absurd ho (by simp)
              · intro a wa hbw hdf hsz hsl hr K hK
                obtain ⟨c', t6, hc5, hcv⟩ := hr 7 _ 60 rfl (by decide) rfl
                have t7 := hr 9 _ 62 rfl (by decide) rfl
                have hca := hc6.out.keep PA.fr (fun k hk hs => hbw.block k hs)
                have hba := hb6.out.keep hbw
                have hrow := hca.row
                rw [hdl] at hrow
                obtain ⟨cur, hgb, hcur, hBg⟩ := own_cur hrow
                have hfit : i * 6 + 1 + 5 ≤ cp.length * 6 := by omega
                have hst := st_eV hgb hc5 (Nat.le_trans hfit hcur) (by simpa using hcv.one)
                have hp := own_piece hrow hc5 hfit hgb
                rw [← flat_set1 hca.lz hdx.out] at hp
                have hw3 := hb6.out.sz
                have hsa := hbw.size
                have hgq : gb < w3.heap.size := by have := (Array.getElem?_eq_some_iff.1 h8.out).1; omega
                have hsAa := hsA6.out
                have hC : Hid (Cp PA 49 6 wA.heap.size p' cp (.slice (some ⟨gb, 0, none⟩) cp.length vc2) (i + 1) (wa.setRow gb (cur.toList.take (i * 6 + 1) ++ c'.toList ++ cur.toList.drop (i * 6 + 1 + 5)).toArray) (ds2.set i (.string (st u.1) :: c'.toList))) := hide1 (hca.step PA.fr (by simp [hc5]) (by omega) rfl (fun k hk => setRow_other wa gb k _ hk) (by rw [hdl]; exact hp) (fun t' ht' => by
                  rw [hp'.out, List.getElem?_map, hu.out] at ht'
                  cases ht'
                  refine ⟨rfl, VA.frame (c := c'.toList) hcv (fun k hk hs => setRow_other wa gb k _ ?_) (fun k hk hs => ⟨?_, ?_⟩)⟩
                  · have : w3.heap.size ≤ k := hk
                    omega
                  · have : w3.heap.size ≤ k := hk
                    omega
                  · intro e
                    have : k = gb := by simpa [Value.ownBlock] using e
                    have : w3.heap.size ≤ k := hk
                    omega))
                have hCb := hide1 (hba.over (Nat.le_trans hwA hBg) (cur.toList.take (i * 6 + 1) ++ c'.toList ++ cur.toList.drop (i * 6 + 1 + 5)).toArray)
                have hCk : Hid (∀ k, w.heap.size + 2 ≤ k → k < wA.heap.size → (wa.setRow gb (cur.toList.take (i * 6 + 1) ++ c'.toList ++ cur.toList.drop (i * 6 + 1 + 5)).toArray).heap[k]? = wA.heap[k]?) := hide1 fun k hk hs => (setRow_other wa gb k _ (by omega)).trans ((hbw.block k (by omega)).trans (hkA6.out k hk hs))
                have hCs : Hid (wA.heap.size ≤ (wa.setRow gb (cur.toList.take (i * 6 + 1) ++ c'.toList ++ cur.toList.drop (i * 6 + 1 + 5)).toArray).heap.size) := hide1 (by simp [World.setRow]; omega)
                generalize (cur.toList.take (i * 6 + 1) ++ c'.toList ++ cur.toList.drop (i * 6 + 1 + 5)).toArray = nw at *
                refine wp_skp (w' := wa.setRow gb nw) (by simp only [execOp, Act.eval]; rw [show a.tmps.getD 62 undef = _ from t7, show a.tmps.getD 60 undef = _ from t6]; simp only [Sem.run_bind, hst, Result.andThen_ok, Sem.run_pure]) ?_
                refine hK a (wa.setRow gb nw) ?_
                have hact := act_puts hdf hsz hsl
                clear hst hp hcv hca hba hrow hr hsl hdf hsz hbw hK t6 t7 ihc
                simp only [List.filterMap_cons, List.filterMap_nil, List.foldl_cons, List.foldl_nil] at hact
                rw [hact]
                generalize a.tmps.getD 53 undef = y53
                generalize a.tmps.getD 54 undef = y54
                generalize a.tmps.getD 55 undef = y55
                generalize a.tmps.getD 56 undef = y56
                generalize a.tmps.getD 57 undef = y57
                generalize a.tmps.getD 58 undef = y58
                generalize a.tmps.getD 59 undef = y59
                generalize a.tmps.getD 60 undef = y60
                generalize a.tmps.getD 61 undef = y61
                generalize a.tmps.getD 62 undef = y62
                clear hact a
                refine (‹∀ (a : Act) (w : World), Code.wp Tryz.prog _ _ a w → _›) _ (wa.setRow gb nw) ?_
                generalize wa.setRow gb nw = w4 at *
                go_wp2
                go_roundw
                case rel => exact ⟨i + 1, _, rfl, by omega, hCb, hC, hCk, hCs⟩
                case measure => simp [intOf]; omega
            · have hie : i = cp.length := by omega
              subst hie
              have hpl' : Hid (cp.length = p'.length) := hide1 (by rw [hp'.out, List.length_map]; exact e2.out)
              have hll' : Hid (cl.length = l'.length) := hide1 (by rw [hl'.out, List.length_map]; exact e1.out)
              -- the sort: the row, the world behind it
              have hsrt : ∃ cs, Hid (cs.length = cp.length) ∧ Hid (∃ B2 : Nat → Prop, (∀ k, B2 k → wA.heap.size ≤ k) ∧ Calls Tryz.prog 72 #[.slice va2 cp.length vc2, .func (.func 73) #[] #[]] wr fun e w7 => e = .returned (.tuple #[]) ∧ w7.os = wr.os ∧ w7.tape = wr.tape ∧ w7.output = wr.output ∧ wr.heap.size ≤ w7.heap.size ∧ (∀ k, k < wr.heap.size → k < wA.heap.size → w7.heap[k]? = wr.heap[k]?) ∧
                  RwA (wA.heap.size ≤ ·) w7 49 6 (.slice va2 cp.length vc2) cs ∧ ∀ (j : Nat) (q : Tp) (c : List Value), (ss ltT p')[j]? = some q → cs[j]? = some c → c.head? = some (Value.string (st q.1)) ∧ VA (wA.heap.size ≤ ·) w7 q.2 c.tail) := by
                by_cases hz : cp.length = 0
                · refine ⟨[], hide1 (by simp [hz]), hide1 ⟨fun k => wA.heap.size ≤ k, fun _ h => h, ?_⟩⟩
                  rw [hz]
                  refine sort0_d.mono ?_
                  rintro e w7 ⟨rfl, rfl⟩
                  exact ⟨rfl, rfl, rfl, rfl, Nat.le_refl _, fun _ _ _ => rfl, ⟨by simp, .inl ⟨_, _, rfl, rfl⟩⟩, fun j q c _ h => by simp at h⟩
                · obtain ⟨gb, rfl⟩ : ∃ gb, va2 = some ⟨gb, 0, none⟩ := by
                    have hrow := hc2.out.row
                    rw [hc2.out.ln] at hrow
                    obtain ⟨_, ⟨h1, h2⟩ | ⟨g', cap, cur, h1, _⟩⟩ := hrow
                    · omega
                    · cases h1; exact ⟨_, rfl⟩
                  have hRw := fp_rw hc2.out hpl'.out
                  have hs := sort_d hRw (by omega)
                  obtain ⟨hBg, hgl⟩ := hRw.lt
                  -- the sorted cells are told ahead by the row's own function: the order is the paper's
                  refine ⟨(ss ltE (sg (Fp p' ds2) 0 cp.length)).map Go.Proofs.YtbemaloaobeblaaGreatDoor.cl, hide1 (by rw [List.length_map, ss_len, sg_len]), hide1 ⟨fun k => wA.heap.size ≤ k, fun _ h => h, ?_⟩⟩
                  refine hs.mono ?_
                  rintro e w7 ⟨rfl, G, hG1, hG2, hG3⟩
                  have hf := fp_fin hc2.out hpl'.out hG2
                  rw [hG2] at hf
                  have hrow := hG1.row
                  rw [hG2] at hrow
                  refine ⟨rfl, hG3.os, hG3.tape, hG3.output, hG3.size, fun k h1 h2 => hG3.block k h1 (by omega), ?_, fun j q c h1 h2 => ?_⟩
                  · have hln : ((ss ltE (sg (Fp p' ds2) 0 cp.length)).map Go.Proofs.YtbemaloaobeblaaGreatDoor.cl).length = cp.length := by rw [List.length_map, ss_len, sg_len]
                    have := own_rows (cs := (ss ltE (sg (Fp p' ds2) 0 cp.length)).map Go.Proofs.YtbemaloaobeblaaGreatDoor.cl) (by rw [hln]; exact hrow) (fun c hc => hG1.lens c (by rw [hG2]; exact hc)) (F := (wA.heap.size ≤ ·)) (fun k hk => hk)
                    exact this
                  · rw [List.getElem?_map] at h2
                    cases he : (ss ltE (sg (Fp p' ds2) 0 cp.length))[j]? with
                    | none => rw [he] at h2; cases h2
                    | some e =>
                      rw [he] at h2
                      cases h2
                      obtain ⟨g1, g2⟩ := hf.at he h1
                      exact ⟨by show some (Value.string (st e.1)) = _; rw [g1], g2.frame (fun k hk hs => hG3.block k hs hk.2) (fun k hk _ => hk.1)⟩
              obtain ⟨cs, hcsl, hsrt⟩ := hsrt
              obtain ⟨-, -, hsc⟩ := hsrt.out
              have lz : wr.cell? ⟨w.heap.size, 4, none⟩ = some (.slice va2 cp.length vc2) := by simp only [World.cell?, hb2.out.b2]; rfl
              clear hsrt
              go_wp2_with fail
              refine hsc.mono ?_
              rintro er w7 ⟨rfl, o1, o2, o3, o4, o5, o6, o7⟩
              have hsz7 := hb2.out.sz
              have hb7 : Cb w #[.int .i64 k, .int .i64 ki, .string (st s), .slice va cl.length vc, .slice va2 cp.length vc2] w7 := ⟨⟨o1.trans hb2.out.bw.os, o2.trans hb2.out.bw.tape, o3.trans hb2.out.bw.output, Nat.le_trans hb2.out.bw.size o4, fun k hk => (o5 k (Nat.lt_of_lt_of_le hk hb2.out.bw.size) (by omega)).trans (hb2.out.bw.block k hk)⟩, (o5 _ (by omega) (by omega)).trans hb2.out.b2, (o5 _ (by omega) (by omega)).trans hb2.out.b4, by omega⟩
              have hr4 := hb7.b4
              have l0 : w7.cell? ⟨w.heap.size, 0, none⟩ = some (.int .i64 k) := by simp only [World.cell?, hb7.b2]; rfl
              have l1 : w7.cell? ⟨w.heap.size, 1, none⟩ = some (.int .i64 ki) := by simp only [World.cell?, hb7.b2]; rfl
              have l2 : w7.cell? ⟨w.heap.size, 2, none⟩ = some (.string (st s)) := by simp only [World.cell?, hb7.b2]; rfl
              have l3 : w7.cell? ⟨w.heap.size, 3, none⟩ = some (.slice va cl.length vc) := by simp only [World.cell?, hb7.b2]; rfl
              have l4 : w7.cell? ⟨w.heap.size, 4, none⟩ = some (.slice va2 cp.length vc2) := by simp only [World.cell?, hb7.b2]; rfl
              have hz := setRow_heap w7 (w.heap.size + 1) _ #[.int .i64 k, .int .i64 ki, .string (st s), .slice va cl.length vc, .slice va2 cp.length vc2] _ _ hr4
              have hso : so d (.mk k ki s l p) = .mk k ki s l' (ss ltT p') := by
                obtain ⟨d', rfl⟩ : ∃ d', d = d' + 1 := ⟨d - 1, by omega⟩
                rw [hl'.out, hp'.out]; rfl
              have ha : AnC w (so d (.mk k ki s l p)) (.returned (.agg #[.int .i64 k, .int .i64 ki, .string (st s), .slice va cl.length vc, .slice va2 cp.length vc2])) (w7.setRow (w.heap.size + 1) #[.int .i64 k, .int .i64 ki, .string (st s), .slice va cl.length vc, .slice va2 cp.length vc2]) := by
                rw [hso]
                refine ⟨_, rfl, rfl, blw_own hb7.bw (by omega) _, ?_⟩
                have hfr : ∀ k', w.heap.size + 2 ≤ k' → (w7.setRow (w.heap.size + 1) #[.int .i64 k, .int .i64 ki, .string (st s), .slice va cl.length vc, .slice va2 cp.length vc2]).heap[k']? = w7.heap[k']? := fun k' hk' => setRow_other w7 _ k' _ (by omega)
                have hsA' := hsA.out
                have r1' := (own_rows hc.out.row hc.out.lz (F := fun k => w.heap.size + 2 ≤ k) (fun k hk => hk)).frame (w' := w7.setRow (w.heap.size + 1) #[.int .i64 k, .int .i64 ki, .string (st s), .slice va cl.length vc, .slice va2 cp.length vc2]) (G := (w.heap.size ≤ ·)) (fun k' hk hs => (hfr k' hk).trans ((o5 k' (by omega) hs).trans (hkA.out k' hk hs))) (fun k' hk _ => by show w.heap.size ≤ k'; have : w.heap.size + 2 ≤ k' := hk; omega)
                have r2' := o6.frame (w' := w7.setRow (w.heap.size + 1) #[.int .i64 k, .int .i64 ki, .string (st s), .slice va cl.length vc, .slice va2 cp.length vc2]) (G := (w.heap.size ≤ ·)) (fun k' hk hs => hfr k' (Nat.le_trans hwA hk)) (fun k' hk _ => by show w.heap.size ≤ k'; have : wA.heap.size ≤ k' := hk; omega)
                have hll := hc.out.ln
                have hcl2 := hcsl.out
                refine VA.mk (s := s) r1' r2' (by have := hll'.out; omega) (by rw [hcl2, ss_len]; exact hpl'.out) (fun j t c h1 h2 => ?_) (fun j q c h1 h2 => (o7 j q c h1 h2).1) (fun j q c h1 h2 => ?_)
                · have hj := (List.getElem?_eq_some_iff.1 h2).1
                  exact (hc.out.new j t c (by have := hll'.out; omega) h1 h2).frame (fun k' hk hs => (hfr k' hk.1).trans ((o5 k' (by omega) hs).trans (hkA.out k' hk.1 hs))) (fun k' hk _ => by show w.heap.size ≤ k'; have := hk.1; omega)
                · exact (o7 j q c h1 h2).2.frame (fun k' hk hs => hfr k' (Nat.le_trans hwA hk)) (fun k' hk _ => by show w.heap.size ≤ k'; have : wA.heap.size ≤ k' := hk; omega)
              replace ha := hide1 ha
              replace hz := hide1 hz
              clear hb2 hc2 hkA hsA hb hc hsc o1 o2 o3 o4 o5 o6 o7 hb7 lz hso
              go_wp2_with (refine wpList_store_row rfl Vt (.tmp 4) (.tmp 67) rfl (w.heap.size + 1) #[.int .i64 k, .int .i64 ki, .string (st s), .slice va cl.length vc, .slice va2 cp.length vc2] rfl rfl Vt _ hr4 (by kernel_rfl) rfl (by kernel_rfl) ?_)
              refine bodyPost_ret (results_v1 rfl _ rfl rfl hz.out) rfl ?_
              exact ha.out
theorem clip_V {a : Option Addr} {cap : Nat} {w : World} : Calls Tryz.prog 68 #[.slice a 0 cap] w fun e w' => e = .returned (.slice a 0 0) ∧ w' = w := by
  go_enter Tryz.func68, Tryz.ntmps68
  cases a <;> go_wp2 <;> go_ret <;> exact ⟨rfl, rfl⟩
theorem clip_P {a : Option Addr} {cap : Nat} {w : World} : Calls Tryz.prog 69 #[.slice a 0 cap] w fun e w' => e = .returned (.slice a 0 0) ∧ w' = w := by
  go_enter Tryz.func69, Tryz.ntmps69
  cases a <;> go_wp2 <;> go_ret <;> exact ⟨rfl, rfl⟩
def Ms (W : World) (q : Nat) (k ki : Int) (s : ByteArray) (a b : Option Addr) (ca cb : Nat) (D1 D2 : Bool) (w : World) : Prop :=
  w.heap[q]? = some (.cells #[.int .i64 k, .int .i64 ki, .string s, .slice a 0 (if D1 then 0 else ca), .slice b 0 (if D2 then 0 else cb)] 28 (0, 0)) ∧ Ob W w q
section
variable {W w : World} {q : Nat} {k ki : Int} {s : ByteArray} {a b : Option Addr} {ca cb : Nat} {D : Nat → Bool} {D1 D2 : Bool}
theorem ms_ne {i s1 s2 : Nat} (h1 : s1 ≠ i) (h2 : s2 ≠ i) (h : Ms W q k ki s a b ca cb (D s1) (D s2) w) : Ms W q k ki s a b ca cb (add1 D i s1) (add1 D i s2) w := by
  rw [add1_ne h1, add1_ne h2]; exact h
theorem ms_c3 (h : Ms W q k ki s a b ca cb D1 D2 w) (h1 : D1 = false) : w.cell? ⟨q, 3, none⟩ = some (.slice a 0 ca) := by
  subst h1; simp only [World.cell?, h.1]; rfl
theorem ms_c4 (h : Ms W q k ki s a b ca cb D1 D2 w) (h1 : D2 = false) : w.cell? ⟨q, 4, none⟩ = some (.slice b 0 cb) := by
  subst h1; simp only [World.cell?, h.1]; rfl
theorem ms_7 (h : Ms W q k ki s a b ca cb (D 7) (D 9) w) (h1 : D 7 = false) :
    (Instr.storeAt 25 (.pointer (some ⟨q, 3, none⟩)) (.slice a 0 0)).run Tryz.prog w = .ok () (w.setCell ⟨q, 3, none⟩ (.slice a 0 0)) ∧ Ms W q k ki s a b ca cb (add1 D 7 7) (add1 D 7 9) (w.setCell ⟨q, 3, none⟩ (.slice a 0 0)) := by
  have hc : (w.cell? ⟨q, 3, none⟩).isSome = true := by rw [ms_c3 h h1]; rfl
  have hf : w.frozen? ⟨q, 3, none⟩ = false := by simp [World.frozen?, h.1]
  refine ⟨by simp [Instr.storeAt, Instr.sureAddr, go_sem, ms_c3 h h1, hf], ?_⟩
  rw [add1_eq, add1_ne (by decide)]
  have e := setCell_eq_setRow w q 3 _ _ (0, 0) (.slice a 0 0) h.1
  rw [e]
  exact ⟨(setRow_heap w q _ _ _ _ h.1).trans rfl, h.2.rowset⟩
theorem ms_9 (h : Ms W q k ki s a b ca cb (D 7) (D 9) w) (h1 : D 9 = false) :
    (Instr.storeAt 26 (.pointer (some ⟨q, 4, none⟩)) (.slice b 0 0)).run Tryz.prog w = .ok () (w.setCell ⟨q, 4, none⟩ (.slice b 0 0)) ∧ Ms W q k ki s a b ca cb (add1 D 9 7) (add1 D 9 9) (w.setCell ⟨q, 4, none⟩ (.slice b 0 0)) := by
  have hf : w.frozen? ⟨q, 4, none⟩ = false := by simp [World.frozen?, h.1]
  refine ⟨by simp [Instr.storeAt, Instr.sureAddr, go_sem, ms_c4 h h1, hf], ?_⟩
  rw [add1_eq, add1_ne (by decide)]
  have e := setCell_eq_setRow w q 4 _ _ (0, 0) (.slice b 0 0) h.1
  rw [e]
  exact ⟨(setRow_heap w q _ _ _ _ h.1).trans rfl, h.2.rowset⟩
theorem ms_11 (h1 : D1 = true) (h2 : D2 = true) (h : Ms W q k ki s a b ca cb D1 D2 w) : w.heap[q]? = some (.cells #[.int .i64 k, .int .i64 ki, .string s, .slice a 0 0, .slice b 0 0] 28 (0, 0)) ∧ Ob W w q := by
  subst h1; subst h2; exact h
end
def S0v (q : Nat) (a b : Option Addr) (ca cb : Nat) : Nat → Value → Prop
  | 0, v => v = .pointer (some ⟨q, 3, none⟩)
  | 1, v => v = .slice a 0 ca
  | 2, v => v = .slice a 0 0
  | 3, v => v = .pointer (some ⟨q, 4, none⟩)
  | 4, v => v = .slice b 0 cb
  | 5, v => v = .slice b 0 0
  | 6, v => v = .pointer (some ⟨q, 3, none⟩)
  | 8, v => v = .pointer (some ⟨q, 4, none⟩)
  | _, _ => True
def S0d : Nat → Nat
  | 0 => 11
  | 1 => 12
  | 2 => 13
  | 3 => 14
  | 4 => 15
  | 5 => 16
  | 6 => 17
  | 7 => 1007
  | 8 => 18
  | 9 => 1009
  | i => 2000 + i

set_option maxHeartbeats 4000000 in
set_option maxRecDepth 100000 in
theorem sorted_0 {w : World} {k ki : Int} {s : List UInt8} {a b : Option Addr} {ca cb : Nat} : Calls Tryz.prog 41 #[.agg #[.int .i64 k, .int .i64 ki, .string (st s), .slice a 0 ca, .slice b 0 cb], .int .i64 0] w (AnC w (.mk k ki s [] [])) := by
  obtain ⟨W, hW⟩ : ∃ W, W = (w.alloc (.cells #[.int .i64 k, .int .i64 ki, .string (st s), .slice a 0 ca, .slice b 0 cb] 28)).alloc (.cells #[.int .i64 0, .int .i64 0, .string ⟨#[]⟩, .slice none 0 0, .slice none 0 0] 28) := ⟨_, rfl⟩
  obtain ⟨q, hq⟩ : ∃ q, q = w.heap.size := ⟨_, rfl⟩
  have hb : Hid (Below w.heap.size w W) := hide1 (by rw [hW]; exact blw_al ((Below.refl _ _).alloc (Nat.le_refl _) _) (by simp) _)
  have hr2 : W.heap[q]? = some (.cells #[.int .i64 k, .int .i64 ki, .string (st s), .slice a 0 ca, .slice b 0 cb] 28 (0, 0)) := by
    rw [hW, hq]
    show ((w.heap.push _).push _)[w.heap.size]? = _
    rw [Array.getElem?_push, if_neg (by simp), Array.getElem?_push, if_pos rfl]
  have hr4 : W.heap[q + 1]? = some (.cells #[.int .i64 0, .int .i64 0, .string ⟨#[]⟩, .slice none 0 0, .slice none 0 0] 28 (0, 0)) := by
    rw [hW, hq]
    show ((w.heap.push _).push _)[w.heap.size + 1]? = _
    rw [Array.getElem?_push, if_pos (by simp)]
  have hM0 : Ms W q k ki (st s) a b ca cb false false W.drew := ⟨hr2, ⟨rfl, rfl, rfl, rfl, fun _ _ => rfl⟩⟩
  replace hr2 := hide1 hr2
  replace hr4 := hide1 hr4
  replace hM0 := hide1 hM0
  go_enter Tryz.func41, Tryz.ntmps41
  go_upto_region 2 with fail
  rw [← hW, ← hq]
  replace hM0 := hM0.out
  clear hW
  refine wp_rel5 _ _ (fun _ j v _ => S0v q a b ca cb j v) (fun D w => Ms W q k ki (st s) a b ca cb (D 7) (D 9) w) S0d (by kernel_rfl) (by kernel_rfl) 10 (by kernel_rfl) ?_ ?_ rfl hM0 ?_ ?_
  · intro ix o ho
    match ix, ho with
    | 0, ho => obtain rfl := Option.some.inj ho; exact .inl ⟨rfl, by show 11 < 68; decide⟩
    | 1, ho => obtain rfl := Option.some.inj ho; exact .inl ⟨rfl, by show 12 < 68; decide⟩
    | 2, ho => obtain rfl := Option.some.inj ho; exact .inl ⟨rfl, by show 13 < 68; decide⟩
    | 3, ho => obtain rfl := Option.some.inj ho; exact .inl ⟨rfl, by show 14 < 68; decide⟩
    | 4, ho => obtain rfl := Option.some.inj ho; exact .inl ⟨rfl, by show 15 < 68; decide⟩
    | 5, ho => obtain rfl := Option.some.inj ho; exact .inl ⟨rfl, by show 16 < 68; decide⟩
    | 6, ho => obtain rfl := Option.some.inj ho; exact .inl ⟨rfl, by show 17 < 68; decide⟩
    | 7, ho => obtain rfl := Option.some.inj ho; exact .inr ⟨⟨rfl, fun _ _ _ _ => trivial⟩, by show 68 ≤ 1007; decide⟩
    | 8, ho => obtain rfl := Option.some.inj ho; exact .inl ⟨rfl, by show 18 < 68; decide⟩
    | 9, ho => obtain rfl := Option.some.inj ho; exact .inr ⟨⟨rfl, fun _ _ _ _ => trivial⟩, by show 68 ≤ 1009; decide⟩
    | _ + 10, ho => exact absurd ho (by simp)
  · intro ix jx hi hj e; unfold S0d at e; split at e <;> split at e <;> omega
  · intro ix o ho
    match ix, ho with
    | 0, ho =>
      obtain rfl := Option.some.inj ho
      intro D a1 w hM hsl hdep hDi hcl K hK
      have hp2 : a1.tmps.getD 2 undef = .pointer (some ⟨q, 0, none⟩) := hsl 2 (by intro j hj; unfold S0d; split <;> omega)
      refine ⟨rfl, ?_⟩
      refine wp_val (w' := w) (v := .pointer (some ⟨q, 3, none⟩)) (by simp only [execOp, Act.eval]; rw [show a1.tmps.getD 2 undef = _ from hp2]; kernel_rfl) ?_
      exact hK _ _ rfl (ms_ne (by decide) (by decide) hM) (fun _ _ _ _ h => h)
    | 1, ho =>
      obtain rfl := Option.some.inj ho
      intro D a1 w hM hsl hdep hDi hcl K hK
      have e0 := (hdep ⟨0, .data⟩ (by simp) rfl).1
      have hD : D 7 = false := by cases h9 : D 7 with | false => rfl | true => have := hcl 7 _ rfl h9 ⟨1, .phase⟩ (by simp) rfl; rw [this] at hDi; cases hDi
      have hl := ms_c3 hM hD
      refine ⟨rfl, ?_⟩
      refine wp_val (w' := w) (v := .slice a 0 ca) (by simp only [execOp, Act.eval]; rw [show a1.tmps.getD 11 undef = _ from e0]; simp only [Sem.run_bind, ld_sV hl, Result.andThen_ok, Sem.run_pure]) ?_
      exact hK _ _ rfl (ms_ne (by decide) (by decide) hM) (fun _ _ _ _ h => h)
    | 2, ho =>
      obtain rfl := Option.some.inj ho
      intro D a1 w hM hsl hdep hDi hcl K hK
      have e1 := (hdep ⟨1, .data⟩ (by simp) rfl).1
      refine ⟨rfl, ?_⟩
      refine oper_any (J := fun r w' => r = .slice a 0 0 ∧ w' = w) 68 #[.tmp 12] _ rfl #[.slice a 0 ca] (by simp only [List.map_toArray, List.map_cons, List.map_nil, Act.eval]; rw [show a1.tmps.getD 12 undef = _ from e1]) (fun w => by kernel_rfl) (clip_V.mono fun e w' h => ⟨_, h.1, rfl, h.2⟩) ?_
      rintro r w' ⟨rfl, rfl⟩
      exact hK _ _ rfl (ms_ne (by decide) (by decide) hM) (fun _ _ _ _ h => h)
    | 3, ho =>
      obtain rfl := Option.some.inj ho
      intro D a1 w hM hsl hdep hDi hcl K hK
      have hp2 : a1.tmps.getD 2 undef = .pointer (some ⟨q, 0, none⟩) := hsl 2 (by intro j hj; unfold S0d; split <;> omega)
      refine ⟨rfl, ?_⟩
      refine wp_val (w' := w) (v := .pointer (some ⟨q, 4, none⟩)) (by simp only [execOp, Act.eval]; rw [show a1.tmps.getD 2 undef = _ from hp2]; kernel_rfl) ?_
      exact hK _ _ rfl (ms_ne (by decide) (by decide) hM) (fun _ _ _ _ h => h)
    | 4, ho =>
      obtain rfl := Option.some.inj ho
      intro D a1 w hM hsl hdep hDi hcl K hK
      have e3 := (hdep ⟨3, .data⟩ (by simp) rfl).1
      have hD : D 9 = false := by cases h9 : D 9 with | false => rfl | true => have := hcl 9 _ rfl h9 ⟨4, .phase⟩ (by simp) rfl; rw [this] at hDi; cases hDi
      have hl := ms_c4 hM hD
      refine ⟨rfl, ?_⟩
      refine wp_val (w' := w) (v := .slice b 0 cb) (by simp only [execOp, Act.eval]; rw [show a1.tmps.getD 14 undef = _ from e3]; simp only [Sem.run_bind, ld_sP hl, Result.andThen_ok, Sem.run_pure]) ?_
      exact hK _ _ rfl (ms_ne (by decide) (by decide) hM) (fun _ _ _ _ h => h)
    | 5, ho =>
      obtain rfl := Option.some.inj ho
      intro D a1 w hM hsl hdep hDi hcl K hK
      have e4 := (hdep ⟨4, .data⟩ (by simp) rfl).1
      refine ⟨rfl, ?_⟩
      refine oper_any (J := fun r w' => r = .slice b 0 0 ∧ w' = w) 69 #[.tmp 15] _ rfl #[.slice b 0 cb] (by simp only [List.map_toArray, List.map_cons, List.map_nil, Act.eval]; rw [show a1.tmps.getD 15 undef = _ from e4]) (fun w => by kernel_rfl) (clip_P.mono fun e w' h => ⟨_, h.1, rfl, h.2⟩) ?_
      rintro r w' ⟨rfl, rfl⟩
      exact hK _ _ rfl (ms_ne (by decide) (by decide) hM) (fun _ _ _ _ h => h)
    | 6, ho =>
      obtain rfl := Option.some.inj ho
      intro D a1 w hM hsl hdep hDi hcl K hK
      have hp2 : a1.tmps.getD 2 undef = .pointer (some ⟨q, 0, none⟩) := hsl 2 (by intro j hj; unfold S0d; split <;> omega)
      refine ⟨rfl, ?_⟩
      refine wp_val (w' := w) (v := .pointer (some ⟨q, 3, none⟩)) (by simp only [execOp, Act.eval]; rw [show a1.tmps.getD 2 undef = _ from hp2]; kernel_rfl) ?_
      exact hK _ _ rfl (ms_ne (by decide) (by decide) hM) (fun _ _ _ _ h => h)
    | 7, ho =>
      obtain rfl := Option.some.inj ho
      intro D a1 w hM hsl hdep hDi hcl K hK
      have e6 := (hdep ⟨6, .data⟩ (by simp) rfl).1
      have e2 := (hdep ⟨2, .data⟩ (by simp) rfl).1
      obtain ⟨hst, hM2⟩ := ms_7 hM hDi
      refine ⟨rfl, ?_⟩
      refine wp_skp (w' := w.setCell ⟨q, 3, none⟩ (.slice a 0 0)) (by simp only [execOp, Act.eval]; rw [show a1.tmps.getD 17 undef = _ from e6, show a1.tmps.getD 13 undef = _ from e2]; simp only [Sem.run_bind, hst, Result.andThen_ok, Sem.run_pure]) ?_
      exact hK _ _ trivial hM2 (fun _ _ _ _ h => h)
    | 8, ho =>
      obtain rfl := Option.some.inj ho
      intro D a1 w hM hsl hdep hDi hcl K hK
      have hp2 : a1.tmps.getD 2 undef = .pointer (some ⟨q, 0, none⟩) := hsl 2 (by intro j hj; unfold S0d; split <;> omega)
      refine ⟨rfl, ?_⟩
      refine wp_val (w' := w) (v := .pointer (some ⟨q, 4, none⟩)) (by simp only [execOp, Act.eval]; rw [show a1.tmps.getD 2 undef = _ from hp2]; kernel_rfl) ?_
      exact hK _ _ rfl (ms_ne (by decide) (by decide) hM) (fun _ _ _ _ h => h)
    | 9, ho =>
      obtain rfl := Option.some.inj ho
      intro D a1 w hM hsl hdep hDi hcl K hK
      have e8 := (hdep ⟨8, .data⟩ (by simp) rfl).1
      have e5 := (hdep ⟨5, .data⟩ (by simp) rfl).1
      obtain ⟨hst, hM2⟩ := ms_9 hM hDi
      refine ⟨rfl, ?_⟩
      refine wp_skp (w' := w.setCell ⟨q, 4, none⟩ (.slice b 0 0)) (by simp only [execOp, Act.eval]; rw [show a1.tmps.getD 18 undef = _ from e8, show a1.tmps.getD 16 undef = _ from e5]; simp only [Sem.run_bind, hst, Result.andThen_ok, Sem.run_pure]) ?_
      exact hK _ _ trivial hM2 (fun _ _ _ _ h => h)
    | _ + 10, ho => exact absurd ho (by simp)
  · intro D a1 wt hall hd hs hM hsl hr hact
    replace hM := ms_11 (hall 7 (by decide)) (hall 9 (by decide)) hM
    simp only [List.filterMap_cons, List.filterMap_nil, List.foldl_cons, List.foldl_nil] at hact
    rw [hact]
    generalize a1.tmps.getD 11 undef = y11
    generalize a1.tmps.getD 12 undef = y12
    generalize a1.tmps.getD 13 undef = y13
    generalize a1.tmps.getD 14 undef = y14
    generalize a1.tmps.getD 15 undef = y15
    generalize a1.tmps.getD 16 undef = y16
    generalize a1.tmps.getD 17 undef = y17
    generalize a1.tmps.getD 18 undef = y18
    clear hact hsl hr hd hs hall a1
    simp only [Act.put, List.setIfInBounds_toArray, List.set_cons_succ, List.set_cons_zero]
    obtain ⟨hM1, hM2⟩ := hM
    have l0 : wt.cell? ⟨q, 0, none⟩ = some (.int .i64 k) := by simp only [World.cell?, hM1]; rfl
    have l1 : wt.cell? ⟨q, 1, none⟩ = some (.int .i64 ki) := by simp only [World.cell?, hM1]; rfl
    have l2 : wt.cell? ⟨q, 2, none⟩ = some (.string (st s)) := by simp only [World.cell?, hM1]; rfl
    have l3 : wt.cell? ⟨q, 3, none⟩ = some (.slice a 0 0) := by simp only [World.cell?, hM1]; rfl
    have l4 : wt.cell? ⟨q, 4, none⟩ = some (.slice b 0 0) := by simp only [World.cell?, hM1]; rfl
    have hl5 : wt.rangeAt q 0 [.int .i64 k, .int .i64 ki, .string (st s), .slice a 0 0, .slice b 0 0] := fun j z hj => by
      simp only [World.cell?, hM1]
      rw [Nat.zero_add]
      simpa using hj
    have hr5 := (hM2.block (q + 1) (by omega)).trans hr4.out
    have hz := setRow_heap wt (q + 1) _ #[.int .i64 k, .int .i64 ki, .string (st s), .slice a 0 0, .slice b 0 0] _ _ hr5
    have ha : Hid (AnC w (.mk k ki s [] []) (.returned (.agg #[.int .i64 k, .int .i64 ki, .string (st s), .slice a 0 0, .slice b 0 0])) (wt.setRow (q + 1) #[.int .i64 k, .int .i64 ki, .string (st s), .slice a 0 0, .slice b 0 0])) := hide1 ⟨_, rfl, rfl, blw_own ⟨hM2.os.trans hb.out.os, hM2.tape.trans hb.out.tape, hM2.output.trans hb.out.output, by rw [hM2.size]; exact hb.out.size, fun k hk => (hM2.block k (by omega)).trans (hb.out.block k hk)⟩ (by omega) _, .mk ⟨by simp, .inl ⟨a, 0, rfl, rfl⟩⟩ ⟨by simp, .inl ⟨b, 0, rfl, rfl⟩⟩ rfl rfl (by simp) (by simp) (by simp)⟩
    replace hz := hide1 hz
    clear hM1 hM2 hr2 hr4 hb hM0
    go_wp2_with (first | refine wpList_load_mid rfl 28 (.tmp 2) rfl q 0 rfl [.int .i64 k, .int .i64 ki, .string (st s), .slice a 0 0, .slice b 0 0] _ hl5 Tryz.underlying28 rfl (by kernel_rfl) ?_ | refine wpList_store_row rfl Vt (.tmp 4) (.tmp 19) rfl (q + 1) #[.int .i64 k, .int .i64 ki, .string (st s), .slice a 0 0, .slice b 0 0] rfl rfl Vt _ hr5 (by kernel_rfl) rfl (by kernel_rfl) ?_)
    refine bodyPost_ret (results_v1 rfl _ rfl rfl hz.out) rfl ?_
    exact ha.out
theorem sorted_d : ∀ (d : Nat), d ≤ 8 → ∀ {h : Nat} {F : Nat → Prop} {w : World} {t : T} {c : List Value}, hgt h t → gd d t = true → VA F w t c → Calls Tryz.prog 41 #[.agg c.toArray, .int .i64 (d : Nat)] w (AnC w (so d t))
  | 0, _, h, F, w, t, c, _, hg, hv => by
    cases hv with
    | @mk k ki s l p sl sp cl cp r1 r2 e1 e2 hl hp1 hp2 =>
      obtain ⟨g1, g2, _⟩ := gd_list hg
      obtain rfl : l = [] := by rcases g1 with h | ⟨m, h, _⟩; exact h; omega
      obtain rfl : p = [] := by rcases g2 with h | ⟨m, h, _⟩; exact h; omega
      obtain rfl : cl = [] := List.length_eq_zero_iff.1 e1
      obtain rfl : cp = [] := List.length_eq_zero_iff.1 e2
      obtain ⟨a, ca, rfl⟩ := r1.slc
      obtain ⟨b, cb, rfl⟩ := r2.slc
      exact sorted_0
  | d + 1, hd, h, F, w, t, c, hh, hg, hv => by
    refine sorted_s (Q := fun t => (∃ h, hgt h t) ∧ gd d t = true) (d := d + 1) (fun ht hv => ?_) ?_ (by omega) (by omega) hv
    · obtain ⟨⟨h', h1⟩, h2⟩ := ht
      exact sorted_d d (by omega) h1 h2 hv
    · obtain ⟨k, ki, s, l, p⟩ := t
      cases h with
      | zero => exact hh.elim
      | succ h =>
        obtain ⟨b1, b2, h1, h2⟩ := hh
        obtain ⟨g1, g2, _⟩ := gd_list hg
        refine ⟨b1, b2, fun t ht => ⟨⟨h, h1 t ht⟩, ?_⟩, fun q hq => ⟨⟨h, h2 q hq⟩, ?_⟩⟩
        · rcases g1 with e | ⟨m, e, g⟩
          · rw [e] at ht; simp at ht
          · obtain rfl : m = d := by omega
            exact g t ht
        · rcases g2 with e | ⟨m, e, g⟩
          · rw [e] at hq; simp at hq
          · obtain rfl : m = d := by omega
            exact g q hq
end Go.Proofs.YtbemaloaobeblaaGreatDoor

namespace Go.Proofs.YtbemaloaobeblaaGreatDoor
open Go.RowKit Go.Shelf

def AnK (q : Nat) (ov : Value) (z : List UInt8) (w : World) (e : Ending) (w' : World) : Prop := e = .returned (.tuple #[]) ∧ ∃ ov', Wt w' q ov' z ∧ Wk q ov ov' w w'
theorem sign_91 {w : World} {q : Nat} {ov : Value} {z : List UInt8} (h : Wt w q ov z) : Calls Tryz.prog 98 #[.pointer (some ⟨q, 0, none⟩), .int .i32 91] w (AnK q ov (z ++ [91]) w) := by
  have ha := add_d (s := [91]) h
  clear h
  go_enter Tryz.func98, Tryz.ntmps98
  go_wp2_with fail
  refine ha.mono ?_
  rintro e w1 ⟨rfl, ov', h1, h2⟩
  go_wp2
  go_end0
  exact ⟨rfl, ov', h1, h2⟩
theorem sign_93 {w : World} {q : Nat} {ov : Value} {z : List UInt8} (h : Wt w q ov z) : Calls Tryz.prog 98 #[.pointer (some ⟨q, 0, none⟩), .int .i32 93] w (AnK q ov (z ++ [93]) w) := by
  have ha := add_d (s := [93]) h
  clear h
  go_enter Tryz.func98, Tryz.ntmps98
  go_wp2_with fail
  refine ha.mono ?_
  rintro e w1 ⟨rfl, ov', h1, h2⟩
  go_wp2
  go_end0
  exact ⟨rfl, ov', h1, h2⟩
theorem sign_123 {w : World} {q : Nat} {ov : Value} {z : List UInt8} (h : Wt w q ov z) : Calls Tryz.prog 98 #[.pointer (some ⟨q, 0, none⟩), .int .i32 123] w (AnK q ov (z ++ [123]) w) := by
  have ha := add_d (s := [123]) h
  clear h
  go_enter Tryz.func98, Tryz.ntmps98
  go_wp2_with fail
  refine ha.mono ?_
  rintro e w1 ⟨rfl, ov', h1, h2⟩
  go_wp2
  go_end0
  exact ⟨rfl, ov', h1, h2⟩
theorem sign_125 {w : World} {q : Nat} {ov : Value} {z : List UInt8} (h : Wt w q ov z) : Calls Tryz.prog 98 #[.pointer (some ⟨q, 0, none⟩), .int .i32 125] w (AnK q ov (z ++ [125]) w) := by
  have ha := add_d (s := [125]) h
  clear h
  go_enter Tryz.func98, Tryz.ntmps98
  go_wp2_with fail
  refine ha.mono ?_
  rintro e w1 ⟨rfl, ov', h1, h2⟩
  go_wp2
  go_end0
  exact ⟨rfl, ov', h1, h2⟩
theorem sign_44 {w : World} {q : Nat} {ov : Value} {z : List UInt8} (h : Wt w q ov z) : Calls Tryz.prog 98 #[.pointer (some ⟨q, 0, none⟩), .int .i32 44] w (AnK q ov (z ++ [44]) w) := by
  have ha := add_d (s := [44]) h
  clear h
  go_enter Tryz.func98, Tryz.ntmps98
  go_wp2_with fail
  refine ha.mono ?_
  rintro e w1 ⟨rfl, ov', h1, h2⟩
  go_wp2
  go_end0
  exact ⟨rfl, ov', h1, h2⟩
theorem sign_58 {w : World} {q : Nat} {ov : Value} {z : List UInt8} (h : Wt w q ov z) : Calls Tryz.prog 98 #[.pointer (some ⟨q, 0, none⟩), .int .i32 58] w (AnK q ov (z ++ [58]) w) := by
  have ha := add_d (s := [58]) h
  clear h
  go_enter Tryz.func98, Tryz.ntmps98
  go_wp2_with fail
  refine ha.mono ?_
  rintro e w1 ⟨rfl, ov', h1, h2⟩
  go_wp2
  go_end0
  exact ⟨rfl, ov', h1, h2⟩
set_option maxRecDepth 100000 in
theorem quoted_w {w : World} {q : Nat} {ov : Value} {z s : List UInt8} (h : Wt w q ov z) : Calls Tryz.prog 61 #[.pointer (some ⟨q, 0, none⟩), .string (st s)] w (AnK q ov (z ++ qu s) w) := by
  have hsz : Hid ((st s).size = s.length) := hide1 (st_size s)
  by_cases hs : 4096 < s.length
  · have ht : (4096 : Int) < ((st s).size : Int) := by rw [hsz.out]; omega
    obtain ⟨hbx, out, hown, hl, hz⟩ := h
    have c1 : w.cell? ⟨q, 1, none⟩ = some (.bool (decide (4096 < z.length))) := by simp only [World.cell?, hbx]; rfl
    have f1 : w.frozen? ⟨q, 1, none⟩ = false := by simp [World.frozen?, hbx]
    have e1 : w.setCell ⟨q, 1, none⟩ (.bool true) = w.setRow q #[ov, .bool true] := by rw [sw_row hbx]; rfl
    have hn := setRow_heap w q _ #[ov, .bool true] _ _ hbx
    have hf : Hid (Wt (w.setCell ⟨q, 1, none⟩ (.bool true)) q ov (z ++ qu s) ∧ Wk q ov ov w (w.setCell ⟨q, 1, none⟩ (.bool true))) := hide1 (by
      have hq := (qb_len s).1
      have hzs : 4096 < (z ++ qu s).length := by rw [List.length_append]; simp [qu]; omega
      rw [e1]
      exact ⟨⟨by rw [decide_eq_true hzs]; exact hn, out, hown.row _, hl, .inl hzs⟩, Wk.row _ _ _ fun _ h => .inl h⟩)
    clear hown hz hbx e1 hn
    go_enter Tryz.func61, Tryz.ntmps61
    go_wp2
    first
    | (go_end0; exact ⟨rfl, ov, hf.out⟩)
    | (refine bodyPost_ret (results_none rfl _ _ _) rfl ?_; exact ⟨rfl, ov, hf.out⟩)
  · have ht : ¬ (4096 : Int) < ((st s).size : Int) := by rw [hsz.out]; omega
    have hq := quote_d (w := w) (s := s) (by omega)
    go_enter Tryz.func61, Tryz.ntmps61
    go_wp2_with fail
    refine hq.mono ?_
    rintro e w1 ⟨rfl, b1⟩
    have ha := add_d (s := qu s) (h.below b1)
    have hk := hide1 (Wk.ofB (q := q) (a := ov) b1)
    clear hq b1 h
    go_wp2_with fail
    refine ha.mono ?_
    rintro e w2 ⟨rfl, ov', h1, h2⟩
    have h3 := hide1 (hk.out.trans h2)
    replace h1 := hide1 h1
    clear ha hk h2
    go_wp2
    go_end0
    exact ⟨rfl, ov', h1.out, h3.out⟩
theorem Wt.fresh {w : World} {q : Nat} {ov : Value} {z : List UInt8} (h : Wt w q ov z) : w.heap.size ≠ q ∧ ov.ownBlock ≠ some w.heap.size := by
  obtain ⟨h1, out, ⟨_, ⟨rfl, _⟩ | ⟨g, cap, cur, rfl, hB, hg, _⟩⟩, _⟩ := h
  · exact ⟨by have := (Array.getElem?_eq_some_iff.1 h1).1; omega, fun e => by cases e⟩
  · exact ⟨by have := (Array.getElem?_eq_some_iff.1 h1).1; omega, fun e => by
      have e2 : g = w.heap.size := by simpa [Value.ownBlock] using e
      have h3 := (Array.getElem?_eq_some_iff.1 hg).1
      omega⟩
def Fr (F : Nat → Prop) (w : World) (q : Nat) (ov : Value) : Prop := ∀ k, F k → k < w.heap.size → k ≠ q ∧ ov.ownBlock ≠ some k
theorem RwA.wk {F : Nat → Prop} {w w' : World} {e : TypeId} {z q : Nat} {v ov ov' : Value} {cs : List (List Value)} (h : RwA F w e z v cs) (hF : Fr F w q ov) (hk : Wk q ov ov' w w') : RwA (fun k => F k ∧ k < w.heap.size) w' e z v cs :=
  h.frame (fun k hf hs => hk.block k hs (hF k hf hs).1 (hF k hf hs).2) (fun _ hf hs => ⟨hf, hs⟩)
theorem VA.wk {F : Nat → Prop} {w w' : World} {q : Nat} {ov ov' : Value} {t : T} {c : List Value} (h : VA F w t c) (hF : Fr F w q ov) (hk : Wk q ov ov' w w') : VA (fun k => F k ∧ k < w.heap.size) w' t c :=
  h.frame (fun k hf hs => hk.block k hs (hF k hf hs).1 (hF k hf hs).2) (fun _ hf hs => ⟨hf, hs⟩)
theorem Fr.wk {F : Nat → Prop} {w w' : World} {q : Nat} {ov ov' : Value} (hF : Fr F w q ov) (hk : Wk q ov ov' w w') : Fr (fun k => F k ∧ k < w.heap.size) w' q ov' := fun k hf _ =>
  ⟨(hF k hf.1 hf.2).1, fun e => (hk.own k e).elim (hF k hf.1 hf.2).2 fun h => by have := hf.2; omega⟩
set_option maxHeartbeats 4000000 in
set_option maxRecDepth 100000 in
theorem rowV_d {F : Nat → Prop} {w : World} {q : Nat} {ov v : Value} {zt : List UInt8} {l : List (T)} {cs : List (List Value)} {f : T → List UInt8} (r : RwA F w 28 5 v cs) (hl : cs.length = l.length) (hon : ∀ c ∈ cs, c.all (·.oneCell') = true) (hb : cs.length ≤ 1000000) (hF : Fr F w q ov) (hW : Wt w q ov zt)
    (hone : ∀ (j : Nat) (t : T) (c : List Value), l[j]? = some t → cs[j]? = some c → ∀ (w' : World) (ov' : Value) (z' : List UInt8), Wk q ov ov' w w' → Wt w' q ov' z' → Calls Tryz.prog 37 #[.pointer (some ⟨q, 0, none⟩), .agg c.toArray] w' (AnK q ov' (z' ++ f t) w')) :
    Calls Tryz.prog 62 #[.pointer (some ⟨q, 0, none⟩), .int .i32 91, .int .i32 93, v, .func (.func 37) #[.pointer (some ⟨q, 0, none⟩)] #[]] w (AnK q ov (zt ++ 91 :: (cj (l.map f) ++ [93])) w) := by
  obtain ⟨va, vc, rfl⟩ := r.slc
  have hs0 := sign_91 hW
  replace hone := hide1 hone
  replace hW := hide1 hW
  replace hF := hide1 hF
  replace r := hide1 r
  replace hon := hide1 hon
  replace hl := hide1 hl
  go_enter Tryz.func62, Tryz.ntmps62
  go_wp2_with fail
  refine hs0.mono ?_
  rintro e w1 ⟨rfl, ov1, h1, k1⟩
  have h2 : Hid (Wt w1 q ov1 (zt ++ 91 :: cj ((l.take 0).map f))) := hide1 h1
  replace k1 := hide1 k1
  clear hs0 h1
  go_wp2_with fail
  go_loopw [17] (fun s17 wr => ∃ (i : Nat) (ov' : Value), s17 = .int .i64 (i : Nat) ∧ i ≤ cs.length ∧ Hid (Wt wr q ov' (zt ++ 91 :: cj ((l.take i).map f))) ∧ Hid (Wk q ov ov' w wr)) (fun s17 _ => cs.length - (intOf s17).toNat)
  case atStart => exact ⟨0, ov1, rfl, Nat.zero_le _, h2, k1⟩
  case round =>
    obtain ⟨i, ov', rfl, hi, hWr, hKr⟩ := hrel
    by_cases hlt : i < cs.length
    · obtain ⟨t, ht⟩ : ∃ t, l[i]? = some t := ⟨_, List.getElem?_eq_getElem (by have := hl.out; omega)⟩
      obtain ⟨c, hc⟩ : ∃ c, cs[i]? = some c := ⟨_, List.getElem?_eq_getElem hlt⟩
      have rr := r.out.wk hF.out hKr.out
      obtain ⟨b, oo, cap, hve, -, hbl, hr⟩ := rr.at hc
      cases hve
      have hcz := rr.1 c (List.mem_of_getElem? hc)
      have hoc := hon.out c (List.mem_of_getElem? hc)
      obtain ⟨x0, x1, x2, x3, x4, rfl⟩ := five_l hcz
      have hcall := hone.out i t _ ht hc
      have htake : Hid ((l.take (i + 1)).map f = (l.take i).map f ++ [f t]) := hide1 (by
        rw [List.take_add_one, ht, List.map_append]; rfl)
      have hnil : Hid ((l.take i).map f = [] ↔ i = 0) := hide1 (by
        rw [List.map_eq_nil_iff, List.take_eq_nil_iff]
        constructor
        · rintro (h | h)
          · exact h
          · have := hl.out; rw [h, List.length_nil] at this; omega
        · exact fun h => .inl h)
      have hz : (wr.alloc (.cells #[.int .i64 0, .int .i64 0, .string ⟨#[]⟩, .slice none 0 0, .slice none 0 0] 28)).heap[wr.heap.size]? = some (.cells #[.int .i64 0, .int .i64 0, .string ⟨#[]⟩, .slice none 0 0, .slice none 0 0] 28 (0, 0)) := by
        show (wr.heap.push _)[wr.heap.size]? = _
        rw [Array.getElem?_push, if_pos rfl]
      have hz2 := setRow_heap (wr.alloc (.cells #[.int .i64 0, .int .i64 0, .string ⟨#[]⟩, .slice none 0 0, .slice none 0 0] 28)) wr.heap.size _ #[x0, x1, x2, x3, x4] _ _ hz
      have hbw : Below wr.heap.size wr ((wr.alloc (.cells #[.int .i64 0, .int .i64 0, .string ⟨#[]⟩, .slice none 0 0, .slice none 0 0] 28)).setRow wr.heap.size #[x0, x1, x2, x3, x4]) := blw_own ((Below.refl _ _).alloc (Nat.le_refl _) _) (Nat.le_refl _) _
      have hpw0 : wr.heap.size ≠ q ∧ ov'.ownBlock ≠ some wr.heap.size := hWr.out.fresh
      have hWa := hide1 (hWr.out.below hbw)
      have hKa := hide1 (hKr.out.below hbw)
      replace hcall := hide1 hcall
      have hoc' := hide1 hoc
      clear rr hoc hbl ht hc hcz hWr hKr hbw
      go_upto_region 4 with (first | refine wpList_load_mid rfl 28 (.tmp 20) rfl b (oo + i * 5) rfl [x0, x1, x2, x3, x4] _ hr Tryz.underlying28 rfl (by kernel_rfl) ?_ | refine wpList_store_row rfl 28 (.tmp 11) (.tmp 21) rfl wr.heap.size #[x0, x1, x2, x3, x4] rfl rfl 28 _ hz (by kernel_rfl) rfl (by simpa using hoc'.out) ?_)
      have hpw : Hid (wr.heap.size ≠ q ∧ ov'.ownBlock ≠ some wr.heap.size) := hide1 hpw0
      clear hz hoc'
      generalize (wr.alloc (.cells #[.int .i64 0, .int .i64 0, .string ⟨#[]⟩, .slice none 0 0, .slice none 0 0] 28)).setRow wr.heap.size #[x0, x1, x2, x3, x4] = wa at *
      generalize wr.heap.size = p at *
      by_cases hi0 : i = 0
      · have ezz : Hid (zt ++ 91 :: cj ((l.take i).map f) ++ f t = zt ++ 91 :: cj ((l.take (i + 1)).map f)) := hide1 (by
          have e1 : (l.take i).map f = [] := hnil.out.2 hi0
          rw [htake.out, cj_snoc, if_pos e1, e1]; simp [cj])
        have hig : ¬ (0 : Int) < (i : Int) := by omega
        have hl5 : wa.rangeAt p 0 [x0, x1, x2, x3, x4] := fun j u hj => by
          simp only [World.cell?, hz2]
          rw [Nat.zero_add]
          simpa using hj
        have hcc := hcall.out wa ov' _ hKa.out hWa.out
        have hz3 := hide1 hz2
        clear htake hnil hz2 hcall hi0
        go_wp2_with (first | refine wpList_load_mid rfl 28 (.tmp 11) rfl p 0 rfl [x0, x1, x2, x3, x4] _ hl5 Tryz.underlying28 rfl (by kernel_rfl) ?_ | fail)
        refine hcc.mono ?_
        rintro e w6 ⟨rfl, ov6, h6, k6⟩
        rw [ezz.out] at h6
        have hK6 := hide1 (hKa.out.trans k6)
        replace h6 := hide1 h6
        clear hcc k6 hKa hWa ezz hl5
        go_wp2
        go_roundw
        case rel => exact ⟨i + 1, ov6, by first | rfl | (congr 1; omega) | go_num, hlt, h6, hK6⟩
        case measure => simp [intOf]; omega
      · have ezz : Hid (zt ++ 91 :: cj ((l.take i).map f) ++ [44] ++ f t = zt ++ 91 :: cj ((l.take (i + 1)).map f)) := hide1 (by
          have e1 : ¬ (l.take i).map f = [] := fun e => hi0 (hnil.out.1 e)
          rw [htake.out, cj_snoc, if_neg e1]; simp)
        have hig : (0 : Int) < (i : Int) := by omega
        have hsg := sign_44 hWa.out
        have hz3 := hide1 hz2
        clear htake hnil hz2 hi0
        go_wp2_with fail
        refine hsg.mono ?_
        rintro e w5 ⟨rfl, ov5, h5, k5⟩
        have hbx5 := (k5.block p (Array.getElem?_eq_some_iff.1 hz3.out).1 hpw.out.1 hpw.out.2).trans hz3.out
        have hl5 : w5.rangeAt p 0 [x0, x1, x2, x3, x4] := fun j u hj => by
          simp only [World.cell?, hbx5]
          rw [Nat.zero_add]
          simpa using hj
        have hK5 := hide1 (hKa.out.trans k5)
        have hcc := hcall.out w5 ov5 _ hK5.out h5
        clear hsg k5 h5 hbx5 hKa hWa
        go_wp2_with (first | refine wpList_load_mid rfl 28 (.tmp 11) rfl p 0 rfl [x0, x1, x2, x3, x4] _ hl5 Tryz.underlying28 rfl (by kernel_rfl) ?_ | fail)
        refine hcc.mono ?_
        rintro e w6 ⟨rfl, ov6, h6, k6⟩
        rw [ezz.out] at h6
        have hK6 := hide1 (hK5.out.trans k6)
        replace h6 := hide1 h6
        clear hcc k6 hK5 ezz hl5
        go_wp2
        go_roundw
        case rel => exact ⟨i + 1, ov6, by first | rfl | (congr 1; omega) | go_num, hlt, h6, hK6⟩
        case measure => simp [intOf]; omega
    · have hie : i = cs.length := by omega
      subst hie
      have hs1 := sign_93 hWr.out
      have ezz : Hid (zt ++ 91 :: cj ((l.take cs.length).map f) ++ [93] = zt ++ 91 :: (cj (l.map f) ++ [93])) := hide1 (by rw [hl.out, List.take_length]; simp)
      clear hlt
      go_wp2_with fail
      refine hs1.mono ?_
      rintro e w6 ⟨rfl, ov6, h6, k6⟩
      rw [ezz.out] at h6
      have hK6 := hide1 (hKr.out.trans k6)
      replace h6 := hide1 h6
      clear hs1 k6 ezz hKr hWr
      go_wp2
      go_end0
      exact ⟨rfl, ov6, h6.out, hK6.out⟩
set_option maxHeartbeats 4000000 in
set_option maxRecDepth 100000 in
theorem rowP_d {F : Nat → Prop} {w : World} {q : Nat} {ov v : Value} {zt : List UInt8} {l : List (List UInt8 × T)} {cs : List (List Value)} {f : List UInt8 × T → List UInt8} (r : RwA F w 49 6 v cs) (hl : cs.length = l.length) (hon : ∀ c ∈ cs, c.all (·.oneCell') = true) (hb : cs.length ≤ 1000000) (hF : Fr F w q ov) (hW : Wt w q ov zt)
    (hone : ∀ (j : Nat) (t : List UInt8 × T) (c : List Value), l[j]? = some t → cs[j]? = some c → ∀ (w' : World) (ov' : Value) (z' : List UInt8), Wk q ov ov' w w' → Wt w' q ov' z' → Calls Tryz.prog 64 #[.pointer (some ⟨q, 0, none⟩), .agg c.toArray] w' (AnK q ov' (z' ++ f t) w')) :
    Calls Tryz.prog 63 #[.pointer (some ⟨q, 0, none⟩), .int .i32 123, .int .i32 125, v, .func (.func 64) #[.pointer (some ⟨q, 0, none⟩)] #[]] w (AnK q ov (zt ++ 123 :: (cj (l.map f) ++ [125])) w) := by
  obtain ⟨va, vc, rfl⟩ := r.slc
  have hs0 := sign_123 hW
  replace hone := hide1 hone
  replace hW := hide1 hW
  replace hF := hide1 hF
  replace r := hide1 r
  replace hon := hide1 hon
  replace hl := hide1 hl
  go_enter Tryz.func63, Tryz.ntmps63
  go_wp2_with fail
  refine hs0.mono ?_
  rintro e w1 ⟨rfl, ov1, h1, k1⟩
  have h2 : Hid (Wt w1 q ov1 (zt ++ 123 :: cj ((l.take 0).map f))) := hide1 h1
  replace k1 := hide1 k1
  clear hs0 h1
  go_wp2_with fail
  go_loopw [17] (fun s17 wr => ∃ (i : Nat) (ov' : Value), s17 = .int .i64 (i : Nat) ∧ i ≤ cs.length ∧ Hid (Wt wr q ov' (zt ++ 123 :: cj ((l.take i).map f))) ∧ Hid (Wk q ov ov' w wr)) (fun s17 _ => cs.length - (intOf s17).toNat)
  case atStart => exact ⟨0, ov1, rfl, Nat.zero_le _, h2, k1⟩
  case round =>
    obtain ⟨i, ov', rfl, hi, hWr, hKr⟩ := hrel
    by_cases hlt : i < cs.length
    · obtain ⟨t, ht⟩ : ∃ t, l[i]? = some t := ⟨_, List.getElem?_eq_getElem (by have := hl.out; omega)⟩
      obtain ⟨c, hc⟩ : ∃ c, cs[i]? = some c := ⟨_, List.getElem?_eq_getElem hlt⟩
      have rr := r.out.wk hF.out hKr.out
      obtain ⟨b, oo, cap, hve, -, hbl, hr⟩ := rr.at hc
      cases hve
      have hcz := rr.1 c (List.mem_of_getElem? hc)
      have hoc := hon.out c (List.mem_of_getElem? hc)
      obtain ⟨x0, x1, x2, x3, x4, x5, rfl⟩ := arr6 hcz
      have hcall := hone.out i t _ ht hc
      have htake : Hid ((l.take (i + 1)).map f = (l.take i).map f ++ [f t]) := hide1 (by
        rw [List.take_add_one, ht, List.map_append]; rfl)
      have hnil : Hid ((l.take i).map f = [] ↔ i = 0) := hide1 (by
        rw [List.map_eq_nil_iff, List.take_eq_nil_iff]
        constructor
        · rintro (h | h)
          · exact h
          · have := hl.out; rw [h, List.length_nil] at this; omega
        · exact fun h => .inl h)
      have hz : (wr.alloc (.cells #[.string ⟨#[]⟩, .int .i64 0, .int .i64 0, .string ⟨#[]⟩, .slice none 0 0, .slice none 0 0] 49)).heap[wr.heap.size]? = some (.cells #[.string ⟨#[]⟩, .int .i64 0, .int .i64 0, .string ⟨#[]⟩, .slice none 0 0, .slice none 0 0] 49 (0, 0)) := by
        show (wr.heap.push _)[wr.heap.size]? = _
        rw [Array.getElem?_push, if_pos rfl]
      have hz2 := setRow_heap (wr.alloc (.cells #[.string ⟨#[]⟩, .int .i64 0, .int .i64 0, .string ⟨#[]⟩, .slice none 0 0, .slice none 0 0] 49)) wr.heap.size _ #[x0, x1, x2, x3, x4, x5] _ _ hz
      have hbw : Below wr.heap.size wr ((wr.alloc (.cells #[.string ⟨#[]⟩, .int .i64 0, .int .i64 0, .string ⟨#[]⟩, .slice none 0 0, .slice none 0 0] 49)).setRow wr.heap.size #[x0, x1, x2, x3, x4, x5]) := blw_own ((Below.refl _ _).alloc (Nat.le_refl _) _) (Nat.le_refl _) _
      have hpw0 : wr.heap.size ≠ q ∧ ov'.ownBlock ≠ some wr.heap.size := hWr.out.fresh
      have hWa := hide1 (hWr.out.below hbw)
      have hKa := hide1 (hKr.out.below hbw)
      replace hcall := hide1 hcall
      have hoc' := hide1 hoc
      clear rr hoc hbl ht hc hcz hWr hKr hbw
      go_upto_region 4 with (first | refine wpList_load_mid rfl 49 (.tmp 20) rfl b (oo + i * 6) rfl [x0, x1, x2, x3, x4, x5] _ hr Tryz.underlying49 rfl (by kernel_rfl) ?_ | refine wpList_store_row rfl 49 (.tmp 11) (.tmp 21) rfl wr.heap.size #[x0, x1, x2, x3, x4, x5] rfl rfl 49 _ hz (by kernel_rfl) rfl (by simpa using hoc'.out) ?_)
      have hpw : Hid (wr.heap.size ≠ q ∧ ov'.ownBlock ≠ some wr.heap.size) := hide1 hpw0
      clear hz hoc'
      generalize (wr.alloc (.cells #[.string ⟨#[]⟩, .int .i64 0, .int .i64 0, .string ⟨#[]⟩, .slice none 0 0, .slice none 0 0] 49)).setRow wr.heap.size #[x0, x1, x2, x3, x4, x5] = wa at *
      generalize wr.heap.size = p at *
      by_cases hi0 : i = 0
      · have ezz : Hid (zt ++ 123 :: cj ((l.take i).map f) ++ f t = zt ++ 123 :: cj ((l.take (i + 1)).map f)) := hide1 (by
          have e1 : (l.take i).map f = [] := hnil.out.2 hi0
          rw [htake.out, cj_snoc, if_pos e1, e1]; simp [cj])
        have hig : ¬ (0 : Int) < (i : Int) := by omega
        have hl5 : wa.rangeAt p 0 [x0, x1, x2, x3, x4, x5] := fun j u hj => by
          simp only [World.cell?, hz2]
          rw [Nat.zero_add]
          simpa using hj
        have hcc := hcall.out wa ov' _ hKa.out hWa.out
        have hz3 := hide1 hz2
        clear htake hnil hz2 hcall hi0
        go_wp2_with (first | refine wpList_load_mid rfl 49 (.tmp 11) rfl p 0 rfl [x0, x1, x2, x3, x4, x5] _ hl5 Tryz.underlying49 rfl (by kernel_rfl) ?_ | fail)
        refine hcc.mono ?_
        rintro e w6 ⟨rfl, ov6, h6, k6⟩
        rw [ezz.out] at h6
        have hK6 := hide1 (hKa.out.trans k6)
        replace h6 := hide1 h6
        clear hcc k6 hKa hWa ezz hl5
        go_wp2
        go_roundw
        case rel => exact ⟨i + 1, ov6, by first | rfl | (congr 1; omega) | go_num, hlt, h6, hK6⟩
        case measure => simp [intOf]; omega
      · have ezz : Hid (zt ++ 123 :: cj ((l.take i).map f) ++ [44] ++ f t = zt ++ 123 :: cj ((l.take (i + 1)).map f)) := hide1 (by
          have e1 : ¬ (l.take i).map f = [] := fun e => hi0 (hnil.out.1 e)
          rw [htake.out, cj_snoc, if_neg e1]; simp)
        have hig : (0 : Int) < (i : Int) := by omega
        have hsg := sign_44 hWa.out
        have hz3 := hide1 hz2
        clear htake hnil hz2 hi0
        go_wp2_with fail
        refine hsg.mono ?_
        rintro e w5 ⟨rfl, ov5, h5, k5⟩
        have hbx5 := (k5.block p (Array.getElem?_eq_some_iff.1 hz3.out).1 hpw.out.1 hpw.out.2).trans hz3.out
        have hl5 : w5.rangeAt p 0 [x0, x1, x2, x3, x4, x5] := fun j u hj => by
          simp only [World.cell?, hbx5]
          rw [Nat.zero_add]
          simpa using hj
        have hK5 := hide1 (hKa.out.trans k5)
        have hcc := hcall.out w5 ov5 _ hK5.out h5
        clear hsg k5 h5 hbx5 hKa hWa
        go_wp2_with (first | refine wpList_load_mid rfl 49 (.tmp 11) rfl p 0 rfl [x0, x1, x2, x3, x4, x5] _ hl5 Tryz.underlying49 rfl (by kernel_rfl) ?_ | fail)
        refine hcc.mono ?_
        rintro e w6 ⟨rfl, ov6, h6, k6⟩
        rw [ezz.out] at h6
        have hK6 := hide1 (hK5.out.trans k6)
        replace h6 := hide1 h6
        clear hcc k6 hK5 ezz hl5
        go_wp2
        go_roundw
        case rel => exact ⟨i + 1, ov6, by first | rfl | (congr 1; omega) | go_num, hlt, h6, hK6⟩
        case measure => simp [intOf]; omega
    · have hie : i = cs.length := by omega
      subst hie
      have hs1 := sign_125 hWr.out
      have ezz : Hid (zt ++ 123 :: cj ((l.take cs.length).map f) ++ [125] = zt ++ 123 :: (cj (l.map f) ++ [125])) := hide1 (by rw [hl.out, List.take_length]; simp)
      clear hlt
      go_wp2_with fail
      refine hs1.mono ?_
      rintro e w6 ⟨rfl, ov6, h6, k6⟩
      rw [ezz.out] at h6
      have hK6 := hide1 (hKr.out.trans k6)
      replace h6 := hide1 h6
      clear hs1 k6 ezz hKr hWr
      go_wp2
      go_end0
      exact ⟨rfl, ov6, h6.out, hK6.out⟩
theorem AnK.ofB {q : Nat} {ov : Value} {z : List UInt8} {w w1 w' : World} {e : Ending} (hb : Below w.heap.size w w1) (h : AnK q ov z w1 e w') : AnK q ov z w e w' := by
  obtain ⟨h1, ov', h2, h3⟩ := h
  exact ⟨h1, ov', h2, (Wk.ofB hb).trans h3⟩
set_option maxHeartbeats 1600000 in
set_option maxRecDepth 100000 in
theorem val_0 {w : World} {q : Nat} {ov sl sp : Value} {z s : List UInt8} {ki : Int}  (hW : Wt w q ov z) : Calls Tryz.prog 37 #[.pointer (some ⟨q, 0, none⟩), .agg #[.int .i64 0, .int .i64 ki, .string (st s), sl, sp]] w (AnK q ov (z ++ [110, 117, 108, 108]) w) := by
  obtain ⟨wb, hwb⟩ : ∃ wb, wb = w.alloc (.cells #[.int .i64 0, .int .i64 ki, .string (st s), sl, sp] 28) := ⟨_, rfl⟩
  have hB : Below w.heap.size w wb := by rw [hwb]; exact (Below.refl _ _).alloc (Nat.le_refl _) _
  have hn : wb.heap[w.heap.size]? = some (.cells #[.int .i64 0, .int .i64 ki, .string (st s), sl, sp] 28 (0, 0)) := by
    rw [hwb]
    show (w.heap.push _)[w.heap.size]? = _
    rw [Array.getElem?_push, if_pos rfl]
  have c0 : wb.cell? ⟨w.heap.size, 0, none⟩ = some (.int .i64 0) := by simp only [World.cell?, hn]; rfl
  have c1 : wb.cell? ⟨w.heap.size, 1, none⟩ = some (.int .i64 ki) := by simp only [World.cell?, hn]; rfl
  have c2 : wb.cell? ⟨w.heap.size, 2, none⟩ = some (.string (st s)) := by simp only [World.cell?, hn]; rfl
  have c3 : wb.cell? ⟨w.heap.size, 3, none⟩ = some sl := by simp only [World.cell?, hn]; rfl
  have c4 : wb.cell? ⟨w.heap.size, 4, none⟩ = some sp := by simp only [World.cell?, hn]; rfl
  have hWb := hW.below hB
  have ha := add_d (s := [110, 117, 108, 108]) hWb
  replace ha : Calls Tryz.prog 58 #[.pointer (some ⟨q, 0, none⟩), .string ⟨#[110, 117, 108, 108]⟩] wb _ := ha
  replace hWb := hide1 hWb
  replace hB := hide1 hB
  clear hW hn
  go_enter Tryz.func37, Tryz.ntmps37
  go_upto_region 1 with fail
  rw [← hwb]
  clear hwb
  go_wp2_with fail
  refine ha.mono ?_
  rintro e w1 ⟨rfl, ov', h1, h2⟩
  clear ha
  go_wp2
  go_end0
  exact AnK.ofB hB.out ⟨rfl, ov', h1, h2⟩
set_option maxHeartbeats 1600000 in
set_option maxRecDepth 100000 in
theorem val_1 {w : World} {q : Nat} {ov sl sp : Value} {z s : List UInt8} {ki : Int}  (hW : Wt w q ov z) : Calls Tryz.prog 37 #[.pointer (some ⟨q, 0, none⟩), .agg #[.int .i64 1, .int .i64 ki, .string (st s), sl, sp]] w (AnK q ov (z ++ Lib.formatBool (decide (ki = 1))) w) := by
  obtain ⟨wb, hwb⟩ : ∃ wb, wb = w.alloc (.cells #[.int .i64 1, .int .i64 ki, .string (st s), sl, sp] 28) := ⟨_, rfl⟩
  have hB : Below w.heap.size w wb := by rw [hwb]; exact (Below.refl _ _).alloc (Nat.le_refl _) _
  have hn : wb.heap[w.heap.size]? = some (.cells #[.int .i64 1, .int .i64 ki, .string (st s), sl, sp] 28 (0, 0)) := by
    rw [hwb]
    show (w.heap.push _)[w.heap.size]? = _
    rw [Array.getElem?_push, if_pos rfl]
  have c0 : wb.cell? ⟨w.heap.size, 0, none⟩ = some (.int .i64 1) := by simp only [World.cell?, hn]; rfl
  have c1 : wb.cell? ⟨w.heap.size, 1, none⟩ = some (.int .i64 ki) := by simp only [World.cell?, hn]; rfl
  have c2 : wb.cell? ⟨w.heap.size, 2, none⟩ = some (.string (st s)) := by simp only [World.cell?, hn]; rfl
  have c3 : wb.cell? ⟨w.heap.size, 3, none⟩ = some sl := by simp only [World.cell?, hn]; rfl
  have c4 : wb.cell? ⟨w.heap.size, 4, none⟩ = some sp := by simp only [World.cell?, hn]; rfl
  have hWb := hW.below hB
  have ha := add_d (s := Lib.formatBool (decide (ki = 1))) hWb
  have hfb := fun w => strconv_FormatBool (decide (ki = 1)) w
  have hkb : (ki == 1) = decide (ki = 1) := by by_cases h : ki = 1 <;> simp [h]
  replace ha : Calls Tryz.prog 58 #[.pointer (some ⟨q, 0, none⟩), .string ⟨(Lib.formatBool (decide (ki = 1))).toArray⟩] wb _ := ha
  generalize hdk : decide (ki = 1) = B at *
  replace hWb := hide1 hWb
  replace hB := hide1 hB
  clear hW hn
  go_enter Tryz.func37, Tryz.ntmps37
  go_upto_region 1 with fail
  rw [← hwb]
  clear hwb
  go_wp2_with fail
  refine (hfb _).mono ?_
  rintro e w0 ⟨rfl, rfl⟩
  go_wp2_with fail
  refine ha.mono ?_
  rintro e w1 ⟨rfl, ov', h1, h2⟩
  clear ha
  go_wp2
  go_end0
  exact AnK.ofB hB.out ⟨rfl, ov', h1, h2⟩
set_option maxHeartbeats 1600000 in
set_option maxRecDepth 100000 in
theorem val_2 {w : World} {q : Nat} {ov sl sp : Value} {z s : List UInt8} {ki : Int} (hr : -9223372036854775808 ≤ ki ∧ ki ≤ 9223372036854775807) (hT : Ev w) (h8 : 8 ≤ w.heap.size) (hW : Wt w q ov z) : Calls Tryz.prog 37 #[.pointer (some ⟨q, 0, none⟩), .agg #[.int .i64 2, .int .i64 ki, .string (st s), sl, sp]] w (AnK q ov (z ++ Lib.itoa ki) w) := by
  obtain ⟨wb, hwb⟩ : ∃ wb, wb = w.alloc (.cells #[.int .i64 2, .int .i64 ki, .string (st s), sl, sp] 28) := ⟨_, rfl⟩
  have hB : Below w.heap.size w wb := by rw [hwb]; exact (Below.refl _ _).alloc (Nat.le_refl _) _
  have hn : wb.heap[w.heap.size]? = some (.cells #[.int .i64 2, .int .i64 ki, .string (st s), sl, sp] 28 (0, 0)) := by
    rw [hwb]
    show (w.heap.push _)[w.heap.size]? = _
    rw [Array.getElem?_push, if_pos rfl]
  have c0 : wb.cell? ⟨w.heap.size, 0, none⟩ = some (.int .i64 2) := by simp only [World.cell?, hn]; rfl
  have c1 : wb.cell? ⟨w.heap.size, 1, none⟩ = some (.int .i64 ki) := by simp only [World.cell?, hn]; rfl
  have c2 : wb.cell? ⟨w.heap.size, 2, none⟩ = some (.string (st s)) := by simp only [World.cell?, hn]; rfl
  have c3 : wb.cell? ⟨w.heap.size, 3, none⟩ = some sl := by simp only [World.cell?, hn]; rfl
  have c4 : wb.cell? ⟨w.heap.size, 4, none⟩ = some sp := by simp only [World.cell?, hn]; rfl
  have hWb := hW.below hB
  have hi := strconv_Itoa ki (by have := hr.1; omega) (by have := hr.2; omega) wb (hT.below hB (by omega)).pw
  replace hWb := hide1 hWb
  replace hB := hide1 hB
  clear hW hn
  go_enter Tryz.func37, Tryz.ntmps37
  go_upto_region 1 with fail
  rw [← hwb]
  clear hwb
  go_wp2_with fail
  refine hi.mono ?_
  rintro e w0 ⟨rfl, nk, os, hw0⟩
  have hb0 : Below wb.heap.size wb w0 := below_grow ⟨nk, os, hw0⟩
  have ha := add_d (s := Lib.itoa ki) (hWb.out.below hb0)
  replace ha : Calls Tryz.prog 58 #[.pointer (some ⟨q, 0, none⟩), .string ⟨(Lib.itoa ki).toArray⟩] w0 _ := ha
  replace hb0 := hide1 hb0
  clear hi hw0
  go_wp2_with fail
  refine ha.mono ?_
  rintro e w1 ⟨rfl, ov', h1, h2⟩
  clear ha
  go_wp2
  go_end0
  exact AnK.ofB hB.out (AnK.ofB hb0.out ⟨rfl, ov', h1, h2⟩)
set_option maxHeartbeats 1600000 in
set_option maxRecDepth 100000 in
theorem val_3 {w : World} {q : Nat} {ov sl sp : Value} {z s : List UInt8} {ki : Int}  (hW : Wt w q ov z) : Calls Tryz.prog 37 #[.pointer (some ⟨q, 0, none⟩), .agg #[.int .i64 3, .int .i64 ki, .string (st s), sl, sp]] w (AnK q ov (z ++ qu s) w) := by
  obtain ⟨wb, hwb⟩ : ∃ wb, wb = w.alloc (.cells #[.int .i64 3, .int .i64 ki, .string (st s), sl, sp] 28) := ⟨_, rfl⟩
  have hB : Below w.heap.size w wb := by rw [hwb]; exact (Below.refl _ _).alloc (Nat.le_refl _) _
  have hn : wb.heap[w.heap.size]? = some (.cells #[.int .i64 3, .int .i64 ki, .string (st s), sl, sp] 28 (0, 0)) := by
    rw [hwb]
    show (w.heap.push _)[w.heap.size]? = _
    rw [Array.getElem?_push, if_pos rfl]
  have c0 : wb.cell? ⟨w.heap.size, 0, none⟩ = some (.int .i64 3) := by simp only [World.cell?, hn]; rfl
  have c1 : wb.cell? ⟨w.heap.size, 1, none⟩ = some (.int .i64 ki) := by simp only [World.cell?, hn]; rfl
  have c2 : wb.cell? ⟨w.heap.size, 2, none⟩ = some (.string (st s)) := by simp only [World.cell?, hn]; rfl
  have c3 : wb.cell? ⟨w.heap.size, 3, none⟩ = some sl := by simp only [World.cell?, hn]; rfl
  have c4 : wb.cell? ⟨w.heap.size, 4, none⟩ = some sp := by simp only [World.cell?, hn]; rfl
  have hWb := hW.below hB
  have ha := quoted_w (s := s) hWb
  replace hWb := hide1 hWb
  replace hB := hide1 hB
  clear hW hn
  go_enter Tryz.func37, Tryz.ntmps37
  go_upto_region 1 with fail
  rw [← hwb]
  clear hwb
  go_wp2_with fail
  refine ha.mono ?_
  rintro e w1 ⟨rfl, ov', h1, h2⟩
  clear ha
  go_wp2
  go_end0
  exact AnK.ofB hB.out ⟨rfl, ov', h1, h2⟩
set_option maxHeartbeats 1600000 in
set_option maxRecDepth 100000 in
theorem val_4 {w : World} {q : Nat} {ov sl sp : Value} {z s : List UInt8} {ki : Int} {X : List UInt8} (hrow : ∀ w1, Below w.heap.size w w1 → Wt w1 q ov z → Calls Tryz.prog 62 #[.pointer (some ⟨q, 0, none⟩), .int .i32 91, .int .i32 93, sl, .func (.func 37) #[.pointer (some ⟨q, 0, none⟩)] #[]] w1 (AnK q ov (z ++ X) w1)) (hW : Wt w q ov z) : Calls Tryz.prog 37 #[.pointer (some ⟨q, 0, none⟩), .agg #[.int .i64 4, .int .i64 ki, .string (st s), sl, sp]] w (AnK q ov (z ++ X) w) := by
  obtain ⟨wb, hwb⟩ : ∃ wb, wb = w.alloc (.cells #[.int .i64 4, .int .i64 ki, .string (st s), sl, sp] 28) := ⟨_, rfl⟩
  have hB : Below w.heap.size w wb := by rw [hwb]; exact (Below.refl _ _).alloc (Nat.le_refl _) _
  have hn : wb.heap[w.heap.size]? = some (.cells #[.int .i64 4, .int .i64 ki, .string (st s), sl, sp] 28 (0, 0)) := by
    rw [hwb]
    show (w.heap.push _)[w.heap.size]? = _
    rw [Array.getElem?_push, if_pos rfl]
  have c0 : wb.cell? ⟨w.heap.size, 0, none⟩ = some (.int .i64 4) := by simp only [World.cell?, hn]; rfl
  have c1 : wb.cell? ⟨w.heap.size, 1, none⟩ = some (.int .i64 ki) := by simp only [World.cell?, hn]; rfl
  have c2 : wb.cell? ⟨w.heap.size, 2, none⟩ = some (.string (st s)) := by simp only [World.cell?, hn]; rfl
  have c3 : wb.cell? ⟨w.heap.size, 3, none⟩ = some sl := by simp only [World.cell?, hn]; rfl
  have c4 : wb.cell? ⟨w.heap.size, 4, none⟩ = some sp := by simp only [World.cell?, hn]; rfl
  have hWb := hW.below hB
  have ha := hrow wb hB hWb
  replace hWb := hide1 hWb
  replace hB := hide1 hB
  clear hW hn
  go_enter Tryz.func37, Tryz.ntmps37
  go_upto_region 1 with fail
  rw [← hwb]
  clear hwb
  go_wp2_with fail
  refine ha.mono ?_
  rintro e w1 ⟨rfl, ov', h1, h2⟩
  clear ha
  go_wp2
  go_end0
  exact AnK.ofB hB.out ⟨rfl, ov', h1, h2⟩
set_option maxHeartbeats 1600000 in
set_option maxRecDepth 100000 in
theorem val_5 {w : World} {q : Nat} {ov sl sp : Value} {z s : List UInt8} {ki : Int} {X : List UInt8} (hrow : ∀ w1, Below w.heap.size w w1 → Wt w1 q ov z → Calls Tryz.prog 63 #[.pointer (some ⟨q, 0, none⟩), .int .i32 123, .int .i32 125, sp, .func (.func 64) #[.pointer (some ⟨q, 0, none⟩)] #[]] w1 (AnK q ov (z ++ X) w1)) (hW : Wt w q ov z) : Calls Tryz.prog 37 #[.pointer (some ⟨q, 0, none⟩), .agg #[.int .i64 5, .int .i64 ki, .string (st s), sl, sp]] w (AnK q ov (z ++ X) w) := by
  obtain ⟨wb, hwb⟩ : ∃ wb, wb = w.alloc (.cells #[.int .i64 5, .int .i64 ki, .string (st s), sl, sp] 28) := ⟨_, rfl⟩
  have hB : Below w.heap.size w wb := by rw [hwb]; exact (Below.refl _ _).alloc (Nat.le_refl _) _
  have hn : wb.heap[w.heap.size]? = some (.cells #[.int .i64 5, .int .i64 ki, .string (st s), sl, sp] 28 (0, 0)) := by
    rw [hwb]
    show (w.heap.push _)[w.heap.size]? = _
    rw [Array.getElem?_push, if_pos rfl]
  have c0 : wb.cell? ⟨w.heap.size, 0, none⟩ = some (.int .i64 5) := by simp only [World.cell?, hn]; rfl
  have c1 : wb.cell? ⟨w.heap.size, 1, none⟩ = some (.int .i64 ki) := by simp only [World.cell?, hn]; rfl
  have c2 : wb.cell? ⟨w.heap.size, 2, none⟩ = some (.string (st s)) := by simp only [World.cell?, hn]; rfl
  have c3 : wb.cell? ⟨w.heap.size, 3, none⟩ = some sl := by simp only [World.cell?, hn]; rfl
  have c4 : wb.cell? ⟨w.heap.size, 4, none⟩ = some sp := by simp only [World.cell?, hn]; rfl
  have hWb := hW.below hB
  have ha := hrow wb hB hWb
  replace hWb := hide1 hWb
  replace hB := hide1 hB
  clear hW hn
  go_enter Tryz.func37, Tryz.ntmps37
  go_upto_region 1 with fail
  rw [← hwb]
  clear hwb
  go_wp2_with fail
  refine ha.mono ?_
  rintro e w1 ⟨rfl, ov', h1, h2⟩
  clear ha
  go_wp2
  go_end0
  exact AnK.ofB hB.out ⟨rfl, ov', h1, h2⟩
theorem pair_w {w : World} {q : Nat} {ov : Value} {z s X : List UInt8} {c : List Value} (hc : c.length = 5) (hW : Wt w q ov z)
    (hval : ∀ (w1 : World) (ov1 : Value) (z1 : List UInt8), Wk q ov ov1 w w1 → Wt w1 q ov1 z1 → Calls Tryz.prog 37 #[.pointer (some ⟨q, 0, none⟩), .agg c.toArray] w1 (AnK q ov1 (z1 ++ X) w1)) :
    Calls Tryz.prog 64 #[.pointer (some ⟨q, 0, none⟩), .agg (Value.string (st s) :: c).toArray] w (AnK q ov (z ++ (qu s ++ 58 :: X)) w) := by
  obtain ⟨x1, x2, x3, x4, x5, rfl⟩ := five_l hc
  obtain ⟨wb, hwb⟩ : ∃ wb, wb = w.alloc (.cells #[.string (st s), x1, x2, x3, x4, x5] 49) := ⟨_, rfl⟩
  have hB : Below w.heap.size w wb := by rw [hwb]; exact (Below.refl _ _).alloc (Nat.le_refl _) _
  have hn : wb.heap[w.heap.size]? = some (.cells #[.string (st s), x1, x2, x3, x4, x5] 49 (0, 0)) := by
    rw [hwb]
    show (w.heap.push _)[w.heap.size]? = _
    rw [Array.getElem?_push, if_pos rfl]
  have c0 : wb.cell? ⟨w.heap.size, 0, none⟩ = some (.string (st s)) := by simp only [World.cell?, hn]; rfl
  obtain ⟨f1, f2⟩ := hW.fresh
  have hWb := hW.below hB
  have ha := quoted_w (s := s) hWb
  have hkb : Wk q ov ov w wb := Wk.ofB hB
  obtain ⟨p, hp⟩ : ∃ p, p = w.heap.size := ⟨_, rfl⟩
  rw [← hp] at hn c0 f1 f2
  have hpl : p < wb.heap.size := (Array.getElem?_eq_some_iff.1 hn).1
  replace hn := hide1 hn
  replace hkb := hide1 hkb
  clear hW hWb hB
  show Calls Tryz.prog 64 #[.pointer (some ⟨q, 0, none⟩), .agg #[.string (st s), x1, x2, x3, x4, x5]] w _
  go_enter Tryz.func64, Tryz.ntmps64
  go_upto_region 1 with fail
  rw [← hwb, ← hp]
  clear hwb hp
  go_wp2_with fail
  refine ha.mono ?_
  rintro e w1 ⟨rfl, ov1, h1, k1⟩
  have hn1 := (k1.block p hpl f1 f2).trans hn.out
  have hp1 : p ≠ q ∧ ov1.ownBlock ≠ some p := ⟨f1, fun e => (k1.own p e).elim f2 fun h => by omega⟩
  have hpl1 : p < w1.heap.size := (Array.getElem?_eq_some_iff.1 hn1).1
  have hs := sign_58 h1
  have hk1 := hide1 (hkb.out.trans k1)
  replace hn1 := hide1 hn1
  clear ha h1 k1 hn hkb c0
  go_wp2_with fail
  refine hs.mono ?_
  rintro e w2 ⟨rfl, ov2, h2, k2⟩
  have hn2 := (k2.block p hpl1 hp1.1 hp1.2).trans hn1.out
  have hr : w2.rangeAt p 1 [x1, x2, x3, x4, x5] := fun j u hj => by
    simp only [World.cell?, hn2]
    match j, hj with
    | 0, hj | 1, hj | 2, hj | 3, hj | 4, hj => simpa using hj
    | _ + 5, hj => simp at hj
  have hk2 := hide1 (hk1.out.trans k2)
  have hv := hval w2 ov2 _ hk2.out h2
  clear hs h2 k2 hn2 hn1 hk1
  go_wp2_with (first | refine wpList_load_mid rfl 28 (.tmp 11) rfl p 1 rfl [x1, x2, x3, x4, x5] _ hr Tryz.underlying28 rfl (by kernel_rfl) ?_ | fail)
  refine hv.mono ?_
  rintro e w3 ⟨rfl, ov3, h3, k3⟩
  have hk3 := hide1 (hk2.out.trans k3)
  have h3' : Hid (Wt w3 q ov3 (z ++ (qu s ++ 58 :: X))) := hide1 (by simpa [List.append_assoc] using h3)
  clear hv h3 k3 hk2 hr
  go_wp2
  go_end0
  exact ⟨rfl, ov3, h3'.out, hk3.out⟩
end Go.Proofs.YtbemaloaobeblaaGreatDoor

namespace Go.Proofs.YtbemaloaobeblaaGreatDoor
open Go.RowKit

def sgn (c : Nat) : List UInt8 :=
  if c < 128 then [UInt8.ofNat c] else if c < 2048 then [UInt8.ofNat (192 + c / 64), UInt8.ofNat (128 + c % 64)]
  else if c < 65536 then [UInt8.ofNat (224 + c / 4096), UInt8.ofNat (128 + c / 64 % 64), UInt8.ofNat (128 + c % 64)]
  else [UInt8.ofNat (240 + c / 262144), UInt8.ofNat (128 + c / 4096 % 64), UInt8.ofNat (128 + c / 64 % 64), UInt8.ofNat (128 + c % 64)]
theorem of_u8 {n : Nat} (h : n < 256) : (UInt8.ofNat n).toNat = n := by simp; omega
def fcl (c : Nat) : Nat → List UInt8 → Option Nat
  | 0, _ => some c
  | _ + 1, [] => none
  | k + 1, b :: l => if b.toNat < 128 ∨ 191 < b.toNat then none else fcl (64 * c + b.toNat - 128) k l
def bdc (c : Nat) : Prop := 1114111 < c ∨ (55296 ≤ c ∧ c ≤ 57343)
instance (c : Nat) : Decidable (bdc c) := by unfold bdc; infer_instance
def fend (n c : Nat) (l : List UInt8) : Nat × Nat := if bdc c ∨ sgn c ≠ l.take n then (0, 0) else (c, n)
def fgo (n c0 : Nat) (l : List UInt8) : Nat × Nat := if l.length < n then (0, 0) else match fcl c0 (n - 1) l.tail with
  | none => (0, 0)
  | some c => fend n c l
def fstR : List UInt8 → Nat × Nat
  | [] => (0, 0)
  | b :: m => if b.toNat < 128 then fgo 1 b.toNat (b :: m) else if b.toNat < 192 then (0, 0) else if b.toNat < 224 then fgo 2 (b.toNat - 192) (b :: m) else if b.toNat < 240 then fgo 3 (b.toNat - 224) (b :: m) else fgo 4 (b.toNat - 240) (b :: m)
theorem BsA.take {w : World} {a : Option Addr} {n cap : Nat} {l : List UInt8} (h : BsA w (.slice a n cap) l) {k : Nat} (hk : k ≤ l.length) (c : Nat) : BsA w (.slice a k c) (l.take k) := by
  obtain ⟨a', cap', e, h⟩ := h
  cases e
  have hkl : (l.take k).length = k := by simp; omega
  refine ⟨a, c, by rw [hkl], ?_⟩
  rcases h with rfl | ⟨b, o, rfl, hb, hc⟩
  · left; simp
  · right
    refine ⟨b, o, rfl, hb, fun j x hj => hc j x ?_⟩
    rw [List.getElem?_take] at hj
    split at hj
    · exact hj
    · cases hj
theorem BsA.bl {w w' : World} {v : Value} {l : List UInt8} (h : BsA w v l) (hb : Below w.heap.size w w') : BsA w' v l := h.below hb
theorem fst_c (x : UInt8) (m : List UInt8) : fstR (x :: m) = if x.toNat < 128 then fgo 1 x.toNat (x :: m) else if x.toNat < 192 then (0, 0) else if x.toNat < 224 then fgo 2 (x.toNat - 192) (x :: m) else if x.toNat < 240 then fgo 3 (x.toNat - 224) (x :: m) else fgo 4 (x.toNat - 240) (x :: m) := rfl
def frs (l : List UInt8) : Nat × Nat := if l = [] ∨ ((Lib.decodeL l).1 = 65533 ∧ (Lib.decodeL l).2 = 1) then (0, 0) else Lib.decodeL l
theorem frs_bad {l : List UInt8} (h : Lib.decodeL l = (65533, 1)) : frs l = (0, 0) := by unfold frs; rw [if_pos (.inr (by rw [h]; exact ⟨rfl, rfl⟩))]
theorem frs_good {l : List UInt8} {c n : Nat} (hl : l ≠ []) (h : Lib.decodeL l = (c, n)) (hc : ¬ (c = 65533 ∧ n = 1)) : frs l = (c, n) := by unfold frs; rw [if_neg (fun e => e.elim hl (by rw [h]; exact hc)), h]
theorem u8_of {x : UInt8} {n : Nat} (h : n = x.toNat) : UInt8.ofNat n = x := by subst h; simp
theorem fend_bad {n c : Nat} {l : List UInt8} (h : bdc c ∨ sgn c ≠ l.take n) : fend n c l = (0, 0) := by unfold fend; rw [if_pos h]
theorem fend_good {n c : Nat} {l : List UInt8} (h : ¬ bdc c) (h2 : sgn c = l.take n) : fend n c l = (c, n) := by unfold fend; rw [if_neg (fun e => e.elim h (fun e => e h2))]
theorem sgn_len (c : Nat) : (sgn c).length = if c < 128 then 1 else if c < 2048 then 2 else if c < 65536 then 3 else 4 := by
  unfold sgn
  split
  · rfl
  · split
    · rfl
    · split <;> rfl
theorem fst_2 {x : UInt8} {m : List UInt8} (h1 : 192 ≤ x.toNat) (h2 : x.toNat < 224) : fgo 2 (x.toNat - 192) (x :: m) = frs (x :: m) := by
  cases m with
  | nil =>
    rw [frs_bad]
    · unfold fgo; rw [if_pos (by simp)]
    · rw [Lib.decodeL_N]; unfold Lib.decodeN
      simp only [List.length_cons, List.length_nil, List.getD_cons_zero]
      rw [if_neg (by omega), if_neg (by omega), if_neg (by omega), if_neg (by omega)]
  | cons y m =>
    have hy := y.toNat_lt
    unfold fgo
    rw [if_neg (by simp)]
    simp only [List.tail_cons, Nat.add_one_sub_one, fcl]
    have hd : Lib.decodeL (x :: y :: m) = if y.toNat / 64 = 2 then (if 128 ≤ x.toNat % 32 * 64 + y.toNat % 64 then (x.toNat % 32 * 64 + y.toNat % 64, 2) else (65533, 1)) else (65533, 1) := by
      rw [Lib.decodeL_N]; unfold Lib.decodeN
      simp only [List.length_cons, List.getD_cons_zero, List.getD_cons_succ]
      rw [if_neg (by omega)]
      by_cases hq : y.toNat / 64 = 2
      · rw [if_pos ⟨by omega, by omega, hq⟩, if_pos hq]
      · rw [if_neg (fun e => hq e.2.2), if_neg hq, if_neg (by omega), if_neg (by omega)]
    by_cases hb : y.toNat < 128 ∨ 191 < y.toNat
    · rw [if_pos hb]
      rw [if_neg (by omega)] at hd
      rw [frs_bad hd]
    · rw [if_neg hb]
      rw [if_pos (by omega)] at hd
      simp only
      have hc : 64 * (x.toNat - 192) + y.toNat - 128 = x.toNat % 32 * 64 + y.toNat % 64 := by omega
      rw [hc]
      by_cases hq : 128 ≤ x.toNat % 32 * 64 + y.toNat % 64
      · rw [if_pos hq] at hd
        rw [frs_good (by simp) hd (by omega), fend_good (by unfold bdc; omega)]
        unfold sgn
        rw [if_neg (by omega), if_pos (by omega)]
        simp only [List.take_succ_cons, List.take_zero]
        rw [u8_of (x := x) (by omega), u8_of (x := y) (by omega)]
      · rw [if_neg hq] at hd
        rw [frs_bad hd, fend_bad (.inr fun e => ?_)]
        have := congrArg List.length e
        rw [sgn_len, if_pos (by omega)] at this
        simp at this
theorem fst_3 {x : UInt8} {m : List UInt8} (h1 : 224 ≤ x.toNat) (h2 : x.toNat < 240) : fgo 3 (x.toNat - 224) (x :: m) = frs (x :: m) := by
  match m with
  | [] =>
    rw [frs_bad]
    · unfold fgo; rw [if_pos (by simp)]
    · rw [Lib.decodeL_N]; unfold Lib.decodeN
      simp only [List.length_cons, List.length_nil, List.getD_cons_zero]
      rw [if_neg (by omega), if_neg (by omega), if_neg (by omega), if_neg (by omega)]
  | [y] =>
    rw [frs_bad]
    · unfold fgo; rw [if_pos (by simp)]
    · rw [Lib.decodeL_N]; unfold Lib.decodeN
      simp only [List.length_cons, List.length_nil, List.getD_cons_zero]
      rw [if_neg (by omega), if_neg (by omega), if_neg (by omega), if_neg (by omega)]
  | y :: z :: m =>
    have hy := y.toNat_lt
    have hz := z.toNat_lt
    unfold fgo
    rw [if_neg (by simp)]
    simp only [List.tail_cons, Nat.reduceSub, fcl]
    have hd : Lib.decodeL (x :: y :: z :: m) = if y.toNat / 64 = 2 ∧ z.toNat / 64 = 2 then (if 2048 ≤ x.toNat % 16 * 4096 + y.toNat % 64 * 64 + z.toNat % 64 ∧ (x.toNat % 16 * 4096 + y.toNat % 64 * 64 + z.toNat % 64 < 55296 ∨ 57344 ≤ x.toNat % 16 * 4096 + y.toNat % 64 * 64 + z.toNat % 64) then (x.toNat % 16 * 4096 + y.toNat % 64 * 64 + z.toNat % 64, 3) else (65533, 1)) else (65533, 1) := by
      rw [Lib.decodeL_N]; unfold Lib.decodeN
      simp only [List.length_cons, List.getD_cons_zero, List.getD_cons_succ]
      rw [if_neg (by omega), if_neg (by omega)]
      by_cases hq : y.toNat / 64 = 2 ∧ z.toNat / 64 = 2
      · rw [if_pos ⟨by omega, ⟨by omega, hq.1⟩, by omega, hq.2⟩, if_pos hq]
        by_cases hv : 2048 ≤ x.toNat % 16 * 4096 + y.toNat % 64 * 64 + z.toNat % 64 ∧ (x.toNat % 16 * 4096 + y.toNat % 64 * 64 + z.toNat % 64 < 55296 ∨ 57344 ≤ x.toNat % 16 * 4096 + y.toNat % 64 * 64 + z.toNat % 64)
        · rw [if_pos ⟨hv.1, by omega⟩, if_pos hv]
        · rw [if_neg (by omega), if_neg hv]
      · rw [if_neg (fun e => hq ⟨e.2.1.2, e.2.2.2⟩), if_neg hq, if_neg (by omega)]
    by_cases hb : y.toNat < 128 ∨ 191 < y.toNat
    · rw [if_pos hb]
      rw [if_neg (by omega)] at hd
      rw [frs_bad hd]
    · rw [if_neg hb]
      by_cases hb2 : z.toNat < 128 ∨ 191 < z.toNat
      · rw [if_pos hb2]
        rw [if_neg (by omega)] at hd
        rw [frs_bad hd]
      · rw [if_neg hb2]
        rw [if_pos (by omega)] at hd
        simp only
        have hc : 64 * (64 * (x.toNat - 224) + y.toNat - 128) + z.toNat - 128 = x.toNat % 16 * 4096 + y.toNat % 64 * 64 + z.toNat % 64 := by omega
        rw [hc]
        generalize hC : x.toNat % 16 * 4096 + y.toNat % 64 * 64 + z.toNat % 64 = C at *
        by_cases hq : 2048 ≤ C ∧ (C < 55296 ∨ 57344 ≤ C)
        · rw [if_pos hq] at hd
          rw [frs_good (by simp) hd (by omega), fend_good (by unfold bdc; omega)]
          unfold sgn
          rw [if_neg (by omega), if_neg (by omega), if_pos (by omega)]
          simp only [List.take_succ_cons, List.take_zero]
          rw [u8_of (x := x) (by omega), u8_of (x := y) (by omega), u8_of (x := z) (by omega)]
        · rw [if_neg hq] at hd
          rw [frs_bad hd]
          by_cases hs : 2048 ≤ C
          · exact fend_bad (.inl (by unfold bdc; omega))
          · refine fend_bad (.inr fun e => ?_)
            have := congrArg List.length e
            rw [sgn_len] at this
            simp only [List.take_succ_cons, List.take_zero, List.length_cons, List.length_nil] at this
            split at this
            · omega
            · rw [if_pos (by omega)] at this; omega
theorem fst_4 {x : UInt8} {m : List UInt8} (h1 : 240 ≤ x.toNat) : fgo 4 (x.toNat - 240) (x :: m) = frs (x :: m) := by
  have hx := x.toNat_lt
  match m with
  | [] =>
    rw [frs_bad]
    · unfold fgo; rw [if_pos (by simp)]
    · rw [Lib.decodeL_N]; unfold Lib.decodeN
      simp only [List.length_cons, List.length_nil, List.getD_cons_zero]
      rw [if_neg (by omega), if_neg (by omega), if_neg (by omega), if_neg (by omega)]
  | [y] =>
    rw [frs_bad]
    · unfold fgo; rw [if_pos (by simp)]
    · rw [Lib.decodeL_N]; unfold Lib.decodeN
      simp only [List.length_cons, List.length_nil, List.getD_cons_zero]
      rw [if_neg (by omega), if_neg (by omega), if_neg (by omega), if_neg (by omega)]
  | [y, z] =>
    rw [frs_bad]
    · unfold fgo; rw [if_pos (by simp)]
    · rw [Lib.decodeL_N]; unfold Lib.decodeN
      simp only [List.length_cons, List.length_nil, List.getD_cons_zero]
      rw [if_neg (by omega), if_neg (by omega), if_neg (by omega), if_neg (by omega)]
  | y :: z :: u :: m =>
    have hy := y.toNat_lt
    have hz := z.toNat_lt
    have hu := u.toNat_lt
    unfold fgo
    rw [if_neg (by simp)]
    simp only [List.tail_cons, Nat.reduceSub, fcl]
    have hd : Lib.decodeL (x :: y :: z :: u :: m) = if x.toNat < 248 ∧ y.toNat / 64 = 2 ∧ z.toNat / 64 = 2 ∧ u.toNat / 64 = 2 then (if 65536 ≤ x.toNat % 8 * 262144 + y.toNat % 64 * 4096 + z.toNat % 64 * 64 + u.toNat % 64 ∧ x.toNat % 8 * 262144 + y.toNat % 64 * 4096 + z.toNat % 64 * 64 + u.toNat % 64 ≤ 1114111 then (x.toNat % 8 * 262144 + y.toNat % 64 * 4096 + z.toNat % 64 * 64 + u.toNat % 64, 4) else (65533, 1)) else (65533, 1) := by
      rw [Lib.decodeL_N]; unfold Lib.decodeN
      simp only [List.length_cons, List.getD_cons_zero, List.getD_cons_succ]
      rw [if_neg (by omega), if_neg (by omega), if_neg (by omega)]
      by_cases hq : x.toNat < 248 ∧ y.toNat / 64 = 2 ∧ z.toNat / 64 = 2 ∧ u.toNat / 64 = 2
      · obtain ⟨q1, q2, q3, q4⟩ := hq
        rw [if_pos ⟨by omega, ⟨by omega, q2⟩, ⟨by omega, q3⟩, by omega, q4⟩, if_pos (show x.toNat < 248 ∧ y.toNat / 64 = 2 ∧ z.toNat / 64 = 2 ∧ u.toNat / 64 = 2 from ⟨q1, q2, q3, q4⟩)]
        by_cases hv : 65536 ≤ x.toNat % 8 * 262144 + y.toNat % 64 * 4096 + z.toNat % 64 * 64 + u.toNat % 64 ∧ x.toNat % 8 * 262144 + y.toNat % 64 * 4096 + z.toNat % 64 * 64 + u.toNat % 64 ≤ 1114111
        · rw [if_pos ⟨hv.1, by omega⟩, if_pos hv]
        · rw [if_neg (by omega), if_neg hv]
      · rw [if_neg (fun e => hq ⟨by omega, e.2.1.2, e.2.2.1.2, e.2.2.2.2⟩), if_neg hq]
    by_cases hb : y.toNat < 128 ∨ 191 < y.toNat
    · rw [if_pos hb]
      rw [if_neg (by omega)] at hd
      rw [frs_bad hd]
    · rw [if_neg hb]
      by_cases hb2 : z.toNat < 128 ∨ 191 < z.toNat
      · rw [if_pos hb2]
        rw [if_neg (by omega)] at hd
        rw [frs_bad hd]
      · rw [if_neg hb2]
        by_cases hb3 : u.toNat < 128 ∨ 191 < u.toNat
        · rw [if_pos hb3]
          rw [if_neg (by omega)] at hd
          rw [frs_bad hd]
        · rw [if_neg hb3]
          simp only
          by_cases hx8 : x.toNat < 248
          · rw [if_pos ⟨hx8, by omega, by omega, by omega⟩] at hd
            have hc : 64 * (64 * (64 * (x.toNat - 240) + y.toNat - 128) + z.toNat - 128) + u.toNat - 128 = x.toNat % 8 * 262144 + y.toNat % 64 * 4096 + z.toNat % 64 * 64 + u.toNat % 64 := by omega
            rw [hc]
            generalize hC : x.toNat % 8 * 262144 + y.toNat % 64 * 4096 + z.toNat % 64 * 64 + u.toNat % 64 = C at *
            by_cases hq : 65536 ≤ C ∧ C ≤ 1114111
            · rw [if_pos hq] at hd
              rw [frs_good (by simp) hd (by omega), fend_good (by unfold bdc; omega)]
              unfold sgn
              rw [if_neg (by omega), if_neg (by omega), if_neg (by omega)]
              simp only [List.take_succ_cons, List.take_zero]
              rw [u8_of (x := x) (by omega), u8_of (x := y) (by omega), u8_of (x := z) (by omega), u8_of (x := u) (by omega)]
            · rw [if_neg hq] at hd
              rw [frs_bad hd]
              by_cases hs : 65536 ≤ C
              · exact fend_bad (.inl (by unfold bdc; omega))
              · refine fend_bad (.inr fun e => ?_)
                have := congrArg List.length e
                rw [sgn_len] at this
                simp only [List.take_succ_cons, List.take_zero, List.length_cons, List.length_nil] at this
                split at this
                · omega
                · split at this
                  · omega
                  · rw [if_pos (by omega)] at this; omega
          · rw [if_neg (by omega)] at hd
            rw [frs_bad hd]
            exact fend_bad (.inl (by unfold bdc; omega))
theorem fst_eq (l : List UInt8) : fstR l = frs l := by
  cases l with
  | nil => rfl
  | cons x m =>
    rw [fst_c]
    by_cases h1 : x.toNat < 128
    · rw [if_pos h1, frs_good (by simp) (Lib.decodeL_ascii x m h1) (by omega)]
      unfold fgo
      rw [if_neg (by simp)]
      simp only [Nat.sub_self, fcl]
      refine fend_good (by unfold bdc; omega) ?_
      unfold sgn
      rw [if_pos h1]
      simp
    rw [if_neg h1]
    by_cases h2 : x.toNat < 192
    · rw [if_pos h2, frs_bad]
      rw [Lib.decodeL_N]; unfold Lib.decodeN
      simp only [List.getD_cons_zero]
      rw [if_neg (by omega), if_neg (by omega), if_neg (by omega), if_neg (by omega)]
    rw [if_neg h2]
    by_cases h3 : x.toNat < 224
    · rw [if_pos h3]; exact fst_2 (by omega) h3
    rw [if_neg h3]
    by_cases h4 : x.toNat < 240
    · rw [if_pos h4]; exact fst_3 (by omega) h4
    · rw [if_neg h4]; exact fst_4 (by omega)
theorem BsA.drop {w : World} {b o n cap : Nat} {l : List UInt8} (h : BsA w (.slice (some ⟨b, o, none⟩) n cap) l) (k c : Nat) : BsA w (.slice (some ⟨b, o + k, none⟩) (l.length - k) c) (l.drop k) := by
  obtain ⟨a', cap', e, h⟩ := h
  cases e
  refine ⟨_, c, by rw [List.length_drop], ?_⟩
  rcases h with rfl | ⟨b', o', e, hb, hc⟩
  · left; simp
  · cases e
    right
    refine ⟨b, o + k, rfl, hb, fun j x hj => ?_⟩
    rw [List.getElem?_drop] at hj
    have := hc (k + j) x hj
    rwa [← Nat.add_assoc] at this
structure Tg (sl : Value) (B : List UInt8) (g p : Nat) (bad : Bool) (w : World) : Prop where
  box : w.heap[g]? = some (.cells #[sl, .int .i64 (p : Nat), .bool bad] 60 (0, 0))
  bs : BsA w sl B
  ng : B ≠ [] → ∀ a n c, sl = .slice (some a) n c → a.block ≠ g
  cp : ∀ a n c, sl = .slice a n c → n ≤ c
theorem BsA.same {w w' : World} {v : Value} {l : List UInt8} (h : BsA w v l) (hs : w.heap.size ≤ w'.heap.size) (hk : l ≠ [] → ∀ a n c, v = .slice (some a) n c → a.block < w.heap.size → w'.heap[a.block]? = w.heap[a.block]?) : BsA w' v l := by
  by_cases hl : l = []
  · obtain ⟨a, cap, rfl, _⟩ := h
    exact ⟨a, cap, rfl, .inl hl⟩
  replace hk := hk hl
  obtain ⟨a, cap, rfl, h | ⟨b, o, rfl, hb, hc⟩⟩ := h
  · exact absurd h hl
  · exact ⟨_, cap, rfl, .inr ⟨b, o, rfl, by omega, fun j x hj => by
    rw [World.cell?_of_block (a := ⟨b, o + j, none⟩) (w := w) (hk ⟨b, o, none⟩ _ _ rfl hb)]; exact hc j x hj⟩⟩
section
variable {sl : Value} {B : List UInt8} {g p : Nat} {bad : Bool} {w w' : World}
theorem Tg.lt (h : Tg sl B g p bad w) : g < w.heap.size := (Array.getElem?_eq_some_iff.1 h.box).1
theorem Tg.c0 (h : Tg sl B g p bad w) : w.cell? ⟨g, 0, none⟩ = some sl := by simp [World.cell?, h.box]
theorem Tg.c1 (h : Tg sl B g p bad w) : w.cell? ⟨g, 1, none⟩ = some (.int .i64 (p : Nat)) := by simp [World.cell?, h.box]
theorem Tg.c2 (h : Tg sl B g p bad w) : w.cell? ⟨g, 2, none⟩ = some (.bool bad) := by simp [World.cell?, h.box]
theorem Tg.fr (h : Tg sl B g p bad w) (k : Nat) : w.frozen? ⟨g, k, none⟩ = false := by simp [World.frozen?, h.box]
theorem Tg.kept (h : Tg sl B g p bad w) (hs : w.heap.size ≤ w'.heap.size) (hk : ∀ k, k < w.heap.size → w'.heap[k]? = w.heap[k]?) : Tg sl B g p bad w' :=
  ⟨(hk g h.lt).trans h.box, h.bs.same hs fun _ _ _ _ _ ha => hk _ ha, h.ng, h.cp⟩
theorem Tg.later (h : Tg sl B g p bad w) (hb : Below w.heap.size w w') : Tg sl B g p bad w' := h.kept hb.size hb.block
theorem Tg.row {q : Nat} {bad' : Bool} (h : Tg sl B g p bad w) : Tg sl B g q bad' (w.setRow g #[sl, .int .i64 (q : Nat), .bool bad']) :=
  ⟨setRow_heap w g _ _ _ _ h.box, h.bs.same (by simp [World.setRow]) fun hl a n c e _ => setRow_other w g _ _ (h.ng hl a n c e), h.ng, h.cp⟩
theorem Tg.set1 (h : Tg sl B g p bad w) (q : Nat) : Tg sl B g q bad (w.setCell ⟨g, 1, none⟩ (.int .i64 (q : Nat))) ∧ Kg g w (w.setCell ⟨g, 1, none⟩ (.int .i64 (q : Nat))) := by
  have e : w.setCell ⟨g, 1, none⟩ (.int .i64 (q : Nat)) = w.setRow g #[sl, .int .i64 (q : Nat), .bool bad] := by
    rw [setCell_eq_setRow w g 1 _ _ (0, 0) _ h.box]; rfl
  rw [e]
  exact ⟨h.row, Kg.row _⟩
end
section
variable {sl : Value} {B : List UInt8} {g p : Nat} {bad : Bool} {w w' : World}
end
section
variable {sl : Value} {B : List UInt8} {g p : Nat} {bad : Bool} {w w' : World}
end
section
variable {sl : Value} {B : List UInt8} {g p : Nat} {w w' : World}
end
section
variable {sl : Value} {B : List UInt8} {g p : Nat} {w w' : World}
end
section
variable {sl : Value} {B : List UInt8} {g p : Nat} {w w' : World}
end
theorem fend_ok {n c c' s : Nat} {l : List UInt8} (h : fend n c l = (c', s)) (hs : s ≠ 0) : c' = c ∧ s = n ∧ sgn c' = l.take s ∧ ¬ bdc c' := by
  unfold fend at h
  split at h
  · cases h; exact absurd rfl hs
  · rename_i hn
    cases h
    exact ⟨rfl, rfl, by by_cases e : sgn c = l.take n
                        · exact e
                        · exact absurd (.inr e) hn, fun e => hn (.inl e)⟩
theorem fgo_ok {n c0 c s : Nat} {l : List UInt8} (h : fgo n c0 l = (c, s)) (hs : s ≠ 0) : s = n ∧ s ≤ l.length ∧ sgn c = l.take s ∧ ¬ bdc c := by
  unfold fgo at h
  split at h
  · cases h; exact absurd rfl hs
  · split at h
    · cases h; exact absurd rfl hs
    · obtain ⟨_, e2, e3, e4⟩ := fend_ok h hs
      exact ⟨e2, by omega, e3, e4⟩
theorem frs_ok {l : List UInt8} {c s : Nat} (h : frs l = (c, s)) (hs : s ≠ 0) : s ≤ l.length ∧ sgn c = l.take s ∧ ¬ bdc c ∧ Lib.decodeL l = (c, s) ∧ l ≠ [] ∧ ¬ (c = 65533 ∧ s = 1) := by
  have h2 := h
  rw [← fst_eq] at h2
  have h3 : l ≠ [] ∧ Lib.decodeL l = (c, s) ∧ ¬ (c = 65533 ∧ s = 1) := by
    unfold frs at h
    split at h
    · cases h; exact absurd rfl hs
    · rename_i hn
      exact ⟨fun e => hn (.inl e), h, fun e => hn (.inr (by rw [h]; exact e))⟩
  have h4 : s ≤ l.length ∧ sgn c = l.take s ∧ ¬ bdc c := by
    cases l with
    | nil => cases h2; exact absurd rfl hs
    | cons x m =>
      rw [fst_c] at h2
      split at h2
      · exact (fgo_ok h2 hs).2
      · split at h2
        · cases h2; exact absurd rfl hs
        · split at h2
          · exact (fgo_ok h2 hs).2
          · split at h2
            · exact (fgo_ok h2 hs).2
            · exact (fgo_ok h2 hs).2
  exact ⟨h4.1, h4.2.1, h4.2.2, h3.2.1, h3.1, h3.2.2⟩
theorem enc_sgn {c : Nat} (h : ¬ bdc c) : enc c = sgn c := by
  unfold bdc at h
  unfold enc sgn Lib.encodeRune
  by_cases h1 : c < 128
  · rw [Lib.encodeRuneZ_one (by omega) (by omega), if_pos h1]
    simp only [List.map_cons, List.map_nil, Int.toNat_natCast]
  rw [if_neg h1]
  by_cases h2 : c < 2048
  · rw [Lib.encodeRuneZ_two (by omega) (by omega), if_pos h2]
    simp only [List.map_cons, List.map_nil]
    rw [show (192 + (c : Int) / 64).toNat = 192 + c / 64 by omega, show (128 + (c : Int) % 64).toNat = 128 + c % 64 by omega]
  rw [if_neg h2]
  by_cases h3 : c < 65536
  · rw [Lib.encodeRuneZ_three (by omega), if_pos h3]
    simp only [List.map_cons, List.map_nil]
    rw [show (224 + (c : Int) / 4096).toNat = 224 + c / 4096 by omega, show (128 + (c : Int) / 64 % 64).toNat = 128 + c / 64 % 64 by omega, show (128 + (c : Int) % 64).toNat = 128 + c % 64 by omega]
  · rw [Lib.encodeRuneZ_four (by omega) (by omega), if_neg h3]
    simp only [List.map_cons, List.map_nil]
    rw [show (240 + (c : Int) / 262144).toNat = 240 + c / 262144 by omega, show (128 + (c : Int) / 4096 % 64).toNat = 128 + c / 4096 % 64 by omega, show (128 + (c : Int) / 64 % 64).toNat = 128 + c / 64 % 64 by omega, show (128 + (c : Int) % 64).toNat = 128 + c % 64 by omega]
theorem hp_cons {c x : UInt8} {m : List UInt8} : hp [c] (x :: m) = (c == x) := by
  unfold hp
  simp [List.isPrefixOf]
theorem hp_ne {c x : UInt8} {m : List UInt8} (h : c.toNat ≠ x.toNat) : hp [c] (x :: m) = false := by
  rw [hp_cons, beq_eq_false_iff_ne]
  intro e
  exact h (by rw [e])
theorem ltr_no {l : List UInt8} {c : Nat} (h : frs l = (c, 0)) : hp [34] l = false ∧ ltr l = none := by
  cases l with
  | nil => exact ⟨rfl, rfl⟩
  | cons x m =>
    have hd : (Lib.decodeL (x :: m)).1 = 65533 ∧ (Lib.decodeL (x :: m)).2 = 1 := by
      unfold frs at h
      split at h
      · rename_i hn
        exact hn.resolve_left (by simp)
      · have := Lib.decodeL_width (x :: m)
        rw [h] at this
        simp at this
    have hx : 128 ≤ x.toNat := by
      rcases Nat.lt_or_ge x.toNat 128 with hx | hx
      · rw [Lib.decodeL_ascii x m hx] at hd
        have := hd.1
        simp at this
        omega
      · exact hx
    have h34 : hp [34] (x :: m) = false := hp_ne (by show 34 ≠ _; omega)
    have h92 : hp [92] (x :: m) = false := hp_ne (by show 92 ≠ _; omega)
    refine ⟨h34, ?_⟩
    unfold ltr pln
    rw [h92, if_neg (by simp), dec_go, if_pos (.inr ⟨hd.1, by omega⟩)]
theorem f4_bd : ∀ {k n : Nat} {l : List UInt8} {c : Nat}, f4 k n l = some c → c < (n + 1) * 16 ^ k
  | 0, n, l, c, h => by
    rw [f4] at h
    cases h
    simp
  | k + 1, n, [], c, h => by cases h
  | k + 1, n, b :: l, c, h => by
    rw [f4] at h
    cases hf : fg b.toNat with
    | none => rw [hf] at h; cases h
    | some d =>
      rw [hf] at h
      have h1 := f4_bd h
      have h2 := fg_lt hf
      have h3 : (n * 16 + d + 1) * 16 ^ k ≤ ((n + 1) * 16) * 16 ^ k := Nat.mul_le_mul_right _ (by omega)
      rw [Nat.pow_succ, Nat.mul_comm (16 ^ k) 16, ← Nat.mul_assoc]
      omega
theorem f4_l6 {l : List UInt8} {c : Nat} (h : f4 4 0 l = some c) : c < 65536 := by
  have := f4_bd h
  simpa using this
theorem esc_ok {l r : List UInt8} {c : Nat} (h : esc l = some (c, r)) : ¬ bdc c := by
  cases l with
  | nil => cases h
  | cons b t =>
    have h : escN b.toNat t = some (c, r) := h
    unfold escN at h
    unfold bdc
    split at h
    · cases h; omega
    · split at h
      · cases h; omega
      · split at h
        · cases h; omega
        · split at h
          · cases h; omega
          · split at h
            · cases h; omega
            · split at h
              · cases h; omega
              · split at h
                · unfold cdd at h
                  split at h
                  · cases h
                  · rename_i c4 h4
                    split at h
                    · rename_i hc
                      rw [Option.some.injEq, Prod.mk.injEq] at h
                      obtain ⟨rfl, _⟩ := h
                      have : c4 < 65536 := f4_l6 h4
                      omega
                    · rename_i hc
                      split at h
                      · cases h
                      · rename_i hc2
                        split at h
                        · split at h
                          · cases h
                          · rename_i x h5
                            split at h
                            · cases h
                            · rename_i hx
                              rw [Option.some.injEq, Prod.mk.injEq] at h
                              obtain ⟨rfl, _⟩ := h
                              omega
                        · cases h
                · cases h
theorem valid_app : ∀ (k : Nat) {a b : List UInt8}, a.length ≤ k → Lib.validD a = true → Lib.validD (a ++ b) = Lib.validD b
  | 0, a, b, hk, _ => by
    have : a = [] := List.length_eq_zero_iff.1 (by omega)
    rw [this]; rfl
  | k + 1, a, b, hk, h => by
    by_cases ha : a = []
    · rw [ha]; rfl
    have h2 := h
    rw [Lib.validD_step a ha] at h2
    by_cases hbad : (Lib.decodeL a).1 = 65533 ∧ (Lib.decodeL a).2 = 1
    · rw [if_pos hbad] at h2; cases h2
    rw [if_neg hbad] at h2
    obtain ⟨q, e1, e2, e3, e4⟩ := dec_sw ha hbad
    have hw := Lib.decodeL_width a
    have e5 : Lib.decodeL (a ++ b) = Lib.decodeL a := by
      have : a ++ b = q ++ (a.drop (Lib.decodeL a).2 ++ b) := by rw [← List.append_assoc, ← e1]
      rw [this]; exact e4 _
    have hl := Lib.decodeL_le a ha
    rw [Lib.validD_step (a ++ b) (by simp [ha]), e5, if_neg hbad, List.drop_append_of_le_length hl]
    exact valid_app k (by rw [List.length_drop]; omega) h2
theorem sgn_ne0 (c : Nat) : sgn c ≠ [] := by
  unfold sgn
  split
  · simp
  · split
    · simp
    · split <;> simp
theorem fend_sgn {n c : Nat} {l : List UInt8} (hb : ¬ bdc c) (h : l = sgn c) (hn : l.length = n) : fend n c l = (c, n) := by
  unfold fend
  rw [if_neg]
  rintro (e | e)
  · exact hb e
  · exact e (by rw [← hn, List.take_length, h])
theorem fst_sgn {c : Nat} (h : ¬ bdc c) : fstR (sgn c) = (c, (sgn c).length) := by
  have hb := h
  unfold bdc at hb
  obtain ⟨l, hl⟩ : ∃ l, l = sgn c := ⟨_, rfl⟩
  rw [← hl]
  have hl2 := hl
  unfold sgn at hl2
  by_cases h1 : c < 128
  · rw [if_pos h1] at hl2
    rw [hl2, fst_c, of_u8 (by omega), if_pos h1, ← hl2]
    have hlen : l.length = 1 := by rw [hl2]; rfl
    unfold fgo
    rw [if_neg (by omega), hlen]
    exact fend_sgn h hl hlen
  rw [if_neg h1] at hl2
  by_cases h2 : c < 2048
  · rw [if_pos h2] at hl2
    have hlen : l.length = 2 := by rw [hl2]; rfl
    rw [hl2, fst_c, of_u8 (by omega), if_neg (by omega), if_neg (by omega), if_pos (by omega), ← hl2]
    have hf : fcl (192 + c / 64 - 192) (2 - 1) l.tail = some c := by
      rw [hl2]
      show fcl (192 + c / 64 - 192) 1 [UInt8.ofNat (128 + c % 64)] = some c
      rw [fcl, of_u8 (by omega), if_neg (by omega), fcl]
      refine congrArg some ?_
      omega
    unfold fgo
    rw [if_neg (by omega), hf, hlen]
    exact fend_sgn h hl hlen
  rw [if_neg h2] at hl2
  by_cases h3 : c < 65536
  · rw [if_pos h3] at hl2
    have hlen : l.length = 3 := by rw [hl2]; rfl
    rw [hl2, fst_c, of_u8 (by omega), if_neg (by omega), if_neg (by omega), if_neg (by omega), if_pos (by omega), ← hl2]
    have hf : fcl (224 + c / 4096 - 224) (3 - 1) l.tail = some c := by
      rw [hl2]
      show fcl (224 + c / 4096 - 224) 2 [UInt8.ofNat (128 + c / 64 % 64), UInt8.ofNat (128 + c % 64)] = some c
      rw [fcl, of_u8 (by omega), if_neg (by omega), fcl, of_u8 (by omega), if_neg (by omega), fcl]
      refine congrArg some ?_
      omega
    unfold fgo
    rw [if_neg (by omega), hf, hlen]
    exact fend_sgn h hl hlen
  · rw [if_neg h3] at hl2
    have hlen : l.length = 4 := by rw [hl2]; rfl
    rw [hl2, fst_c, of_u8 (by omega), if_neg (by omega), if_neg (by omega), if_neg (by omega), if_neg (by omega), ← hl2]
    have hf : fcl (240 + c / 262144 - 240) (4 - 1) l.tail = some c := by
      rw [hl2]
      show fcl (240 + c / 262144 - 240) 3 [UInt8.ofNat (128 + c / 4096 % 64), UInt8.ofNat (128 + c / 64 % 64), UInt8.ofNat (128 + c % 64)] = some c
      rw [fcl, of_u8 (by omega), if_neg (by omega), fcl, of_u8 (by omega), if_neg (by omega), fcl, of_u8 (by omega), if_neg (by omega), fcl]
      refine congrArg some ?_
      omega
    unfold fgo
    rw [if_neg (by omega), hf, hlen]
    exact fend_sgn h hl hlen
theorem enc_valid {c : Nat} (h : ¬ bdc c) : Lib.validD (enc c) = true := by
  rw [enc_sgn h]
  have hl : (sgn c).length ≠ 0 := fun e => sgn_ne0 c (List.length_eq_zero_iff.1 e)
  have hf := fst_sgn h
  rw [fst_eq] at hf
  obtain ⟨_, _, _, h4, h5, h6⟩ := frs_ok hf hl
  rw [Lib.validD_step _ h5, h4, if_neg h6, List.drop_length]
  rfl
theorem ql_valid : ∀ (n : Nat) {out l s r : List UInt8}, Lib.validD out = true → ql n out l = some (s, r) → Lib.validD s = true
  | n, out, l, s, r, ho, h => by
    cases hh : hp [34] l with
    | true => rw [ql_end hh] at h; cases h; exact ho
    | false =>
      cases hl : ltr l with
      | none => rw [ql_non hh hl] at h; cases h
      | some x =>
        obtain ⟨c, q⟩ := x
        cases n with
        | zero => rw [ql, if_neg (by simp [hh]), hl] at h; cases h
        | succ n =>
          rw [ql_go hh hl] at h
          refine ql_valid n ?_ h
          rw [valid_app _ (Nat.le_refl _) ho]
          refine enc_valid ?_
          unfold ltr at hl
          split at hl
          · exact esc_ok hl
          · cases hf : frs l with
            | mk c2 s2 =>
              by_cases hs : s2 = 0
              · subst hs
                have := (ltr_no hf).2
                unfold ltr at this
                rename_i h92
                rw [if_neg h92] at this
                rw [this] at hl; cases hl
              · obtain ⟨g1, g2, g3, g4, g5, g6⟩ := frs_ok hf hs
                cases l with
                | nil => exact absurd rfl g5
                | cons x m =>
                  unfold pln at hl
                  rw [dec_go, g4] at hl
                  split at hl
                  · cases hl
                  · cases hl; exact g3
theorem qt_valid {l s r : List UInt8} (h : qt l = some (s, r)) : Lib.validD s = true := by
  unfold qt at h
  split at h
  · exact ql_valid _ rfl h
  · cases h
theorem nm_rng {l r : List UInt8} {i : Int} (h : nm l = some (i, r)) : inR i = true := by
  unfold nm at h
  cases hq : nmO (hp [45] l) ((tk [45] l).takeWhile dg) with
  | none => rw [hq] at h; cases h
  | some k =>
    rw [hq] at h
    cases h
    unfold nmO at hq
    split at hq
    · cases hq
    · rename_i hn
      have : ¬ 9007199254740991 < dgs ((tk [45] l).takeWhile dg) := fun e => hn (.inr (.inr (.inl e)))
      rw [Option.some.injEq] at hq
      unfold inR
      rw [← hq]
      apply decide_eq_true
      split <;> omega
theorem pv_gd : ∀ (n : Nat) (l : List UInt8) (x : T) (r : List UInt8), pv n l = some (x, r) → l.length ≤ 4096 → gd n x = true
  | n, l, x, r, h, hN => by
    have a := sk_le l
    unfold pv at h
    generalize sk l = m at *
    cases m with
    | nil => cases h
    | cons b m =>
      simp only at h
      split at h
      · split at h
        · cases h; unfold gd; rfl
        · cases h
      · split at h
        · split at h
          · cases h; unfold gd; rfl
          · cases h
        · split at h
          · split at h
            · cases h; unfold gd; rfl
            · cases h
          · split at h
            · split at h
              · cases h
              · rename_i hq
                cases h
                have := qt_valid hq
                unfold gd
                rw [spB_f (by simp) (by simp) (by simp) (by simp)]
                simpa using this
            · split at h
              · cases n with
                | zero => cases h
                | succ n =>
                  simp only at h
                  split at h
                  · cases h
                  · rename_i hq
                    cases h
                    obtain ⟨g1, g2⟩ := rw_all (N := 4096) (Pp := fun x => gd n x = true) (fun l x r h hl => ⟨pv_gd n l x r h hl, pv_le n l x r h⟩) hq (by omega)
                    unfold gd
                    rw [spB_f (by simp) (by simp) (by simp) (by simp)]
                    simpa using g1
              · split at h
                · cases n with
                  | zero => cases h
                  | succ n =>
                    simp only at h
                    split at h
                    · cases h
                    · rename_i hq
                      split at h
                      · rename_i honc
                        cases h
                        obtain ⟨g1, g2⟩ := rw_all (N := 4096) (Pp := fun q : List UInt8 × T => Lib.validD q.1 = true ∧ gd n q.2 = true) (fun l x r h hl => by
                          refine ⟨?_, pr_le (pv_le n) h⟩
                          unfold pr at h
                          have b1 := sk_le l
                          split at h
                          · cases h
                          · rename_i s q hq
                            have b2 := qt_le hq
                            have b3 := sk_le q
                            have b4 := tk_le [58] (sk q)
                            split at h
                            · split at h
                              · cases h
                              · rename_i v t hv
                                cases h
                                exact ⟨qt_valid hq, pv_gd n _ _ _ hv (by omega)⟩
                            · cases h) hq (by omega)
                        unfold gd
                        rw [spB_f (by simp) (by simp) (by simp) (by simp)]
                        simp only [Bool.not_false, Bool.true_and]
                        rw [if_neg (by omega), if_neg (by omega), if_neg (by omega), if_neg (by omega), if_neg (by omega)]
                        simp only [if_true]
                        rw [honc, Bool.and_true, List.all_eq_true]
                        intro q hq
                        rw [(g1 q hq).1, (g1 q hq).2]
                        rfl
                      · cases h
                · split at h
                  · cases h
                  · rename_i hq
                    cases h
                    have := nm_rng hq
                    unfold gd
                    rw [spB_f (by simp) (by simp) (by simp) (by simp)]
                    simpa using this
theorem enc_le4 {c : Nat} (h : ¬ bdc c) : (enc c).length ≤ 4 := by
  rw [enc_sgn h]
  unfold sgn
  split
  · simp
  · split
    · simp
    · split <;> simp
theorem ltr_ok {l r : List UInt8} {c : Nat} (hl : ltr l = some (c, r)) : ¬ bdc c := by
  have hl0 := hl
  unfold ltr at hl
  split at hl
  · exact esc_ok hl
  · cases hf : frs l with
    | mk c2 s2 =>
      by_cases hs : s2 = 0
      · subst hs
        rw [(ltr_no hf).2] at hl0; cases hl0
      · obtain ⟨g1, g2, g3, g4, g5, g6⟩ := frs_ok hf hs
        cases l with
        | nil => exact absurd rfl g5
        | cons x m =>
          unfold pln at hl
          rw [dec_go, g4] at hl
          split at hl
          · cases hl
          · cases hl; exact g3
theorem ql_l4 : ∀ (n : Nat) {out l s r : List UInt8}, ql n out l = some (s, r) → s.length ≤ out.length + 4 * l.length
  | n, out, l, s, r, h => by
    cases hh : hp [34] l with
    | true => rw [ql_end hh] at h; cases h; omega
    | false =>
      cases hl : ltr l with
      | none => rw [ql_non hh hl] at h; cases h
      | some x =>
        obtain ⟨c, q⟩ := x
        cases n with
        | zero => rw [ql, if_neg (by simp [hh]), hl] at h; cases h
        | succ n =>
          rw [ql_go hh hl] at h
          have h1 := ql_l4 n h
          have h2 := ltr_lt hl
          have h3 := enc_le4 (ltr_ok hl)
          rw [List.length_append] at h1
          omega
theorem qt_l4 {l s r : List UInt8} (h : qt l = some (s, r)) : s.length ≤ 4 * l.length := by
  unfold qt at h
  split at h
  · have h1 := ql_l4 _ h
    have h2 := tk_le [34] l
    simp only [List.length_nil] at h1
    omega
  · cases h
theorem sbd_leaf {h : Nat} {k i : Int} {s : List UInt8} (hs : s.length ≤ 100000) : sbd h (.mk k i s [] []) := by
  cases h with
  | zero => exact True.intro
  | succ h => exact ⟨by omega, by simp, by simp⟩
theorem pv_sbd : ∀ (n : Nat) (l : List UInt8) (x : T) (r : List UInt8), pv n l = some (x, r) → l.length ≤ 4096 → ∀ h, sbd h x
  | n, l, x, r, h, hN, hh => by
    have a := sk_le l
    unfold pv at h
    generalize sk l = m at *
    cases m with
    | nil => cases h
    | cons b m =>
      simp only at h
      split at h
      · split at h
        · cases h; exact sbd_leaf (by simp)
        · cases h
      · split at h
        · split at h
          · cases h; exact sbd_leaf (by simp)
          · cases h
        · split at h
          · split at h
            · cases h; exact sbd_leaf (by simp)
            · cases h
          · split at h
            · split at h
              · cases h
              · rename_i hq
                cases h
                have := qt_l4 hq
                exact sbd_leaf (by omega)
            · split at h
              · cases n with
                | zero => cases h
                | succ n =>
                  simp only at h
                  split at h
                  · cases h
                  · rename_i hq
                    cases h
                    obtain ⟨g1, g2⟩ := rw_all (N := 4096) (Pp := fun x => ∀ h, sbd h x) (fun l x r h hl => ⟨pv_sbd n l x r h hl, pv_le n l x r h⟩) hq (by omega)
                    cases hh with
                    | zero => exact True.intro
                    | succ hh => exact ⟨by simp, fun t ht => g1 t ht hh, by simp⟩
              · split at h
                · cases n with
                  | zero => cases h
                  | succ n =>
                    simp only at h
                    split at h
                    · cases h
                    · rename_i hq
                      split at h
                      · cases h
                        obtain ⟨g1, g2⟩ := rw_all (N := 4096) (Pp := fun q : List UInt8 × T => q.1.length ≤ 100000 ∧ ∀ h, sbd h q.2) (fun l x r h hl => by
                          refine ⟨?_, pr_le (pv_le n) h⟩
                          unfold pr at h
                          have b1 := sk_le l
                          split at h
                          · cases h
                          · rename_i s q hq
                            have b2 := qt_le hq
                            have b3 := sk_le q
                            have b4 := tk_le [58] (sk q)
                            have b5 := qt_l4 hq
                            split at h
                            · split at h
                              · cases h
                              · rename_i v t hv
                                cases h
                                exact ⟨by show s.length ≤ 100000; omega, pv_sbd n _ _ _ hv (by omega)⟩
                            · cases h) hq (by omega)
                        cases hh with
                        | zero => exact True.intro
                        | succ hh => exact ⟨by simp, by simp, fun q hq => ⟨by have := (g1 q hq).1; omega, (g1 q hq).2 hh⟩⟩
                      · cases h
                · split at h
                  · cases h
                  · cases h; exact sbd_leaf (by simp)
end Go.Proofs.YtbemaloaobeblaaGreatDoor

namespace Go.Proofs.YtbemaloaobeblaaGreatDoor
open Go.RowKit Go.Shelf

theorem gd_head {m : Nat} {k i : Int} {s : List UInt8} {l : List T} {p : List (List UInt8 × T)} (h : gd m (.mk k i s l p) = true) : (k = 0 ∨ k = 1 ∨ k = 2 ∨ k = 3 ∨ k = 4 ∨ k = 5) ∧ (k = 2 → -9007199254740991 ≤ i ∧ i ≤ 9007199254740991) := by
  unfold gd at h
  rw [Bool.and_eq_true] at h
  have h2 := h.2
  refine ⟨?_, fun hk => ?_⟩
  · by_cases h0 : k = 0
    · exact .inl h0
    by_cases h1 : k = 1
    · exact .inr (.inl h1)
    by_cases h3 : k = 2
    · exact .inr (.inr (.inl h3))
    by_cases h4 : k = 3
    · exact .inr (.inr (.inr (.inl h4)))
    by_cases h5 : k = 4
    · exact .inr (.inr (.inr (.inr (.inl h5))))
    by_cases h6 : k = 5
    · exact .inr (.inr (.inr (.inr (.inr h6))))
    simp [h0, h1, h3, h4, h5, h6] at h2
  · subst hk
    simp [inR] at h2
    exact h2
def Vw (n : Nat) : Prop := ∀ {F : Nat → Prop} {w : World} {q m : Nat} {ov : Value} {z : List UInt8} {t : T} {c : List Value}, hgt n t → gd m t = true → VA F w t c → Fr F w q ov → Wt w q ov z → Ev w → 8 ≤ q →
  Calls Tryz.prog 37 #[.pointer (some ⟨q, 0, none⟩), .agg c.toArray] w (AnK q ov (z ++ cz n t) w)
theorem Ev.wk {w w' : World} {q : Nat} {ov ov' : Value} {z : List UInt8} (h : Ev w) (hW : Wt w q ov z) (hk : Wk q ov ov' w w') (h8 : 8 ≤ q) : Ev w' := h.same fun k hk8 => by
  have hq := (Array.getElem?_eq_some_iff.1 hW.box).1
  obtain ⟨out, ho, _⟩ := hW.own
  exact hk.block k (by omega) (by omega) fun e => by have := ho.block k e; omega
theorem vw_s {n : Nat} (ih : Vw n) : Vw (n + 1) := by
  intro F w q m ov z t c hh hg hv hF hW hT h8
  have hq := (Array.getElem?_eq_some_iff.1 hW.box).1
  cases hv with
  | @mk k ki s l p sl sp cl cp r1 r2 e1 e2 hl hp1 hp2 =>
    obtain ⟨b1, b2, hh1, hh2⟩ := hh
    obtain ⟨g1, g2, _, _⟩ := gd_list hg
    obtain ⟨hk, hr⟩ := gd_head hg
    show Calls Tryz.prog 37 #[.pointer (some ⟨q, 0, none⟩), .agg #[.int .i64 k, .int .i64 ki, .string (st s), sl, sp]] w _
    have hsame : ∀ {k1 k2 : List UInt8}, k1 = k2 → ∀ e w', AnK q ov (z ++ k1) w e w' → AnK q ov (z ++ k2) w e w' := fun e _ _ h => e ▸ h
    rcases hk with rfl | rfl | rfl | rfl | rfl | rfl
    · exact (val_0 hW).mono (hsame (by simp [cz]))
    · exact (val_1 hW).mono (hsame (by simp [cz]))
    · exact (val_2 (by have := hr rfl; omega) hT (by omega) hW).mono (hsame (by simp [cz]))
    · exact (val_3 hW).mono (hsame (by simp [cz]))
    · refine (val_4 (X := 91 :: (cj (l.map (cz n)) ++ [93])) (fun w1 hb hW1 => ?_) hW).mono (hsame (by simp [cz]))
      have k1 : Wk q ov ov w w1 := Wk.ofB hb
      refine rowV_d (r1.wk hF k1) e1 (fun c hc => ?_) (by omega) (hF.wk k1) hW1 (fun j t c h1 h2 w' ov' z' hk hW' => ?_)
      · obtain ⟨j, hj, rfl⟩ := List.mem_iff_getElem.1 hc
        exact (hl j _ _ (List.getElem?_eq_getElem (by omega)) (List.getElem?_eq_getElem hj)).one
      · have ht := List.mem_of_getElem? h1
        obtain ⟨m', hm'⟩ : ∃ m', gd m' t = true := by
          rcases g1 with e | ⟨m', _, g⟩
          · rw [e] at ht; simp at ht
          · exact ⟨m', g t ht⟩
        exact ih (hh1 t ht) hm' (((hl j t c h1 h2).wk hF k1).wk (hF.wk k1) hk) ((hF.wk k1).wk hk) hW' ((hT.below hb (by omega)).wk hW1 hk h8) h8
    · refine (val_5 (X := 123 :: (cj (p.map fun q => qu q.1 ++ 58 :: cz n q.2) ++ [125])) (fun w1 hb hW1 => ?_) hW).mono (hsame (by simp [cz]))
      have k1 : Wk q ov ov w w1 := Wk.ofB hb
      have hcell : ∀ (j : Nat) (u : List UInt8 × T) (c : List Value), p[j]? = some u → cp[j]? = some c → ∃ r, c = Value.string (st u.1) :: r ∧ r.length = 5 ∧ VA F w u.2 r := fun j u c h1 h2 => by
        have h6 := r2.1 c (List.mem_of_getElem? h2)
        have h7 := hp1 j u c h1 h2
        have h8 := hp2 j u c h1 h2
        cases c with
        | nil => simp at h6
        | cons x r => simp at h7; subst h7; exact ⟨r, rfl, by simpa using h6, h8⟩
      refine rowP_d (f := fun q => qu q.1 ++ 58 :: cz n q.2) (r2.wk hF k1) e2 (fun c hc => ?_) (by omega) (hF.wk k1) hW1 (fun j u c h1 h2 w' ov' z' hk hW' => ?_)
      · obtain ⟨j, hj, rfl⟩ := List.mem_iff_getElem.1 hc
        obtain ⟨r, hr1, _, hr3⟩ := hcell j _ _ (List.getElem?_eq_getElem (by omega)) (List.getElem?_eq_getElem hj)
        rw [hr1]
        show (true && r.all (·.oneCell')) = true
        rw [hr3.one]; rfl
      · obtain ⟨r, rfl, hr2, hr3⟩ := hcell j u c h1 h2
        have ht := List.mem_of_getElem? h1
        obtain ⟨m', hm'⟩ : ∃ m', gd m' u.2 = true := by
          rcases g2 with e | ⟨m', _, g⟩
          · rw [e] at ht; simp at ht
          · exact ⟨m', g u ht⟩
        refine pair_w hr2 hW' fun w2 ov2 z2 hk2 hW2 => ?_
        have hT' := (hT.below hb (by omega)).wk hW1 hk h8
        exact ih (hh2 u ht) hm' (((hr3.wk hF k1).wk (hF.wk k1) hk).wk ((hF.wk k1).wk hk) hk2) (((hF.wk k1).wk hk).wk hk2) hW2 (hT'.wk hW' hk2 h8) h8
theorem vw : ∀ n, Vw n
  | 0 => fun hh => hh.elim
  | n + 1 => vw_s (vw n)
theorem ss_mem {α : Type} {lt : α → α → Bool} {l : List α} {x : α} : x ∈ ss lt l ↔ x ∈ l := (ss_perm l).mem_iff
theorem so_hgt : ∀ (d : Nat) {h : Nat} {t : T}, hgt h t → hgt h (so d t)
  | 0, _, _, hh => hh
  | _ + 1, 0, _, hh => hh.elim
  | d + 1, h + 1, .mk k i s l p, hh => by
    obtain ⟨b1, b2, h1, h2⟩ := hh
    refine ⟨by rw [List.length_map]; exact b1, by rw [ss_len, List.length_map]; exact b2, fun t ht => ?_, fun q hq => ?_⟩
    · obtain ⟨u, hu, rfl⟩ := List.mem_map.1 ht
      exact so_hgt d (h1 u hu)
    · obtain ⟨u, hu, rfl⟩ := List.mem_map.1 (ss_mem.1 hq)
      exact so_hgt d (h2 u hu)
theorem so_gd : ∀ (d : Nat) {n : Nat} {t : T}, gd n t = true → gd n (so d t) = true
  | 0, _, _, hg => hg
  | d + 1, n, .mk k i s l p, hg => by
    show gd n (.mk k i s (l.map (so d)) (ss ltT (p.map fun q => (q.1, so d q.2)))) = true
    unfold gd at hg ⊢
    rw [List.length_map, ss_len, List.length_map]
    rw [Bool.and_eq_true] at hg ⊢
    refine ⟨hg.1, ?_⟩
    have h2 := hg.2
    by_cases h0 : k = 0
    · simp [h0]
    by_cases h1 : k = 1
    · simpa [h1] using h2
    by_cases h3 : k = 2
    · simpa [h3] using h2
    by_cases h4 : k = 3
    · simpa [h4] using h2
    by_cases h5 : k = 4
    · subst h5
      cases n with
      | zero => simp at h2
      | succ n =>
        simp only [Int.reduceEq, if_false, if_true] at h2 ⊢
        rw [List.all_eq_true] at h2 ⊢
        intro x hx
        obtain ⟨u, hu, rfl⟩ := List.mem_map.1 hx
        exact so_gd d (h2 u hu)
    by_cases h6 : k = 5
    · subst h6
      cases n with
      | zero => simp at h2
      | succ n =>
        simp only [Int.reduceEq, if_false, if_true] at h2 ⊢
        rw [Bool.and_eq_true] at h2 ⊢
        refine ⟨?_, ?_⟩
        · rw [List.all_eq_true]
          intro x hx
          obtain ⟨u, hu, rfl⟩ := List.mem_map.1 (ss_mem.1 hx)
          have := List.all_eq_true.1 h2.1 u hu
          rw [Bool.and_eq_true] at this ⊢
          exact ⟨this.1, so_gd d this.2⟩
        · have h3 := h2.2
          unfold onc at h3 ⊢
          rw [decide_eq_true_eq] at h3 ⊢
          have hp : ((ss ltT (p.map fun q => (q.1, so d q.2))).map (·.1)).Perm (p.map (·.1)) := by
            refine ((ss_perm _).map _).trans ?_
            rw [List.map_map]
            exact List.Perm.refl _
          exact hp.nodup_iff.2 h3
    · simp [h0, h1, h3, h4, h5, h6] at h2
theorem gd_hgt : ∀ {n h : Nat} {t : T}, hgt h t → gd n t = true → hgt (n + 1) t
  | _, 0, _, hh, _ => hh.elim
  | n, h + 1, .mk k i s l p, hh, hg => by
    obtain ⟨b1, b2, h1, h2⟩ := hh
    obtain ⟨g1, g2, _⟩ := gd_list hg
    refine ⟨b1, b2, fun t ht => ?_, fun q hq => ?_⟩
    · rcases g1 with e | ⟨m, e, g⟩
      · rw [e] at ht; simp at ht
      · subst e; exact gd_hgt (h1 t ht) (g t ht)
    · rcases g2 with e | ⟨m, e, g⟩
      · rw [e] at hq; simp at hq
      · subst e; exact gd_hgt (h2 q hq) (g q hq)
def ct (t : T) : List UInt8 := cz 9 (so 8 t)
def bx2 (w : World) (c : Array Value) : World := (w.alloc (.cells c 28)).alloc (.cells #[.int .i64 0, .int .i64 0, .string ⟨#[]⟩, .slice none 0 0, .slice none 0 0] 28)
theorem bx2_bl (w : World) (c : Array Value) : Below w.heap.size w (bx2 w c) := blw_al ((Below.refl _ _).alloc (Nat.le_refl _) _) (by simp) _
theorem bx2_at (w : World) (c : Array Value) : (bx2 w c).heap[w.heap.size + 1]? = some (.cells #[.int .i64 0, .int .i64 0, .string ⟨#[]⟩, .slice none 0 0, .slice none 0 0] 28 (0, 0)) := by
  show ((w.heap.push _).push _)[w.heap.size + 1]? = _
  rw [Array.getElem?_push, if_pos (by simp)]
theorem srt_d {h : Nat} {F : Nat → Prop} {w : World} {t : T} {c : List Value} (hh : hgt h t) (hg : gd 8 t = true) (hv : VA F w t c) : Calls Tryz.prog 24 #[.agg c.toArray] w (AnC w (so 8 t)) := by
  have hb := bx2_bl w c.toArray
  have hr := bx2_at w c.toArray
  have hc := sorted_d 8 (Nat.le_refl _) hh hg (hv.frame (w' := bx2 w c.toArray) (G := fun _ => True) (fun k _ hk => hb.block k hk) (fun _ _ _ => trivial))
  obtain ⟨x0, x1, x2, x3, x4, rfl⟩ := five_l hv.len
  replace hc : Calls Tryz.prog 41 #[.agg #[x0, x1, x2, x3, x4], .int .i64 8] (bx2 w #[x0, x1, x2, x3, x4]) _ := hc
  clear hv
  show Calls Tryz.prog 24 #[.agg #[x0, x1, x2, x3, x4]] w _
  obtain ⟨wb, hwb⟩ : ∃ wb, wb = bx2 w #[x0, x1, x2, x3, x4] := ⟨_, rfl⟩
  have hr' : wb.heap[w.heap.size + 1]? = some (.cells #[.int .i64 0, .int .i64 0, .string ⟨#[]⟩, .slice none 0 0, .slice none 0 0] 28 (0, 0)) := by rw [hwb]; exact hr
  have hb' : Below w.heap.size w wb := by rw [hwb]; exact hb
  have hsz : w.heap.size + 1 < wb.heap.size := (Array.getElem?_eq_some_iff.1 hr').1
  rw [← hwb] at hc
  clear hr hb
  replace hr' := hide1 hr'
  replace hb' := hide1 hb'
  go_enter Tryz.func24, Tryz.ntmps24
  go_wp2_with fail
  rw [show (w.alloc (.cells #[x0, x1, x2, x3, x4] 28)).alloc (.cells #[.int .i64 0, .int .i64 0, .string ⟨#[]⟩, .slice none 0 0, .slice none 0 0] 28) = wb from hwb.symm]
  refine hc.mono ?_
  rintro e w1 ⟨c1, rfl, h5, b1, hv1⟩
  have hr1 := (b1.block _ hsz).trans hr'.out
  have hb1 := hb'.out.trans (b1.mono hb'.out.size)
  have h1c := hv1.one
  obtain ⟨y0, y1, y2, y3, y4, hce⟩ := five_l (l := c1.toList) (by simpa using h5)
  obtain rfl : c1 = #[y0, y1, y2, y3, y4] := by cases c1; simp at hce; simp [hce]
  have hz := setRow_heap w1 (w.heap.size + 1) _ #[y0, y1, y2, y3, y4] _ _ hr1
  have ha : Hid (AnC w (so 8 t) (.returned (.agg #[y0, y1, y2, y3, y4])) (w1.setRow (w.heap.size + 1) #[y0, y1, y2, y3, y4])) := hide1 ⟨_, rfl, rfl, blw_own hb1 (by omega) _, VA.frame (c := [y0, y1, y2, y3, y4]) hv1 (fun k hk _ => setRow_other w1 _ k _ (by have h1 : wb.heap.size ≤ k := hk; omega)) (fun k hk _ => by have h1 : wb.heap.size ≤ k := hk; have := hb'.out.size; show w.heap.size ≤ k; omega)⟩
  replace hz := hide1 hz
  clear hwb hc hv1 hb1 hr' hb' b1 hce h5
  go_wp2_with (refine wpList_store_row rfl Vt (.tmp 2) (.tmp 4) rfl (w.heap.size + 1) #[y0, y1, y2, y3, y4] rfl rfl Vt _ hr1 (by kernel_rfl) rfl (by simpa using h1c) ?_)
  refine bodyPost_ret (results_v1 rfl _ rfl rfl hz.out) rfl ?_
  exact ha.out
def AnT (w : World) (t : T) (e : Ending) (w' : World) : Prop := ∃ v ev, e = .returned (.tuple #[v, ev]) ∧ Below w.heap.size w w' ∧
  ((gd 8 t = false ∧ v = .slice none 0 0 ∧ ev = .iface 52 (.int .i64 1)) ∨ (gd 8 t = true ∧ 4096 < (ct t).length ∧ v = .slice none 0 0 ∧ ev = .iface 52 (.int .i64 10)) ∨
    (gd 8 t = true ∧ (ct t).length ≤ 4096 ∧ ev = .nilIface ∧ Ow w' w.heap.size v (ct t)))
set_option maxHeartbeats 4000000 in
set_option maxRecDepth 100000 in
theorem put_c {h : Nat} {F : Nat → Prop} {w : World} {t : T} {c : List Value} (hh : hgt h t) (hs : sbd h t) (hv : VA F w t c) (hT : Ev w) (h8 : 8 ≤ w.heap.size) : Calls Tryz.prog 20 #[.agg c.toArray] w (AnT w t) := by
  obtain ⟨x0, x1, x2, x3, x4, rfl⟩ := five_l hv.len
  obtain ⟨wb, hwb⟩ : ∃ wb, wb = w.alloc (.cells #[x0, x1, x2, x3, x4] 28) := ⟨_, rfl⟩
  have hB : Below w.heap.size w wb := by rw [hwb]; exact (Below.refl _ _).alloc (Nat.le_refl _) _
  have hn : wb.heap[w.heap.size]? = some (.cells #[x0, x1, x2, x3, x4] 28 (0, 0)) := by
    rw [hwb]
    show (w.heap.push _)[w.heap.size]? = _
    rw [Array.getElem?_push, if_pos rfl]
  have hvb : VA F wb t [x0, x1, x2, x3, x4] := hv.frame (fun k _ hk => hB.block k hk) (fun _ h _ => h)
  have hTb := hT.below hB (by omega)
  have hsb := hB.size
  have hck := check_d hh hs hvb hTb (by omega)
  replace hck : Calls Tryz.prog 17 #[.agg #[x0, x1, x2, x3, x4]] wb _ := hck
  have hl5 : wb.rangeAt w.heap.size 0 [x0, x1, x2, x3, x4] := fun j u hj => by
    simp only [World.cell?, hn]
    rw [Nat.zero_add]
    simpa using hj
  have hql : w.heap.size < wb.heap.size := (Array.getElem?_eq_some_iff.1 hn).1
  replace hB := hide1 hB
  replace hn := hide1 hn
  replace hvb := hide1 hvb
  replace hTb := hide1 hTb
  clear hv hT
  show Calls Tryz.prog 20 #[.agg #[x0, x1, x2, x3, x4]] w _
  go_enter Tryz.func20, Tryz.ntmps20
  go_upto_region 1 with fail
  rw [← hwb]
  clear hwb
  go_wp2_with (first | refine wpList_load_mid rfl 28 (.tmp 1) rfl w.heap.size 0 rfl [x0, x1, x2, x3, x4] _ hl5 Tryz.underlying28 rfl (by kernel_rfl) ?_ | fail)
  refine hck.mono ?_
  rintro e w1 ⟨rfl, b1⟩
  have hB1 := hide1 (hB.out.trans (b1.mono hB.out.size))
  cases hg : gd 8 t with
  | false =>
    clear hck hl5
    go_wp2
    go_ret2
    exact ⟨_, _, rfl, hB1.out, .inl ⟨hg, rfl, rfl⟩⟩
  | true =>
    have hv1 := hide1 (hvb.out.frame (w' := w1) (G := fun k => F k ∧ k < wb.heap.size) (fun k _ hk => b1.block k hk) (fun _ h hk => ⟨h, hk⟩))
    have hT1 := hide1 (hTb.out.below b1 (by omega))
    have hn1 := hide1 ((b1.block _ hql).trans hn.out)
    have hs1 := b1.size
    clear hck hl5 hvb hTb hn b1
    obtain ⟨w2, hw2⟩ : ∃ w2, w2 = w1.alloc (.cells #[.slice none 0 0, .bool false] 66) := ⟨_, rfl⟩
    have b2 : Below w1.heap.size w1 w2 := by rw [hw2]; exact (Below.refl _ _).alloc (Nat.le_refl _) _
    have hq2 : w2.heap[w1.heap.size]? = some (.cells #[.slice none 0 0, .bool false] 66 (0, 0)) := by
      rw [hw2]
      show (w1.heap.push _)[w1.heap.size]? = _
      rw [Array.getElem?_push, if_pos rfl]
    have hW2 : Wt w2 w1.heap.size (.slice none 0 0) [] := ⟨hq2, [], ⟨rfl, .inl ⟨rfl, rfl⟩⟩, by simp, .inr rfl⟩
    have hs2 := b2.size
    have hn2 := (b2.block _ (by omega)).trans hn1.out
    have hl5 : w2.rangeAt w.heap.size 0 [x0, x1, x2, x3, x4] := fun j u hj => by
      simp only [World.cell?, hn2]
      rw [Nat.zero_add]
      simpa using hj
    have hsd := srt_d hh hg (hv1.out.frame (w' := w2) (G := fun _ => True) (fun k _ hk => b2.block k hk) (fun _ _ _ => trivial))
    replace hsd : Calls Tryz.prog 24 #[.agg #[x0, x1, x2, x3, x4]] w2 _ := hsd
    have hT2 := hide1 (hT1.out.below b2 (by omega))
    have hB2 := hide1 (hB1.out.trans (b2.mono hB1.out.size))
    replace hW2 := hide1 hW2
    have hql2 : w1.heap.size < w2.heap.size := (Array.getElem?_eq_some_iff.1 hq2).1
    clear hB1 hT1 hv1 hn1 hn2 b2 hq2
    go_upto_region 4 with fail
    rw [← hw2]
    clear hw2
    go_wp2_with (first | refine wpList_load_mid rfl 28 (.tmp 1) rfl w.heap.size 0 rfl [x0, x1, x2, x3, x4] _ hl5 Tryz.underlying28 rfl (by kernel_rfl) ?_ | fail)
    refine hsd.mono ?_
    rintro e w3 ⟨c3, rfl, h5, b3, hv3⟩
    have hW3 := hW2.out.below b3
    have hT3 := hT2.out.below b3 (by omega)
    have hB3 := hide1 (hB2.out.trans (b3.mono hB2.out.size))
    have hF3 : Fr (w2.heap.size ≤ ·) w3 w1.heap.size (.slice none 0 0) := fun k hk _ => ⟨by have h1 : w2.heap.size ≤ k := hk; omega, fun e => by cases e⟩
    have hvw := vw 9 (so_hgt 8 (gd_hgt hh hg)) (so_gd 8 hg) hv3 hF3 hW3 hT3 (by omega)
    have hs3 := b3.size
    clear hsd hW3 hT3 hF3 hv3 hl5 b3 hT2 hW2 hB2
    go_wp2_with fail
    refine hvw.mono ?_
    rintro e w4 ⟨rfl, ov, hW4, k4⟩
    have hB4 : Hid (Below w.heap.size w w4) := hide1 ⟨k4.os.trans hB3.out.os, k4.tape.trans hB3.out.tape, k4.output.trans hB3.out.output, Nat.le_trans hB3.out.size k4.size, fun k hk => (k4.block k (by have := hB3.out.size; omega) (by omega) (fun e => by cases e)).trans (hB3.out.block k hk)⟩
    have hW5 : Wt w4 w1.heap.size ov (ct t) := hW4
    obtain ⟨hbx, out, ho, hol, hoz⟩ := hW5
    have c1 : w4.cell? ⟨w1.heap.size, 1, none⟩ = some (.bool (decide (4096 < (ct t).length))) := by simp only [World.cell?, hbx]; rfl
    have c0 : w4.cell? ⟨w1.heap.size, 0, none⟩ = some ov := by simp only [World.cell?, hbx]; rfl
    clear hvw hW4 k4 hB3 hbx
    by_cases hov : 4096 < (ct t).length
    · rw [decide_eq_true hov] at c1
      have hf : Hid (AnT w t (.returned (.tuple #[.slice none 0 0, .iface 52 (.int .i64 10)])) w4) := hide1 ⟨_, _, rfl, hB4.out, .inr (.inl ⟨hg, hov, rfl, rfl⟩)⟩
      clear ho hoz hov
      go_wp2
      go_ret2
      exact hf.out
    · rw [decide_eq_false hov] at c1
      obtain rfl : out = ct t := hoz.resolve_left hov
      obtain ⟨oa, oc, rfl⟩ := ho.slc
      have ho2 : Ow w4 w.heap.size (.slice oa (ct t).length oc) (ct t) := by
        obtain ⟨g1, g2 | ⟨g', cap, cur, e1, e2, e3⟩⟩ := ho
        · exact ⟨g1, .inl g2⟩
        · exact ⟨g1, .inr ⟨g', cap, cur, e1, by omega, e3⟩⟩
      have hf : Hid (AnT w t (.returned (.tuple #[.slice oa (ct t).length oc, .nilIface])) w4) := hide1 ⟨_, _, rfl, hB4.out, .inr (.inr ⟨hg, hol, rfl, ho2⟩)⟩
      clear ho hoz hov ho2
      generalize (ct t).length = N at *
      go_wp2
      go_ret2
      exact hf.out
end Go.Proofs.YtbemaloaobeblaaGreatDoor

namespace Go.Proofs.YtbemaloaobeblaaGreatDoor
open Go.RowKit

theorem Kg.grown {g : Nat} {w0 w w' : World} {row : Option Nat} (h : Kg g w0 w) (k : w.grownBy w' row) (hr : ∀ r, row = some r → w0.heap.size ≤ r) : Kg g w0 w' :=
  ⟨k.os.trans h.os, k.tape.trans h.tape, k.output.trans h.output, Nat.le_trans h.size k.size, fun j hj hn => (k.block j (Nat.lt_of_lt_of_le hj h.size) (fun e => by
    have := hr j e.symm
    omega)).trans (h.block j hj hn)⟩
theorem Ow.kg {g : Nat} {w w' : World} {B : Nat} {v : Value} {l : List UInt8} (h : Ow w B v l) (k : Kg g w w') (hg : g < B) : Ow w' B v l := own_kept h fun b e => k.block b (h.lt b e).2 (by have := (h.lt b e).1; omega)
theorem Tg.of {sl : Value} {B : List UInt8} {g p q : Nat} {bad bad' : Bool} {w w' : World} (h : Tg sl B g p bad w) (k : Kg g w w') (hb : w'.heap[g]? = some (.cells #[sl, .int .i64 (q : Nat), .bool bad'] 60 (0, 0))) : Tg sl B g q bad' w' :=
  ⟨hb, h.bs.same k.size fun hl a n c e ha => k.block _ ha (h.ng hl a n c e), h.ng, h.cp⟩
section
variable {sl : Value} {B : List UInt8} {g p : Nat} {w w' : World}
end
structure Lx (sl : Value) (B : List UInt8) (g q : Nat) (bad : Bool) (w0 : World) (v : Value) (W : World) : Prop where
  tg : Tg sl B g q bad W
  kg : Kg g w0 W
  r4 : W.heap[w0.heap.size]? = some (.cells zV 28 (0, 0))
  r5 : W.heap[w0.heap.size + 1]? = some (.cells #[.int .i64 4, .int .i64 0, .string ⟨#[]⟩, v, .slice none 0 0] 28 (0, 0))
  sz : w0.heap.size + 2 ≤ W.heap.size
  sh : ∃ a m c, v = .slice a m c
structure Lv (sl : Value) (B : List UInt8) (g q : Nat) (bad : Bool) (w0 : World) (v : Value) (cs : List (List Value)) (xs : List T) (W : World) : Prop extends Lx sl B g q bad w0 v W where
  row : W.ownsRow (w0.heap.size + 2) 28 5 v cs.length cs.flatten
  ln : ∀ c ∈ cs, c.length = 5
  el : cs.length = xs.length
  va : ∀ (j : Nat) (t : T) (c : List Value), xs[j]? = some t → cs[j]? = some c → VA (fun k => w0.heap.size + 2 ≤ k ∧ some k ≠ v.ownBlock) W t c
section
variable {sl : Value} {B : List UInt8} {g p q q' n : Nat} {bad bad' : Bool} {w w' w0 W W' wr : World} {v v0 v' : Value} {cs : List (List Value)} {xs : List T} {o : Option (T × List UInt8)} {c : Array Value} {d : Int}
theorem Lx.step (h : Lx sl B g q bad w0 v W) (hg : g < w0.heap.size) (k : Kg g W W') (t : Tg sl B g q' bad' W') : Lx sl B g q' bad' w0 v W' := by
  have hs := h.sz
  exact ⟨t, h.kg.trans k, (k.block _ (by omega) (by omega)).trans h.r4, (k.block _ (by omega) (by omega)).trans h.r5, Nat.le_trans hs k.size, h.sh⟩
theorem Lv.step (h : Lv sl B g q bad w0 v cs xs W) (hg : g < w0.heap.size) (k : Kg g W W') (t : Tg sl B g q' bad' W') : Lv sl B g q' bad' w0 v cs xs W' :=
  ⟨h.toLx.step hg k t, own_kept h.row fun b e => k.block b (h.row.lt b e).2 (by have := (h.row.lt b e).1; omega), h.ln, h.el,
    fun j t c h1 h2 => (h.va j t c h1 h2).frame (fun k' hk hs => k.block k' hs (by have := hk.1; omega)) (fun _ hk _ => hk)⟩
def P4 (sl : Value) (B : List UInt8) (g n : Nat) (o : Option (T × List UInt8)) (wr : World) (c : Array Value) (w : World) : Prop :=
  c.size = 5 ∧ c.all (·.oneCell') = true ∧ ∃ q, Tg sl B g q o.isNone w ∧ Kg g wr w ∧ q ≤ B.length + 2 + n ∧ ∀ t r, o = some (t, r) → VA (wr.heap.size ≤ ·) w t c.toList ∧ B.drop q = r ∧ q ≤ B.length
theorem P4.later (h : P4 sl B g n o wr c w) (hb : Below w.heap.size w w') : P4 sl B g n o wr c w' := by
  obtain ⟨h1, h2, q, t, k, hq, hv⟩ := h
  exact ⟨h1, h2, q, t.later hb, k.trans (Kg.of hb), hq, fun t r e => ⟨(hv t r e).1.frame (fun j _ hj => hb.block j hj) (fun _ h _ => h), (hv t r e).2⟩⟩
theorem bs_V5 {c : Array Value} (hc : c.size = 5) (w : World) : (Instr.buildSlice 25 1 #[(0, .agg c)]).run Tryz.prog w = .ok (.slice (some ⟨w.heap.size, 0, none⟩) 1 1) (w.alloc (.cells c 28)) := by
  obtain ⟨x0, x1, x2, x3, x4, e⟩ := five_l (l := c.toList) (by simpa using hc)
  obtain rfl : c = #[x0, x1, x2, x3, x4] := by cases c; simp at e; simp [e]
  kernel_rfl
end
structure Ox (sl : Value) (B : List UInt8) (g q : Nat) (bad : Bool) (w0 : World) (v : Value) (W : World) : Prop where
  tg : Tg sl B g q bad W
  kg : Kg g w0 W
  r4 : W.heap[w0.heap.size]? = some (.cells zV 28 (0, 0))
  r5 : W.heap[w0.heap.size + 1]? = some (.cells #[.int .i64 5, .int .i64 0, .string ⟨#[]⟩, .slice none 0 0, v] 28 (0, 0))
  sz : w0.heap.size + 2 ≤ W.heap.size
  sh : ∃ a m c, v = .slice a m c
structure Ov (sl : Value) (B : List UInt8) (g q : Nat) (bad : Bool) (w0 : World) (v : Value) (cs : List (List Value)) (xs : List (List UInt8 × T)) (W : World) : Prop extends Ox sl B g q bad w0 v W where
  row : W.ownsRow (w0.heap.size + 2) 49 6 v cs.length cs.flatten
  ln : ∀ c ∈ cs, c.length = 6
  el : cs.length = xs.length
  hd : ∀ (j : Nat) (t : List UInt8 × T) (c : List Value), xs[j]? = some t → cs[j]? = some c → c.head? = some (Value.string (st t.1))
  va : ∀ (j : Nat) (t : List UInt8 × T) (c : List Value), xs[j]? = some t → cs[j]? = some c → VA (fun k => w0.heap.size + 2 ≤ k ∧ some k ≠ v.ownBlock) W t.2 c.tail
section
variable {sl : Value} {B : List UInt8} {g p q q' n : Nat} {bad bad' : Bool} {w w' w0 W W' wr : World} {v v0 v' : Value} {cs : List (List Value)} {xs : List (List UInt8 × T)} {c ce : Array Value} {nm : List UInt8}
theorem Ox.step (h : Ox sl B g q bad w0 v W) (hg : g < w0.heap.size) (k : Kg g W W') (t : Tg sl B g q' bad' W') : Ox sl B g q' bad' w0 v W' := by
  have hs := h.sz
  exact ⟨t, h.kg.trans k, (k.block _ (by omega) (by omega)).trans h.r4, (k.block _ (by omega) (by omega)).trans h.r5, Nat.le_trans hs k.size, h.sh⟩
theorem Ov.step (h : Ov sl B g q bad w0 v cs xs W) (hg : g < w0.heap.size) (k : Kg g W W') (t : Tg sl B g q' bad' W') : Ov sl B g q' bad' w0 v cs xs W' :=
  ⟨h.toOx.step hg k t, own_kept h.row fun b e => k.block b (h.row.lt b e).2 (by have := (h.row.lt b e).1; omega), h.ln, h.el, h.hd,
    fun j t c h1 h2 => (h.va j t c h1 h2).frame (fun k' hk hs => k.block k' hs (by have := hk.1; omega)) (fun _ hk _ => hk)⟩
theorem Ov.val (h : Ov sl B g q bad w0 v cs xs W) : VA (fun k => w0.heap.size + 2 ≤ k) W (.mk 5 0 [] [] xs) [.int .i64 5, .int .i64 0, .string ⟨#[]⟩, .slice none 0 0, v] := by
  have hrw : RwA (fun k => w0.heap.size + 2 ≤ k) W 49 6 v cs := by
    refine ⟨h.ln, ?_⟩
    obtain ⟨hl, ⟨h1, h2⟩ | ⟨g', cap, cur, h1, hB, hg, hcap, hm, hcs, htk⟩⟩ := h.row
    · exact .inl ⟨none, 0, h1, List.length_eq_zero_iff.1 h2⟩
    · refine .inr ⟨g', 0, cap, cur, (49, (0, 0)), h1, hB, hg, ?_, by simpa using htk⟩
      rw [hcs, Nat.zero_add]
      exact Nat.mul_le_mul_right 6 hcap
  exact VA.mk (s := []) .nil hrw rfl h.el (by simp) h.hd (fun j t c h1 h2 => (h.va j t c h1 h2).frame (fun k hk _ => rfl) (fun k hk _ => hk.1))
section
variable {ops : Array Oper} {rest : List Oper} {oo : Oper} {a : Act} {Q : Exit → Act → World → Prop}
theorem wpList_runs (hgd : oo.guard = none) (h : (execOp a.eval oo).run Tryz.prog w = .ok .skip w') (hk : wpList Tryz.prog ops Q rest (a.put oo.dst undef) w') : wpList Tryz.prog ops Q (oo :: rest) a w := by
  refine wpList_plain hgd fun K hK => ?_
  unfold Oper.wp
  rw [h]
  exact hK _ _ hk
theorem wpList_stV (hgd : oo.guard = none) (s x : Operand) (ho : oo.op = .store 28 s x) (gb o1 : Nat) {cur : Array Value} {t0 : TypeId} (hs : a.eval s = .pointer (some ⟨gb, o1, none⟩)) (hx : a.eval x = .agg c) (hg : w.heap[gb]? = some (.cells cur t0 (0, 0))) (hc : c.size = 5) (hfit : o1 + 5 ≤ cur.size) (h1 : c.all (·.oneCell') = true) (nw : Array Value) (hnw : (cur.toList.take o1 ++ c.toList ++ cur.toList.drop (o1 + 5)).toArray = nw)
    (h : wpList Tryz.prog ops Q rest (a.put oo.dst undef) (w.setRow gb nw)) : wpList Tryz.prog ops Q (oo :: rest) a w := by
  subst hnw
  refine wpList_runs hgd (w' := w.setRow gb (cur.toList.take o1 ++ c.toList ++ cur.toList.drop (o1 + 5)).toArray) ?_ h
  unfold execOp
  simp only [ho, hs, hx, Sem.run_bind, st_eV hg hc hfit h1, Result.andThen_ok, Sem.run_pure]
end
end
section
variable {sl : Value} {B : List UInt8} {g p q q' n s6 : Nat} {bad bad' : Bool} {w w' w0 W W' : World} {o : Option (T × List UInt8)} {c c' : Array Value}
structure Vx (sl : Value) (B : List UInt8) (g q : Nat) (bad : Bool) (w0 : World) (s6 : Nat) (c : Array Value) (W : World) : Prop where
  tg : Tg sl B g q bad W
  kg : Kg g w0 W
  r4 : W.heap[w0.heap.size]? = some (.cells zV 28 (0, 0))
  r6 : W.heap[s6]? = some (.cells c 28 (0, 0))
  lt : w0.heap.size < s6
theorem Vx.step (h : Vx sl B g q bad w0 s6 c W) (hg : g < w0.heap.size) (k : Kg g W W') (t : Tg sl B g q' bad' W') : Vx sl B g q' bad' w0 s6 c W' := by
  have h1 := h.lt
  exact ⟨t, h.kg.trans k, (k.block _ (Array.getElem?_eq_some_iff.1 h.r4).1 (by omega)).trans h.r4, (k.block _ (Array.getElem?_eq_some_iff.1 h.r6).1 (by omega)).trans h.r6, h1⟩
theorem Vx.put (ht0 : Tg sl B g p false w0) (h : Vx sl B g q bad w0 s6 c W) (c' : Array Value) : Vx sl B g q bad w0 s6 c' (W.setRow s6 c') := by
  have h1 := h.lt
  have hg := ht0.lt
  have kk := h.kg.own (b := s6) (by omega) c'
  exact ⟨Tg.of ht0 kk ((setRow_other W _ g _ (by omega)).trans h.tg.box), kk, (setRow_other W _ _ _ (by omega)).trans h.r4, setRow_heap W s6 _ _ _ _ h.r6, h1⟩
end
end Go.Proofs.YtbemaloaobeblaaGreatDoor

namespace Go.Proofs.YtbemaloaobeblaaGreatDoor
open Go.RowKit Go.Shelf

def Mkd (w : World) (g cap : Nat) (l : List UInt8) : Prop := l.length + 2 ≤ cap ∧ cap ≤ maxLen ∧ ∃ cur, w.heap[g]? = some (.cells cur 5 (0, 0)) ∧ ∀ (j : Nat) (x : UInt8), (l ++ [165, 90])[j]? = some x → cur[j]? = some (Value.int .u8 (x.toNat : Nat))
theorem Mkd.below {w w' : World} {g cap : Nat} {l : List UInt8} (h : Mkd w g cap l) (hb : Below w.heap.size w w') : Mkd w' g cap l := by
  obtain ⟨h1, h2, cur, hg, r⟩ := h
  exact ⟨h1, h2, cur, (hb.block g (Array.getElem?_eq_some_iff.1 hg).1).trans hg, r⟩
end Go.Proofs.YtbemaloaobeblaaGreatDoor

namespace Go.Proofs.YtbemaloaobeblaaGreatDoor
open Go.RowKit Go.Maps

structure Odw (w w' : World) (g : Nat) : Prop where
  os : w'.os = w.os
  tape : w'.tape = w.tape
  output : w'.output = w.output
  size : w'.heap.size = w.heap.size
  block : ∀ k, k ≠ g → w'.heap[k]? = w.heap[k]?
def Rwu (w : World) (g n : Nat) : Prop := ∃ cur, w.heap[g]? = some (.cells cur 5 (0, 0)) ∧ ∀ j, j < n → ∃ z : Nat, z < 256 ∧ cur[j]? = some (Value.int .u8 (z : Int))
theorem Odw.refl (w : World) (g : Nat) : Odw w w g := ⟨rfl, rfl, rfl, rfl, fun _ _ => rfl⟩
theorem Odw.cell {w w' : World} {g i : Nat} {v : Value} (h : Odw w w' g) : Odw w (w'.setCell ⟨g, i, none⟩ v) g := by
  refine ⟨h.os, h.tape, h.output, by simp [h.size], fun k hk => ?_⟩
  rw [Below.heap_setCell _ _ _ _ (by simpa using hk)]
  exact h.block k hk
theorem Odw.below {w w' : World} {g B : Nat} (h : Odw w w' g) (hB : B ≤ g) : Below B w w' := ⟨h.os, h.tape, h.output, by rw [h.size]; exact Nat.le_refl _, fun k hk => h.block k (by omega)⟩
theorem Rwu.cell {w : World} {g n i y : Nat} (h : Rwu w g n) (hy : y < 256) (hi : i < n) : Rwu (w.setCell ⟨g, i, none⟩ (.int .u8 (y : Int))) g n := by
  obtain ⟨cur, h1, h2⟩ := h
  refine ⟨cur.setIfInBounds i (.int .u8 (y : Int)), by simp [World.setCell, h1, Array.getElem?_modify], fun j hj => ?_⟩
  by_cases e : j = i
  · subst e
    obtain ⟨z, _, h3⟩ := h2 j hj
    have := (Array.getElem?_eq_some_iff.1 h3).1
    exact ⟨y, hy, by simp [this]⟩
  · obtain ⟨z, hz, h3⟩ := h2 j hj
    exact ⟨z, hz, by rw [Array.getElem?_setIfInBounds_ne (by omega)]; exact h3⟩
end Go.Proofs.YtbemaloaobeblaaGreatDoor

namespace Go.Proofs.YtbemaloaobeblaaGreatDoor
open Go.RowKit Go.Shelf

def bxw (w : World) (c : Array Value) : World := (w.alloc (.cells #[.int .i64 0, .int .i64 0, .string ⟨#[]⟩, .slice none 0 0, .slice none 0 0] 28)).setRow w.heap.size c
theorem bxw_z (w : World) : (w.alloc (.cells #[.int .i64 0, .int .i64 0, .string ⟨#[]⟩, .slice none 0 0, .slice none 0 0] 28)).heap[w.heap.size]? = some (.cells #[.int .i64 0, .int .i64 0, .string ⟨#[]⟩, .slice none 0 0, .slice none 0 0] 28 (0, 0)) := by
  show (w.heap.push _)[w.heap.size]? = _
  rw [Array.getElem?_push, if_pos rfl]
theorem bxw_at (w : World) (c : Array Value) : (bxw w c).heap[w.heap.size]? = some (.cells c 28 (0, 0)) := setRow_heap _ w.heap.size _ c _ _ (bxw_z w)
theorem bxw_bl (w : World) (c : Array Value) : Below w.heap.size w (bxw w c) := ⟨rfl, rfl, rfl, by simp [bxw, World.setRow], fun k hk => (setRow_other _ _ k _ (by omega)).trans (by
  show (w.heap.push _)[k]? = _
  rw [Array.getElem?_push, if_neg (by omega)])⟩
theorem bxw_sz (w : World) (c : Array Value) : (bxw w c).heap.size = w.heap.size + 1 := by simp [bxw, World.setRow]
theorem arr5q {c : Array Value} (h : c.size = 5) : ∃ a b d e f, c = #[a, b, d, e, f] := by
  obtain ⟨x0, x1, x2, x3, x4, hce⟩ := five_l (l := c.toList) (by simpa using h)
  exact ⟨x0, x1, x2, x3, x4, by cases c; simp at hce; simp [hce]⟩
def isC (l : List UInt8) : Bool := match prsV l with
  | none => false
  | some t => decide ((ct t).length ≤ 4096) && decide (ct t = l)
theorem prs_ok {l : List UInt8} {t : T} (h : prsV l = some t) : l.length ≤ 4096 ∧ hgt 9 t ∧ gd 8 t = true ∧ sbd 9 t := by
  have hl : l.length ≤ 4096 := by
    unfold prsV at h
    split at h
    · cases h
    · omega
  obtain ⟨r, hp⟩ : ∃ r, pv 8 l = some (t, r) := by
    unfold prsV at h
    rw [if_neg (by omega)] at h
    cases hpv : pv 8 l with
    | none => rw [hpv] at h; cases h
    | some x =>
      rw [hpv] at h
      obtain ⟨t', r⟩ := x
      simp only at h
      split at h
      · cases h; exact ⟨r, rfl⟩
      · cases h
  exact ⟨hl, pv_hgt 8 l t r hp hl, pv_gd 8 l t r hp hl, pv_sbd 8 l t r hp hl 9⟩
theorem st_beq (a b : List UInt8) : ((st a).toList == (st b).toList) = decide (a = b) := by
  have h := st_eq a b
  simp [← h]
set_option maxHeartbeats 4000000 in
set_option maxRecDepth 100000 in
theorem is_d {w : World} {v : Value} {l : List UInt8} (hb : BsA w v l) (hT : Ev w) (h8 : 8 ≤ w.heap.size) : Calls Tryz.prog 26 #[v] w fun e w' => e = .returned (.bool (isC l)) ∧ Below w.heap.size w w' := by
  have hp := parse_d hb hT h8
  obtain ⟨va, vc, rfl, hbb⟩ := hb
  have hb : BsA w (.slice va l.length vc) l := ⟨va, vc, rfl, hbb⟩
  clear hbb
  replace hT := hide1 hT
  replace hb := hide1 hb
  generalize hN : l.length = N at *
  replace hN := hide1 hN
  go_enter Tryz.func26, Tryz.ntmps26
  go_wp2_with fail
  refine hp.mono ?_
  rintro e w1 ⟨c, ev, rfl, h5, hco, b1, hc⟩
  obtain ⟨c0, c1, c2, c3, c4, rfl⟩ := arr5q h5
  go_upto_region 2 with (refine wpList_store_row rfl 28 (.tmp 3) (.tmp 9) rfl w1.heap.size #[c0, c1, c2, c3, c4] rfl rfl 28 _ (bxw_z w1) (by kernel_rfl) rfl hco ?_)
  have haA := bxw_at w1 #[c0, c1, c2, c3, c4]
  have hlA := bxw_bl w1 #[c0, c1, c2, c3, c4]
  have hsA := bxw_sz w1 #[c0, c1, c2, c3, c4]
  generalize hwe : bxw w1 #[c0, c1, c2, c3, c4] = wA at *
  rw [show (w1.alloc (.cells #[.int .i64 0, .int .i64 0, .string ⟨#[]⟩, .slice none 0 0, .slice none 0 0] 28)).setRow w1.heap.size #[c0, c1, c2, c3, c4] = wA from hwe]
  clear hwe
  have BA := hide1 (b1.trans (hlA.mono b1.size))
  rcases hc with ⟨t, ht, rfl, hv⟩ | ⟨ht, rfl, hz⟩
  · obtain ⟨hl4, hh, hg, hs⟩ := prs_ok ht
    have hvA := hv.frame (w' := wA) (G := fun k => w.heap.size ≤ k ∧ k < w1.heap.size) (fun j h hj => hlA.block j hj) (fun _ h hk => ⟨h, hk⟩)
    have hbA := hide1 (hb.out.below BA.out)
    have hpu := put_c hh hs hvA (hT.out.below BA.out (by omega)) (by have := BA.out.size; omega)
    replace hpu : Calls Tryz.prog 20 #[.agg #[c0, c1, c2, c3, c4]] wA _ := hpu
    have hl5 : wA.rangeAt w1.heap.size 0 [c0, c1, c2, c3, c4] := fun j u hj => by
      simp only [World.cell?, haA]
      rw [Nat.zero_add]
      simpa using hj
    clear hv hvA hlA haA hb b1
    go_wp2_with (first | refine wpList_load_mid rfl 28 (.tmp 3) rfl w1.heap.size 0 rfl [c0, c1, c2, c3, c4] _ hl5 Tryz.underlying28 rfl (by kernel_rfl) ?_ | fail)
    refine hpu.mono ?_
    rintro e w2 ⟨v2, ev2, rfl, b2, h2⟩
    have B2 := hide1 (BA.out.trans (b2.mono BA.out.size))
    have hb2 := hide1 (hbA.out.below b2)
    have hbv := conv_b hb2.out
    rcases h2 with ⟨hg', _⟩ | ⟨_, h4, rfl, rfl⟩ | ⟨_, h4, rfl, ho⟩
    · rw [hg] at hg'; cases hg'
    · have hi : isC l = false := by unfold isC; rw [ht]; simp; omega
      have hfin := hide1 (show (Ending.returned (.bool false) = .returned (.bool (isC l))) ∧ Below w.heap.size w w2 from ⟨by rw [hi], B2.out⟩)
      clear hpu hl5 hh hg hs hl4 ht h4 hp hi b2 hbA hb2 BA
      go_wp2
      go_ret
      exact hfin.out
    · have hi : isC l = decide (ct t = l) := by unfold isC; rw [ht]; simp; omega
      have hov := conv_b ho.bs
      have hfin := hide1 (show (Ending.returned (.bool ((st (ct t)).toList == (st l).toList)) = .returned (.bool (isC l))) ∧ Below w.heap.size w w2 from ⟨by rw [hi, st_beq], B2.out⟩)
      obtain ⟨oa, oc, rfl⟩ := ho.slc
      clear hpu hl5 hh hg hs hl4 ht hp hi b2 hbA hb2 BA ho
      generalize (ct t).length = M at *
      replace h4 := hide1 h4
      go_wp2
      go_ret
      exact hfin.out
  · have hi : isC l = false := by unfold isC; rw [ht]

    have hE : prsE l = 10 ∨ prsE l = 1 := by unfold prsE; split <;> simp
    have hfin := hide1 (show (Ending.returned (.bool false) = .returned (.bool (isC l))) ∧ Below w.heap.size w wA from ⟨by rw [hi], BA.out⟩)
    clear hp hi BA haA hlA b1 ht hz hsA hco h5
    generalize prsE l = E at *
    rcases hE with rfl | rfl <;> (go_wp2; go_ret; exact hfin.out)
end Go.Proofs.YtbemaloaobeblaaGreatDoor

/- CA2, CA3, CA5, CA6, KP1, KP2, KP3, KP4, KP5, KP6, KP7, KP13, KP14, CA7, CA8, KB3, CT0, KT, ET0, EA3, EA4, EA5, EA6: laid together. -/
import Derived.WalkKit
import Derived.ProofKit
import Derived.OpenShut
import Derived.ChangeOld
import Derived.Lib.LaidU8
import Derived.Lib.LaidTab
import Derived.LaidLaws
import Derived.PinnedBridge
import Derived.Lay
import Derived.LaidMore
import Derived.Test.YtdhmonlhlfkjbaaGreatDoorG6
import Derived.Test.YtdhmonlhlfkjbaaGreatDoorG3
import Derived.Test.YtdhmonlhlfkjbaaGreatDoorG5
import Derived.Test.YtdhmonlhlfkjbaaGreatDoorG2
import Derived.Test.YtdhmonlhlfkjbaaGreatDoorG4
import Derived.Test.YtdhmonlhlfkjbaaGreatDoorRows
namespace Go.Proofs.YtdhmonlhlfkjbaaGreatDoor
open Go.RowKit

def HQ (Q : T → Prop) : T → Prop
  | .mk _ _ _ l p => l.length ≤ 1000000 ∧ p.length ≤ 1000000 ∧ (∀ t ∈ l, Q t) ∧ ∀ q ∈ p, Q q.2
set_option maxHeartbeats 8000000 in
set_option maxRecDepth 100000 in
theorem sorted_s {Q : T → Prop} {d : Nat} (ih : ∀ {F : Nat → Prop} {w : World} {t : T} {c : List Value}, Q t → VA F w t c → Calls Tryz.prog 51 #[.agg c.toArray, .int .i64 (d - 1 : Nat)] w (AnC w (so (d - 1) t)))
    {F : Nat → Prop} {w : World} {t : T} {c : List Value} (hh : HQ Q t) (hd1 : 0 < d) (hd6 : d ≤ 65536) (h : VA F w t c) : Calls Tryz.prog 51 #[.agg c.toArray, .int .i64 (d : Nat)] w (AnC w (so d t)) := by
    have hd0 : ¬ (d : Int) = 0 := by omega
    cases h with
    | @mk k ki s l p sl sp cl cp r1 r2 e1 e2 hl hp1 hp2 =>
      obtain ⟨b1, b2, hl1, hl2⟩ := hh
      obtain ⟨l', hl'⟩ : ∃ l', Hid (l' = l.map (so (d - 1))) := ⟨_, hide1 rfl⟩
      obtain ⟨p', hp'⟩ : ∃ p', Hid (p' = p.map fun q => (q.1, so (d - 1) q.2)) := ⟨_, hide1 rfl⟩
      -- the boxes
      obtain ⟨wb, hwb⟩ : ∃ wb, wb = (w.alloc (.cells #[.int .i64 k, .int .i64 ki, .string (st s), sl, sp] 55)).alloc (.cells #[.int .i64 0, .int .i64 0, .string ⟨#[]⟩, .slice none 0 0, .slice none 0 0] 55) := ⟨_, rfl⟩
      have hbb : Cb w #[.int .i64 k, .int .i64 ki, .string (st s), sl, sp] wb := by
        rw [hwb]
        refine ⟨blw_al ((Below.refl _ _).alloc (Nat.le_refl _) _) (by simp) _, ?_, ?_, by simp⟩
        · show ((w.heap.push _).push _)[w.heap.size]? = _
          rw [Array.getElem?_push, if_neg (by simp), Array.getElem?_push, if_pos rfl]
        · show ((w.heap.push _).push _)[w.heap.size + 1]? = _
          rw [Array.getElem?_push, if_pos (by simp)]
          rfl
      have c3 : wb.cell? ⟨w.heap.size, 3, none⟩ = some sl := by simp only [World.cell?, hbb.b2]; rfl
      have r1b : RwA F wb 55 5 sl cl := r1.frame (fun k _ hs => hbb.bw.block k hs) (fun _ h _ => h)
      have hon1 : ∀ x ∈ cl, x.all (·.oneCell') = true := fun x hx => by
        obtain ⟨j, hj, rfl⟩ := List.mem_iff_getElem.1 hx
        have hj2 : j < l.length := by omega
        exact (hl j _ _ (List.getElem?_eq_getElem hj2) (List.getElem?_eq_getElem hj)).one
      have hcl := clone_V r1b hon1 (by omega)
      have hb1l : cl.length ≤ 1000000 := by omega
      have hb2l : cp.length ≤ 1000000 := by omega
      replace e1 := hide1 e1
      replace e2 := hide1 e2
      replace hbb := hide1 hbb
      subst hwb
      go_enter Tryz.func51, Tryz.ntmps51
      go_wp2_with fail
      refine hcl.mono ?_
      rintro e w1 ⟨v1, rfl, bw1, row1⟩
      have hb1 := hbb.out.keep bw1
      have hsb := hbb.out.sz
      -- the row of the list's own
      obtain ⟨va, vc, hva⟩ : ∃ va vc, v1 = .slice va cl.length vc := by
        obtain ⟨_, ⟨h1, h2⟩ | ⟨g', cap, cur, h1, _⟩⟩ := row1
        · exact ⟨none, 0, by rw [h1, h2]⟩
        · exact ⟨_, cap, h1⟩
      have hw2 : w1.setCell ⟨w.heap.size, 3, none⟩ v1 = w1.setRow w.heap.size #[.int .i64 k, .int .i64 ki, .string (st s), v1, sp] := by
        rw [setCell_eq_setRow w1 w.heap.size 3 _ _ (0, 0) _ hb1.b2]; rfl
      have cc : w1.cell? ⟨w.heap.size, 3, none⟩ = some sl := by simp only [World.cell?, hb1.b2]; rfl
      have cf : w1.frozen? ⟨w.heap.size, 3, none⟩ = false := by simp [World.frozen?, hb1.b2]
      have hB1 : w.heap.size + 2 ≤ ((w.alloc (.cells #[.int .i64 k, .int .i64 ki, .string (st s), sl, sp] 55)).alloc (.cells #[.int .i64 0, .int .i64 0, .string ⟨#[]⟩, .slice none 0 0, .slice none 0 0] 55)).heap.size := hsb
      have hb2 : Cb w #[.int .i64 k, .int .i64 ki, .string (st s), v1, sp] (w1.setCell ⟨w.heap.size, 3, none⟩ v1) := by
        rw [hw2]
        exact ⟨blw_own hb1.bw (Nat.le_refl _) _, setRow_heap w1 w.heap.size _ _ _ _ hb1.b2, (setRow_other w1 _ _ _ (by omega)).trans hb1.b4, by simpa [World.setRow] using hb1.sz⟩
      have hcp : Cp VA 55 5 (w.heap.size + 2) l' cl v1 0 (w1.setCell ⟨w.heap.size, 3, none⟩ v1) cl := by
        refine Cp.start ?_ r1.1
        rw [hw2]
        obtain ⟨q1, q2 | ⟨g', cap, cur, h1, hB, h2, h3⟩⟩ := row1
        · exact ⟨q1, .inl q2⟩
        · exact ⟨q1, .inr ⟨g', cap, cur, h1, by omega, (setRow_other w1 _ g' _ (by omega)).trans h2, h3⟩⟩
      have cg : (w1.setCell ⟨w.heap.size, 3, none⟩ v1).cell? ⟨w.heap.size, 3, none⟩ = some v1 := by simp only [World.cell?, hb2.b2]; rfl
      replace hb2 := hide1 hb2
      replace hcp := hide1 hcp
      clear hbb hb1 hsb row1 bw1 hcl r1b hw2 hB1 c3
      subst hva
      go_wp2_with fail
      generalize w1.setCell ⟨w.heap.size, 3, none⟩ (.slice va cl.length vc) = w2 at *
      go_loopw [27] (fun x wr => ∃ (i : Nat) (ds : List (List Value)), x = .int .i64 (i : Nat) ∧ i ≤ cl.length ∧ Hid (Cb w #[.int .i64 k, .int .i64 ki, .string (st s), .slice va cl.length vc, sp] wr) ∧ Hid (Cp VA 55 5 (w.heap.size + 2) l' cl (.slice va cl.length vc) i wr ds)) (fun x _ => cl.length - (intOf x).toNat)
      case atStart => exact ⟨0, cl, rfl, by omega, hb2, hcp⟩
      case round =>
        obtain ⟨i, ds, rfl, hin, hb, hc⟩ := hrel
        by_cases hlt : i < cl.length
        · have hdl : ds.length = cl.length := hc.out.ln
          obtain ⟨x, hx⟩ : ∃ x, cl[i]? = some x := ⟨_, List.getElem?_eq_getElem hlt⟩
          obtain ⟨u, hu⟩ : ∃ u, l[i]? = some u := ⟨_, List.getElem?_eq_getElem (by have := e1.out; omega)⟩
          have hxu := hl i u x hu hx
          have hhu := hl1 u (List.mem_of_getElem? hu)
          have hdx : ds[i]? = some x := by rw [hc.out.old i (Nat.le_refl _)]; exact hx
          have hrw := own_rows hc.out.row hc.out.lz (F := fun _ => True) (fun _ _ => trivial)
          obtain ⟨gb, o, cap, hve, -, hgl, hr⟩ := hrw.at hdx
          have ho : o = 0 := by
            obtain ⟨_, ⟨h1, _⟩ | ⟨g', cap', cur, h1, _⟩⟩ := hc.out.row
            · rw [h1] at hve; cases hve
            · rw [h1] at hve; cases hve; rfl
          subst ho
          have hva : va = some ⟨gb, 0, none⟩ := by
            rw [hdl] at hve
            cases hve; rfl
          subst hva
          have hon := hon1 x (List.mem_of_getElem? hx)
          have hx5 : x.length = 5 := r1.1 x (List.mem_of_getElem? hx)
          obtain ⟨x0, x1, x2, x3, x4, rfl⟩ : ∃ x0 x1 x2 x3 x4, x = [x0, x1, x2, x3, x4] := by
            match x, hx5 with
            | [x0, x1, x2, x3, x4], _ => exact ⟨x0, x1, x2, x3, x4, rfl⟩
          rw [Nat.zero_add] at hr
          have hr6 : (wr.alloc (.cells #[.int .i64 0, .int .i64 0, .string ⟨#[]⟩, .slice none 0 0, .slice none 0 0] 55)).heap[wr.heap.size]? = some (.cells #[.int .i64 0, .int .i64 0, .string ⟨#[]⟩, .slice none 0 0, .slice none 0 0] 55 (0, 0)) := by
            show (wr.heap.push _)[wr.heap.size]? = _
            rw [Array.getElem?_push, if_pos rfl]
          have h6 := setRow_heap (wr.alloc (.cells #[.int .i64 0, .int .i64 0, .string ⟨#[]⟩, .slice none 0 0, .slice none 0 0] 55)) wr.heap.size _ #[x0, x1, x2, x3, x4] _ _ hr6
          have hal : ∀ k, k < wr.heap.size → ((wr.alloc (.cells #[.int .i64 0, .int .i64 0, .string ⟨#[]⟩, .slice none 0 0, .slice none 0 0] 55)).setRow wr.heap.size #[x0, x1, x2, x3, x4]).heap[k]? = wr.heap[k]? := fun k hk => (setRow_other _ _ k _ (by omega)).trans (by
            show (wr.heap.push _)[k]? = _
            rw [Array.getElem?_push, if_neg (by omega)])
          have hbw : Below wr.heap.size wr ((wr.alloc (.cells #[.int .i64 0, .int .i64 0, .string ⟨#[]⟩, .slice none 0 0, .slice none 0 0] 55)).setRow wr.heap.size #[x0, x1, x2, x3, x4]) := ⟨rfl, rfl, rfl, by simp [World.setRow], hal⟩
          have hb6 := hb.out.keep hbw
          have hc6 := hc.out.keep VA.fr (fun k _ hs => hal k hs)
          have hxw : VA F ((wr.alloc (.cells #[.int .i64 0, .int .i64 0, .string ⟨#[]⟩, .slice none 0 0, .slice none 0 0] 55)).setRow wr.heap.size #[x0, x1, x2, x3, x4]) u [x0, x1, x2, x3, x4] := hxu.frame (fun k _ hs => hb6.bw.block k hs) (fun _ h _ => h)
          replace h6 := hide1 h6
          replace hb6 := hide1 hb6
          replace hc6 := hide1 hc6
          replace hxw := hide1 hxw
          replace hon := hide1 hon
          clear hal hbw hb hc hxu hrw hve hx hdx hx5
          replace hu := hide1 hu
          go_upto_region 8 with (first | refine wpList_load_mid rfl 55 (.tmp 30) rfl gb (i * 5) rfl [x0, x1, x2, x3, x4] _ hr Tryz.underlying55 rfl (by kernel_rfl) ?_ | refine wpList_store_row rfl 55 (.tmp 6) (.tmp 31) rfl wr.heap.size #[x0, x1, x2, x3, x4] rfl rfl 55 _ hr6 (by kernel_rfl) rfl (by simpa using hon.out) ?_)
          generalize (wr.alloc (.cells #[.int .i64 0, .int .i64 0, .string ⟨#[]⟩, .slice none 0 0, .slice none 0 0] 55)).setRow wr.heap.size #[x0, x1, x2, x3, x4] = w3 at *
          generalize hq6 : wr.heap.size = q6 at *
          have ihc : ∀ w, Below w3.heap.size w3 w → Calls Tryz.prog 51 #[.agg #[x0, x1, x2, x3, x4], .int .i64 (d - 1 : Nat)] w (AnC w (so (d - 1) u)) := fun w hb => ih hhu (hxw.out.frame (F := F) (G := F) (fun k _ hs => hb.block k hs) (fun _ h _ => h))
          refine wp_flow 8 _ _ (by kernel_rfl) (by kernel_rfl) (by kernel_rfl) (by kernel_rfl) rfl (R7 w.heap.size gb cl.length vc i d #[x0, x1, x2, x3, x4] w3 (so (d - 1) u)) R7_mono ?_ ?_
          · intro j o ho hj a wa hbw hsl hdep K hK
            match j, ho with
            | 0, ho =>
              obtain rfl := Option.some.inj ho
              have t2 : a.tmps.getD 2 undef = .pointer (some ⟨w.heap.size, 0, none⟩) := hsl 2 rfl
              exact wp_val (w' := wa) (by simp only [execOp, Act.eval]; rw [show a.tmps.getD 2 undef = _ from t2]; kernel_rfl) (hK _ _ (Below.refl _ _) rfl)
            | 1, ho =>
              obtain rfl := Option.some.inj ho
              have t := hdep 0 _ 32 rfl rfl ⟨⟨0, .data⟩, by simp, rfl, rfl⟩
              have hc3 : wa.cell? ⟨w.heap.size, 3, none⟩ = some (.slice (some ⟨gb, 0, none⟩) cl.length vc) := by
                rw [World.cell?_of_block (w := w3) (hbw.block _ (by have := hb6.out.sz; show w.heap.size < _; omega))]
                simp only [World.cell?, hb6.out.b2]; rfl
              exact wp_val (w' := wa) (by simp only [execOp, Act.eval]; rw [show a.tmps.getD 32 undef = _ from t]; simp only [Sem.run_bind, ld_sV hc3, Result.andThen_ok, Sem.run_pure]) (hK _ _ (Below.refl _ _) rfl)
            | 2, ho =>
              obtain rfl := Option.some.inj ho
              have t := hsl 5 rfl
              exact wp_val (w' := wa) (by simp only [execOp, Act.eval]; rw [show a.tmps.getD 5 undef = _ from t]; rfl) (hK _ _ (Below.refl _ _) rfl)
            | 3, ho =>
              obtain rfl := Option.some.inj ho
              have t := hsl 6 rfl
              have hl6 := (hbw.block q6 (Array.getElem?_eq_some_iff.1 h6.out).1).trans h6.out
              exact wp_val (w' := wa) (by simp only [execOp, Act.eval]; rw [show a.tmps.getD 6 undef = .pointer (some ⟨q6, 0, none⟩) from t]; simp only [Sem.run_bind, ldEV hl6 rfl, Result.andThen_ok, Sem.run_pure]) (hK _ _ (Below.refl _ _) rfl)
            | 4, ho =>
              obtain rfl := Option.some.inj ho
              have t := hsl 1 rfl
              exact wp_val (w' := wa) (by simp only [execOp, Act.eval]; rw [show a.tmps.getD 1 undef = _ from t]; rfl) (hK _ _ (Below.refl _ _) rfl)
            | 5, ho =>
              obtain rfl := Option.some.inj ho
              have t := hdep 4 _ 36 rfl rfl ⟨⟨4, .data⟩, by simp, rfl, rfl⟩
              exact wp_val (w' := wa) (by simp only [execOp, Act.eval]; rw [show a.tmps.getD 36 undef = _ from t]; simp only [Sem.run_bind, eqg_sub, sub_1 hd1 hd6, Result.andThen_ok, Sem.run_pure]) (hK _ _ (Below.refl _ _) rfl)
            | 6, ho =>
              obtain rfl := Option.some.inj ho
              have t3 := hdep 3 _ 35 rfl rfl ⟨⟨3, .data⟩, by simp, rfl, rfl⟩
              have t5 := hdep 5 _ 37 rfl rfl ⟨⟨5, .data⟩, by simp, rfl, rfl⟩
              refine oper_any (J := fun r w' => ∃ c : Array Value, r = .agg c ∧ c.size = 5 ∧ Below wa.heap.size wa w' ∧ VA (wa.heap.size ≤ ·) w' (so (d - 1) u) c.toList) 51 #[.tmp 35, .tmp 37] _ rfl #[.agg #[x0, x1, x2, x3, x4], .int .i64 (d - 1 : Nat)] (by simp only [List.map_toArray, List.map_cons, List.map_nil, Act.eval]; rw [show a.tmps.getD 35 undef = _ from t3, show a.tmps.getD 37 undef = _ from t5]) (fun w => by kernel_rfl) ((ihc wa hbw).mono fun e w' h => by obtain ⟨c, rfl, h1, h2, h3⟩ := h; exact ⟨_, rfl, c, rfl, h1, h2, h3⟩) ?_
              rintro r w' ⟨c, rfl, h1, h2, h3⟩
              exact hK _ _ h2 ⟨c, rfl, h1, h3.frame (fun _ _ _ => rfl) (fun k hk _ => Nat.le_trans hbw.size hk)⟩
            | 7, ho =>
              obtain rfl := Option.some.inj ho
              have t1 := hdep 1 _ 33 rfl rfl ⟨⟨1, .data⟩, by simp, rfl, rfl⟩
              have t2 := hdep 2 _ 34 rfl rfl ⟨⟨2, .data⟩, by simp, rfl, rfl⟩
              exact wp_val (w' := wa) (by simp only [execOp, Act.eval]; rw [show a.tmps.getD 33 undef = _ from t1, show a.tmps.getD 34 undef = _ from t2]; simp only [Sem.run_bind, ix_sV hlt, Result.andThen_ok, Sem.run_pure]) (hK _ _ (Below.refl _ _) rfl)
            | 8, _ => exact absurd rfl hj
            | _ + 9, ho => exact absurd ho (by simp)
          · intro a wa hbw hdf hsz hsl hr K hK
            obtain ⟨c', t6, hc5, hcv⟩ := hr 6 _ 38 rfl (by decide) rfl
            have t7 := hr 7 _ 39 rfl (by decide) rfl
            have hca := hc6.out.keep VA.fr (fun k hk hs => hbw.block k hs)
            have hba := hb6.out.keep hbw
            have hrow := hca.row
            rw [hdl] at hrow
            obtain ⟨cur, hgb, hcur, hBg⟩ := own_cur hrow
            have hfit : i * 5 + 5 ≤ cl.length * 5 := by omega
            have hst := st_eV hgb hc5 (Nat.le_trans hfit hcur) (by simpa using hcv.one)
            have hp := own_piece hrow hc5 hfit hgb
            rw [← flat_set hca.lz i c'.toList (by omega)] at hp
            have hw3 := hb6.out.sz
            have hsa := hbw.size
            have hgq : gb < w3.heap.size := by have := (Array.getElem?_eq_some_iff.1 h6.out).1; omega
            have hC : Hid (Cp VA 55 5 (w.heap.size + 2) l' cl (.slice (some ⟨gb, 0, none⟩) cl.length vc) (i + 1) (wa.setRow gb (cur.toList.take (i * 5) ++ c'.toList ++ cur.toList.drop (i * 5 + 5)).toArray) (ds.set i c'.toList)) := hide1 (hca.step VA.fr (by simpa using hc5) (by omega) rfl (fun k hk => setRow_other wa gb k _ hk) (by rw [hdl]; exact hp) (fun t' ht' => by
              rw [hl'.out, List.getElem?_map, hu.out] at ht'
              cases ht'
              refine hcv.frame (fun k hk hs => setRow_other wa gb k _ ?_) (fun k hk hs => ⟨?_, ?_⟩)
              · have : w3.heap.size ≤ k := hk
                omega
              · have : w3.heap.size ≤ k := hk
                omega
              · intro e
                have : k = gb := by simpa [Value.ownBlock] using e
                have : w3.heap.size ≤ k := hk
                omega))
            have hCb := hide1 (hba.over hBg (cur.toList.take (i * 5) ++ c'.toList ++ cur.toList.drop (i * 5 + 5)).toArray)
            generalize (cur.toList.take (i * 5) ++ c'.toList ++ cur.toList.drop (i * 5 + 5)).toArray = nw at *
            refine wp_skp (w' := wa.setRow gb nw) (by simp only [execOp, Act.eval]; rw [show a.tmps.getD 39 undef = _ from t7, show a.tmps.getD 38 undef = _ from t6]; simp only [Sem.run_bind, hst, Result.andThen_ok, Sem.run_pure]) ?_
            refine hK a (wa.setRow gb nw) ?_
            have hact := act_puts hdf hsz hsl
            clear hst hp hcv hca hba hrow hr hsl hdf hsz hbw hK t6 t7 ihc
            simp only [List.filterMap_cons, List.filterMap_nil, List.foldl_cons, List.foldl_nil] at hact
            rw [hact]
            generalize a.tmps.getD 32 undef = y32
            generalize a.tmps.getD 33 undef = y33
            generalize a.tmps.getD 34 undef = y34
            generalize a.tmps.getD 35 undef = y35
            generalize a.tmps.getD 36 undef = y36
            generalize a.tmps.getD 37 undef = y37
            generalize a.tmps.getD 38 undef = y38
            generalize a.tmps.getD 39 undef = y39
            clear hact a
            refine (‹∀ (a : Act) (w : World), Code.wp Tryz.prog _ _ a w → _›) _ (wa.setRow gb nw) ?_
            generalize wa.setRow gb nw = w4 at *
            go_wp2
            go_roundw
            case rel => exact ⟨i + 1, _, rfl, by omega, hCb, hC⟩
            case measure => simp [intOf]; omega
        · have hie : i = cl.length := by omega
          subst hie
          have hcc : wr.cell? ⟨w.heap.size, 4, none⟩ = some sp := by simp only [World.cell?, hb.out.b2]; rfl
          have r2w : RwA F wr 69 6 sp cp := r2.frame (fun k _ hs => hb.out.bw.block k hs) (fun _ h _ => h)
          have hon2 : ∀ x ∈ cp, x.all (·.oneCell') = true := fun x hx => by
            obtain ⟨j, hj, rfl⟩ := List.mem_iff_getElem.1 hx
            have hj2 : j < p.length := by have := e2.out; omega
            have h1 := hp1 j _ _ (List.getElem?_eq_getElem hj2) (List.getElem?_eq_getElem hj)
            have h2 := (hp2 j _ _ (List.getElem?_eq_getElem hj2) (List.getElem?_eq_getElem hj)).one
            generalize cp[j] = x at *
            cases x with
            | nil => cases h1
            | cons a b =>
              simp at h1
              subst h1
              simpa [Value.oneCell'] using h2
          have hcl2 := clone_P r2w hon2 (by omega)
          have hwA := hb.out.sz
          clear hb2 hcp
          go_wp2_with fail
          refine hcl2.mono ?_
          rintro e w5 ⟨v2, rfl, bw5, row2⟩
          have hb5 := hb.out.keep bw5
          obtain ⟨va2, vc2, hva2⟩ : ∃ va vc, v2 = .slice va cp.length vc := by
            obtain ⟨_, ⟨h1, h2⟩ | ⟨g', cap, cur, h1, _⟩⟩ := row2
            · exact ⟨none, 0, by rw [h1, h2]⟩
            · exact ⟨_, cap, h1⟩
          have hw6 : w5.setCell ⟨w.heap.size, 4, none⟩ v2 = w5.setRow w.heap.size #[.int .i64 k, .int .i64 ki, .string (st s), .slice va cl.length vc, v2] := by
            rw [setCell_eq_setRow w5 w.heap.size 4 _ _ (0, 0) _ hb5.b2]; rfl
          have cc5 : w5.cell? ⟨w.heap.size, 4, none⟩ = some sp := by simp only [World.cell?, hb5.b2]; rfl
          have cf5 : w5.frozen? ⟨w.heap.size, 4, none⟩ = false := by simp [World.frozen?, hb5.b2]
          have hb6 : Cb w #[.int .i64 k, .int .i64 ki, .string (st s), .slice va cl.length vc, v2] (w5.setCell ⟨w.heap.size, 4, none⟩ v2) := by
            rw [hw6]
            exact ⟨blw_own hb5.bw (Nat.le_refl _) _, setRow_heap w5 w.heap.size _ _ _ _ hb5.b2, (setRow_other w5 _ _ _ (by omega)).trans hb5.b4, by simpa [World.setRow] using hb5.sz⟩
          have hkA : ∀ k, w.heap.size + 2 ≤ k → k < wr.heap.size → (w5.setCell ⟨w.heap.size, 4, none⟩ v2).heap[k]? = wr.heap[k]? := fun k hk hs => by
            rw [hw6]
            exact (setRow_other w5 _ k _ (by omega)).trans (bw5.block k hs)
          have hcp2 : Cp PA 69 6 wr.heap.size p' cp v2 0 (w5.setCell ⟨w.heap.size, 4, none⟩ v2) cp := by
            refine Cp.start ?_ r2.1
            rw [hw6]
            obtain ⟨q1, q2 | ⟨g', cap, cur, h1, hB, h2, h3⟩⟩ := row2
            · exact ⟨q1, .inl q2⟩
            · exact ⟨q1, .inr ⟨g', cap, cur, h1, hB, (setRow_other w5 _ g' _ (by omega)).trans h2, h3⟩⟩
          have hsA : wr.heap.size ≤ (w5.setCell ⟨w.heap.size, 4, none⟩ v2).heap.size := by
            have := bw5.size
            simpa using this
          have cg6 : (w5.setCell ⟨w.heap.size, 4, none⟩ v2).cell? ⟨w.heap.size, 4, none⟩ = some v2 := by simp only [World.cell?, hb6.b2]; rfl
          replace hb6 := hide1 hb6
          replace hcp2 := hide1 hcp2
          replace hkA := hide1 hkA
          replace hsA := hide1 hsA
          clear hb5 row2 bw5 hcl2 r2w hw6
          subst hva2
          go_wp2_with fail
          generalize w5.setCell ⟨w.heap.size, 4, none⟩ (.slice va2 cp.length vc2) = w6 at *
          obtain ⟨wA, rfl⟩ : ∃ x, x = wr := ⟨_, rfl⟩
          go_loopw [48] (fun x wr => ∃ (i : Nat) (ds : List (List Value)), x = .int .i64 (i : Nat) ∧ i ≤ cp.length ∧ Hid (Cb w #[.int .i64 k, .int .i64 ki, .string (st s), .slice va cl.length vc, .slice va2 cp.length vc2] wr) ∧ Hid (Cp PA 69 6 wA.heap.size p' cp (.slice va2 cp.length vc2) i wr ds) ∧ Hid (∀ k, w.heap.size + 2 ≤ k → k < wA.heap.size → wr.heap[k]? = wA.heap[k]?) ∧ Hid (wA.heap.size ≤ wr.heap.size)) (fun x _ => cp.length - (intOf x).toNat)
          case atStart => exact ⟨0, cp, rfl, by omega, hb6, hcp2, hkA, hsA⟩
          case round =>
            clear hb6 hcp2 hkA hsA
            obtain ⟨i, ds2, rfl, hin, hb2, hc2, hkA, hsA⟩ := hrel
            by_cases hlt : i < cp.length
            · have hdl : ds2.length = cp.length := hc2.out.ln
              obtain ⟨x, hx⟩ : ∃ x, cp[i]? = some x := ⟨_, List.getElem?_eq_getElem hlt⟩
              obtain ⟨u, hu⟩ : ∃ u, p[i]? = some u := ⟨_, List.getElem?_eq_getElem (by have := e2.out; omega)⟩
              have hxn := hp1 i u x hu hx
              have hxu := hp2 i u x hu hx
              have hhu := hl2 u (List.mem_of_getElem? hu)
              have hdx : ds2[i]? = some x := by rw [hc2.out.old i (Nat.le_refl _)]; exact hx
              have hrw := own_rows hc2.out.row hc2.out.lz (F := fun _ => True) (fun _ _ => trivial)
              obtain ⟨gb, o, cap, hve, -, hgl, hr⟩ := hrw.at hdx
              have ho : o = 0 := by
                obtain ⟨_, ⟨h1, _⟩ | ⟨g', cap', cur, h1, _⟩⟩ := hc2.out.row
                · rw [h1] at hve; cases hve
                · rw [h1] at hve; cases hve; rfl
              subst ho
              have hva : va2 = some ⟨gb, 0, none⟩ := by
                rw [hdl] at hve
                cases hve; rfl
              subst hva
              have hon := hon2 x (List.mem_of_getElem? hx)
              obtain ⟨x0, x1, x2, x3, x4, x5, rfl⟩ := arr6 (r2.1 x (List.mem_of_getElem? hx))
              have hx0 : x0 = .string (st u.1) := by simpa using hxn
              subst hx0
              rw [Nat.zero_add] at hr
              have hr8 : (wr.alloc (.cells #[.string ⟨#[]⟩, .int .i64 0, .int .i64 0, .string ⟨#[]⟩, .slice none 0 0, .slice none 0 0] 69)).heap[wr.heap.size]? = some (.cells #[.string ⟨#[]⟩, .int .i64 0, .int .i64 0, .string ⟨#[]⟩, .slice none 0 0, .slice none 0 0] 69 (0, 0)) := by
                show (wr.heap.push _)[wr.heap.size]? = _
                rw [Array.getElem?_push, if_pos rfl]
              have h8 := setRow_heap (wr.alloc (.cells #[.string ⟨#[]⟩, .int .i64 0, .int .i64 0, .string ⟨#[]⟩, .slice none 0 0, .slice none 0 0] 69)) wr.heap.size _ #[.string (st u.1), x1, x2, x3, x4, x5] _ _ hr8
              have hal : ∀ k, k < wr.heap.size → ((wr.alloc (.cells #[.string ⟨#[]⟩, .int .i64 0, .int .i64 0, .string ⟨#[]⟩, .slice none 0 0, .slice none 0 0] 69)).setRow wr.heap.size #[.string (st u.1), x1, x2, x3, x4, x5]).heap[k]? = wr.heap[k]? := fun k hk => (setRow_other _ _ k _ (by omega)).trans (by
                show (wr.heap.push _)[k]? = _
                rw [Array.getElem?_push, if_neg (by omega)])
              have hbw : Below wr.heap.size wr ((wr.alloc (.cells #[.string ⟨#[]⟩, .int .i64 0, .int .i64 0, .string ⟨#[]⟩, .slice none 0 0, .slice none 0 0] 69)).setRow wr.heap.size #[.string (st u.1), x1, x2, x3, x4, x5]) := ⟨rfl, rfl, rfl, by simp [World.setRow], hal⟩
              have hb6 := hb2.out.keep hbw
              have hc6 := hc2.out.keep PA.fr (fun k _ hs => hal k hs)
              have hkA6 : ∀ k, w.heap.size + 2 ≤ k → k < wA.heap.size → ((wr.alloc (.cells #[.string ⟨#[]⟩, .int .i64 0, .int .i64 0, .string ⟨#[]⟩, .slice none 0 0, .slice none 0 0] 69)).setRow wr.heap.size #[.string (st u.1), x1, x2, x3, x4, x5]).heap[k]? = wA.heap[k]? := fun k hk hs => (hal k (Nat.lt_of_lt_of_le hs hsA.out)).trans (hkA.out k hk hs)
              have hsA6 : wA.heap.size ≤ ((wr.alloc (.cells #[.string ⟨#[]⟩, .int .i64 0, .int .i64 0, .string ⟨#[]⟩, .slice none 0 0, .slice none 0 0] 69)).setRow wr.heap.size #[.string (st u.1), x1, x2, x3, x4, x5]).heap.size := Nat.le_trans hsA.out hbw.size
              have hxw : VA F ((wr.alloc (.cells #[.string ⟨#[]⟩, .int .i64 0, .int .i64 0, .string ⟨#[]⟩, .slice none 0 0, .slice none 0 0] 69)).setRow wr.heap.size #[.string (st u.1), x1, x2, x3, x4, x5]) u.2 [x1, x2, x3, x4, x5] := VA.frame (c := [x1, x2, x3, x4, x5]) hxu (fun k _ hs => hb6.bw.block k hs) (fun _ h _ => h)
              replace h8 := hide1 h8
              replace hb6 := hide1 hb6
              replace hc6 := hide1 hc6
              replace hxw := hide1 hxw
              replace hon := hide1 hon
              replace hkA6 := hide1 hkA6
              replace hsA6 := hide1 hsA6
              clear hal hbw hb2 hc2 hkA hsA hxu hxn hrw hve hx
              replace hu := hide1 hu
              replace hdx := hide1 hdx
              go_upto_region 14 with (first | refine wpList_load_mid rfl 69 (.tmp 51) rfl gb (i * 6) rfl [.string (st u.1), x1, x2, x3, x4, x5] _ hr Tryz.underlying69 rfl (by kernel_rfl) ?_ | refine wpList_store_row rfl 69 (.tmp 8) (.tmp 52) rfl wr.heap.size #[.string (st u.1), x1, x2, x3, x4, x5] rfl rfl 69 _ hr8 (by kernel_rfl) rfl (by simpa using hon.out) ?_)
              generalize (wr.alloc (.cells #[.string ⟨#[]⟩, .int .i64 0, .int .i64 0, .string ⟨#[]⟩, .slice none 0 0, .slice none 0 0] 69)).setRow wr.heap.size #[.string (st u.1), x1, x2, x3, x4, x5] = w3 at *
              generalize hq8 : wr.heap.size = q8 at *
              have ihc : ∀ w, Below w3.heap.size w3 w → Calls Tryz.prog 51 #[.agg #[x1, x2, x3, x4, x5], .int .i64 (d - 1 : Nat)] w (AnC w (so (d - 1) u.2)) := fun w hb => ih hhu (hxw.out.frame (F := F) (G := F) (fun k _ hs => hb.block k hs) (fun _ h _ => h))
              refine wp_flow 10 _ _ (by kernel_rfl) (by kernel_rfl) (by kernel_rfl) (by kernel_rfl) rfl (R13 w.heap.size q8 gb cp.length vc2 i d #[x1, x2, x3, x4, x5] w3 (so (d - 1) u.2)) R13_mono ?_ ?_
              · intro j o ho hj a wa hbw hsl hdep K hK
                match j, ho with
                | 0, ho =>
                  obtain rfl := Option.some.inj ho
                  have t2 : a.tmps.getD 2 undef = .pointer (some ⟨w.heap.size, 0, none⟩) := hsl 2 rfl
                  exact wp_val (w' := wa) (by simp only [execOp, Act.eval]; rw [show a.tmps.getD 2 undef = _ from t2]; kernel_rfl) (hK _ _ (Below.refl _ _) rfl)
                | 1, ho =>
                  obtain rfl := Option.some.inj ho
                  have t := hdep 0 _ 53 rfl rfl ⟨⟨0, .data⟩, by simp, rfl, rfl⟩
                  have hc3 : wa.cell? ⟨w.heap.size, 4, none⟩ = some (.slice (some ⟨gb, 0, none⟩) cp.length vc2) := by
                    rw [World.cell?_of_block (w := w3) (hbw.block _ (by have := hb6.out.sz; show w.heap.size < _; omega))]
                    simp only [World.cell?, hb6.out.b2]; rfl
                  exact wp_val (w' := wa) (by simp only [execOp, Act.eval]; rw [show a.tmps.getD 53 undef = _ from t]; simp only [Sem.run_bind, ld_sP hc3, Result.andThen_ok, Sem.run_pure]) (hK _ _ (Below.refl _ _) rfl)
                | 2, ho =>
                  obtain rfl := Option.some.inj ho
                  have t := hsl 7 rfl
                  exact wp_val (w' := wa) (by simp only [execOp, Act.eval]; rw [show a.tmps.getD 7 undef = _ from t]; rfl) (hK _ _ (Below.refl _ _) rfl)
                | 3, ho =>
                  obtain rfl := Option.some.inj ho
                  have t2 : a.tmps.getD 8 undef = .pointer (some ⟨q8, 0, none⟩) := hsl 8 rfl
                  exact wp_val (w' := wa) (by simp only [execOp, Act.eval]; rw [show a.tmps.getD 8 undef = _ from t2]; kernel_rfl) (hK _ _ (Below.refl _ _) rfl)
                | 4, ho =>
                  obtain rfl := Option.some.inj ho
                  have t := hdep 3 _ 56 rfl rfl ⟨⟨3, .data⟩, by simp, rfl, rfl⟩
                  have hl8 := (hbw.block q8 (Array.getElem?_eq_some_iff.1 h8.out).1).trans h8.out
                  exact wp_val (w' := wa) (by simp only [execOp, Act.eval]; rw [show a.tmps.getD 56 undef = _ from t]; simp only [Sem.run_bind, ld_v1 hl8, Result.andThen_ok, Sem.run_pure]) (hK _ _ (Below.refl _ _) rfl)
                | 5, ho =>
                  obtain rfl := Option.some.inj ho
                  have t := hsl 1 rfl
                  exact wp_val (w' := wa) (by simp only [execOp, Act.eval]; rw [show a.tmps.getD 1 undef = _ from t]; rfl) (hK _ _ (Below.refl _ _) rfl)
                | 6, ho =>
                  obtain rfl := Option.some.inj ho
                  have t := hdep 5 _ 58 rfl rfl ⟨⟨5, .data⟩, by simp, rfl, rfl⟩
                  exact wp_val (w' := wa) (by simp only [execOp, Act.eval]; rw [show a.tmps.getD 58 undef = _ from t]; simp only [Sem.run_bind, eqg_sub, sub_1 hd1 hd6, Result.andThen_ok, Sem.run_pure]) (hK _ _ (Below.refl _ _) rfl)
                | 7, ho =>
                  obtain rfl := Option.some.inj ho
                  have t3 := hdep 4 _ 57 rfl rfl ⟨⟨4, .data⟩, by simp, rfl, rfl⟩
                  have t5 := hdep 6 _ 59 rfl rfl ⟨⟨6, .data⟩, by simp, rfl, rfl⟩
                  refine oper_any (J := fun r w' => ∃ c : Array Value, r = .agg c ∧ c.size = 5 ∧ Below wa.heap.size wa w' ∧ VA (wa.heap.size ≤ ·) w' (so (d - 1) u.2) c.toList) 51 #[.tmp 57, .tmp 59] _ rfl #[.agg #[x1, x2, x3, x4, x5], .int .i64 (d - 1 : Nat)] (by simp only [List.map_toArray, List.map_cons, List.map_nil, Act.eval]; rw [show a.tmps.getD 57 undef = _ from t3, show a.tmps.getD 59 undef = _ from t5]) (fun w => by kernel_rfl) ((ihc wa hbw).mono fun e w' h => by obtain ⟨c, rfl, h1, h2, h3⟩ := h; exact ⟨_, rfl, c, rfl, h1, h2, h3⟩) ?_
                  rintro r w' ⟨c, rfl, h1, h2, h3⟩
                  exact hK _ _ h2 ⟨c, rfl, h1, h3.frame (fun _ _ _ => rfl) (fun k hk _ => Nat.le_trans hbw.size hk)⟩
                | 8, ho =>
                  obtain rfl := Option.some.inj ho
                  have t1 := hdep 1 _ 54 rfl rfl ⟨⟨1, .data⟩, by simp, rfl, rfl⟩
                  have t2 := hdep 2 _ 55 rfl rfl ⟨⟨2, .data⟩, by simp, rfl, rfl⟩
                  exact wp_val (w' := wa) (by simp only [execOp, Act.eval]; rw [show a.tmps.getD 54 undef = _ from t1, show a.tmps.getD 55 undef = _ from t2]; simp only [Sem.run_bind, ix_sP hlt, Result.andThen_ok, Sem.run_pure]) (hK _ _ (Below.refl _ _) rfl)
                | 9, ho =>
                  obtain rfl := Option.some.inj ho
                  have t1 := hdep 8 _ 61 rfl rfl ⟨⟨8, .data⟩, by simp, rfl, rfl⟩
                  exact wp_val (w' := wa) (by simp only [execOp, Act.eval]; rw [show a.tmps.getD 61 undef = _ from t1]; kernel_rfl) (hK _ _ (Below.refl _ _) rfl)
                | 10, _ => exact absurd rfl hj
                | _ + 11, ho => exact absurd ho (by simp)
              · intro a wa hbw hdf hsz hsl hr K hK
                obtain ⟨c', t6, hc5, hcv⟩ := hr 7 _ 60 rfl (by decide) rfl
                have t7 := hr 9 _ 62 rfl (by decide) rfl
                have hca := hc6.out.keep PA.fr (fun k hk hs => hbw.block k hs)
                have hba := hb6.out.keep hbw
                have hrow := hca.row
                rw [hdl] at hrow
                obtain ⟨cur, hgb, hcur, hBg⟩ := own_cur hrow
                have hfit : i * 6 + 1 + 5 ≤ cp.length * 6 := by omega
                have hst := st_eV hgb hc5 (Nat.le_trans hfit hcur) (by simpa using hcv.one)
                have hp := own_piece hrow hc5 hfit hgb
                rw [← flat_set1 hca.lz hdx.out] at hp
                have hw3 := hb6.out.sz
                have hsa := hbw.size
                have hgq : gb < w3.heap.size := by have := (Array.getElem?_eq_some_iff.1 h8.out).1; omega
                have hsAa := hsA6.out
                have hC : Hid (Cp PA 69 6 wA.heap.size p' cp (.slice (some ⟨gb, 0, none⟩) cp.length vc2) (i + 1) (wa.setRow gb (cur.toList.take (i * 6 + 1) ++ c'.toList ++ cur.toList.drop (i * 6 + 1 + 5)).toArray) (ds2.set i (.string (st u.1) :: c'.toList))) := hide1 (hca.step PA.fr (by simp [hc5]) (by omega) rfl (fun k hk => setRow_other wa gb k _ hk) (by rw [hdl]; exact hp) (fun t' ht' => by
                  rw [hp'.out, List.getElem?_map, hu.out] at ht'
                  cases ht'
                  refine ⟨rfl, VA.frame (c := c'.toList) hcv (fun k hk hs => setRow_other wa gb k _ ?_) (fun k hk hs => ⟨?_, ?_⟩)⟩
                  · have : w3.heap.size ≤ k := hk
                    omega
                  · have : w3.heap.size ≤ k := hk
                    omega
                  · intro e
                    have : k = gb := by simpa [Value.ownBlock] using e
                    have : w3.heap.size ≤ k := hk
                    omega))
                have hCb := hide1 (hba.over (Nat.le_trans hwA hBg) (cur.toList.take (i * 6 + 1) ++ c'.toList ++ cur.toList.drop (i * 6 + 1 + 5)).toArray)
                have hCk : Hid (∀ k, w.heap.size + 2 ≤ k → k < wA.heap.size → (wa.setRow gb (cur.toList.take (i * 6 + 1) ++ c'.toList ++ cur.toList.drop (i * 6 + 1 + 5)).toArray).heap[k]? = wA.heap[k]?) := hide1 fun k hk hs => (setRow_other wa gb k _ (by omega)).trans ((hbw.block k (by omega)).trans (hkA6.out k hk hs))
                have hCs : Hid (wA.heap.size ≤ (wa.setRow gb (cur.toList.take (i * 6 + 1) ++ c'.toList ++ cur.toList.drop (i * 6 + 1 + 5)).toArray).heap.size) := hide1 (by simp [World.setRow]; omega)
                generalize (cur.toList.take (i * 6 + 1) ++ c'.toList ++ cur.toList.drop (i * 6 + 1 + 5)).toArray = nw at *
                refine wp_skp (w' := wa.setRow gb nw) (by simp only [execOp, Act.eval]; rw [show a.tmps.getD 62 undef = _ from t7, show a.tmps.getD 60 undef = _ from t6]; simp only [Sem.run_bind, hst, Result.andThen_ok, Sem.run_pure]) ?_
                refine hK a (wa.setRow gb nw) ?_
                have hact := act_puts hdf hsz hsl
                clear hst hp hcv hca hba hrow hr hsl hdf hsz hbw hK t6 t7 ihc
                simp only [List.filterMap_cons, List.filterMap_nil, List.foldl_cons, List.foldl_nil] at hact
                rw [hact]
                generalize a.tmps.getD 53 undef = y53
                generalize a.tmps.getD 54 undef = y54
                generalize a.tmps.getD 55 undef = y55
                generalize a.tmps.getD 56 undef = y56
                generalize a.tmps.getD 57 undef = y57
                generalize a.tmps.getD 58 undef = y58
                generalize a.tmps.getD 59 undef = y59
                generalize a.tmps.getD 60 undef = y60
                generalize a.tmps.getD 61 undef = y61
                generalize a.tmps.getD 62 undef = y62
                clear hact a
                refine (‹∀ (a : Act) (w : World), Code.wp Tryz.prog _ _ a w → _›) _ (wa.setRow gb nw) ?_
                generalize wa.setRow gb nw = w4 at *
                go_wp2
                go_roundw
                case rel => exact ⟨i + 1, _, rfl, by omega, hCb, hC, hCk, hCs⟩
                case measure => simp [intOf]; omega
            · have hie : i = cp.length := by omega
              subst hie
              have hpl' : Hid (cp.length = p'.length) := hide1 (by rw [hp'.out, List.length_map]; exact e2.out)
              have hll' : Hid (cl.length = l'.length) := hide1 (by rw [hl'.out, List.length_map]; exact e1.out)
              -- the sort: the row, the world behind it
              have hsrt : ∃ cs, Hid (cs.length = cp.length) ∧ Hid (∃ B2 : Nat → Prop, (∀ k, B2 k → wA.heap.size ≤ k) ∧ Calls Tryz.prog 94 #[.slice va2 cp.length vc2, .func (.func 95) #[] #[]] wr fun e w7 => e = .returned (.tuple #[]) ∧ w7.os = wr.os ∧ w7.tape = wr.tape ∧ w7.output = wr.output ∧ wr.heap.size ≤ w7.heap.size ∧ (∀ k, k < wr.heap.size → k < wA.heap.size → w7.heap[k]? = wr.heap[k]?) ∧
                  RwA (wA.heap.size ≤ ·) w7 69 6 (.slice va2 cp.length vc2) cs ∧ ∀ (j : Nat) (q : Tp) (c : List Value), (ss ltT p')[j]? = some q → cs[j]? = some c → c.head? = some (Value.string (st q.1)) ∧ VA (wA.heap.size ≤ ·) w7 q.2 c.tail) := by
                by_cases hz : cp.length = 0
                · refine ⟨[], hide1 (by simp [hz]), hide1 ⟨fun k => wA.heap.size ≤ k, fun _ h => h, ?_⟩⟩
                  rw [hz]
                  refine sort0_d.mono ?_
                  rintro e w7 ⟨rfl, rfl⟩
                  exact ⟨rfl, rfl, rfl, rfl, Nat.le_refl _, fun _ _ _ => rfl, ⟨by simp, .inl ⟨_, _, rfl, rfl⟩⟩, fun j q c _ h => by simp at h⟩
                · obtain ⟨gb, rfl⟩ : ∃ gb, va2 = some ⟨gb, 0, none⟩ := by
                    have hrow := hc2.out.row
                    rw [hc2.out.ln] at hrow
                    obtain ⟨_, ⟨h1, h2⟩ | ⟨g', cap, cur, h1, _⟩⟩ := hrow
                    · omega
                    · cases h1; exact ⟨_, rfl⟩
                  have hRw := fp_rw hc2.out hpl'.out
                  have hs := sort_d hRw (by omega)
                  obtain ⟨hBg, hgl⟩ := hRw.lt
                  -- the sorted cells are told ahead by the row's own function: the order is the paper's
                  refine ⟨(ss ltE (sg (Fp p' ds2) 0 cp.length)).map Go.Proofs.YtdhmonlhlfkjbaaGreatDoor.cl, hide1 (by rw [List.length_map, ss_len, sg_len]), hide1 ⟨fun k => wA.heap.size ≤ k, fun _ h => h, ?_⟩⟩
                  refine hs.mono ?_
                  rintro e w7 ⟨rfl, G, hG1, hG2, hG3⟩
                  have hf := fp_fin hc2.out hpl'.out hG2
                  rw [hG2] at hf
                  have hrow := hG1.row
                  rw [hG2] at hrow
                  refine ⟨rfl, hG3.os, hG3.tape, hG3.output, hG3.size, fun k h1 h2 => hG3.block k h1 (by omega), ?_, fun j q c h1 h2 => ?_⟩
                  · have hln : ((ss ltE (sg (Fp p' ds2) 0 cp.length)).map Go.Proofs.YtdhmonlhlfkjbaaGreatDoor.cl).length = cp.length := by rw [List.length_map, ss_len, sg_len]
                    have := own_rows (cs := (ss ltE (sg (Fp p' ds2) 0 cp.length)).map Go.Proofs.YtdhmonlhlfkjbaaGreatDoor.cl) (by rw [hln]; exact hrow) (fun c hc => hG1.lens c (by rw [hG2]; exact hc)) (F := (wA.heap.size ≤ ·)) (fun k hk => hk)
                    exact this
                  · rw [List.getElem?_map] at h2
                    cases he : (ss ltE (sg (Fp p' ds2) 0 cp.length))[j]? with
                    | none => rw [he] at h2; cases h2
                    | some e =>
                      rw [he] at h2
                      cases h2
                      obtain ⟨g1, g2⟩ := hf.at he h1
                      exact ⟨by show some (Value.string (st e.1)) = _; rw [g1], g2.frame (fun k hk hs => hG3.block k hs hk.2) (fun k hk _ => hk.1)⟩
              obtain ⟨cs, hcsl, hsrt⟩ := hsrt
              obtain ⟨-, -, hsc⟩ := hsrt.out
              have lz : wr.cell? ⟨w.heap.size, 4, none⟩ = some (.slice va2 cp.length vc2) := by simp only [World.cell?, hb2.out.b2]; rfl
              clear hsrt
              go_wp2_with fail
              refine hsc.mono ?_
              rintro er w7 ⟨rfl, o1, o2, o3, o4, o5, o6, o7⟩
              have hsz7 := hb2.out.sz
              have hb7 : Cb w #[.int .i64 k, .int .i64 ki, .string (st s), .slice va cl.length vc, .slice va2 cp.length vc2] w7 := ⟨⟨o1.trans hb2.out.bw.os, o2.trans hb2.out.bw.tape, o3.trans hb2.out.bw.output, Nat.le_trans hb2.out.bw.size o4, fun k hk => (o5 k (Nat.lt_of_lt_of_le hk hb2.out.bw.size) (by omega)).trans (hb2.out.bw.block k hk)⟩, (o5 _ (by omega) (by omega)).trans hb2.out.b2, (o5 _ (by omega) (by omega)).trans hb2.out.b4, by omega⟩
              have hr4 := hb7.b4
              have l0 : w7.cell? ⟨w.heap.size, 0, none⟩ = some (.int .i64 k) := by simp only [World.cell?, hb7.b2]; rfl
              have l1 : w7.cell? ⟨w.heap.size, 1, none⟩ = some (.int .i64 ki) := by simp only [World.cell?, hb7.b2]; rfl
              have l2 : w7.cell? ⟨w.heap.size, 2, none⟩ = some (.string (st s)) := by simp only [World.cell?, hb7.b2]; rfl
              have l3 : w7.cell? ⟨w.heap.size, 3, none⟩ = some (.slice va cl.length vc) := by simp only [World.cell?, hb7.b2]; rfl
              have l4 : w7.cell? ⟨w.heap.size, 4, none⟩ = some (.slice va2 cp.length vc2) := by simp only [World.cell?, hb7.b2]; rfl
              have hz := setRow_heap w7 (w.heap.size + 1) _ #[.int .i64 k, .int .i64 ki, .string (st s), .slice va cl.length vc, .slice va2 cp.length vc2] _ _ hr4
              have hso : so d (.mk k ki s l p) = .mk k ki s l' (ss ltT p') := by
                obtain ⟨d', rfl⟩ : ∃ d', d = d' + 1 := ⟨d - 1, by omega⟩
                rw [hl'.out, hp'.out]; rfl
              have ha : AnC w (so d (.mk k ki s l p)) (.returned (.agg #[.int .i64 k, .int .i64 ki, .string (st s), .slice va cl.length vc, .slice va2 cp.length vc2])) (w7.setRow (w.heap.size + 1) #[.int .i64 k, .int .i64 ki, .string (st s), .slice va cl.length vc, .slice va2 cp.length vc2]) := by
                rw [hso]
                refine ⟨_, rfl, rfl, blw_own hb7.bw (by omega) _, ?_⟩
                have hfr : ∀ k', w.heap.size + 2 ≤ k' → (w7.setRow (w.heap.size + 1) #[.int .i64 k, .int .i64 ki, .string (st s), .slice va cl.length vc, .slice va2 cp.length vc2]).heap[k']? = w7.heap[k']? := fun k' hk' => setRow_other w7 _ k' _ (by omega)
                have hsA' := hsA.out
                have r1' := (own_rows hc.out.row hc.out.lz (F := fun k => w.heap.size + 2 ≤ k) (fun k hk => hk)).frame (w' := w7.setRow (w.heap.size + 1) #[.int .i64 k, .int .i64 ki, .string (st s), .slice va cl.length vc, .slice va2 cp.length vc2]) (G := (w.heap.size ≤ ·)) (fun k' hk hs => (hfr k' hk).trans ((o5 k' (by omega) hs).trans (hkA.out k' hk hs))) (fun k' hk _ => by show w.heap.size ≤ k'; have : w.heap.size + 2 ≤ k' := hk; omega)
                have r2' := o6.frame (w' := w7.setRow (w.heap.size + 1) #[.int .i64 k, .int .i64 ki, .string (st s), .slice va cl.length vc, .slice va2 cp.length vc2]) (G := (w.heap.size ≤ ·)) (fun k' hk hs => hfr k' (Nat.le_trans hwA hk)) (fun k' hk _ => by show w.heap.size ≤ k'; have : wA.heap.size ≤ k' := hk; omega)
                have hll := hc.out.ln
                have hcl2 := hcsl.out
                refine VA.mk (s := s) r1' r2' (by have := hll'.out; omega) (by rw [hcl2, ss_len]; exact hpl'.out) (fun j t c h1 h2 => ?_) (fun j q c h1 h2 => (o7 j q c h1 h2).1) (fun j q c h1 h2 => ?_)
                · have hj := (List.getElem?_eq_some_iff.1 h2).1
                  exact (hc.out.new j t c (by have := hll'.out; omega) h1 h2).frame (fun k' hk hs => (hfr k' hk.1).trans ((o5 k' (by omega) hs).trans (hkA.out k' hk.1 hs))) (fun k' hk _ => by show w.heap.size ≤ k'; have := hk.1; omega)
                · exact (o7 j q c h1 h2).2.frame (fun k' hk hs => hfr k' (Nat.le_trans hwA hk)) (fun k' hk _ => by show w.heap.size ≤ k'; have : wA.heap.size ≤ k' := hk; omega)
              replace ha := hide1 ha
              replace hz := hide1 hz
              clear hb2 hc2 hkA hsA hb hc hsc o1 o2 o3 o4 o5 o6 o7 hb7 lz hso
              go_wp2_with (refine wpList_store_row rfl Vt (.tmp 4) (.tmp 67) rfl (w.heap.size + 1) #[.int .i64 k, .int .i64 ki, .string (st s), .slice va cl.length vc, .slice va2 cp.length vc2] rfl rfl Vt _ hr4 (by kernel_rfl) rfl (by kernel_rfl) ?_)
              refine bodyPost_ret (results_v1 rfl _ rfl rfl hz.out) rfl ?_
              exact ha.out
theorem clip_V {a : Option Addr} {cap : Nat} {w : World} : Calls Tryz.prog 90 #[.slice a 0 cap] w fun e w' => e = .returned (.slice a 0 0) ∧ w' = w := by
  go_enter Tryz.func90, Tryz.ntmps90
  cases a <;> go_wp2 <;> go_ret <;> exact ⟨rfl, rfl⟩
theorem clip_P {a : Option Addr} {cap : Nat} {w : World} : Calls Tryz.prog 91 #[.slice a 0 cap] w fun e w' => e = .returned (.slice a 0 0) ∧ w' = w := by
  go_enter Tryz.func91, Tryz.ntmps91
  cases a <;> go_wp2 <;> go_ret <;> exact ⟨rfl, rfl⟩
def Ms (W : World) (q : Nat) (k ki : Int) (s : ByteArray) (a b : Option Addr) (ca cb : Nat) (D1 D2 : Bool) (w : World) : Prop :=
  w.heap[q]? = some (.cells #[.int .i64 k, .int .i64 ki, .string s, .slice a 0 (if D1 then 0 else ca), .slice b 0 (if D2 then 0 else cb)] 55 (0, 0)) ∧ Ob W w q
section
variable {W w : World} {q : Nat} {k ki : Int} {s : ByteArray} {a b : Option Addr} {ca cb : Nat} {D : Nat → Bool} {D1 D2 : Bool}
theorem ms_ne {i s1 s2 : Nat} (h1 : s1 ≠ i) (h2 : s2 ≠ i) (h : Ms W q k ki s a b ca cb (D s1) (D s2) w) : Ms W q k ki s a b ca cb (add1 D i s1) (add1 D i s2) w := by
  rw [add1_ne h1, add1_ne h2]; exact h
theorem ms_c3 (h : Ms W q k ki s a b ca cb D1 D2 w) (h1 : D1 = false) : w.cell? ⟨q, 3, none⟩ = some (.slice a 0 ca) := by
  subst h1; simp only [World.cell?, h.1]; rfl
theorem ms_c4 (h : Ms W q k ki s a b ca cb D1 D2 w) (h1 : D2 = false) : w.cell? ⟨q, 4, none⟩ = some (.slice b 0 cb) := by
  subst h1; simp only [World.cell?, h.1]; rfl
theorem ms_7 (h : Ms W q k ki s a b ca cb (D 7) (D 9) w) (h1 : D 7 = false) :
    (Instr.storeAt 52 (.pointer (some ⟨q, 3, none⟩)) (.slice a 0 0)).run Tryz.prog w = .ok () (w.setCell ⟨q, 3, none⟩ (.slice a 0 0)) ∧ Ms W q k ki s a b ca cb (add1 D 7 7) (add1 D 7 9) (w.setCell ⟨q, 3, none⟩ (.slice a 0 0)) := by
  have hc : (w.cell? ⟨q, 3, none⟩).isSome = true := by rw [ms_c3 h h1]; rfl
  have hf : w.frozen? ⟨q, 3, none⟩ = false := by simp [World.frozen?, h.1]
  refine ⟨by simp [Instr.storeAt, Instr.sureAddr, go_sem, ms_c3 h h1, hf], ?_⟩
  rw [add1_eq, add1_ne (by decide)]
  have e := setCell_eq_setRow w q 3 _ _ (0, 0) (.slice a 0 0) h.1
  rw [e]
  exact ⟨(setRow_heap w q _ _ _ _ h.1).trans rfl, h.2.rowset⟩
theorem ms_9 (h : Ms W q k ki s a b ca cb (D 7) (D 9) w) (h1 : D 9 = false) :
    (Instr.storeAt 53 (.pointer (some ⟨q, 4, none⟩)) (.slice b 0 0)).run Tryz.prog w = .ok () (w.setCell ⟨q, 4, none⟩ (.slice b 0 0)) ∧ Ms W q k ki s a b ca cb (add1 D 9 7) (add1 D 9 9) (w.setCell ⟨q, 4, none⟩ (.slice b 0 0)) := by
  have hf : w.frozen? ⟨q, 4, none⟩ = false := by simp [World.frozen?, h.1]
  refine ⟨by simp [Instr.storeAt, Instr.sureAddr, go_sem, ms_c4 h h1, hf], ?_⟩
  rw [add1_eq, add1_ne (by decide)]
  have e := setCell_eq_setRow w q 4 _ _ (0, 0) (.slice b 0 0) h.1
  rw [e]
  exact ⟨(setRow_heap w q _ _ _ _ h.1).trans rfl, h.2.rowset⟩
theorem ms_11 (h1 : D1 = true) (h2 : D2 = true) (h : Ms W q k ki s a b ca cb D1 D2 w) : w.heap[q]? = some (.cells #[.int .i64 k, .int .i64 ki, .string s, .slice a 0 0, .slice b 0 0] 55 (0, 0)) ∧ Ob W w q := by
  subst h1; subst h2; exact h
end
def S0v (q : Nat) (a b : Option Addr) (ca cb : Nat) : Nat → Value → Prop
  | 0, v => v = .pointer (some ⟨q, 3, none⟩)
  | 1, v => v = .slice a 0 ca
  | 2, v => v = .slice a 0 0
  | 3, v => v = .pointer (some ⟨q, 4, none⟩)
  | 4, v => v = .slice b 0 cb
  | 5, v => v = .slice b 0 0
  | 6, v => v = .pointer (some ⟨q, 3, none⟩)
  | 8, v => v = .pointer (some ⟨q, 4, none⟩)
  | _, _ => True
def S0d : Nat → Nat
  | 0 => 11
  | 1 => 12
  | 2 => 13
  | 3 => 14
  | 4 => 15
  | 5 => 16
  | 6 => 17
  | 7 => 1007
  | 8 => 18
  | 9 => 1009
  | i => 2000 + i

set_option maxHeartbeats 4000000 in
set_option maxRecDepth 100000 in
theorem sorted_0 {w : World} {k ki : Int} {s : List UInt8} {a b : Option Addr} {ca cb : Nat} : Calls Tryz.prog 51 #[.agg #[.int .i64 k, .int .i64 ki, .string (st s), .slice a 0 ca, .slice b 0 cb], .int .i64 0] w (AnC w (.mk k ki s [] [])) := by
  obtain ⟨W, hW⟩ : ∃ W, W = (w.alloc (.cells #[.int .i64 k, .int .i64 ki, .string (st s), .slice a 0 ca, .slice b 0 cb] 55)).alloc (.cells #[.int .i64 0, .int .i64 0, .string ⟨#[]⟩, .slice none 0 0, .slice none 0 0] 55) := ⟨_, rfl⟩
  obtain ⟨q, hq⟩ : ∃ q, q = w.heap.size := ⟨_, rfl⟩
  have hb : Hid (Below w.heap.size w W) := hide1 (by rw [hW]; exact blw_al ((Below.refl _ _).alloc (Nat.le_refl _) _) (by simp) _)
  have hr2 : W.heap[q]? = some (.cells #[.int .i64 k, .int .i64 ki, .string (st s), .slice a 0 ca, .slice b 0 cb] 55 (0, 0)) := by
    rw [hW, hq]
    show ((w.heap.push _).push _)[w.heap.size]? = _
    rw [Array.getElem?_push, if_neg (by simp), Array.getElem?_push, if_pos rfl]
  have hr4 : W.heap[q + 1]? = some (.cells #[.int .i64 0, .int .i64 0, .string ⟨#[]⟩, .slice none 0 0, .slice none 0 0] 55 (0, 0)) := by
    rw [hW, hq]
    show ((w.heap.push _).push _)[w.heap.size + 1]? = _
    rw [Array.getElem?_push, if_pos (by simp)]
  have hM0 : Ms W q k ki (st s) a b ca cb false false W.drew := ⟨hr2, ⟨rfl, rfl, rfl, rfl, fun _ _ => rfl⟩⟩
  replace hr2 := hide1 hr2
  replace hr4 := hide1 hr4
  replace hM0 := hide1 hM0
  go_enter Tryz.func51, Tryz.ntmps51
  go_upto_region 2 with fail
  rw [← hW, ← hq]
  replace hM0 := hM0.out
  clear hW
  refine wp_rel5 _ _ (fun _ j v _ => S0v q a b ca cb j v) (fun D w => Ms W q k ki (st s) a b ca cb (D 7) (D 9) w) S0d (by kernel_rfl) (by kernel_rfl) 10 (by kernel_rfl) ?_ ?_ rfl hM0 ?_ ?_
  · intro ix o ho
    match ix, ho with
    | 0, ho => obtain rfl := Option.some.inj ho; exact .inl ⟨rfl, by show 11 < 68; decide⟩
    | 1, ho => obtain rfl := Option.some.inj ho; exact .inl ⟨rfl, by show 12 < 68; decide⟩
    | 2, ho => obtain rfl := Option.some.inj ho; exact .inl ⟨rfl, by show 13 < 68; decide⟩
    | 3, ho => obtain rfl := Option.some.inj ho; exact .inl ⟨rfl, by show 14 < 68; decide⟩
    | 4, ho => obtain rfl := Option.some.inj ho; exact .inl ⟨rfl, by show 15 < 68; decide⟩
    | 5, ho => obtain rfl := Option.some.inj ho; exact .inl ⟨rfl, by show 16 < 68; decide⟩
    | 6, ho => obtain rfl := Option.some.inj ho; exact .inl ⟨rfl, by show 17 < 68; decide⟩
    | 7, ho => obtain rfl := Option.some.inj ho; exact .inr ⟨⟨rfl, fun _ _ _ _ => trivial⟩, by show 68 ≤ 1007; decide⟩
    | 8, ho => obtain rfl := Option.some.inj ho; exact .inl ⟨rfl, by show 18 < 68; decide⟩
    | 9, ho => obtain rfl := Option.some.inj ho; exact .inr ⟨⟨rfl, fun _ _ _ _ => trivial⟩, by show 68 ≤ 1009; decide⟩
    | _ + 10, ho => exact absurd ho (by simp)
  · intro ix jx hi hj e; unfold S0d at e; split at e <;> split at e <;> omega
  · intro ix o ho
    match ix, ho with
    | 0, ho =>
      obtain rfl := Option.some.inj ho
      intro D a1 w hM hsl hdep hDi hcl K hK
      have hp2 : a1.tmps.getD 2 undef = .pointer (some ⟨q, 0, none⟩) := hsl 2 (by intro j hj; unfold S0d; split <;> omega)
      refine ⟨rfl, ?_⟩
      refine wp_val (w' := w) (v := .pointer (some ⟨q, 3, none⟩)) (by simp only [execOp, Act.eval]; rw [show a1.tmps.getD 2 undef = _ from hp2]; kernel_rfl) ?_
      exact hK _ _ rfl (ms_ne (by decide) (by decide) hM) (fun _ _ _ _ h => h)
    | 1, ho =>
      obtain rfl := Option.some.inj ho
      intro D a1 w hM hsl hdep hDi hcl K hK
      have e0 := (hdep ⟨0, .data⟩ (by simp) rfl).1
      have hD : D 7 = false := by cases h9 : D 7 with | false => rfl | true => have := hcl 7 _ rfl h9 ⟨1, .phase⟩ (by simp) rfl; rw [this] at hDi; cases hDi
      have hl := ms_c3 hM hD
      refine ⟨rfl, ?_⟩
      refine wp_val (w' := w) (v := .slice a 0 ca) (by simp only [execOp, Act.eval]; rw [show a1.tmps.getD 11 undef = _ from e0]; simp only [Sem.run_bind, ld_sV hl, Result.andThen_ok, Sem.run_pure]) ?_
      exact hK _ _ rfl (ms_ne (by decide) (by decide) hM) (fun _ _ _ _ h => h)
    | 2, ho =>
      obtain rfl := Option.some.inj ho
      intro D a1 w hM hsl hdep hDi hcl K hK
      have e1 := (hdep ⟨1, .data⟩ (by simp) rfl).1
      refine ⟨rfl, ?_⟩
      refine oper_any (J := fun r w' => r = .slice a 0 0 ∧ w' = w) 90 #[.tmp 12] _ rfl #[.slice a 0 ca] (by simp only [List.map_toArray, List.map_cons, List.map_nil, Act.eval]; rw [show a1.tmps.getD 12 undef = _ from e1]) (fun w => by kernel_rfl) (clip_V.mono fun e w' h => ⟨_, h.1, rfl, h.2⟩) ?_
      rintro r w' ⟨rfl, rfl⟩
      exact hK _ _ rfl (ms_ne (by decide) (by decide) hM) (fun _ _ _ _ h => h)
    | 3, ho =>
      obtain rfl := Option.some.inj ho
      intro D a1 w hM hsl hdep hDi hcl K hK
      have hp2 : a1.tmps.getD 2 undef = .pointer (some ⟨q, 0, none⟩) := hsl 2 (by intro j hj; unfold S0d; split <;> omega)
      refine ⟨rfl, ?_⟩
      refine wp_val (w' := w) (v := .pointer (some ⟨q, 4, none⟩)) (by simp only [execOp, Act.eval]; rw [show a1.tmps.getD 2 undef = _ from hp2]; kernel_rfl) ?_
      exact hK _ _ rfl (ms_ne (by decide) (by decide) hM) (fun _ _ _ _ h => h)
    | 4, ho =>
      obtain rfl := Option.some.inj ho
      intro D a1 w hM hsl hdep hDi hcl K hK
      have e3 := (hdep ⟨3, .data⟩ (by simp) rfl).1
      have hD : D 9 = false := by cases h9 : D 9 with | false => rfl | true => have := hcl 9 _ rfl h9 ⟨4, .phase⟩ (by simp) rfl; rw [this] at hDi; cases hDi
      have hl := ms_c4 hM hD
      refine ⟨rfl, ?_⟩
      refine wp_val (w' := w) (v := .slice b 0 cb) (by simp only [execOp, Act.eval]; rw [show a1.tmps.getD 14 undef = _ from e3]; simp only [Sem.run_bind, ld_sP hl, Result.andThen_ok, Sem.run_pure]) ?_
      exact hK _ _ rfl (ms_ne (by decide) (by decide) hM) (fun _ _ _ _ h => h)
    | 5, ho =>
      obtain rfl := Option.some.inj ho
      intro D a1 w hM hsl hdep hDi hcl K hK
      have e4 := (hdep ⟨4, .data⟩ (by simp) rfl).1
      refine ⟨rfl, ?_⟩
      refine oper_any (J := fun r w' => r = .slice b 0 0 ∧ w' = w) 91 #[.tmp 15] _ rfl #[.slice b 0 cb] (by simp only [List.map_toArray, List.map_cons, List.map_nil, Act.eval]; rw [show a1.tmps.getD 15 undef = _ from e4]) (fun w => by kernel_rfl) (clip_P.mono fun e w' h => ⟨_, h.1, rfl, h.2⟩) ?_
      rintro r w' ⟨rfl, rfl⟩
      exact hK _ _ rfl (ms_ne (by decide) (by decide) hM) (fun _ _ _ _ h => h)
    | 6, ho =>
      obtain rfl := Option.some.inj ho
      intro D a1 w hM hsl hdep hDi hcl K hK
      have hp2 : a1.tmps.getD 2 undef = .pointer (some ⟨q, 0, none⟩) := hsl 2 (by intro j hj; unfold S0d; split <;> omega)
      refine ⟨rfl, ?_⟩
      refine wp_val (w' := w) (v := .pointer (some ⟨q, 3, none⟩)) (by simp only [execOp, Act.eval]; rw [show a1.tmps.getD 2 undef = _ from hp2]; kernel_rfl) ?_
      exact hK _ _ rfl (ms_ne (by decide) (by decide) hM) (fun _ _ _ _ h => h)
    | 7, ho =>
      obtain rfl := Option.some.inj ho
      intro D a1 w hM hsl hdep hDi hcl K hK
      have e6 := (hdep ⟨6, .data⟩ (by simp) rfl).1
      have e2 := (hdep ⟨2, .data⟩ (by simp) rfl).1
      obtain ⟨hst, hM2⟩ := ms_7 hM hDi
      refine ⟨rfl, ?_⟩
      refine wp_skp (w' := w.setCell ⟨q, 3, none⟩ (.slice a 0 0)) (by simp only [execOp, Act.eval]; rw [show a1.tmps.getD 17 undef = _ from e6, show a1.tmps.getD 13 undef = _ from e2]; simp only [Sem.run_bind, hst, Result.andThen_ok, Sem.run_pure]) ?_
      exact hK _ _ trivial hM2 (fun _ _ _ _ h => h)
    | 8, ho =>
      obtain rfl := Option.some.inj ho
      intro D a1 w hM hsl hdep hDi hcl K hK
      have hp2 : a1.tmps.getD 2 undef = .pointer (some ⟨q, 0, none⟩) := hsl 2 (by intro j hj; unfold S0d; split <;> omega)
      refine ⟨rfl, ?_⟩
      refine wp_val (w' := w) (v := .pointer (some ⟨q, 4, none⟩)) (by simp only [execOp, Act.eval]; rw [show a1.tmps.getD 2 undef = _ from hp2]; kernel_rfl) ?_
      exact hK _ _ rfl (ms_ne (by decide) (by decide) hM) (fun _ _ _ _ h => h)
    | 9, ho =>
      obtain rfl := Option.some.inj ho
      intro D a1 w hM hsl hdep hDi hcl K hK
      have e8 := (hdep ⟨8, .data⟩ (by simp) rfl).1
      have e5 := (hdep ⟨5, .data⟩ (by simp) rfl).1
      obtain ⟨hst, hM2⟩ := ms_9 hM hDi
      refine ⟨rfl, ?_⟩
      refine wp_skp (w' := w.setCell ⟨q, 4, none⟩ (.slice b 0 0)) (by simp only [execOp, Act.eval]; rw [show a1.tmps.getD 18 undef = _ from e8, show a1.tmps.getD 16 undef = _ from e5]; simp only [Sem.run_bind, hst, Result.andThen_ok, Sem.run_pure]) ?_
      exact hK _ _ trivial hM2 (fun _ _ _ _ h => h)
    | _ + 10, ho => exact absurd ho (by simp)
  · intro D a1 wt hall hd hs hM hsl hr hact
    replace hM := ms_11 (hall 7 (by decide)) (hall 9 (by decide)) hM
    simp only [List.filterMap_cons, List.filterMap_nil, List.foldl_cons, List.foldl_nil] at hact
    rw [hact]
    generalize a1.tmps.getD 11 undef = y11
    generalize a1.tmps.getD 12 undef = y12
    generalize a1.tmps.getD 13 undef = y13
    generalize a1.tmps.getD 14 undef = y14
    generalize a1.tmps.getD 15 undef = y15
    generalize a1.tmps.getD 16 undef = y16
    generalize a1.tmps.getD 17 undef = y17
    generalize a1.tmps.getD 18 undef = y18
    clear hact hsl hr hd hs hall a1
    simp only [Act.put, List.setIfInBounds_toArray, List.set_cons_succ, List.set_cons_zero]
    obtain ⟨hM1, hM2⟩ := hM
    have l0 : wt.cell? ⟨q, 0, none⟩ = some (.int .i64 k) := by simp only [World.cell?, hM1]; rfl
    have l1 : wt.cell? ⟨q, 1, none⟩ = some (.int .i64 ki) := by simp only [World.cell?, hM1]; rfl
    have l2 : wt.cell? ⟨q, 2, none⟩ = some (.string (st s)) := by simp only [World.cell?, hM1]; rfl
    have l3 : wt.cell? ⟨q, 3, none⟩ = some (.slice a 0 0) := by simp only [World.cell?, hM1]; rfl
    have l4 : wt.cell? ⟨q, 4, none⟩ = some (.slice b 0 0) := by simp only [World.cell?, hM1]; rfl
    have hl5 : wt.rangeAt q 0 [.int .i64 k, .int .i64 ki, .string (st s), .slice a 0 0, .slice b 0 0] := fun j z hj => by
      simp only [World.cell?, hM1]
      rw [Nat.zero_add]
      simpa using hj
    have hr5 := (hM2.block (q + 1) (by omega)).trans hr4.out
    have hz := setRow_heap wt (q + 1) _ #[.int .i64 k, .int .i64 ki, .string (st s), .slice a 0 0, .slice b 0 0] _ _ hr5
    have ha : Hid (AnC w (.mk k ki s [] []) (.returned (.agg #[.int .i64 k, .int .i64 ki, .string (st s), .slice a 0 0, .slice b 0 0])) (wt.setRow (q + 1) #[.int .i64 k, .int .i64 ki, .string (st s), .slice a 0 0, .slice b 0 0])) := hide1 ⟨_, rfl, rfl, blw_own ⟨hM2.os.trans hb.out.os, hM2.tape.trans hb.out.tape, hM2.output.trans hb.out.output, by rw [hM2.size]; exact hb.out.size, fun k hk => (hM2.block k (by omega)).trans (hb.out.block k hk)⟩ (by omega) _, .mk ⟨by simp, .inl ⟨a, 0, rfl, rfl⟩⟩ ⟨by simp, .inl ⟨b, 0, rfl, rfl⟩⟩ rfl rfl (by simp) (by simp) (by simp)⟩
    replace hz := hide1 hz
    clear hM1 hM2 hr2 hr4 hb hM0
    go_wp2_with (first | refine wpList_load_mid rfl 55 (.tmp 2) rfl q 0 rfl [.int .i64 k, .int .i64 ki, .string (st s), .slice a 0 0, .slice b 0 0] _ hl5 Tryz.underlying55 rfl (by kernel_rfl) ?_ | refine wpList_store_row rfl Vt (.tmp 4) (.tmp 19) rfl (q + 1) #[.int .i64 k, .int .i64 ki, .string (st s), .slice a 0 0, .slice b 0 0] rfl rfl Vt _ hr5 (by kernel_rfl) rfl (by kernel_rfl) ?_)
    refine bodyPost_ret (results_v1 rfl _ rfl rfl hz.out) rfl ?_
    exact ha.out
theorem sorted_d : ∀ (d : Nat), d ≤ 8 → ∀ {h : Nat} {F : Nat → Prop} {w : World} {t : T} {c : List Value}, hgt h t → gd d t = true → VA F w t c → Calls Tryz.prog 51 #[.agg c.toArray, .int .i64 (d : Nat)] w (AnC w (so d t))
  | 0, _, h, F, w, t, c, _, hg, hv => by
    cases hv with
    | @mk k ki s l p sl sp cl cp r1 r2 e1 e2 hl hp1 hp2 =>
      obtain ⟨g1, g2, _⟩ := gd_list hg
      obtain rfl : l = [] := by rcases g1 with h | ⟨m, h, _⟩; exact h; omega
      obtain rfl : p = [] := by rcases g2 with h | ⟨m, h, _⟩; exact h; omega
      obtain rfl : cl = [] := List.length_eq_zero_iff.1 e1
      obtain rfl : cp = [] := List.length_eq_zero_iff.1 e2
      obtain ⟨a, ca, rfl⟩ := r1.slc
      obtain ⟨b, cb, rfl⟩ := r2.slc
      exact sorted_0
  | d + 1, hd, h, F, w, t, c, hh, hg, hv => by
    refine sorted_s (Q := fun t => (∃ h, hgt h t) ∧ gd d t = true) (d := d + 1) (fun ht hv => ?_) ?_ (by omega) (by omega) hv
    · obtain ⟨⟨h', h1⟩, h2⟩ := ht
      exact sorted_d d (by omega) h1 h2 hv
    · obtain ⟨k, ki, s, l, p⟩ := t
      cases h with
      | zero => exact hh.elim
      | succ h =>
        obtain ⟨b1, b2, h1, h2⟩ := hh
        obtain ⟨g1, g2, _⟩ := gd_list hg
        refine ⟨b1, b2, fun t ht => ⟨⟨h, h1 t ht⟩, ?_⟩, fun q hq => ⟨⟨h, h2 q hq⟩, ?_⟩⟩
        · rcases g1 with e | ⟨m, e, g⟩
          · rw [e] at ht; simp at ht
          · obtain rfl : m = d := by omega
            exact g t ht
        · rcases g2 with e | ⟨m, e, g⟩
          · rw [e] at hq; simp at hq
          · obtain rfl : m = d := by omega
            exact g q hq
end Go.Proofs.YtdhmonlhlfkjbaaGreatDoor

namespace Go.Proofs.YtdhmonlhlfkjbaaGreatDoor
open Go.RowKit Go.Shelf

def AnK (q : Nat) (ov : Value) (z : List UInt8) (w : World) (e : Ending) (w' : World) : Prop := e = .returned (.tuple #[]) ∧ ∃ ov', Wt w' q ov' z ∧ Wk q ov ov' w w'
theorem sign_91 {w : World} {q : Nat} {ov : Value} {z : List UInt8} (h : Wt w q ov z) : Calls Tryz.prog 89 #[.pointer (some ⟨q, 0, none⟩), .int .i32 91] w (AnK q ov (z ++ [91]) w) := by
  have ha := add_d (s := [91]) h
  clear h
  go_enter Tryz.func89, Tryz.ntmps89
  go_wp2_with fail
  refine ha.mono ?_
  rintro e w1 ⟨rfl, ov', h1, h2⟩
  go_wp2
  go_end0
  exact ⟨rfl, ov', h1, h2⟩
theorem sign_93 {w : World} {q : Nat} {ov : Value} {z : List UInt8} (h : Wt w q ov z) : Calls Tryz.prog 89 #[.pointer (some ⟨q, 0, none⟩), .int .i32 93] w (AnK q ov (z ++ [93]) w) := by
  have ha := add_d (s := [93]) h
  clear h
  go_enter Tryz.func89, Tryz.ntmps89
  go_wp2_with fail
  refine ha.mono ?_
  rintro e w1 ⟨rfl, ov', h1, h2⟩
  go_wp2
  go_end0
  exact ⟨rfl, ov', h1, h2⟩
theorem sign_123 {w : World} {q : Nat} {ov : Value} {z : List UInt8} (h : Wt w q ov z) : Calls Tryz.prog 89 #[.pointer (some ⟨q, 0, none⟩), .int .i32 123] w (AnK q ov (z ++ [123]) w) := by
  have ha := add_d (s := [123]) h
  clear h
  go_enter Tryz.func89, Tryz.ntmps89
  go_wp2_with fail
  refine ha.mono ?_
  rintro e w1 ⟨rfl, ov', h1, h2⟩
  go_wp2
  go_end0
  exact ⟨rfl, ov', h1, h2⟩
theorem sign_125 {w : World} {q : Nat} {ov : Value} {z : List UInt8} (h : Wt w q ov z) : Calls Tryz.prog 89 #[.pointer (some ⟨q, 0, none⟩), .int .i32 125] w (AnK q ov (z ++ [125]) w) := by
  have ha := add_d (s := [125]) h
  clear h
  go_enter Tryz.func89, Tryz.ntmps89
  go_wp2_with fail
  refine ha.mono ?_
  rintro e w1 ⟨rfl, ov', h1, h2⟩
  go_wp2
  go_end0
  exact ⟨rfl, ov', h1, h2⟩
theorem sign_44 {w : World} {q : Nat} {ov : Value} {z : List UInt8} (h : Wt w q ov z) : Calls Tryz.prog 89 #[.pointer (some ⟨q, 0, none⟩), .int .i32 44] w (AnK q ov (z ++ [44]) w) := by
  have ha := add_d (s := [44]) h
  clear h
  go_enter Tryz.func89, Tryz.ntmps89
  go_wp2_with fail
  refine ha.mono ?_
  rintro e w1 ⟨rfl, ov', h1, h2⟩
  go_wp2
  go_end0
  exact ⟨rfl, ov', h1, h2⟩
theorem sign_58 {w : World} {q : Nat} {ov : Value} {z : List UInt8} (h : Wt w q ov z) : Calls Tryz.prog 89 #[.pointer (some ⟨q, 0, none⟩), .int .i32 58] w (AnK q ov (z ++ [58]) w) := by
  have ha := add_d (s := [58]) h
  clear h
  go_enter Tryz.func89, Tryz.ntmps89
  go_wp2_with fail
  refine ha.mono ?_
  rintro e w1 ⟨rfl, ov', h1, h2⟩
  go_wp2
  go_end0
  exact ⟨rfl, ov', h1, h2⟩
set_option maxRecDepth 100000 in
theorem quoted_w {w : World} {q : Nat} {ov : Value} {z s : List UInt8} (h : Wt w q ov z) : Calls Tryz.prog 47 #[.pointer (some ⟨q, 0, none⟩), .string (st s)] w (AnK q ov (z ++ qu s) w) := by
  have hsz : Hid ((st s).size = s.length) := hide1 (st_size s)
  by_cases hs : 4096 < s.length
  · have ht : (4096 : Int) < ((st s).size : Int) := by rw [hsz.out]; omega
    obtain ⟨hbx, out, hown, hl, hz⟩ := h
    have c1 : w.cell? ⟨q, 1, none⟩ = some (.bool (decide (4096 < z.length))) := by simp only [World.cell?, hbx]; rfl
    have f1 : w.frozen? ⟨q, 1, none⟩ = false := by simp [World.frozen?, hbx]
    have e1 : w.setCell ⟨q, 1, none⟩ (.bool true) = w.setRow q #[ov, .bool true] := by rw [sw_row hbx]; rfl
    have hn := setRow_heap w q _ #[ov, .bool true] _ _ hbx
    have hf : Hid (Wt (w.setCell ⟨q, 1, none⟩ (.bool true)) q ov (z ++ qu s) ∧ Wk q ov ov w (w.setCell ⟨q, 1, none⟩ (.bool true))) := hide1 (by
      have hq := (qb_len s).1
      have hzs : 4096 < (z ++ qu s).length := by rw [List.length_append]; simp [qu]; omega
      rw [e1]
      exact ⟨⟨by rw [decide_eq_true hzs]; exact hn, out, hown.row _, hl, .inl hzs⟩, Wk.row _ _ _ fun _ h => .inl h⟩)
    clear hown hz hbx e1 hn
    go_enter Tryz.func47, Tryz.ntmps47
    go_wp2
    first
    | (go_end0; exact ⟨rfl, ov, hf.out⟩)
    | (refine bodyPost_ret (results_none rfl _ _ _) rfl ?_; exact ⟨rfl, ov, hf.out⟩)
  · have ht : ¬ (4096 : Int) < ((st s).size : Int) := by rw [hsz.out]; omega
    have hq := quote_d (w := w) (s := s) (by omega)
    go_enter Tryz.func47, Tryz.ntmps47
    go_wp2_with fail
    refine hq.mono ?_
    rintro e w1 ⟨rfl, b1⟩
    have ha := add_d (s := qu s) (h.below b1)
    have hk := hide1 (Wk.ofB (q := q) (a := ov) b1)
    clear hq b1 h
    go_wp2_with fail
    refine ha.mono ?_
    rintro e w2 ⟨rfl, ov', h1, h2⟩
    have h3 := hide1 (hk.out.trans h2)
    replace h1 := hide1 h1
    clear ha hk h2
    go_wp2
    go_end0
    exact ⟨rfl, ov', h1.out, h3.out⟩
theorem Wt.fresh {w : World} {q : Nat} {ov : Value} {z : List UInt8} (h : Wt w q ov z) : w.heap.size ≠ q ∧ ov.ownBlock ≠ some w.heap.size := by
  obtain ⟨h1, out, ⟨_, ⟨rfl, _⟩ | ⟨g, cap, cur, rfl, hB, hg, _⟩⟩, _⟩ := h
  · exact ⟨by have := (Array.getElem?_eq_some_iff.1 h1).1; omega, fun e => by cases e⟩
  · exact ⟨by have := (Array.getElem?_eq_some_iff.1 h1).1; omega, fun e => by
      have e2 : g = w.heap.size := by simpa [Value.ownBlock] using e
      have h3 := (Array.getElem?_eq_some_iff.1 hg).1
      omega⟩
def Fr (F : Nat → Prop) (w : World) (q : Nat) (ov : Value) : Prop := ∀ k, F k → k < w.heap.size → k ≠ q ∧ ov.ownBlock ≠ some k
theorem RwA.wk {F : Nat → Prop} {w w' : World} {e : TypeId} {z q : Nat} {v ov ov' : Value} {cs : List (List Value)} (h : RwA F w e z v cs) (hF : Fr F w q ov) (hk : Wk q ov ov' w w') : RwA (fun k => F k ∧ k < w.heap.size) w' e z v cs :=
  h.frame (fun k hf hs => hk.block k hs (hF k hf hs).1 (hF k hf hs).2) (fun _ hf hs => ⟨hf, hs⟩)
theorem VA.wk {F : Nat → Prop} {w w' : World} {q : Nat} {ov ov' : Value} {t : T} {c : List Value} (h : VA F w t c) (hF : Fr F w q ov) (hk : Wk q ov ov' w w') : VA (fun k => F k ∧ k < w.heap.size) w' t c :=
  h.frame (fun k hf hs => hk.block k hs (hF k hf hs).1 (hF k hf hs).2) (fun _ hf hs => ⟨hf, hs⟩)
theorem Fr.wk {F : Nat → Prop} {w w' : World} {q : Nat} {ov ov' : Value} (hF : Fr F w q ov) (hk : Wk q ov ov' w w') : Fr (fun k => F k ∧ k < w.heap.size) w' q ov' := fun k hf _ =>
  ⟨(hF k hf.1 hf.2).1, fun e => (hk.own k e).elim (hF k hf.1 hf.2).2 fun h => by have := hf.2; omega⟩
set_option maxHeartbeats 4000000 in
set_option maxRecDepth 100000 in
theorem rowV_d {F : Nat → Prop} {w : World} {q : Nat} {ov v : Value} {zt : List UInt8} {l : List (T)} {cs : List (List Value)} {f : T → List UInt8} (r : RwA F w 55 5 v cs) (hl : cs.length = l.length) (hon : ∀ c ∈ cs, c.all (·.oneCell') = true) (hb : cs.length ≤ 1000000) (hF : Fr F w q ov) (hW : Wt w q ov zt)
    (hone : ∀ (j : Nat) (t : T) (c : List Value), l[j]? = some t → cs[j]? = some c → ∀ (w' : World) (ov' : Value) (z' : List UInt8), Wk q ov ov' w w' → Wt w' q ov' z' → Calls Tryz.prog 31 #[.pointer (some ⟨q, 0, none⟩), .agg c.toArray] w' (AnK q ov' (z' ++ f t) w')) :
    Calls Tryz.prog 48 #[.pointer (some ⟨q, 0, none⟩), .int .i32 91, .int .i32 93, v, .func (.func 31) #[.pointer (some ⟨q, 0, none⟩)] #[]] w (AnK q ov (zt ++ 91 :: (cj (l.map f) ++ [93])) w) := by
  obtain ⟨va, vc, rfl⟩ := r.slc
  have hs0 := sign_91 hW
  replace hone := hide1 hone
  replace hW := hide1 hW
  replace hF := hide1 hF
  replace r := hide1 r
  replace hon := hide1 hon
  replace hl := hide1 hl
  go_enter Tryz.func48, Tryz.ntmps48
  go_wp2_with fail
  refine hs0.mono ?_
  rintro e w1 ⟨rfl, ov1, h1, k1⟩
  have h2 : Hid (Wt w1 q ov1 (zt ++ 91 :: cj ((l.take 0).map f))) := hide1 h1
  replace k1 := hide1 k1
  clear hs0 h1
  go_wp2_with fail
  go_loopw [17] (fun s17 wr => ∃ (i : Nat) (ov' : Value), s17 = .int .i64 (i : Nat) ∧ i ≤ cs.length ∧ Hid (Wt wr q ov' (zt ++ 91 :: cj ((l.take i).map f))) ∧ Hid (Wk q ov ov' w wr)) (fun s17 _ => cs.length - (intOf s17).toNat)
  case atStart => exact ⟨0, ov1, rfl, Nat.zero_le _, h2, k1⟩
  case round =>
    obtain ⟨i, ov', rfl, hi, hWr, hKr⟩ := hrel
    by_cases hlt : i < cs.length
    · obtain ⟨t, ht⟩ : ∃ t, l[i]? = some t := ⟨_, List.getElem?_eq_getElem (by have := hl.out; omega)⟩
      obtain ⟨c, hc⟩ : ∃ c, cs[i]? = some c := ⟨_, List.getElem?_eq_getElem hlt⟩
      have rr := r.out.wk hF.out hKr.out
      obtain ⟨b, oo, cap, hve, -, hbl, hr⟩ := rr.at hc
      cases hve
      have hcz := rr.1 c (List.mem_of_getElem? hc)
      have hoc := hon.out c (List.mem_of_getElem? hc)
      obtain ⟨x0, x1, x2, x3, x4, rfl⟩ := five_l hcz
      have hcall := hone.out i t _ ht hc
      have htake : Hid ((l.take (i + 1)).map f = (l.take i).map f ++ [f t]) := hide1 (by
        rw [List.take_add_one, ht, List.map_append]; rfl)
      have hnil : Hid ((l.take i).map f = [] ↔ i = 0) := hide1 (by
        rw [List.map_eq_nil_iff, List.take_eq_nil_iff]
        constructor
        · rintro (h | h)
          · exact h
          · have := hl.out; rw [h, List.length_nil] at this; omega
        · exact fun h => .inl h)
      have hz : (wr.alloc (.cells #[.int .i64 0, .int .i64 0, .string ⟨#[]⟩, .slice none 0 0, .slice none 0 0] 55)).heap[wr.heap.size]? = some (.cells #[.int .i64 0, .int .i64 0, .string ⟨#[]⟩, .slice none 0 0, .slice none 0 0] 55 (0, 0)) := by
        show (wr.heap.push _)[wr.heap.size]? = _
        rw [Array.getElem?_push, if_pos rfl]
      have hz2 := setRow_heap (wr.alloc (.cells #[.int .i64 0, .int .i64 0, .string ⟨#[]⟩, .slice none 0 0, .slice none 0 0] 55)) wr.heap.size _ #[x0, x1, x2, x3, x4] _ _ hz
      have hbw : Below wr.heap.size wr ((wr.alloc (.cells #[.int .i64 0, .int .i64 0, .string ⟨#[]⟩, .slice none 0 0, .slice none 0 0] 55)).setRow wr.heap.size #[x0, x1, x2, x3, x4]) := blw_own ((Below.refl _ _).alloc (Nat.le_refl _) _) (Nat.le_refl _) _
      have hpw0 : wr.heap.size ≠ q ∧ ov'.ownBlock ≠ some wr.heap.size := hWr.out.fresh
      have hWa := hide1 (hWr.out.below hbw)
      have hKa := hide1 (hKr.out.below hbw)
      replace hcall := hide1 hcall
      have hoc' := hide1 hoc
      clear rr hoc hbl ht hc hcz hWr hKr hbw
      go_upto_region 4 with (first | refine wpList_load_mid rfl 55 (.tmp 20) rfl b (oo + i * 5) rfl [x0, x1, x2, x3, x4] _ hr Tryz.underlying55 rfl (by kernel_rfl) ?_ | refine wpList_store_row rfl 55 (.tmp 11) (.tmp 21) rfl wr.heap.size #[x0, x1, x2, x3, x4] rfl rfl 55 _ hz (by kernel_rfl) rfl (by simpa using hoc'.out) ?_)
      have hpw : Hid (wr.heap.size ≠ q ∧ ov'.ownBlock ≠ some wr.heap.size) := hide1 hpw0
      clear hz hoc'
      generalize (wr.alloc (.cells #[.int .i64 0, .int .i64 0, .string ⟨#[]⟩, .slice none 0 0, .slice none 0 0] 55)).setRow wr.heap.size #[x0, x1, x2, x3, x4] = wa at *
      generalize wr.heap.size = p at *
      by_cases hi0 : i = 0
      · have ezz : Hid (zt ++ 91 :: cj ((l.take i).map f) ++ f t = zt ++ 91 :: cj ((l.take (i + 1)).map f)) := hide1 (by
          have e1 : (l.take i).map f = [] := hnil.out.2 hi0
          rw [htake.out, cj_snoc, if_pos e1, e1]; simp [cj])
        have hig : ¬ (0 : Int) < (i : Int) := by omega
        have hl5 : wa.rangeAt p 0 [x0, x1, x2, x3, x4] := fun j u hj => by
          simp only [World.cell?, hz2]
          rw [Nat.zero_add]
          simpa using hj
        have hcc := hcall.out wa ov' _ hKa.out hWa.out
        have hz3 := hide1 hz2
        clear htake hnil hz2 hcall hi0
        go_wp2_with (first | refine wpList_load_mid rfl 55 (.tmp 11) rfl p 0 rfl [x0, x1, x2, x3, x4] _ hl5 Tryz.underlying55 rfl (by kernel_rfl) ?_ | fail)
        refine hcc.mono ?_
        rintro e w6 ⟨rfl, ov6, h6, k6⟩
        rw [ezz.out] at h6
        have hK6 := hide1 (hKa.out.trans k6)
        replace h6 := hide1 h6
        clear hcc k6 hKa hWa ezz hl5
        go_wp2
        go_roundw
        case rel => exact ⟨i + 1, ov6, by first | rfl | (congr 1; omega) | go_num, hlt, h6, hK6⟩
        case measure => simp [intOf]; omega
      · have ezz : Hid (zt ++ 91 :: cj ((l.take i).map f) ++ [44] ++ f t = zt ++ 91 :: cj ((l.take (i + 1)).map f)) := hide1 (by
          have e1 : ¬ (l.take i).map f = [] := fun e => hi0 (hnil.out.1 e)
          rw [htake.out, cj_snoc, if_neg e1]; simp)
        have hig : (0 : Int) < (i : Int) := by omega
        have hsg := sign_44 hWa.out
        have hz3 := hide1 hz2
        clear htake hnil hz2 hi0
        go_wp2_with fail
        refine hsg.mono ?_
        rintro e w5 ⟨rfl, ov5, h5, k5⟩
        have hbx5 := (k5.block p (Array.getElem?_eq_some_iff.1 hz3.out).1 hpw.out.1 hpw.out.2).trans hz3.out
        have hl5 : w5.rangeAt p 0 [x0, x1, x2, x3, x4] := fun j u hj => by
          simp only [World.cell?, hbx5]
          rw [Nat.zero_add]
          simpa using hj
        have hK5 := hide1 (hKa.out.trans k5)
        have hcc := hcall.out w5 ov5 _ hK5.out h5
        clear hsg k5 h5 hbx5 hKa hWa
        go_wp2_with (first | refine wpList_load_mid rfl 55 (.tmp 11) rfl p 0 rfl [x0, x1, x2, x3, x4] _ hl5 Tryz.underlying55 rfl (by kernel_rfl) ?_ | fail)
        refine hcc.mono ?_
        rintro e w6 ⟨rfl, ov6, h6, k6⟩
        rw [ezz.out] at h6
        have hK6 := hide1 (hK5.out.trans k6)
        replace h6 := hide1 h6
        clear hcc k6 hK5 ezz hl5
        go_wp2
        go_roundw
        case rel => exact ⟨i + 1, ov6, by first | rfl | (congr 1; omega) | go_num, hlt, h6, hK6⟩
        case measure => simp [intOf]; omega
    · have hie : i = cs.length := by omega
      subst hie
      have hs1 := sign_93 hWr.out
      have ezz : Hid (zt ++ 91 :: cj ((l.take cs.length).map f) ++ [93] = zt ++ 91 :: (cj (l.map f) ++ [93])) := hide1 (by rw [hl.out, List.take_length]; simp)
      clear hlt
      go_wp2_with fail
      refine hs1.mono ?_
      rintro e w6 ⟨rfl, ov6, h6, k6⟩
      rw [ezz.out] at h6
      have hK6 := hide1 (hKr.out.trans k6)
      replace h6 := hide1 h6
      clear hs1 k6 ezz hKr hWr
      go_wp2
      go_end0
      exact ⟨rfl, ov6, h6.out, hK6.out⟩
set_option maxHeartbeats 4000000 in
set_option maxRecDepth 100000 in
theorem rowP_d {F : Nat → Prop} {w : World} {q : Nat} {ov v : Value} {zt : List UInt8} {l : List (List UInt8 × T)} {cs : List (List Value)} {f : List UInt8 × T → List UInt8} (r : RwA F w 69 6 v cs) (hl : cs.length = l.length) (hon : ∀ c ∈ cs, c.all (·.oneCell') = true) (hb : cs.length ≤ 1000000) (hF : Fr F w q ov) (hW : Wt w q ov zt)
    (hone : ∀ (j : Nat) (t : List UInt8 × T) (c : List Value), l[j]? = some t → cs[j]? = some c → ∀ (w' : World) (ov' : Value) (z' : List UInt8), Wk q ov ov' w w' → Wt w' q ov' z' → Calls Tryz.prog 50 #[.pointer (some ⟨q, 0, none⟩), .agg c.toArray] w' (AnK q ov' (z' ++ f t) w')) :
    Calls Tryz.prog 49 #[.pointer (some ⟨q, 0, none⟩), .int .i32 123, .int .i32 125, v, .func (.func 50) #[.pointer (some ⟨q, 0, none⟩)] #[]] w (AnK q ov (zt ++ 123 :: (cj (l.map f) ++ [125])) w) := by
  obtain ⟨va, vc, rfl⟩ := r.slc
  have hs0 := sign_123 hW
  replace hone := hide1 hone
  replace hW := hide1 hW
  replace hF := hide1 hF
  replace r := hide1 r
  replace hon := hide1 hon
  replace hl := hide1 hl
  go_enter Tryz.func49, Tryz.ntmps49
  go_wp2_with fail
  refine hs0.mono ?_
  rintro e w1 ⟨rfl, ov1, h1, k1⟩
  have h2 : Hid (Wt w1 q ov1 (zt ++ 123 :: cj ((l.take 0).map f))) := hide1 h1
  replace k1 := hide1 k1
  clear hs0 h1
  go_wp2_with fail
  go_loopw [17] (fun s17 wr => ∃ (i : Nat) (ov' : Value), s17 = .int .i64 (i : Nat) ∧ i ≤ cs.length ∧ Hid (Wt wr q ov' (zt ++ 123 :: cj ((l.take i).map f))) ∧ Hid (Wk q ov ov' w wr)) (fun s17 _ => cs.length - (intOf s17).toNat)
  case atStart => exact ⟨0, ov1, rfl, Nat.zero_le _, h2, k1⟩
  case round =>
    obtain ⟨i, ov', rfl, hi, hWr, hKr⟩ := hrel
    by_cases hlt : i < cs.length
    · obtain ⟨t, ht⟩ : ∃ t, l[i]? = some t := ⟨_, List.getElem?_eq_getElem (by have := hl.out; omega)⟩
      obtain ⟨c, hc⟩ : ∃ c, cs[i]? = some c := ⟨_, List.getElem?_eq_getElem hlt⟩
      have rr := r.out.wk hF.out hKr.out
      obtain ⟨b, oo, cap, hve, -, hbl, hr⟩ := rr.at hc
      cases hve
      have hcz := rr.1 c (List.mem_of_getElem? hc)
      have hoc := hon.out c (List.mem_of_getElem? hc)
      obtain ⟨x0, x1, x2, x3, x4, x5, rfl⟩ := arr6 hcz
      have hcall := hone.out i t _ ht hc
      have htake : Hid ((l.take (i + 1)).map f = (l.take i).map f ++ [f t]) := hide1 (by
        rw [List.take_add_one, ht, List.map_append]; rfl)
      have hnil : Hid ((l.take i).map f = [] ↔ i = 0) := hide1 (by
        rw [List.map_eq_nil_iff, List.take_eq_nil_iff]
        constructor
        · rintro (h | h)
          · exact h
          · have := hl.out; rw [h, List.length_nil] at this; omega
        · exact fun h => .inl h)
      have hz : (wr.alloc (.cells #[.string ⟨#[]⟩, .int .i64 0, .int .i64 0, .string ⟨#[]⟩, .slice none 0 0, .slice none 0 0] 69)).heap[wr.heap.size]? = some (.cells #[.string ⟨#[]⟩, .int .i64 0, .int .i64 0, .string ⟨#[]⟩, .slice none 0 0, .slice none 0 0] 69 (0, 0)) := by
        show (wr.heap.push _)[wr.heap.size]? = _
        rw [Array.getElem?_push, if_pos rfl]
      have hz2 := setRow_heap (wr.alloc (.cells #[.string ⟨#[]⟩, .int .i64 0, .int .i64 0, .string ⟨#[]⟩, .slice none 0 0, .slice none 0 0] 69)) wr.heap.size _ #[x0, x1, x2, x3, x4, x5] _ _ hz
      have hbw : Below wr.heap.size wr ((wr.alloc (.cells #[.string ⟨#[]⟩, .int .i64 0, .int .i64 0, .string ⟨#[]⟩, .slice none 0 0, .slice none 0 0] 69)).setRow wr.heap.size #[x0, x1, x2, x3, x4, x5]) := blw_own ((Below.refl _ _).alloc (Nat.le_refl _) _) (Nat.le_refl _) _
      have hpw0 : wr.heap.size ≠ q ∧ ov'.ownBlock ≠ some wr.heap.size := hWr.out.fresh
      have hWa := hide1 (hWr.out.below hbw)
      have hKa := hide1 (hKr.out.below hbw)
      replace hcall := hide1 hcall
      have hoc' := hide1 hoc
      clear rr hoc hbl ht hc hcz hWr hKr hbw
      go_upto_region 4 with (first | refine wpList_load_mid rfl 69 (.tmp 20) rfl b (oo + i * 6) rfl [x0, x1, x2, x3, x4, x5] _ hr Tryz.underlying69 rfl (by kernel_rfl) ?_ | refine wpList_store_row rfl 69 (.tmp 11) (.tmp 21) rfl wr.heap.size #[x0, x1, x2, x3, x4, x5] rfl rfl 69 _ hz (by kernel_rfl) rfl (by simpa using hoc'.out) ?_)
      have hpw : Hid (wr.heap.size ≠ q ∧ ov'.ownBlock ≠ some wr.heap.size) := hide1 hpw0
      clear hz hoc'
      generalize (wr.alloc (.cells #[.string ⟨#[]⟩, .int .i64 0, .int .i64 0, .string ⟨#[]⟩, .slice none 0 0, .slice none 0 0] 69)).setRow wr.heap.size #[x0, x1, x2, x3, x4, x5] = wa at *
      generalize wr.heap.size = p at *
      by_cases hi0 : i = 0
      · have ezz : Hid (zt ++ 123 :: cj ((l.take i).map f) ++ f t = zt ++ 123 :: cj ((l.take (i + 1)).map f)) := hide1 (by
          have e1 : (l.take i).map f = [] := hnil.out.2 hi0
          rw [htake.out, cj_snoc, if_pos e1, e1]; simp [cj])
        have hig : ¬ (0 : Int) < (i : Int) := by omega
        have hl5 : wa.rangeAt p 0 [x0, x1, x2, x3, x4, x5] := fun j u hj => by
          simp only [World.cell?, hz2]
          rw [Nat.zero_add]
          simpa using hj
        have hcc := hcall.out wa ov' _ hKa.out hWa.out
        have hz3 := hide1 hz2
        clear htake hnil hz2 hcall hi0
        go_wp2_with (first | refine wpList_load_mid rfl 69 (.tmp 11) rfl p 0 rfl [x0, x1, x2, x3, x4, x5] _ hl5 Tryz.underlying69 rfl (by kernel_rfl) ?_ | fail)
        refine hcc.mono ?_
        rintro e w6 ⟨rfl, ov6, h6, k6⟩
        rw [ezz.out] at h6
        have hK6 := hide1 (hKa.out.trans k6)
        replace h6 := hide1 h6
        clear hcc k6 hKa hWa ezz hl5
        go_wp2
        go_roundw
        case rel => exact ⟨i + 1, ov6, by first | rfl | (congr 1; omega) | go_num, hlt, h6, hK6⟩
        case measure => simp [intOf]; omega
      · have ezz : Hid (zt ++ 123 :: cj ((l.take i).map f) ++ [44] ++ f t = zt ++ 123 :: cj ((l.take (i + 1)).map f)) := hide1 (by
          have e1 : ¬ (l.take i).map f = [] := fun e => hi0 (hnil.out.1 e)
          rw [htake.out, cj_snoc, if_neg e1]; simp)
        have hig : (0 : Int) < (i : Int) := by omega
        have hsg := sign_44 hWa.out
        have hz3 := hide1 hz2
        clear htake hnil hz2 hi0
        go_wp2_with fail
        refine hsg.mono ?_
        rintro e w5 ⟨rfl, ov5, h5, k5⟩
        have hbx5 := (k5.block p (Array.getElem?_eq_some_iff.1 hz3.out).1 hpw.out.1 hpw.out.2).trans hz3.out
        have hl5 : w5.rangeAt p 0 [x0, x1, x2, x3, x4, x5] := fun j u hj => by
          simp only [World.cell?, hbx5]
          rw [Nat.zero_add]
          simpa using hj
        have hK5 := hide1 (hKa.out.trans k5)
        have hcc := hcall.out w5 ov5 _ hK5.out h5
        clear hsg k5 h5 hbx5 hKa hWa
        go_wp2_with (first | refine wpList_load_mid rfl 69 (.tmp 11) rfl p 0 rfl [x0, x1, x2, x3, x4, x5] _ hl5 Tryz.underlying69 rfl (by kernel_rfl) ?_ | fail)
        refine hcc.mono ?_
        rintro e w6 ⟨rfl, ov6, h6, k6⟩
        rw [ezz.out] at h6
        have hK6 := hide1 (hK5.out.trans k6)
        replace h6 := hide1 h6
        clear hcc k6 hK5 ezz hl5
        go_wp2
        go_roundw
        case rel => exact ⟨i + 1, ov6, by first | rfl | (congr 1; omega) | go_num, hlt, h6, hK6⟩
        case measure => simp [intOf]; omega
    · have hie : i = cs.length := by omega
      subst hie
      have hs1 := sign_125 hWr.out
      have ezz : Hid (zt ++ 123 :: cj ((l.take cs.length).map f) ++ [125] = zt ++ 123 :: (cj (l.map f) ++ [125])) := hide1 (by rw [hl.out, List.take_length]; simp)
      clear hlt
      go_wp2_with fail
      refine hs1.mono ?_
      rintro e w6 ⟨rfl, ov6, h6, k6⟩
      rw [ezz.out] at h6
      have hK6 := hide1 (hKr.out.trans k6)
      replace h6 := hide1 h6
      clear hs1 k6 ezz hKr hWr
      go_wp2
      go_end0
      exact ⟨rfl, ov6, h6.out, hK6.out⟩
theorem AnK.ofB {q : Nat} {ov : Value} {z : List UInt8} {w w1 w' : World} {e : Ending} (hb : Below w.heap.size w w1) (h : AnK q ov z w1 e w') : AnK q ov z w e w' := by
  obtain ⟨h1, ov', h2, h3⟩ := h
  exact ⟨h1, ov', h2, (Wk.ofB hb).trans h3⟩
set_option maxHeartbeats 1600000 in
set_option maxRecDepth 100000 in
theorem val_0 {w : World} {q : Nat} {ov sl sp : Value} {z s : List UInt8} {ki : Int}  (hW : Wt w q ov z) : Calls Tryz.prog 31 #[.pointer (some ⟨q, 0, none⟩), .agg #[.int .i64 0, .int .i64 ki, .string (st s), sl, sp]] w (AnK q ov (z ++ [110, 117, 108, 108]) w) := by
  obtain ⟨wb, hwb⟩ : ∃ wb, wb = w.alloc (.cells #[.int .i64 0, .int .i64 ki, .string (st s), sl, sp] 55) := ⟨_, rfl⟩
  have hB : Below w.heap.size w wb := by rw [hwb]; exact (Below.refl _ _).alloc (Nat.le_refl _) _
  have hn : wb.heap[w.heap.size]? = some (.cells #[.int .i64 0, .int .i64 ki, .string (st s), sl, sp] 55 (0, 0)) := by
    rw [hwb]
    show (w.heap.push _)[w.heap.size]? = _
    rw [Array.getElem?_push, if_pos rfl]
  have c0 : wb.cell? ⟨w.heap.size, 0, none⟩ = some (.int .i64 0) := by simp only [World.cell?, hn]; rfl
  have c1 : wb.cell? ⟨w.heap.size, 1, none⟩ = some (.int .i64 ki) := by simp only [World.cell?, hn]; rfl
  have c2 : wb.cell? ⟨w.heap.size, 2, none⟩ = some (.string (st s)) := by simp only [World.cell?, hn]; rfl
  have c3 : wb.cell? ⟨w.heap.size, 3, none⟩ = some sl := by simp only [World.cell?, hn]; rfl
  have c4 : wb.cell? ⟨w.heap.size, 4, none⟩ = some sp := by simp only [World.cell?, hn]; rfl
  have hWb := hW.below hB
  have ha := add_d (s := [110, 117, 108, 108]) hWb
  replace ha : Calls Tryz.prog 45 #[.pointer (some ⟨q, 0, none⟩), .string ⟨#[110, 117, 108, 108]⟩] wb _ := ha
  replace hWb := hide1 hWb
  replace hB := hide1 hB
  clear hW hn
  go_enter Tryz.func31, Tryz.ntmps31
  go_upto_region 1 with fail
  rw [← hwb]
  clear hwb
  go_wp2_with fail
  refine ha.mono ?_
  rintro e w1 ⟨rfl, ov', h1, h2⟩
  clear ha
  go_wp2
  go_end0
  exact AnK.ofB hB.out ⟨rfl, ov', h1, h2⟩
set_option maxHeartbeats 1600000 in
set_option maxRecDepth 100000 in
theorem val_1 {w : World} {q : Nat} {ov sl sp : Value} {z s : List UInt8} {ki : Int}  (hW : Wt w q ov z) : Calls Tryz.prog 31 #[.pointer (some ⟨q, 0, none⟩), .agg #[.int .i64 1, .int .i64 ki, .string (st s), sl, sp]] w (AnK q ov (z ++ Lib.formatBool (decide (ki = 1))) w) := by
  obtain ⟨wb, hwb⟩ : ∃ wb, wb = w.alloc (.cells #[.int .i64 1, .int .i64 ki, .string (st s), sl, sp] 55) := ⟨_, rfl⟩
  have hB : Below w.heap.size w wb := by rw [hwb]; exact (Below.refl _ _).alloc (Nat.le_refl _) _
  have hn : wb.heap[w.heap.size]? = some (.cells #[.int .i64 1, .int .i64 ki, .string (st s), sl, sp] 55 (0, 0)) := by
    rw [hwb]
    show (w.heap.push _)[w.heap.size]? = _
    rw [Array.getElem?_push, if_pos rfl]
  have c0 : wb.cell? ⟨w.heap.size, 0, none⟩ = some (.int .i64 1) := by simp only [World.cell?, hn]; rfl
  have c1 : wb.cell? ⟨w.heap.size, 1, none⟩ = some (.int .i64 ki) := by simp only [World.cell?, hn]; rfl
  have c2 : wb.cell? ⟨w.heap.size, 2, none⟩ = some (.string (st s)) := by simp only [World.cell?, hn]; rfl
  have c3 : wb.cell? ⟨w.heap.size, 3, none⟩ = some sl := by simp only [World.cell?, hn]; rfl
  have c4 : wb.cell? ⟨w.heap.size, 4, none⟩ = some sp := by simp only [World.cell?, hn]; rfl
  have hWb := hW.below hB
  have ha := add_d (s := Lib.formatBool (decide (ki = 1))) hWb
  have hfb := fun w => strconv_FormatBool (decide (ki = 1)) w
  have hkb : (ki == 1) = decide (ki = 1) := by by_cases h : ki = 1 <;> simp [h]
  replace ha : Calls Tryz.prog 45 #[.pointer (some ⟨q, 0, none⟩), .string ⟨(Lib.formatBool (decide (ki = 1))).toArray⟩] wb _ := ha
  generalize hdk : decide (ki = 1) = B at *
  replace hWb := hide1 hWb
  replace hB := hide1 hB
  clear hW hn
  go_enter Tryz.func31, Tryz.ntmps31
  go_upto_region 1 with fail
  rw [← hwb]
  clear hwb
  go_wp2_with fail
  refine (hfb _).mono ?_
  rintro e w0 ⟨rfl, rfl⟩
  go_wp2_with fail
  refine ha.mono ?_
  rintro e w1 ⟨rfl, ov', h1, h2⟩
  clear ha
  go_wp2
  go_end0
  exact AnK.ofB hB.out ⟨rfl, ov', h1, h2⟩
set_option maxHeartbeats 1600000 in
set_option maxRecDepth 100000 in
theorem val_2 {w : World} {q : Nat} {ov sl sp : Value} {z s : List UInt8} {ki : Int} (hr : -9223372036854775808 ≤ ki ∧ ki ≤ 9223372036854775807) (hT : Ev w) (h8 : 8 ≤ w.heap.size) (hW : Wt w q ov z) : Calls Tryz.prog 31 #[.pointer (some ⟨q, 0, none⟩), .agg #[.int .i64 2, .int .i64 ki, .string (st s), sl, sp]] w (AnK q ov (z ++ Lib.itoa ki) w) := by
  obtain ⟨wb, hwb⟩ : ∃ wb, wb = w.alloc (.cells #[.int .i64 2, .int .i64 ki, .string (st s), sl, sp] 55) := ⟨_, rfl⟩
  have hB : Below w.heap.size w wb := by rw [hwb]; exact (Below.refl _ _).alloc (Nat.le_refl _) _
  have hn : wb.heap[w.heap.size]? = some (.cells #[.int .i64 2, .int .i64 ki, .string (st s), sl, sp] 55 (0, 0)) := by
    rw [hwb]
    show (w.heap.push _)[w.heap.size]? = _
    rw [Array.getElem?_push, if_pos rfl]
  have c0 : wb.cell? ⟨w.heap.size, 0, none⟩ = some (.int .i64 2) := by simp only [World.cell?, hn]; rfl
  have c1 : wb.cell? ⟨w.heap.size, 1, none⟩ = some (.int .i64 ki) := by simp only [World.cell?, hn]; rfl
  have c2 : wb.cell? ⟨w.heap.size, 2, none⟩ = some (.string (st s)) := by simp only [World.cell?, hn]; rfl
  have c3 : wb.cell? ⟨w.heap.size, 3, none⟩ = some sl := by simp only [World.cell?, hn]; rfl
  have c4 : wb.cell? ⟨w.heap.size, 4, none⟩ = some sp := by simp only [World.cell?, hn]; rfl
  have hWb := hW.below hB
  have hi := strconv_Itoa ki (by have := hr.1; omega) (by have := hr.2; omega) wb (hT.below hB (by omega)).pw
  replace hWb := hide1 hWb
  replace hB := hide1 hB
  clear hW hn
  go_enter Tryz.func31, Tryz.ntmps31
  go_upto_region 1 with fail
  rw [← hwb]
  clear hwb
  go_wp2_with fail
  refine hi.mono ?_
  rintro e w0 ⟨rfl, nk, os, hw0⟩
  have hb0 : Below wb.heap.size wb w0 := below_grow ⟨nk, os, hw0⟩
  have ha := add_d (s := Lib.itoa ki) (hWb.out.below hb0)
  replace ha : Calls Tryz.prog 45 #[.pointer (some ⟨q, 0, none⟩), .string ⟨(Lib.itoa ki).toArray⟩] w0 _ := ha
  replace hb0 := hide1 hb0
  clear hi hw0
  go_wp2_with fail
  refine ha.mono ?_
  rintro e w1 ⟨rfl, ov', h1, h2⟩
  clear ha
  go_wp2
  go_end0
  exact AnK.ofB hB.out (AnK.ofB hb0.out ⟨rfl, ov', h1, h2⟩)
set_option maxHeartbeats 1600000 in
set_option maxRecDepth 100000 in
theorem val_3 {w : World} {q : Nat} {ov sl sp : Value} {z s : List UInt8} {ki : Int}  (hW : Wt w q ov z) : Calls Tryz.prog 31 #[.pointer (some ⟨q, 0, none⟩), .agg #[.int .i64 3, .int .i64 ki, .string (st s), sl, sp]] w (AnK q ov (z ++ qu s) w) := by
  obtain ⟨wb, hwb⟩ : ∃ wb, wb = w.alloc (.cells #[.int .i64 3, .int .i64 ki, .string (st s), sl, sp] 55) := ⟨_, rfl⟩
  have hB : Below w.heap.size w wb := by rw [hwb]; exact (Below.refl _ _).alloc (Nat.le_refl _) _
  have hn : wb.heap[w.heap.size]? = some (.cells #[.int .i64 3, .int .i64 ki, .string (st s), sl, sp] 55 (0, 0)) := by
    rw [hwb]
    show (w.heap.push _)[w.heap.size]? = _
    rw [Array.getElem?_push, if_pos rfl]
  have c0 : wb.cell? ⟨w.heap.size, 0, none⟩ = some (.int .i64 3) := by simp only [World.cell?, hn]; rfl
  have c1 : wb.cell? ⟨w.heap.size, 1, none⟩ = some (.int .i64 ki) := by simp only [World.cell?, hn]; rfl
  have c2 : wb.cell? ⟨w.heap.size, 2, none⟩ = some (.string (st s)) := by simp only [World.cell?, hn]; rfl
  have c3 : wb.cell? ⟨w.heap.size, 3, none⟩ = some sl := by simp only [World.cell?, hn]; rfl
  have c4 : wb.cell? ⟨w.heap.size, 4, none⟩ = some sp := by simp only [World.cell?, hn]; rfl
  have hWb := hW.below hB
  have ha := quoted_w (s := s) hWb
  replace hWb := hide1 hWb
  replace hB := hide1 hB
  clear hW hn
  go_enter Tryz.func31, Tryz.ntmps31
  go_upto_region 1 with fail
  rw [← hwb]
  clear hwb
  go_wp2_with fail
  refine ha.mono ?_
  rintro e w1 ⟨rfl, ov', h1, h2⟩
  clear ha
  go_wp2
  go_end0
  exact AnK.ofB hB.out ⟨rfl, ov', h1, h2⟩
set_option maxHeartbeats 1600000 in
set_option maxRecDepth 100000 in
theorem val_4 {w : World} {q : Nat} {ov sl sp : Value} {z s : List UInt8} {ki : Int} {X : List UInt8} (hrow : ∀ w1, Below w.heap.size w w1 → Wt w1 q ov z → Calls Tryz.prog 48 #[.pointer (some ⟨q, 0, none⟩), .int .i32 91, .int .i32 93, sl, .func (.func 31) #[.pointer (some ⟨q, 0, none⟩)] #[]] w1 (AnK q ov (z ++ X) w1)) (hW : Wt w q ov z) : Calls Tryz.prog 31 #[.pointer (some ⟨q, 0, none⟩), .agg #[.int .i64 4, .int .i64 ki, .string (st s), sl, sp]] w (AnK q ov (z ++ X) w) := by
  obtain ⟨wb, hwb⟩ : ∃ wb, wb = w.alloc (.cells #[.int .i64 4, .int .i64 ki, .string (st s), sl, sp] 55) := ⟨_, rfl⟩
  have hB : Below w.heap.size w wb := by rw [hwb]; exact (Below.refl _ _).alloc (Nat.le_refl _) _
  have hn : wb.heap[w.heap.size]? = some (.cells #[.int .i64 4, .int .i64 ki, .string (st s), sl, sp] 55 (0, 0)) := by
    rw [hwb]
    show (w.heap.push _)[w.heap.size]? = _
    rw [Array.getElem?_push, if_pos rfl]
  have c0 : wb.cell? ⟨w.heap.size, 0, none⟩ = some (.int .i64 4) := by simp only [World.cell?, hn]; rfl
  have c1 : wb.cell? ⟨w.heap.size, 1, none⟩ = some (.int .i64 ki) := by simp only [World.cell?, hn]; rfl
  have c2 : wb.cell? ⟨w.heap.size, 2, none⟩ = some (.string (st s)) := by simp only [World.cell?, hn]; rfl
  have c3 : wb.cell? ⟨w.heap.size, 3, none⟩ = some sl := by simp only [World.cell?, hn]; rfl
  have c4 : wb.cell? ⟨w.heap.size, 4, none⟩ = some sp := by simp only [World.cell?, hn]; rfl
  have hWb := hW.below hB
  have ha := hrow wb hB hWb
  replace hWb := hide1 hWb
  replace hB := hide1 hB
  clear hW hn
  go_enter Tryz.func31, Tryz.ntmps31
  go_upto_region 1 with fail
  rw [← hwb]
  clear hwb
  go_wp2_with fail
  refine ha.mono ?_
  rintro e w1 ⟨rfl, ov', h1, h2⟩
  clear ha
  go_wp2
  go_end0
  exact AnK.ofB hB.out ⟨rfl, ov', h1, h2⟩
set_option maxHeartbeats 1600000 in
set_option maxRecDepth 100000 in
theorem val_5 {w : World} {q : Nat} {ov sl sp : Value} {z s : List UInt8} {ki : Int} {X : List UInt8} (hrow : ∀ w1, Below w.heap.size w w1 → Wt w1 q ov z → Calls Tryz.prog 49 #[.pointer (some ⟨q, 0, none⟩), .int .i32 123, .int .i32 125, sp, .func (.func 50) #[.pointer (some ⟨q, 0, none⟩)] #[]] w1 (AnK q ov (z ++ X) w1)) (hW : Wt w q ov z) : Calls Tryz.prog 31 #[.pointer (some ⟨q, 0, none⟩), .agg #[.int .i64 5, .int .i64 ki, .string (st s), sl, sp]] w (AnK q ov (z ++ X) w) := by
  obtain ⟨wb, hwb⟩ : ∃ wb, wb = w.alloc (.cells #[.int .i64 5, .int .i64 ki, .string (st s), sl, sp] 55) := ⟨_, rfl⟩
  have hB : Below w.heap.size w wb := by rw [hwb]; exact (Below.refl _ _).alloc (Nat.le_refl _) _
  have hn : wb.heap[w.heap.size]? = some (.cells #[.int .i64 5, .int .i64 ki, .string (st s), sl, sp] 55 (0, 0)) := by
    rw [hwb]
    show (w.heap.push _)[w.heap.size]? = _
    rw [Array.getElem?_push, if_pos rfl]
  have c0 : wb.cell? ⟨w.heap.size, 0, none⟩ = some (.int .i64 5) := by simp only [World.cell?, hn]; rfl
  have c1 : wb.cell? ⟨w.heap.size, 1, none⟩ = some (.int .i64 ki) := by simp only [World.cell?, hn]; rfl
  have c2 : wb.cell? ⟨w.heap.size, 2, none⟩ = some (.string (st s)) := by simp only [World.cell?, hn]; rfl
  have c3 : wb.cell? ⟨w.heap.size, 3, none⟩ = some sl := by simp only [World.cell?, hn]; rfl
  have c4 : wb.cell? ⟨w.heap.size, 4, none⟩ = some sp := by simp only [World.cell?, hn]; rfl
  have hWb := hW.below hB
  have ha := hrow wb hB hWb
  replace hWb := hide1 hWb
  replace hB := hide1 hB
  clear hW hn
  go_enter Tryz.func31, Tryz.ntmps31
  go_upto_region 1 with fail
  rw [← hwb]
  clear hwb
  go_wp2_with fail
  refine ha.mono ?_
  rintro e w1 ⟨rfl, ov', h1, h2⟩
  clear ha
  go_wp2
  go_end0
  exact AnK.ofB hB.out ⟨rfl, ov', h1, h2⟩
theorem pair_w {w : World} {q : Nat} {ov : Value} {z s X : List UInt8} {c : List Value} (hc : c.length = 5) (hW : Wt w q ov z)
    (hval : ∀ (w1 : World) (ov1 : Value) (z1 : List UInt8), Wk q ov ov1 w w1 → Wt w1 q ov1 z1 → Calls Tryz.prog 31 #[.pointer (some ⟨q, 0, none⟩), .agg c.toArray] w1 (AnK q ov1 (z1 ++ X) w1)) :
    Calls Tryz.prog 50 #[.pointer (some ⟨q, 0, none⟩), .agg (Value.string (st s) :: c).toArray] w (AnK q ov (z ++ (qu s ++ 58 :: X)) w) := by
  obtain ⟨x1, x2, x3, x4, x5, rfl⟩ := five_l hc
  obtain ⟨wb, hwb⟩ : ∃ wb, wb = w.alloc (.cells #[.string (st s), x1, x2, x3, x4, x5] 69) := ⟨_, rfl⟩
  have hB : Below w.heap.size w wb := by rw [hwb]; exact (Below.refl _ _).alloc (Nat.le_refl _) _
  have hn : wb.heap[w.heap.size]? = some (.cells #[.string (st s), x1, x2, x3, x4, x5] 69 (0, 0)) := by
    rw [hwb]
    show (w.heap.push _)[w.heap.size]? = _
    rw [Array.getElem?_push, if_pos rfl]
  have c0 : wb.cell? ⟨w.heap.size, 0, none⟩ = some (.string (st s)) := by simp only [World.cell?, hn]; rfl
  obtain ⟨f1, f2⟩ := hW.fresh
  have hWb := hW.below hB
  have ha := quoted_w (s := s) hWb
  have hkb : Wk q ov ov w wb := Wk.ofB hB
  obtain ⟨p, hp⟩ : ∃ p, p = w.heap.size := ⟨_, rfl⟩
  rw [← hp] at hn c0 f1 f2
  have hpl : p < wb.heap.size := (Array.getElem?_eq_some_iff.1 hn).1
  replace hn := hide1 hn
  replace hkb := hide1 hkb
  clear hW hWb hB
  show Calls Tryz.prog 50 #[.pointer (some ⟨q, 0, none⟩), .agg #[.string (st s), x1, x2, x3, x4, x5]] w _
  go_enter Tryz.func50, Tryz.ntmps50
  go_upto_region 1 with fail
  rw [← hwb, ← hp]
  clear hwb hp
  go_wp2_with fail
  refine ha.mono ?_
  rintro e w1 ⟨rfl, ov1, h1, k1⟩
  have hn1 := (k1.block p hpl f1 f2).trans hn.out
  have hp1 : p ≠ q ∧ ov1.ownBlock ≠ some p := ⟨f1, fun e => (k1.own p e).elim f2 fun h => by omega⟩
  have hpl1 : p < w1.heap.size := (Array.getElem?_eq_some_iff.1 hn1).1
  have hs := sign_58 h1
  have hk1 := hide1 (hkb.out.trans k1)
  replace hn1 := hide1 hn1
  clear ha h1 k1 hn hkb c0
  go_wp2_with fail
  refine hs.mono ?_
  rintro e w2 ⟨rfl, ov2, h2, k2⟩
  have hn2 := (k2.block p hpl1 hp1.1 hp1.2).trans hn1.out
  have hr : w2.rangeAt p 1 [x1, x2, x3, x4, x5] := fun j u hj => by
    simp only [World.cell?, hn2]
    match j, hj with
    | 0, hj | 1, hj | 2, hj | 3, hj | 4, hj => simpa using hj
    | _ + 5, hj => simp at hj
  have hk2 := hide1 (hk1.out.trans k2)
  have hv := hval w2 ov2 _ hk2.out h2
  clear hs h2 k2 hn2 hn1 hk1
  go_wp2_with (first | refine wpList_load_mid rfl 55 (.tmp 11) rfl p 1 rfl [x1, x2, x3, x4, x5] _ hr Tryz.underlying55 rfl (by kernel_rfl) ?_ | fail)
  refine hv.mono ?_
  rintro e w3 ⟨rfl, ov3, h3, k3⟩
  have hk3 := hide1 (hk2.out.trans k3)
  have h3' : Hid (Wt w3 q ov3 (z ++ (qu s ++ 58 :: X))) := hide1 (by simpa [List.append_assoc] using h3)
  clear hv h3 k3 hk2 hr
  go_wp2
  go_end0
  exact ⟨rfl, ov3, h3'.out, hk3.out⟩
end Go.Proofs.YtdhmonlhlfkjbaaGreatDoor

namespace Go.Proofs.YtdhmonlhlfkjbaaGreatDoor
open Go.RowKit

theorem BsA.same {w w' : World} {v : Value} {l : List UInt8} (h : BsA w v l) (hs : w.heap.size ≤ w'.heap.size) (hk : l ≠ [] → ∀ a n c, v = .slice (some a) n c → a.block < w.heap.size → w'.heap[a.block]? = w.heap[a.block]?) : BsA w' v l := by
  by_cases hl : l = []
  · obtain ⟨a, cap, rfl, _⟩ := h
    exact ⟨a, cap, rfl, .inl hl⟩
  replace hk := hk hl
  obtain ⟨a, cap, rfl, h | ⟨b, o, rfl, hb, hc⟩⟩ := h
  · exact absurd h hl
  · exact ⟨_, cap, rfl, .inr ⟨b, o, rfl, by omega, fun j x hj => by
    rw [World.cell?_of_block (a := ⟨b, o + j, none⟩) (w := w) (hk ⟨b, o, none⟩ _ _ rfl hb)]; exact hc j x hj⟩⟩
section
variable {sl : Value} {B : List UInt8} {g p : Nat} {bad : Bool} {w w' : World}
end
section
variable {sl : Value} {B : List UInt8} {g p : Nat} {bad : Bool} {w w' : World}
end
section
variable {sl : Value} {B : List UInt8} {g p : Nat} {bad : Bool} {w w' : World}
end
section
variable {sl : Value} {B : List UInt8} {g p : Nat} {w w' : World}
end
section
variable {sl : Value} {B : List UInt8} {g p : Nat} {w w' : World}
end
section
variable {sl : Value} {B : List UInt8} {g p : Nat} {w w' : World}
end
end Go.Proofs.YtdhmonlhlfkjbaaGreatDoor

namespace Go.Proofs.YtdhmonlhlfkjbaaGreatDoor
open Go.RowKit Go.Shelf

theorem gd_head {m : Nat} {k i : Int} {s : List UInt8} {l : List T} {p : List (List UInt8 × T)} (h : gd m (.mk k i s l p) = true) : (k = 0 ∨ k = 1 ∨ k = 2 ∨ k = 3 ∨ k = 4 ∨ k = 5) ∧ (k = 2 → -9007199254740991 ≤ i ∧ i ≤ 9007199254740991) := by
  unfold gd at h
  rw [Bool.and_eq_true] at h
  have h2 := h.2
  refine ⟨?_, fun hk => ?_⟩
  · by_cases h0 : k = 0
    · exact .inl h0
    by_cases h1 : k = 1
    · exact .inr (.inl h1)
    by_cases h3 : k = 2
    · exact .inr (.inr (.inl h3))
    by_cases h4 : k = 3
    · exact .inr (.inr (.inr (.inl h4)))
    by_cases h5 : k = 4
    · exact .inr (.inr (.inr (.inr (.inl h5))))
    by_cases h6 : k = 5
    · exact .inr (.inr (.inr (.inr (.inr h6))))
    simp [h0, h1, h3, h4, h5, h6] at h2
  · subst hk
    simp [inR] at h2
    exact h2
def Vw (n : Nat) : Prop := ∀ {F : Nat → Prop} {w : World} {q m : Nat} {ov : Value} {z : List UInt8} {t : T} {c : List Value}, hgt n t → gd m t = true → VA F w t c → Fr F w q ov → Wt w q ov z → Ev w → 8 ≤ q →
  Calls Tryz.prog 31 #[.pointer (some ⟨q, 0, none⟩), .agg c.toArray] w (AnK q ov (z ++ cz n t) w)
theorem Ev.wk {w w' : World} {q : Nat} {ov ov' : Value} {z : List UInt8} (h : Ev w) (hW : Wt w q ov z) (hk : Wk q ov ov' w w') (h8 : 8 ≤ q) : Ev w' := h.same fun k hk8 => by
  have hq := (Array.getElem?_eq_some_iff.1 hW.box).1
  obtain ⟨out, ho, _⟩ := hW.own
  exact hk.block k (by omega) (by omega) fun e => by have := ho.block k e; omega
theorem vw_s {n : Nat} (ih : Vw n) : Vw (n + 1) := by
  intro F w q m ov z t c hh hg hv hF hW hT h8
  have hq := (Array.getElem?_eq_some_iff.1 hW.box).1
  cases hv with
  | @mk k ki s l p sl sp cl cp r1 r2 e1 e2 hl hp1 hp2 =>
    obtain ⟨b1, b2, hh1, hh2⟩ := hh
    obtain ⟨g1, g2, _, _⟩ := gd_list hg
    obtain ⟨hk, hr⟩ := gd_head hg
    show Calls Tryz.prog 31 #[.pointer (some ⟨q, 0, none⟩), .agg #[.int .i64 k, .int .i64 ki, .string (st s), sl, sp]] w _
    have hsame : ∀ {k1 k2 : List UInt8}, k1 = k2 → ∀ e w', AnK q ov (z ++ k1) w e w' → AnK q ov (z ++ k2) w e w' := fun e _ _ h => e ▸ h
    rcases hk with rfl | rfl | rfl | rfl | rfl | rfl
    · exact (val_0 hW).mono (hsame (by simp [cz]))
    · exact (val_1 hW).mono (hsame (by simp [cz]))
    · exact (val_2 (by have := hr rfl; omega) hT (by omega) hW).mono (hsame (by simp [cz]))
    · exact (val_3 hW).mono (hsame (by simp [cz]))
    · refine (val_4 (X := 91 :: (cj (l.map (cz n)) ++ [93])) (fun w1 hb hW1 => ?_) hW).mono (hsame (by simp [cz]))
      have k1 : Wk q ov ov w w1 := Wk.ofB hb
      refine rowV_d (r1.wk hF k1) e1 (fun c hc => ?_) (by omega) (hF.wk k1) hW1 (fun j t c h1 h2 w' ov' z' hk hW' => ?_)
      · obtain ⟨j, hj, rfl⟩ := List.mem_iff_getElem.1 hc
        exact (hl j _ _ (List.getElem?_eq_getElem (by omega)) (List.getElem?_eq_getElem hj)).one
      · have ht := List.mem_of_getElem? h1
        obtain ⟨m', hm'⟩ : ∃ m', gd m' t = true := by
          rcases g1 with e | ⟨m', _, g⟩
          · rw [e] at ht; simp at ht
          · exact ⟨m', g t ht⟩
        exact ih (hh1 t ht) hm' (((hl j t c h1 h2).wk hF k1).wk (hF.wk k1) hk) ((hF.wk k1).wk hk) hW' ((hT.below hb (by omega)).wk hW1 hk h8) h8
    · refine (val_5 (X := 123 :: (cj (p.map fun q => qu q.1 ++ 58 :: cz n q.2) ++ [125])) (fun w1 hb hW1 => ?_) hW).mono (hsame (by simp [cz]))
      have k1 : Wk q ov ov w w1 := Wk.ofB hb
      have hcell : ∀ (j : Nat) (u : List UInt8 × T) (c : List Value), p[j]? = some u → cp[j]? = some c → ∃ r, c = Value.string (st u.1) :: r ∧ r.length = 5 ∧ VA F w u.2 r := fun j u c h1 h2 => by
        have h6 := r2.1 c (List.mem_of_getElem? h2)
        have h7 := hp1 j u c h1 h2
        have h8 := hp2 j u c h1 h2
        cases c with
        | nil => simp at h6
        | cons x r => simp at h7; subst h7; exact ⟨r, rfl, by simpa using h6, h8⟩
      refine rowP_d (f := fun q => qu q.1 ++ 58 :: cz n q.2) (r2.wk hF k1) e2 (fun c hc => ?_) (by omega) (hF.wk k1) hW1 (fun j u c h1 h2 w' ov' z' hk hW' => ?_)
      · obtain ⟨j, hj, rfl⟩ := List.mem_iff_getElem.1 hc
        obtain ⟨r, hr1, _, hr3⟩ := hcell j _ _ (List.getElem?_eq_getElem (by omega)) (List.getElem?_eq_getElem hj)
        rw [hr1]
        show (true && r.all (·.oneCell')) = true
        rw [hr3.one]; rfl
      · obtain ⟨r, rfl, hr2, hr3⟩ := hcell j u c h1 h2
        have ht := List.mem_of_getElem? h1
        obtain ⟨m', hm'⟩ : ∃ m', gd m' u.2 = true := by
          rcases g2 with e | ⟨m', _, g⟩
          · rw [e] at ht; simp at ht
          · exact ⟨m', g u ht⟩
        refine pair_w hr2 hW' fun w2 ov2 z2 hk2 hW2 => ?_
        have hT' := (hT.below hb (by omega)).wk hW1 hk h8
        exact ih (hh2 u ht) hm' (((hr3.wk hF k1).wk (hF.wk k1) hk).wk ((hF.wk k1).wk hk) hk2) (((hF.wk k1).wk hk).wk hk2) hW2 (hT'.wk hW' hk2 h8) h8
theorem vw : ∀ n, Vw n
  | 0 => fun hh => hh.elim
  | n + 1 => vw_s (vw n)
theorem ss_mem {α : Type} {lt : α → α → Bool} {l : List α} {x : α} : x ∈ ss lt l ↔ x ∈ l := (ss_perm l).mem_iff
theorem so_hgt : ∀ (d : Nat) {h : Nat} {t : T}, hgt h t → hgt h (so d t)
  | 0, _, _, hh => hh
  | _ + 1, 0, _, hh => hh.elim
  | d + 1, h + 1, .mk k i s l p, hh => by
    obtain ⟨b1, b2, h1, h2⟩ := hh
    refine ⟨by rw [List.length_map]; exact b1, by rw [ss_len, List.length_map]; exact b2, fun t ht => ?_, fun q hq => ?_⟩
    · obtain ⟨u, hu, rfl⟩ := List.mem_map.1 ht
      exact so_hgt d (h1 u hu)
    · obtain ⟨u, hu, rfl⟩ := List.mem_map.1 (ss_mem.1 hq)
      exact so_hgt d (h2 u hu)
theorem so_gd : ∀ (d : Nat) {n : Nat} {t : T}, gd n t = true → gd n (so d t) = true
  | 0, _, _, hg => hg
  | d + 1, n, .mk k i s l p, hg => by
    show gd n (.mk k i s (l.map (so d)) (ss ltT (p.map fun q => (q.1, so d q.2)))) = true
    unfold gd at hg ⊢
    rw [List.length_map, ss_len, List.length_map]
    rw [Bool.and_eq_true] at hg ⊢
    refine ⟨hg.1, ?_⟩
    have h2 := hg.2
    by_cases h0 : k = 0
    · simp [h0]
    by_cases h1 : k = 1
    · simpa [h1] using h2
    by_cases h3 : k = 2
    · simpa [h3] using h2
    by_cases h4 : k = 3
    · simpa [h4] using h2
    by_cases h5 : k = 4
    · subst h5
      cases n with
      | zero => simp at h2
      | succ n =>
        simp only [Int.reduceEq, if_false, if_true] at h2 ⊢
        rw [List.all_eq_true] at h2 ⊢
        intro x hx
        obtain ⟨u, hu, rfl⟩ := List.mem_map.1 hx
        exact so_gd d (h2 u hu)
    by_cases h6 : k = 5
    · subst h6
      cases n with
      | zero => simp at h2
      | succ n =>
        simp only [Int.reduceEq, if_false, if_true] at h2 ⊢
        rw [Bool.and_eq_true] at h2 ⊢
        refine ⟨?_, ?_⟩
        · rw [List.all_eq_true]
          intro x hx
          obtain ⟨u, hu, rfl⟩ := List.mem_map.1 (ss_mem.1 hx)
          have := List.all_eq_true.1 h2.1 u hu
          rw [Bool.and_eq_true] at this ⊢
          exact ⟨this.1, so_gd d this.2⟩
        · have h3 := h2.2
          unfold onc at h3 ⊢
          rw [decide_eq_true_eq] at h3 ⊢
          have hp : ((ss ltT (p.map fun q => (q.1, so d q.2))).map (·.1)).Perm (p.map (·.1)) := by
            refine ((ss_perm _).map _).trans ?_
            rw [List.map_map]
            exact List.Perm.refl _
          exact hp.nodup_iff.2 h3
    · simp [h0, h1, h3, h4, h5, h6] at h2
theorem gd_hgt : ∀ {n h : Nat} {t : T}, hgt h t → gd n t = true → hgt (n + 1) t
  | _, 0, _, hh, _ => hh.elim
  | n, h + 1, .mk k i s l p, hh, hg => by
    obtain ⟨b1, b2, h1, h2⟩ := hh
    obtain ⟨g1, g2, _⟩ := gd_list hg
    refine ⟨b1, b2, fun t ht => ?_, fun q hq => ?_⟩
    · rcases g1 with e | ⟨m, e, g⟩
      · rw [e] at ht; simp at ht
      · subst e; exact gd_hgt (h1 t ht) (g t ht)
    · rcases g2 with e | ⟨m, e, g⟩
      · rw [e] at hq; simp at hq
      · subst e; exact gd_hgt (h2 q hq) (g q hq)
def ct (t : T) : List UInt8 := cz 9 (so 8 t)
def bx2 (w : World) (c : Array Value) : World := (w.alloc (.cells c 55)).alloc (.cells #[.int .i64 0, .int .i64 0, .string ⟨#[]⟩, .slice none 0 0, .slice none 0 0] 55)
theorem bx2_bl (w : World) (c : Array Value) : Below w.heap.size w (bx2 w c) := blw_al ((Below.refl _ _).alloc (Nat.le_refl _) _) (by simp) _
theorem bx2_at (w : World) (c : Array Value) : (bx2 w c).heap[w.heap.size + 1]? = some (.cells #[.int .i64 0, .int .i64 0, .string ⟨#[]⟩, .slice none 0 0, .slice none 0 0] 55 (0, 0)) := by
  show ((w.heap.push _).push _)[w.heap.size + 1]? = _
  rw [Array.getElem?_push, if_pos (by simp)]
theorem srt_d {h : Nat} {F : Nat → Prop} {w : World} {t : T} {c : List Value} (hh : hgt h t) (hg : gd 8 t = true) (hv : VA F w t c) : Calls Tryz.prog 32 #[.agg c.toArray] w (AnC w (so 8 t)) := by
  have hb := bx2_bl w c.toArray
  have hr := bx2_at w c.toArray
  have hc := sorted_d 8 (Nat.le_refl _) hh hg (hv.frame (w' := bx2 w c.toArray) (G := fun _ => True) (fun k _ hk => hb.block k hk) (fun _ _ _ => trivial))
  obtain ⟨x0, x1, x2, x3, x4, rfl⟩ := five_l hv.len
  replace hc : Calls Tryz.prog 51 #[.agg #[x0, x1, x2, x3, x4], .int .i64 8] (bx2 w #[x0, x1, x2, x3, x4]) _ := hc
  clear hv
  show Calls Tryz.prog 32 #[.agg #[x0, x1, x2, x3, x4]] w _
  obtain ⟨wb, hwb⟩ : ∃ wb, wb = bx2 w #[x0, x1, x2, x3, x4] := ⟨_, rfl⟩
  have hr' : wb.heap[w.heap.size + 1]? = some (.cells #[.int .i64 0, .int .i64 0, .string ⟨#[]⟩, .slice none 0 0, .slice none 0 0] 55 (0, 0)) := by rw [hwb]; exact hr
  have hb' : Below w.heap.size w wb := by rw [hwb]; exact hb
  have hsz : w.heap.size + 1 < wb.heap.size := (Array.getElem?_eq_some_iff.1 hr').1
  rw [← hwb] at hc
  clear hr hb
  replace hr' := hide1 hr'
  replace hb' := hide1 hb'
  go_enter Tryz.func32, Tryz.ntmps32
  go_wp2_with fail
  rw [show (w.alloc (.cells #[x0, x1, x2, x3, x4] 55)).alloc (.cells #[.int .i64 0, .int .i64 0, .string ⟨#[]⟩, .slice none 0 0, .slice none 0 0] 55) = wb from hwb.symm]
  refine hc.mono ?_
  rintro e w1 ⟨c1, rfl, h5, b1, hv1⟩
  have hr1 := (b1.block _ hsz).trans hr'.out
  have hb1 := hb'.out.trans (b1.mono hb'.out.size)
  have h1c := hv1.one
  obtain ⟨y0, y1, y2, y3, y4, hce⟩ := five_l (l := c1.toList) (by simpa using h5)
  obtain rfl : c1 = #[y0, y1, y2, y3, y4] := by cases c1; simp at hce; simp [hce]
  have hz := setRow_heap w1 (w.heap.size + 1) _ #[y0, y1, y2, y3, y4] _ _ hr1
  have ha : Hid (AnC w (so 8 t) (.returned (.agg #[y0, y1, y2, y3, y4])) (w1.setRow (w.heap.size + 1) #[y0, y1, y2, y3, y4])) := hide1 ⟨_, rfl, rfl, blw_own hb1 (by omega) _, VA.frame (c := [y0, y1, y2, y3, y4]) hv1 (fun k hk _ => setRow_other w1 _ k _ (by have h1 : wb.heap.size ≤ k := hk; omega)) (fun k hk _ => by have h1 : wb.heap.size ≤ k := hk; have := hb'.out.size; show w.heap.size ≤ k; omega)⟩
  replace hz := hide1 hz
  clear hwb hc hv1 hb1 hr' hb' b1 hce h5
  go_wp2_with (refine wpList_store_row rfl Vt (.tmp 2) (.tmp 4) rfl (w.heap.size + 1) #[y0, y1, y2, y3, y4] rfl rfl Vt _ hr1 (by kernel_rfl) rfl (by simpa using h1c) ?_)
  refine bodyPost_ret (results_v1 rfl _ rfl rfl hz.out) rfl ?_
  exact ha.out
def AnT (w : World) (t : T) (e : Ending) (w' : World) : Prop := ∃ v ev, e = .returned (.tuple #[v, ev]) ∧ Below w.heap.size w w' ∧
  ((gd 8 t = false ∧ v = .slice none 0 0 ∧ ev = .iface 64 (.int .i64 1)) ∨ (gd 8 t = true ∧ 4096 < (ct t).length ∧ v = .slice none 0 0 ∧ ev = .iface 64 (.int .i64 10)) ∨
    (gd 8 t = true ∧ (ct t).length ≤ 4096 ∧ ev = .nilIface ∧ Ow w' w.heap.size v (ct t)))
set_option maxHeartbeats 4000000 in
set_option maxRecDepth 100000 in
theorem put_c {h : Nat} {F : Nat → Prop} {w : World} {t : T} {c : List Value} (hh : hgt h t) (hs : sbd h t) (hv : VA F w t c) (hT : Ev w) (h8 : 8 ≤ w.heap.size) : Calls Tryz.prog 19 #[.agg c.toArray] w (AnT w t) := by
  obtain ⟨x0, x1, x2, x3, x4, rfl⟩ := five_l hv.len
  obtain ⟨wb, hwb⟩ : ∃ wb, wb = w.alloc (.cells #[x0, x1, x2, x3, x4] 55) := ⟨_, rfl⟩
  have hB : Below w.heap.size w wb := by rw [hwb]; exact (Below.refl _ _).alloc (Nat.le_refl _) _
  have hn : wb.heap[w.heap.size]? = some (.cells #[x0, x1, x2, x3, x4] 55 (0, 0)) := by
    rw [hwb]
    show (w.heap.push _)[w.heap.size]? = _
    rw [Array.getElem?_push, if_pos rfl]
  have hvb : VA F wb t [x0, x1, x2, x3, x4] := hv.frame (fun k _ hk => hB.block k hk) (fun _ h _ => h)
  have hTb := hT.below hB (by omega)
  have hsb := hB.size
  have hck := check_d hh hs hvb hTb (by omega)
  replace hck : Calls Tryz.prog 30 #[.agg #[x0, x1, x2, x3, x4]] wb _ := hck
  have hl5 : wb.rangeAt w.heap.size 0 [x0, x1, x2, x3, x4] := fun j u hj => by
    simp only [World.cell?, hn]
    rw [Nat.zero_add]
    simpa using hj
  have hql : w.heap.size < wb.heap.size := (Array.getElem?_eq_some_iff.1 hn).1
  replace hB := hide1 hB
  replace hn := hide1 hn
  replace hvb := hide1 hvb
  replace hTb := hide1 hTb
  clear hv hT
  show Calls Tryz.prog 19 #[.agg #[x0, x1, x2, x3, x4]] w _
  go_enter Tryz.func19, Tryz.ntmps19
  go_upto_region 1 with fail
  rw [← hwb]
  clear hwb
  go_wp2_with (first | refine wpList_load_mid rfl 55 (.tmp 1) rfl w.heap.size 0 rfl [x0, x1, x2, x3, x4] _ hl5 Tryz.underlying55 rfl (by kernel_rfl) ?_ | fail)
  refine hck.mono ?_
  rintro e w1 ⟨rfl, b1⟩
  have hB1 := hide1 (hB.out.trans (b1.mono hB.out.size))
  cases hg : gd 8 t with
  | false =>
    clear hck hl5
    go_wp2
    go_ret2
    exact ⟨_, _, rfl, hB1.out, .inl ⟨hg, rfl, rfl⟩⟩
  | true =>
    have hv1 := hide1 (hvb.out.frame (w' := w1) (G := fun k => F k ∧ k < wb.heap.size) (fun k _ hk => b1.block k hk) (fun _ h hk => ⟨h, hk⟩))
    have hT1 := hide1 (hTb.out.below b1 (by omega))
    have hn1 := hide1 ((b1.block _ hql).trans hn.out)
    have hs1 := b1.size
    clear hck hl5 hvb hTb hn b1
    obtain ⟨w2, hw2⟩ : ∃ w2, w2 = w1.alloc (.cells #[.slice none 0 0, .bool false] 72) := ⟨_, rfl⟩
    have b2 : Below w1.heap.size w1 w2 := by rw [hw2]; exact (Below.refl _ _).alloc (Nat.le_refl _) _
    have hq2 : w2.heap[w1.heap.size]? = some (.cells #[.slice none 0 0, .bool false] 72 (0, 0)) := by
      rw [hw2]
      show (w1.heap.push _)[w1.heap.size]? = _
      rw [Array.getElem?_push, if_pos rfl]
    have hW2 : Wt w2 w1.heap.size (.slice none 0 0) [] := ⟨hq2, [], ⟨rfl, .inl ⟨rfl, rfl⟩⟩, by simp, .inr rfl⟩
    have hs2 := b2.size
    have hn2 := (b2.block _ (by omega)).trans hn1.out
    have hl5 : w2.rangeAt w.heap.size 0 [x0, x1, x2, x3, x4] := fun j u hj => by
      simp only [World.cell?, hn2]
      rw [Nat.zero_add]
      simpa using hj
    have hsd := srt_d hh hg (hv1.out.frame (w' := w2) (G := fun _ => True) (fun k _ hk => b2.block k hk) (fun _ _ _ => trivial))
    replace hsd : Calls Tryz.prog 32 #[.agg #[x0, x1, x2, x3, x4]] w2 _ := hsd
    have hT2 := hide1 (hT1.out.below b2 (by omega))
    have hB2 := hide1 (hB1.out.trans (b2.mono hB1.out.size))
    replace hW2 := hide1 hW2
    have hql2 : w1.heap.size < w2.heap.size := (Array.getElem?_eq_some_iff.1 hq2).1
    clear hB1 hT1 hv1 hn1 hn2 b2 hq2
    go_upto_region 4 with fail
    rw [← hw2]
    clear hw2
    go_wp2_with (first | refine wpList_load_mid rfl 55 (.tmp 1) rfl w.heap.size 0 rfl [x0, x1, x2, x3, x4] _ hl5 Tryz.underlying55 rfl (by kernel_rfl) ?_ | fail)
    refine hsd.mono ?_
    rintro e w3 ⟨c3, rfl, h5, b3, hv3⟩
    have hW3 := hW2.out.below b3
    have hT3 := hT2.out.below b3 (by omega)
    have hB3 := hide1 (hB2.out.trans (b3.mono hB2.out.size))
    have hF3 : Fr (w2.heap.size ≤ ·) w3 w1.heap.size (.slice none 0 0) := fun k hk _ => ⟨by have h1 : w2.heap.size ≤ k := hk; omega, fun e => by cases e⟩
    have hvw := vw 9 (so_hgt 8 (gd_hgt hh hg)) (so_gd 8 hg) hv3 hF3 hW3 hT3 (by omega)
    have hs3 := b3.size
    clear hsd hW3 hT3 hF3 hv3 hl5 b3 hT2 hW2 hB2
    go_wp2_with fail
    refine hvw.mono ?_
    rintro e w4 ⟨rfl, ov, hW4, k4⟩
    have hB4 : Hid (Below w.heap.size w w4) := hide1 ⟨k4.os.trans hB3.out.os, k4.tape.trans hB3.out.tape, k4.output.trans hB3.out.output, Nat.le_trans hB3.out.size k4.size, fun k hk => (k4.block k (by have := hB3.out.size; omega) (by omega) (fun e => by cases e)).trans (hB3.out.block k hk)⟩
    have hW5 : Wt w4 w1.heap.size ov (ct t) := hW4
    obtain ⟨hbx, out, ho, hol, hoz⟩ := hW5
    have c1 : w4.cell? ⟨w1.heap.size, 1, none⟩ = some (.bool (decide (4096 < (ct t).length))) := by simp only [World.cell?, hbx]; rfl
    have c0 : w4.cell? ⟨w1.heap.size, 0, none⟩ = some ov := by simp only [World.cell?, hbx]; rfl
    clear hvw hW4 k4 hB3 hbx
    by_cases hov : 4096 < (ct t).length
    · rw [decide_eq_true hov] at c1
      have hf : Hid (AnT w t (.returned (.tuple #[.slice none 0 0, .iface 64 (.int .i64 10)])) w4) := hide1 ⟨_, _, rfl, hB4.out, .inr (.inl ⟨hg, hov, rfl, rfl⟩)⟩
      clear ho hoz hov
      go_wp2
      go_ret2
      exact hf.out
    · rw [decide_eq_false hov] at c1
      obtain rfl : out = ct t := hoz.resolve_left hov
      obtain ⟨oa, oc, rfl⟩ := ho.slc
      have ho2 : Ow w4 w.heap.size (.slice oa (ct t).length oc) (ct t) := by
        obtain ⟨g1, g2 | ⟨g', cap, cur, e1, e2, e3⟩⟩ := ho
        · exact ⟨g1, .inl g2⟩
        · exact ⟨g1, .inr ⟨g', cap, cur, e1, by omega, e3⟩⟩
      have hf : Hid (AnT w t (.returned (.tuple #[.slice oa (ct t).length oc, .nilIface])) w4) := hide1 ⟨_, _, rfl, hB4.out, .inr (.inr ⟨hg, hol, rfl, ho2⟩)⟩
      clear ho hoz hov ho2
      generalize (ct t).length = N at *
      go_wp2
      go_ret2
      exact hf.out
end Go.Proofs.YtdhmonlhlfkjbaaGreatDoor

namespace Go.Proofs.YtdhmonlhlfkjbaaGreatDoor
open Go.ChangeShapes Go.WideShapes Go.ChangeAt Go.RowKit
section
variable {H : Type} {enc : TypeId × Value → H} {W : World} {held : Bool}
end
end Go.Proofs.YtdhmonlhlfkjbaaGreatDoor

namespace Go.Proofs.YtdhmonlhlfkjbaaGreatDoor
open Go.RowKit
section
variable {P : Program} {Q : Exit → Act → World → Prop}
def tlw (P : Program) (l : List Oper) (Q : Exit → Act → World → Prop) : List Oper → Act → World → Prop
  | [], a, w => Q .normal a w
  | o :: r, a, w => ∀ K : Act → World → Prop, (∀ a w, tlw P l Q r a w → K a w) → OpG P l Q o a w K
theorem tlw_val {l r : List Oper} {o : Oper} {a : Act} {w w' : World} {v : Value} (hg : o.guard = none) (h : (execOp a.eval o).run P w = .ok (.value v) w') (hk : tlw P l Q r (a.put o.dst v) w') : tlw P l Q (o :: r) a w :=
  fun _ hK => .plain hg (wp_val h (hK _ _ hk))
theorem tlw_skp {l r : List Oper} {o : Oper} {a : Act} {w w' : World} (hg : o.guard = none) (h : (execOp a.eval o).run P w = .ok .skip w') (hk : tlw P l Q r (a.put o.dst undef) w') : tlw P l Q (o :: r) a w :=
  fun _ hK => .plain hg (wp_skp h (hK _ _ hk))
def finT (l : List Oper) (m n : Nat) : Bool := ((List.range l.length).all fun j => decide (j < m) || (List.range j).all fun i => rch l l.length j i) && (List.range m).all fun i => match (l[i]?).bind (·.dst) with
    | some d => decide (d < n) && (List.range l.length).all fun j => j == i || ((l[j]?).bind (·.dst)) != some d
    | none => false
theorem finT_at {l : List Oper} {m n : Nat} (h : finT l m n = true) {i : Nat} {o : Oper} (ho : l[i]? = some o) (hi : i < m) : ∃ d, o.dst = some d ∧ d < n ∧ ∀ j oj, l[j]? = some oj → j ≠ i → oj.dst ≠ some d := by
  unfold finT at h
  rw [Bool.and_eq_true] at h
  have h1 := List.all_eq_true.1 h.2 i (by simp [hi])
  simp only [ho, Option.bind_some] at h1
  cases hd : o.dst with
  | none => rw [hd] at h1; cases h1
  | some d =>
    rw [hd] at h1
    simp only [Bool.and_eq_true, decide_eq_true_eq] at h1
    refine ⟨d, rfl, h1.1, fun j oj hj hne e => ?_⟩
    have h5 := List.all_eq_true.1 h1.2 j (by simp [(List.getElem?_eq_some_iff.1 hj).1])
    simp [hj, hne, e] at h5
theorem finT_rch {l : List Oper} {m n : Nat} (h : finT l m n = true) {i j : Nat} (hj : j < l.length) (hm : m ≤ j) (hi : i < j) : rch l l.length j i = true := by
  unfold finT at h
  rw [Bool.and_eq_true] at h
  have h1 := List.all_eq_true.1 h.1 j (by simp [hj])
  rw [Bool.or_eq_true] at h1
  rcases h1 with h1 | h1
  · have := of_decide_eq_true h1; omega
  · exact List.all_eq_true.1 h1 i (by simp [hi])
theorem wp_flowT {l : List Oper} {id : Nat} (m : Nat) (a0 : Act) (w0 : World) (hm : P.follows .mixedOrders = true) (hac : acycB l.toArray = true) (hfin : finT l m a0.tmps.size = true) (hml : m < l.length)
    (Rr : Nat → Value → World → Prop) (hmono : ∀ i v w w', Rr i v w → Below w.heap.size w w' → Rr i v w')
    (hop : ∀ i o, l[i]? = some o → i < m → ∀ a w, Below w0.heap.size w0 w → a.tmps.size = a0.tmps.size → (∀ t, wrB l t = false → a.tmps.getD t undef = a0.tmps.getD t undef) → (∀ j oj d, l[j]? = some oj → oj.dst = some d → (∃ e ∈ o.after, Region.binds .any e = true ∧ e.on = j) → Rr j (a.tmps.getD d undef) w) →
      ∀ K : Act → World → Prop, (∀ v w', Below w.heap.size w w' → Rr i v w' → K (a.put o.dst v) w') → OpG P l Q o a w K)
    (hlast : ∀ a w, Below w0.heap.size w0 w → a.defers = a0.defers → a.tmps.size = a0.tmps.size → (∀ t, wrB l t = false → a.tmps.getD t undef = a0.tmps.getD t undef) → (∀ j oj d, l[j]? = some oj → j < m → oj.dst = some d → Rr j (a.tmps.getD d undef) w) → tlw P l Q (l.drop m) a w) : (Code.region id l.toArray true).wp P Q a0 w0 := by
  have hacyc := acyc_of (ops := l.toArray) hac
  have hac' : ∀ (i : Nat) (o : Oper), l[i]? = some o → ∀ e ∈ o.after, Region.binds .any e = true → e.on < i := fun i o ho => hacyc i o (by simpa using ho)
  refine wp_region_any hm (wpAny_sym hacyc (fun D a w => (∃ k, m < k ∧ k ≤ l.length ∧ (∀ j, j < k → D j = true) ∧ (∀ j, k ≤ j → D j = false) ∧ tlw P l Q (l.drop k) a w) ∨ ((∀ j, m ≤ j → D j = false) ∧ a.defers = a0.defers ∧ a.tmps.size = a0.tmps.size ∧ Below w0.heap.size w0 w ∧ (∀ t, wrB l t = false → a.tmps.getD t undef = a0.tmps.getD t undef) ∧ (∀ j oj, l[j]? = some oj → D j = true → ∀ e ∈ oj.after, Region.binds .any e = true → D e.on = true) ∧ ∀ j oj d, l[j]? = some oj → D j = true → oj.dst = some d → Rr j (a.tmps.getD d undef) w)) ?_ ?_ _ _ _ _ (by simp) ?_ ?_)
  · intro D a w hI i o ho hD hdep K hK
    have ho : l[i]? = some o := by simpa using ho
    have hil := (List.getElem?_eq_some_iff.1 ho).1
    -- what waits for another has it behind it
    have hwait : (∀ j oj, l[j]? = some oj → D j = true → ∀ e ∈ oj.after, Region.binds .any e = true → D e.on = true) → ∀ j, rch l l.length i j = true → D j = true := fun hcl j hr => by
      cases hk : l.length with
      | zero => omega
      | succ k =>
        rw [hk] at hr
        unfold rch at hr
        rw [ho] at hr
        obtain ⟨e, he, h4⟩ := Array.any_eq_true'.1 hr
        simp only [Bool.and_eq_true, Bool.or_eq_true, beq_iff_eq] at h4
        rcases h4.2 with h5 | h5
        · rw [← h5]; exact hdep e he h4.1
        · exact rch_of hcl k e.on j h5 (hdep e he h4.1)
    have htail : ∀ (k : Nat), m ≤ k → (∀ j, j < k → D j = true) → (∀ j, k ≤ j → D j = false) → i = k → tlw P l Q (l.drop k) a w → OpG P l Q o a w K := fun k hmk h1 h2 hik ht => by
      subst hik
      rw [List.drop_eq_getElem_cons hil] at ht
      obtain rfl : l[i] = o := by rw [List.getElem?_eq_getElem hil] at ho; exact Option.some.inj ho
      refine ht K fun a' w' ht' => hK a' w' (.inl ⟨i + 1, by omega, hil, fun j hj => ?_, fun j hj => ?_, ht'⟩)
      · by_cases hji : j = i
        · rw [hji]; exact add1_eq
        · rw [add1_ne hji]; exact h1 j (by omega)
      · rw [add1_ne (by omega)]; exact h2 j (by omega)
    rcases hI with ⟨k, hmk, hkl, h1, h2, ht⟩ | ⟨h1, hdf, hsz, hb, hsl, hcl, hr⟩
    · have hik : i = k := by
        have h3 : k ≤ i := Nat.le_of_not_lt fun h => by rw [h1 i h] at hD; cases hD
        rcases Nat.eq_or_lt_of_le h3 with e | h4
        · exact e.symm
        · have := hwait (fun j oj hj hDj e he hb => h1 e.on (Nat.lt_trans (hac' j oj hj e he hb) (Nat.lt_of_not_le fun h => by rw [h2 j h] at hDj; cases hDj))) k (finT_rch hfin hil (by omega) h4)
          rw [h2 k (Nat.le_refl k)] at this; cases this
      exact htail k (by omega) h1 h2 hik ht
    · by_cases hi : m ≤ i
      · have hall : ∀ j, j < i → D j = true := fun j hj => hwait hcl j (finT_rch hfin hil hi hj)
        have him : i = m := by
          rcases Nat.eq_or_lt_of_le hi with e | h4
          · exact e.symm
          · have := hall m h4
            rw [h1 m (Nat.le_refl m)] at this; cases this
        subst him
        exact htail i (Nat.le_refl i) hall h1 rfl (hlast a w hb hdf hsz hsl fun j oj d hj hjm hd => hr j oj d hj (hall j hjm) hd)
      · obtain ⟨d, hd, hdn, hap⟩ := finT_at hfin ho (by omega)
        have hds : d < a.tmps.size := by rw [hsz]; exact hdn
        refine hop i o ho (by omega) a w hb hsz hsl (fun j oj d' hj hd' ⟨e, he, h3, h4⟩ => hr j oj d' hj (by rw [← h4]; exact hdep e he h3) hd') K (fun v w' hb' hR => hK _ _ (.inr ⟨?_, ?_, ?_, ?_, ?_, ?_, ?_⟩))
        · intro j hj
          rw [add1_ne (by omega)]; exact h1 j hj
        · rw [put_df]; exact hdf
        · rw [put_sz]; exact hsz
        · exact hb.trans (hb'.mono hb.size)
        · intro t ht
          rw [hd, put_of hds (fun e => by
            subst e
            have : wrB l t = true := List.any_eq_true.2 ⟨o, List.mem_of_getElem? ho, by simp [hd]⟩
            rw [this] at ht; cases ht)]
          exact hsl t ht
        · intro j oj hj hDj e he h3
          by_cases hji : j = i
          · subst hji
            rw [ho] at hj
            cases hj
            exact add1_mono (hdep e he h3)
          · rw [add1_ne hji] at hDj
            exact add1_mono (hcl j oj hj hDj e he h3)
        · intro j oj d' hj hDj hd'
          by_cases hji : j = i
          · subst hji
            rw [ho] at hj
            cases hj
            rw [hd] at hd'
            cases hd'
            rw [hd, put_at hds]
            exact hR
          · rw [add1_ne hji] at hDj
            rw [hd, put_of hds (fun e => hap j oj hj hji (by rw [hd', e]))]
            exact hmono _ _ _ _ (hr j oj d' hj hDj hd') hb'
  · intro D a w hI hall
    rcases hI with ⟨k, _, hkl, _, h2, ht⟩ | ⟨h1, _⟩
    · have hkl' : k = l.length := by
        rcases Nat.eq_or_lt_of_le hkl with e | h4
        · exact e
        · have := hall k (by simpa using h4)
          rw [h2 k (Nat.le_refl k)] at this; cases this
      subst hkl'
      rw [List.drop_length] at ht
      exact ht
    · have := hall m (by simpa using hml)
      rw [h1 m (Nat.le_refl m)] at this; cases this
  · exact Nat.le_trans (List.length_filter_le _ _) (by simp)
  · have e : (fun i => (Array.replicate l.toArray.size false).getD i false) = fun _ => false := by
      funext i
      by_cases h : i < l.toArray.size <;> simp [Array.getD]
    rw [e]
    exact .inr ⟨fun _ _ => rfl, rfl, rfl, (Below.refl _ _).drew, fun _ _ => rfl, (fun _ _ _ h => absurd h (by simp)), (fun _ _ _ _ h => absurd h (by simp))⟩
end
end Go.Proofs.YtdhmonlhlfkjbaaGreatDoor

namespace Go.Proofs.YtdhmonlhlfkjbaaGreatDoor
open Go.ChangeShapes Go.WideShapes Go.ChangeAt Go.RowKit

def laidJ : List (String × DataW Unit) := [("math/bits.deBruijn32tab", Rows.laid_math_bits_deBruijn32tab), ("math/bits.deBruijn64tab", Rows.laid_math_bits_deBruijn64tab), ("internal/strconv.uint64pow10", Rows.laid_internal_strconv_uint64pow10), ("unicode/utf8.acceptRanges", Rows.laid_unicode_utf8_acceptRanges), ("strconv.ErrRange", Rows.laid_strconv_ErrRange), ("strconv.ErrSyntax", Rows.laid_strconv_ErrSyntax), ("unicode/utf8.first", Rows.laid_unicode_utf8_first)]
theorem acc_L : (Rows.laid_unicode_utf8_acceptRanges : DataW Unit) = Lib.acceptData := by kernel_rfl
theorem pow_L : (Rows.laid_internal_strconv_uint64pow10 : DataW Unit) = Lib.tabData .u64 Lib.pow10Tab := by kernel_rfl
theorem fst_L : Rows.laid_unicode_utf8_first = Lib.firstData := Pinned.utf8First_eq
theorem err_cell {W : World} {n nm : String} {d : DataW Unit} {g : Nat} {t : TypeId} {ms : Array (String × TypeId)} (hg : Tryz.prog.globalNamed n = some g) (ht : (Tryz.prog.globals[g]?).map (·.type) = some t) (hi : Tryz.prog.underlying t = some (.interface ms))
    (h : Lib.VarReads Tryz.prog W n (.iface nm d)) : ∃ te pe, W.cell? ⟨g, 0, none⟩ = some (.iface te pe) := by
  obtain ⟨g', t', cs, fuel, p, hg', hty, hvar, hd⟩ := h
  obtain rfl := Option.some.inj (hg.symm.trans hg')
  obtain rfl := Option.some.inj (ht.symm.trans hty)
  obtain ⟨f1, u, v, e, hn, h1⟩ := iface_of_trod hi hd
  refine ⟨u, v, ?_⟩
  rw [World.var?_cell hg hvar 0, ← Array.getElem?_toList, e]
  rfl
theorem vr_lt {W : World} {n : String} {d : DataW Unit} {g : Nat} (e1 : Tryz.prog.globalNamed n = some g) (h : Lib.VarReads Tryz.prog W n d) : g < W.heap.size := by
  obtain ⟨g', t, cs, fuel, p, hg, hty, hvar, hd⟩ := h
  obtain rfl := Option.some.inj (e1.symm.trans hg)
  unfold World.var? at hvar
  rw [hg] at hvar
  simp only [Option.bind_some] at hvar
  rcases Nat.lt_or_ge g W.heap.size with h' | h'
  · exact h'
  · rw [Array.getElem?_eq_none h'] at hvar; cases hvar
theorem of_laidJ {W : World} (h : laidMetH Tryz.prog laidJ W) : Ev W ∧ 8 ≤ W.heap.size := by
  rw [MakeChecks.laidMetH_plain _ _ _ (by kernel_rfl)] at h
  have r1 : Lib.VarReads Tryz.prog W "unicode/utf8.first" Lib.firstData := fst_L ▸ Lib.laidMet.reads h (by simp [laidJ])
  have r2 : Lib.VarReads Tryz.prog W "unicode/utf8.acceptRanges" Lib.acceptData := acc_L ▸ Lib.laidMet.reads h (by simp [laidJ])
  have r3 : Lib.VarReads Tryz.prog W "internal/strconv.uint64pow10" (Lib.tabData .u64 Lib.pow10Tab) := pow_L ▸ Lib.laidMet.reads h (by simp [laidJ])
  have r4 : Lib.VarReads Tryz.prog W "strconv.ErrSyntax" Rows.laid_strconv_ErrSyntax := Lib.laidMet.reads h (by simp [laidJ])
  have r5 : Lib.VarReads Tryz.prog W "strconv.ErrRange" Rows.laid_strconv_ErrRange := Lib.laidMet.reads h (by simp [laidJ])
  have r6 : Lib.VarReads Tryz.prog W "math/bits.deBruijn64tab" Rows.laid_math_bits_deBruijn64tab := Lib.laidMet.reads h (by simp [laidJ])
  refine ⟨⟨utf8Tabs_of_reads lays260 ⟨by kernel_rfl, by kernel_rfl, by kernel_rfl, by kernel_rfl, by kernel_rfl, by kernel_rfl, by kernel_rfl⟩ r1 r2, ?_, ?_, ?_⟩, ?_⟩
  · obtain ⟨g, t, cs, fuel, p, hg, hty, hvar, hd⟩ := r3
    have e1 : Tryz.prog.globalNamed "internal/strconv.uint64pow10" = some 0 := by kernel_rfl
    obtain rfl := Option.some.inj (e1.symm.trans hg)
    have e2 : (Tryz.prog.globals[0]?).map (·.type) = some 165 := by kernel_rfl
    obtain rfl := Option.some.inj (e2.symm.trans hty)
    unfold Lib.TabIs
    rw [hvar, ← Lib.cells_of_tab Tryz.underlying165 Tryz.underlying125 (by kernel_rfl) (by kernel_rfl) hd]
  · exact err_cell (by kernel_rfl) (by kernel_rfl) Tryz.underlying39 r4
  · exact err_cell (by kernel_rfl) (by kernel_rfl) Tryz.underlying39 r5
  · have e6 := vr_lt (g := 5) (by kernel_rfl) r6
    have e5 := vr_lt (g := 7) (by kernel_rfl) r5
    have e4 := vr_lt (g := 6) (by kernel_rfl) r4
    omega
theorem laid_metJ (os : Os) (args : Array Value) : laidMetH Tryz.prog laidJ ((World.laidAll Tryz.prog os laidJ).forCall (fun _ _ => 0) ⟨#[], args, []⟩).memory := by
  rw [MakeChecks.laidMetH_plain _ _ _ (by kernel_rfl)]
  exact laidMet_laidAll _ (by kernel_rfl) (by kernel_rfl)
end Go.Proofs.YtdhmonlhlfkjbaaGreatDoor

namespace Go.Proofs.YtdhmonlhlfkjbaaGreatDoor
end Go.Proofs.YtdhmonlhlfkjbaaGreatDoor

namespace Go.Proofs.YtdhmonlhlfkjbaaGreatDoor
open Go.RowKit Go.Shelf

theorem results_g {fn : Func} {p : Tmp} {T : TypeId} {u : World} {b : Nat} {c : Array Value} (h : fn.results = #[.cell p T]) (tmps : Array Value) (ht : tmps.getD p undef = .pointer (some ⟨b, 0, none⟩))
    (hl : (loadVar T ⟨b, 0, none⟩).run Tryz.prog u = .ok (.agg c) u) : (results fn tmps).run Tryz.prog u = .ok (.agg c) u := by
  have ht2 : tmps[p]?.getD undef = .pointer (some ⟨b, 0, none⟩) := by simpa using ht
  simp [results, h, ht2, asAddr, hl]
theorem results_g2 {fn : Func} {p q : Tmp} {T : TypeId} {u : World} {b : Nat} {c : Array Value} (h : fn.results = #[.cell p T, .tmp q]) (tmps : Array Value) (ht : tmps.getD p undef = .pointer (some ⟨b, 0, none⟩))
    (hl : (loadVar T ⟨b, 0, none⟩).run Tryz.prog u = .ok (.agg c) u) : (results fn tmps).run Tryz.prog u = .ok (.tuple #[.agg c, tmps.getD q undef]) u := by
  have ht2 : tmps[p]?.getD undef = .pointer (some ⟨b, 0, none⟩) := by simpa using ht
  simp [results, h, ht2, asAddr, hl, Result.andThen]
theorem lv_P {u : World} {b : Nat} {c : Array Value} {t0 : TypeId} (hs : c.size = 6) (hrow : u.heap[b]? = some (.cells c t0 (0, 0))) : (loadVar 69 ⟨b, 0, none⟩).run Tryz.prog u = .ok (.agg c) u :=
  run_loadVar_row (P := Tryz.prog) u b t0 69 c (0, 0) _ hrow Tryz.underlying69 (by rfl) (by rw [hs]; kernel_rfl)
theorem lv_V {u : World} {b : Nat} {c : Array Value} {t0 : TypeId} (hs : c.size = 5) (hrow : u.heap[b]? = some (.cells c t0 (0, 0))) : (loadVar 55 ⟨b, 0, none⟩).run Tryz.prog u = .ok (.agg c) u :=
  run_loadVar_row (P := Tryz.prog) u b t0 55 c (0, 0) _ hrow Tryz.underlying55 (by rfl) (by rw [hs]; kernel_rfl)
theorem lv_E {u : World} {b : Nat} {c : Array Value} {t0 : TypeId} (hs : c.size = 70) (hrow : u.heap[b]? = some (.cells c t0 (0, 0))) : (loadVar 45 ⟨b, 0, none⟩).run Tryz.prog u = .ok (.agg c) u :=
  run_loadVar_row (P := Tryz.prog) u b t0 45 c (0, 0) _ hrow Tryz.underlying45 (by rfl) (by rw [hs]; kernel_rfl)
theorem lv_S {u : World} {b : Nat} {c : Array Value} {t0 : TypeId} (hs : c.size = 97) (hrow : u.heap[b]? = some (.cells c t0 (0, 0))) : (loadVar 32 ⟨b, 0, none⟩).run Tryz.prog u = .ok (.agg c) u :=
  run_loadVar_row (P := Tryz.prog) u b t0 32 c (0, 0) _ hrow Tryz.underlying32 (by rfl) (by rw [hs]; kernel_rfl)
abbrev pC (nm tx : ByteArray) : List Value := [.string nm, .int .i64 3, .int .i64 0, .string tx, .slice none 0 0, .slice none 0 0]
set_option maxRecDepth 100000 in
theorem tp_e (nm tx : ByteArray) (w : World) : Calls Tryz.prog 40 #[.string nm, .string tx] w fun e w' => e = .returned (.agg #[.string nm, .int .i64 3, .int .i64 0, .string tx, .slice none 0 0, .slice none 0 0]) ∧ Below w.heap.size w w' := by
  have ha := heap_na w #[.string ⟨#[]⟩, .int .i64 0, .int .i64 0, .string ⟨#[]⟩, .slice none 0 0, .slice none 0 0] 69
  have hz := hide1 (setRow_heap _ w.heap.size _ #[.string nm, .int .i64 3, .int .i64 0, .string tx, .slice none 0 0, .slice none 0 0] _ _ ha)
  have hfin := hide1 (blw_own (below_na (w := w) (.cells #[.string ⟨#[]⟩, .int .i64 0, .int .i64 0, .string ⟨#[]⟩, .slice none 0 0, .slice none 0 0] 69)) (Nat.le_refl _) #[.string nm, .int .i64 3, .int .i64 0, .string tx, .slice none 0 0, .slice none 0 0])
  go_enter Tryz.func40, Tryz.ntmps40
  go_wp2_with (refine wpList_store_row rfl 69 (.tmp 4) (.tmp 8) rfl w.heap.size #[.string nm, .int .i64 3, .int .i64 0, .string tx, .slice none 0 0, .slice none 0 0] rfl rfl 69 _ ha (by kernel_rfl) (by kernel_rfl) (by kernel_rfl) ?_)
  exact bodyPost_ret (results_g rfl _ rfl (lv_P rfl hz.out)) rfl ⟨rfl, hfin.out⟩
set_option maxRecDepth 100000 in
theorem kw_1 (w : World) : Calls Tryz.prog 41 #[.int .i64 1] w fun e w' => e = .returned (.string ⟨#[97, 114, 116, 105, 102, 97, 99, 116]⟩) ∧ w' = w := by
  go_enter Tryz.func41, Tryz.ntmps41
  go_wp2
  go_ret
  exact ⟨rfl, rfl⟩
theorem own_bel {w w' : World} {B : Nat} {e : TypeId} {z n : Nat} {v : Value} {xs : List Value} (h : w.ownsRow B e z v n xs) (hb : Below w.heap.size w w') : w'.ownsRow B e z v n xs := by
  obtain ⟨h1, h2 | ⟨g, cap, cur, hv, hB, hg, r⟩⟩ := h
  · exact ⟨h1, .inl h2⟩
  · exact ⟨h1, .inr ⟨g, cap, cur, hv, hB, (hb.block g (Array.getElem?_eq_some_iff.1 hg).1).trans hg, r⟩⟩
theorem below_grE {w w' : World} {row : Option Nat} {B : Nat} (hg : w.grownBy w' row) (hr : ∀ r, row = some r → B ≤ r) (hB : B ≤ w.heap.size) : Below B w w' := ⟨hg.os, hg.tape, hg.output, hg.size, fun k hk => hg.block k (by omega) (fun e => by have := hr k e.symm; omega)⟩
theorem one_p (nm tx : ByteArray) : ∀ u ∈ pC nm tx, u.oneCell' = true := by
  intro u hu
  simp only [pC, List.mem_cons, List.not_mem_nil, or_false] at hu
  rcases hu with rfl | rfl | rfl | rfl | rfl | rfl <;> rfl
theorem al_old {w : World} {k : Nat} {o : Obj} (hk : k < w.heap.size) : (w.alloc o).heap[k]? = w.heap[k]? := by
  show (w.heap.push o)[k]? = _
  rw [Array.getElem?_push, if_neg (by omega)]
set_option maxHeartbeats 4000000 in
set_option maxRecDepth 100000 in
theorem bod_1 {E : Array Value} {D : List Int} (h0 : E[0]? = some (.int .i64 1)) (hD : Byt D) (hDl : D.length = 32) (hd : (E.toList.drop 1).take 32 = u8C D) (w : World) :
    Calls Tryz.prog 28 #[.agg E] w fun e w' => ∃ v, e = .returned v ∧ w'.ownsRow w.heap.size 69 6 v 2 (pC ⟨#[107, 105, 110, 100]⟩ ⟨#[97, 114, 116, 105, 102, 97, 99, 116]⟩ ++ pC ⟨#[100, 105, 103, 101, 115, 116]⟩ (strOfNums (hexE D))) ∧ Below w.heap.size w w' := by
  have hb := heap_na w E 45
  have bb := below_na (w := w) (.cells E 45)
  obtain ⟨wb, hwb⟩ : ∃ wb, wb = w.alloc (.cells E 45) := ⟨_, rfl⟩
  rw [← hwb] at hb bb
  have c0 : wb.cell? ⟨w.heap.size, 0, none⟩ = some (.int .i64 1) := cell_of 0 hb h0
  have hq : w.heap.size < wb.heap.size := (Array.getElem?_eq_some_iff.1 hb).1
  have hK : ∀ wa, Below wb.heap.size wb wa → Bs wa (some ⟨w.heap.size, 1, none⟩) 32 D := fun wa hwa => by
    have hb' := (hwa.block _ hq).trans hb
    refine ⟨hDl, hD, fun _ => ⟨w.heap.size, 1, rfl, fun i hi => ?_⟩⟩
    have h9 : i < D.length := by omega
    exact rng_of 1 (u8C D) hb' (by rw [u8C_len, hDl]; exact hd) i _ (by simp [u8C, h9])
  obtain ⟨H, hH⟩ : ∃ H, H = strOfNums (hexE D) := ⟨_, rfl⟩
  rw [← hH]
  have kw := kw_1 wb
  have tp := tp_e ⟨#[107, 105, 110, 100]⟩ ⟨#[97, 114, 116, 105, 102, 97, 99, 116]⟩ wb
  replace hK := hide1 hK
  replace hb := hide1 hb
  replace bb := hide1 bb
  clear hd
  go_enter Tryz.func28, Tryz.ntmps28
  go_upto_region 1 with fail
  rw [← hwb]
  clear hwb
  go_wp2_with fail
  refine kw.mono ?_
  rintro e w1 ⟨rfl, rfl⟩
  go_wp2_with fail
  refine tp.mono ?_
  rintro e w2 ⟨rfl, b2⟩
  clear tp kw
  go_upto_region 2 with fail
  obtain ⟨w3, hw3⟩ : ∃ w3, w3 = w2.alloc (.cells #[.string ⟨#[107, 105, 110, 100]⟩, .int .i64 3, .int .i64 0, .string ⟨#[97, 114, 116, 105, 102, 97, 99, 116]⟩, .slice none 0 0, .slice none 0 0] 69) := ⟨_, rfl⟩
  rw [← hw3]
  have z2 := b2.size
  have z0 := bb.out.size
  have b3 : Below w1.heap.size w1 w3 := by rw [hw3]; exact b2.alloc (by omega) _
  have ho3 : w3.ownsRow w.heap.size 69 6 (.slice (some ⟨w2.heap.size, 0, none⟩) 1 1) 1 (pC ⟨#[107, 105, 110, 100]⟩ ⟨#[97, 114, 116, 105, 102, 97, 99, 116]⟩) := by
    rw [hw3]; exact World.ownsRow_lit w2 #[.string ⟨#[107, 105, 110, 100]⟩, .int .i64 3, .int .i64 0, .string ⟨#[97, 114, 116, 105, 102, 97, 99, 116]⟩, .slice none 0 0, .slice none 0 0] 1 (by omega) (by unfold maxLen; omega) rfl
  have hx3 : w2.heap.size < w3.heap.size := by rw [hw3]; simp
  have c0' : w3.cell? ⟨w.heap.size, 0, none⟩ = some (.int .i64 1) := cell_of 0 ((b3.block _ hq).trans hb.out) h0
  have hx := hex_d (some ⟨w.heap.size, 1, none⟩) 32 32 D w3 (hK.out w3 b3) (by omega)
  rw [← hH] at hx
  clear hH
  have b3w := hide1 (bb.out.trans (b3.mono bb.out.size))
  replace ho3 := hide1 ho3
  clear hw3 b2 b3 h0 hK hb bb c0
  go_upto_region 4 with fail
  go_wp2_with fail
  refine hx.mono ?_
  rintro e w4 ⟨rfl, b4⟩
  have b4w := hide1 (b3w.out.trans (b4.mono b3w.out.size))
  have ho4 := hide1 (own_bel ho3.out b4)
  have z4 := b4.size
  clear hx b3w ho3 b4
  have tp2 := tp_e ⟨#[100, 105, 103, 101, 115, 116]⟩ H w4
  go_wp2_with fail
  refine tp2.mono ?_
  rintro e w5 ⟨rfl, b5⟩
  clear tp2
  have z5 := b5.size
  obtain ⟨w6, hw6⟩ : ∃ w6, w6 = w5.alloc (.cells #[.string ⟨#[100, 105, 103, 101, 115, 116]⟩, .int .i64 3, .int .i64 0, .string H, .slice none 0 0, .slice none 0 0] 69) := ⟨_, rfl⟩
  have b6 : Below w4.heap.size w4 w6 := by rw [hw6]; exact b5.alloc (by omega) _
  have b6w := hide1 (b4w.out.trans (b6.mono b4w.out.size))
  have ho6 := hide1 (own_bel ho4.out b6)
  have hn6 : Hid (∀ j u, (pC ⟨#[100, 105, 103, 101, 115, 116]⟩ H)[j]? = some u → w6.cell? ((⟨w5.heap.size, 0, none⟩ : Addr).add j) = some u) := hide1 fun j u hj => by
    have hc : w6.heap[w5.heap.size]? = some (.cells #[.string ⟨#[100, 105, 103, 101, 115, 116]⟩, .int .i64 3, .int .i64 0, .string H, .slice none 0 0, .slice none 0 0] 69 (0, 0)) := by rw [hw6]; exact heap_na _ _ _
    rw [Addr.add_lit, Nat.zero_add]
    exact cell_of j hc (by simpa using hj)
  have z6 := hide1 b6w.out.size
  clear b5 b6 b4w ho4
  go_wp2_with (first | (rw [← hw6]; at_builtin; refine wpList_apP rfl (.tmp 13) (.tmp 18) rfl w.heap.size _ 1 _ rfl ho6.out ⟨w5.heap.size, 0, none⟩ 1 1 (pC ⟨#[100, 105, 103, 101, 115, 116]⟩ H) rfl rfl hn6.out (one_p _ _) (by omega) z6.out ?_; intro v7 w7 ho7 hg7; refine stopAtE ?_) | fail)
  have b7 := hide1 (b6w.out.trans (below_grE hg7 (fun r hr => by have e9 : w2.heap.size = r := Option.some.inj hr; omega) z6.out))
  replace ho7 := hide1 ho7
  clear hg7 hn6 ho6 hw6 b6w
  refine hide1 ?_
  go_wp2
  go_ret
  exact ⟨v7, rfl, ho7.out, b7.out⟩
theorem rwa_own {w : World} {B n z : Nat} {e : TypeId} {v : Value} {cs : List (List Value)} (h : w.ownsRow B e z v n cs.flatten) (hl : ∀ c ∈ cs, c.length = z) (hn : cs.length = n) : RwA (B ≤ ·) w e z v cs := by
  refine ⟨hl, ?_⟩
  obtain ⟨_, ⟨rfl, h2⟩ | ⟨g, cap, cur, rfl, hB, hg, h3, _, h5, h6⟩⟩ := h
  · exact .inl ⟨none, 0, rfl, List.length_eq_zero_iff.1 (hn.trans h2)⟩
  · refine .inr ⟨g, 0, cap, cur, (e, (0, 0)), by rw [hn], hB, hg, ?_, ?_⟩
    · rw [h5, hn, Nat.zero_add]; exact Nat.mul_le_mul_right _ h3
    · rw [List.drop_zero, hn]; exact h6
theorem va_obj {F : Nat → Prop} {w : World} {v : Value} {p : List (List UInt8 × T)} {cs : List (List Value)} (h : RwA F w 69 6 v cs) (hl : cs.length = p.length)
    (hn : ∀ (j : Nat) (q : List UInt8 × T) (c : List Value), p[j]? = some q → cs[j]? = some c → c.head? = some (Value.string (st q.1)))
    (hv : ∀ (j : Nat) (q : List UInt8 × T) (c : List Value), p[j]? = some q → cs[j]? = some c → VA F w q.2 c.tail) : VA F w (.mk 5 0 [] [] p) [.int .i64 5, .int .i64 0, .string ⟨#[]⟩, .slice none 0 0, v] :=
  VA.mk (s := []) (cl := []) (cp := cs) .nil h rfl hl (by simp) hn hv
set_option maxHeartbeats 1000000 in
set_option maxRecDepth 100000 in
theorem obj_e {h : Nat} {F : Nat → Prop} {w : World} {p : List (List UInt8 × T)} {a : Option Addr} {n cap : Nat} (hh : hgt h (.mk 5 0 [] [] p)) (hg : gd 8 (.mk 5 0 [] [] p) = true) (hv : VA F w (.mk 5 0 [] [] p) [.int .i64 5, .int .i64 0, .string ⟨#[]⟩, .slice none 0 0, .slice a n cap]) :
    Calls Tryz.prog 27 #[.slice a n cap] w (AnC w (so 8 (.mk 5 0 [] [] p))) := by
  obtain ⟨wb, hwb⟩ : ∃ wb, wb = w.alloc (.cells #[.int .i64 0, .int .i64 0, .string ⟨#[]⟩, .slice none 0 0, .slice none 0 0] 55) := ⟨_, rfl⟩
  have hb : Below w.heap.size w wb := by rw [hwb]; exact below_na _
  have hr : wb.heap[w.heap.size]? = some (.cells #[.int .i64 0, .int .i64 0, .string ⟨#[]⟩, .slice none 0 0, .slice none 0 0] 55 (0, 0)) := by rw [hwb]; exact heap_na _ _ _
  have hc := srt_d hh hg (hv.frame (w' := wb) (G := fun _ => True) (fun k _ hk => hb.block k hk) (fun _ _ _ => trivial))
  replace hc : Calls Tryz.prog 32 #[.agg #[.int .i64 5, .int .i64 0, .string ⟨#[]⟩, .slice none 0 0, .slice a n cap]] wb _ := hc
  have hsz : w.heap.size < wb.heap.size := (Array.getElem?_eq_some_iff.1 hr).1
  obtain ⟨t, ht⟩ : ∃ t, t = so 8 (.mk 5 0 [] [] p) := ⟨_, rfl⟩
  rw [← ht] at hc ⊢
  clear hv hg hh ht
  replace hr := hide1 hr
  replace hb := hide1 hb
  go_enter Tryz.func27, Tryz.ntmps27
  go_upto_region 1 with fail
  rw [← hwb]
  clear hwb
  go_wp2_with fail
  refine hc.mono ?_
  rintro e w1 ⟨c1, rfl, h5, b1, hv1⟩
  have hr1 := (b1.block _ hsz).trans hr.out
  have hb1 := hb.out.trans (b1.mono hb.out.size)
  have h1c := hv1.one
  obtain ⟨y0, y1, y2, y3, y4, hce⟩ := five_l (l := c1.toList) (by simpa using h5)
  obtain rfl : c1 = #[y0, y1, y2, y3, y4] := by cases c1; simp at hce; simp [hce]
  have hz := hide1 (setRow_heap w1 w.heap.size _ #[y0, y1, y2, y3, y4] _ _ hr1)
  have ha : Hid (AnC w t (.returned (.agg #[y0, y1, y2, y3, y4])) (w1.setRow w.heap.size #[y0, y1, y2, y3, y4])) := hide1 ⟨_, rfl, rfl, blw_own hb1 (Nat.le_refl _) _, VA.frame (c := [y0, y1, y2, y3, y4]) hv1 (fun k hk _ => setRow_other w1 _ k _ (by have h1 : wb.heap.size ≤ k := hk; omega)) (fun k hk _ => by have h1 : wb.heap.size ≤ k := hk; show w.heap.size ≤ k; omega)⟩
  clear hc hv1 hb1 hr hb b1 hce h5
  go_wp2_with (refine wpList_store_row rfl Vt (.tmp 2) (.tmp 5) rfl w.heap.size #[y0, y1, y2, y3, y4] rfl rfl Vt _ hr1 (by kernel_rfl) rfl (by simpa using h1c) ?_)
  exact bodyPost_ret (results_g rfl _ rfl (lv_V rfl hz.out)) rfl ha.out
abbrev tx (s : List UInt8) : T := .mk 3 0 s [] []
def b64z : List UInt8 := List.replicate 86 65 ++ [61, 61]
def hexz : List UInt8 := List.replicate 64 48
def byT : T := .mk 5 0 [] [] [([98, 121], tx [97, 108, 105, 99, 101]), ([115, 105, 103], tx b64z)]
def sgT : T := .mk 4 0 [] [byT] []
def enT : T := .mk 5 0 [] [] [([107, 105, 110, 100], tx [97, 114, 116, 105, 102, 97, 99, 116]), ([100, 105, 103, 101, 115, 116], tx hexz), ([115, 105, 103, 115], sgT)]
def arT : T := .mk 5 0 [] [] [([100, 105, 103, 101, 115, 116], tx hexz), ([107, 105, 110, 100], tx [97, 114, 116, 105, 102, 97, 99, 116]), ([115, 105, 103, 115], sgT)]
theorem so_by : so 8 byT = byT := by kernel_rfl
theorem so_en : so 8 enT = arT := by kernel_rfl
theorem gd_by : gd 8 byT = true := by kernel_rfl
theorem gd_en : gd 8 enT = true := by kernel_rfl
theorem gd_ar : gd 8 arT = true := by kernel_rfl
theorem st_b64z : strOfNums (b64E (zL 64)) = st b64z := by kernel_rfl
theorem st_hexz : strOfNums (hexE (zL 32)) = st hexz := by kernel_rfl
theorem hg_tx (n : Nat) (s : List UInt8) : hgt (n + 1) (tx s) := ⟨by simp, by simp, fun t ht => by simp at ht, fun q hq => by simp at hq⟩
theorem hg_by : hgt 2 byT := ⟨by simp, by simp, fun t ht => by simp at ht, fun q hq => by
  simp only [List.mem_cons, List.not_mem_nil, or_false] at hq
  rcases hq with rfl | rfl <;> exact hg_tx _ _⟩
theorem hg_sg : hgt 3 sgT := ⟨by simp, by simp, fun t ht => by
  simp only [List.mem_cons, List.not_mem_nil, or_false] at ht
  rw [ht]; exact hg_by, fun q hq => by simp at hq⟩
theorem hg_tx4 (s : List UInt8) : hgt 3 (tx s) := hg_tx 2 s
theorem hg_en : hgt 4 enT := ⟨by simp, by simp, fun t ht => by simp at ht, fun q hq => by
  simp only [List.mem_cons, List.not_mem_nil, or_false] at hq
  rcases hq with rfl | rfl | rfl
  · exact hg_tx4 _
  · exact hg_tx4 _
  · exact hg_sg⟩
theorem hg_ar : hgt 4 arT := ⟨by simp, by simp, fun t ht => by simp at ht, fun q hq => by
  simp only [List.mem_cons, List.not_mem_nil, or_false] at hq
  rcases hq with rfl | rfl | rfl
  · exact hg_tx4 _
  · exact hg_tx4 _
  · exact hg_sg⟩
theorem prs_ar : prsV (ct arT) = some arT := by kernel_rfl
theorem ct_ar : (ct arT).length ≤ 4096 := of_decide_eq_true (by kernel_rfl)
theorem sb_tx (n : Nat) (s : List UInt8) (h : s.length ≤ 9223372036854775807) : sbd (n + 1) (tx s) := ⟨h, fun t ht => by simp at ht, fun q hq => by simp at hq⟩
theorem sb_ar : sbd 4 arT := ⟨by simp, fun t ht => by simp at ht, fun q hq => by
  simp only [List.mem_cons, List.not_mem_nil, or_false] at hq
  rcases hq with rfl | rfl | rfl
  · exact ⟨by simp, sb_tx _ _ (by simp [hexz])⟩
  · exact ⟨by simp, sb_tx _ _ (by simp)⟩
  · refine ⟨by simp, by simp, fun t ht => ?_, fun q hq => by simp at hq⟩
    simp only [List.mem_cons, List.not_mem_nil, or_false] at ht
    subst ht
    refine ⟨by simp, fun t ht => by simp at ht, fun q hq => ?_⟩
    simp only [List.mem_cons, List.not_mem_nil, or_false] at hq
    rcases hq with rfl | rfl
    · exact ⟨by simp, sb_tx _ _ (by simp)⟩
    · exact ⟨by simp, sb_tx _ _ (by simp [b64z])⟩⟩
theorem tlwE_end {l : List Oper} {Q : Exit → Act → World → Prop} {a : Act} {w : World} (h : Q .normal a w) : tlw Tryz.prog l Q [] a w := h
theorem bs_P2 {x0 x1 x2 x3 x4 x5 y0 y1 y2 y3 y4 y5 : Value} (w : World) : (Instr.buildSlice 53 2 #[(0, .agg #[x0, x1, x2, x3, x4, x5]), (1, .agg #[y0, y1, y2, y3, y4, y5])]).run Tryz.prog w = .ok (.slice (some ⟨w.heap.size, 0, none⟩) 2 2) (w.alloc (.cells #[x0, x1, x2, x3, x4, x5, y0, y1, y2, y3, y4, y5] 69)) := by kernel_rfl
theorem bs_V5 {c : Array Value} (hc : c.size = 5) (w : World) : (Instr.buildSlice 52 1 #[(0, .agg c)]).run Tryz.prog w = .ok (.slice (some ⟨w.heap.size, 0, none⟩) 1 1) (w.alloc (.cells c 55)) := by
  obtain ⟨y0, y1, y2, y3, y4, hce⟩ := five_l (l := c.toList) (by simpa using hc)
  obtain rfl : c = #[y0, y1, y2, y3, y4] := by cases c; simp at hce; simp [hce]
  kernel_rfl
theorem own_slc {w : World} {B n z : Nat} {e : TypeId} {v : Value} {xs : List Value} (h : w.ownsRow B e z v n xs) : ∃ a c, v = .slice a n c := by
  obtain ⟨_, ⟨rfl, rfl⟩ | ⟨g, cap, cur, rfl, _⟩⟩ := h
  · exact ⟨_, _, rfl⟩
  · exact ⟨_, _, rfl⟩
theorem sgn_a (w : World) : Calls Tryz.prog 7 #[.agg (sgC alc).toArray] w fun e w' => e = .returned (.string (strOfNums alc)) ∧ Below w.heap.size w w' :=
  signer_g (s := alc) (K := zL 32) (b := zL 64) ⟨by unfold Byt alc; decide, by unfold Byt; decide, by unfold Byt; decide, by decide, rfl, rfl⟩ w
theorem byt_z (n : Nat) : Byt (zL n) := fun z hz => by have := List.eq_of_mem_replicate hz; omega
theorem bs_sg {w : World} {g : Nat} {s : List Int} (h : Sg1 w g s) : Bs w (some ⟨g, 33, none⟩) 64 (zL 64) := by
  refine ⟨rfl, byt_z _, fun _ => ⟨g, 33, rfl, fun i hi => ?_⟩⟩
  have h9 : (sgC s)[33 + i]? = some (.int .u8 ((zL 64).getD i 0)) := by
    have e : (sgC s).drop 33 = (zL 64).map (Value.int .u8) := rfl
    have h8 : i < (zL 64).length := hi
    rw [← List.getElem?_drop, e]
    simp [h8]
  have := h (33 + i) _ h9
  rwa [Nat.zero_add] at this
theorem app_1V {W1 : World} {B nb : Nat} {c : Array Value} (tr : TypeId) (hB : B ≤ W1.heap.size) (h5 : c.size = 5) (h1 : c.toList.all (·.oneCell') = true) (hnb : W1.heap[nb]? = some (.cells c 55 (0, 0))) :
    ∃ v' W', (Builtin.append_ #[52, 52] tr #[.slice none 0 0, .slice (some ⟨nb, 0, none⟩) 1 1]).run Tryz.prog W1 = .ok v' W' ∧ W1.grownBy W' none ∧ W'.ownsRow B 55 5 v' 1 c.toList := by
  obtain ⟨i0, hi, hz0, hz1, hz2⟩ := info_parts (show (Tryz.prog.info? 55).map (fun i => (i.zero, i.size, i.bytes)) = some (some (.agg #[.int .i64 0, .int .i64 0, .string ⟨#[]⟩, .slice none 0 0, .slice none 0 0]), 5, 80) by kernel_rfl)
  have hnews : ∀ j u, c.toList[j]? = some u → W1.cell? ((⟨nb, 0, none⟩ : Addr).add j) = some u := by
    intro j u hj
    rw [Addr.add_lit, Nat.zero_add]
    simp only [World.cell?, hnb]
    simpa using hj
  obtain ⟨v', W', hr, g4, g5, -, g6⟩ := run_append_own_at (P := Tryz.prog) W1 B 52 tr 55 i0 _ 5 80 Tryz.underlying52 hi hz0 hz1 hz2 rfl (by decide) (.slice none 0 0) 0 [] ⟨rfl, .inl ⟨rfl, rfl⟩⟩ ⟨nb, 0, none⟩ 1 1 c.toList (by simpa using h5) hnews
    (fun u hu => List.all_eq_true.1 h1 u hu) (by unfold maxLen; omega) (by omega) hB
  exact ⟨v', W', hr, g5, by simpa using g4⟩
theorem obj_by {w : World} {g : Nat} (h : w.heap[g]? = some (.cells #[.string ⟨#[98, 121]⟩, .int .i64 3, .int .i64 0, .string (strOfNums alc), .slice none 0 0, .slice none 0 0, .string ⟨#[115, 105, 103]⟩, .int .i64 3, .int .i64 0, .string (strOfNums (b64E (zL 64))), .slice none 0 0, .slice none 0 0] 69 (0, 0))) : Calls Tryz.prog 27 #[.slice (some ⟨g, 0, none⟩) 2 2] w (AnC w byT) := by
  have := obj_e (F := fun _ => True) (w := w) (a := some ⟨g, 0, none⟩) (n := 2) (cap := 2) hg_by gd_by (va_obj (cs := [pC ⟨#[98, 121]⟩ (strOfNums alc), pC ⟨#[115, 105, 103]⟩ (strOfNums (b64E (zL 64)))])
    ⟨by simp, .inr ⟨g, 0, 2, _, (_, (0, 0)), rfl, trivial, h, by simp, by simp⟩⟩ rfl (fun j q c h1 h2 => by
      match j with
      | 0 => cases h1; cases h2; rfl
      | 1 => cases h1; cases h2; rfl
      | j + 2 => simp at h1) (fun j q c h1 h2 => by
      match j with
      | 0 => cases h1; cases h2; exact VA.leaf 3 0 _
      | 1 => cases h1; cases h2; rw [st_b64z]; exact VA.leaf 3 0 _
      | j + 2 => simp at h1))
  rw [show T.mk 5 0 [] [] _ = byT from rfl, so_by] at this
  exact this
theorem va_sg {F : Nat → Prop} {w : World} {v : Value} {c : List Value} (h : RwA F w 55 5 v [c]) (hv : VA F w byT c) : VA F w sgT [.int .i64 4, .int .i64 0, .string ⟨#[]⟩, v, .slice none 0 0] :=
  VA.mk (s := []) (cl := [c]) (cp := []) h .nil rfl rfl (fun j t c h1 h2 => by
    match j with
    | 0 => cases h1; cases h2; exact hv
    | j + 1 => simp at h1) (by simp) (by simp)
set_option maxHeartbeats 8000000 in
set_option maxRecDepth 100000 in
theorem sv_1 {g c : Nat} {w : World} (h : Sg1 w g alc) : Calls Tryz.prog 29 #[.slice (some ⟨g, 0, none⟩) 1 c] w (AnC w sgT) := by
  have ha := heap_na (w.alloc (.cells #[.int .i64 0, .int .i64 0, .string ⟨#[]⟩, .slice none 0 0, .slice none 0 0] 55)) #[.int .i64 0, .int .i64 0, .string ⟨#[]⟩, .slice none 0 0, .slice none 0 0] 55
  rw [show (w.alloc (.cells #[.int .i64 0, .int .i64 0, .string ⟨#[]⟩, .slice none 0 0, .slice none 0 0] 55)).heap.size = w.heap.size + 1 by simp] at ha
  obtain ⟨w1, hw1⟩ : ∃ w1, w1 = ((w.alloc (.cells #[.int .i64 0, .int .i64 0, .string ⟨#[]⟩, .slice none 0 0, .slice none 0 0] 55)).alloc (.cells #[.int .i64 0, .int .i64 0, .string ⟨#[]⟩, .slice none 0 0, .slice none 0 0] 55)).setRow (w.heap.size + 1) #[.int .i64 4, .int .i64 0, .string ⟨#[]⟩, .slice none 0 0, .slice none 0 0] := ⟨_, rfl⟩
  have b1 : Below w.heap.size w w1 := by rw [hw1]; exact blw_own ((below_na _).alloc (by simp) _) (by omega) _
  have s1 : w1.heap.size = w.heap.size + 2 := by rw [hw1]; simp [World.setRow]
  have h3 : w1.heap[w.heap.size + 1]? = some (.cells #[.int .i64 4, .int .i64 0, .string ⟨#[]⟩, .slice none 0 0, .slice none 0 0] 55 (0, 0)) := by rw [hw1]; exact setRow_heap _ _ _ _ _ _ ha
  have h2 : w1.heap[w.heap.size]? = some (.cells #[.int .i64 0, .int .i64 0, .string ⟨#[]⟩, .slice none 0 0, .slice none 0 0] 55 (0, 0)) := by
    rw [hw1]
    exact (setRow_other _ _ _ _ (by omega)).trans ((al_old (by simp)).trans (heap_na _ _ _))
  have hs1 := h.below b1
  have r0 := hide1 hs1
  have ha2 := heap_na w1 Tryz.zeroCells32 32
  have hone : (sgC alc).toArray.all (·.oneCell') = true := by kernel_rfl
  replace b1 := hide1 b1
  replace h3 := hide1 h3
  replace h2 := hide1 h2
  replace s1 := hide1 s1
  go_enter Tryz.func29, Tryz.ntmps29
  go_upto_region 2 with (first | (refine wpList_store_row rfl 55 (.tmp 3) (.tmp 6) rfl (w.heap.size + 1) #[.int .i64 4, .int .i64 0, .string ⟨#[]⟩, .slice none 0 0, .slice none 0 0] rfl rfl 55 _ ha (by kernel_rfl) (by kernel_rfl) (by kernel_rfl) ?_) | fail)
  rw [← hw1]
  clear hw1 ha
  go_wp2_with fail
  refine wp_loop_rounds 2 ?_
  rw [rounds_succ]
  go_upto_region 5 with (first
    | (refine load_w rfl 32 (.tmp 11) rfl g 0 rfl (sgC alc) _ r0.out Tryz.underlying32 rfl (by kernel_rfl) ?_)
    | (refine wpList_store_row rfl 32 (.tmp 5) (.tmp 12) rfl w1.heap.size (sgC alc).toArray rfl rfl 32 _ ha2 (by kernel_rfl) (by kernel_rfl) hone ?_)
    | fail)
  obtain ⟨w4, hw4⟩ : ∃ w4, w4 = (w1.alloc (.cells Tryz.zeroCells32 32)).setRow w1.heap.size (sgC alc).toArray := ⟨_, rfl⟩
  rw [← hw4]
  simp only [Act.put]
  have hx : Sg1 w4 w1.heap.size alc := .of (by rw [hw4]; exact setRow_heap _ _ _ _ _ _ ha2)
  have b4 : Below w1.heap.size w1 w4 := by rw [hw4]; exact blw_own (below_na _) (Nat.le_refl _) _
  have bw := hide1 (b1.out.trans (b4.mono b1.out.size))
  have hww := hide1 bw.out.size
  have h3l : Hid (w.heap.size + 1 < w4.heap.size) := hide1 (by have := b4.size; have := s1.out; omega)
  have h3r := hide1 ((b4.block _ (by have := s1.out; omega)).trans h3.out)
  have h2r := hide1 ((b4.block _ (by have := s1.out; omega)).trans h2.out)
  have h3c : Hid (∀ wa, Below w4.heap.size w4 wa → wa.cell? ⟨w.heap.size + 1, 3, none⟩ = some (.slice none 0 0)) := hide1 fun wa hwa => cell_of 3 ((hwa.block _ h3l.out).trans h3r.out) rfl
  replace hx := hide1 hx
  clear hw4 ha2 r0 h hs1 b4 b1 h2 h3
  refine wp_flowT 12 _ _ (by kernel_rfl) (by kernel_rfl) (by kernel_rfl) (by decide) (fun j v_ w_ => if j = 9 then (fun v w2 => ∃ g, v = .slice (some ⟨g, 0, none⟩) 2 2 ∧ w2.heap[g]? = some (.cells #[.string ⟨#[98, 121]⟩, .int .i64 3, .int .i64 0, .string (strOfNums alc), .slice none 0 0, .slice none 0 0, .string ⟨#[115, 105, 103]⟩, .int .i64 3, .int .i64 0, .string (strOfNums (b64E (zL 64))), .slice none 0 0, .slice none 0 0] 69 (0, 0))) v_ w_ else if j = 10 then (fun v w2 => ∃ c : Array Value, v = .agg c ∧ c.size = 5 ∧ VA (w4.heap.size ≤ ·) w2 byT c.toList) v_ w_ else if j = 11 then (fun v w2 => ∃ (c : Array Value) (nb : Nat), v = .slice (some ⟨nb, 0, none⟩) 1 1 ∧ c.size = 5 ∧ w2.heap[nb]? = some (.cells c 55 (0, 0)) ∧ VA (w4.heap.size ≤ ·) w2 byT c.toList) v_ w_ else v_ = ([(.pointer (some ⟨w.heap.size + 1, 3, none⟩)), (.slice none 0 0), (.agg (sgC alc).toArray), (.string (strOfNums alc)), (.agg #[.string ⟨#[98, 121]⟩, .int .i64 3, .int .i64 0, .string (strOfNums alc), .slice none 0 0, .slice none 0 0]), (.pointer (some ⟨w1.heap.size, 33, none⟩)), (.slice (some ⟨w1.heap.size, 33, none⟩) 64 64), (.string (strOfNums (b64E (zL 64)))), (.agg #[.string ⟨#[115, 105, 103]⟩, .int .i64 3, .int .i64 0, .string (strOfNums (b64E (zL 64))), .slice none 0 0, .slice none 0 0]), undef, undef, undef, undef, undef, undef] : List Value).getD j undef) (fun j v w w' h hb => by
        by_cases e9 : j = 9
        · subst e9; exact by obtain ⟨g, e, hn⟩ := h; exact ⟨g, e, (hb.block _ (Array.getElem?_eq_some_iff.1 hn).1).trans hn⟩
        by_cases e10 : j = 10
        · subst e10; exact by obtain ⟨c, e, h5, hx⟩ := h; exact ⟨c, e, h5, hx.frame (fun k _ hs => hb.block k hs) (fun _ h _ => h)⟩
        by_cases e11 : j = 11
        · subst e11; exact by obtain ⟨c, nb, e, h5, hn, hx⟩ := h; exact ⟨c, nb, e, h5, (hb.block _ (Array.getElem?_eq_some_iff.1 hn).1).trans hn, hx.frame (fun k _ hs => hb.block k hs) (fun _ h _ => h)⟩
        · simp only [if_neg e9, if_neg e10, if_neg e11] at h ⊢; exact h
        ) ?_ ?_
  · intro j op hop hj a wa hwa hsz hsl hdep K hK
    match j, hop, hj with
    | 0, hop, _ =>
      obtain rfl := Option.some.inj hop
      have p3 : a.tmps.getD 3 undef = (.pointer (some ⟨w.heap.size + 1, 0, none⟩)) := hsl 3 rfl
      exact .plain rfl (wp_val (w' := wa) (v := (.pointer (some ⟨w.heap.size + 1, 3, none⟩))) (by simp only [execOp, Act.eval]; rw [show a.tmps.getD 3 undef = _ from p3]; kernel_rfl) (hK _ _ (Below.refl _ _) rfl))
    | 1, hop, _ =>
      obtain rfl := Option.some.inj hop
      have t0 : a.tmps.getD 13 undef = (.pointer (some ⟨w.heap.size + 1, 3, none⟩)) := hdep 0 _ 13 rfl rfl ⟨⟨0, .data⟩, by simp, rfl, rfl⟩
      exact .plain rfl (wp_val (w' := wa) (v := (.slice none 0 0)) (by simp only [execOp, Act.eval]; rw [show a.tmps.getD 13 undef = _ from t0]; simp only [Sem.run_bind, ld_sV (h3c.out wa hwa), Result.andThen_ok, Sem.run_pure]) (hK _ _ (Below.refl _ _) rfl))
    | 2, hop, _ =>
      obtain rfl := Option.some.inj hop
      have p5 : a.tmps.getD 5 undef = (.pointer (some ⟨w1.heap.size, 0, none⟩)) := hsl 5 rfl
      exact .plain rfl (wp_val (w' := wa) (v := (.agg (sgC alc).toArray)) (by simp only [execOp, Act.eval]; rw [show a.tmps.getD 5 undef = _ from p5]; simp only [Sem.run_bind, ldSg (hx.out.below hwa), Result.andThen_ok, Sem.run_pure]) (hK _ _ (Below.refl _ _) rfl))
    | 3, hop, _ =>
      obtain rfl := Option.some.inj hop
      have t2 : a.tmps.getD 15 undef = (.agg (sgC alc).toArray) := hdep 2 _ 15 rfl rfl ⟨⟨2, .data⟩, by simp, rfl, rfl⟩
      refine .plain rfl (oper_any (J := fun r w' => r = (.string (strOfNums alc)) ∧ Below wa.heap.size wa w') 7 #[.tmp 15] _ rfl #[(.agg (sgC alc).toArray)] (by simp only [List.map_toArray, List.map_cons, List.map_nil, Act.eval]; rw [show a.tmps.getD 15 undef = _ from t2]) (fun w => by kernel_rfl) ((sgn_a wa).mono fun e w' h => ⟨_, h.1, rfl, h.2⟩) ?_)
      rintro r w' ⟨rfl, hb⟩
      exact hK _ _ hb rfl
    | 4, hop, _ =>
      obtain rfl := Option.some.inj hop
      have t3 : a.tmps.getD 16 undef = (.string (strOfNums alc)) := hdep 3 _ 16 rfl rfl ⟨⟨3, .data⟩, by simp, rfl, rfl⟩
      refine .plain rfl (oper_any (J := fun r w' => r = (.agg #[.string ⟨#[98, 121]⟩, .int .i64 3, .int .i64 0, .string (strOfNums alc), .slice none 0 0, .slice none 0 0]) ∧ Below wa.heap.size wa w') 40 #[.const ((.string ⟨#[98, 121]⟩)), .tmp 16] _ rfl #[(.string ⟨#[98, 121]⟩), (.string (strOfNums alc))] (by simp only [List.map_toArray, List.map_cons, List.map_nil, Act.eval]; rw [show a.tmps.getD 16 undef = _ from t3]) (fun w => by kernel_rfl) ((tp_e _ _ wa).mono fun e w' h => ⟨_, h.1, rfl, h.2⟩) ?_)
      rintro r w' ⟨rfl, hb⟩
      exact hK _ _ hb rfl
    | 5, hop, _ =>
      obtain rfl := Option.some.inj hop
      have p5 : a.tmps.getD 5 undef = (.pointer (some ⟨w1.heap.size, 0, none⟩)) := hsl 5 rfl
      exact .plain rfl (wp_val (w' := wa) (v := (.pointer (some ⟨w1.heap.size, 33, none⟩))) (by simp only [execOp, Act.eval]; rw [show a.tmps.getD 5 undef = _ from p5]; kernel_rfl) (hK _ _ (Below.refl _ _) rfl))
    | 6, hop, _ =>
      obtain rfl := Option.some.inj hop
      have t5 : a.tmps.getD 18 undef = (.pointer (some ⟨w1.heap.size, 33, none⟩)) := hdep 5 _ 18 rfl rfl ⟨⟨5, .data⟩, by simp, rfl, rfl⟩
      exact .plain rfl (wp_val (w' := wa) (v := (.slice (some ⟨w1.heap.size, 33, none⟩) 64 64)) (by simp only [execOp, Act.eval]; rw [show a.tmps.getD 18 undef = _ from t5]; kernel_rfl) (hK _ _ (Below.refl _ _) rfl))
    | 7, hop, _ =>
      obtain rfl := Option.some.inj hop
      have t6 : a.tmps.getD 19 undef = (.slice (some ⟨w1.heap.size, 33, none⟩) 64 64) := hdep 6 _ 19 rfl rfl ⟨⟨6, .data⟩, by simp, rfl, rfl⟩
      refine .plain rfl (oper_any (J := fun r w' => r = (.string (strOfNums (b64E (zL 64)))) ∧ Below wa.heap.size wa w') 42 #[.tmp 19] _ rfl #[(.slice (some ⟨w1.heap.size, 33, none⟩) 64 64)] (by simp only [List.map_toArray, List.map_cons, List.map_nil, Act.eval]; rw [show a.tmps.getD 19 undef = _ from t6]) (fun w => by kernel_rfl) ((base64_d (some ⟨w1.heap.size, 33, none⟩) 64 64 (zL 64) wa (bs_sg (hx.out.below hwa)) (by omega)).mono fun e w' h => ⟨_, h.1, rfl, h.2⟩) ?_)
      rintro r w' ⟨rfl, hb⟩
      exact hK _ _ hb rfl
    | 8, hop, _ =>
      obtain rfl := Option.some.inj hop
      have t7 : a.tmps.getD 20 undef = (.string (strOfNums (b64E (zL 64)))) := hdep 7 _ 20 rfl rfl ⟨⟨7, .data⟩, by simp, rfl, rfl⟩
      refine .plain rfl (oper_any (J := fun r w' => r = (.agg #[.string ⟨#[115, 105, 103]⟩, .int .i64 3, .int .i64 0, .string (strOfNums (b64E (zL 64))), .slice none 0 0, .slice none 0 0]) ∧ Below wa.heap.size wa w') 40 #[.const ((.string ⟨#[115, 105, 103]⟩)), .tmp 20] _ rfl #[(.string ⟨#[115, 105, 103]⟩), (.string (strOfNums (b64E (zL 64))))] (by simp only [List.map_toArray, List.map_cons, List.map_nil, Act.eval]; rw [show a.tmps.getD 20 undef = _ from t7]) (fun w => by kernel_rfl) ((tp_e _ _ wa).mono fun e w' h => ⟨_, h.1, rfl, h.2⟩) ?_)
      rintro r w' ⟨rfl, hb⟩
      exact hK _ _ hb rfl
    | 9, hop, _ =>
      obtain rfl := Option.some.inj hop
      have t4 : a.tmps.getD 17 undef = (.agg #[.string ⟨#[98, 121]⟩, .int .i64 3, .int .i64 0, .string (strOfNums alc), .slice none 0 0, .slice none 0 0]) := hdep 4 _ 17 rfl rfl ⟨⟨4, .data⟩, by simp, rfl, rfl⟩
      have t8 : a.tmps.getD 21 undef = (.agg #[.string ⟨#[115, 105, 103]⟩, .int .i64 3, .int .i64 0, .string (strOfNums (b64E (zL 64))), .slice none 0 0, .slice none 0 0]) := hdep 8 _ 21 rfl rfl ⟨⟨8, .data⟩, by simp, rfl, rfl⟩
      exact .plain rfl (wp_val (w' := wa.alloc (.cells #[.string ⟨#[98, 121]⟩, .int .i64 3, .int .i64 0, .string (strOfNums alc), .slice none 0 0, .slice none 0 0, .string ⟨#[115, 105, 103]⟩, .int .i64 3, .int .i64 0, .string (strOfNums (b64E (zL 64))), .slice none 0 0, .slice none 0 0] 69)) (v := .slice (some ⟨wa.heap.size, 0, none⟩) 2 2) (by simp only [execOp, Act.eval, List.map_toArray, List.map_cons, List.map_nil]; rw [show a.tmps.getD 17 undef = _ from t4, show a.tmps.getD 21 undef = _ from t8]; simp only [Sem.run_bind, bs_P2, Result.andThen_ok, Sem.run_pure]) (hK _ _ (below_al _) ⟨wa.heap.size, rfl, new_at _ _ _⟩))
    | 10, hop, _ =>
      obtain rfl := Option.some.inj hop
      have t9 : (fun v w2 => ∃ g, v = .slice (some ⟨g, 0, none⟩) 2 2 ∧ w2.heap[g]? = some (.cells #[.string ⟨#[98, 121]⟩, .int .i64 3, .int .i64 0, .string (strOfNums alc), .slice none 0 0, .slice none 0 0, .string ⟨#[115, 105, 103]⟩, .int .i64 3, .int .i64 0, .string (strOfNums (b64E (zL 64))), .slice none 0 0, .slice none 0 0] 69 (0, 0))) (a.tmps.getD 22 undef) wa := hdep 9 _ 22 rfl rfl ⟨⟨9, .data⟩, by simp, rfl, rfl⟩
      refine .plain rfl (oper_any (J := fun r w' => (fun v w2 => ∃ c : Array Value, v = .agg c ∧ c.size = 5 ∧ VA (w4.heap.size ≤ ·) w2 byT c.toList) r w' ∧ Below wa.heap.size wa w') 27 #[.tmp 22] _ rfl #[a.tmps.getD 22 undef] (by first | (simp only [List.map_toArray, List.map_cons, List.map_nil, Act.eval]; done) | (simp only [List.map_toArray, List.map_cons, List.map_nil, Act.eval]; rfl)) (fun w => by kernel_rfl) (by obtain ⟨g, ev, hn⟩ := t9; rw [ev]; exact (obj_by hn).mono fun e w' h => by obtain ⟨c, rfl, h5, hb, hx⟩ := h; exact ⟨_, rfl, ⟨c, rfl, h5, hx.frame (fun _ _ _ => rfl) (fun k hk _ => Nat.le_trans hwa.size hk)⟩, hb⟩) ?_)
      rintro r w' ⟨hr, hb⟩
      exact hK _ _ hb hr
    | 11, hop, _ =>
      obtain rfl := Option.some.inj hop
      have t10 : (fun v w2 => ∃ c : Array Value, v = .agg c ∧ c.size = 5 ∧ VA (w4.heap.size ≤ ·) w2 byT c.toList) (a.tmps.getD 23 undef) wa := hdep 10 _ 23 rfl rfl ⟨⟨10, .data⟩, by simp, rfl, rfl⟩
      obtain ⟨c, ev, h5, hx⟩ := t10
      exact .plain rfl (wp_val (w' := wa.alloc (.cells c 55)) (v := .slice (some ⟨wa.heap.size, 0, none⟩) 1 1) (by simp only [execOp, Act.eval, List.map_toArray, List.map_cons, List.map_nil]; rw [show a.tmps.getD 23 undef = _ from ev]; simp only [Sem.run_bind, bs_V5 h5, Result.andThen_ok, Sem.run_pure]) (hK _ _ (below_al _) ⟨c, _, rfl, h5, new_at wa _ _, hx.frame (fun k _ hs => (below_al (w := wa) (.cells c 55)).block k hs) (fun _ h _ => h)⟩))
    | j + 12, _, hj => exact absurd hj (by omega)
  · intro a wa hwa hdf hsz hsl hrr
    have kv14 : a.tmps.getD 14 undef = (.slice none 0 0) := hrr 1 _ 14 rfl (by decide) rfl
    have kr24 : (fun v w2 => ∃ (c : Array Value) (nb : Nat), v = .slice (some ⟨nb, 0, none⟩) 1 1 ∧ c.size = 5 ∧ w2.heap[nb]? = some (.cells c 55 (0, 0)) ∧ VA (w4.heap.size ≤ ·) w2 byT c.toList) (a.tmps.getD 24 undef) wa := hrr 11 _ 24 rfl (by decide) rfl
    have hact := act_puts hdf hsz hsl
    clear hrr hsl hdf hsz
    simp only [List.filterMap_cons, List.filterMap_nil, List.foldl_cons, List.foldl_nil] at hact
    rw [kv14] at hact
    rw [hact]
    generalize a.tmps.getD 13 undef = y13
    generalize a.tmps.getD 15 undef = y15
    generalize a.tmps.getD 16 undef = y16
    generalize a.tmps.getD 17 undef = y17
    generalize a.tmps.getD 18 undef = y18
    generalize a.tmps.getD 19 undef = y19
    generalize a.tmps.getD 20 undef = y20
    generalize a.tmps.getD 21 undef = y21
    generalize a.tmps.getD 22 undef = y22
    generalize a.tmps.getD 23 undef = y23
    generalize a.tmps.getD 24 undef = y24 at kr24 ⊢
    generalize a.tmps.getD 25 undef = y25
    generalize a.tmps.getD 26 undef = y26
    clear hact kv14 a
    simp only [Act.put, List.setIfInBounds_toArray, List.set_cons_succ, List.set_cons_zero]
    obtain ⟨c, nb, rfl, h5, hnb, hxv⟩ := kr24
    have b4w := hww.out
    obtain ⟨v', W', hr, hg', ho'⟩ := app_1V (B := w4.heap.size) 52 hwa.size h5 hxv.one hnb
    have hW' := below_grE hg' (fun r hr => by cases hr) (Nat.le_refl _)
    have hc' : W'.heap[w.heap.size + 1]? = some (.cells #[.int .i64 4, .int .i64 0, .string ⟨#[]⟩, .slice none 0 0, .slice none 0 0] 55 (0, 0)) := (hW'.block _ (by have := hwa.size; have := h3l.out; omega)).trans ((hwa.block _ h3l.out).trans h3r.out)
    obtain ⟨va', vc', rfl⟩ : ∃ va' vc', v' = .slice va' 1 vc' := own_slc ho'
    have hcc : W'.cell? ⟨w.heap.size + 1, 3, none⟩ = some (.slice none 0 0) := cell_of 3 hc' rfl
    have hf' : W'.frozen? ⟨w.heap.size + 1, 3, none⟩ = false := by simp [World.frozen?, hc']
    have hst : (Instr.storeAt 52 (.pointer (some ⟨w.heap.size + 1, 3, none⟩)) (.slice va' 1 vc')).run Tryz.prog W' = .ok () (W'.setCell ⟨w.heap.size + 1, 3, none⟩ (.slice va' 1 vc')) := by simp [Instr.storeAt, Instr.sureAddr, go_sem, hcc, hf']
    have hsw : W'.setCell ⟨w.heap.size + 1, 3, none⟩ (.slice va' 1 vc') = W'.setRow (w.heap.size + 1) #[.int .i64 4, .int .i64 0, .string ⟨#[]⟩, .slice va' 1 vc', .slice none 0 0] := by
      rw [setCell_eq_setRow W' (w.heap.size + 1) 3 _ _ (0, 0) _ hc']; rfl
    obtain ⟨W2, hW2⟩ : ∃ W2, W2 = W'.setRow (w.heap.size + 1) #[.int .i64 4, .int .i64 0, .string ⟨#[]⟩, .slice va' 1 vc', .slice none 0 0] := ⟨_, rfl⟩
    rw [← hW2] at hsw
    refine tlw_val (w' := W') (v := .slice va' 1 vc') rfl (by unfold execOp; simp only [resolve, invoke, builtin, Sem.run_bind, Sem.run_pure, Result.andThen_ok, List.map_toArray, List.map_cons, List.map_nil]; exact (by rw [show (Act.eval _ (.tmp 14)) = .slice none 0 0 from rfl, show (Act.eval _ (.tmp 24)) = .slice (some ⟨nb, 0, none⟩) 1 1 from rfl, hr]; rfl)) ?_
    simp only [Act.put, List.setIfInBounds_toArray, List.set_cons_succ, List.set_cons_zero]
    refine tlw_val (w' := W') (v := .pointer (some ⟨w.heap.size + 1, 3, none⟩)) rfl (by kernel_rfl) ?_
    simp only [Act.put, List.setIfInBounds_toArray, List.set_cons_succ, List.set_cons_zero]
    refine tlw_skp (w' := W2) rfl (by simp only [execOp, Act.eval]; exact (by rw [show (Array.getD _ 26 undef) = .pointer (some ⟨w.heap.size + 1, 3, none⟩) from rfl, show (Array.getD _ 25 undef) = .slice va' 1 vc' from rfl]; simp only [Sem.run_bind, hst, hsw, Result.andThen_ok, Sem.run_pure])) ?_
    refine tlwE_end ?_
    have hW2r : W2.heap[w.heap.size + 1]? = some (.cells #[.int .i64 4, .int .i64 0, .string ⟨#[]⟩, .slice va' 1 vc', .slice none 0 0] 55 (0, 0)) := by rw [hW2]; exact setRow_heap _ _ _ _ _ _ hc'
    have hB2 : Below w.heap.size w W2 := by rw [hW2]; exact blw_own (bw.out.trans ((hwa.trans (hW'.mono hwa.size)).mono bw.out.size)) (by omega) _
    have h2z : W2.heap[w.heap.size]? = some (.cells #[.int .i64 0, .int .i64 0, .string ⟨#[]⟩, .slice none 0 0, .slice none 0 0] 55 (0, 0)) := by
      rw [hW2]
      exact (setRow_other _ _ _ _ (by omega)).trans ((hW'.block _ (by have := hwa.size; have := h3l.out; omega)).trans ((hwa.block _ (by have := h3l.out; omega)).trans h2r.out))
    have hva : VA (w.heap.size + 1 ≤ ·) W2 sgT [.int .i64 4, .int .i64 0, .string ⟨#[]⟩, .slice va' 1 vc', .slice none 0 0] := by
      have hv2 := va_sg (rwa_own (cs := [c.toList]) (by simpa using ho') (by simp [h5]) rfl) (hxv.frame (w' := W') (fun k _ hs => hW'.block k hs) (fun _ h _ => h))
      rw [hW2]
      exact hv2.frame (fun k hk _ => setRow_other _ _ _ _ (by have h9 : w4.heap.size ≤ k := hk; have := h3l.out; omega)) (fun k hk _ => by have h9 : w4.heap.size ≤ k := hk; show w.heap.size + 1 ≤ k; have := h3l.out; omega)
    replace hva := hide1 hva
    replace hB2 := hide1 hB2
    replace hW2r := hide1 hW2r
    replace h2z := hide1 h2z
    clear hst hcc hf' hsw hc' hW2 hr hnb hwa hx h3c bw h3r h2r hW' hg' ho' hxv
    have hone4 : (#[Value.int .i64 4, .int .i64 0, .string ⟨#[]⟩, .slice va' 1 vc', .slice none 0 0] : Array Value).all (·.oneCell') = true := by kernel_rfl
    have rL := hide1 (rng_of 0 [.int .i64 4, .int .i64 0, .string ⟨#[]⟩, .slice va' 1 vc', .slice none 0 0] hW2r.out rfl)
    have hz := hide1 (setRow_heap W2 w.heap.size _ #[.int .i64 4, .int .i64 0, .string ⟨#[]⟩, .slice va' 1 vc', .slice none 0 0] _ _ h2z.out)
    have hfin : Hid (AnC w sgT (.returned (.agg #[.int .i64 4, .int .i64 0, .string ⟨#[]⟩, .slice va' 1 vc', .slice none 0 0])) (W2.setRow w.heap.size #[.int .i64 4, .int .i64 0, .string ⟨#[]⟩, .slice va' 1 vc', .slice none 0 0])) := hide1 ⟨_, rfl, rfl, blw_own hB2.out (Nat.le_refl _) _, VA.frame (F := fun k => w.heap.size + 1 ≤ k) hva.out (fun k hk _ => setRow_other _ _ _ _ (by have h9 : w.heap.size + 1 ≤ k := hk; omega)) (fun k hk _ => by have h9 : w.heap.size + 1 ≤ k := hk; show w.heap.size ≤ k; omega)⟩
    have h2zz := h2z.out
    clear hva hB2 hW2r h2z
    go_wp2
    rw [rounds_succ]
    go_wp2_with (first
      | (refine load_w rfl 55 (.tmp 3) rfl (w.heap.size + 1) 0 rfl [.int .i64 4, .int .i64 0, .string ⟨#[]⟩, .slice va' 1 vc', .slice none 0 0] _ rL.out Tryz.underlying55 rfl (by kernel_rfl) ?_)
      | (refine wpList_store_row rfl 55 (.tmp 2) (.tmp 28) rfl w.heap.size #[.int .i64 4, .int .i64 0, .string ⟨#[]⟩, .slice va' 1 vc', .slice none 0 0] rfl rfl 55 _ h2zz (by kernel_rfl) (by kernel_rfl) hone4 ?_)
      | fail)
    exact bodyPost_ret (results_g rfl _ rfl (lv_V rfl hz.out)) rfl hfin.out
end Go.Proofs.YtdhmonlhlfkjbaaGreatDoor

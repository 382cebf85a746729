/- JSq, JH, JI, JJ, JK, JL, JF2, JM, JN, JO, JV: laid together. -/
import Derived.Deep.MidRow
import Derived.Handy
import Derived.Lib.SlBytesConst
import Derived.WalkKit
import Derived.ProofKit
import Derived.OpenShut
import Derived.ChangeOld
import Derived.Below
import Derived.Deep.Slices
import Derived.Test.YthgndmgoilfpcaaGreatDoorG2
import Derived.Test.YthgndmgoilfpcaaGreatDoorG1
namespace Go.Proofs.YthgndmgoilfpcaaGreatDoor
open Go.RowKit

theorem results_v1 {fn : Func} {t : Tmp} (h : fn.results = #[.cell t Vt]) (tmps : Array Value) {w : World} {b : Nat} {c : Array Value} (ht : tmps.getD t undef = .pointer (some ⟨b, 0, none⟩)) (hs : c.size = 5) (hg : w.heap[b]? = some (.cells c Vt (0, 0))) :
    (results fn tmps).run Tryz.prog w = .ok (.agg c) w := by
  have hl := run_loadVar_row (P := Tryz.prog) w b Vt Vt c (0, 0) _ hg Tryz.underlying28 (by rfl) (by rw [hs]; kernel_rfl)
  have ht2 : tmps[t]?.getD undef = .pointer (some ⟨b, 0, none⟩) := by simpa using ht
  simp [results, h, ht2, asAddr, hl]
theorem sub_1 {d : Nat} (hd : 0 < d) (hb : d ≤ 65536) (w : World) : (binOp .sub 3 (.int .i64 (d : Nat)) (.int .i64 1)).run Tryz.prog w = .ok (.int .i64 (d - 1 : Nat)) w := by
  have e : ((d - 1 : Nat) : Int) = (d : Int) - 1 := by omega
  have hwr : IntKind.i64.wrap ((d : Int) - 1) = (d : Int) - 1 := by go_unwrap
  rw [e]
  simp [go_sem, hwr]
theorem eqg_sub {t : TypeId} {x u : Operand} {a b : Value} {w : World} : (eqGuard .sub t x u a b).run Tryz.prog w = .ok () w := rfl
def R7 (q2 gb nn vc i d : Nat) (C : Array Value) (w3 : World) (u : T) : Nat → Value → World → Prop
  | 0, v, _ => v = .pointer (some ⟨q2, 3, none⟩)
  | 1, v, _ => v = .slice (some ⟨gb, 0, none⟩) nn vc
  | 2, v, _ => v = .int .i64 (i : Nat)
  | 3, v, _ => v = .agg C
  | 4, v, _ => v = .int .i64 (d : Nat)
  | 5, v, _ => v = .int .i64 (d - 1 : Nat)
  | 6, v, w => ∃ c : Array Value, v = .agg c ∧ c.size = 5 ∧ VA (w3.heap.size ≤ ·) w u c.toList
  | 7, v, _ => v = .pointer (some ⟨gb, i * 5, none⟩)
  | _, _, _ => True
theorem R7_mono {q2 gb nn vc i d : Nat} {C : Array Value} {w3 : World} {u : T} (j : Nat) (v : Value) (w w' : World) (h : R7 q2 gb nn vc i d C w3 u j v w) (hb : Below w.heap.size w w') : R7 q2 gb nn vc i d C w3 u j v w' := by
  match j, h with
  | 0, h | 1, h | 2, h | 3, h | 4, h | 5, h | 7, h => exact h
  | 6, h =>
    obtain ⟨c, h1, h2, h3⟩ := h
    exact ⟨c, h1, h2, h3.frame (fun k _ hs => hb.block k hs) (fun _ h _ => h)⟩
  | _ + 8, h => trivial
def R13 (q2 q8 gb nn vc i d : Nat) (C : Array Value) (w3 : World) (u : T) : Nat → Value → World → Prop
  | 0, v, _ => v = .pointer (some ⟨q2, 4, none⟩)
  | 1, v, _ => v = .slice (some ⟨gb, 0, none⟩) nn vc
  | 2, v, _ => v = .int .i64 (i : Nat)
  | 3, v, _ => v = .pointer (some ⟨q8, 1, none⟩)
  | 4, v, _ => v = .agg C
  | 5, v, _ => v = .int .i64 (d : Nat)
  | 6, v, _ => v = .int .i64 (d - 1 : Nat)
  | 7, v, w => ∃ c : Array Value, v = .agg c ∧ c.size = 5 ∧ VA (w3.heap.size ≤ ·) w u c.toList
  | 8, v, _ => v = .pointer (some ⟨gb, i * 6, none⟩)
  | 9, v, _ => v = .pointer (some ⟨gb, i * 6 + 1, none⟩)
  | _, _, _ => True
theorem R13_mono {q2 q8 gb nn vc i d : Nat} {C : Array Value} {w3 : World} {u : T} (j : Nat) (v : Value) (w w' : World) (h : R13 q2 q8 gb nn vc i d C w3 u j v w) (hb : Below w.heap.size w w') : R13 q2 q8 gb nn vc i d C w3 u j v w' := by
  match j, h with
  | 0, h | 1, h | 2, h | 3, h | 4, h | 5, h | 6, h | 8, h | 9, h => exact h
  | 7, h =>
    obtain ⟨c, h1, h2, h3⟩ := h
    exact ⟨c, h1, h2, h3.frame (fun k _ hs => hb.block k hs) (fun _ h _ => h)⟩
  | _ + 10, h => trivial
theorem ld_v1 {w : World} {b : Nat} {y0 y1 y2 y3 y4 y5 : Value} (h : w.heap[b]? = some (.cells #[y0, y1, y2, y3, y4, y5] 49 (0, 0))) : (Instr.loadAt 28 (.pointer (some ⟨b, 1, none⟩))).run Tryz.prog w = .ok (.agg #[y1, y2, y3, y4, y5]) w := by
  have hr : w.rangeAt b 1 [y1, y2, y3, y4, y5] := fun j v hj => by
    simp only [World.cell?, h]
    match j, hj with
    | 0, hj | 1, hj | 2, hj | 3, hj | 4, hj => simpa using hj
    | _ + 5, hj => simp at hj
  have hl := run_loadVar_mid (P := Tryz.prog) w b 1 28 [y1, y2, y3, y4, y5] _ hr Tryz.underlying28 rfl (by kernel_rfl)
  simp only [Instr.loadAt, Instr.sureAddr, Sem.run_bind, Sem.run_pure, Result.andThen_ok, hl]
set_option maxHeartbeats 8000000 in
set_option maxRecDepth 100000 in
theorem copied_s {n d : Nat} (ih : ∀ {F : Nat → Prop} {w : World} {t : T} {c : List Value}, hgt n t → VA F w t c → Calls Tryz.prog 44 #[.agg c.toArray, .int .i64 (d - 1 : Nat)] w (AnC w t))
    {F : Nat → Prop} {w : World} {t : T} {c : List Value} (hh : hgt (n + 1) t) (hnd : n + 1 ≤ d) (hd6 : d ≤ 65536) (h : VA F w t c) : Calls Tryz.prog 44 #[.agg c.toArray, .int .i64 (d : Nat)] w (AnC w t) := by
    have hd0 : ¬ (d : Int) = 0 := by omega
    have hd1 : 0 < d := by omega
    cases h with
    | @mk k ki s l p sl sp cl cp r1 r2 e1 e2 hl hp1 hp2 =>
      obtain ⟨b1, b2, hl1, hl2⟩ := hh
      -- the boxes
      obtain ⟨wb, hwb⟩ : ∃ wb, wb = (w.alloc (.cells #[.int .i64 k, .int .i64 ki, .string (st s), sl, sp] 28)).alloc (.cells #[.int .i64 0, .int .i64 0, .string ⟨#[]⟩, .slice none 0 0, .slice none 0 0] 28) := ⟨_, rfl⟩
      have hbb : Cb w #[.int .i64 k, .int .i64 ki, .string (st s), sl, sp] wb := by
        rw [hwb]
        refine ⟨blw_al ((Below.refl _ _).alloc (Nat.le_refl _) _) (by simp) _, ?_, ?_, by simp⟩
        · show ((w.heap.push _).push _)[w.heap.size]? = _
          rw [Array.getElem?_push, if_neg (by simp), Array.getElem?_push, if_pos rfl]
        · show ((w.heap.push _).push _)[w.heap.size + 1]? = _
          rw [Array.getElem?_push, if_pos (by simp)]
          rfl
      have c3 : wb.cell? ⟨w.heap.size, 3, none⟩ = some sl := by simp only [World.cell?, hbb.b2]; rfl
      have r1b : RwA F wb 28 5 sl cl := r1.frame (fun k _ hs => hbb.bw.block k hs) (fun _ h _ => h)
      have hon1 : ∀ x ∈ cl, x.all (·.oneCell') = true := fun x hx => by
        obtain ⟨j, hj, rfl⟩ := List.mem_iff_getElem.1 hx
        have hj2 : j < l.length := by omega
        exact (hl j _ _ (List.getElem?_eq_getElem hj2) (List.getElem?_eq_getElem hj)).one
      have hcl := clone_V r1b hon1 (by omega)
      have hb1l : cl.length ≤ 1000000 := by omega
      have hb2l : cp.length ≤ 1000000 := by omega
      replace e1 := hide1 e1
      replace e2 := hide1 e2
      replace hbb := hide1 hbb
      subst hwb
      go_enter Tryz.func44, Tryz.ntmps44
      go_wp2_with fail
      refine hcl.mono ?_
      rintro e w1 ⟨v1, rfl, bw1, row1⟩
      have hb1 := hbb.out.keep bw1
      have hsb := hbb.out.sz
      -- the row of the list's own
      obtain ⟨va, vc, hva⟩ : ∃ va vc, v1 = .slice va cl.length vc := by
        obtain ⟨_, ⟨h1, h2⟩ | ⟨g', cap, cur, h1, _⟩⟩ := row1
        · exact ⟨none, 0, by rw [h1, h2]⟩
        · exact ⟨_, cap, h1⟩
      have hw2 : w1.setCell ⟨w.heap.size, 3, none⟩ v1 = w1.setRow w.heap.size #[.int .i64 k, .int .i64 ki, .string (st s), v1, sp] := by
        rw [setCell_eq_setRow w1 w.heap.size 3 _ _ (0, 0) _ hb1.b2]; rfl
      have cc : w1.cell? ⟨w.heap.size, 3, none⟩ = some sl := by simp only [World.cell?, hb1.b2]; rfl
      have cf : w1.frozen? ⟨w.heap.size, 3, none⟩ = false := by simp [World.frozen?, hb1.b2]
      have hB1 : w.heap.size + 2 ≤ ((w.alloc (.cells #[.int .i64 k, .int .i64 ki, .string (st s), sl, sp] 28)).alloc (.cells #[.int .i64 0, .int .i64 0, .string ⟨#[]⟩, .slice none 0 0, .slice none 0 0] 28)).heap.size := hsb
      have hb2 : Cb w #[.int .i64 k, .int .i64 ki, .string (st s), v1, sp] (w1.setCell ⟨w.heap.size, 3, none⟩ v1) := by
        rw [hw2]
        exact ⟨blw_own hb1.bw (Nat.le_refl _) _, setRow_heap w1 w.heap.size _ _ _ _ hb1.b2, (setRow_other w1 _ _ _ (by omega)).trans hb1.b4, by simpa [World.setRow] using hb1.sz⟩
      have hcp : Cp VA 28 5 (w.heap.size + 2) l cl v1 0 (w1.setCell ⟨w.heap.size, 3, none⟩ v1) cl := by
        refine Cp.start ?_ r1.1
        rw [hw2]
        obtain ⟨q1, q2 | ⟨g', cap, cur, h1, hB, h2, h3⟩⟩ := row1
        · exact ⟨q1, .inl q2⟩
        · exact ⟨q1, .inr ⟨g', cap, cur, h1, by omega, (setRow_other w1 _ g' _ (by omega)).trans h2, h3⟩⟩
      have cg : (w1.setCell ⟨w.heap.size, 3, none⟩ v1).cell? ⟨w.heap.size, 3, none⟩ = some v1 := by simp only [World.cell?, hb2.b2]; rfl
      replace hb2 := hide1 hb2
      replace hcp := hide1 hcp
      clear hbb hb1 hsb row1 bw1 hcl r1b hw2 hB1 c3
      subst hva
      go_wp2_with fail
      generalize w1.setCell ⟨w.heap.size, 3, none⟩ (.slice va cl.length vc) = w2 at *
      go_loopw [19] (fun x wr => ∃ (i : Nat) (ds : List (List Value)), x = .int .i64 (i : Nat) ∧ i ≤ cl.length ∧ Hid (Cb w #[.int .i64 k, .int .i64 ki, .string (st s), .slice va cl.length vc, sp] wr) ∧ Hid (Cp VA 28 5 (w.heap.size + 2) l cl (.slice va cl.length vc) i wr ds)) (fun x _ => cl.length - (intOf x).toNat)
      case atStart => exact ⟨0, cl, rfl, by omega, hb2, hcp⟩
      case round =>
        obtain ⟨i, ds, rfl, hin, hb, hc⟩ := hrel
        by_cases hlt : i < cl.length
        · have hdl : ds.length = cl.length := hc.out.ln
          obtain ⟨x, hx⟩ : ∃ x, cl[i]? = some x := ⟨_, List.getElem?_eq_getElem hlt⟩
          obtain ⟨u, hu⟩ : ∃ u, l[i]? = some u := ⟨_, List.getElem?_eq_getElem (by have := e1.out; omega)⟩
          have hxu := hl i u x hu hx
          have hhu := hl1 u (List.mem_of_getElem? hu)
          have hdx : ds[i]? = some x := by rw [hc.out.old i (Nat.le_refl _)]; exact hx
          have hrw := own_rows hc.out.row hc.out.lz (F := fun _ => True) (fun _ _ => trivial)
          obtain ⟨gb, o, cap, hve, -, hgl, hr⟩ := hrw.at hdx
          have ho : o = 0 := by
            obtain ⟨_, ⟨h1, _⟩ | ⟨g', cap', cur, h1, _⟩⟩ := hc.out.row
            · rw [h1] at hve; cases hve
            · rw [h1] at hve; cases hve; rfl
          subst ho
          have hva : va = some ⟨gb, 0, none⟩ := by
            rw [hdl] at hve
            cases hve; rfl
          subst hva
          have hon := hon1 x (List.mem_of_getElem? hx)
          have hx5 : x.length = 5 := r1.1 x (List.mem_of_getElem? hx)
          obtain ⟨x0, x1, x2, x3, x4, rfl⟩ : ∃ x0 x1 x2 x3 x4, x = [x0, x1, x2, x3, x4] := by
            match x, hx5 with
            | [x0, x1, x2, x3, x4], _ => exact ⟨x0, x1, x2, x3, x4, rfl⟩
          rw [Nat.zero_add] at hr
          have hr6 : (wr.alloc (.cells #[.int .i64 0, .int .i64 0, .string ⟨#[]⟩, .slice none 0 0, .slice none 0 0] 28)).heap[wr.heap.size]? = some (.cells #[.int .i64 0, .int .i64 0, .string ⟨#[]⟩, .slice none 0 0, .slice none 0 0] 28 (0, 0)) := by
            show (wr.heap.push _)[wr.heap.size]? = _
            rw [Array.getElem?_push, if_pos rfl]
          have h6 := setRow_heap (wr.alloc (.cells #[.int .i64 0, .int .i64 0, .string ⟨#[]⟩, .slice none 0 0, .slice none 0 0] 28)) wr.heap.size _ #[x0, x1, x2, x3, x4] _ _ hr6
          have hal : ∀ k, k < wr.heap.size → ((wr.alloc (.cells #[.int .i64 0, .int .i64 0, .string ⟨#[]⟩, .slice none 0 0, .slice none 0 0] 28)).setRow wr.heap.size #[x0, x1, x2, x3, x4]).heap[k]? = wr.heap[k]? := fun k hk => (setRow_other _ _ k _ (by omega)).trans (by
            show (wr.heap.push _)[k]? = _
            rw [Array.getElem?_push, if_neg (by omega)])
          have hbw : Below wr.heap.size wr ((wr.alloc (.cells #[.int .i64 0, .int .i64 0, .string ⟨#[]⟩, .slice none 0 0, .slice none 0 0] 28)).setRow wr.heap.size #[x0, x1, x2, x3, x4]) := ⟨rfl, rfl, rfl, by simp [World.setRow], hal⟩
          have hb6 := hb.out.keep hbw
          have hc6 := hc.out.keep VA.fr (fun k _ hs => hal k hs)
          have hxw : VA F ((wr.alloc (.cells #[.int .i64 0, .int .i64 0, .string ⟨#[]⟩, .slice none 0 0, .slice none 0 0] 28)).setRow wr.heap.size #[x0, x1, x2, x3, x4]) u [x0, x1, x2, x3, x4] := hxu.frame (fun k _ hs => hb6.bw.block k hs) (fun _ h _ => h)
          replace h6 := hide1 h6
          replace hb6 := hide1 hb6
          replace hc6 := hide1 hc6
          replace hxw := hide1 hxw
          replace hon := hide1 hon
          clear hal hbw hb hc hxu hrw hve hx hdx hx5
          replace hu := hide1 hu
          go_upto_region 7 with (first | refine wpList_load_mid rfl 28 (.tmp 22) rfl gb (i * 5) rfl [x0, x1, x2, x3, x4] _ hr Tryz.underlying28 rfl (by kernel_rfl) ?_ | refine wpList_store_row rfl 28 (.tmp 6) (.tmp 23) rfl wr.heap.size #[x0, x1, x2, x3, x4] rfl rfl 28 _ hr6 (by kernel_rfl) rfl (by simpa using hon.out) ?_)
          generalize (wr.alloc (.cells #[.int .i64 0, .int .i64 0, .string ⟨#[]⟩, .slice none 0 0, .slice none 0 0] 28)).setRow wr.heap.size #[x0, x1, x2, x3, x4] = w3 at *
          generalize hq6 : wr.heap.size = q6 at *
          have ihc : ∀ w, Below w3.heap.size w3 w → Calls Tryz.prog 44 #[.agg #[x0, x1, x2, x3, x4], .int .i64 (d - 1 : Nat)] w (AnC w u) := fun w hb => ih hhu (hxw.out.frame (F := F) (G := F) (fun k _ hs => hb.block k hs) (fun _ h _ => h))
          refine wp_flow 8 _ _ (by kernel_rfl) (by kernel_rfl) (by kernel_rfl) (by kernel_rfl) rfl (R7 w.heap.size gb cl.length vc i d #[x0, x1, x2, x3, x4] w3 u) R7_mono ?_ ?_
          · intro j o ho hj a wa hbw hsl hdep K hK
            match j, ho with
            | 0, ho =>
              obtain rfl := Option.some.inj ho
              have t2 : a.tmps.getD 2 undef = .pointer (some ⟨w.heap.size, 0, none⟩) := hsl 2 rfl
              exact wp_val (w' := wa) (by simp only [execOp, Act.eval]; rw [show a.tmps.getD 2 undef = _ from t2]; kernel_rfl) (hK _ _ (Below.refl _ _) rfl)
            | 1, ho =>
              obtain rfl := Option.some.inj ho
              have t := hdep 0 _ 24 rfl rfl ⟨⟨0, .data⟩, by simp, rfl, rfl⟩
              have hc3 : wa.cell? ⟨w.heap.size, 3, none⟩ = some (.slice (some ⟨gb, 0, none⟩) cl.length vc) := by
                rw [World.cell?_of_block (w := w3) (hbw.block _ (by have := hb6.out.sz; show w.heap.size < _; omega))]
                simp only [World.cell?, hb6.out.b2]; rfl
              exact wp_val (w' := wa) (by simp only [execOp, Act.eval]; rw [show a.tmps.getD 24 undef = _ from t]; simp only [Sem.run_bind, ld_sV hc3, Result.andThen_ok, Sem.run_pure]) (hK _ _ (Below.refl _ _) rfl)
            | 2, ho =>
              obtain rfl := Option.some.inj ho
              have t := hsl 5 rfl
              exact wp_val (w' := wa) (by simp only [execOp, Act.eval]; rw [show a.tmps.getD 5 undef = _ from t]; rfl) (hK _ _ (Below.refl _ _) rfl)
            | 3, ho =>
              obtain rfl := Option.some.inj ho
              have t := hsl 6 rfl
              have hl6 := (hbw.block q6 (Array.getElem?_eq_some_iff.1 h6.out).1).trans h6.out
              exact wp_val (w' := wa) (by simp only [execOp, Act.eval]; rw [show a.tmps.getD 6 undef = .pointer (some ⟨q6, 0, none⟩) from t]; simp only [Sem.run_bind, ldEV hl6 rfl, Result.andThen_ok, Sem.run_pure]) (hK _ _ (Below.refl _ _) rfl)
            | 4, ho =>
              obtain rfl := Option.some.inj ho
              have t := hsl 1 rfl
              exact wp_val (w' := wa) (by simp only [execOp, Act.eval]; rw [show a.tmps.getD 1 undef = _ from t]; rfl) (hK _ _ (Below.refl _ _) rfl)
            | 5, ho =>
              obtain rfl := Option.some.inj ho
              have t := hdep 4 _ 28 rfl rfl ⟨⟨4, .data⟩, by simp, rfl, rfl⟩
              exact wp_val (w' := wa) (by simp only [execOp, Act.eval]; rw [show a.tmps.getD 28 undef = _ from t]; simp only [Sem.run_bind, eqg_sub, sub_1 hd1 hd6, Result.andThen_ok, Sem.run_pure]) (hK _ _ (Below.refl _ _) rfl)
            | 6, ho =>
              obtain rfl := Option.some.inj ho
              have t3 := hdep 3 _ 27 rfl rfl ⟨⟨3, .data⟩, by simp, rfl, rfl⟩
              have t5 := hdep 5 _ 29 rfl rfl ⟨⟨5, .data⟩, by simp, rfl, rfl⟩
              refine oper_any (J := fun r w' => ∃ c : Array Value, r = .agg c ∧ c.size = 5 ∧ Below wa.heap.size wa w' ∧ VA (wa.heap.size ≤ ·) w' u c.toList) 44 #[.tmp 27, .tmp 29] _ rfl #[.agg #[x0, x1, x2, x3, x4], .int .i64 (d - 1 : Nat)] (by simp only [List.map_toArray, List.map_cons, List.map_nil, Act.eval]; rw [show a.tmps.getD 27 undef = _ from t3, show a.tmps.getD 29 undef = _ from t5]) (fun w => by kernel_rfl) ((ihc wa hbw).mono fun e w' h => by obtain ⟨c, rfl, h1, h2, h3⟩ := h; exact ⟨_, rfl, c, rfl, h1, h2, h3⟩) ?_
              rintro r w' ⟨c, rfl, h1, h2, h3⟩
              exact hK _ _ h2 ⟨c, rfl, h1, h3.frame (fun _ _ _ => rfl) (fun k hk _ => Nat.le_trans hbw.size hk)⟩
            | 7, ho =>
              obtain rfl := Option.some.inj ho
              have t1 := hdep 1 _ 25 rfl rfl ⟨⟨1, .data⟩, by simp, rfl, rfl⟩
              have t2 := hdep 2 _ 26 rfl rfl ⟨⟨2, .data⟩, by simp, rfl, rfl⟩
              exact wp_val (w' := wa) (by simp only [execOp, Act.eval]; rw [show a.tmps.getD 25 undef = _ from t1, show a.tmps.getD 26 undef = _ from t2]; simp only [Sem.run_bind, ix_sV hlt, Result.andThen_ok, Sem.run_pure]) (hK _ _ (Below.refl _ _) rfl)
            | 8, _ => exact absurd rfl hj
            | _ + 9, ho => exact absurd ho (by simp)
          · intro a wa hbw hdf hsz hsl hr K hK
            obtain ⟨c', t6, hc5, hcv⟩ := hr 6 _ 30 rfl (by decide) rfl
            have t7 := hr 7 _ 31 rfl (by decide) rfl
            have hca := hc6.out.keep VA.fr (fun k hk hs => hbw.block k hs)
            have hba := hb6.out.keep hbw
            have hrow := hca.row
            rw [hdl] at hrow
            obtain ⟨cur, hgb, hcur, hBg⟩ := own_cur hrow
            have hfit : i * 5 + 5 ≤ cl.length * 5 := by omega
            have hst := st_eV hgb hc5 (Nat.le_trans hfit hcur) (by simpa using hcv.one)
            have hp := own_piece hrow hc5 hfit hgb
            rw [← flat_set hca.lz i c'.toList (by omega)] at hp
            have hw3 := hb6.out.sz
            have hsa := hbw.size
            have hgq : gb < w3.heap.size := by have := (Array.getElem?_eq_some_iff.1 h6.out).1; omega
            have hC : Hid (Cp VA 28 5 (w.heap.size + 2) l cl (.slice (some ⟨gb, 0, none⟩) cl.length vc) (i + 1) (wa.setRow gb (cur.toList.take (i * 5) ++ c'.toList ++ cur.toList.drop (i * 5 + 5)).toArray) (ds.set i c'.toList)) := hide1 (hca.step VA.fr (by simpa using hc5) (by omega) rfl (fun k hk => setRow_other wa gb k _ hk) (by rw [hdl]; exact hp) (fun t' ht' => by
              rw [hu.out] at ht'
              cases ht'
              refine hcv.frame (fun k hk hs => setRow_other wa gb k _ ?_) (fun k hk hs => ⟨?_, ?_⟩)
              · have : w3.heap.size ≤ k := hk
                omega
              · have : w3.heap.size ≤ k := hk
                omega
              · intro e
                have : k = gb := by simpa [Value.ownBlock] using e
                have : w3.heap.size ≤ k := hk
                omega))
            have hCb := hide1 (hba.over hBg (cur.toList.take (i * 5) ++ c'.toList ++ cur.toList.drop (i * 5 + 5)).toArray)
            generalize (cur.toList.take (i * 5) ++ c'.toList ++ cur.toList.drop (i * 5 + 5)).toArray = nw at *
            refine wp_skp (w' := wa.setRow gb nw) (by simp only [execOp, Act.eval]; rw [show a.tmps.getD 31 undef = _ from t7, show a.tmps.getD 30 undef = _ from t6]; simp only [Sem.run_bind, hst, Result.andThen_ok, Sem.run_pure]) ?_
            refine hK a (wa.setRow gb nw) ?_
            have hact := act_puts hdf hsz hsl
            clear hst hp hcv hca hba hrow hr hsl hdf hsz hbw hK t6 t7 ihc
            simp only [List.filterMap_cons, List.filterMap_nil, List.foldl_cons, List.foldl_nil] at hact
            rw [hact]
            generalize a.tmps.getD 24 undef = y24
            generalize a.tmps.getD 25 undef = y25
            generalize a.tmps.getD 26 undef = y26
            generalize a.tmps.getD 27 undef = y27
            generalize a.tmps.getD 28 undef = y28
            generalize a.tmps.getD 29 undef = y29
            generalize a.tmps.getD 30 undef = y30
            generalize a.tmps.getD 31 undef = y31
            clear hact a
            refine (‹∀ (a : Act) (w : World), Code.wp Tryz.prog _ _ a w → _›) _ (wa.setRow gb nw) ?_
            generalize wa.setRow gb nw = w4 at *
            go_wp2
            go_roundw
            case rel => exact ⟨i + 1, _, rfl, by omega, hCb, hC⟩
            case measure => simp [intOf]; omega
        · have hie : i = cl.length := by omega
          subst hie
          have hcc : wr.cell? ⟨w.heap.size, 4, none⟩ = some sp := by simp only [World.cell?, hb.out.b2]; rfl
          have r2w : RwA F wr 49 6 sp cp := r2.frame (fun k _ hs => hb.out.bw.block k hs) (fun _ h _ => h)
          have hon2 : ∀ x ∈ cp, x.all (·.oneCell') = true := fun x hx => by
            obtain ⟨j, hj, rfl⟩ := List.mem_iff_getElem.1 hx
            have hj2 : j < p.length := by have := e2.out; omega
            have h1 := hp1 j _ _ (List.getElem?_eq_getElem hj2) (List.getElem?_eq_getElem hj)
            have h2 := (hp2 j _ _ (List.getElem?_eq_getElem hj2) (List.getElem?_eq_getElem hj)).one
            generalize cp[j] = x at *
            cases x with
            | nil => cases h1
            | cons a b =>
              simp at h1
              subst h1
              simpa [Value.oneCell'] using h2
          have hcl2 := clone_P r2w hon2 (by omega)
          have hwA := hb.out.sz
          clear hb2 hcp
          go_wp2_with fail
          refine hcl2.mono ?_
          rintro e w5 ⟨v2, rfl, bw5, row2⟩
          have hb5 := hb.out.keep bw5
          obtain ⟨va2, vc2, hva2⟩ : ∃ va vc, v2 = .slice va cp.length vc := by
            obtain ⟨_, ⟨h1, h2⟩ | ⟨g', cap, cur, h1, _⟩⟩ := row2
            · exact ⟨none, 0, by rw [h1, h2]⟩
            · exact ⟨_, cap, h1⟩
          have hw6 : w5.setCell ⟨w.heap.size, 4, none⟩ v2 = w5.setRow w.heap.size #[.int .i64 k, .int .i64 ki, .string (st s), .slice va cl.length vc, v2] := by
            rw [setCell_eq_setRow w5 w.heap.size 4 _ _ (0, 0) _ hb5.b2]; rfl
          have cc5 : w5.cell? ⟨w.heap.size, 4, none⟩ = some sp := by simp only [World.cell?, hb5.b2]; rfl
          have cf5 : w5.frozen? ⟨w.heap.size, 4, none⟩ = false := by simp [World.frozen?, hb5.b2]
          have hb6 : Cb w #[.int .i64 k, .int .i64 ki, .string (st s), .slice va cl.length vc, v2] (w5.setCell ⟨w.heap.size, 4, none⟩ v2) := by
            rw [hw6]
            exact ⟨blw_own hb5.bw (Nat.le_refl _) _, setRow_heap w5 w.heap.size _ _ _ _ hb5.b2, (setRow_other w5 _ _ _ (by omega)).trans hb5.b4, by simpa [World.setRow] using hb5.sz⟩
          have hkA : ∀ k, w.heap.size + 2 ≤ k → k < wr.heap.size → (w5.setCell ⟨w.heap.size, 4, none⟩ v2).heap[k]? = wr.heap[k]? := fun k hk hs => by
            rw [hw6]
            exact (setRow_other w5 _ k _ (by omega)).trans (bw5.block k hs)
          have hcp2 : Cp PA 49 6 wr.heap.size p cp v2 0 (w5.setCell ⟨w.heap.size, 4, none⟩ v2) cp := by
            refine Cp.start ?_ r2.1
            rw [hw6]
            obtain ⟨q1, q2 | ⟨g', cap, cur, h1, hB, h2, h3⟩⟩ := row2
            · exact ⟨q1, .inl q2⟩
            · exact ⟨q1, .inr ⟨g', cap, cur, h1, hB, (setRow_other w5 _ g' _ (by omega)).trans h2, h3⟩⟩
          have hsA : wr.heap.size ≤ (w5.setCell ⟨w.heap.size, 4, none⟩ v2).heap.size := by
            have := bw5.size
            simpa using this
          have cg6 : (w5.setCell ⟨w.heap.size, 4, none⟩ v2).cell? ⟨w.heap.size, 4, none⟩ = some v2 := by simp only [World.cell?, hb6.b2]; rfl
          replace hb6 := hide1 hb6
          replace hcp2 := hide1 hcp2
          replace hkA := hide1 hkA
          replace hsA := hide1 hsA
          clear hb5 row2 bw5 hcl2 r2w hw6
          subst hva2
          go_wp2_with fail
          generalize w5.setCell ⟨w.heap.size, 4, none⟩ (.slice va2 cp.length vc2) = w6 at *
          obtain ⟨wA, rfl⟩ : ∃ x, x = wr := ⟨_, rfl⟩
          go_loopw [40] (fun x wr => ∃ (i : Nat) (ds : List (List Value)), x = .int .i64 (i : Nat) ∧ i ≤ cp.length ∧ Hid (Cb w #[.int .i64 k, .int .i64 ki, .string (st s), .slice va cl.length vc, .slice va2 cp.length vc2] wr) ∧ Hid (Cp PA 49 6 wA.heap.size p cp (.slice va2 cp.length vc2) i wr ds) ∧ Hid (∀ k, w.heap.size + 2 ≤ k → k < wA.heap.size → wr.heap[k]? = wA.heap[k]?) ∧ Hid (wA.heap.size ≤ wr.heap.size)) (fun x _ => cp.length - (intOf x).toNat)
          case atStart => exact ⟨0, cp, rfl, by omega, hb6, hcp2, hkA, hsA⟩
          case round =>
            clear hb6 hcp2 hkA hsA
            obtain ⟨i, ds2, rfl, hin, hb2, hc2, hkA, hsA⟩ := hrel
            by_cases hlt : i < cp.length
            · have hdl : ds2.length = cp.length := hc2.out.ln
              obtain ⟨x, hx⟩ : ∃ x, cp[i]? = some x := ⟨_, List.getElem?_eq_getElem hlt⟩
              obtain ⟨u, hu⟩ : ∃ u, p[i]? = some u := ⟨_, List.getElem?_eq_getElem (by have := e2.out; omega)⟩
              have hxn := hp1 i u x hu hx
              have hxu := hp2 i u x hu hx
              have hhu := hl2 u (List.mem_of_getElem? hu)
              have hdx : ds2[i]? = some x := by rw [hc2.out.old i (Nat.le_refl _)]; exact hx
              have hrw := own_rows hc2.out.row hc2.out.lz (F := fun _ => True) (fun _ _ => trivial)
              obtain ⟨gb, o, cap, hve, -, hgl, hr⟩ := hrw.at hdx
              have ho : o = 0 := by
                obtain ⟨_, ⟨h1, _⟩ | ⟨g', cap', cur, h1, _⟩⟩ := hc2.out.row
                · rw [h1] at hve; cases hve
                · rw [h1] at hve; cases hve; rfl
              subst ho
              have hva : va2 = some ⟨gb, 0, none⟩ := by
                rw [hdl] at hve
                cases hve; rfl
              subst hva
              have hon := hon2 x (List.mem_of_getElem? hx)
              obtain ⟨x0, x1, x2, x3, x4, x5, rfl⟩ := arr6 (r2.1 x (List.mem_of_getElem? hx))
              have hx0 : x0 = .string (st u.1) := by simpa using hxn
              subst hx0
              rw [Nat.zero_add] at hr
              have hr8 : (wr.alloc (.cells #[.string ⟨#[]⟩, .int .i64 0, .int .i64 0, .string ⟨#[]⟩, .slice none 0 0, .slice none 0 0] 49)).heap[wr.heap.size]? = some (.cells #[.string ⟨#[]⟩, .int .i64 0, .int .i64 0, .string ⟨#[]⟩, .slice none 0 0, .slice none 0 0] 49 (0, 0)) := by
                show (wr.heap.push _)[wr.heap.size]? = _
                rw [Array.getElem?_push, if_pos rfl]
              have h8 := setRow_heap (wr.alloc (.cells #[.string ⟨#[]⟩, .int .i64 0, .int .i64 0, .string ⟨#[]⟩, .slice none 0 0, .slice none 0 0] 49)) wr.heap.size _ #[.string (st u.1), x1, x2, x3, x4, x5] _ _ hr8
              have hal : ∀ k, k < wr.heap.size → ((wr.alloc (.cells #[.string ⟨#[]⟩, .int .i64 0, .int .i64 0, .string ⟨#[]⟩, .slice none 0 0, .slice none 0 0] 49)).setRow wr.heap.size #[.string (st u.1), x1, x2, x3, x4, x5]).heap[k]? = wr.heap[k]? := fun k hk => (setRow_other _ _ k _ (by omega)).trans (by
                show (wr.heap.push _)[k]? = _
                rw [Array.getElem?_push, if_neg (by omega)])
              have hbw : Below wr.heap.size wr ((wr.alloc (.cells #[.string ⟨#[]⟩, .int .i64 0, .int .i64 0, .string ⟨#[]⟩, .slice none 0 0, .slice none 0 0] 49)).setRow wr.heap.size #[.string (st u.1), x1, x2, x3, x4, x5]) := ⟨rfl, rfl, rfl, by simp [World.setRow], hal⟩
              have hb6 := hb2.out.keep hbw
              have hc6 := hc2.out.keep PA.fr (fun k _ hs => hal k hs)
              have hkA6 : ∀ k, w.heap.size + 2 ≤ k → k < wA.heap.size → ((wr.alloc (.cells #[.string ⟨#[]⟩, .int .i64 0, .int .i64 0, .string ⟨#[]⟩, .slice none 0 0, .slice none 0 0] 49)).setRow wr.heap.size #[.string (st u.1), x1, x2, x3, x4, x5]).heap[k]? = wA.heap[k]? := fun k hk hs => (hal k (Nat.lt_of_lt_of_le hs hsA.out)).trans (hkA.out k hk hs)
              have hsA6 : wA.heap.size ≤ ((wr.alloc (.cells #[.string ⟨#[]⟩, .int .i64 0, .int .i64 0, .string ⟨#[]⟩, .slice none 0 0, .slice none 0 0] 49)).setRow wr.heap.size #[.string (st u.1), x1, x2, x3, x4, x5]).heap.size := Nat.le_trans hsA.out hbw.size
              have hxw : VA F ((wr.alloc (.cells #[.string ⟨#[]⟩, .int .i64 0, .int .i64 0, .string ⟨#[]⟩, .slice none 0 0, .slice none 0 0] 49)).setRow wr.heap.size #[.string (st u.1), x1, x2, x3, x4, x5]) u.2 [x1, x2, x3, x4, x5] := VA.frame (c := [x1, x2, x3, x4, x5]) hxu (fun k _ hs => hb6.bw.block k hs) (fun _ h _ => h)
              replace h8 := hide1 h8
              replace hb6 := hide1 hb6
              replace hc6 := hide1 hc6
              replace hxw := hide1 hxw
              replace hon := hide1 hon
              replace hkA6 := hide1 hkA6
              replace hsA6 := hide1 hsA6
              clear hal hbw hb2 hc2 hkA hsA hxu hxn hrw hve hx
              replace hu := hide1 hu
              replace hdx := hide1 hdx
              go_upto_region 13 with (first | refine wpList_load_mid rfl 49 (.tmp 43) rfl gb (i * 6) rfl [.string (st u.1), x1, x2, x3, x4, x5] _ hr Tryz.underlying49 rfl (by kernel_rfl) ?_ | refine wpList_store_row rfl 49 (.tmp 8) (.tmp 44) rfl wr.heap.size #[.string (st u.1), x1, x2, x3, x4, x5] rfl rfl 49 _ hr8 (by kernel_rfl) rfl (by simpa using hon.out) ?_)
              generalize (wr.alloc (.cells #[.string ⟨#[]⟩, .int .i64 0, .int .i64 0, .string ⟨#[]⟩, .slice none 0 0, .slice none 0 0] 49)).setRow wr.heap.size #[.string (st u.1), x1, x2, x3, x4, x5] = w3 at *
              generalize hq8 : wr.heap.size = q8 at *
              have ihc : ∀ w, Below w3.heap.size w3 w → Calls Tryz.prog 44 #[.agg #[x1, x2, x3, x4, x5], .int .i64 (d - 1 : Nat)] w (AnC w u.2) := fun w hb => ih hhu (hxw.out.frame (F := F) (G := F) (fun k _ hs => hb.block k hs) (fun _ h _ => h))
              refine wp_flow 10 _ _ (by kernel_rfl) (by kernel_rfl) (by kernel_rfl) (by kernel_rfl) rfl (R13 w.heap.size q8 gb cp.length vc2 i d #[x1, x2, x3, x4, x5] w3 u.2) R13_mono ?_ ?_
              · intro j o ho hj a wa hbw hsl hdep K hK
                match j, ho with
                | 0, ho =>
                  obtain rfl := Option.some.inj ho
                  have t2 : a.tmps.getD 2 undef = .pointer (some ⟨w.heap.size, 0, none⟩) := hsl 2 rfl
                  exact wp_val (w' := wa) (by simp only [execOp, Act.eval]; rw [show a.tmps.getD 2 undef = _ from t2]; kernel_rfl) (hK _ _ (Below.refl _ _) rfl)
                | 1, ho =>
                  obtain rfl := Option.some.inj ho
                  have t := hdep 0 _ 45 rfl rfl ⟨⟨0, .data⟩, by simp, rfl, rfl⟩
                  have hc3 : wa.cell? ⟨w.heap.size, 4, none⟩ = some (.slice (some ⟨gb, 0, none⟩) cp.length vc2) := by
                    rw [World.cell?_of_block (w := w3) (hbw.block _ (by have := hb6.out.sz; show w.heap.size < _; omega))]
                    simp only [World.cell?, hb6.out.b2]; rfl
                  exact wp_val (w' := wa) (by simp only [execOp, Act.eval]; rw [show a.tmps.getD 45 undef = _ from t]; simp only [Sem.run_bind, ld_sP hc3, Result.andThen_ok, Sem.run_pure]) (hK _ _ (Below.refl _ _) rfl)
                | 2, ho =>
                  obtain rfl := Option.some.inj ho
                  have t := hsl 7 rfl
                  exact wp_val (w' := wa) (by simp only [execOp, Act.eval]; rw [show a.tmps.getD 7 undef = _ from t]; rfl) (hK _ _ (Below.refl _ _) rfl)
                | 3, ho =>
                  obtain rfl := Option.some.inj ho
                  have t2 : a.tmps.getD 8 undef = .pointer (some ⟨q8, 0, none⟩) := hsl 8 rfl
                  exact wp_val (w' := wa) (by simp only [execOp, Act.eval]; rw [show a.tmps.getD 8 undef = _ from t2]; kernel_rfl) (hK _ _ (Below.refl _ _) rfl)
                | 4, ho =>
                  obtain rfl := Option.some.inj ho
                  have t := hdep 3 _ 48 rfl rfl ⟨⟨3, .data⟩, by simp, rfl, rfl⟩
                  have hl8 := (hbw.block q8 (Array.getElem?_eq_some_iff.1 h8.out).1).trans h8.out
                  exact wp_val (w' := wa) (by simp only [execOp, Act.eval]; rw [show a.tmps.getD 48 undef = _ from t]; simp only [Sem.run_bind, ld_v1 hl8, Result.andThen_ok, Sem.run_pure]) (hK _ _ (Below.refl _ _) rfl)
                | 5, ho =>
                  obtain rfl := Option.some.inj ho
                  have t := hsl 1 rfl
                  exact wp_val (w' := wa) (by simp only [execOp, Act.eval]; rw [show a.tmps.getD 1 undef = _ from t]; rfl) (hK _ _ (Below.refl _ _) rfl)
                | 6, ho =>
                  obtain rfl := Option.some.inj ho
                  have t := hdep 5 _ 50 rfl rfl ⟨⟨5, .data⟩, by simp, rfl, rfl⟩
                  exact wp_val (w' := wa) (by simp only [execOp, Act.eval]; rw [show a.tmps.getD 50 undef = _ from t]; simp only [Sem.run_bind, eqg_sub, sub_1 hd1 hd6, Result.andThen_ok, Sem.run_pure]) (hK _ _ (Below.refl _ _) rfl)
                | 7, ho =>
                  obtain rfl := Option.some.inj ho
                  have t3 := hdep 4 _ 49 rfl rfl ⟨⟨4, .data⟩, by simp, rfl, rfl⟩
                  have t5 := hdep 6 _ 51 rfl rfl ⟨⟨6, .data⟩, by simp, rfl, rfl⟩
                  refine oper_any (J := fun r w' => ∃ c : Array Value, r = .agg c ∧ c.size = 5 ∧ Below wa.heap.size wa w' ∧ VA (wa.heap.size ≤ ·) w' u.2 c.toList) 44 #[.tmp 49, .tmp 51] _ rfl #[.agg #[x1, x2, x3, x4, x5], .int .i64 (d - 1 : Nat)] (by simp only [List.map_toArray, List.map_cons, List.map_nil, Act.eval]; rw [show a.tmps.getD 49 undef = _ from t3, show a.tmps.getD 51 undef = _ from t5]) (fun w => by kernel_rfl) ((ihc wa hbw).mono fun e w' h => by obtain ⟨c, rfl, h1, h2, h3⟩ := h; exact ⟨_, rfl, c, rfl, h1, h2, h3⟩) ?_
                  rintro r w' ⟨c, rfl, h1, h2, h3⟩
                  exact hK _ _ h2 ⟨c, rfl, h1, h3.frame (fun _ _ _ => rfl) (fun k hk _ => Nat.le_trans hbw.size hk)⟩
                | 8, ho =>
                  obtain rfl := Option.some.inj ho
                  have t1 := hdep 1 _ 46 rfl rfl ⟨⟨1, .data⟩, by simp, rfl, rfl⟩
                  have t2 := hdep 2 _ 47 rfl rfl ⟨⟨2, .data⟩, by simp, rfl, rfl⟩
                  exact wp_val (w' := wa) (by simp only [execOp, Act.eval]; rw [show a.tmps.getD 46 undef = _ from t1, show a.tmps.getD 47 undef = _ from t2]; simp only [Sem.run_bind, ix_sP hlt, Result.andThen_ok, Sem.run_pure]) (hK _ _ (Below.refl _ _) rfl)
                | 9, ho =>
                  obtain rfl := Option.some.inj ho
                  have t1 := hdep 8 _ 53 rfl rfl ⟨⟨8, .data⟩, by simp, rfl, rfl⟩
                  exact wp_val (w' := wa) (by simp only [execOp, Act.eval]; rw [show a.tmps.getD 53 undef = _ from t1]; kernel_rfl) (hK _ _ (Below.refl _ _) rfl)
                | 10, _ => exact absurd rfl hj
                | _ + 11, ho => exact absurd ho (by simp)
              · intro a wa hbw hdf hsz hsl hr K hK
                obtain ⟨c', t6, hc5, hcv⟩ := hr 7 _ 52 rfl (by decide) rfl
                have t7 := hr 9 _ 54 rfl (by decide) rfl
                have hca := hc6.out.keep PA.fr (fun k hk hs => hbw.block k hs)
                have hba := hb6.out.keep hbw
                have hrow := hca.row
                rw [hdl] at hrow
                obtain ⟨cur, hgb, hcur, hBg⟩ := own_cur hrow
                have hfit : i * 6 + 1 + 5 ≤ cp.length * 6 := by omega
                have hst := st_eV hgb hc5 (Nat.le_trans hfit hcur) (by simpa using hcv.one)
                have hp := own_piece hrow hc5 hfit hgb
                rw [← flat_set1 hca.lz hdx.out] at hp
                have hw3 := hb6.out.sz
                have hsa := hbw.size
                have hgq : gb < w3.heap.size := by have := (Array.getElem?_eq_some_iff.1 h8.out).1; omega
                have hsAa := hsA6.out
                have hC : Hid (Cp PA 49 6 wA.heap.size p cp (.slice (some ⟨gb, 0, none⟩) cp.length vc2) (i + 1) (wa.setRow gb (cur.toList.take (i * 6 + 1) ++ c'.toList ++ cur.toList.drop (i * 6 + 1 + 5)).toArray) (ds2.set i (.string (st u.1) :: c'.toList))) := hide1 (hca.step PA.fr (by simp [hc5]) (by omega) rfl (fun k hk => setRow_other wa gb k _ hk) (by rw [hdl]; exact hp) (fun t' ht' => by
                  rw [hu.out] at ht'
                  cases ht'
                  refine ⟨rfl, VA.frame (c := c'.toList) hcv (fun k hk hs => setRow_other wa gb k _ ?_) (fun k hk hs => ⟨?_, ?_⟩)⟩
                  · have : w3.heap.size ≤ k := hk
                    omega
                  · have : w3.heap.size ≤ k := hk
                    omega
                  · intro e
                    have : k = gb := by simpa [Value.ownBlock] using e
                    have : w3.heap.size ≤ k := hk
                    omega))
                have hCb := hide1 (hba.over (Nat.le_trans hwA hBg) (cur.toList.take (i * 6 + 1) ++ c'.toList ++ cur.toList.drop (i * 6 + 1 + 5)).toArray)
                have hCk : Hid (∀ k, w.heap.size + 2 ≤ k → k < wA.heap.size → (wa.setRow gb (cur.toList.take (i * 6 + 1) ++ c'.toList ++ cur.toList.drop (i * 6 + 1 + 5)).toArray).heap[k]? = wA.heap[k]?) := hide1 fun k hk hs => (setRow_other wa gb k _ (by omega)).trans ((hbw.block k (by omega)).trans (hkA6.out k hk hs))
                have hCs : Hid (wA.heap.size ≤ (wa.setRow gb (cur.toList.take (i * 6 + 1) ++ c'.toList ++ cur.toList.drop (i * 6 + 1 + 5)).toArray).heap.size) := hide1 (by simp [World.setRow]; omega)
                generalize (cur.toList.take (i * 6 + 1) ++ c'.toList ++ cur.toList.drop (i * 6 + 1 + 5)).toArray = nw at *
                refine wp_skp (w' := wa.setRow gb nw) (by simp only [execOp, Act.eval]; rw [show a.tmps.getD 54 undef = _ from t7, show a.tmps.getD 52 undef = _ from t6]; simp only [Sem.run_bind, hst, Result.andThen_ok, Sem.run_pure]) ?_
                refine hK a (wa.setRow gb nw) ?_
                have hact := act_puts hdf hsz hsl
                clear hst hp hcv hca hba hrow hr hsl hdf hsz hbw hK t6 t7 ihc
                simp only [List.filterMap_cons, List.filterMap_nil, List.foldl_cons, List.foldl_nil] at hact
                rw [hact]
                generalize a.tmps.getD 45 undef = y45
                generalize a.tmps.getD 46 undef = y46
                generalize a.tmps.getD 47 undef = y47
                generalize a.tmps.getD 48 undef = y48
                generalize a.tmps.getD 49 undef = y49
                generalize a.tmps.getD 50 undef = y50
                generalize a.tmps.getD 51 undef = y51
                generalize a.tmps.getD 52 undef = y52
                generalize a.tmps.getD 53 undef = y53
                generalize a.tmps.getD 54 undef = y54
                clear hact a
                refine (‹∀ (a : Act) (w : World), Code.wp Tryz.prog _ _ a w → _›) _ (wa.setRow gb nw) ?_
                generalize wa.setRow gb nw = w4 at *
                go_wp2
                go_roundw
                case rel => exact ⟨i + 1, _, rfl, by omega, hCb, hC, hCk, hCs⟩
                case measure => simp [intOf]; omega
            · have hie : i = cp.length := by omega
              subst hie
              have hr4 := hb2.out.b4
              have l0 : wr.cell? ⟨w.heap.size, 0, none⟩ = some (.int .i64 k) := by simp only [World.cell?, hb2.out.b2]; rfl
              have l1 : wr.cell? ⟨w.heap.size, 1, none⟩ = some (.int .i64 ki) := by simp only [World.cell?, hb2.out.b2]; rfl
              have l2 : wr.cell? ⟨w.heap.size, 2, none⟩ = some (.string (st s)) := by simp only [World.cell?, hb2.out.b2]; rfl
              have l3 : wr.cell? ⟨w.heap.size, 3, none⟩ = some (.slice va cl.length vc) := by simp only [World.cell?, hb2.out.b2]; rfl
              have l4 : wr.cell? ⟨w.heap.size, 4, none⟩ = some (.slice va2 cp.length vc2) := by simp only [World.cell?, hb2.out.b2]; rfl
              have hz := setRow_heap wr (w.heap.size + 1) _ #[.int .i64 k, .int .i64 ki, .string (st s), .slice va cl.length vc, .slice va2 cp.length vc2] _ _ hr4
              have ha : AnC w (.mk k ki s l p) (.returned (.agg #[.int .i64 k, .int .i64 ki, .string (st s), .slice va cl.length vc, .slice va2 cp.length vc2])) (wr.setRow (w.heap.size + 1) #[.int .i64 k, .int .i64 ki, .string (st s), .slice va cl.length vc, .slice va2 cp.length vc2]) := by
                refine ⟨_, rfl, rfl, blw_own hb2.out.bw (by omega) _, ?_⟩
                have hfr : ∀ k', w.heap.size + 2 ≤ k' → (wr.setRow (w.heap.size + 1) #[.int .i64 k, .int .i64 ki, .string (st s), .slice va cl.length vc, .slice va2 cp.length vc2]).heap[k']? = wr.heap[k']? := fun k' hk' => setRow_other wr _ k' _ (by omega)
                have r1' := (own_rows hc.out.row hc.out.lz (F := fun k => w.heap.size + 2 ≤ k) (fun k hk => hk)).frame (w' := wr.setRow (w.heap.size + 1) #[.int .i64 k, .int .i64 ki, .string (st s), .slice va cl.length vc, .slice va2 cp.length vc2]) (G := (w.heap.size ≤ ·)) (fun k' hk hs => (hfr k' hk).trans (hkA.out k' hk hs)) (fun k' hk _ => by show w.heap.size ≤ k'; have : w.heap.size + 2 ≤ k' := hk; omega)
                have r2' := (own_rows hc2.out.row hc2.out.lz (F := fun k => wA.heap.size ≤ k) (fun k hk => hk)).frame (w' := wr.setRow (w.heap.size + 1) #[.int .i64 k, .int .i64 ki, .string (st s), .slice va cl.length vc, .slice va2 cp.length vc2]) (G := (w.heap.size ≤ ·)) (fun k' hk hs => hfr k' (Nat.le_trans hwA hk)) (fun k' hk _ => by show w.heap.size ≤ k'; have : wA.heap.size ≤ k' := hk; omega)
                have hll := hc.out.ln
                have hpl := hc2.out.ln
                have he1 := e1.out
                have he2 := e2.out
                refine VA.mk (s := s) r1' r2' (by omega) (by omega) (fun j t c h1 h2 => ?_) (fun j q c h1 h2 => ?_) (fun j q c h1 h2 => ?_)
                · have hj := (List.getElem?_eq_some_iff.1 h2).1
                  exact (hc.out.new j t c (by omega) h1 h2).frame (fun k' hk hs => (hfr k' hk.1).trans (hkA.out k' hk.1 hs)) (fun k' hk _ => by show w.heap.size ≤ k'; have := hk.1; omega)
                · have hj := (List.getElem?_eq_some_iff.1 h2).1
                  exact (hc2.out.new j q c (by omega) h1 h2).1
                · have hj := (List.getElem?_eq_some_iff.1 h2).1
                  exact (hc2.out.new j q c (by omega) h1 h2).2.frame (fun k' hk hs => hfr k' (Nat.le_trans hwA hk.1)) (fun k' hk _ => by show w.heap.size ≤ k'; have := hk.1; omega)
              replace ha := hide1 ha
              replace hz := hide1 hz
              clear hb2 hc2 hkA hsA hb hc
              go_wp2_with (refine wpList_store_row rfl Vt (.tmp 4) (.tmp 56) rfl (w.heap.size + 1) #[.int .i64 k, .int .i64 ki, .string (st s), .slice va cl.length vc, .slice va2 cp.length vc2] rfl rfl Vt _ hr4 (by kernel_rfl) rfl (by kernel_rfl) ?_)
              refine bodyPost_ret (results_v1 rfl _ rfl rfl hz.out) rfl ?_
              exact ha.out
theorem copied_d : ∀ (n : Nat) {F : Nat → Prop} {w : World} {t : T} {c : List Value} {d : Nat}, hgt n t → n ≤ d → d ≤ 65536 → VA F w t c → Calls Tryz.prog 44 #[.agg c.toArray, .int .i64 (d : Nat)] w (AnC w t)
  | 0, F, w, t, c, d, hh, _, _, _ => hh.elim
  | n + 1, F, w, t, c, d, hh, hnd, hd6, h => copied_s (fun h1 h2 => copied_d n (d := d - 1) h1 (by omega) (by omega) h2) hh hnd hd6 h
end Go.Proofs.YthgndmgoilfpcaaGreatDoor

namespace Go.Proofs.YthgndmgoilfpcaaGreatDoor
open Go.RowKit Go.Shelf
attribute [local go_sem] Oper.semAt_some

theorem wpListIn_ldm {F : Fence} {n : Nat} {ops : Array Oper} {rest : List Oper} {op : Oper} {a : Act} {w : World} {Q : Exit → Act → World → Prop} (hgd : op.guard = none) (ty : TypeId) (x : Operand) (ho : op.op = .load ty x)
    (b o : Nat) (hx : a.eval x = .pointer (some ⟨b, o, none⟩)) (cs : List Value) (d : TypeDesc) (hc : w.rangeAt b o cs) (hu : Tryz.prog.underlying ty = some d) (hd : d.isRow = true) (hi : (Tryz.prog.info? ty).map (·.size) = some cs.length)
    (h : wpListIn F n Tryz.prog ops Q rest (a.put op.dst (.agg cs.toArray)) w) : wpListIn F n Tryz.prog ops Q (op :: rest) a w := by
  refine wpListIn_plain hgd fun K hK => ?_
  unfold Oper.wpIn
  refine ⟨by simp [Oper.about, ho], ?_⟩
  rw [Oper.semAt_plain F _ _ (by rw [ho]; intro c hc'; cases hc')]
  unfold execOp
  simp only [ho, hx, Instr.loadAt, Instr.sureAddr, Sem.run_bind, Sem.run_pure, Result.andThen_ok, run_loadVar_mid w b o ty cs d hc hu hd hi]
  exact hK _ _ h
theorem wpListIn_str {F : Fence} {n : Nat} {ops : Array Oper} {rest : List Oper} {o : Oper} {a : Act} {w : World} {Q : Exit → Act → World → Prop} (hgd : o.guard = none) (ty : TypeId) (x y : Operand) (ho : o.op = .store ty x y)
    (g : Nat) (cells : Array Value) (hx : a.eval x = .pointer (some ⟨g, 0, none⟩)) (hy : a.eval y = .agg cells) (t : TypeId) (old : Array Value) (hg : w.heap[g]? = some (.cells old t (0, 0))) (hi : (Tryz.prog.info? ty).map (·.size) = some cells.size)
    (hold : old.size = cells.size) (h1 : cells.all (·.oneCell') = true) (h : wpListIn F n Tryz.prog ops Q rest (a.put o.dst undef) (w.setRow g cells)) : wpListIn F n Tryz.prog ops Q (o :: rest) a w := by
  refine wpListIn_plain hgd fun K hK => ?_
  unfold Oper.wpIn
  refine ⟨by simp [Oper.about, ho], ?_⟩
  rw [Oper.semAt_plain F _ _ (by rw [ho]; intro c hc'; cases hc')]
  unfold execOp
  simp only [ho, hx, hy, Instr.storeAt, Instr.sureAddr, Sem.run_bind, Sem.run_pure, Result.andThen_ok, run_storeVar_row w g t ty old cells hg hi hold h1]
  exact hK _ _ h
def hnd (c : List Value) : Value × Value := (c.headD undef, .agg c.tail.toArray)
theorem hnd_len (cp : List (List Value)) : (cp.map hnd).length = cp.length := by simp
set_option maxHeartbeats 400000 in
theorem pairs_d (c : Array Value) (w : World) : Calls Tryz.prog 43 #[.agg c] w fun e w' => e = .returned (.func (.func 77) #[] #[.pointer (some ⟨w.heap.size, 0, none⟩)]) ∧ w' = w.alloc (.cells c 28) := by
  go_enter Tryz.func43, Tryz.ntmps43
  go_wp2
  go_ret
  exact ⟨rfl, rfl⟩
set_option maxRecDepth 100000 in
set_option maxHeartbeats 4000000 in
theorem pairs_seq {F : Nat → Prop} {w0 w : World} {bx : Nat} {ki : Int} {s : Value} {sl sp : Value} {cp : List (List Value)} (hn : cp.length ≤ 1000000) (h : RwA F w0 49 6 sp cp) (hon : ∀ c ∈ cp, c.all (·.oneCell') = true) (hbw : Below w0.heap.size w0 w)
    (hbx : w.heap[bx]? = some (.cells #[.int .i64 5, .int .i64 ki, s, sl, sp] 28 (0, 0))) : SeqY 77 #[.pointer (some ⟨bx, 0, none⟩)] (cp.map hnd) (fun j => j < w0.heap.size ∨ j = bx) w := by
  intro l J Jx W hW hJ hJx hY h0
  have hxl := (Array.getElem?_eq_some_iff.1 hbx).1
  have hbW := (hW.block bx hxl).trans hbx
  have c0 : W.cell? ⟨bx, 0, none⟩ = some (.int .i64 5) := by simp only [World.cell?, hbW]; rfl
  have c4 : W.cell? ⟨bx, 4, none⟩ = some sp := by simp only [World.cell?, hbW]; rfl
  have hB0 : Below w0.heap.size w0 W := hbw.trans (hW.mono hbw.size)
  obtain ⟨va, vc, rfl⟩ : ∃ va vc, sp = .slice va cp.length vc := by
    obtain ⟨_, ⟨a, cap, h1, h2⟩ | ⟨b, o, cap, cur, fz, h1, _⟩⟩ := h
    · exact ⟨a, cap, by rw [h1, h2]; rfl⟩
    · exact ⟨_, cap, h1⟩
  rw [hnd_len] at *
  have hXK : Kx W.heap.size (fun j => j < w0.heap.size ∨ j = bx) W W := Kx.refl _ _ _
  replace h := hide1 h
  replace hB0 := hide1 hB0
  replace hY := hide1 hY
  replace hbW := hide1 hbW
  replace hJ := hide1 hJ
  replace hon := hide1 hon
  show CallsIn Fence.wide 4 Tryz.prog 77 #[.func (.yield l) #[] #[], .pointer (some ⟨bx, 0, none⟩)] W _
  refine callsIn_of_wp Tryz.func77 rfl trivial ?_ rfl
  simp only [Tryz.ntmps77, List.size_toArray, List.length_cons, List.length_nil, Nat.reduceAdd, Nat.reduceSub, Array.replicate_succ, Array.replicate_zero, List.push_toArray, List.append_toArray, List.nil_append, List.cons_append]
  clear hbx
  gi_wp2
  gi_loopw [11] (fun x wr => ∃ k : Nat, x = .int .i64 (k : Nat) ∧ k ≤ cp.length ∧ J k wr ∧ Hid (Kx W.heap.size (fun j => j < w0.heap.size ∨ j = bx) W wr)) (fun x _ => cp.length - (intOf x).toNat)
  case atStart => exact ⟨0, rfl, by omega, h0, hide1 hXK⟩
  case round =>
    obtain ⟨k, rfl, hkn, hJk, hK⟩ := hrel
    by_cases hlt : k < cp.length
    · obtain ⟨x, hx⟩ : ∃ x, cp[k]? = some x := ⟨_, List.getElem?_eq_getElem hlt⟩
      have hx6 := h.out.1 x (List.mem_of_getElem? hx)
      have hox := hon.out x (List.mem_of_getElem? hx)
      obtain ⟨b, o, cap, hve, -, hbl, hr⟩ := h.out.at hx
      have hva : va = some ⟨b, o, none⟩ := by cases hve; rfl
      subst hva
      have hy := hY.out k (by simpa using hlt)
      have hit : (cp.map hnd)[k]'(by simpa using hlt) = hnd x := by
        rw [List.getElem_map]
        congr 1
        have := List.getElem?_eq_getElem hlt
        rw [hx] at this
        exact (Option.some.inj this).symm
      rw [hit] at hy
      obtain ⟨x0, x1, x2, x3, x4, x5, rfl⟩ := arr6 hx6
      have hblk : wr.heap[b]? = w0.heap[b]? := by
        have h1 := hB0.out.block b hbl
        obtain ⟨ob, hob⟩ : ∃ ob, w0.heap[b]? = some ob := ⟨_, Array.getElem?_eq_getElem hbl⟩
        rw [hob] at h1 ⊢
        exact hK.out.same b ob h1 (.inr (.inl hbl))
      have hr2 : wr.rangeAt b (o + k * 6) [x0, x1, x2, x3, x4, x5] := fun j u hj => by
        rw [World.cell?_of_block (w := w0) hblk]
        exact hr j u hj
      have hr6 : (wr.alloc (.cells #[.string ⟨#[]⟩, .int .i64 0, .int .i64 0, .string ⟨#[]⟩, .slice none 0 0, .slice none 0 0] 49)).heap[wr.heap.size]? = some (.cells #[.string ⟨#[]⟩, .int .i64 0, .int .i64 0, .string ⟨#[]⟩, .slice none 0 0, .slice none 0 0] 49 (0, 0)) := by
        show (wr.heap.push _)[wr.heap.size]? = _
        rw [Array.getElem?_push, if_pos rfl]
      have h6 := setRow_heap (wr.alloc (.cells #[.string ⟨#[]⟩, .int .i64 0, .int .i64 0, .string ⟨#[]⟩, .slice none 0 0, .slice none 0 0] 49)) wr.heap.size _ #[x0, x1, x2, x3, x4, x5] _ _ hr6
      have hal : ∀ k, k < wr.heap.size → ((wr.alloc (.cells #[.string ⟨#[]⟩, .int .i64 0, .int .i64 0, .string ⟨#[]⟩, .slice none 0 0, .slice none 0 0] 49)).setRow wr.heap.size #[x0, x1, x2, x3, x4, x5]).heap[k]? = wr.heap[k]? := fun k hk => (setRow_other _ _ k _ (by omega)).trans (by
        show (wr.heap.push _)[k]? = _
        rw [Array.getElem?_push, if_neg (by omega)])
      have hb4 : Below wr.heap.size wr ((wr.alloc (.cells #[.string ⟨#[]⟩, .int .i64 0, .int .i64 0, .string ⟨#[]⟩, .slice none 0 0, .slice none 0 0] 49)).setRow wr.heap.size #[x0, x1, x2, x3, x4, x5]) := ⟨rfl, rfl, rfl, by simp [World.setRow], hal⟩
      have hJ4 : J k ((wr.alloc (.cells #[.string ⟨#[]⟩, .int .i64 0, .int .i64 0, .string ⟨#[]⟩, .slice none 0 0, .slice none 0 0] 49)).setRow wr.heap.size #[x0, x1, x2, x3, x4, x5]) := hJ.out k wr _ none hJk ⟨hb4.os, hb4.tape, hb4.output, hb4.size, fun j hj _ => hb4.block j hj⟩ (fun _ e => by cases e)
      have hK4 : Hid (Kx W.heap.size (fun j => j < w0.heap.size ∨ j = bx) W ((wr.alloc (.cells #[.string ⟨#[]⟩, .int .i64 0, .int .i64 0, .string ⟨#[]⟩, .slice none 0 0, .slice none 0 0] 49)).setRow wr.heap.size #[x0, x1, x2, x3, x4, x5])) := hide1 (hK.out.trans (Kx.below hb4))
      have l0 : ((wr.alloc (.cells #[.string ⟨#[]⟩, .int .i64 0, .int .i64 0, .string ⟨#[]⟩, .slice none 0 0, .slice none 0 0] 49)).setRow wr.heap.size #[x0, x1, x2, x3, x4, x5]).cell? ⟨wr.heap.size, 0, none⟩ = some x0 := by simp only [World.cell?, h6]; rfl
      have l1 : ((wr.alloc (.cells #[.string ⟨#[]⟩, .int .i64 0, .int .i64 0, .string ⟨#[]⟩, .slice none 0 0, .slice none 0 0] 49)).setRow wr.heap.size #[x0, x1, x2, x3, x4, x5]).cell? ⟨wr.heap.size, 1, none⟩ = some x1 := by simp only [World.cell?, h6]; rfl
      have l2 : ((wr.alloc (.cells #[.string ⟨#[]⟩, .int .i64 0, .int .i64 0, .string ⟨#[]⟩, .slice none 0 0, .slice none 0 0] 49)).setRow wr.heap.size #[x0, x1, x2, x3, x4, x5]).cell? ⟨wr.heap.size, 2, none⟩ = some x2 := by simp only [World.cell?, h6]; rfl
      have l3 : ((wr.alloc (.cells #[.string ⟨#[]⟩, .int .i64 0, .int .i64 0, .string ⟨#[]⟩, .slice none 0 0, .slice none 0 0] 49)).setRow wr.heap.size #[x0, x1, x2, x3, x4, x5]).cell? ⟨wr.heap.size, 3, none⟩ = some x3 := by simp only [World.cell?, h6]; rfl
      have l4 : ((wr.alloc (.cells #[.string ⟨#[]⟩, .int .i64 0, .int .i64 0, .string ⟨#[]⟩, .slice none 0 0, .slice none 0 0] 49)).setRow wr.heap.size #[x0, x1, x2, x3, x4, x5]).cell? ⟨wr.heap.size, 4, none⟩ = some x4 := by simp only [World.cell?, h6]; rfl
      have l5 : ((wr.alloc (.cells #[.string ⟨#[]⟩, .int .i64 0, .int .i64 0, .string ⟨#[]⟩, .slice none 0 0, .slice none 0 0] 49)).setRow wr.heap.size #[x0, x1, x2, x3, x4, x5]).cell? ⟨wr.heap.size, 5, none⟩ = some x5 := by simp only [World.cell?, h6]; rfl
      have hyy := hy _ hJ4
      replace hox := hide1 hox
      replace h6 := hide1 h6
      obtain ⟨fn, tmps, assign, body, hyr, hR⟩ := hyy
      simp only [hnd, List.headD_cons, List.tail_cons] at hyr
      clear hb4 hJ4 hJk hK hr hve hx hit hy hal hblk hx6
      gi_wp2_with (first | refine wpListIn_ldm rfl 49 (.tmp 13) rfl b (o + k * 6) rfl [x0, x1, x2, x3, x4, x5] _ hr2 Tryz.underlying49 rfl (by kernel_rfl) ?_ | refine wpListIn_str rfl 49 (.tmp 4) (.tmp 14) rfl wr.heap.size #[x0, x1, x2, x3, x4, x5] rfl rfl 49 _ hr6 (by kernel_rfl) rfl (by simpa using hox.out) ?_)
      refine hR.mono ?_
      rintro e' W5 (⟨rfl, hJ5, hk5⟩ | ⟨rfl, hJx5, hk5⟩)
      · have hK5 := hide1 (hK4.out.trans hk5)
        clear hk5
        gi_wp2
        go_roundw
        case rel => exact ⟨k + 1, rfl, by omega, hJ5, hK5⟩
        case measure => simp [intOf]; omega
      · gi_wp2
        exact bodyPost_ret (results_none rfl _ _ _) rfl ⟨⟨_, rfl⟩, .inr ⟨k, hlt, hJx5⟩⟩
    · have hke : k = cp.length := by omega
      subst hke
      gi_wp2
      exact bodyPost_end (results_none rfl _ _ _) rfl ⟨⟨_, rfl⟩, .inl hJk⟩
end Go.Proofs.YthgndmgoilfpcaaGreatDoor

namespace Go.Proofs.YthgndmgoilfpcaaGreatDoor
open Go.RowKit Go.Shelf
attribute [local go_sem] Oper.semAt_some

set_option maxRecDepth 100000 in
set_option maxHeartbeats 4000000 in
theorem pairs_seq0 {w : World} {bx : Nat} {k ki : Int} {s sl sp : Value} {P : Nat → Prop} (hk : k ≠ 5) (hbx : w.heap[bx]? = some (.cells #[.int .i64 k, .int .i64 ki, s, sl, sp] 28 (0, 0))) : SeqY 77 #[.pointer (some ⟨bx, 0, none⟩)] [] P w := by
  intro l J Jx W hW hJ hJx hY h0
  have hbW := (hW.block bx (Array.getElem?_eq_some_iff.1 hbx).1).trans hbx
  have c0 : W.cell? ⟨bx, 0, none⟩ = some (.int .i64 k) := by simp only [World.cell?, hbW]; rfl
  have hk5 : (k == 5) = false := by simpa using hk
  replace hbW := hide1 hbW
  clear hY hbx
  show CallsIn Fence.wide 4 Tryz.prog 77 #[.func (.yield l) #[] #[], .pointer (some ⟨bx, 0, none⟩)] W _
  refine callsIn_of_wp Tryz.func77 rfl trivial ?_ rfl
  simp only [Tryz.ntmps77, List.size_toArray, List.length_cons, List.length_nil, Nat.reduceAdd, Nat.reduceSub, Array.replicate_succ, Array.replicate_zero, List.push_toArray, List.append_toArray, List.nil_append, List.cons_append]
  gi_wp2
  exact bodyPost_ret (results_none rfl _ _ _) rfl ⟨⟨_, rfl⟩, .inl h0⟩
def getP (k : Int) (p : List (List UInt8 × T)) (n : List UInt8) : Option T := if k = 5 then (p.find? (fun q => q.1 == n)).map (·.2) else none
structure Gb (w : World) (n : List UInt8) (c : Array Value) (b : Bool) (W : World) : Prop where
  bw : Below w.heap.size w W
  b3 : W.heap[w.heap.size + 1]? = some (.cells #[.string (st n)] 9 (0, 0))
  b4 : W.heap[w.heap.size + 2]? = some (.cells c 28 (0, 0))
  b5 : W.heap[w.heap.size + 3]? = some (.cells #[.bool b] 4 (0, 0))
theorem Gb.keep {w W W' : World} {n : List UInt8} {c : Array Value} {b : Bool} (h : Gb w n c b W) (hk : ∀ j, j < W.heap.size → j < w.heap.size + 4 → W'.heap[j]? = W.heap[j]?) (ho : W'.os = W.os) (ht : W'.tape = W.tape) (hu : W'.output = W.output) (hz : W.heap.size ≤ W'.heap.size) : Gb w n c b W' := by
  have l3 := (Array.getElem?_eq_some_iff.1 h.b3).1
  have l4 := (Array.getElem?_eq_some_iff.1 h.b4).1
  have l5 := (Array.getElem?_eq_some_iff.1 h.b5).1
  exact ⟨⟨ho.trans h.bw.os, ht.trans h.bw.tape, hu.trans h.bw.output, Nat.le_trans h.bw.size hz, fun j hj => (hk j (by omega) (by omega)).trans (h.bw.block j hj)⟩, (hk _ l3 (by omega)).trans h.b3, (hk _ l4 (by omega)).trans h.b4, (hk _ l5 (by omega)).trans h.b5⟩
theorem Gb.own {w W W' : World} {n : List UInt8} {c : Array Value} {b : Bool} {row : Option Nat} (h : Gb w n c b W) (hg : W.grownBy W' row) (hr : ∀ r, row = some r → ∃ o : Obj, W.heap[r]? = some o ∧ o.isCells = false ∧ w.heap.size ≤ r) : Gb w n c b W' := by
  have hne : ∀ j cc t, W.heap[j]? = some (.cells cc t (0, 0)) → some j ≠ row := fun j cc t hj e => by
    obtain ⟨o, ho, hc, _⟩ := hr j e.symm
    rw [hj] at ho; cases ho; cases hc
  refine ⟨⟨hg.os.trans h.bw.os, hg.tape.trans h.bw.tape, hg.output.trans h.bw.output, Nat.le_trans h.bw.size hg.size, fun j hj => (hg.block j (Nat.lt_of_lt_of_le hj h.bw.size) (fun e => ?_)).trans (h.bw.block j hj)⟩, (hg.block _ (Array.getElem?_eq_some_iff.1 h.b3).1 (hne _ _ _ h.b3)).trans h.b3, (hg.block _ (Array.getElem?_eq_some_iff.1 h.b4).1 (hne _ _ _ h.b4)).trans h.b4, (hg.block _ (Array.getElem?_eq_some_iff.1 h.b5).1 (hne _ _ _ h.b5)).trans h.b5⟩
  obtain ⟨o, ho, hc, hl⟩ := hr j e.symm
  omega
theorem RwA.frameC {F G : Nat → Prop} {w w' : World} {e : TypeId} {z : Nat} {v : Value} {cs : List (List Value)} (h : RwA F w e z v cs)
    (hk : ∀ k c t f, F k → w.heap[k]? = some (.cells c t f) → w'.heap[k]? = w.heap[k]?) (hG : ∀ k, F k → k < w.heap.size → G k) : RwA G w' e z v cs := by
  obtain ⟨hl, h | ⟨b, o, cap, cur, fz, hv, hF, hb, h1, h2⟩⟩ := h
  · exact ⟨hl, .inl h⟩
  · exact ⟨hl, .inr ⟨b, o, cap, cur, fz, hv, hG b hF (Array.getElem?_eq_some_iff.1 hb).1, (hk b _ _ _ hF hb).trans hb, h1, h2⟩⟩
theorem VA.frameC {F G : Nat → Prop} {w w' : World} {t : T} {c : List Value} (h : VA F w t c)
    (hk : ∀ k c t f, F k → w.heap[k]? = some (.cells c t f) → w'.heap[k]? = w.heap[k]?) (hG : ∀ k, F k → k < w.heap.size → G k) : VA G w' t c := by
  induction h with
  | mk h1 h2 e1 e2 _ h4 _ i1 i2 => exact .mk (h1.frameC hk hG) (h2.frameC hk hG) e1 e2 i1 h4 i2
theorem own_c {W W' : World} {row : Option Nat} (hg : W.grownBy W' row) (hr : ∀ r, row = some r → ∃ o : Obj, W.heap[r]? = some o ∧ o.isCells = false) : ∀ (k : Nat) (c : Array Value) (t : TypeId) (f : Nat × Nat), W.heap[k]? = some (.cells c t f) → W'.heap[k]? = W.heap[k]? := fun k c t f hk =>
  hg.block k (Array.getElem?_eq_some_iff.1 hk).1 (fun e => by
    obtain ⟨o, ho, hc⟩ := hr k e.symm
    rw [hk] at ho; cases ho; cases hc)
def AnG (w : World) (o : Option T) (e : Ending) (w' : World) : Prop :=
  ∃ c : Array Value, e = .returned (.tuple #[.agg c, .bool o.isSome]) ∧ c.size = 5 ∧ c.all (·.oneCell') = true ∧ Below w.heap.size w w' ∧ ((∃ t, o = some t ∧ VA (w.heap.size ≤ ·) w' t c.toList) ∨ (o = none ∧ c = zV))
theorem results_gt {fn : Func} {t u : Tmp} (h : fn.results = #[.cell t Vt, .cell u 4]) (tmps : Array Value) {w : World} {b b' : Nat} {c : Array Value} {x : Bool} (ht : tmps.getD t undef = .pointer (some ⟨b, 0, none⟩)) (hu : tmps.getD u undef = .pointer (some ⟨b', 0, none⟩)) (hs : c.size = 5) (hg : w.heap[b]? = some (.cells c Vt (0, 0))) (hb : w.heap[b']? = some (.cells #[.bool x] 4 (0, 0))) :
    (results fn tmps).run Tryz.prog w = .ok (.tuple #[.agg c, .bool x]) w := by
  have hl := run_loadVar_row (P := Tryz.prog) w b Vt Vt c (0, 0) _ hg Tryz.underlying28 (by rfl) (by rw [hs]; kernel_rfl)
  have hc : w.cell? ⟨b', 0, none⟩ = some (.bool x) := by simp [World.cell?, hb]
  have ht2 : tmps[t]?.getD undef = .pointer (some ⟨b, 0, none⟩) := by simpa using ht
  have hu2 : tmps[u]?.getD undef = .pointer (some ⟨b', 0, none⟩) := by simpa using hu
  have hl2 : (loadVar 4 ⟨b', 0, none⟩).run Tryz.prog w = .ok (.bool x) w := by simp [go_sem, hc]
  simp [results, h, ht2, hu2, asAddr, hl, hl2, Result.andThen]
theorem blw_done {w W : World} {D : Nat} {o o' : Obj} (h : Below w.heap.size w W) (hD : w.heap.size ≤ D) (ho : W.heap[D]? = some o) : Below w.heap.size w (W.putObj D o') :=
  h.trans ((Below.refl _ W).grown (grownBy_putObj' W D o') (by have := (Array.getElem?_eq_some_iff.1 ho).1; omega) (fun k e => by cases e; exact hD))
theorem Kx.row {h b : Nat} {P : Nat → Prop} {W0 W : World} (x : Kx h P W0 W) (c : Array Value) (hb : b < h) (hP : ¬ P b) : Kx h P W0 (W.setRow b c) := ⟨by simpa [World.setRow] using x.size, fun j ob h1 h2 => (setRow_other W b j c (by rintro rfl; rcases h2 with h2 | h2 <;> first | omega | exact hP h2)).trans (x.same j ob h1 h2)⟩
theorem find_snoc {qs : List (List UInt8 × T)} {k : Nat} {q : List UInt8 × T} (hq : qs[k]? = some q) {f : List UInt8 × T → Bool} (h : (qs.take k).find? f = none) : (qs.take (k + 1)).find? f = if f q then some q else none := by
  rw [List.take_add_one, hq, Option.toList_some, List.find?_append, h, Option.none_or, List.find?_singleton]
theorem find_of {qs : List (List UInt8 × T)} {k : Nat} {f : List UInt8 × T → Bool} {q : List UInt8 × T} (h : (qs.take k).find? f = some q) : qs.find? f = some q := by
  rw [← List.take_append_drop k qs, List.find?_append, h]; rfl
set_option maxRecDepth 100000 in
set_option maxHeartbeats 8000000 in
theorem get_in {n : Nat} {F : Nat → Prop} {w : World} {c0 : Array Value} {qs : List (List UInt8 × T)} {cp : List (List Value)} {nm : List UInt8} (hc0 : c0.size = 5) (hc1 : c0.all (·.oneCell') = true) (hn : n ≤ 65536) (hln : cp.length = qs.length)
    (hq : ∀ (j : Nat) (q : List UInt8 × T) (x : List Value), qs[j]? = some q → cp[j]? = some x → PA F w q x ∧ x.length = 6 ∧ hgt n q.2)
    (hseq : ∀ W, Below w.heap.size w W → (∃ bx, bx = w.heap.size + 4 ∧ W.heap[bx]? = some (.cells c0 28 (0, 0))) → SeqY 77 #[.pointer (some ⟨w.heap.size + 4, 0, none⟩)] (cp.map hnd) (fun j => j < w.heap.size ∨ j = w.heap.size + 4) W) :
    CallsIn Fence.wide 5 Tryz.prog 29 #[.agg c0, .string (st nm)] w (AnG w ((qs.find? (fun q => q.1 == nm)).map (·.2))) := by
  obtain ⟨y0, y1, y2, y3, y4, rfl⟩ := arr5 hc0
  obtain ⟨o, ho⟩ : ∃ o, Hid (o = (qs.find? (fun q => q.1 == nm)).map (·.2)) := ⟨_, hide1 rfl⟩
  rw [← ho.out]
  refine callsIn_of_wp_marks Tryz.func29 rfl trivial ?_ rfl
  simp only [Tryz.ntmps29, List.size_toArray, List.length_cons, List.length_nil, Nat.reduceAdd, Nat.reduceSub, Array.replicate_succ, Array.replicate_zero, List.push_toArray, List.append_toArray, List.nil_append, List.cons_append]
  replace hseq := hide1 hseq
  replace hq := hide1 hq
  replace hc1 := hide1 hc1
  gi_wp2
  refine ⟨trivial, (callsIn_wide.2 (pairs_d _ _)).mono ?_⟩
  rintro e W1 ⟨rfl, rfl⟩
  have hbw : Below w.heap.size w (((((w.alloc (.cells #[y0, y1, y2, y3, y4] 28)).alloc (.cells #[.string (st nm)] 9)).alloc (.cells #[.int .i64 0, .int .i64 0, .string ⟨#[]⟩, .slice none 0 0, .slice none 0 0] 28)).alloc (.cells #[.bool false] 4)).alloc (.cells #[y0, y1, y2, y3, y4] 28)) := blw_al (blw_al (blw_al (blw_al (blw_al (Below.refl _ _) (Nat.le_refl _) _) (by simp) _) (by simp; omega) _) (by simp; omega) _) (by simp; omega) _
  have hsz : (((((w.alloc (.cells #[y0, y1, y2, y3, y4] 28)).alloc (.cells #[.string (st nm)] 9)).alloc (.cells #[.int .i64 0, .int .i64 0, .string ⟨#[]⟩, .slice none 0 0, .slice none 0 0] 28)).alloc (.cells #[.bool false] 4)).alloc (.cells #[y0, y1, y2, y3, y4] 28)).heap.size = w.heap.size + 5 := by simp
  have hG : Gb w nm zV false (((((w.alloc (.cells #[y0, y1, y2, y3, y4] 28)).alloc (.cells #[.string (st nm)] 9)).alloc (.cells #[.int .i64 0, .int .i64 0, .string ⟨#[]⟩, .slice none 0 0, .slice none 0 0] 28)).alloc (.cells #[.bool false] 4)).alloc (.cells #[y0, y1, y2, y3, y4] 28)) := by
    refine ⟨hbw, ?_, ?_, ?_⟩
    · show (((((w.heap.push _).push _).push _).push _).push _)[w.heap.size + 1]? = _
      rw [Array.getElem?_push, if_neg (by simp), Array.getElem?_push, if_neg (by simp), Array.getElem?_push, if_neg (by simp), Array.getElem?_push, if_pos (by simp)]
    · show (((((w.heap.push _).push _).push _).push _).push _)[w.heap.size + 2]? = _
      rw [Array.getElem?_push, if_neg (by simp), Array.getElem?_push, if_neg (by simp), Array.getElem?_push, if_pos (by simp)]
      rfl
    · show (((((w.heap.push _).push _).push _).push _).push _)[w.heap.size + 3]? = _
      rw [Array.getElem?_push, if_neg (by simp), Array.getElem?_push, if_pos (by simp)]
  have hbx : (((((w.alloc (.cells #[y0, y1, y2, y3, y4] 28)).alloc (.cells #[.string (st nm)] 9)).alloc (.cells #[.int .i64 0, .int .i64 0, .string ⟨#[]⟩, .slice none 0 0, .slice none 0 0] 28)).alloc (.cells #[.bool false] 4)).alloc (.cells #[y0, y1, y2, y3, y4] 28)).heap[w.heap.size + 4]? = some (.cells #[y0, y1, y2, y3, y4] 28 (0, 0)) := by
    show (((((w.heap.push _).push _).push _).push _).push _)[w.heap.size + 4]? = _
    rw [Array.getElem?_push, if_pos (by simp)]
  have hsq := hseq.out _ hbw ⟨_, rfl, hbx⟩
  gi_wp2
  generalize (((((w.alloc (.cells #[y0, y1, y2, y3, y4] 28)).alloc (.cells #[.string (st nm)] 9)).alloc (.cells #[.int .i64 0, .int .i64 0, .string ⟨#[]⟩, .slice none 0 0, .slice none 0 0] 28)).alloc (.cells #[.bool false] 4)).alloc (.cells #[y0, y1, y2, y3, y4] 28)) = W0 at *
  refine range_y (w := W0) (gf := 77) (lb := #[.pointer (some ⟨w.heap.size + 4, 0, none⟩)]) rfl (fun _ _ => by kernel_rfl) hsq (fun j hj => by rw [hsz]; rcases hj with hj | hj <;> omega)
    (fun k W => Gb w nm zV false W ∧ (qs.take k).find? (fun q => q.1 == nm) = none)
    (fun c _ W => c = .ret ∧ ∃ (x : T) (c' : Array Value), o = some x ∧ c'.size = 5 ∧ c'.all (·.oneCell') = true ∧ Gb w nm c' true W ∧ VA (w.heap.size + 5 ≤ ·) W x c'.toList) ?hI ?hIx ⟨hG, rfl⟩ ?round ?done ?stop
  case hI =>
    intro k A B row h hg hr
    exact ⟨h.1.own hg (fun r e => by obtain ⟨h1, ob, h2, h3⟩ := hr r e; exact ⟨ob, h2, h3, by omega⟩), h.2⟩
  case hIx =>
    rintro c k A B row ⟨hc, x, c', h1, h2, h3, h4, h5⟩ hg hr
    exact ⟨hc, x, c', h1, h2, h3, h4.own hg (fun r e => by obtain ⟨h1, ob, h2, h3⟩ := hr r e; exact ⟨ob, h2, h3, by omega⟩), h5.frameC (fun k c t f _ hk => own_c hg (fun r e => (hr r e).2) k c t f hk) (fun _ h _ => h)⟩
  case round =>
    intro lq k hk W Kq hz hI hK
    rw [hnd_len] at hk
    obtain ⟨x, hx⟩ : ∃ x, cp[k]? = some x := ⟨_, List.getElem?_eq_getElem hk⟩
    obtain ⟨q, hqk⟩ : ∃ q, qs[k]? = some q := ⟨_, List.getElem?_eq_getElem (by omega)⟩
    obtain ⟨hpa, hx6, hhg⟩ := hq.out k q x hqk hx
    have hit : (cp.map hnd)[k]'(by rw [hnd_len]; exact hk) = hnd x := by
      rw [List.getElem_map]
      congr 1
      have := List.getElem?_eq_getElem hk
      rw [hx] at this
      exact (Option.some.inj this).symm
    rw [hit]
    obtain ⟨x0, x1, x2, x3, x4, x5, rfl⟩ := arr6 hx6
    have hx0 : x0 = .string (st q.1) := by simpa using hpa.1
    subst hx0
    have hva : VA F w q.2 [x1, x2, x3, x4, x5] := hpa.2
    have hon := hva.one
    simp only [hnd, List.headD_cons, List.tail_cons]
    have hr7 : (W.alloc (.cells #[.int .i64 0, .int .i64 0, .string ⟨#[]⟩, .slice none 0 0, .slice none 0 0] 28)).heap[W.heap.size]? = some (.cells #[.int .i64 0, .int .i64 0, .string ⟨#[]⟩, .slice none 0 0, .slice none 0 0] 28 (0, 0)) := by
      show (W.heap.push _)[W.heap.size]? = _
      rw [Array.getElem?_push, if_pos rfl]
    have h7 := setRow_heap (W.alloc (.cells #[.int .i64 0, .int .i64 0, .string ⟨#[]⟩, .slice none 0 0, .slice none 0 0] 28)) W.heap.size _ #[x1, x2, x3, x4, x5] _ _ hr7
    have hal : ∀ j, j < W.heap.size → ((W.alloc (.cells #[.int .i64 0, .int .i64 0, .string ⟨#[]⟩, .slice none 0 0, .slice none 0 0] 28)).setRow W.heap.size #[x1, x2, x3, x4, x5]).heap[j]? = W.heap[j]? := fun j hj => (setRow_other _ _ j _ (by omega)).trans (by
      show (W.heap.push _)[j]? = _
      rw [Array.getElem?_push, if_neg (by omega)])
    have hb7 : Below W.heap.size W ((W.alloc (.cells #[.int .i64 0, .int .i64 0, .string ⟨#[]⟩, .slice none 0 0, .slice none 0 0] 28)).setRow W.heap.size #[x1, x2, x3, x4, x5]) := ⟨rfl, rfl, rfl, by simp [World.setRow], hal⟩
    have hs7 : ((W.alloc (.cells #[.int .i64 0, .int .i64 0, .string ⟨#[]⟩, .slice none 0 0, .slice none 0 0] 28)).setRow W.heap.size #[x1, x2, x3, x4, x5]).heap.size = W.heap.size + 1 := by simp [World.setRow]
    have hf := find_snoc hqk hI.2
    replace hon := hide1 hon
    replace hva := hide1 hva
    clear hit hx hpa hx6 hal
    gi_wp2_with (refine wpListIn_str rfl 28 (.tmp 7) (.tmp 11) rfl W.heap.size #[x1, x2, x3, x4, x5] rfl rfl 28 _ hr7 (by kernel_rfl) rfl (by simpa using hon.out) ?_)
    refine hK _ _ hb7 ?_
    rintro W2 hsame hs2 ⟨hG2, hf2⟩
    have h72 := (hsame W.heap.size (by omega)).trans h7
    have l0 : W2.cell? ⟨W.heap.size, 0, none⟩ = some x1 := by simp only [World.cell?, h72]; rfl
    have l1 : W2.cell? ⟨W.heap.size, 1, none⟩ = some x2 := by simp only [World.cell?, h72]; rfl
    have l2 : W2.cell? ⟨W.heap.size, 2, none⟩ = some x3 := by simp only [World.cell?, h72]; rfl
    have l3 : W2.cell? ⟨W.heap.size, 3, none⟩ = some x4 := by simp only [World.cell?, h72]; rfl
    have l4 : W2.cell? ⟨W.heap.size, 4, none⟩ = some x5 := by simp only [World.cell?, h72]; rfl
    have c3 : W2.cell? ⟨w.heap.size + 1, 0, none⟩ = some (.string (st nm)) := by simp only [World.cell?, hG2.b3]; rfl
    have hse := st_eq q.1 nm
    have hsz2 : w.heap.size + 5 ≤ W2.heap.size := by rw [hs2, hs7]; omega
    by_cases hqn : q.1 = nm
    · have heq : ((st q.1).toList == (st nm).toList) = true := by rw [hse]; exact decide_eq_true hqn
      have hoq : o = some q.2 := by
        rw [ho.out, find_of (k := k + 1) (by rw [hf, if_pos (by simpa using hqn)])]; rfl
      have hcop := copied_d n (d := 65536) hhg hn (by omega) (hva.out.frame (w' := W2) (G := F) (fun j _ hj => hG2.bw.block j hj) (fun _ h _ => h))
      have hb4 := hG2.b4
      have hb5 := hG2.b5
      replace hG2 := hide1 hG2
      replace hoq := hide1 hoq
      clear hK hsame h72 h7 hse hf hf2 hI
      gi_wp2
      refine ⟨trivial, (CallsIn.inRound lq (callsIn_wide.2 hcop)).mono ?_⟩
      rintro e W3 ⟨c', rfl, hc5, b3, hv3⟩
      have hon3 := hv3.one
      obtain ⟨z0, z1, z2, z3, z4, rfl⟩ := arr5 hc5
      have hr4 := (b3.block _ (Array.getElem?_eq_some_iff.1 hb4).1).trans hb4
      have hr5 := (b3.block _ (Array.getElem?_eq_some_iff.1 hb5).1).trans hb5
      have hr45 := (setRow_other W3 (w.heap.size + 2) (w.heap.size + 3) #[z0, z1, z2, z3, z4] (by omega)).trans hr5
      have c5 : (W3.setRow (w.heap.size + 2) #[z0, z1, z2, z3, z4]).cell? ⟨w.heap.size + 3, 0, none⟩ = some (.bool false) := by simp only [World.cell?, hr45]; rfl
      have f5 : (W3.setRow (w.heap.size + 2) #[z0, z1, z2, z3, z4]).frozen? ⟨w.heap.size + 3, 0, none⟩ = false := by simp [World.frozen?, hr45]
      have hw5 : (W3.setRow (w.heap.size + 2) #[z0, z1, z2, z3, z4]).setCell ⟨w.heap.size + 3, 0, none⟩ (.bool true) = (W3.setRow (w.heap.size + 2) #[z0, z1, z2, z3, z4]).setRow (w.heap.size + 3) #[.bool true] := by
        rw [setCell_eq_setRow _ (w.heap.size + 3) 0 _ _ (0, 0) _ hr45]; rfl
      have hfin : Hid (outX W0.heap.size (fun j => j < w.heap.size ∨ j = w.heap.size + 4) (fun k W => Gb w nm zV false W ∧ (qs.take k).find? (fun q => q.1 == nm) = none)
          (fun c _ W => c = .ret ∧ ∃ (x : T) (c' : Array Value), o = some x ∧ c'.size = 5 ∧ c'.all (·.oneCell') = true ∧ Gb w nm c' true W ∧ VA (w.heap.size + 5 ≤ ·) W x c'.toList) k W2 .ret { tmps := #[], defers := [] } ((W3.setRow (w.heap.size + 2) #[z0, z1, z2, z3, z4]).setCell ⟨w.heap.size + 3, 0, none⟩ (.bool true))) := hide1 (by
        rw [hw5]
        refine ⟨((Kx.below b3).row _ (by omega) (by omega)).row _ (by omega) (by omega), rfl, q.2, #[z0, z1, z2, z3, z4], hoq.out, rfl, by simpa using hon3, ?_, ?_⟩
        · have g := hG2.out
          refine ⟨blw_own (blw_own (g.bw.trans (b3.mono g.bw.size)) (by omega) _) (by omega) _, ?_, ?_, ?_⟩
          · exact (setRow_other _ _ _ _ (by omega)).trans ((setRow_other _ _ _ _ (by omega)).trans ((b3.block _ (Array.getElem?_eq_some_iff.1 g.b3).1).trans g.b3))
          · exact (setRow_other _ _ _ _ (by omega)).trans (setRow_heap W3 _ _ _ _ _ hr4)
          · exact setRow_heap _ _ _ _ _ _ hr45
        · refine hv3.frame (fun j hj _ => (setRow_other _ _ j _ ?_).trans (setRow_other _ _ j _ ?_)) (fun j hj _ => Nat.le_trans hsz2 hj)
          · have : W2.heap.size ≤ j := hj
            omega
          · have : W2.heap.size ≤ j := hj
            omega)
      replace hon3 := hide1 hon3
      clear hw5 hv3 b3 hcop hb4 hb5 hr5 hr45
      gi_wp2_with (refine wpListIn_str rfl 28 (.tmp 4) (.tmp 16) rfl (w.heap.size + 2) #[z0, z1, z2, z3, z4] rfl rfl 28 _ hr4 (by kernel_rfl) rfl (by simpa using hon3.out) ?_)
      exact hfin.out
    · have heq : ((st q.1).toList == (st nm).toList) = false := by rw [hse]; exact decide_eq_false hqn
      have hfin : Hid (Kx W0.heap.size (fun j => j < w.heap.size ∨ j = w.heap.size + 4) W2 W2 ∧ Gb w nm zV false W2 ∧ (qs.take (k + 1)).find? (fun q => q.1 == nm) = none) := hide1 ⟨Kx.refl _ _ _, hG2, by rw [hf, if_neg (by simpa using hqn)]⟩
      clear hK hsame h72 h7 hse hf hf2 hI hG2
      gi_wp2
      exact hfin.out
  case done =>
    rintro D W hD ⟨hGW, hf⟩ hK
    have hon : o = none := by
      rw [hnd_len, List.take_of_length_le (by omega)] at hf
      rw [ho.out, hf]; rfl
    have hr4 := hGW.b4
    have hr45 := (setRow_other W (w.heap.size + 2) (w.heap.size + 3) zV (by omega)).trans hGW.b5
    have c5 : (W.setRow (w.heap.size + 2) zV).cell? ⟨w.heap.size + 3, 0, none⟩ = some (.bool false) := by simp only [World.cell?, hr45]; rfl
    have f5 : (W.setRow (w.heap.size + 2) zV).frozen? ⟨w.heap.size + 3, 0, none⟩ = false := by simp [World.frozen?, hr45]
    have hw5 : (W.setRow (w.heap.size + 2) zV).setCell ⟨w.heap.size + 3, 0, none⟩ (.bool false) = (W.setRow (w.heap.size + 2) zV).setRow (w.heap.size + 3) #[.bool false] := by
      rw [setCell_eq_setRow _ (w.heap.size + 3) 0 _ _ (0, 0) _ hr45]; rfl
    have hDK : ((W.setRow (w.heap.size + 2) zV).setCell ⟨w.heap.size + 3, 0, none⟩ (.bool false)).heap[D]? = some (.deferred (some [])) := by
      rw [hw5]
      exact (setRow_other _ _ _ _ (by omega)).trans ((setRow_other _ _ _ _ (by omega)).trans hK)
    have hb4 : ((W.setRow (w.heap.size + 2) zV).setCell ⟨w.heap.size + 3, 0, none⟩ (.bool false)).heap[w.heap.size + 2]? = some (.cells zV 28 (0, 0)) := by
      rw [hw5]
      exact (setRow_other _ _ _ _ (by omega)).trans (setRow_heap W _ _ _ _ _ hr4)
    have hb5 : ((W.setRow (w.heap.size + 2) zV).setCell ⟨w.heap.size + 3, 0, none⟩ (.bool false)).heap[w.heap.size + 3]? = some (.cells #[.bool false] 4 (0, 0)) := by
      rw [hw5]
      exact setRow_heap _ _ _ _ _ _ hr45
    have hbb : Below w.heap.size w ((W.setRow (w.heap.size + 2) zV).setCell ⟨w.heap.size + 3, 0, none⟩ (.bool false)) := by
      rw [hw5]
      exact blw_own (blw_own hGW.bw (by omega) _) (by omega) _
    replace hDK := hide1 hDK
    replace hb4 := hide1 hb4
    replace hb5 := hide1 hb5
    replace hbb := hide1 hbb
    replace hon := hide1 hon
    clear hGW hf hw5 hr45
    gi_wp2_with (refine wpListIn_str rfl 28 (.tmp 4) (.tmp 17) rfl (w.heap.size + 2) zV rfl rfl 28 _ hr4 (by kernel_rfl) rfl (by kernel_rfl) ?_)
    refine ⟨by simp, .inl ⟨_, _, rfl, run_takeDeferred hDK.out, ?_⟩⟩
    refine ⟨_, results_gt rfl _ rfl rfl rfl ((World.putObj_heap_other (by omega)).trans hb4.out) ((World.putObj_heap_other (by omega)).trans hb5.out), ?_⟩
    exact ⟨zV, by rw [hon.out]; rfl, rfl, by kernel_rfl, blw_done hbb.out (by omega) hDK.out, .inr ⟨hon.out, rfl⟩⟩
  case stop =>
    rintro D c k W hD hk ⟨rfl, x, c', h1, h2, h3, h4, h5⟩ hK
    gi_wp2
    refine ⟨by simp, .inl ⟨_, _, rfl, run_takeDeferred hK, ?_⟩⟩
    refine ⟨_, results_gt rfl _ rfl rfl h2 ((World.putObj_heap_other (by omega)).trans h4.b4) ((World.putObj_heap_other (by omega)).trans h4.b5), ?_⟩
    refine ⟨c', by rw [h1]; rfl, h2, h3, blw_done h4.bw (by omega) hK, .inl ⟨x, h1, h5.frameC (fun j c t f _ hj => ?_) (fun j hj _ => by show w.heap.size ≤ j; have : w.heap.size + 5 ≤ j := hj; omega)⟩⟩
    exact World.putObj_heap_other (by rintro rfl; rw [hK] at hj; cases hj)
end Go.Proofs.YthgndmgoilfpcaaGreatDoor

namespace Go.Proofs.YthgndmgoilfpcaaGreatDoor
open Go.RowKit Go.Shelf

theorem get_d {n : Nat} {F : Nat → Prop} {w : World} {k ki : Int} {s nm : List UInt8} {l : List T} {p : List (List UInt8 × T)} {c : List Value} (hh : hgt (n + 1) (.mk k ki s l p)) (hn : n ≤ 65536) (h : VA F w (.mk k ki s l p) c) : Calls Tryz.prog 29 #[.agg c.toArray, .string (st nm)] w (AnG w (getP k p nm)) := by
  have h5 := h.len
  have h1 := h.one
  obtain ⟨b1, b2, hl1, hl2⟩ := hh
  cases h with
  | @mk _ _ _ _ _ sl sp cl cp r1 r2 e1 e2 hl hp1 hp2 =>
    refine (callsIn_wide (n := 5)).1 ?_
    by_cases hk : k = 5
    · subst hk
      unfold getP
      rw [if_pos rfl]
      refine get_in (cp := cp) rfl (by simpa using h1) hn e2 (fun j q x hq hx => ⟨⟨hp1 j q x hq hx, hp2 j q x hq hx⟩, r2.1 x (List.mem_of_getElem? hx), hl2 q (List.mem_of_getElem? hq)⟩) (fun W hb ⟨bx, e, hbx⟩ => ?_)
      subst e
      refine pairs_seq (by omega) r2 (fun x hx => ?_) hb hbx
      obtain ⟨j, hj, rfl⟩ := List.mem_iff_getElem.1 hx
      have hj2 : j < p.length := by omega
      have g1 := hp1 j _ _ (List.getElem?_eq_getElem hj2) (List.getElem?_eq_getElem hj)
      have g2 := (hp2 j _ _ (List.getElem?_eq_getElem hj2) (List.getElem?_eq_getElem hj)).one
      generalize cp[j] = x at *
      cases x with
      | nil => cases g1
      | cons a b =>
        simp at g1
        subst g1
        simpa [Value.oneCell'] using g2
    · unfold getP
      rw [if_neg hk]
      have := get_in (n := n) (F := F) (w := w) (qs := []) (cp := []) (nm := nm) (c0 := #[.int .i64 k, .int .i64 ki, .string (st s), sl, sp]) rfl (by simpa using h1) hn rfl (by simp) (fun W hb ⟨bx, e, hbx⟩ => by
        subst e
        exact pairs_seq0 hk hbx)
      exact this
def tx1 : List UInt8 := [123, 34, 97, 34, 58, 32, 91, 49, 44, 32, 45, 50, 44, 32, 34, 92, 117, 48, 48, 101, 57, 34, 93, 125]
def tx2 : List UInt8 := [91, 48, 49, 93]
def tv1 : T := .mk 5 0 [] [] [([97], .mk 4 0 [] [.mk 2 1 [] [] [], .mk 2 (-2) [] [] [], .mk 3 0 [195, 169] [] []] [])]
theorem prs1 : prsV tx1 = some tv1 := by kernel_rfl
theorem prs2 : prsV tx2 = none := by kernel_rfl
end Go.Proofs.YthgndmgoilfpcaaGreatDoor

namespace Go.Proofs.YthgndmgoilfpcaaGreatDoor
open Go.RowKit Go.Shelf

set_option maxRecDepth 100000 in
theorem num_1 (w : World) : Calls Tryz.prog 14 #[.iface 52 (.int .i64 1)] w fun e w' => e = .returned (.int .i64 1) ∧ w' = w := by
  have has : ∀ w, (Instr.typeAssert (.iface 52 (.int .i64 1)) 30 52 true).run Tryz.prog w = .ok (.tuple #[.int .i64 1, .bool true]) w := fun w => by kernel_rfl
  go_enter Tryz.func14, Tryz.ntmps14
  go_wp2
  go_ret
  exact ⟨rfl, rfl⟩
set_option maxRecDepth 100000 in
theorem is_1 (w : World) : Calls Tryz.prog 28 #[.iface 52 (.int .i64 1), .int .i64 1] w fun e w' => e = .returned (.bool true) ∧ w' = w := by
  go_enter Tryz.func28, Tryz.ntmps28
  go_wp2_with fail
  refine (num_1 w).mono ?_
  rintro e w1 ⟨rfl, rfl⟩
  go_wp2
  go_ret
  exact ⟨rfl, rfl⟩
theorem bsa_new {w : World} {C : Array Value} {l : List UInt8} (h : C.toList = l.map fun x => .int .u8 (x.toNat : Nat)) (n : Nat) (hn : l.length = n) (fz : Nat × Nat) : BsA (w.alloc (.cells C 5 fz)) (.slice (some ⟨w.heap.size, 0, none⟩) n n) l := by
  subst hn
  refine ⟨_, l.length, rfl, .inr ⟨w.heap.size, 0, rfl, by simp, fun j x hj => ?_⟩⟩
  have hb : (w.alloc (.cells C 5 fz)).heap[w.heap.size]? = some (.cells C 5 fz) := by
    show (w.heap.push _)[w.heap.size]? = _
    rw [Array.getElem?_push, if_pos rfl]
  simp only [World.cell?, hb]
  show C[0 + j]? = _
  rw [Nat.zero_add, ← Array.getElem?_toList, h, List.getElem?_map, hj]; rfl
theorem hgt1 : hgt 3 tv1 := by
  refine ⟨by simp, by simp, by simp, fun q hq => ?_⟩
  simp at hq
  subst hq
  refine ⟨by simp, by simp, fun t ht => ?_, by simp⟩
  simp at ht
  rcases ht with rfl | rfl | rfl <;> exact ⟨by simp, by simp, by simp, by simp⟩
def lv1 : T := .mk 4 0 [] [.mk 2 1 [] [] [], .mk 2 (-2) [] [] [], .mk 3 0 [195, 169] [] []] []
theorem lv1_in {F : Nat → Prop} {w : World} {c : List Value} (h : VA F w lv1 c) : ∃ b o cap sp, c = [.int .i64 4, .int .i64 0, .string (st []), .slice (some ⟨b, o, none⟩) 3 cap, sp] ∧ F b ∧ b < w.heap.size ∧ w.cell? ⟨b, o + 6, none⟩ = some (.int .i64 (-2)) ∧ w.cell? ⟨b, o + 12, none⟩ = some (.string (st [195, 169])) := by
  cases h with
  | @mk _ _ _ _ _ sl sp cl cp r1 r2 e1 e2 hl hp1 hp2 =>
    have hc3 : cl.length = 3 := e1
    obtain ⟨d1, hd1⟩ : ∃ d, cl[1]? = some d := ⟨_, List.getElem?_eq_getElem (by omega)⟩
    obtain ⟨d2, hd2⟩ : ∃ d, cl[2]? = some d := ⟨_, List.getElem?_eq_getElem (by omega)⟩
    have v1 := hl 1 _ d1 rfl hd1
    have v2 := hl 2 _ d2 rfl hd2
    obtain ⟨b, o, cap, rfl, hF, hb, q1⟩ := r1.at hd1
    obtain ⟨b', o', cap', e, hF', hb', q2⟩ := r1.at hd2
    cases e
    refine ⟨b, o, cap, sp, by rw [hc3], hF, hb, ?_, ?_⟩
    · cases v1
      exact q1 1 _ rfl
    · cases v2
      exact q2 2 _ rfl
theorem tv1_in {F : Nat → Prop} {w : World} {c : List Value} (h : VA F w tv1 c) : ∃ sl a cap, c = [.int .i64 5, .int .i64 0, .string (st []), sl, .slice a 1 cap] := by
  cases h with
  | @mk _ _ _ _ _ sl sp cl cp r1 r2 e1 e2 hl hp1 hp2 =>
    have hc3 : cp.length = 1 := e2
    obtain ⟨_, ⟨a, cap, h1, h2⟩ | ⟨b, o, cap, cur, fz, h1, _⟩⟩ := r2
    · rw [h2] at hc3; cases hc3
    · rw [hc3] at h1
      exact ⟨sl, _, cap, by rw [h1]⟩
set_option maxHeartbeats 8000000 in
set_option maxRecDepth 100000 in
theorem alive_j {w : World} (hT : Ev w) (h8 : 8 ≤ w.heap.size) : Calls Tryz.prog 9 #[] w fun e w' => e = .returned (.bool true) ∧ Below w.heap.size w w' := by
  have kc := fun (w : World) (C : Array Value) (n c : Nat) => Lib.run_convert_bytes_const (P := Tryz.prog) w 22 5 C n c Tryz.underlying22 Tryz.underlying5
  go_enter Tryz.func9, Tryz.ntmps9
  go_wp2_with fail
  have hb1 : Below w.heap.size w (w.alloc (.cells #[.int .u8 123, .int .u8 34, .int .u8 97, .int .u8 34, .int .u8 58, .int .u8 32, .int .u8 91, .int .u8 49, .int .u8 44, .int .u8 32, .int .u8 45, .int .u8 50, .int .u8 44, .int .u8 32, .int .u8 34, .int .u8 92, .int .u8 117, .int .u8 48, .int .u8 48, .int .u8 101, .int .u8 57, .int .u8 34, .int .u8 93, .int .u8 125] 5 (24, 25))) := (Below.refl _ _).alloc (Nat.le_refl _) _
  refine (parse_d (l := tx1) (bsa_new rfl 24 rfl (24, 25)) (hT.below hb1 (by omega)) (by simp; omega)).mono ?_
  rintro e w1 ⟨c, ev, rfl, hcs, hco, b1, hx⟩
  have hs1 : w.heap.size + 1 ≤ w1.heap.size := by have := b1.size; simpa using this
  have hb2 : Below w.heap.size w w1 := hb1.trans (b1.mono hb1.size)
  rcases hx with ⟨t, ht, rfl, hv⟩ | ⟨ht, _⟩
  case inr => rw [prs1] at ht; cases ht
  rw [prs1] at ht
  cases ht
  obtain ⟨sl, pa, pc, hce⟩ := tv1_in hv
  obtain ⟨c0, c1, c2, c3, c4, rfl⟩ := arr5 hcs
  replace hce : [c0, c1, c2, c3, c4] = _ := hce
  cases hce
  -- its box
  have hr2 : (w1.alloc (.cells #[.int .i64 0, .int .i64 0, .string ⟨#[]⟩, .slice none 0 0, .slice none 0 0] 28)).heap[w1.heap.size]? = some (.cells #[.int .i64 0, .int .i64 0, .string ⟨#[]⟩, .slice none 0 0, .slice none 0 0] 28 (0, 0)) := by
    show (w1.heap.push _)[w1.heap.size]? = _
    rw [Array.getElem?_push, if_pos rfl]
  have h2 := setRow_heap _ w1.heap.size _ #[.int .i64 5, .int .i64 0, .string (st []), sl, .slice pa 1 pc] _ _ hr2
  have hb3 : Below w.heap.size w ((w1.alloc (.cells #[.int .i64 0, .int .i64 0, .string ⟨#[]⟩, .slice none 0 0, .slice none 0 0] 28)).setRow w1.heap.size #[.int .i64 5, .int .i64 0, .string (st []), sl, .slice pa 1 pc]) := blw_own (blw_al hb2 (by omega) _) (by omega) _
  have hk2 : ∀ k, k < w1.heap.size → ((w1.alloc (.cells #[.int .i64 0, .int .i64 0, .string ⟨#[]⟩, .slice none 0 0, .slice none 0 0] 28)).setRow w1.heap.size #[.int .i64 5, .int .i64 0, .string (st []), sl, .slice pa 1 pc]).heap[k]? = w1.heap[k]? := fun k hk => (setRow_other _ _ k _ (by omega)).trans (by
    show (w1.heap.push _)[k]? = _
    rw [Array.getElem?_push, if_neg (by omega)])
  have hv2 := hv.frame (w' := (w1.alloc (.cells #[.int .i64 0, .int .i64 0, .string ⟨#[]⟩, .slice none 0 0, .slice none 0 0] 28)).setRow w1.heap.size #[.int .i64 5, .int .i64 0, .string (st []), sl, .slice pa 1 pc]) (G := fun _ => True) (fun k _ hk => hk2 k hk) (fun _ _ _ => trivial)
  have hs2 : ((w1.alloc (.cells #[.int .i64 0, .int .i64 0, .string ⟨#[]⟩, .slice none 0 0, .slice none 0 0] 28)).setRow w1.heap.size #[.int .i64 5, .int .i64 0, .string (st []), sl, .slice pa 1 pc]).heap.size = w1.heap.size + 1 := by simp [World.setRow]
  replace hco := hide1 hco
  replace hv2 := hide1 hv2
  replace h2 := hide1 h2
  clear hv hk2 hb1 hb2 b1
  go_upto_region 2 with (refine wpList_store_row rfl 28 (.tmp 1) (.tmp 11) rfl w1.heap.size #[.int .i64 5, .int .i64 0, .string (st []), sl, .slice pa 1 pc] rfl rfl 28 _ hr2 (by kernel_rfl) rfl hco.out ?_)
  generalize hwe : (w1.alloc (.cells #[.int .i64 0, .int .i64 0, .string ⟨#[]⟩, .slice none 0 0, .slice none 0 0] 28)).setRow w1.heap.size #[.int .i64 5, .int .i64 0, .string (st []), sl, .slice pa 1 pc] = w2 at *
  generalize hq1 : w1.heap.size = q1 at *
  clear hwe hr2
  replace hs2 := hide1 hs2
  go_wp2_with fail
  have hq1s : Hid (q1 + 1 = w2.heap.size) := hide1 hs2.out.symm
  have hq1l : q1 < w2.heap.size := by have := hq1s.out; omega
  have hsw : w.heap.size + 1 ≤ q1 := hs1
  have hb4 : Below w.heap.size w (w2.alloc (.cells #[.int .u8 91, .int .u8 48, .int .u8 49, .int .u8 93] 5 (4, 5))) := blw_al hb3 (by omega) _
  refine (parse_d (l := tx2) (bsa_new rfl 4 rfl (4, 5)) (hT.below hb4 (by omega)) (by simp; omega)).mono ?_
  rintro e w3 ⟨d, ev, rfl, hds, hdo, b3, hx⟩
  have hs3 : w2.heap.size + 1 ≤ w3.heap.size := by have := b3.size; simpa using this
  rcases hx with ⟨t, ht, _⟩ | ⟨-, rfl, rfl⟩
  case inl => rw [prs2] at ht; cases ht
  have hE : prsE tx2 = 1 := rfl
  rw [hE]
  have kp3 : ∀ k, k < w2.heap.size → w3.heap[k]? = w2.heap[k]? := fun k hk => (b3.block k (by simp; omega)).trans (by
    show (w2.heap.push _)[k]? = _
    rw [Array.getElem?_push, if_neg (by omega)])
  have hb5 : Below w.heap.size w w3 := hb4.trans (b3.mono hb4.size)
  have hr4 : (w3.alloc (.cells #[.int .i64 0, .int .i64 0, .string ⟨#[]⟩, .slice none 0 0, .slice none 0 0] 28)).heap[w3.heap.size]? = some (.cells #[.int .i64 0, .int .i64 0, .string ⟨#[]⟩, .slice none 0 0, .slice none 0 0] 28 (0, 0)) := by
    show (w3.heap.push _)[w3.heap.size]? = _
    rw [Array.getElem?_push, if_pos rfl]
  have kp4 : ∀ k, k < w2.heap.size → ((w3.alloc (.cells #[.int .i64 0, .int .i64 0, .string ⟨#[]⟩, .slice none 0 0, .slice none 0 0] 28)).setRow w3.heap.size zV).heap[k]? = w2.heap[k]? := fun k hk => (setRow_other _ _ k _ (by omega)).trans ((by
    show (w3.heap.push _)[k]? = _
    rw [Array.getElem?_push, if_neg (by omega)] : (w3.alloc (.cells #[.int .i64 0, .int .i64 0, .string ⟨#[]⟩, .slice none 0 0, .slice none 0 0] 28)).heap[k]? = w3.heap[k]?).trans (kp3 k hk))
  have hb6 : Below w.heap.size w ((w3.alloc (.cells #[.int .i64 0, .int .i64 0, .string ⟨#[]⟩, .slice none 0 0, .slice none 0 0] 28)).setRow w3.heap.size zV) := blw_own (blw_al hb5 (by omega) _) (by omega) _
  have hs6 : ((w3.alloc (.cells #[.int .i64 0, .int .i64 0, .string ⟨#[]⟩, .slice none 0 0, .slice none 0 0] 28)).setRow w3.heap.size zV).heap.size = w3.heap.size + 1 := by simp [World.setRow]
  have h2' := (kp4 q1 (by omega)).trans h2.out
  have hv3 := hv2.out.frame (w' := (w3.alloc (.cells #[.int .i64 0, .int .i64 0, .string ⟨#[]⟩, .slice none 0 0, .slice none 0 0] 28)).setRow w3.heap.size zV) (G := fun _ => True) (fun k _ hk => kp4 k hk) (fun _ _ _ => trivial)
  replace hv3 := hide1 hv3
  replace hb6 := hide1 hb6
  clear kp3 kp4 b3 hb4 hb5 hb3 hv2 h2 hdo hds
  go_upto_region 3 with (refine wpList_store_row rfl 28 (.tmp 3) (.tmp 17) rfl w3.heap.size zV rfl rfl 28 _ hr4 (by kernel_rfl) rfl (by kernel_rfl) ?_)
  generalize hwe : (w3.alloc (.cells #[.int .i64 0, .int .i64 0, .string ⟨#[]⟩, .slice none 0 0, .slice none 0 0] 28)).setRow w3.heap.size zV = w4 at *
  have l0 : w4.cell? ⟨q1, 0, none⟩ = some (.int .i64 5) := by simp only [World.cell?, h2']; rfl
  have l1 : w4.cell? ⟨q1, 1, none⟩ = some (.int .i64 0) := by simp only [World.cell?, h2']; rfl
  have l2 : w4.cell? ⟨q1, 2, none⟩ = some (.string (st [])) := by simp only [World.cell?, h2']; rfl
  have l3 : w4.cell? ⟨q1, 3, none⟩ = some sl := by simp only [World.cell?, h2']; rfl
  have l4 : w4.cell? ⟨q1, 4, none⟩ = some (.slice pa 1 pc) := by simp only [World.cell?, h2']; rfl
  have hgd := get_d (nm := [97]) hgt1 (by omega) hv3.out
  clear hwe hr4 h2'
  go_wp2_with fail
  refine (is_1 w4).mono ?_
  rintro e w5 ⟨rfl, rfl⟩
  go_wp2_with fail
  refine (show Calls Tryz.prog 29 #[.agg #[.int .i64 5, .int .i64 0, .string (st []), sl, .slice pa 1 pc], .string (st [97])] w5 _ from hgd).mono ?_
  rintro e w6 ⟨c', rfl, hc5, hc6, b6, hx⟩
  rcases hx with ⟨t, ht, hv6⟩ | ⟨ht, _⟩
  case inr => cases ht
  have htl : t = lv1 := by cases ht; rfl
  subst htl
  obtain ⟨b, o, cap, sp, hce, -, hbl, hm2, hm3⟩ := lv1_in hv6
  obtain ⟨c0, c1, c2, c3, c4, rfl⟩ := arr5 hc5
  replace hce : [c0, c1, c2, c3, c4] = _ := hce
  cases hce
  have hs7 := b6.size
  have hr7 : (w6.alloc (.cells #[.int .i64 0, .int .i64 0, .string ⟨#[]⟩, .slice none 0 0, .slice none 0 0] 28)).heap[w6.heap.size]? = some (.cells #[.int .i64 0, .int .i64 0, .string ⟨#[]⟩, .slice none 0 0, .slice none 0 0] 28 (0, 0)) := by
    show (w6.heap.push _)[w6.heap.size]? = _
    rw [Array.getElem?_push, if_pos rfl]
  have h7 := setRow_heap _ w6.heap.size _ #[.int .i64 4, .int .i64 0, .string (st []), .slice (some ⟨b, o, none⟩) 3 cap, sp] _ _ hr7
  have kp7 : ∀ k, k < w6.heap.size → ((w6.alloc (.cells #[.int .i64 0, .int .i64 0, .string ⟨#[]⟩, .slice none 0 0, .slice none 0 0] 28)).setRow w6.heap.size #[.int .i64 4, .int .i64 0, .string (st []), .slice (some ⟨b, o, none⟩) 3 cap, sp]).heap[k]? = w6.heap[k]? := fun k hk => (setRow_other _ _ k _ (by omega)).trans (by
    show (w6.heap.push _)[k]? = _
    rw [Array.getElem?_push, if_neg (by omega)])
  have m2 := (World.cell?_of_block (a := ⟨b, o + 6, none⟩) (kp7 b hbl)).trans hm2
  have m3 := (World.cell?_of_block (a := ⟨b, o + 12, none⟩) (kp7 b hbl)).trans hm3
  have n3 : ((w6.alloc (.cells #[.int .i64 0, .int .i64 0, .string ⟨#[]⟩, .slice none 0 0, .slice none 0 0] 28)).setRow w6.heap.size #[.int .i64 4, .int .i64 0, .string (st []), .slice (some ⟨b, o, none⟩) 3 cap, sp]).cell? ⟨w6.heap.size, 3, none⟩ = some (.slice (some ⟨b, o, none⟩) 3 cap) := by simp only [World.cell?, h7]; rfl
  have hfin : Hid (Below w.heap.size w ((w6.alloc (.cells #[.int .i64 0, .int .i64 0, .string ⟨#[]⟩, .slice none 0 0, .slice none 0 0] 28)).setRow w6.heap.size #[.int .i64 4, .int .i64 0, .string (st []), .slice (some ⟨b, o, none⟩) 3 cap, sp])) := hide1 (by
    have hb := hb6.out
    exact blw_own (blw_al (hb.trans (b6.mono hb.size)) (by have := hb.size; omega) _) (by have := hb.size; omega) _)
  replace hc6 := hide1 hc6
  clear hv6 hv3 hgd b6 kp7 h7 hm2 hm3 hb6 l0 l1 l2 l3 l4
  go_upto_region 6 with (refine wpList_store_row rfl 28 (.tmp 5) (.tmp 35) rfl w6.heap.size #[.int .i64 4, .int .i64 0, .string (st []), .slice (some ⟨b, o, none⟩) 3 cap, sp] rfl rfl 28 _ hr7 (by kernel_rfl) rfl hc6.out ?_)
  generalize hwe : (w6.alloc (.cells #[.int .i64 0, .int .i64 0, .string ⟨#[]⟩, .slice none 0 0, .slice none 0 0] 28)).setRow w6.heap.size #[.int .i64 4, .int .i64 0, .string (st []), .slice (some ⟨b, o, none⟩) 3 cap, sp] = w7 at *
  clear hwe hr7
  have hse : ((st [195, 169]).toList == [195, 169]) = true := by rw [ByteArray.toList_eq]; rfl
  go_wp2
  go_ret
  exact ⟨rfl, hfin.out⟩
end Go.Proofs.YthgndmgoilfpcaaGreatDoor

namespace Go.Proofs.YthgndmgoilfpcaaGreatDoor
open Go.RowKit

def ht : Nat → T → Prop
  | 0, _ => False
  | n + 1, .mk _ _ _ l p => (∀ t ∈ l, ht n t) ∧ ∀ q ∈ p, ht n q.2
theorem ht_mono : ∀ {n m : Nat} {t : T}, n ≤ m → ht n t → ht m t
  | 0, _, _, _, h => h.elim
  | n + 1, 0, _, hm, _ => absurd hm (by omega)
  | n + 1, m + 1, .mk _ _ _ l p, hm, h => ⟨fun t ht' => ht_mono (by omega) (h.1 t ht'), fun q hq => ht_mono (by omega) (h.2 q hq)⟩
theorem ht_all {α : Type} {f : α → T} : ∀ (l : List α), (∀ t ∈ l, ∃ n, ht n (f t)) → ∃ n, ∀ t ∈ l, ht n (f t)
  | [], _ => ⟨0, by simp⟩
  | x :: r, h => by
    obtain ⟨a, ha⟩ := h x (by simp)
    obtain ⟨b, hb⟩ := ht_all r (fun t ht => h t (by simp [ht]))
    refine ⟨max a b, fun t ht => ?_⟩
    rcases List.mem_cons.1 ht with rfl | ht
    · exact ht_mono (Nat.le_max_left _ _) ha
    · exact ht_mono (Nat.le_max_right _ _) (hb t ht)
theorem VA.ht {F : Nat → Prop} {w : World} {t : T} {c : List Value} (h : VA F w t c) : ∃ n, ht n t := by
  induction h with
  | @mk k i s l p sl sp cl cp r1 r2 e1 e2 _ _ _ i1 i2 =>
    obtain ⟨a, ha⟩ := ht_all (f := id) l (fun t ht => by
      obtain ⟨j, hj, rfl⟩ := List.mem_iff_getElem.1 ht
      exact i1 j _ _ (List.getElem?_eq_getElem hj) (List.getElem?_eq_getElem (by omega)))
    obtain ⟨b, hb⟩ := ht_all (f := (·.2)) p (fun t ht => by
      obtain ⟨j, hj, rfl⟩ := List.mem_iff_getElem.1 ht
      exact i2 j _ _ (List.getElem?_eq_getElem hj) (List.getElem?_eq_getElem (by omega)))
    exact ⟨max a b + 1, fun t ht => ht_mono (Nat.le_max_left _ _) (ha t ht), fun q hq => ht_mono (Nat.le_max_right _ _) (hb q hq)⟩
end Go.Proofs.YthgndmgoilfpcaaGreatDoor

namespace Go.Proofs.YthgndmgoilfpcaaGreatDoor
open Go.RowKit
section
variable {P : Program} {Q : Exit → Act → World → Prop}
def rch (l : List Oper) : Nat → Nat → Nat → Bool
  | 0, _, _ => false
  | k + 1, j, i => match l[j]? with
    | some o => o.after.any fun e => Region.binds .any e && (e.on == i || rch l k e.on i)
    | none => false
theorem rch_of {l : List Oper} {D : Nat → Bool} (hcl : ∀ j oj, l[j]? = some oj → D j = true → ∀ e ∈ oj.after, Region.binds .any e = true → D e.on = true) : ∀ (k j i : Nat), rch l k j i = true → D j = true → D i = true
  | 0, _, _, h, _ => by cases h
  | k + 1, j, i, h, hD => by
    unfold rch at h
    cases hj : l[j]? with
    | none => rw [hj] at h; cases h
    | some o =>
      rw [hj] at h
      obtain ⟨e, he, h1⟩ := Array.any_eq_true'.1 h
      simp only [Bool.and_eq_true, Bool.or_eq_true, beq_iff_eq] at h1
      have hDe := hcl j o hj hD e he h1.1
      rcases h1.2 with h2 | h2
      · rw [← h2]; exact hDe
      · exact rch_of hcl k e.on i h2 hDe
def finC (l : List Oper) (fin n : Nat) : Bool := (List.range l.length).all fun i => i == fin || (rch l l.length fin i && (match (l[i]?).bind (·.dst) with
    | some d => decide (d < n) && (List.range l.length).all fun j => j == i || ((l[j]?).bind (·.dst)) != some d
    | none => false))
theorem finC_at {l : List Oper} {fin n : Nat} (h : finC l fin n = true) {i : Nat} {o : Oper} (ho : l[i]? = some o) (hi : i ≠ fin) :
    rch l l.length fin i = true ∧ ∃ d, o.dst = some d ∧ d < n ∧ ∀ j oj, l[j]? = some oj → j ≠ i → oj.dst ≠ some d := by
  have hil := (List.getElem?_eq_some_iff.1 ho).1
  have h1 := List.all_eq_true.1 h i (by simp [hil])
  simp only [ho, Option.bind_some, Bool.or_eq_true, beq_iff_eq, hi, false_or, Bool.and_eq_true] at h1
  refine ⟨h1.1, ?_⟩
  have h3 := h1.2
  cases hd : o.dst with
  | none => rw [hd] at h3; cases h3
  | some d =>
    rw [hd] at h3
    simp only [Bool.and_eq_true, decide_eq_true_eq] at h3
    refine ⟨d, rfl, h3.1, fun j oj hj hne e => ?_⟩
    have h5 := List.all_eq_true.1 h3.2 j (by simp [(List.getElem?_eq_some_iff.1 hj).1])
    simp [hj, hne, e] at h5
def OpG (P : Program) (l : List Oper) (Q : Exit → Act → World → Prop) (o : Oper) (a : Act) (w : World) (K : Act → World → Prop) : Prop :=
  (Region.wanted o (yielded l.toArray a.tmps) = true ∧ o.wp P a w K Q) ∨ (Region.wanted o (yielded l.toArray a.tmps) = false ∧ K (a.put o.dst undef) w)
theorem OpG.plain {l : List Oper} {o : Oper} {a : Act} {w : World} {K : Act → World → Prop} (hg : o.guard = none) (h : o.wp P a w K Q) : OpG P l Q o a w K := .inl ⟨by unfold Region.wanted; rw [hg], h⟩
theorem OpG.want {l : List Oper} {o : Oper} {a : Act} {w : World} {K : Act → World → Prop} {j d : Nat} {b : Bool} (hg : o.guard = some (j, b)) (hd : (l[j]?).bind (·.dst) = some d) (hs : d < a.tmps.size) (hv : a.tmps.getD d undef = .bool b) (h : o.wp P a w K Q) : OpG P l Q o a w K := by
  refine .inl ⟨?_, h⟩
  have ht : a.tmps[d]? = some (.bool b) := by
    rw [Array.getElem?_eq_getElem hs]
    simpa [Array.getD, hs] using hv
  unfold Region.wanted yielded
  rw [hg]
  simp [hd, ht]
theorem OpG.skip {l : List Oper} {o : Oper} {a : Act} {w : World} {K : Act → World → Prop} {j d : Nat} {b : Bool} (hg : o.guard = some (j, b)) (hd : (l[j]?).bind (·.dst) = some d) (hs : d < a.tmps.size) (hv : a.tmps.getD d undef = .bool (!b)) (h : K (a.put o.dst undef) w) : OpG P l Q o a w K := by
  refine .inr ⟨?_, h⟩
  have ht : a.tmps[d]? = some (.bool (!b)) := by
    rw [Array.getElem?_eq_getElem hs]
    simpa [Array.getD, hs] using hv
  unfold Region.wanted yielded
  rw [hg]
  cases b <;> simp [hd, ht]
theorem wp_flowG {l : List Oper} {id : Nat} (fin : Nat) (a0 : Act) (w0 : World) (hm : P.follows .mixedOrders = true) (hac : acycB l.toArray = true) (hfin : finC l fin a0.tmps.size = true) {f : Oper} (hf : l[fin]? = some f)
    (Rr : Nat → Value → World → Prop) (hmono : ∀ i v w w', Rr i v w → Below w.heap.size w w' → Rr i v w')
    (hop : ∀ i o, l[i]? = some o → i ≠ fin → ∀ a w, Below w0.heap.size w0 w → a.tmps.size = a0.tmps.size → (∀ t, wrB l t = false → a.tmps.getD t undef = a0.tmps.getD t undef) → (∀ j oj d, l[j]? = some oj → oj.dst = some d → (∃ e ∈ o.after, Region.binds .any e = true ∧ e.on = j) → Rr j (a.tmps.getD d undef) w) →
      ∀ K : Act → World → Prop, (∀ v w', Below w.heap.size w w' → Rr i v w' → K (a.put o.dst v) w') → OpG P l Q o a w K)
    (hlast : ∀ a w, Below w0.heap.size w0 w → a.defers = a0.defers → a.tmps.size = a0.tmps.size → (∀ t, wrB l t = false → a.tmps.getD t undef = a0.tmps.getD t undef) → (∀ j oj d, l[j]? = some oj → j ≠ fin → oj.dst = some d → Rr j (a.tmps.getD d undef) w) →
      ∀ K : Act → World → Prop, (∀ a' w', Q .normal a' w' → K a' w') → OpG P l Q f a w K) : (Code.region id l.toArray true).wp P Q a0 w0 := by
  have hacyc := acyc_of (ops := l.toArray) hac
  refine wp_region_any hm (wpAny_sym hacyc (fun D a w => ((∀ j, j < l.length → D j = true) ∧ Q .normal a w) ∨ (D fin = false ∧ a.defers = a0.defers ∧ a.tmps.size = a0.tmps.size ∧ Below w0.heap.size w0 w ∧ (∀ t, wrB l t = false → a.tmps.getD t undef = a0.tmps.getD t undef) ∧ (∀ j oj, l[j]? = some oj → D j = true → ∀ e ∈ oj.after, Region.binds .any e = true → D e.on = true) ∧ ∀ j oj d, l[j]? = some oj → D j = true → oj.dst = some d → Rr j (a.tmps.getD d undef) w)) ?_ ?_ _ _ _ _ (by simp) ?_ ?_)
  · intro D a w hI i o ho hD hdep K hK
    have ho : l[i]? = some o := by simpa using ho
    rcases hI with ⟨h1, _⟩ | ⟨h1, hdf, hsz, hb, hsl, hcl, hr⟩
    · rw [h1 i (List.getElem?_eq_some_iff.1 ho).1] at hD; cases hD
    · by_cases hi : i = fin
      · subst hi
        rw [hf] at ho
        cases ho
        have hall : ∀ j, j < l.length → j ≠ i → D j = true := fun j hj hne => by
          obtain ⟨h3, _⟩ := finC_at hfin (List.getElem?_eq_getElem hj) hne
          cases hk : l.length with
          | zero => omega
          | succ k =>
            rw [hk] at h3
            unfold rch at h3
            rw [hf] at h3
            obtain ⟨e, he, h4⟩ := Array.any_eq_true'.1 h3
            simp only [Bool.and_eq_true, Bool.or_eq_true, beq_iff_eq] at h4
            rcases h4.2 with h5 | h5
            · rw [← h5]; exact hdep e he h4.1
            · exact rch_of hcl k e.on j h5 (hdep e he h4.1)
        refine hlast a w hb hdf hsz hsl (fun j oj d hj hne hd => hr j oj d hj (hall j (List.getElem?_eq_some_iff.1 hj).1 hne) hd) K (fun a' w' hq => hK a' w' (.inl ⟨fun j hj => ?_, hq⟩))
        by_cases hji : j = i
        · rw [hji]; exact add1_eq
        · rw [add1_ne hji]; exact hall j hj hji
      · obtain ⟨_, d, hd, hdn, hap⟩ := finC_at hfin ho hi
        have hds : d < a.tmps.size := by rw [hsz]; exact hdn
        refine hop i o ho hi a w hb hsz hsl (fun j oj d' hj hd' ⟨e, he, h3, h4⟩ => hr j oj d' hj (by rw [← h4]; exact hdep e he h3) hd') K (fun v w' hb' hR => hK _ _ (.inr ⟨?_, ?_, ?_, ?_, ?_, ?_, ?_⟩))
        · rw [add1_ne (fun e => hi e.symm)]; exact h1
        · rw [put_df]; exact hdf
        · rw [put_sz]; exact hsz
        · exact hb.trans (hb'.mono hb.size)
        · intro t ht
          rw [hd, put_of hds (fun e => by
            subst e
            have : wrB l t = true := List.any_eq_true.2 ⟨o, List.mem_of_getElem? ho, by simp [hd]⟩
            rw [this] at ht; cases ht)]
          exact hsl t ht
        · intro j oj hj hDj e he h3
          by_cases hji : j = i
          · subst hji
            rw [ho] at hj
            cases hj
            exact add1_mono (hdep e he h3)
          · rw [add1_ne hji] at hDj
            exact add1_mono (hcl j oj hj hDj e he h3)
        · intro j oj d' hj hDj hd'
          by_cases hji : j = i
          · subst hji
            rw [ho] at hj
            cases hj
            rw [hd] at hd'
            cases hd'
            rw [hd, put_at hds]
            exact hR
          · rw [add1_ne hji] at hDj
            rw [hd, put_of hds (fun e => hap j oj hj hji (by rw [hd', e]))]
            exact hmono _ _ _ _ (hr j oj d' hj hDj hd') hb'
  · intro D a w hI hall
    rcases hI with ⟨_, h⟩ | ⟨h1, _⟩
    · exact h
    · rw [hall fin (by simpa using (List.getElem?_eq_some_iff.1 hf).1)] at h1; cases h1
  · exact Nat.le_trans (List.length_filter_le _ _) (by simp)
  · have e : (fun i => (Array.replicate l.toArray.size false).getD i false) = fun _ => false := by
      funext i
      by_cases h : i < l.toArray.size <;> simp [Array.getD]
    rw [e]
    exact .inr ⟨rfl, rfl, rfl, (Below.refl _ _).drew, fun _ _ => rfl, (fun _ _ _ h => absurd h (by simp)), (fun _ _ _ _ h => absurd h (by simp))⟩
end
end Go.Proofs.YthgndmgoilfpcaaGreatDoor

namespace Go.Proofs.YthgndmgoilfpcaaGreatDoor
open Go.RowKit

def exL (f : T → T → Bool) : List T → List T → Bool
  | a :: r, b :: q => f a b && exL f r q
  | _, _ => true
def exP (f : T → T → Bool) : List (List UInt8 × T) → List (List UInt8 × T) → Bool
  | a :: r, b :: q => decide (a.1 = b.1) && (f a.2 b.2 && exP f r q)
  | _, _ => true
def exB : Nat → T → T → Bool
  | 0, _, _ => false
  | h + 1, .mk k i s l p, .mk k' i' s' l' p' => decide (k = k') && (decide (i = i') && (decide (s = s') && (decide (l.length = l'.length) && (decide (p.length = p'.length) && (exL (exB h) l l' && exP (exB h) p p')))))
theorem exL_drop {f : T → T → Bool} {l l' : List T} {i : Nat} {a b : T} (ha : l[i]? = some a) (hb : l'[i]? = some b) : exL f (l.drop i) (l'.drop i) = (f a b && exL f (l.drop (i + 1)) (l'.drop (i + 1))) := by
  obtain ⟨h1, e1⟩ := List.getElem?_eq_some_iff.1 ha
  obtain ⟨h2, e2⟩ := List.getElem?_eq_some_iff.1 hb
  rw [List.drop_eq_getElem_cons h1, List.drop_eq_getElem_cons h2, e1, e2]; rfl
theorem exP_drop {f : T → T → Bool} {l l' : List (List UInt8 × T)} {i : Nat} {a b : List UInt8 × T} (ha : l[i]? = some a) (hb : l'[i]? = some b) : exP f (l.drop i) (l'.drop i) = (decide (a.1 = b.1) && (f a.2 b.2 && exP f (l.drop (i + 1)) (l'.drop (i + 1)))) := by
  obtain ⟨h1, e1⟩ := List.getElem?_eq_some_iff.1 ha
  obtain ⟨h2, e2⟩ := List.getElem?_eq_some_iff.1 hb
  rw [List.drop_eq_getElem_cons h1, List.drop_eq_getElem_cons h2, e1, e2]; rfl
theorem exL_eq {f : T → T → Bool} : ∀ {l l' : List T}, (∀ a ∈ l, ∀ b, f a b = true ↔ a = b) → l.length = l'.length → (exL f l l' = true ↔ l = l')
  | [], [], _, _ => by simp [exL]
  | [], _ :: _, _, h => by simp at h
  | _ :: _, [], _, h => by simp at h
  | a :: r, b :: q, hf, h => by
    rw [exL, Bool.and_eq_true, hf a (by simp), exL_eq (fun x hx => hf x (by simp [hx])) (by simpa using h)]
    simp
theorem exP_eq {f : T → T → Bool} : ∀ {l l' : List (List UInt8 × T)}, (∀ a ∈ l, ∀ b, f a.2 b = true ↔ a.2 = b) → l.length = l'.length → (exP f l l' = true ↔ l = l')
  | [], [], _, _ => by simp [exP]
  | [], _ :: _, _, h => by simp at h
  | _ :: _, [], _, h => by simp at h
  | a :: r, b :: q, hf, h => by
    rw [exP, Bool.and_eq_true, Bool.and_eq_true, decide_eq_true_eq, hf a (by simp), exP_eq (fun x hx => hf x (by simp [hx])) (by simpa using h)]
    obtain ⟨a1, a2⟩ := a
    obtain ⟨b1, b2⟩ := b
    simp [and_assoc]
theorem exB_eq : ∀ {h : Nat} {a b : T}, ht h a → (exB h a b = true ↔ a = b)
  | 0, _, _, h => h.elim
  | h + 1, .mk k i s l p, .mk k' i' s' l' p', ha => by
    unfold exB
    simp only [Bool.and_eq_true, decide_eq_true_eq, T.mk.injEq]
    constructor
    · rintro ⟨h1, h2, h3, h4, h5, h6, h7⟩
      exact ⟨h1, h2, h3, (exL_eq (fun a hm b => exB_eq (ha.1 a hm)) h4).1 h6, (exP_eq (fun a hm b => exB_eq (ha.2 a hm)) h5).1 h7⟩
    · rintro ⟨h1, h2, h3, rfl, rfl⟩
      exact ⟨h1, h2, h3, rfl, rfl, (exL_eq (fun a hm b => exB_eq (ha.1 a hm)) rfl).2 rfl, (exP_eq (fun a hm b => exB_eq (ha.2 a hm)) rfl).2 rfl⟩
theorem ix_oV {g o K cap k : Nat} (hk : k < K) (w : World) : (Instr.indexAt 25 (.slice (some ⟨g, o, none⟩) K cap) (.int .i64 (k : Nat))).run Tryz.prog w = .ok (.pointer (some ⟨g, o + k * 5, none⟩)) w := by
  simp [Instr.indexAt, go_sem, hk]
theorem ix_oP {g o K cap k : Nat} (hk : k < K) (w : World) : (Instr.indexAt 26 (.slice (some ⟨g, o, none⟩) K cap) (.int .i64 (k : Nat))).run Tryz.prog w = .ok (.pointer (some ⟨g, o + k * 6, none⟩)) w := by
  simp [Instr.indexAt, go_sem, hk]
theorem ld_mV {w : World} {b o : Nat} {x0 x1 x2 x3 x4 : Value} (hr : w.rangeAt b o [x0, x1, x2, x3, x4]) : (Instr.loadAt 28 (.pointer (some ⟨b, o, none⟩))).run Tryz.prog w = .ok (.agg #[x0, x1, x2, x3, x4]) w := by
  have hl := run_loadVar_mid (P := Tryz.prog) w b o 28 [x0, x1, x2, x3, x4] _ hr Tryz.underlying28 rfl (by kernel_rfl)
  simp only [Instr.loadAt, Instr.sureAddr, Sem.run_bind, Sem.run_pure, Result.andThen_ok, hl]
theorem ld_s0 {w : World} {b o : Nat} {v : Value} (h1 : w.cell? ⟨b, o, none⟩ = some v) : (Instr.loadAt 9 (.pointer (some ⟨b, o, none⟩))).run Tryz.prog w = .ok v w := by
  simp [Instr.loadAt, Instr.sureAddr, go_sem, h1]
theorem nq_s {s s' : List UInt8} (w : World) : (binOp .neq 9 (.string (st s)) (.string (st s'))).run Tryz.prog w = .ok (.bool (!decide (s = s'))) w := by
  have h := st_eq s s'
  simp [binOp, go_sem, Op.stringOp, ← h]
theorem eg_s {a b : Operand} {s s' : List UInt8} (w : World) : (eqGuard .neq 9 a b (.string (st s)) (.string (st s'))).run Tryz.prog w = .ok () w := by
  simp [eqGuard, go_sem]
def R6 (q2 q3 i : Nat) (v v' : Value) (p1 p2 : Value) (C C' : Array Value) (r : Bool) : Nat → Value → World → Prop
  | 0, v, _ => v = .pointer (some ⟨q2, 3, none⟩)
  | 1, x, _ => x = v
  | 2, v, _ => v = .int .i64 (i : Nat)
  | 3, v, _ => v = p1
  | 4, v, _ => v = .agg C
  | 5, v, _ => v = .pointer (some ⟨q3, 3, none⟩)
  | 6, x, _ => x = v'
  | 7, v, _ => v = .int .i64 (i : Nat)
  | 8, v, _ => v = p2
  | 9, v, _ => v = .agg C'
  | 10, v, _ => v = .bool r
  | _, _, _ => True
theorem R6_mono {q2 q3 i : Nat} {v v' p1 p2 : Value} {C C' : Array Value} {r : Bool} (j : Nat) (x : Value) (w w' : World) (h : R6 q2 q3 i v v' p1 p2 C C' r j x w) (_ : Below w.heap.size w w') : R6 q2 q3 i v v' p1 p2 C C' r j x w' := by
  match j, h with
  | 0, h | 1, h | 2, h | 3, h | 4, h | 5, h | 6, h | 7, h | 8, h | 9, h | 10, h => exact h
  | _ + 11, h => trivial
theorem hgt_ht : ∀ {n : Nat} {t : T}, hgt n t → ht n t
  | 0, _, h => h
  | _ + 1, .mk _ _ _ _ _, h => ⟨fun t ht' => hgt_ht (h.2.2.1 t ht'), fun q hq => hgt_ht (h.2.2.2 q hq)⟩
def Eok (h : Nat) : Prop := ∀ {F G : Nat → Prop} {w : World} {t t' : T} {c c' : List Value}, hgt h t → VA F w t c → VA G w t' c' → Calls Tryz.prog 16 #[.agg c.toArray, .agg c'.toArray] w fun e w' => e = .returned (.bool (exB h t t')) ∧ Below w.heap.size w w'
set_option maxHeartbeats 4000000 in
set_option maxRecDepth 100000 in
theorem ex_s {h : Nat} (ih : Eok h) : Eok (h + 1) := by
  intro F G w t t' c c' hh hv hv'
  cases hv with
  | @mk k ki s l p sl sp cl cp r1 r2 e1 e2 hl hp1 hp2 =>
  cases hv' with
  | @mk k' ki' s' l' p' sl' sp' cl' cp' r1' r2' e1' e2' hl' hp1' hp2' =>
    obtain ⟨b1, b2, hh1, hh2⟩ := hh
    obtain ⟨sa, sc, rfl⟩ : ∃ va vc, sl = .slice va cl.length vc := by
      obtain ⟨_, ⟨a, cap, h1, h2⟩ | ⟨b, o, cap, cur, fz, h1, _⟩⟩ := r1
      · exact ⟨a, cap, by rw [h1, h2]; rfl⟩
      · exact ⟨_, cap, h1⟩
    obtain ⟨pa, pc, rfl⟩ : ∃ va vc, sp = .slice va cp.length vc := by
      obtain ⟨_, ⟨a, cap, h1, h2⟩ | ⟨b, o, cap, cur, fz, h1, _⟩⟩ := r2
      · exact ⟨a, cap, by rw [h1, h2]; rfl⟩
      · exact ⟨_, cap, h1⟩
    obtain ⟨sa', sc', rfl⟩ : ∃ va vc, sl' = .slice va cl'.length vc := by
      obtain ⟨_, ⟨a, cap, h1, h2⟩ | ⟨b, o, cap, cur, fz, h1, _⟩⟩ := r1'
      · exact ⟨a, cap, by rw [h1, h2]; rfl⟩
      · exact ⟨_, cap, h1⟩
    obtain ⟨pa', pc', rfl⟩ : ∃ va vc, sp' = .slice va cp'.length vc := by
      obtain ⟨_, ⟨a, cap, h1, h2⟩ | ⟨b, o, cap, cur, fz, h1, _⟩⟩ := r2'
      · exact ⟨a, cap, by rw [h1, h2]; rfl⟩
      · exact ⟨_, cap, h1⟩
    obtain ⟨wb, hwb⟩ : ∃ wb, wb = (w.alloc (.cells #[.int .i64 k, .int .i64 ki, .string (st s), .slice sa cl.length sc, .slice pa cp.length pc] 28)).alloc (.cells #[.int .i64 k', .int .i64 ki', .string (st s'), .slice sa' cl'.length sc', .slice pa' cp'.length pc'] 28) := ⟨_, rfl⟩
    have hb0 : Below w.heap.size w wb := by rw [hwb]; exact blw_al ((Below.refl _ _).alloc (Nat.le_refl _) _) (by simp) _
    have hbx : wb.heap[w.heap.size]? = some (.cells #[.int .i64 k, .int .i64 ki, .string (st s), .slice sa cl.length sc, .slice pa cp.length pc] 28 (0, 0)) := by
      rw [hwb]
      show ((w.heap.push _).push _)[w.heap.size]? = _
      rw [Array.getElem?_push, if_neg (by simp), Array.getElem?_push, if_pos rfl]
    have hby : wb.heap[w.heap.size + 1]? = some (.cells #[.int .i64 k', .int .i64 ki', .string (st s'), .slice sa' cl'.length sc', .slice pa' cp'.length pc'] 28 (0, 0)) := by
      rw [hwb]
      show ((w.heap.push _).push _)[w.heap.size + 1]? = _
      rw [Array.getElem?_push, if_pos (by simp)]
    have hsb : wb.heap.size = w.heap.size + 2 := by rw [hwb]; simp
    have hE : exB (h + 1) (.mk k ki s l p) (.mk k' ki' s' l' p') = (decide (k = k') && (decide (ki = ki') && (decide (s = s') && (decide (l.length = l'.length) && (decide (p.length = p'.length) && (exL (exB h) l l' && exP (exB h) p p')))))) := rfl
    generalize exB (h + 1) (.mk k ki s l p) (.mk k' ki' s' l' p') = E at *
    rw [← e1, ← e1', ← e2, ← e2'] at hE
    have hb1 : cl.length ≤ 1000000 := by omega
    have hb2 : cp.length ≤ 1000000 := by omega
    replace hb0 := hide1 hb0
    replace hbx := hide1 hbx
    replace hby := hide1 hby
    replace hsb := hide1 hsb
    replace e1 := hide1 e1
    replace e2 := hide1 e2
    replace e1' := hide1 e1'
    replace e2' := hide1 e2'
    clear b1 b2
    have hout : ∀ b, E = b → (Ending.returned (.bool b) : Ending) = .returned (.bool E) := fun b h => by rw [h]
    have hs1 := st_eq s s'
    by_cases q1 : k = k'
    case neg =>
      have hq : (k == k') = false := by simpa using q1
      have hf : Hid ((Ending.returned (.bool false) : Ending) = .returned (.bool E) ∧ Below w.heap.size w wb) := hide1 ⟨hout _ (by rw [hE]; simp [q1]), hb0.out⟩
      clear hE hout hs1
      subst hwb
      go_enter Tryz.func16, Tryz.ntmps16
      go_wp2
      go_ret
      exact hf.out
    subst q1
    by_cases q2 : ki = ki'
    case neg =>
      have hq : (ki == ki') = false := by simpa using q2
      clear hs1
      have hf : Hid ((Ending.returned (.bool false) : Ending) = .returned (.bool E) ∧ Below w.heap.size w wb) := hide1 ⟨hout _ (by rw [hE]; simp [q2]), hb0.out⟩
      clear hE hout
      subst hwb
      go_enter Tryz.func16, Tryz.ntmps16
      go_wp2
      go_ret
      exact hf.out
    subst q2
    by_cases q3 : s = s'
    case neg =>
      have hq : ((st s).toList == (st s').toList) = false := by rw [hs1]; exact decide_eq_false q3
      clear hs1
      have hf : Hid ((Ending.returned (.bool false) : Ending) = .returned (.bool E) ∧ Below w.heap.size w wb) := hide1 ⟨hout _ (by rw [hE]; simp [q3]), hb0.out⟩
      clear hE hout
      subst hwb
      go_enter Tryz.func16, Tryz.ntmps16
      go_wp2
      go_ret
      exact hf.out
    subst q3
    by_cases q4 : cl.length = cl'.length
    case neg =>
      have hq : ((cl.length : Int) != (cl'.length : Int)) = true := by simp; omega
      clear hs1
      have hf : Hid ((Ending.returned (.bool false) : Ending) = .returned (.bool E) ∧ Below w.heap.size w wb) := hide1 ⟨hout _ (by rw [hE]; simp [q4]), hb0.out⟩
      clear hE hout
      subst hwb
      go_enter Tryz.func16, Tryz.ntmps16
      go_wp2
      go_ret
      exact hf.out
    by_cases q5 : cp.length = cp'.length
    case neg =>
      have hq : ((cp.length : Int) != (cp'.length : Int)) = true := by simp; omega
      have hq4 : ((cl.length : Int) != (cl'.length : Int)) = false := by simp; omega
      replace q4 := hide1 q4
      clear hs1
      have hf : Hid ((Ending.returned (.bool false) : Ending) = .returned (.bool E) ∧ Below w.heap.size w wb) := hide1 ⟨hout _ (by rw [hE]; simp [q4.out, q5]), hb0.out⟩
      clear hE hout
      subst hwb
      go_enter Tryz.func16, Tryz.ntmps16
      go_wp2
      go_ret
      exact hf.out
    have hq4 : ((cl.length : Int) != (cl'.length : Int)) = false := by simp; omega
    have hq5 : ((cp.length : Int) != (cp'.length : Int)) = false := by simp; omega
    have hE2 : Hid (E = (exL (exB h) l l' && exP (exB h) p p')) := hide1 (by rw [hE]; simp [q4, q5])
    replace q4 := hide1 q4
    replace q5 := hide1 q5
    clear hE hs1
    replace hout := hide1 hout
    go_enter Tryz.func16, Tryz.ntmps16
    go_wp2_with fail
    rw [← hwb]
    go_loopw [5] (fun x wr => ∃ i : Nat, x = .int .i64 (i : Nat) ∧ i ≤ cl.length ∧ Hid (exL (exB h) (l.drop i) (l'.drop i) = exL (exB h) l l') ∧ Hid (Below wb.heap.size wb wr)) (fun x _ => cl.length - (intOf x).toNat)
    case atStart => exact ⟨0, rfl, by omega, hide1 rfl, hide1 (Below.refl _ _)⟩
    case round =>
      obtain ⟨i, rfl, hin, hme, hbw⟩ := hrel
      have hbr := (hbw.out.block w.heap.size (by have := hsb.out; omega)).trans hbx.out
      have hbs := (hbw.out.block (w.heap.size + 1) (by have := hsb.out; omega)).trans hby.out
      have c3 : wr.cell? ⟨w.heap.size, 3, none⟩ = some (.slice sa cl.length sc) := by simp only [World.cell?, hbr]; rfl
      have d3 : wr.cell? ⟨w.heap.size + 1, 3, none⟩ = some (.slice sa' cl'.length sc') := by simp only [World.cell?, hbs]; rfl
      have hB : Hid (Below w.heap.size w wr) := hide1 (hb0.out.trans (hbw.out.mono hb0.out.size))
      by_cases hlt : i < cl.length
      · have hlt' : i < cl'.length := by have := q4.out; omega
        obtain ⟨x, hx⟩ : ∃ x, cl[i]? = some x := ⟨_, List.getElem?_eq_getElem hlt⟩
        obtain ⟨x', hx'⟩ : ∃ x, cl'[i]? = some x := ⟨_, List.getElem?_eq_getElem hlt'⟩
        obtain ⟨u, hu⟩ : ∃ u, l[i]? = some u := ⟨_, List.getElem?_eq_getElem (by have := e1.out; omega)⟩
        obtain ⟨u', hu'⟩ : ∃ u, l'[i]? = some u := ⟨_, List.getElem?_eq_getElem (by have := e1'.out; omega)⟩
        have hxu := hl i u x hu hx
        have hxu' := hl' i u' x' hu' hx'
        obtain ⟨b, o, cap, hve, -, hbl, hr⟩ := r1.at hx
        obtain ⟨b', o', cap', hve', -, hbl', hr'⟩ := r1'.at hx'
        have hva : sa = some ⟨b, o, none⟩ := by cases hve; rfl
        have hva' : sa' = some ⟨b', o', none⟩ := by cases hve'; rfl
        subst hva hva'
        have hx5 := r1.1 x (List.mem_of_getElem? hx)
        have hx5' := r1'.1 x' (List.mem_of_getElem? hx')
        obtain ⟨x0, x1, x2, x3, x4, rfl⟩ : ∃ x0 x1 x2 x3 x4, x = [x0, x1, x2, x3, x4] := by
          match x, hx5 with
          | [x0, x1, x2, x3, x4], _ => exact ⟨x0, x1, x2, x3, x4, rfl⟩
        obtain ⟨z0, z1, z2, z3, z4, rfl⟩ : ∃ x0 x1 x2 x3 x4, x' = [x0, x1, x2, x3, x4] := by
          match x', hx5' with
          | [x0, x1, x2, x3, x4], _ => exact ⟨x0, x1, x2, x3, x4, rfl⟩
        have hms := exL_drop (f := exB h) hu hu'
        rw [hme.out] at hms
        replace hms := hide1 hms
        have hhu := hh1 u (List.mem_of_getElem? hu)
        replace hxu := hide1 hxu
        replace hxu' := hide1 hxu'
        replace hr := hide1 hr
        replace hr' := hide1 hr'
        replace hbr := hide1 hbr
        replace hbs := hide1 hbs
        clear hme hve hve' hx hx' hx5 hx5' hu hu'
        go_upto_region 6 with fail
        refine wp_flowG 11 _ _ (by kernel_rfl) (by kernel_rfl) (by kernel_rfl) rfl (R6 w.heap.size (w.heap.size + 1) i (.slice (some ⟨b, o, none⟩) cl.length sc) (.slice (some ⟨b', o', none⟩) cl'.length sc') (.pointer (some ⟨b, o + i * 5, none⟩)) (.pointer (some ⟨b', o' + i * 5, none⟩)) #[x0, x1, x2, x3, x4] #[z0, z1, z2, z3, z4] (exB h u u')) R6_mono ?_ ?_
        · intro j op hop hj a wa hwa hsz hsl hdep K hK
          have hBa : Below w.heap.size w wa := hB.out.trans (hwa.mono hB.out.size)
          have hwz := hB.out.size
          match j, hop with
          | 0, hop =>
            obtain rfl := Option.some.inj hop
            have t2 : a.tmps.getD 2 undef = .pointer (some ⟨w.heap.size, 0, none⟩) := hsl 2 rfl
            exact .plain rfl (wp_val (w' := wa) (by simp only [execOp, Act.eval]; rw [show a.tmps.getD 2 undef = _ from t2]; kernel_rfl) (hK _ _ (Below.refl _ _) rfl))
          | 1, hop =>
            obtain rfl := Option.some.inj hop
            have t := hdep 0 _ 51 rfl rfl ⟨⟨0, .data⟩, by simp, rfl, rfl⟩
            have hc := (hwa.cell (p := ⟨w.heap.size, 3, none⟩) (show w.heap.size < wr.heap.size from (Array.getElem?_eq_some_iff.1 hbr.out).1)).trans c3
            exact .plain rfl (wp_val (w' := wa) (by simp only [execOp, Act.eval]; rw [show a.tmps.getD 51 undef = _ from t]; simp only [Sem.run_bind, ld_sV hc, Result.andThen_ok, Sem.run_pure]) (hK _ _ (Below.refl _ _) rfl))
          | 2, hop =>
            obtain rfl := Option.some.inj hop
            have t := hsl 5 rfl
            exact .plain rfl (wp_val (w' := wa) (by simp only [execOp, Act.eval]; rw [show a.tmps.getD 5 undef = _ from t]; rfl) (hK _ _ (Below.refl _ _) rfl))
          | 3, hop =>
            obtain rfl := Option.some.inj hop
            have t1 := hdep 1 _ 52 rfl rfl ⟨⟨1, .data⟩, by simp, rfl, rfl⟩
            have t2 := hdep 2 _ 53 rfl rfl ⟨⟨2, .data⟩, by simp, rfl, rfl⟩
            exact .plain rfl (wp_val (w' := wa) (by simp only [execOp, Act.eval]; rw [show a.tmps.getD 52 undef = _ from t1, show a.tmps.getD 53 undef = _ from t2]; simp only [Sem.run_bind, ix_oV hlt, Result.andThen_ok, Sem.run_pure]) (hK _ _ (Below.refl _ _) rfl))
          | 4, hop =>
            obtain rfl := Option.some.inj hop
            have t1 := hdep 3 _ 54 rfl rfl ⟨⟨3, .data⟩, by simp, rfl, rfl⟩
            have hrr : wa.rangeAt b (o + i * 5) [x0, x1, x2, x3, x4] := fun q v hq => by
              rw [World.cell?_of_block (w := w) (hBa.block b hbl)]
              exact hr.out q v hq
            exact .plain rfl (wp_val (w' := wa) (by simp only [execOp, Act.eval]; rw [show a.tmps.getD 54 undef = _ from t1]; simp only [Sem.run_bind, ld_mV hrr, Result.andThen_ok, Sem.run_pure]) (hK _ _ (Below.refl _ _) rfl))
          | 5, hop =>
            obtain rfl := Option.some.inj hop
            have t2 : a.tmps.getD 3 undef = .pointer (some ⟨w.heap.size + 1, 0, none⟩) := hsl 3 rfl
            exact .plain rfl (wp_val (w' := wa) (by simp only [execOp, Act.eval]; rw [show a.tmps.getD 3 undef = _ from t2]; kernel_rfl) (hK _ _ (Below.refl _ _) rfl))
          | 6, hop =>
            obtain rfl := Option.some.inj hop
            have t := hdep 5 _ 56 rfl rfl ⟨⟨5, .data⟩, by simp, rfl, rfl⟩
            have hc := (hwa.cell (p := ⟨w.heap.size + 1, 3, none⟩) (show w.heap.size + 1 < wr.heap.size from (Array.getElem?_eq_some_iff.1 hbs.out).1)).trans d3
            exact .plain rfl (wp_val (w' := wa) (by simp only [execOp, Act.eval]; rw [show a.tmps.getD 56 undef = _ from t]; simp only [Sem.run_bind, ld_sV hc, Result.andThen_ok, Sem.run_pure]) (hK _ _ (Below.refl _ _) rfl))
          | 7, hop =>
            obtain rfl := Option.some.inj hop
            have t := hsl 5 rfl
            exact .plain rfl (wp_val (w' := wa) (by simp only [execOp, Act.eval]; rw [show a.tmps.getD 5 undef = _ from t]; rfl) (hK _ _ (Below.refl _ _) rfl))
          | 8, hop =>
            obtain rfl := Option.some.inj hop
            have t1 := hdep 6 _ 57 rfl rfl ⟨⟨6, .data⟩, by simp, rfl, rfl⟩
            have t2 := hdep 7 _ 58 rfl rfl ⟨⟨7, .data⟩, by simp, rfl, rfl⟩
            exact .plain rfl (wp_val (w' := wa) (by simp only [execOp, Act.eval]; rw [show a.tmps.getD 57 undef = _ from t1, show a.tmps.getD 58 undef = _ from t2]; simp only [Sem.run_bind, ix_oV hlt', Result.andThen_ok, Sem.run_pure]) (hK _ _ (Below.refl _ _) rfl))
          | 9, hop =>
            obtain rfl := Option.some.inj hop
            have t1 := hdep 8 _ 59 rfl rfl ⟨⟨8, .data⟩, by simp, rfl, rfl⟩
            have hrr : wa.rangeAt b' (o' + i * 5) [z0, z1, z2, z3, z4] := fun q v hq => by
              rw [World.cell?_of_block (w := w) (hBa.block b' hbl')]
              exact hr'.out q v hq
            exact .plain rfl (wp_val (w' := wa) (by simp only [execOp, Act.eval]; rw [show a.tmps.getD 59 undef = _ from t1]; simp only [Sem.run_bind, ld_mV hrr, Result.andThen_ok, Sem.run_pure]) (hK _ _ (Below.refl _ _) rfl))
          | 10, hop =>
            obtain rfl := Option.some.inj hop
            have t4 := hdep 4 _ 55 rfl rfl ⟨⟨4, .data⟩, by simp, rfl, rfl⟩
            have t9 := hdep 9 _ 60 rfl rfl ⟨⟨9, .data⟩, by simp, rfl, rfl⟩
            have hcal := ih hhu (hxu.out.frame (w' := wa) (G := F) (fun j _ hj => hBa.block j hj) (fun _ h _ => h)) (hxu'.out.frame (w' := wa) (G := G) (fun j _ hj => hBa.block j hj) (fun _ h _ => h))
            refine .plain rfl (oper_any (J := fun r w' => r = .bool (exB h u u') ∧ Below wa.heap.size wa w') 16 #[.tmp 55, .tmp 60] _ rfl #[.agg #[x0, x1, x2, x3, x4], .agg #[z0, z1, z2, z3, z4]] (by simp only [List.map_toArray, List.map_cons, List.map_nil, Act.eval]; rw [show a.tmps.getD 55 undef = _ from t4, show a.tmps.getD 60 undef = _ from t9]) (fun w => by kernel_rfl) (hcal.mono fun e w' h => ⟨_, h.1, rfl, h.2⟩) ?_)
            rintro r w' ⟨rfl, hb⟩
            exact hK _ _ hb rfl
          | 11, _ => exact absurd rfl hj
          | _ + 12, hop => exact absurd hop (by simp)
        · intro a wa hwa hdf hsz hsl hrr K hK
          have t10 := hrr 10 _ 61 rfl (by decide) rfl
          have hbw2 := hide1 (hbw.out.trans (hwa.mono hbw.out.size))
          refine .plain rfl (wp_val (w' := wa) (v := .bool (!exB h u u')) (by simp only [execOp, Act.eval]; rw [show a.tmps.getD 61 undef = _ from t10]; kernel_rfl) ?_)
          refine hK _ wa ?_
          have hact := act_puts hdf hsz hsl
          have hBf := hide1 (hB.out.trans (hwa.mono hB.out.size))
          clear hrr hsl hdf hsz hK t10 ih
          simp only [List.filterMap_cons, List.filterMap_nil, List.foldl_cons, List.foldl_nil] at hact
          rw [hact]
          generalize a.tmps.getD 51 undef = y51
          generalize a.tmps.getD 52 undef = y52
          generalize a.tmps.getD 53 undef = y53
          generalize a.tmps.getD 54 undef = y54
          generalize a.tmps.getD 55 undef = y55
          generalize a.tmps.getD 56 undef = y56
          generalize a.tmps.getD 57 undef = y57
          generalize a.tmps.getD 58 undef = y58
          generalize a.tmps.getD 59 undef = y59
          generalize a.tmps.getD 60 undef = y60
          generalize a.tmps.getD 61 undef = y61
          generalize a.tmps.getD 62 undef = y62
          clear hact a
          cases hex : exB h u u' with
          | true =>
            rw [hex, Bool.true_and] at hms
            refine (‹∀ (a : Act) (w : World), Code.wp Tryz.prog _ _ a w → _›) _ wa ?_
            simp only [Bool.not_true, Act.put, List.setIfInBounds_toArray, List.set_cons_succ, List.set_cons_zero]
            go_wp2
            go_roundw
            case rel => exact ⟨i + 1, rfl, by omega, hide1 hms.out.symm, hbw2⟩
            case measure => simp [intOf]; omega
          | false =>
            rw [hex, Bool.false_and] at hms
            refine (‹∀ (a : Act) (w : World), Code.wp Tryz.prog _ _ a w → _›) _ wa ?_
            have hf : Hid ((Ending.returned (.bool false) : Ending) = .returned (.bool E) ∧ Below w.heap.size w wa) := hide1 ⟨hout.out _ (by rw [hE2.out, hms.out]; rfl), hBf.out⟩
            simp only [Bool.not_false, Act.put, List.setIfInBounds_toArray, List.set_cons_succ, List.set_cons_zero]
            go_wp2
            go_ret
            exact hf.out
      · have hie : i = cl.length := by omega
        subst hie
        have hE3 : Hid (E = exP (exB h) p p') := hide1 (by
          have h3 : exL (exB h) l l' = true := by
            rw [← hme.out, List.drop_of_length_le (by have := e1.out; omega)]
            cases l'.drop cl.length <;> rfl
          rw [hE2.out, h3, Bool.true_and])
        clear hme hlt r1 r1' hh1
        go_wp2_with fail
        go_loopw [6] (fun x wr => ∃ i : Nat, x = .int .i64 (i : Nat) ∧ i ≤ cp.length ∧ Hid (exP (exB h) (p.drop i) (p'.drop i) = exP (exB h) p p') ∧ Hid (Below wb.heap.size wb wr)) (fun x _ => cp.length - (intOf x).toNat)
        case atStart => exact ⟨0, rfl, by omega, hide1 rfl, hbw⟩
        case round =>
          clear hbw hB c3 d3 hbr hbs hin
          obtain ⟨i, rfl, hin, hme, hbw⟩ := hrel
          have hbr := (hbw.out.block w.heap.size (by have := hsb.out; omega)).trans hbx.out
          have hbs := (hbw.out.block (w.heap.size + 1) (by have := hsb.out; omega)).trans hby.out
          have c4 : wr.cell? ⟨w.heap.size, 4, none⟩ = some (.slice pa cp.length pc) := by simp only [World.cell?, hbr]; rfl
          have d4 : wr.cell? ⟨w.heap.size + 1, 4, none⟩ = some (.slice pa' cp'.length pc') := by simp only [World.cell?, hbs]; rfl
          have hB : Hid (Below w.heap.size w wr) := hide1 (hb0.out.trans (hbw.out.mono hb0.out.size))
          by_cases hlt : i < cp.length
          · have hlt' : i < cp'.length := by have := q5.out; omega
            obtain ⟨x, hx⟩ : ∃ x, cp[i]? = some x := ⟨_, List.getElem?_eq_getElem hlt⟩
            obtain ⟨x', hx'⟩ : ∃ x, cp'[i]? = some x := ⟨_, List.getElem?_eq_getElem hlt'⟩
            obtain ⟨u, hu⟩ : ∃ u, p[i]? = some u := ⟨_, List.getElem?_eq_getElem (by have := e2.out; omega)⟩
            obtain ⟨u', hu'⟩ : ∃ u, p'[i]? = some u := ⟨_, List.getElem?_eq_getElem (by have := e2'.out; omega)⟩
            have hxn := hp1 i u x hu hx
            have hxn' := hp1' i u' x' hu' hx'
            have hxu := hp2 i u x hu hx
            have hxu' := hp2' i u' x' hu' hx'
            obtain ⟨b, o, cap, hve, -, hbl, hr⟩ := r2.at hx
            obtain ⟨b', o', cap', hve', -, hbl', hr'⟩ := r2'.at hx'
            have hva : pa = some ⟨b, o, none⟩ := by cases hve; rfl
            have hva' : pa' = some ⟨b', o', none⟩ := by cases hve'; rfl
            subst hva hva'
            obtain ⟨x0, x1, x2, x3, x4, x5, rfl⟩ := arr6 (r2.1 x (List.mem_of_getElem? hx))
            obtain ⟨z0, z1, z2, z3, z4, z5, rfl⟩ := arr6 (r2'.1 x' (List.mem_of_getElem? hx'))
            have hms := exP_drop (f := exB h) hu hu'
            rw [hme.out] at hms
            replace hms := hide1 hms
            have hhu := hh2 u (List.mem_of_getElem? hu)
            replace hxu := hide1 hxu
            replace hxu' := hide1 hxu'
            replace hr := hide1 hr
            replace hr' := hide1 hr'
            replace hbr := hide1 hbr
            replace hbs := hide1 hbs
            simp only [List.head?_cons, Option.some.injEq] at hxn hxn'
            subst hxn hxn'
            clear hme hve hve' hx hx' hu hu'
            go_upto_region 11 with fail
            by_cases hnm : u.1 = u'.1
            case neg =>
              refine wp_flowG 28 _ _ (by kernel_rfl) (by kernel_rfl) (by kernel_rfl) rfl (fun j v _ => v = ([(.pointer (some ⟨w.heap.size, 4, none⟩)), (.slice (some ⟨b, o, none⟩) cp.length pc), (.int .i64 (i : Nat)), (.pointer (some ⟨b, o + i * 6, none⟩)), (.pointer (some ⟨b, o + i * 6, none⟩)), (.string (st u.1)), (.pointer (some ⟨w.heap.size + 1, 4, none⟩)), (.slice (some ⟨b', o', none⟩) cp'.length pc'), (.int .i64 (i : Nat)), (.pointer (some ⟨b', o' + i * 6, none⟩)), (.pointer (some ⟨b', o' + i * 6, none⟩)), (.string (st u'.1)), (.bool true), (.bool true), undef, undef, undef, undef, undef, undef, undef, undef, undef, undef, undef, undef, undef, undef] : List Value).getD j undef) (fun _ _ _ _ h _ => h) ?_ ?_
              · intro j op hop hj a wa hwa hsz hsl hdep K hK
                have hBa : Below w.heap.size w wa := hB.out.trans (hwa.mono hB.out.size)
                have hz83 : 83 < a.tmps.size := by rw [hsz]; simp
                match j, hop with
                  | 0, hop =>
                    obtain rfl := Option.some.inj hop
                    have tq : a.tmps.getD 2 undef = .pointer (some ⟨w.heap.size, 0, none⟩) := hsl 2 rfl
                    exact .plain rfl (wp_val (w' := wa) (v := (.pointer (some ⟨w.heap.size, 4, none⟩))) (by simp only [execOp, Act.eval]; rw [show a.tmps.getD 2 undef = _ from tq]; kernel_rfl) (hK _ _ (Below.refl _ _) rfl))
                  | 1, hop =>
                    obtain rfl := Option.some.inj hop
                    have t0 : a.tmps.getD 70 undef = (.pointer (some ⟨w.heap.size, 4, none⟩)) := hdep 0 _ 70 rfl rfl ⟨⟨0, .data⟩, by simp, rfl, rfl⟩
                    have hc := (hwa.cell (p := ⟨w.heap.size, 4, none⟩) (show w.heap.size < wr.heap.size from (Array.getElem?_eq_some_iff.1 hbr.out).1)).trans c4
                    exact .plain rfl (wp_val (w' := wa) (v := (.slice (some ⟨b, o, none⟩) cp.length pc)) (by simp only [execOp, Act.eval]; rw [show a.tmps.getD 70 undef = _ from t0]; simp only [Sem.run_bind, ld_sP hc, Result.andThen_ok, Sem.run_pure]) (hK _ _ (Below.refl _ _) rfl))
                  | 2, hop =>
                    obtain rfl := Option.some.inj hop
                    have tq : a.tmps.getD 6 undef = (.int .i64 (i : Nat)) := hsl 6 rfl
                    exact .plain rfl (wp_val (w' := wa) (v := (.int .i64 (i : Nat))) (by simp only [execOp, Act.eval]; rw [show a.tmps.getD 6 undef = _ from tq]; rfl) (hK _ _ (Below.refl _ _) rfl))
                  | 3, hop =>
                    obtain rfl := Option.some.inj hop
                    have t1 : a.tmps.getD 71 undef = (.slice (some ⟨b, o, none⟩) cp.length pc) := hdep 1 _ 71 rfl rfl ⟨⟨1, .data⟩, by simp, rfl, rfl⟩
                    have t2 : a.tmps.getD 72 undef = (.int .i64 (i : Nat)) := hdep 2 _ 72 rfl rfl ⟨⟨2, .data⟩, by simp, rfl, rfl⟩
                    exact .plain rfl (wp_val (w' := wa) (v := (.pointer (some ⟨b, o + i * 6, none⟩))) (by simp only [execOp, Act.eval]; rw [show a.tmps.getD 71 undef = _ from t1, show a.tmps.getD 72 undef = _ from t2]; simp only [Sem.run_bind, ix_oP hlt, Result.andThen_ok, Sem.run_pure]) (hK _ _ (Below.refl _ _) rfl))
                  | 4, hop =>
                    obtain rfl := Option.some.inj hop
                    have t3 : a.tmps.getD 73 undef = (.pointer (some ⟨b, o + i * 6, none⟩)) := hdep 3 _ 73 rfl rfl ⟨⟨3, .data⟩, by simp, rfl, rfl⟩
                    exact .plain rfl (wp_val (w' := wa) (v := (.pointer (some ⟨b, o + i * 6, none⟩))) (by simp only [execOp, Act.eval]; rw [show a.tmps.getD 73 undef = _ from t3]; kernel_rfl) (hK _ _ (Below.refl _ _) rfl))
                  | 5, hop =>
                    obtain rfl := Option.some.inj hop
                    have t4 : a.tmps.getD 74 undef = (.pointer (some ⟨b, o + i * 6, none⟩)) := hdep 4 _ 74 rfl rfl ⟨⟨4, .data⟩, by simp, rfl, rfl⟩
                    have hc : wa.cell? ⟨b, o + i * 6, none⟩ = some (.string (st u.1)) := by
                      rw [World.cell?_of_block (w := w) (hBa.block b hbl)]
                      exact hr.out 0 _ rfl
                    exact .plain rfl (wp_val (w' := wa) (v := (.string (st u.1))) (by simp only [execOp, Act.eval]; rw [show a.tmps.getD 74 undef = _ from t4]; simp only [Sem.run_bind, ld_s0 hc, Result.andThen_ok, Sem.run_pure]) (hK _ _ (Below.refl _ _) rfl))
                  | 6, hop =>
                    obtain rfl := Option.some.inj hop
                    have tq : a.tmps.getD 3 undef = .pointer (some ⟨w.heap.size + 1, 0, none⟩) := hsl 3 rfl
                    exact .plain rfl (wp_val (w' := wa) (v := (.pointer (some ⟨w.heap.size + 1, 4, none⟩))) (by simp only [execOp, Act.eval]; rw [show a.tmps.getD 3 undef = _ from tq]; kernel_rfl) (hK _ _ (Below.refl _ _) rfl))
                  | 7, hop =>
                    obtain rfl := Option.some.inj hop
                    have t6 : a.tmps.getD 76 undef = (.pointer (some ⟨w.heap.size + 1, 4, none⟩)) := hdep 6 _ 76 rfl rfl ⟨⟨6, .data⟩, by simp, rfl, rfl⟩
                    have hc := (hwa.cell (p := ⟨w.heap.size + 1, 4, none⟩) (show w.heap.size + 1 < wr.heap.size from (Array.getElem?_eq_some_iff.1 hbs.out).1)).trans d4
                    exact .plain rfl (wp_val (w' := wa) (v := (.slice (some ⟨b', o', none⟩) cp'.length pc')) (by simp only [execOp, Act.eval]; rw [show a.tmps.getD 76 undef = _ from t6]; simp only [Sem.run_bind, ld_sP hc, Result.andThen_ok, Sem.run_pure]) (hK _ _ (Below.refl _ _) rfl))
                  | 8, hop =>
                    obtain rfl := Option.some.inj hop
                    have tq : a.tmps.getD 6 undef = (.int .i64 (i : Nat)) := hsl 6 rfl
                    exact .plain rfl (wp_val (w' := wa) (v := (.int .i64 (i : Nat))) (by simp only [execOp, Act.eval]; rw [show a.tmps.getD 6 undef = _ from tq]; rfl) (hK _ _ (Below.refl _ _) rfl))
                  | 9, hop =>
                    obtain rfl := Option.some.inj hop
                    have t7 : a.tmps.getD 77 undef = (.slice (some ⟨b', o', none⟩) cp'.length pc') := hdep 7 _ 77 rfl rfl ⟨⟨7, .data⟩, by simp, rfl, rfl⟩
                    have t8 : a.tmps.getD 78 undef = (.int .i64 (i : Nat)) := hdep 8 _ 78 rfl rfl ⟨⟨8, .data⟩, by simp, rfl, rfl⟩
                    exact .plain rfl (wp_val (w' := wa) (v := (.pointer (some ⟨b', o' + i * 6, none⟩))) (by simp only [execOp, Act.eval]; rw [show a.tmps.getD 77 undef = _ from t7, show a.tmps.getD 78 undef = _ from t8]; simp only [Sem.run_bind, ix_oP hlt', Result.andThen_ok, Sem.run_pure]) (hK _ _ (Below.refl _ _) rfl))
                  | 10, hop =>
                    obtain rfl := Option.some.inj hop
                    have t9 : a.tmps.getD 79 undef = (.pointer (some ⟨b', o' + i * 6, none⟩)) := hdep 9 _ 79 rfl rfl ⟨⟨9, .data⟩, by simp, rfl, rfl⟩
                    exact .plain rfl (wp_val (w' := wa) (v := (.pointer (some ⟨b', o' + i * 6, none⟩))) (by simp only [execOp, Act.eval]; rw [show a.tmps.getD 79 undef = _ from t9]; kernel_rfl) (hK _ _ (Below.refl _ _) rfl))
                  | 11, hop =>
                    obtain rfl := Option.some.inj hop
                    have t10 : a.tmps.getD 80 undef = (.pointer (some ⟨b', o' + i * 6, none⟩)) := hdep 10 _ 80 rfl rfl ⟨⟨10, .data⟩, by simp, rfl, rfl⟩
                    have hc : wa.cell? ⟨b', o' + i * 6, none⟩ = some (.string (st u'.1)) := by
                      rw [World.cell?_of_block (w := w) (hBa.block b' hbl')]
                      exact hr'.out 0 _ rfl
                    exact .plain rfl (wp_val (w' := wa) (v := (.string (st u'.1))) (by simp only [execOp, Act.eval]; rw [show a.tmps.getD 80 undef = _ from t10]; simp only [Sem.run_bind, ld_s0 hc, Result.andThen_ok, Sem.run_pure]) (hK _ _ (Below.refl _ _) rfl))
                  | 12, hop =>
                    obtain rfl := Option.some.inj hop
                    have t5 : a.tmps.getD 75 undef = (.string (st u.1)) := hdep 5 _ 75 rfl rfl ⟨⟨5, .data⟩, by simp, rfl, rfl⟩
                    have t11 : a.tmps.getD 81 undef = (.string (st u'.1)) := hdep 11 _ 81 rfl rfl ⟨⟨11, .data⟩, by simp, rfl, rfl⟩
                    exact .plain rfl (wp_val (w' := wa) (v := (.bool true)) (by simp only [execOp, Act.eval]; rw [show a.tmps.getD 75 undef = _ from t5, show a.tmps.getD 81 undef = _ from t11]; simp only [Sem.run_bind, eg_s, nq_s, decide_eq_false hnm, Bool.not_false, Result.andThen_ok, Sem.run_pure]) (hK _ _ (Below.refl _ _) rfl))
                  | 13, hop =>
                    obtain rfl := Option.some.inj hop
                    have t12 : a.tmps.getD 82 undef = (.bool true) := hdep 12 _ 82 rfl rfl ⟨⟨12, .data⟩, by simp, rfl, rfl⟩
                    exact .plain rfl (wp_val (w' := wa) (v := (.bool true)) (by simp only [execOp, Act.eval]; rw [show a.tmps.getD 82 undef = _ from t12]; rfl) (hK _ _ (Below.refl _ _) rfl))
                  | 14, hop =>
                    obtain rfl := Option.some.inj hop
                    have g13 : a.tmps.getD 83 undef = .bool true := hdep 13 _ 83 rfl rfl ⟨⟨13, .guard⟩, by simp, rfl, rfl⟩
                    exact .skip rfl rfl hz83 g13 (hK _ _ (Below.refl _ _) rfl)
                  | 15, hop =>
                    obtain rfl := Option.some.inj hop
                    have g13 : a.tmps.getD 83 undef = .bool true := hdep 13 _ 83 rfl rfl ⟨⟨13, .guard⟩, by simp, rfl, rfl⟩
                    exact .skip rfl rfl hz83 g13 (hK _ _ (Below.refl _ _) rfl)
                  | 16, hop =>
                    obtain rfl := Option.some.inj hop
                    have g13 : a.tmps.getD 83 undef = .bool true := hdep 13 _ 83 rfl rfl ⟨⟨13, .guard⟩, by simp, rfl, rfl⟩
                    exact .skip rfl rfl hz83 g13 (hK _ _ (Below.refl _ _) rfl)
                  | 17, hop =>
                    obtain rfl := Option.some.inj hop
                    have g13 : a.tmps.getD 83 undef = .bool true := hdep 13 _ 83 rfl rfl ⟨⟨13, .guard⟩, by simp, rfl, rfl⟩
                    exact .skip rfl rfl hz83 g13 (hK _ _ (Below.refl _ _) rfl)
                  | 18, hop =>
                    obtain rfl := Option.some.inj hop
                    have g13 : a.tmps.getD 83 undef = .bool true := hdep 13 _ 83 rfl rfl ⟨⟨13, .guard⟩, by simp, rfl, rfl⟩
                    exact .skip rfl rfl hz83 g13 (hK _ _ (Below.refl _ _) rfl)
                  | 19, hop =>
                    obtain rfl := Option.some.inj hop
                    have g13 : a.tmps.getD 83 undef = .bool true := hdep 13 _ 83 rfl rfl ⟨⟨13, .guard⟩, by simp, rfl, rfl⟩
                    exact .skip rfl rfl hz83 g13 (hK _ _ (Below.refl _ _) rfl)
                  | 20, hop =>
                    obtain rfl := Option.some.inj hop
                    have g13 : a.tmps.getD 83 undef = .bool true := hdep 13 _ 83 rfl rfl ⟨⟨13, .guard⟩, by simp, rfl, rfl⟩
                    exact .skip rfl rfl hz83 g13 (hK _ _ (Below.refl _ _) rfl)
                  | 21, hop =>
                    obtain rfl := Option.some.inj hop
                    have g13 : a.tmps.getD 83 undef = .bool true := hdep 13 _ 83 rfl rfl ⟨⟨13, .guard⟩, by simp, rfl, rfl⟩
                    exact .skip rfl rfl hz83 g13 (hK _ _ (Below.refl _ _) rfl)
                  | 22, hop =>
                    obtain rfl := Option.some.inj hop
                    have g13 : a.tmps.getD 83 undef = .bool true := hdep 13 _ 83 rfl rfl ⟨⟨13, .guard⟩, by simp, rfl, rfl⟩
                    exact .skip rfl rfl hz83 g13 (hK _ _ (Below.refl _ _) rfl)
                  | 23, hop =>
                    obtain rfl := Option.some.inj hop
                    have g13 : a.tmps.getD 83 undef = .bool true := hdep 13 _ 83 rfl rfl ⟨⟨13, .guard⟩, by simp, rfl, rfl⟩
                    exact .skip rfl rfl hz83 g13 (hK _ _ (Below.refl _ _) rfl)
                  | 24, hop =>
                    obtain rfl := Option.some.inj hop
                    have g13 : a.tmps.getD 83 undef = .bool true := hdep 13 _ 83 rfl rfl ⟨⟨13, .guard⟩, by simp, rfl, rfl⟩
                    exact .skip rfl rfl hz83 g13 (hK _ _ (Below.refl _ _) rfl)
                  | 25, hop =>
                    obtain rfl := Option.some.inj hop
                    have g13 : a.tmps.getD 83 undef = .bool true := hdep 13 _ 83 rfl rfl ⟨⟨13, .guard⟩, by simp, rfl, rfl⟩
                    exact .skip rfl rfl hz83 g13 (hK _ _ (Below.refl _ _) rfl)
                  | 26, hop =>
                    obtain rfl := Option.some.inj hop
                    have g13 : a.tmps.getD 83 undef = .bool true := hdep 13 _ 83 rfl rfl ⟨⟨13, .guard⟩, by simp, rfl, rfl⟩
                    exact .skip rfl rfl hz83 g13 (hK _ _ (Below.refl _ _) rfl)
                  | 27, hop =>
                    obtain rfl := Option.some.inj hop
                    have g13 : a.tmps.getD 83 undef = .bool true := hdep 13 _ 83 rfl rfl ⟨⟨13, .guard⟩, by simp, rfl, rfl⟩
                    exact .skip rfl rfl hz83 g13 (hK _ _ (Below.refl _ _) rfl)
                  | 28, _ => exact absurd rfl hj
                  | _ + 29, hop => exact absurd hop (by simp)
              · intro a wa hwa hdf hsz hsl hrr K hK
                have g13 : a.tmps.getD 83 undef = (.bool true) := hrr 13 _ 83 rfl (by decide) rfl
                have g27 : a.tmps.getD 97 undef = undef := hrr 27 _ 97 rfl (by decide) rfl
                have hbw2 := hide1 (hbw.out.trans (hwa.mono hbw.out.size))
                refine .plain rfl (wp_val (w' := wa) (v := (.bool true)) (by simp only [execOp, Act.eval]; rw [show a.tmps.getD 83 undef = _ from g13, show a.tmps.getD 97 undef = _ from g27]; rfl) ?_)
                refine hK _ wa ?_
                have hact := act_puts hdf hsz hsl
                have hBf := hide1 (hB.out.trans (hwa.mono hB.out.size))
                clear hrr hsl hdf hsz hK g13 g27 ih
                simp only [List.filterMap_cons, List.filterMap_nil, List.foldl_cons, List.foldl_nil] at hact
                rw [hact]
                generalize a.tmps.getD 70 undef = y70
                generalize a.tmps.getD 71 undef = y71
                generalize a.tmps.getD 72 undef = y72
                generalize a.tmps.getD 73 undef = y73
                generalize a.tmps.getD 74 undef = y74
                generalize a.tmps.getD 75 undef = y75
                generalize a.tmps.getD 76 undef = y76
                generalize a.tmps.getD 77 undef = y77
                generalize a.tmps.getD 78 undef = y78
                generalize a.tmps.getD 79 undef = y79
                generalize a.tmps.getD 80 undef = y80
                generalize a.tmps.getD 81 undef = y81
                generalize a.tmps.getD 82 undef = y82
                generalize a.tmps.getD 83 undef = y83
                generalize a.tmps.getD 84 undef = y84
                generalize a.tmps.getD 85 undef = y85
                generalize a.tmps.getD 86 undef = y86
                generalize a.tmps.getD 87 undef = y87
                generalize a.tmps.getD 88 undef = y88
                generalize a.tmps.getD 89 undef = y89
                generalize a.tmps.getD 90 undef = y90
                generalize a.tmps.getD 91 undef = y91
                generalize a.tmps.getD 92 undef = y92
                generalize a.tmps.getD 93 undef = y93
                generalize a.tmps.getD 94 undef = y94
                generalize a.tmps.getD 95 undef = y95
                generalize a.tmps.getD 96 undef = y96
                generalize a.tmps.getD 97 undef = y97
                generalize a.tmps.getD 98 undef = y98
                clear hact a
                rw [decide_eq_false hnm, Bool.false_and] at hms
                refine (‹∀ (a : Act) (w : World), Code.wp Tryz.prog _ _ a w → _›) _ wa ?_
                have hf : Hid ((Ending.returned (.bool false) : Ending) = .returned (.bool E) ∧ Below w.heap.size w wa) := hide1 ⟨hout.out _ (by rw [hE3.out, hms.out]), hBf.out⟩
                simp only [Act.put, List.setIfInBounds_toArray, List.set_cons_succ, List.set_cons_zero]
                go_wp2
                go_ret
                exact hf.out
            refine wp_flowG 28 _ _ (by kernel_rfl) (by kernel_rfl) (by kernel_rfl) rfl (fun j v _ => v = ([(.pointer (some ⟨w.heap.size, 4, none⟩)), (.slice (some ⟨b, o, none⟩) cp.length pc), (.int .i64 (i : Nat)), (.pointer (some ⟨b, o + i * 6, none⟩)), (.pointer (some ⟨b, o + i * 6, none⟩)), (.string (st u.1)), (.pointer (some ⟨w.heap.size + 1, 4, none⟩)), (.slice (some ⟨b', o', none⟩) cp'.length pc'), (.int .i64 (i : Nat)), (.pointer (some ⟨b', o' + i * 6, none⟩)), (.pointer (some ⟨b', o' + i * 6, none⟩)), (.string (st u'.1)), (.bool false), (.bool false), (.pointer (some ⟨w.heap.size, 4, none⟩)), (.slice (some ⟨b, o, none⟩) cp.length pc), (.int .i64 (i : Nat)), (.pointer (some ⟨b, o + i * 6, none⟩)), (.pointer (some ⟨b, o + i * 6 + 1, none⟩)), (.agg #[x1, x2, x3, x4, x5]), (.pointer (some ⟨w.heap.size + 1, 4, none⟩)), (.slice (some ⟨b', o', none⟩) cp'.length pc'), (.int .i64 (i : Nat)), (.pointer (some ⟨b', o' + i * 6, none⟩)), (.pointer (some ⟨b', o' + i * 6 + 1, none⟩)), (.agg #[z1, z2, z3, z4, z5]), (.bool (exB h u.2 u'.2)), (.bool (!exB h u.2 u'.2))] : List Value).getD j undef) (fun _ _ _ _ h _ => h) ?_ ?_
            · intro j op hop hj a wa hwa hsz hsl hdep K hK
              have hBa : Below w.heap.size w wa := hB.out.trans (hwa.mono hB.out.size)
              have hz83 : 83 < a.tmps.size := by rw [hsz]; simp
              match j, hop with
                | 0, hop =>
                  obtain rfl := Option.some.inj hop
                  have tq : a.tmps.getD 2 undef = .pointer (some ⟨w.heap.size, 0, none⟩) := hsl 2 rfl
                  exact .plain rfl (wp_val (w' := wa) (v := (.pointer (some ⟨w.heap.size, 4, none⟩))) (by simp only [execOp, Act.eval]; rw [show a.tmps.getD 2 undef = _ from tq]; kernel_rfl) (hK _ _ (Below.refl _ _) rfl))
                | 1, hop =>
                  obtain rfl := Option.some.inj hop
                  have t0 : a.tmps.getD 70 undef = (.pointer (some ⟨w.heap.size, 4, none⟩)) := hdep 0 _ 70 rfl rfl ⟨⟨0, .data⟩, by simp, rfl, rfl⟩
                  have hc := (hwa.cell (p := ⟨w.heap.size, 4, none⟩) (show w.heap.size < wr.heap.size from (Array.getElem?_eq_some_iff.1 hbr.out).1)).trans c4
                  exact .plain rfl (wp_val (w' := wa) (v := (.slice (some ⟨b, o, none⟩) cp.length pc)) (by simp only [execOp, Act.eval]; rw [show a.tmps.getD 70 undef = _ from t0]; simp only [Sem.run_bind, ld_sP hc, Result.andThen_ok, Sem.run_pure]) (hK _ _ (Below.refl _ _) rfl))
                | 2, hop =>
                  obtain rfl := Option.some.inj hop
                  have tq : a.tmps.getD 6 undef = (.int .i64 (i : Nat)) := hsl 6 rfl
                  exact .plain rfl (wp_val (w' := wa) (v := (.int .i64 (i : Nat))) (by simp only [execOp, Act.eval]; rw [show a.tmps.getD 6 undef = _ from tq]; rfl) (hK _ _ (Below.refl _ _) rfl))
                | 3, hop =>
                  obtain rfl := Option.some.inj hop
                  have t1 : a.tmps.getD 71 undef = (.slice (some ⟨b, o, none⟩) cp.length pc) := hdep 1 _ 71 rfl rfl ⟨⟨1, .data⟩, by simp, rfl, rfl⟩
                  have t2 : a.tmps.getD 72 undef = (.int .i64 (i : Nat)) := hdep 2 _ 72 rfl rfl ⟨⟨2, .data⟩, by simp, rfl, rfl⟩
                  exact .plain rfl (wp_val (w' := wa) (v := (.pointer (some ⟨b, o + i * 6, none⟩))) (by simp only [execOp, Act.eval]; rw [show a.tmps.getD 71 undef = _ from t1, show a.tmps.getD 72 undef = _ from t2]; simp only [Sem.run_bind, ix_oP hlt, Result.andThen_ok, Sem.run_pure]) (hK _ _ (Below.refl _ _) rfl))
                | 4, hop =>
                  obtain rfl := Option.some.inj hop
                  have t3 : a.tmps.getD 73 undef = (.pointer (some ⟨b, o + i * 6, none⟩)) := hdep 3 _ 73 rfl rfl ⟨⟨3, .data⟩, by simp, rfl, rfl⟩
                  exact .plain rfl (wp_val (w' := wa) (v := (.pointer (some ⟨b, o + i * 6, none⟩))) (by simp only [execOp, Act.eval]; rw [show a.tmps.getD 73 undef = _ from t3]; kernel_rfl) (hK _ _ (Below.refl _ _) rfl))
                | 5, hop =>
                  obtain rfl := Option.some.inj hop
                  have t4 : a.tmps.getD 74 undef = (.pointer (some ⟨b, o + i * 6, none⟩)) := hdep 4 _ 74 rfl rfl ⟨⟨4, .data⟩, by simp, rfl, rfl⟩
                  have hc : wa.cell? ⟨b, o + i * 6, none⟩ = some (.string (st u.1)) := by
                    rw [World.cell?_of_block (w := w) (hBa.block b hbl)]
                    exact hr.out 0 _ rfl
                  exact .plain rfl (wp_val (w' := wa) (v := (.string (st u.1))) (by simp only [execOp, Act.eval]; rw [show a.tmps.getD 74 undef = _ from t4]; simp only [Sem.run_bind, ld_s0 hc, Result.andThen_ok, Sem.run_pure]) (hK _ _ (Below.refl _ _) rfl))
                | 6, hop =>
                  obtain rfl := Option.some.inj hop
                  have tq : a.tmps.getD 3 undef = .pointer (some ⟨w.heap.size + 1, 0, none⟩) := hsl 3 rfl
                  exact .plain rfl (wp_val (w' := wa) (v := (.pointer (some ⟨w.heap.size + 1, 4, none⟩))) (by simp only [execOp, Act.eval]; rw [show a.tmps.getD 3 undef = _ from tq]; kernel_rfl) (hK _ _ (Below.refl _ _) rfl))
                | 7, hop =>
                  obtain rfl := Option.some.inj hop
                  have t6 : a.tmps.getD 76 undef = (.pointer (some ⟨w.heap.size + 1, 4, none⟩)) := hdep 6 _ 76 rfl rfl ⟨⟨6, .data⟩, by simp, rfl, rfl⟩
                  have hc := (hwa.cell (p := ⟨w.heap.size + 1, 4, none⟩) (show w.heap.size + 1 < wr.heap.size from (Array.getElem?_eq_some_iff.1 hbs.out).1)).trans d4
                  exact .plain rfl (wp_val (w' := wa) (v := (.slice (some ⟨b', o', none⟩) cp'.length pc')) (by simp only [execOp, Act.eval]; rw [show a.tmps.getD 76 undef = _ from t6]; simp only [Sem.run_bind, ld_sP hc, Result.andThen_ok, Sem.run_pure]) (hK _ _ (Below.refl _ _) rfl))
                | 8, hop =>
                  obtain rfl := Option.some.inj hop
                  have tq : a.tmps.getD 6 undef = (.int .i64 (i : Nat)) := hsl 6 rfl
                  exact .plain rfl (wp_val (w' := wa) (v := (.int .i64 (i : Nat))) (by simp only [execOp, Act.eval]; rw [show a.tmps.getD 6 undef = _ from tq]; rfl) (hK _ _ (Below.refl _ _) rfl))
                | 9, hop =>
                  obtain rfl := Option.some.inj hop
                  have t7 : a.tmps.getD 77 undef = (.slice (some ⟨b', o', none⟩) cp'.length pc') := hdep 7 _ 77 rfl rfl ⟨⟨7, .data⟩, by simp, rfl, rfl⟩
                  have t8 : a.tmps.getD 78 undef = (.int .i64 (i : Nat)) := hdep 8 _ 78 rfl rfl ⟨⟨8, .data⟩, by simp, rfl, rfl⟩
                  exact .plain rfl (wp_val (w' := wa) (v := (.pointer (some ⟨b', o' + i * 6, none⟩))) (by simp only [execOp, Act.eval]; rw [show a.tmps.getD 77 undef = _ from t7, show a.tmps.getD 78 undef = _ from t8]; simp only [Sem.run_bind, ix_oP hlt', Result.andThen_ok, Sem.run_pure]) (hK _ _ (Below.refl _ _) rfl))
                | 10, hop =>
                  obtain rfl := Option.some.inj hop
                  have t9 : a.tmps.getD 79 undef = (.pointer (some ⟨b', o' + i * 6, none⟩)) := hdep 9 _ 79 rfl rfl ⟨⟨9, .data⟩, by simp, rfl, rfl⟩
                  exact .plain rfl (wp_val (w' := wa) (v := (.pointer (some ⟨b', o' + i * 6, none⟩))) (by simp only [execOp, Act.eval]; rw [show a.tmps.getD 79 undef = _ from t9]; kernel_rfl) (hK _ _ (Below.refl _ _) rfl))
                | 11, hop =>
                  obtain rfl := Option.some.inj hop
                  have t10 : a.tmps.getD 80 undef = (.pointer (some ⟨b', o' + i * 6, none⟩)) := hdep 10 _ 80 rfl rfl ⟨⟨10, .data⟩, by simp, rfl, rfl⟩
                  have hc : wa.cell? ⟨b', o' + i * 6, none⟩ = some (.string (st u'.1)) := by
                    rw [World.cell?_of_block (w := w) (hBa.block b' hbl')]
                    exact hr'.out 0 _ rfl
                  exact .plain rfl (wp_val (w' := wa) (v := (.string (st u'.1))) (by simp only [execOp, Act.eval]; rw [show a.tmps.getD 80 undef = _ from t10]; simp only [Sem.run_bind, ld_s0 hc, Result.andThen_ok, Sem.run_pure]) (hK _ _ (Below.refl _ _) rfl))
                | 12, hop =>
                  obtain rfl := Option.some.inj hop
                  have t5 : a.tmps.getD 75 undef = (.string (st u.1)) := hdep 5 _ 75 rfl rfl ⟨⟨5, .data⟩, by simp, rfl, rfl⟩
                  have t11 : a.tmps.getD 81 undef = (.string (st u'.1)) := hdep 11 _ 81 rfl rfl ⟨⟨11, .data⟩, by simp, rfl, rfl⟩
                  exact .plain rfl (wp_val (w' := wa) (v := (.bool false)) (by simp only [execOp, Act.eval]; rw [show a.tmps.getD 75 undef = _ from t5, show a.tmps.getD 81 undef = _ from t11]; simp only [Sem.run_bind, eg_s, nq_s, decide_eq_true hnm, Bool.not_true, Result.andThen_ok, Sem.run_pure]) (hK _ _ (Below.refl _ _) rfl))
                | 13, hop =>
                  obtain rfl := Option.some.inj hop
                  have t12 : a.tmps.getD 82 undef = (.bool false) := hdep 12 _ 82 rfl rfl ⟨⟨12, .data⟩, by simp, rfl, rfl⟩
                  exact .plain rfl (wp_val (w' := wa) (v := (.bool false)) (by simp only [execOp, Act.eval]; rw [show a.tmps.getD 82 undef = _ from t12]; rfl) (hK _ _ (Below.refl _ _) rfl))
                | 14, hop =>
                  obtain rfl := Option.some.inj hop
                  have g13 : a.tmps.getD 83 undef = .bool false := hdep 13 _ 83 rfl rfl ⟨⟨13, .guard⟩, by simp, rfl, rfl⟩
                  have tq : a.tmps.getD 2 undef = .pointer (some ⟨w.heap.size, 0, none⟩) := hsl 2 rfl
                  exact .want rfl rfl hz83 g13 (wp_val (w' := wa) (v := (.pointer (some ⟨w.heap.size, 4, none⟩))) (by simp only [execOp, Act.eval]; rw [show a.tmps.getD 2 undef = _ from tq]; kernel_rfl) (hK _ _ (Below.refl _ _) rfl))
                | 15, hop =>
                  obtain rfl := Option.some.inj hop
                  have g13 : a.tmps.getD 83 undef = .bool false := hdep 13 _ 83 rfl rfl ⟨⟨13, .guard⟩, by simp, rfl, rfl⟩
                  have t14 : a.tmps.getD 84 undef = (.pointer (some ⟨w.heap.size, 4, none⟩)) := hdep 14 _ 84 rfl rfl ⟨⟨14, .data⟩, by simp, rfl, rfl⟩
                  have hc := (hwa.cell (p := ⟨w.heap.size, 4, none⟩) (show w.heap.size < wr.heap.size from (Array.getElem?_eq_some_iff.1 hbr.out).1)).trans c4
                  exact .want rfl rfl hz83 g13 (wp_val (w' := wa) (v := (.slice (some ⟨b, o, none⟩) cp.length pc)) (by simp only [execOp, Act.eval]; rw [show a.tmps.getD 84 undef = _ from t14]; simp only [Sem.run_bind, ld_sP hc, Result.andThen_ok, Sem.run_pure]) (hK _ _ (Below.refl _ _) rfl))
                | 16, hop =>
                  obtain rfl := Option.some.inj hop
                  have g13 : a.tmps.getD 83 undef = .bool false := hdep 13 _ 83 rfl rfl ⟨⟨13, .guard⟩, by simp, rfl, rfl⟩
                  have tq : a.tmps.getD 6 undef = (.int .i64 (i : Nat)) := hsl 6 rfl
                  exact .want rfl rfl hz83 g13 (wp_val (w' := wa) (v := (.int .i64 (i : Nat))) (by simp only [execOp, Act.eval]; rw [show a.tmps.getD 6 undef = _ from tq]; rfl) (hK _ _ (Below.refl _ _) rfl))
                | 17, hop =>
                  obtain rfl := Option.some.inj hop
                  have g13 : a.tmps.getD 83 undef = .bool false := hdep 13 _ 83 rfl rfl ⟨⟨13, .guard⟩, by simp, rfl, rfl⟩
                  have t15 : a.tmps.getD 85 undef = (.slice (some ⟨b, o, none⟩) cp.length pc) := hdep 15 _ 85 rfl rfl ⟨⟨15, .data⟩, by simp, rfl, rfl⟩
                  have t16 : a.tmps.getD 86 undef = (.int .i64 (i : Nat)) := hdep 16 _ 86 rfl rfl ⟨⟨16, .data⟩, by simp, rfl, rfl⟩
                  exact .want rfl rfl hz83 g13 (wp_val (w' := wa) (v := (.pointer (some ⟨b, o + i * 6, none⟩))) (by simp only [execOp, Act.eval]; rw [show a.tmps.getD 85 undef = _ from t15, show a.tmps.getD 86 undef = _ from t16]; simp only [Sem.run_bind, ix_oP hlt, Result.andThen_ok, Sem.run_pure]) (hK _ _ (Below.refl _ _) rfl))
                | 18, hop =>
                  obtain rfl := Option.some.inj hop
                  have g13 : a.tmps.getD 83 undef = .bool false := hdep 13 _ 83 rfl rfl ⟨⟨13, .guard⟩, by simp, rfl, rfl⟩
                  have t17 : a.tmps.getD 87 undef = (.pointer (some ⟨b, o + i * 6, none⟩)) := hdep 17 _ 87 rfl rfl ⟨⟨17, .data⟩, by simp, rfl, rfl⟩
                  exact .want rfl rfl hz83 g13 (wp_val (w' := wa) (v := (.pointer (some ⟨b, o + i * 6 + 1, none⟩))) (by simp only [execOp, Act.eval]; rw [show a.tmps.getD 87 undef = _ from t17]; kernel_rfl) (hK _ _ (Below.refl _ _) rfl))
                | 19, hop =>
                  obtain rfl := Option.some.inj hop
                  have g13 : a.tmps.getD 83 undef = .bool false := hdep 13 _ 83 rfl rfl ⟨⟨13, .guard⟩, by simp, rfl, rfl⟩
                  have t18 : a.tmps.getD 88 undef = (.pointer (some ⟨b, o + i * 6 + 1, none⟩)) := hdep 18 _ 88 rfl rfl ⟨⟨18, .data⟩, by simp, rfl, rfl⟩
                  have hrr : wa.rangeAt b (o + i * 6 + 1) [x1, x2, x3, x4, x5] := fun q v hq => by
                    rw [World.cell?_of_block (w := w) (hBa.block b hbl)]
                    have := hr.out (q + 1) v (by simpa using hq)
                    rw [show o + i * 6 + 1 + q = o + i * 6 + (q + 1) by omega]
                    exact this
                  exact .want rfl rfl hz83 g13 (wp_val (w' := wa) (v := (.agg #[x1, x2, x3, x4, x5])) (by simp only [execOp, Act.eval]; rw [show a.tmps.getD 88 undef = _ from t18]; simp only [Sem.run_bind, ld_mV hrr, Result.andThen_ok, Sem.run_pure]) (hK _ _ (Below.refl _ _) rfl))
                | 20, hop =>
                  obtain rfl := Option.some.inj hop
                  have g13 : a.tmps.getD 83 undef = .bool false := hdep 13 _ 83 rfl rfl ⟨⟨13, .guard⟩, by simp, rfl, rfl⟩
                  have tq : a.tmps.getD 3 undef = .pointer (some ⟨w.heap.size + 1, 0, none⟩) := hsl 3 rfl
                  exact .want rfl rfl hz83 g13 (wp_val (w' := wa) (v := (.pointer (some ⟨w.heap.size + 1, 4, none⟩))) (by simp only [execOp, Act.eval]; rw [show a.tmps.getD 3 undef = _ from tq]; kernel_rfl) (hK _ _ (Below.refl _ _) rfl))
                | 21, hop =>
                  obtain rfl := Option.some.inj hop
                  have g13 : a.tmps.getD 83 undef = .bool false := hdep 13 _ 83 rfl rfl ⟨⟨13, .guard⟩, by simp, rfl, rfl⟩
                  have t20 : a.tmps.getD 90 undef = (.pointer (some ⟨w.heap.size + 1, 4, none⟩)) := hdep 20 _ 90 rfl rfl ⟨⟨20, .data⟩, by simp, rfl, rfl⟩
                  have hc := (hwa.cell (p := ⟨w.heap.size + 1, 4, none⟩) (show w.heap.size + 1 < wr.heap.size from (Array.getElem?_eq_some_iff.1 hbs.out).1)).trans d4
                  exact .want rfl rfl hz83 g13 (wp_val (w' := wa) (v := (.slice (some ⟨b', o', none⟩) cp'.length pc')) (by simp only [execOp, Act.eval]; rw [show a.tmps.getD 90 undef = _ from t20]; simp only [Sem.run_bind, ld_sP hc, Result.andThen_ok, Sem.run_pure]) (hK _ _ (Below.refl _ _) rfl))
                | 22, hop =>
                  obtain rfl := Option.some.inj hop
                  have g13 : a.tmps.getD 83 undef = .bool false := hdep 13 _ 83 rfl rfl ⟨⟨13, .guard⟩, by simp, rfl, rfl⟩
                  have tq : a.tmps.getD 6 undef = (.int .i64 (i : Nat)) := hsl 6 rfl
                  exact .want rfl rfl hz83 g13 (wp_val (w' := wa) (v := (.int .i64 (i : Nat))) (by simp only [execOp, Act.eval]; rw [show a.tmps.getD 6 undef = _ from tq]; rfl) (hK _ _ (Below.refl _ _) rfl))
                | 23, hop =>
                  obtain rfl := Option.some.inj hop
                  have g13 : a.tmps.getD 83 undef = .bool false := hdep 13 _ 83 rfl rfl ⟨⟨13, .guard⟩, by simp, rfl, rfl⟩
                  have t21 : a.tmps.getD 91 undef = (.slice (some ⟨b', o', none⟩) cp'.length pc') := hdep 21 _ 91 rfl rfl ⟨⟨21, .data⟩, by simp, rfl, rfl⟩
                  have t22 : a.tmps.getD 92 undef = (.int .i64 (i : Nat)) := hdep 22 _ 92 rfl rfl ⟨⟨22, .data⟩, by simp, rfl, rfl⟩
                  exact .want rfl rfl hz83 g13 (wp_val (w' := wa) (v := (.pointer (some ⟨b', o' + i * 6, none⟩))) (by simp only [execOp, Act.eval]; rw [show a.tmps.getD 91 undef = _ from t21, show a.tmps.getD 92 undef = _ from t22]; simp only [Sem.run_bind, ix_oP hlt', Result.andThen_ok, Sem.run_pure]) (hK _ _ (Below.refl _ _) rfl))
                | 24, hop =>
                  obtain rfl := Option.some.inj hop
                  have g13 : a.tmps.getD 83 undef = .bool false := hdep 13 _ 83 rfl rfl ⟨⟨13, .guard⟩, by simp, rfl, rfl⟩
                  have t23 : a.tmps.getD 93 undef = (.pointer (some ⟨b', o' + i * 6, none⟩)) := hdep 23 _ 93 rfl rfl ⟨⟨23, .data⟩, by simp, rfl, rfl⟩
                  exact .want rfl rfl hz83 g13 (wp_val (w' := wa) (v := (.pointer (some ⟨b', o' + i * 6 + 1, none⟩))) (by simp only [execOp, Act.eval]; rw [show a.tmps.getD 93 undef = _ from t23]; kernel_rfl) (hK _ _ (Below.refl _ _) rfl))
                | 25, hop =>
                  obtain rfl := Option.some.inj hop
                  have g13 : a.tmps.getD 83 undef = .bool false := hdep 13 _ 83 rfl rfl ⟨⟨13, .guard⟩, by simp, rfl, rfl⟩
                  have t24 : a.tmps.getD 94 undef = (.pointer (some ⟨b', o' + i * 6 + 1, none⟩)) := hdep 24 _ 94 rfl rfl ⟨⟨24, .data⟩, by simp, rfl, rfl⟩
                  have hrr : wa.rangeAt b' (o' + i * 6 + 1) [z1, z2, z3, z4, z5] := fun q v hq => by
                    rw [World.cell?_of_block (w := w) (hBa.block b' hbl')]
                    have := hr'.out (q + 1) v (by simpa using hq)
                    rw [show o' + i * 6 + 1 + q = o' + i * 6 + (q + 1) by omega]
                    exact this
                  exact .want rfl rfl hz83 g13 (wp_val (w' := wa) (v := (.agg #[z1, z2, z3, z4, z5])) (by simp only [execOp, Act.eval]; rw [show a.tmps.getD 94 undef = _ from t24]; simp only [Sem.run_bind, ld_mV hrr, Result.andThen_ok, Sem.run_pure]) (hK _ _ (Below.refl _ _) rfl))
                | 26, hop =>
                  obtain rfl := Option.some.inj hop
                  have g13 : a.tmps.getD 83 undef = .bool false := hdep 13 _ 83 rfl rfl ⟨⟨13, .guard⟩, by simp, rfl, rfl⟩
                  have t19 : a.tmps.getD 89 undef = (.agg #[x1, x2, x3, x4, x5]) := hdep 19 _ 89 rfl rfl ⟨⟨19, .data⟩, by simp, rfl, rfl⟩
                  have t25 : a.tmps.getD 95 undef = (.agg #[z1, z2, z3, z4, z5]) := hdep 25 _ 95 rfl rfl ⟨⟨25, .data⟩, by simp, rfl, rfl⟩
                  have hcal := ih (c := [x1, x2, x3, x4, x5]) (c' := [z1, z2, z3, z4, z5]) hhu (VA.frame (c := [x1, x2, x3, x4, x5]) hxu.out (w' := wa) (G := F) (fun j _ hj => hBa.block j hj) (fun _ h _ => h)) (VA.frame (c := [z1, z2, z3, z4, z5]) hxu'.out (w' := wa) (G := G) (fun j _ hj => hBa.block j hj) (fun _ h _ => h))
                  refine .want rfl rfl hz83 g13 (oper_any (J := fun r w' => r = .bool (exB h u.2 u'.2) ∧ Below wa.heap.size wa w') 16 #[.tmp 89, .tmp 95] _ rfl #[.agg #[x1, x2, x3, x4, x5], .agg #[z1, z2, z3, z4, z5]] (by simp only [List.map_toArray, List.map_cons, List.map_nil, Act.eval]; rw [show a.tmps.getD 89 undef = _ from t19, show a.tmps.getD 95 undef = _ from t25]) (fun w => by kernel_rfl) (hcal.mono fun e w' h => ⟨_, h.1, rfl, h.2⟩) ?_)
                  rintro r w' ⟨rfl, hb⟩
                  exact hK _ _ hb rfl
                | 27, hop =>
                  obtain rfl := Option.some.inj hop
                  have g13 : a.tmps.getD 83 undef = .bool false := hdep 13 _ 83 rfl rfl ⟨⟨13, .guard⟩, by simp, rfl, rfl⟩
                  have t26 : a.tmps.getD 96 undef = (.bool (exB h u.2 u'.2)) := hdep 26 _ 96 rfl rfl ⟨⟨26, .data⟩, by simp, rfl, rfl⟩
                  exact .want rfl rfl hz83 g13 (wp_val (w' := wa) (v := (.bool (!exB h u.2 u'.2))) (by simp only [execOp, Act.eval]; rw [show a.tmps.getD 96 undef = _ from t26]; kernel_rfl) (hK _ _ (Below.refl _ _) rfl))
                | 28, _ => exact absurd rfl hj
                | _ + 29, hop => exact absurd hop (by simp)
            · intro a wa hwa hdf hsz hsl hrr K hK
              have g13 : a.tmps.getD 83 undef = (.bool false) := hrr 13 _ 83 rfl (by decide) rfl
              have g27 : a.tmps.getD 97 undef = (.bool (!exB h u.2 u'.2)) := hrr 27 _ 97 rfl (by decide) rfl
              have hbw2 := hide1 (hbw.out.trans (hwa.mono hbw.out.size))
              refine .plain rfl (wp_val (w' := wa) (v := (.bool (!exB h u.2 u'.2))) (by simp only [execOp, Act.eval]; rw [show a.tmps.getD 83 undef = _ from g13, show a.tmps.getD 97 undef = _ from g27]; rfl) ?_)
              refine hK _ wa ?_
              have hact := act_puts hdf hsz hsl
              have hBf := hide1 (hB.out.trans (hwa.mono hB.out.size))
              clear hrr hsl hdf hsz hK g13 g27 ih
              simp only [List.filterMap_cons, List.filterMap_nil, List.foldl_cons, List.foldl_nil] at hact
              rw [hact]
              generalize a.tmps.getD 70 undef = y70
              generalize a.tmps.getD 71 undef = y71
              generalize a.tmps.getD 72 undef = y72
              generalize a.tmps.getD 73 undef = y73
              generalize a.tmps.getD 74 undef = y74
              generalize a.tmps.getD 75 undef = y75
              generalize a.tmps.getD 76 undef = y76
              generalize a.tmps.getD 77 undef = y77
              generalize a.tmps.getD 78 undef = y78
              generalize a.tmps.getD 79 undef = y79
              generalize a.tmps.getD 80 undef = y80
              generalize a.tmps.getD 81 undef = y81
              generalize a.tmps.getD 82 undef = y82
              generalize a.tmps.getD 83 undef = y83
              generalize a.tmps.getD 84 undef = y84
              generalize a.tmps.getD 85 undef = y85
              generalize a.tmps.getD 86 undef = y86
              generalize a.tmps.getD 87 undef = y87
              generalize a.tmps.getD 88 undef = y88
              generalize a.tmps.getD 89 undef = y89
              generalize a.tmps.getD 90 undef = y90
              generalize a.tmps.getD 91 undef = y91
              generalize a.tmps.getD 92 undef = y92
              generalize a.tmps.getD 93 undef = y93
              generalize a.tmps.getD 94 undef = y94
              generalize a.tmps.getD 95 undef = y95
              generalize a.tmps.getD 96 undef = y96
              generalize a.tmps.getD 97 undef = y97
              generalize a.tmps.getD 98 undef = y98
              clear hact a
              rw [decide_eq_true hnm, Bool.true_and] at hms
              cases hex : exB h u.2 u'.2 with
              | true =>
                rw [hex, Bool.true_and] at hms
                refine (‹∀ (a : Act) (w : World), Code.wp Tryz.prog _ _ a w → _›) _ wa ?_
                simp only [Bool.not_true, Act.put, List.setIfInBounds_toArray, List.set_cons_succ, List.set_cons_zero]
                go_wp2
                go_roundw
                case rel => exact ⟨i + 1, rfl, by omega, hide1 hms.out.symm, hbw2⟩
                case measure => simp [intOf]; omega
              | false =>
                rw [hex, Bool.false_and] at hms
                refine (‹∀ (a : Act) (w : World), Code.wp Tryz.prog _ _ a w → _›) _ wa ?_
                have hf : Hid ((Ending.returned (.bool false) : Ending) = .returned (.bool E) ∧ Below w.heap.size w wa) := hide1 ⟨hout.out _ (by rw [hE3.out, hms.out]), hBf.out⟩
                simp only [Bool.not_false, Act.put, List.setIfInBounds_toArray, List.set_cons_succ, List.set_cons_zero]
                go_wp2
                go_ret
                exact hf.out
          · have hie : i = cp.length := by omega
            subst hie
            clear hlt
            have hf : Hid ((Ending.returned (.bool true) : Ending) = .returned (.bool E) ∧ Below w.heap.size w wr) := hide1 ⟨hout.out _ (by
              rw [hE3.out, ← hme.out, List.drop_of_length_le (by have := e2.out; omega)]
              cases p'.drop cp.length <;> rfl), hB.out⟩
            go_wp2
            go_ret
            exact hf.out
theorem ex_d : ∀ h, Eok h
  | 0 => fun hh => hh.elim
  | h + 1 => ex_s (ex_d h)
end Go.Proofs.YthgndmgoilfpcaaGreatDoor

namespace Go.Proofs.YthgndmgoilfpcaaGreatDoor
open Go.RowKit

theorem fd_drop {l : List (List UInt8 × T)} {i : Nat} {a : List UInt8 × T} {n : List UInt8} (ha : l[i]? = some a) : (l.drop i).find? (fun q => q.1 == n) = if a.1 = n then some a else (l.drop (i + 1)).find? (fun q => q.1 == n) := by
  obtain ⟨h1, e1⟩ := List.getElem?_eq_some_iff.1 ha
  rw [List.drop_eq_getElem_cons h1, e1, List.find?_cons]
  by_cases h : a.1 = n
  · simp [h]
  · rw [if_neg h]
    have : (a.1 == n) = false := by simpa using h
    rw [this]
def AnH (F : Nat → Prop) (w : World) (o : Option T) (e : Ending) (w' : World) : Prop :=
  ∃ c : Array Value, e = .returned (.tuple #[.agg c, .bool o.isSome]) ∧ Below w.heap.size w w' ∧ ((∃ t, o = some t ∧ VA F w' t c.toList) ∨ (o = none ∧ c = zV))
set_option maxHeartbeats 4000000 in
set_option maxRecDepth 100000 in
theorem get_r {F : Nat → Prop} {w : World} {k ki : Int} {s nm : List UInt8} {l : List T} {p : List (List UInt8 × T)} {c : List Value} (hb : p.length ≤ 1000000) (hv : VA F w (.mk k ki s l p) c) : Calls Tryz.prog 89 #[.agg c.toArray, .string (st nm)] w (AnH F w (getP k p nm)) := by
  cases hv with
  | @mk _ _ _ _ _ sl sp cl cp r1 r2 e1 e2 hl hp1 hp2 =>
    obtain ⟨pa, pc, rfl⟩ : ∃ va vc, sp = .slice va cp.length vc := by
      obtain ⟨_, ⟨a, cap, h1, h2⟩ | ⟨b, o, cap, cur, fz, h1, _⟩⟩ := r2
      · exact ⟨a, cap, by rw [h1, h2]; rfl⟩
      · exact ⟨_, cap, h1⟩
    obtain ⟨wb, hwb⟩ : ∃ wb, wb = (w.alloc (.cells #[.int .i64 k, .int .i64 ki, .string (st s), sl, .slice pa cp.length pc] 28)).alloc (.cells zV 28) := ⟨_, rfl⟩
    have hb0 : Below w.heap.size w wb := by rw [hwb]; exact blw_al ((Below.refl _ _).alloc (Nat.le_refl _) _) (by simp) _
    have hbx : wb.heap[w.heap.size]? = some (.cells #[.int .i64 k, .int .i64 ki, .string (st s), sl, .slice pa cp.length pc] 28 (0, 0)) := by
      rw [hwb]
      show ((w.heap.push _).push _)[w.heap.size]? = _
      rw [Array.getElem?_push, if_neg (by simp), Array.getElem?_push, if_pos rfl]
    have hby : wb.heap[w.heap.size + 1]? = some (.cells zV 28 (0, 0)) := by
      rw [hwb]
      show ((w.heap.push _).push _)[w.heap.size + 1]? = _
      rw [Array.getElem?_push, if_pos (by simp)]
    have hsb : wb.heap.size = w.heap.size + 2 := by rw [hwb]; simp
    have hcb : cp.length ≤ 1000000 := by omega
    unfold zV at hwb
    replace hb0 := hide1 hb0
    replace hbx := hide1 hbx
    replace hby := hide1 hby
    replace hsb := hide1 hsb
    replace e2 := hide1 e2
    have hG : Hid (getP k p nm = if k = 5 then (p.find? (fun q => q.1 == nm)).map (·.2) else none) := hide1 rfl
    generalize getP k p nm = E at *
    clear hb
    go_enter Tryz.func89, Tryz.ntmps89
    go_wp2_with fail
    rw [← hwb]
    clear hwb
    go_loopw [6] (fun x wr => ∃ i : Nat, x = .int .i64 (i : Nat) ∧ i ≤ cp.length ∧ wr = wb ∧ Hid ((p.drop i).find? (fun q => q.1 == nm) = p.find? (fun q => q.1 == nm))) (fun x _ => cp.length - (intOf x).toNat)
    case atStart => exact ⟨0, rfl, by omega, rfl, hide1 rfl⟩
    case round =>
      obtain ⟨i, rfl, hin, rfl, hme⟩ := hrel
      have hbr := hbx.out
      have hr4 := hby.out
      have c0 : wr.cell? ⟨w.heap.size, 0, none⟩ = some (.int .i64 k) := by simp only [World.cell?, hbr]; rfl
      have c4 : wr.cell? ⟨w.heap.size, 4, none⟩ = some (.slice pa cp.length pc) := by simp only [World.cell?, hbr]; rfl
      have hend : (i < cp.length → k ≠ 5) → Hid (AnH F w E (.returned (.tuple #[.agg zV, .bool false])) (wr.setRow (w.heap.size + 1) zV)) := fun h => hide1 (by
        have hE : E = none := by
          rw [hG.out]
          split
          · rename_i h5
            have : ¬ i < cp.length := fun hh => h hh h5
            rw [← hme.out, List.drop_of_length_le (by have := e2.out; omega)]; rfl
          · rfl
        rw [hE]
        exact ⟨zV, rfl, blw_own hb0.out (by omega) _, .inr ⟨rfl, rfl⟩⟩)
      have hz := setRow_heap wr (w.heap.size + 1) _ zV _ _ hr4
      unfold zV at hend hz
      by_cases hlt : i < cp.length
      · by_cases hk5 : k = 5
        · subst hk5
          obtain ⟨x, hx⟩ : ∃ x, cp[i]? = some x := ⟨_, List.getElem?_eq_getElem hlt⟩
          obtain ⟨u, hu⟩ : ∃ u, p[i]? = some u := ⟨_, List.getElem?_eq_getElem (by have := e2.out; omega)⟩
          have hxn := hp1 i u x hu hx
          have hxu := hp2 i u x hu hx
          obtain ⟨b, o, cap, hve, -, hbl, hr⟩ := r2.at hx
          have hva : pa = some ⟨b, o, none⟩ := by cases hve; rfl
          subst hva
          obtain ⟨x0, x1, x2, x3, x4, x5, rfl⟩ := arr6 (r2.1 x (List.mem_of_getElem? hx))
          simp only [List.head?_cons, Option.some.injEq] at hxn
          subst hxn
          have hms := fd_drop (n := nm) hu
          rw [hme.out] at hms
          have hc : wr.cell? ⟨b, o + i * 6, none⟩ = some (.string (st u.1)) := by
            rw [World.cell?_of_block (w := w) (hb0.out.block b hbl)]
            exact hr 0 _ rfl
          have hr2 : wr.rangeAt b (o + i * 6 + 1) [x1, x2, x3, x4, x5] := fun q v hj => by
            rw [World.cell?_of_block (w := w) (hb0.out.block b hbl)]
            have := hr (q + 1) v (by simpa using hj)
            rw [show o + i * 6 + 1 + q = o + i * 6 + (q + 1) by omega]
            exact this
          have hs1 := st_eq u.1 nm
          by_cases hn : u.1 = nm
          · have hq : ((st u.1).toList == (st nm).toList) = true := by rw [hs1]; exact decide_eq_true hn
            have ha : Hid (AnH F w E (.returned (.tuple #[.agg #[x1, x2, x3, x4, x5], .bool true])) (wr.setRow (w.heap.size + 1) #[x1, x2, x3, x4, x5])) := hide1 (by
              have hE : E = some u.2 := by rw [hG.out, if_pos rfl, hms, if_pos hn]; rfl
              rw [hE]
              refine ⟨_, rfl, blw_own hb0.out (by omega) _, .inl ⟨_, rfl, VA.frame (c := [x1, x2, x3, x4, x5]) hxu (fun j _ hj => ?_) (fun _ h _ => h)⟩⟩
              exact (setRow_other wr _ j _ (by omega)).trans (hb0.out.block j hj))
            have hz2 := hide1 (setRow_heap wr (w.heap.size + 1) _ #[x1, x2, x3, x4, x5] _ _ hr4)
            have ho := hide1 (show (#[x1, x2, x3, x4, x5].all fun x => x.oneCell') = true by simpa using VA.one (c := [x1, x2, x3, x4, x5]) hxu)
            clear hms hs1 hme hxu hr hz hend hve hx hu hn
            go_wp2_with (first
              | refine wpList_load_mid rfl 28 (.tmp 31) rfl b (o + i * 6 + 1) rfl [x1, x2, x3, x4, x5] _ hr2 Tryz.underlying28 rfl (by kernel_rfl) ?_
              | refine wpList_store_row rfl Vt (.tmp 4) (.tmp 32) rfl (w.heap.size + 1) #[x1, x2, x3, x4, x5] rfl rfl Vt _ hr4 (by kernel_rfl) rfl ho.out ?_)
            refine bodyPost_ret (results_vt rfl _ rfl rfl hz2.out) rfl ?_
            exact ha.out
          · have hq : ((st u.1).toList == (st nm).toList) = false := by rw [hs1]; exact decide_eq_false hn
            rw [if_neg hn] at hms
            replace hms := hide1 hms
            clear hs1 hme hxu hr hz hend hve hx hu hn hr2
            go_wp2
            go_roundw
            case rel => exact ⟨i + 1, rfl, by omega, trivial, hide1 hms.out.symm⟩
            case measure => simp [intOf]; omega
        · have hk : (k == 5) = false := by simpa using hk5
          replace hend := hend fun _ => hk5
          replace hz := hide1 hz
          clear hme
          go_wp2_with (refine wpList_store_row rfl Vt (.tmp 4) (.tmp 33) rfl (w.heap.size + 1) #[.int .i64 0, .int .i64 0, .string ⟨#[]⟩, .slice none 0 0, .slice none 0 0] rfl rfl Vt _ hr4 (by kernel_rfl) rfl (by kernel_rfl) ?_)
          refine bodyPost_ret (results_vt rfl _ rfl rfl hz.out) rfl ?_
          exact hend.out
      · replace hend := hend fun h => absurd h hlt
        have hie : i = cp.length := by omega
        subst hie
        replace hz := hide1 hz
        clear hme hlt
        go_wp2_with (refine wpList_store_row rfl Vt (.tmp 4) (.tmp 33) rfl (w.heap.size + 1) #[.int .i64 0, .int .i64 0, .string ⟨#[]⟩, .slice none 0 0, .slice none 0 0] rfl rfl Vt _ hr4 (by kernel_rfl) rfl (by kernel_rfl) ?_)
        refine bodyPost_ret (results_vt rfl _ rfl rfl hz.out) rfl ?_
        exact hend.out
end Go.Proofs.YthgndmgoilfpcaaGreatDoor

namespace Go.Proofs.YthgndmgoilfpcaaGreatDoor
open Go.RowKit

end Go.Proofs.YthgndmgoilfpcaaGreatDoor

namespace Go.Proofs.YthgndmgoilfpcaaGreatDoor
open Go.ChangeShapes Go.WideShapes Go.ChangeAt Go.RowKit

section
variable {H : Type} {enc : TypeId × Value → H} {W : World} {held : Bool}
theorem five_l {α : Type} : ∀ {l : List α}, l.length = 5 → ∃ a b c d e, l = [a, b, c, d, e]
  | [a, b, c, d, e], _ => ⟨a, b, c, d, e, rfl⟩
def sbd : Nat → T → Prop
  | 0, _ => True
  | n + 1, .mk _ _ s l p => s.length ≤ 9223372036854775807 ∧ (∀ t ∈ l, sbd n t) ∧ ∀ q ∈ p, q.1.length ≤ 9223372036854775807 ∧ sbd n q.2
end
end Go.Proofs.YthgndmgoilfpcaaGreatDoor

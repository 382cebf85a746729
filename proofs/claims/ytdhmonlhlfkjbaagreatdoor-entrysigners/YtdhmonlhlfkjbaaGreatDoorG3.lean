/- JSq, JH, JI, JJ, JK, JL, JF2, JM, KA, KB1, JN, JO, JV, JSv, KC1, KC2, KC3, KC4: laid together. -/
import Derived.Deep.MidRow
import Derived.Handy
import Derived.Lib.SlBytesConst
import Derived.Lib.MapLaws
import Derived.WalkKit
import Derived.ProofKit
import Derived.OpenShut
import Derived.ChangeOld
import Derived.Below
import Derived.Deep.Slices
import Derived.Test.YtdhmonlhlfkjbaaGreatDoorProg
import Derived.Shelf.Unicode.ValidAny
import Derived.Test.YtdhmonlhlfkjbaaGreatDoorG2
import Derived.Test.YtdhmonlhlfkjbaaGreatDoorG1
namespace Go.Proofs.YtdhmonlhlfkjbaaGreatDoor
open Go.RowKit

theorem results_v1 {fn : Func} {t : Tmp} (h : fn.results = #[.cell t Vt]) (tmps : Array Value) {w : World} {b : Nat} {c : Array Value} (ht : tmps.getD t undef = .pointer (some ⟨b, 0, none⟩)) (hs : c.size = 5) (hg : w.heap[b]? = some (.cells c Vt (0, 0))) :
    (results fn tmps).run Tryz.prog w = .ok (.agg c) w := by
  have hl := run_loadVar_row (P := Tryz.prog) w b Vt Vt c (0, 0) _ hg Tryz.underlying55 (by rfl) (by rw [hs]; kernel_rfl)
  have ht2 : tmps[t]?.getD undef = .pointer (some ⟨b, 0, none⟩) := by simpa using ht
  simp [results, h, ht2, asAddr, hl]
theorem sub_1 {d : Nat} (hd : 0 < d) (hb : d ≤ 65536) (w : World) : (binOp .sub 3 (.int .i64 (d : Nat)) (.int .i64 1)).run Tryz.prog w = .ok (.int .i64 (d - 1 : Nat)) w := by
  have e : ((d - 1 : Nat) : Int) = (d : Int) - 1 := by omega
  have hwr : IntKind.i64.wrap ((d : Int) - 1) = (d : Int) - 1 := by go_unwrap
  rw [e]
  simp [go_sem, hwr]
theorem eqg_sub {t : TypeId} {x u : Operand} {a b : Value} {w : World} : (eqGuard .sub t x u a b).run Tryz.prog w = .ok () w := rfl
def R7 (q2 gb nn vc i d : Nat) (C : Array Value) (w3 : World) (u : T) : Nat → Value → World → Prop
  | 0, v, _ => v = .pointer (some ⟨q2, 3, none⟩)
  | 1, v, _ => v = .slice (some ⟨gb, 0, none⟩) nn vc
  | 2, v, _ => v = .int .i64 (i : Nat)
  | 3, v, _ => v = .agg C
  | 4, v, _ => v = .int .i64 (d : Nat)
  | 5, v, _ => v = .int .i64 (d - 1 : Nat)
  | 6, v, w => ∃ c : Array Value, v = .agg c ∧ c.size = 5 ∧ VA (w3.heap.size ≤ ·) w u c.toList
  | 7, v, _ => v = .pointer (some ⟨gb, i * 5, none⟩)
  | _, _, _ => True
theorem R7_mono {q2 gb nn vc i d : Nat} {C : Array Value} {w3 : World} {u : T} (j : Nat) (v : Value) (w w' : World) (h : R7 q2 gb nn vc i d C w3 u j v w) (hb : Below w.heap.size w w') : R7 q2 gb nn vc i d C w3 u j v w' := by
  match j, h with
  | 0, h | 1, h | 2, h | 3, h | 4, h | 5, h | 7, h => exact h
  | 6, h =>
    obtain ⟨c, h1, h2, h3⟩ := h
    exact ⟨c, h1, h2, h3.frame (fun k _ hs => hb.block k hs) (fun _ h _ => h)⟩
  | _ + 8, h => trivial
def R13 (q2 q8 gb nn vc i d : Nat) (C : Array Value) (w3 : World) (u : T) : Nat → Value → World → Prop
  | 0, v, _ => v = .pointer (some ⟨q2, 4, none⟩)
  | 1, v, _ => v = .slice (some ⟨gb, 0, none⟩) nn vc
  | 2, v, _ => v = .int .i64 (i : Nat)
  | 3, v, _ => v = .pointer (some ⟨q8, 1, none⟩)
  | 4, v, _ => v = .agg C
  | 5, v, _ => v = .int .i64 (d : Nat)
  | 6, v, _ => v = .int .i64 (d - 1 : Nat)
  | 7, v, w => ∃ c : Array Value, v = .agg c ∧ c.size = 5 ∧ VA (w3.heap.size ≤ ·) w u c.toList
  | 8, v, _ => v = .pointer (some ⟨gb, i * 6, none⟩)
  | 9, v, _ => v = .pointer (some ⟨gb, i * 6 + 1, none⟩)
  | _, _, _ => True
theorem R13_mono {q2 q8 gb nn vc i d : Nat} {C : Array Value} {w3 : World} {u : T} (j : Nat) (v : Value) (w w' : World) (h : R13 q2 q8 gb nn vc i d C w3 u j v w) (hb : Below w.heap.size w w') : R13 q2 q8 gb nn vc i d C w3 u j v w' := by
  match j, h with
  | 0, h | 1, h | 2, h | 3, h | 4, h | 5, h | 6, h | 8, h | 9, h => exact h
  | 7, h =>
    obtain ⟨c, h1, h2, h3⟩ := h
    exact ⟨c, h1, h2, h3.frame (fun k _ hs => hb.block k hs) (fun _ h _ => h)⟩
  | _ + 10, h => trivial
theorem ld_v1 {w : World} {b : Nat} {y0 y1 y2 y3 y4 y5 : Value} (h : w.heap[b]? = some (.cells #[y0, y1, y2, y3, y4, y5] 69 (0, 0))) : (Instr.loadAt 55 (.pointer (some ⟨b, 1, none⟩))).run Tryz.prog w = .ok (.agg #[y1, y2, y3, y4, y5]) w := by
  have hr : w.rangeAt b 1 [y1, y2, y3, y4, y5] := fun j v hj => by
    simp only [World.cell?, h]
    match j, hj with
    | 0, hj | 1, hj | 2, hj | 3, hj | 4, hj => simpa using hj
    | _ + 5, hj => simp at hj
  have hl := run_loadVar_mid (P := Tryz.prog) w b 1 55 [y1, y2, y3, y4, y5] _ hr Tryz.underlying55 rfl (by kernel_rfl)
  simp only [Instr.loadAt, Instr.sureAddr, Sem.run_bind, Sem.run_pure, Result.andThen_ok, hl]
set_option maxHeartbeats 8000000 in
set_option maxRecDepth 100000 in
theorem copied_s {n d : Nat} (ih : ∀ {F : Nat → Prop} {w : World} {t : T} {c : List Value}, hgt n t → VA F w t c → Calls Tryz.prog 156 #[.agg c.toArray, .int .i64 (d - 1 : Nat)] w (AnC w t))
    {F : Nat → Prop} {w : World} {t : T} {c : List Value} (hh : hgt (n + 1) t) (hnd : n + 1 ≤ d) (hd6 : d ≤ 65536) (h : VA F w t c) : Calls Tryz.prog 156 #[.agg c.toArray, .int .i64 (d : Nat)] w (AnC w t) := by
    have hd0 : ¬ (d : Int) = 0 := by omega
    have hd1 : 0 < d := by omega
    cases h with
    | @mk k ki s l p sl sp cl cp r1 r2 e1 e2 hl hp1 hp2 =>
      obtain ⟨b1, b2, hl1, hl2⟩ := hh
      -- the boxes
      obtain ⟨wb, hwb⟩ : ∃ wb, wb = (w.alloc (.cells #[.int .i64 k, .int .i64 ki, .string (st s), sl, sp] 55)).alloc (.cells #[.int .i64 0, .int .i64 0, .string ⟨#[]⟩, .slice none 0 0, .slice none 0 0] 55) := ⟨_, rfl⟩
      have hbb : Cb w #[.int .i64 k, .int .i64 ki, .string (st s), sl, sp] wb := by
        rw [hwb]
        refine ⟨blw_al ((Below.refl _ _).alloc (Nat.le_refl _) _) (by simp) _, ?_, ?_, by simp⟩
        · show ((w.heap.push _).push _)[w.heap.size]? = _
          rw [Array.getElem?_push, if_neg (by simp), Array.getElem?_push, if_pos rfl]
        · show ((w.heap.push _).push _)[w.heap.size + 1]? = _
          rw [Array.getElem?_push, if_pos (by simp)]
          rfl
      have c3 : wb.cell? ⟨w.heap.size, 3, none⟩ = some sl := by simp only [World.cell?, hbb.b2]; rfl
      have r1b : RwA F wb 55 5 sl cl := r1.frame (fun k _ hs => hbb.bw.block k hs) (fun _ h _ => h)
      have hon1 : ∀ x ∈ cl, x.all (·.oneCell') = true := fun x hx => by
        obtain ⟨j, hj, rfl⟩ := List.mem_iff_getElem.1 hx
        have hj2 : j < l.length := by omega
        exact (hl j _ _ (List.getElem?_eq_getElem hj2) (List.getElem?_eq_getElem hj)).one
      have hcl := clone_V r1b hon1 (by omega)
      have hb1l : cl.length ≤ 1000000 := by omega
      have hb2l : cp.length ≤ 1000000 := by omega
      replace e1 := hide1 e1
      replace e2 := hide1 e2
      replace hbb := hide1 hbb
      subst hwb
      go_enter Tryz.func156, Tryz.ntmps156
      go_wp2_with fail
      refine hcl.mono ?_
      rintro e w1 ⟨v1, rfl, bw1, row1⟩
      have hb1 := hbb.out.keep bw1
      have hsb := hbb.out.sz
      -- the row of the list's own
      obtain ⟨va, vc, hva⟩ : ∃ va vc, v1 = .slice va cl.length vc := by
        obtain ⟨_, ⟨h1, h2⟩ | ⟨g', cap, cur, h1, _⟩⟩ := row1
        · exact ⟨none, 0, by rw [h1, h2]⟩
        · exact ⟨_, cap, h1⟩
      have hw2 : w1.setCell ⟨w.heap.size, 3, none⟩ v1 = w1.setRow w.heap.size #[.int .i64 k, .int .i64 ki, .string (st s), v1, sp] := by
        rw [setCell_eq_setRow w1 w.heap.size 3 _ _ (0, 0) _ hb1.b2]; rfl
      have cc : w1.cell? ⟨w.heap.size, 3, none⟩ = some sl := by simp only [World.cell?, hb1.b2]; rfl
      have cf : w1.frozen? ⟨w.heap.size, 3, none⟩ = false := by simp [World.frozen?, hb1.b2]
      have hB1 : w.heap.size + 2 ≤ ((w.alloc (.cells #[.int .i64 k, .int .i64 ki, .string (st s), sl, sp] 55)).alloc (.cells #[.int .i64 0, .int .i64 0, .string ⟨#[]⟩, .slice none 0 0, .slice none 0 0] 55)).heap.size := hsb
      have hb2 : Cb w #[.int .i64 k, .int .i64 ki, .string (st s), v1, sp] (w1.setCell ⟨w.heap.size, 3, none⟩ v1) := by
        rw [hw2]
        exact ⟨blw_own hb1.bw (Nat.le_refl _) _, setRow_heap w1 w.heap.size _ _ _ _ hb1.b2, (setRow_other w1 _ _ _ (by omega)).trans hb1.b4, by simpa [World.setRow] using hb1.sz⟩
      have hcp : Cp VA 55 5 (w.heap.size + 2) l cl v1 0 (w1.setCell ⟨w.heap.size, 3, none⟩ v1) cl := by
        refine Cp.start ?_ r1.1
        rw [hw2]
        obtain ⟨q1, q2 | ⟨g', cap, cur, h1, hB, h2, h3⟩⟩ := row1
        · exact ⟨q1, .inl q2⟩
        · exact ⟨q1, .inr ⟨g', cap, cur, h1, by omega, (setRow_other w1 _ g' _ (by omega)).trans h2, h3⟩⟩
      have cg : (w1.setCell ⟨w.heap.size, 3, none⟩ v1).cell? ⟨w.heap.size, 3, none⟩ = some v1 := by simp only [World.cell?, hb2.b2]; rfl
      replace hb2 := hide1 hb2
      replace hcp := hide1 hcp
      clear hbb hb1 hsb row1 bw1 hcl r1b hw2 hB1 c3
      subst hva
      go_wp2_with fail
      generalize w1.setCell ⟨w.heap.size, 3, none⟩ (.slice va cl.length vc) = w2 at *
      go_loopw [19] (fun x wr => ∃ (i : Nat) (ds : List (List Value)), x = .int .i64 (i : Nat) ∧ i ≤ cl.length ∧ Hid (Cb w #[.int .i64 k, .int .i64 ki, .string (st s), .slice va cl.length vc, sp] wr) ∧ Hid (Cp VA 55 5 (w.heap.size + 2) l cl (.slice va cl.length vc) i wr ds)) (fun x _ => cl.length - (intOf x).toNat)
      case atStart => exact ⟨0, cl, rfl, by omega, hb2, hcp⟩
      case round =>
        obtain ⟨i, ds, rfl, hin, hb, hc⟩ := hrel
        by_cases hlt : i < cl.length
        · have hdl : ds.length = cl.length := hc.out.ln
          obtain ⟨x, hx⟩ : ∃ x, cl[i]? = some x := ⟨_, List.getElem?_eq_getElem hlt⟩
          obtain ⟨u, hu⟩ : ∃ u, l[i]? = some u := ⟨_, List.getElem?_eq_getElem (by have := e1.out; omega)⟩
          have hxu := hl i u x hu hx
          have hhu := hl1 u (List.mem_of_getElem? hu)
          have hdx : ds[i]? = some x := by rw [hc.out.old i (Nat.le_refl _)]; exact hx
          have hrw := own_rows hc.out.row hc.out.lz (F := fun _ => True) (fun _ _ => trivial)
          obtain ⟨gb, o, cap, hve, -, hgl, hr⟩ := hrw.at hdx
          have ho : o = 0 := by
            obtain ⟨_, ⟨h1, _⟩ | ⟨g', cap', cur, h1, _⟩⟩ := hc.out.row
            · rw [h1] at hve; cases hve
            · rw [h1] at hve; cases hve; rfl
          subst ho
          have hva : va = some ⟨gb, 0, none⟩ := by
            rw [hdl] at hve
            cases hve; rfl
          subst hva
          have hon := hon1 x (List.mem_of_getElem? hx)
          have hx5 : x.length = 5 := r1.1 x (List.mem_of_getElem? hx)
          obtain ⟨x0, x1, x2, x3, x4, rfl⟩ : ∃ x0 x1 x2 x3 x4, x = [x0, x1, x2, x3, x4] := by
            match x, hx5 with
            | [x0, x1, x2, x3, x4], _ => exact ⟨x0, x1, x2, x3, x4, rfl⟩
          rw [Nat.zero_add] at hr
          have hr6 : (wr.alloc (.cells #[.int .i64 0, .int .i64 0, .string ⟨#[]⟩, .slice none 0 0, .slice none 0 0] 55)).heap[wr.heap.size]? = some (.cells #[.int .i64 0, .int .i64 0, .string ⟨#[]⟩, .slice none 0 0, .slice none 0 0] 55 (0, 0)) := by
            show (wr.heap.push _)[wr.heap.size]? = _
            rw [Array.getElem?_push, if_pos rfl]
          have h6 := setRow_heap (wr.alloc (.cells #[.int .i64 0, .int .i64 0, .string ⟨#[]⟩, .slice none 0 0, .slice none 0 0] 55)) wr.heap.size _ #[x0, x1, x2, x3, x4] _ _ hr6
          have hal : ∀ k, k < wr.heap.size → ((wr.alloc (.cells #[.int .i64 0, .int .i64 0, .string ⟨#[]⟩, .slice none 0 0, .slice none 0 0] 55)).setRow wr.heap.size #[x0, x1, x2, x3, x4]).heap[k]? = wr.heap[k]? := fun k hk => (setRow_other _ _ k _ (by omega)).trans (by
            show (wr.heap.push _)[k]? = _
            rw [Array.getElem?_push, if_neg (by omega)])
          have hbw : Below wr.heap.size wr ((wr.alloc (.cells #[.int .i64 0, .int .i64 0, .string ⟨#[]⟩, .slice none 0 0, .slice none 0 0] 55)).setRow wr.heap.size #[x0, x1, x2, x3, x4]) := ⟨rfl, rfl, rfl, by simp [World.setRow], hal⟩
          have hb6 := hb.out.keep hbw
          have hc6 := hc.out.keep VA.fr (fun k _ hs => hal k hs)
          have hxw : VA F ((wr.alloc (.cells #[.int .i64 0, .int .i64 0, .string ⟨#[]⟩, .slice none 0 0, .slice none 0 0] 55)).setRow wr.heap.size #[x0, x1, x2, x3, x4]) u [x0, x1, x2, x3, x4] := hxu.frame (fun k _ hs => hb6.bw.block k hs) (fun _ h _ => h)
          replace h6 := hide1 h6
          replace hb6 := hide1 hb6
          replace hc6 := hide1 hc6
          replace hxw := hide1 hxw
          replace hon := hide1 hon
          clear hal hbw hb hc hxu hrw hve hx hdx hx5
          replace hu := hide1 hu
          go_upto_region 7 with (first | refine wpList_load_mid rfl 55 (.tmp 22) rfl gb (i * 5) rfl [x0, x1, x2, x3, x4] _ hr Tryz.underlying55 rfl (by kernel_rfl) ?_ | refine wpList_store_row rfl 55 (.tmp 6) (.tmp 23) rfl wr.heap.size #[x0, x1, x2, x3, x4] rfl rfl 55 _ hr6 (by kernel_rfl) rfl (by simpa using hon.out) ?_)
          generalize (wr.alloc (.cells #[.int .i64 0, .int .i64 0, .string ⟨#[]⟩, .slice none 0 0, .slice none 0 0] 55)).setRow wr.heap.size #[x0, x1, x2, x3, x4] = w3 at *
          generalize hq6 : wr.heap.size = q6 at *
          have ihc : ∀ w, Below w3.heap.size w3 w → Calls Tryz.prog 156 #[.agg #[x0, x1, x2, x3, x4], .int .i64 (d - 1 : Nat)] w (AnC w u) := fun w hb => ih hhu (hxw.out.frame (F := F) (G := F) (fun k _ hs => hb.block k hs) (fun _ h _ => h))
          refine wp_flow 8 _ _ (by kernel_rfl) (by kernel_rfl) (by kernel_rfl) (by kernel_rfl) rfl (R7 w.heap.size gb cl.length vc i d #[x0, x1, x2, x3, x4] w3 u) R7_mono ?_ ?_
          · intro j o ho hj a wa hbw hsl hdep K hK
            match j, ho with
            | 0, ho =>
              obtain rfl := Option.some.inj ho
              have t2 : a.tmps.getD 2 undef = .pointer (some ⟨w.heap.size, 0, none⟩) := hsl 2 rfl
              exact wp_val (w' := wa) (by simp only [execOp, Act.eval]; rw [show a.tmps.getD 2 undef = _ from t2]; kernel_rfl) (hK _ _ (Below.refl _ _) rfl)
            | 1, ho =>
              obtain rfl := Option.some.inj ho
              have t := hdep 0 _ 24 rfl rfl ⟨⟨0, .data⟩, by simp, rfl, rfl⟩
              have hc3 : wa.cell? ⟨w.heap.size, 3, none⟩ = some (.slice (some ⟨gb, 0, none⟩) cl.length vc) := by
                rw [World.cell?_of_block (w := w3) (hbw.block _ (by have := hb6.out.sz; show w.heap.size < _; omega))]
                simp only [World.cell?, hb6.out.b2]; rfl
              exact wp_val (w' := wa) (by simp only [execOp, Act.eval]; rw [show a.tmps.getD 24 undef = _ from t]; simp only [Sem.run_bind, ld_sV hc3, Result.andThen_ok, Sem.run_pure]) (hK _ _ (Below.refl _ _) rfl)
            | 2, ho =>
              obtain rfl := Option.some.inj ho
              have t := hsl 5 rfl
              exact wp_val (w' := wa) (by simp only [execOp, Act.eval]; rw [show a.tmps.getD 5 undef = _ from t]; rfl) (hK _ _ (Below.refl _ _) rfl)
            | 3, ho =>
              obtain rfl := Option.some.inj ho
              have t := hsl 6 rfl
              have hl6 := (hbw.block q6 (Array.getElem?_eq_some_iff.1 h6.out).1).trans h6.out
              exact wp_val (w' := wa) (by simp only [execOp, Act.eval]; rw [show a.tmps.getD 6 undef = .pointer (some ⟨q6, 0, none⟩) from t]; simp only [Sem.run_bind, ldEV hl6 rfl, Result.andThen_ok, Sem.run_pure]) (hK _ _ (Below.refl _ _) rfl)
            | 4, ho =>
              obtain rfl := Option.some.inj ho
              have t := hsl 1 rfl
              exact wp_val (w' := wa) (by simp only [execOp, Act.eval]; rw [show a.tmps.getD 1 undef = _ from t]; rfl) (hK _ _ (Below.refl _ _) rfl)
            | 5, ho =>
              obtain rfl := Option.some.inj ho
              have t := hdep 4 _ 28 rfl rfl ⟨⟨4, .data⟩, by simp, rfl, rfl⟩
              exact wp_val (w' := wa) (by simp only [execOp, Act.eval]; rw [show a.tmps.getD 28 undef = _ from t]; simp only [Sem.run_bind, eqg_sub, sub_1 hd1 hd6, Result.andThen_ok, Sem.run_pure]) (hK _ _ (Below.refl _ _) rfl)
            | 6, ho =>
              obtain rfl := Option.some.inj ho
              have t3 := hdep 3 _ 27 rfl rfl ⟨⟨3, .data⟩, by simp, rfl, rfl⟩
              have t5 := hdep 5 _ 29 rfl rfl ⟨⟨5, .data⟩, by simp, rfl, rfl⟩
              refine oper_any (J := fun r w' => ∃ c : Array Value, r = .agg c ∧ c.size = 5 ∧ Below wa.heap.size wa w' ∧ VA (wa.heap.size ≤ ·) w' u c.toList) 156 #[.tmp 27, .tmp 29] _ rfl #[.agg #[x0, x1, x2, x3, x4], .int .i64 (d - 1 : Nat)] (by simp only [List.map_toArray, List.map_cons, List.map_nil, Act.eval]; rw [show a.tmps.getD 27 undef = _ from t3, show a.tmps.getD 29 undef = _ from t5]) (fun w => by kernel_rfl) ((ihc wa hbw).mono fun e w' h => by obtain ⟨c, rfl, h1, h2, h3⟩ := h; exact ⟨_, rfl, c, rfl, h1, h2, h3⟩) ?_
              rintro r w' ⟨c, rfl, h1, h2, h3⟩
              exact hK _ _ h2 ⟨c, rfl, h1, h3.frame (fun _ _ _ => rfl) (fun k hk _ => Nat.le_trans hbw.size hk)⟩
            | 7, ho =>
              obtain rfl := Option.some.inj ho
              have t1 := hdep 1 _ 25 rfl rfl ⟨⟨1, .data⟩, by simp, rfl, rfl⟩
              have t2 := hdep 2 _ 26 rfl rfl ⟨⟨2, .data⟩, by simp, rfl, rfl⟩
              exact wp_val (w' := wa) (by simp only [execOp, Act.eval]; rw [show a.tmps.getD 25 undef = _ from t1, show a.tmps.getD 26 undef = _ from t2]; simp only [Sem.run_bind, ix_sV hlt, Result.andThen_ok, Sem.run_pure]) (hK _ _ (Below.refl _ _) rfl)
            | 8, _ => exact absurd rfl hj
            | _ + 9, ho => exact absurd ho (by simp)
          · intro a wa hbw hdf hsz hsl hr K hK
            obtain ⟨c', t6, hc5, hcv⟩ := hr 6 _ 30 rfl (by decide) rfl
            have t7 := hr 7 _ 31 rfl (by decide) rfl
            have hca := hc6.out.keep VA.fr (fun k hk hs => hbw.block k hs)
            have hba := hb6.out.keep hbw
            have hrow := hca.row
            rw [hdl] at hrow
            obtain ⟨cur, hgb, hcur, hBg⟩ := own_cur hrow
            have hfit : i * 5 + 5 ≤ cl.length * 5 := by omega
            have hst := st_eV hgb hc5 (Nat.le_trans hfit hcur) (by simpa using hcv.one)
            have hp := own_piece hrow hc5 hfit hgb
            rw [← flat_set hca.lz i c'.toList (by omega)] at hp
            have hw3 := hb6.out.sz
            have hsa := hbw.size
            have hgq : gb < w3.heap.size := by have := (Array.getElem?_eq_some_iff.1 h6.out).1; omega
            have hC : Hid (Cp VA 55 5 (w.heap.size + 2) l cl (.slice (some ⟨gb, 0, none⟩) cl.length vc) (i + 1) (wa.setRow gb (cur.toList.take (i * 5) ++ c'.toList ++ cur.toList.drop (i * 5 + 5)).toArray) (ds.set i c'.toList)) := hide1 (hca.step VA.fr (by simpa using hc5) (by omega) rfl (fun k hk => setRow_other wa gb k _ hk) (by rw [hdl]; exact hp) (fun t' ht' => by
              rw [hu.out] at ht'
              cases ht'
              refine hcv.frame (fun k hk hs => setRow_other wa gb k _ ?_) (fun k hk hs => ⟨?_, ?_⟩)
              · have : w3.heap.size ≤ k := hk
                omega
              · have : w3.heap.size ≤ k := hk
                omega
              · intro e
                have : k = gb := by simpa [Value.ownBlock] using e
                have : w3.heap.size ≤ k := hk
                omega))
            have hCb := hide1 (hba.over hBg (cur.toList.take (i * 5) ++ c'.toList ++ cur.toList.drop (i * 5 + 5)).toArray)
            generalize (cur.toList.take (i * 5) ++ c'.toList ++ cur.toList.drop (i * 5 + 5)).toArray = nw at *
            refine wp_skp (w' := wa.setRow gb nw) (by simp only [execOp, Act.eval]; rw [show a.tmps.getD 31 undef = _ from t7, show a.tmps.getD 30 undef = _ from t6]; simp only [Sem.run_bind, hst, Result.andThen_ok, Sem.run_pure]) ?_
            refine hK a (wa.setRow gb nw) ?_
            have hact := act_puts hdf hsz hsl
            clear hst hp hcv hca hba hrow hr hsl hdf hsz hbw hK t6 t7 ihc
            simp only [List.filterMap_cons, List.filterMap_nil, List.foldl_cons, List.foldl_nil] at hact
            rw [hact]
            generalize a.tmps.getD 24 undef = y24
            generalize a.tmps.getD 25 undef = y25
            generalize a.tmps.getD 26 undef = y26
            generalize a.tmps.getD 27 undef = y27
            generalize a.tmps.getD 28 undef = y28
            generalize a.tmps.getD 29 undef = y29
            generalize a.tmps.getD 30 undef = y30
            generalize a.tmps.getD 31 undef = y31
            clear hact a
            refine (‹∀ (a : Act) (w : World), Code.wp Tryz.prog _ _ a w → _›) _ (wa.setRow gb nw) ?_
            generalize wa.setRow gb nw = w4 at *
            go_wp2
            go_roundw
            case rel => exact ⟨i + 1, _, rfl, by omega, hCb, hC⟩
            case measure => simp [intOf]; omega
        · have hie : i = cl.length := by omega
          subst hie
          have hcc : wr.cell? ⟨w.heap.size, 4, none⟩ = some sp := by simp only [World.cell?, hb.out.b2]; rfl
          have r2w : RwA F wr 69 6 sp cp := r2.frame (fun k _ hs => hb.out.bw.block k hs) (fun _ h _ => h)
          have hon2 : ∀ x ∈ cp, x.all (·.oneCell') = true := fun x hx => by
            obtain ⟨j, hj, rfl⟩ := List.mem_iff_getElem.1 hx
            have hj2 : j < p.length := by have := e2.out; omega
            have h1 := hp1 j _ _ (List.getElem?_eq_getElem hj2) (List.getElem?_eq_getElem hj)
            have h2 := (hp2 j _ _ (List.getElem?_eq_getElem hj2) (List.getElem?_eq_getElem hj)).one
            generalize cp[j] = x at *
            cases x with
            | nil => cases h1
            | cons a b =>
              simp at h1
              subst h1
              simpa [Value.oneCell'] using h2
          have hcl2 := clone_P r2w hon2 (by omega)
          have hwA := hb.out.sz
          clear hb2 hcp
          go_wp2_with fail
          refine hcl2.mono ?_
          rintro e w5 ⟨v2, rfl, bw5, row2⟩
          have hb5 := hb.out.keep bw5
          obtain ⟨va2, vc2, hva2⟩ : ∃ va vc, v2 = .slice va cp.length vc := by
            obtain ⟨_, ⟨h1, h2⟩ | ⟨g', cap, cur, h1, _⟩⟩ := row2
            · exact ⟨none, 0, by rw [h1, h2]⟩
            · exact ⟨_, cap, h1⟩
          have hw6 : w5.setCell ⟨w.heap.size, 4, none⟩ v2 = w5.setRow w.heap.size #[.int .i64 k, .int .i64 ki, .string (st s), .slice va cl.length vc, v2] := by
            rw [setCell_eq_setRow w5 w.heap.size 4 _ _ (0, 0) _ hb5.b2]; rfl
          have cc5 : w5.cell? ⟨w.heap.size, 4, none⟩ = some sp := by simp only [World.cell?, hb5.b2]; rfl
          have cf5 : w5.frozen? ⟨w.heap.size, 4, none⟩ = false := by simp [World.frozen?, hb5.b2]
          have hb6 : Cb w #[.int .i64 k, .int .i64 ki, .string (st s), .slice va cl.length vc, v2] (w5.setCell ⟨w.heap.size, 4, none⟩ v2) := by
            rw [hw6]
            exact ⟨blw_own hb5.bw (Nat.le_refl _) _, setRow_heap w5 w.heap.size _ _ _ _ hb5.b2, (setRow_other w5 _ _ _ (by omega)).trans hb5.b4, by simpa [World.setRow] using hb5.sz⟩
          have hkA : ∀ k, w.heap.size + 2 ≤ k → k < wr.heap.size → (w5.setCell ⟨w.heap.size, 4, none⟩ v2).heap[k]? = wr.heap[k]? := fun k hk hs => by
            rw [hw6]
            exact (setRow_other w5 _ k _ (by omega)).trans (bw5.block k hs)
          have hcp2 : Cp PA 69 6 wr.heap.size p cp v2 0 (w5.setCell ⟨w.heap.size, 4, none⟩ v2) cp := by
            refine Cp.start ?_ r2.1
            rw [hw6]
            obtain ⟨q1, q2 | ⟨g', cap, cur, h1, hB, h2, h3⟩⟩ := row2
            · exact ⟨q1, .inl q2⟩
            · exact ⟨q1, .inr ⟨g', cap, cur, h1, hB, (setRow_other w5 _ g' _ (by omega)).trans h2, h3⟩⟩
          have hsA : wr.heap.size ≤ (w5.setCell ⟨w.heap.size, 4, none⟩ v2).heap.size := by
            have := bw5.size
            simpa using this
          have cg6 : (w5.setCell ⟨w.heap.size, 4, none⟩ v2).cell? ⟨w.heap.size, 4, none⟩ = some v2 := by simp only [World.cell?, hb6.b2]; rfl
          replace hb6 := hide1 hb6
          replace hcp2 := hide1 hcp2
          replace hkA := hide1 hkA
          replace hsA := hide1 hsA
          clear hb5 row2 bw5 hcl2 r2w hw6
          subst hva2
          go_wp2_with fail
          generalize w5.setCell ⟨w.heap.size, 4, none⟩ (.slice va2 cp.length vc2) = w6 at *
          obtain ⟨wA, rfl⟩ : ∃ x, x = wr := ⟨_, rfl⟩
          go_loopw [40] (fun x wr => ∃ (i : Nat) (ds : List (List Value)), x = .int .i64 (i : Nat) ∧ i ≤ cp.length ∧ Hid (Cb w #[.int .i64 k, .int .i64 ki, .string (st s), .slice va cl.length vc, .slice va2 cp.length vc2] wr) ∧ Hid (Cp PA 69 6 wA.heap.size p cp (.slice va2 cp.length vc2) i wr ds) ∧ Hid (∀ k, w.heap.size + 2 ≤ k → k < wA.heap.size → wr.heap[k]? = wA.heap[k]?) ∧ Hid (wA.heap.size ≤ wr.heap.size)) (fun x _ => cp.length - (intOf x).toNat)
          case atStart => exact ⟨0, cp, rfl, by omega, hb6, hcp2, hkA, hsA⟩
          case round =>
            clear hb6 hcp2 hkA hsA
            obtain ⟨i, ds2, rfl, hin, hb2, hc2, hkA, hsA⟩ := hrel
            by_cases hlt : i < cp.length
            · have hdl : ds2.length = cp.length := hc2.out.ln
              obtain ⟨x, hx⟩ : ∃ x, cp[i]? = some x := ⟨_, List.getElem?_eq_getElem hlt⟩
              obtain ⟨u, hu⟩ : ∃ u, p[i]? = some u := ⟨_, List.getElem?_eq_getElem (by have := e2.out; omega)⟩
              have hxn := hp1 i u x hu hx
              have hxu := hp2 i u x hu hx
              have hhu := hl2 u (List.mem_of_getElem? hu)
              have hdx : ds2[i]? = some x := by rw [hc2.out.old i (Nat.le_refl _)]; exact hx
              have hrw := own_rows hc2.out.row hc2.out.lz (F := fun _ => True) (fun _ _ => trivial)
              obtain ⟨gb, o, cap, hve, -, hgl, hr⟩ := hrw.at hdx
              have ho : o = 0 := by
                obtain ⟨_, ⟨h1, _⟩ | ⟨g', cap', cur, h1, _⟩⟩ := hc2.out.row
                · rw [h1] at hve; cases hve
                · rw [h1] at hve; cases hve; rfl
              subst ho
              have hva : va2 = some ⟨gb, 0, none⟩ := by
                rw [hdl] at hve
                cases hve; rfl
              subst hva
              have hon := hon2 x (List.mem_of_getElem? hx)
              obtain ⟨x0, x1, x2, x3, x4, x5, rfl⟩ := arr6 (r2.1 x (List.mem_of_getElem? hx))
              have hx0 : x0 = .string (st u.1) := by simpa using hxn
              subst hx0
              rw [Nat.zero_add] at hr
              have hr8 : (wr.alloc (.cells #[.string ⟨#[]⟩, .int .i64 0, .int .i64 0, .string ⟨#[]⟩, .slice none 0 0, .slice none 0 0] 69)).heap[wr.heap.size]? = some (.cells #[.string ⟨#[]⟩, .int .i64 0, .int .i64 0, .string ⟨#[]⟩, .slice none 0 0, .slice none 0 0] 69 (0, 0)) := by
                show (wr.heap.push _)[wr.heap.size]? = _
                rw [Array.getElem?_push, if_pos rfl]
              have h8 := setRow_heap (wr.alloc (.cells #[.string ⟨#[]⟩, .int .i64 0, .int .i64 0, .string ⟨#[]⟩, .slice none 0 0, .slice none 0 0] 69)) wr.heap.size _ #[.string (st u.1), x1, x2, x3, x4, x5] _ _ hr8
              have hal : ∀ k, k < wr.heap.size → ((wr.alloc (.cells #[.string ⟨#[]⟩, .int .i64 0, .int .i64 0, .string ⟨#[]⟩, .slice none 0 0, .slice none 0 0] 69)).setRow wr.heap.size #[.string (st u.1), x1, x2, x3, x4, x5]).heap[k]? = wr.heap[k]? := fun k hk => (setRow_other _ _ k _ (by omega)).trans (by
                show (wr.heap.push _)[k]? = _
                rw [Array.getElem?_push, if_neg (by omega)])
              have hbw : Below wr.heap.size wr ((wr.alloc (.cells #[.string ⟨#[]⟩, .int .i64 0, .int .i64 0, .string ⟨#[]⟩, .slice none 0 0, .slice none 0 0] 69)).setRow wr.heap.size #[.string (st u.1), x1, x2, x3, x4, x5]) := ⟨rfl, rfl, rfl, by simp [World.setRow], hal⟩
              have hb6 := hb2.out.keep hbw
              have hc6 := hc2.out.keep PA.fr (fun k _ hs => hal k hs)
              have hkA6 : ∀ k, w.heap.size + 2 ≤ k → k < wA.heap.size → ((wr.alloc (.cells #[.string ⟨#[]⟩, .int .i64 0, .int .i64 0, .string ⟨#[]⟩, .slice none 0 0, .slice none 0 0] 69)).setRow wr.heap.size #[.string (st u.1), x1, x2, x3, x4, x5]).heap[k]? = wA.heap[k]? := fun k hk hs => (hal k (Nat.lt_of_lt_of_le hs hsA.out)).trans (hkA.out k hk hs)
              have hsA6 : wA.heap.size ≤ ((wr.alloc (.cells #[.string ⟨#[]⟩, .int .i64 0, .int .i64 0, .string ⟨#[]⟩, .slice none 0 0, .slice none 0 0] 69)).setRow wr.heap.size #[.string (st u.1), x1, x2, x3, x4, x5]).heap.size := Nat.le_trans hsA.out hbw.size
              have hxw : VA F ((wr.alloc (.cells #[.string ⟨#[]⟩, .int .i64 0, .int .i64 0, .string ⟨#[]⟩, .slice none 0 0, .slice none 0 0] 69)).setRow wr.heap.size #[.string (st u.1), x1, x2, x3, x4, x5]) u.2 [x1, x2, x3, x4, x5] := VA.frame (c := [x1, x2, x3, x4, x5]) hxu (fun k _ hs => hb6.bw.block k hs) (fun _ h _ => h)
              replace h8 := hide1 h8
              replace hb6 := hide1 hb6
              replace hc6 := hide1 hc6
              replace hxw := hide1 hxw
              replace hon := hide1 hon
              replace hkA6 := hide1 hkA6
              replace hsA6 := hide1 hsA6
              clear hal hbw hb2 hc2 hkA hsA hxu hxn hrw hve hx
              replace hu := hide1 hu
              replace hdx := hide1 hdx
              go_upto_region 13 with (first | refine wpList_load_mid rfl 69 (.tmp 43) rfl gb (i * 6) rfl [.string (st u.1), x1, x2, x3, x4, x5] _ hr Tryz.underlying69 rfl (by kernel_rfl) ?_ | refine wpList_store_row rfl 69 (.tmp 8) (.tmp 44) rfl wr.heap.size #[.string (st u.1), x1, x2, x3, x4, x5] rfl rfl 69 _ hr8 (by kernel_rfl) rfl (by simpa using hon.out) ?_)
              generalize (wr.alloc (.cells #[.string ⟨#[]⟩, .int .i64 0, .int .i64 0, .string ⟨#[]⟩, .slice none 0 0, .slice none 0 0] 69)).setRow wr.heap.size #[.string (st u.1), x1, x2, x3, x4, x5] = w3 at *
              generalize hq8 : wr.heap.size = q8 at *
              have ihc : ∀ w, Below w3.heap.size w3 w → Calls Tryz.prog 156 #[.agg #[x1, x2, x3, x4, x5], .int .i64 (d - 1 : Nat)] w (AnC w u.2) := fun w hb => ih hhu (hxw.out.frame (F := F) (G := F) (fun k _ hs => hb.block k hs) (fun _ h _ => h))
              refine wp_flow 10 _ _ (by kernel_rfl) (by kernel_rfl) (by kernel_rfl) (by kernel_rfl) rfl (R13 w.heap.size q8 gb cp.length vc2 i d #[x1, x2, x3, x4, x5] w3 u.2) R13_mono ?_ ?_
              · intro j o ho hj a wa hbw hsl hdep K hK
                match j, ho with
                | 0, ho =>
                  obtain rfl := Option.some.inj ho
                  have t2 : a.tmps.getD 2 undef = .pointer (some ⟨w.heap.size, 0, none⟩) := hsl 2 rfl
                  exact wp_val (w' := wa) (by simp only [execOp, Act.eval]; rw [show a.tmps.getD 2 undef = _ from t2]; kernel_rfl) (hK _ _ (Below.refl _ _) rfl)
                | 1, ho =>
                  obtain rfl := Option.some.inj ho
                  have t := hdep 0 _ 45 rfl rfl ⟨⟨0, .data⟩, by simp, rfl, rfl⟩
                  have hc3 : wa.cell? ⟨w.heap.size, 4, none⟩ = some (.slice (some ⟨gb, 0, none⟩) cp.length vc2) := by
                    rw [World.cell?_of_block (w := w3) (hbw.block _ (by have := hb6.out.sz; show w.heap.size < _; omega))]
                    simp only [World.cell?, hb6.out.b2]; rfl
                  exact wp_val (w' := wa) (by simp only [execOp, Act.eval]; rw [show a.tmps.getD 45 undef = _ from t]; simp only [Sem.run_bind, ld_sP hc3, Result.andThen_ok, Sem.run_pure]) (hK _ _ (Below.refl _ _) rfl)
                | 2, ho =>
                  obtain rfl := Option.some.inj ho
                  have t := hsl 7 rfl
                  exact wp_val (w' := wa) (by simp only [execOp, Act.eval]; rw [show a.tmps.getD 7 undef = _ from t]; rfl) (hK _ _ (Below.refl _ _) rfl)
                | 3, ho =>
                  obtain rfl := Option.some.inj ho
                  have t2 : a.tmps.getD 8 undef = .pointer (some ⟨q8, 0, none⟩) := hsl 8 rfl
                  exact wp_val (w' := wa) (by simp only [execOp, Act.eval]; rw [show a.tmps.getD 8 undef = _ from t2]; kernel_rfl) (hK _ _ (Below.refl _ _) rfl)
                | 4, ho =>
                  obtain rfl := Option.some.inj ho
                  have t := hdep 3 _ 48 rfl rfl ⟨⟨3, .data⟩, by simp, rfl, rfl⟩
                  have hl8 := (hbw.block q8 (Array.getElem?_eq_some_iff.1 h8.out).1).trans h8.out
                  exact wp_val (w' := wa) (by simp only [execOp, Act.eval]; rw [show a.tmps.getD 48 undef = _ from t]; simp only [Sem.run_bind, ld_v1 hl8, Result.andThen_ok, Sem.run_pure]) (hK _ _ (Below.refl _ _) rfl)
                | 5, ho =>
                  obtain rfl := Option.some.inj ho
                  have t := hsl 1 rfl
                  exact wp_val (w' := wa) (by simp only [execOp, Act.eval]; rw [show a.tmps.getD 1 undef = _ from t]; rfl) (hK _ _ (Below.refl _ _) rfl)
                | 6, ho =>
                  obtain rfl := Option.some.inj ho
                  have t := hdep 5 _ 50 rfl rfl ⟨⟨5, .data⟩, by simp, rfl, rfl⟩
                  exact wp_val (w' := wa) (by simp only [execOp, Act.eval]; rw [show a.tmps.getD 50 undef = _ from t]; simp only [Sem.run_bind, eqg_sub, sub_1 hd1 hd6, Result.andThen_ok, Sem.run_pure]) (hK _ _ (Below.refl _ _) rfl)
                | 7, ho =>
                  obtain rfl := Option.some.inj ho
                  have t3 := hdep 4 _ 49 rfl rfl ⟨⟨4, .data⟩, by simp, rfl, rfl⟩
                  have t5 := hdep 6 _ 51 rfl rfl ⟨⟨6, .data⟩, by simp, rfl, rfl⟩
                  refine oper_any (J := fun r w' => ∃ c : Array Value, r = .agg c ∧ c.size = 5 ∧ Below wa.heap.size wa w' ∧ VA (wa.heap.size ≤ ·) w' u.2 c.toList) 156 #[.tmp 49, .tmp 51] _ rfl #[.agg #[x1, x2, x3, x4, x5], .int .i64 (d - 1 : Nat)] (by simp only [List.map_toArray, List.map_cons, List.map_nil, Act.eval]; rw [show a.tmps.getD 49 undef = _ from t3, show a.tmps.getD 51 undef = _ from t5]) (fun w => by kernel_rfl) ((ihc wa hbw).mono fun e w' h => by obtain ⟨c, rfl, h1, h2, h3⟩ := h; exact ⟨_, rfl, c, rfl, h1, h2, h3⟩) ?_
                  rintro r w' ⟨c, rfl, h1, h2, h3⟩
                  exact hK _ _ h2 ⟨c, rfl, h1, h3.frame (fun _ _ _ => rfl) (fun k hk _ => Nat.le_trans hbw.size hk)⟩
                | 8, ho =>
                  obtain rfl := Option.some.inj ho
                  have t1 := hdep 1 _ 46 rfl rfl ⟨⟨1, .data⟩, by simp, rfl, rfl⟩
                  have t2 := hdep 2 _ 47 rfl rfl ⟨⟨2, .data⟩, by simp, rfl, rfl⟩
                  exact wp_val (w' := wa) (by simp only [execOp, Act.eval]; rw [show a.tmps.getD 46 undef = _ from t1, show a.tmps.getD 47 undef = _ from t2]; simp only [Sem.run_bind, ix_sP hlt, Result.andThen_ok, Sem.run_pure]) (hK _ _ (Below.refl _ _) rfl)
                | 9, ho =>
                  obtain rfl := Option.some.inj ho
                  have t1 := hdep 8 _ 53 rfl rfl ⟨⟨8, .data⟩, by simp, rfl, rfl⟩
                  exact wp_val (w' := wa) (by simp only [execOp, Act.eval]; rw [show a.tmps.getD 53 undef = _ from t1]; kernel_rfl) (hK _ _ (Below.refl _ _) rfl)
                | 10, _ => exact absurd rfl hj
                | _ + 11, ho => exact absurd ho (by simp)
              · intro a wa hbw hdf hsz hsl hr K hK
                obtain ⟨c', t6, hc5, hcv⟩ := hr 7 _ 52 rfl (by decide) rfl
                have t7 := hr 9 _ 54 rfl (by decide) rfl
                have hca := hc6.out.keep PA.fr (fun k hk hs => hbw.block k hs)
                have hba := hb6.out.keep hbw
                have hrow := hca.row
                rw [hdl] at hrow
                obtain ⟨cur, hgb, hcur, hBg⟩ := own_cur hrow
                have hfit : i * 6 + 1 + 5 ≤ cp.length * 6 := by omega
                have hst := st_eV hgb hc5 (Nat.le_trans hfit hcur) (by simpa using hcv.one)
                have hp := own_piece hrow hc5 hfit hgb
                rw [← flat_set1 hca.lz hdx.out] at hp
                have hw3 := hb6.out.sz
                have hsa := hbw.size
                have hgq : gb < w3.heap.size := by have := (Array.getElem?_eq_some_iff.1 h8.out).1; omega
                have hsAa := hsA6.out
                have hC : Hid (Cp PA 69 6 wA.heap.size p cp (.slice (some ⟨gb, 0, none⟩) cp.length vc2) (i + 1) (wa.setRow gb (cur.toList.take (i * 6 + 1) ++ c'.toList ++ cur.toList.drop (i * 6 + 1 + 5)).toArray) (ds2.set i (.string (st u.1) :: c'.toList))) := hide1 (hca.step PA.fr (by simp [hc5]) (by omega) rfl (fun k hk => setRow_other wa gb k _ hk) (by rw [hdl]; exact hp) (fun t' ht' => by
                  rw [hu.out] at ht'
                  cases ht'
                  refine ⟨rfl, VA.frame (c := c'.toList) hcv (fun k hk hs => setRow_other wa gb k _ ?_) (fun k hk hs => ⟨?_, ?_⟩)⟩
                  · have : w3.heap.size ≤ k := hk
                    omega
                  · have : w3.heap.size ≤ k := hk
                    omega
                  · intro e
                    have : k = gb := by simpa [Value.ownBlock] using e
                    have : w3.heap.size ≤ k := hk
                    omega))
                have hCb := hide1 (hba.over (Nat.le_trans hwA hBg) (cur.toList.take (i * 6 + 1) ++ c'.toList ++ cur.toList.drop (i * 6 + 1 + 5)).toArray)
                have hCk : Hid (∀ k, w.heap.size + 2 ≤ k → k < wA.heap.size → (wa.setRow gb (cur.toList.take (i * 6 + 1) ++ c'.toList ++ cur.toList.drop (i * 6 + 1 + 5)).toArray).heap[k]? = wA.heap[k]?) := hide1 fun k hk hs => (setRow_other wa gb k _ (by omega)).trans ((hbw.block k (by omega)).trans (hkA6.out k hk hs))
                have hCs : Hid (wA.heap.size ≤ (wa.setRow gb (cur.toList.take (i * 6 + 1) ++ c'.toList ++ cur.toList.drop (i * 6 + 1 + 5)).toArray).heap.size) := hide1 (by simp [World.setRow]; omega)
                generalize (cur.toList.take (i * 6 + 1) ++ c'.toList ++ cur.toList.drop (i * 6 + 1 + 5)).toArray = nw at *
                refine wp_skp (w' := wa.setRow gb nw) (by simp only [execOp, Act.eval]; rw [show a.tmps.getD 54 undef = _ from t7, show a.tmps.getD 52 undef = _ from t6]; simp only [Sem.run_bind, hst, Result.andThen_ok, Sem.run_pure]) ?_
                refine hK a (wa.setRow gb nw) ?_
                have hact := act_puts hdf hsz hsl
                clear hst hp hcv hca hba hrow hr hsl hdf hsz hbw hK t6 t7 ihc
                simp only [List.filterMap_cons, List.filterMap_nil, List.foldl_cons, List.foldl_nil] at hact
                rw [hact]
                generalize a.tmps.getD 45 undef = y45
                generalize a.tmps.getD 46 undef = y46
                generalize a.tmps.getD 47 undef = y47
                generalize a.tmps.getD 48 undef = y48
                generalize a.tmps.getD 49 undef = y49
                generalize a.tmps.getD 50 undef = y50
                generalize a.tmps.getD 51 undef = y51
                generalize a.tmps.getD 52 undef = y52
                generalize a.tmps.getD 53 undef = y53
                generalize a.tmps.getD 54 undef = y54
                clear hact a
                refine (‹∀ (a : Act) (w : World), Code.wp Tryz.prog _ _ a w → _›) _ (wa.setRow gb nw) ?_
                generalize wa.setRow gb nw = w4 at *
                go_wp2
                go_roundw
                case rel => exact ⟨i + 1, _, rfl, by omega, hCb, hC, hCk, hCs⟩
                case measure => simp [intOf]; omega
            · have hie : i = cp.length := by omega
              subst hie
              have hr4 := hb2.out.b4
              have l0 : wr.cell? ⟨w.heap.size, 0, none⟩ = some (.int .i64 k) := by simp only [World.cell?, hb2.out.b2]; rfl
              have l1 : wr.cell? ⟨w.heap.size, 1, none⟩ = some (.int .i64 ki) := by simp only [World.cell?, hb2.out.b2]; rfl
              have l2 : wr.cell? ⟨w.heap.size, 2, none⟩ = some (.string (st s)) := by simp only [World.cell?, hb2.out.b2]; rfl
              have l3 : wr.cell? ⟨w.heap.size, 3, none⟩ = some (.slice va cl.length vc) := by simp only [World.cell?, hb2.out.b2]; rfl
              have l4 : wr.cell? ⟨w.heap.size, 4, none⟩ = some (.slice va2 cp.length vc2) := by simp only [World.cell?, hb2.out.b2]; rfl
              have hz := setRow_heap wr (w.heap.size + 1) _ #[.int .i64 k, .int .i64 ki, .string (st s), .slice va cl.length vc, .slice va2 cp.length vc2] _ _ hr4
              have ha : AnC w (.mk k ki s l p) (.returned (.agg #[.int .i64 k, .int .i64 ki, .string (st s), .slice va cl.length vc, .slice va2 cp.length vc2])) (wr.setRow (w.heap.size + 1) #[.int .i64 k, .int .i64 ki, .string (st s), .slice va cl.length vc, .slice va2 cp.length vc2]) := by
                refine ⟨_, rfl, rfl, blw_own hb2.out.bw (by omega) _, ?_⟩
                have hfr : ∀ k', w.heap.size + 2 ≤ k' → (wr.setRow (w.heap.size + 1) #[.int .i64 k, .int .i64 ki, .string (st s), .slice va cl.length vc, .slice va2 cp.length vc2]).heap[k']? = wr.heap[k']? := fun k' hk' => setRow_other wr _ k' _ (by omega)
                have r1' := (own_rows hc.out.row hc.out.lz (F := fun k => w.heap.size + 2 ≤ k) (fun k hk => hk)).frame (w' := wr.setRow (w.heap.size + 1) #[.int .i64 k, .int .i64 ki, .string (st s), .slice va cl.length vc, .slice va2 cp.length vc2]) (G := (w.heap.size ≤ ·)) (fun k' hk hs => (hfr k' hk).trans (hkA.out k' hk hs)) (fun k' hk _ => by show w.heap.size ≤ k'; have : w.heap.size + 2 ≤ k' := hk; omega)
                have r2' := (own_rows hc2.out.row hc2.out.lz (F := fun k => wA.heap.size ≤ k) (fun k hk => hk)).frame (w' := wr.setRow (w.heap.size + 1) #[.int .i64 k, .int .i64 ki, .string (st s), .slice va cl.length vc, .slice va2 cp.length vc2]) (G := (w.heap.size ≤ ·)) (fun k' hk hs => hfr k' (Nat.le_trans hwA hk)) (fun k' hk _ => by show w.heap.size ≤ k'; have : wA.heap.size ≤ k' := hk; omega)
                have hll := hc.out.ln
                have hpl := hc2.out.ln
                have he1 := e1.out
                have he2 := e2.out
                refine VA.mk (s := s) r1' r2' (by omega) (by omega) (fun j t c h1 h2 => ?_) (fun j q c h1 h2 => ?_) (fun j q c h1 h2 => ?_)
                · have hj := (List.getElem?_eq_some_iff.1 h2).1
                  exact (hc.out.new j t c (by omega) h1 h2).frame (fun k' hk hs => (hfr k' hk.1).trans (hkA.out k' hk.1 hs)) (fun k' hk _ => by show w.heap.size ≤ k'; have := hk.1; omega)
                · have hj := (List.getElem?_eq_some_iff.1 h2).1
                  exact (hc2.out.new j q c (by omega) h1 h2).1
                · have hj := (List.getElem?_eq_some_iff.1 h2).1
                  exact (hc2.out.new j q c (by omega) h1 h2).2.frame (fun k' hk hs => hfr k' (Nat.le_trans hwA hk.1)) (fun k' hk _ => by show w.heap.size ≤ k'; have := hk.1; omega)
              replace ha := hide1 ha
              replace hz := hide1 hz
              clear hb2 hc2 hkA hsA hb hc
              go_wp2_with (refine wpList_store_row rfl Vt (.tmp 4) (.tmp 56) rfl (w.heap.size + 1) #[.int .i64 k, .int .i64 ki, .string (st s), .slice va cl.length vc, .slice va2 cp.length vc2] rfl rfl Vt _ hr4 (by kernel_rfl) rfl (by kernel_rfl) ?_)
              refine bodyPost_ret (results_v1 rfl _ rfl rfl hz.out) rfl ?_
              exact ha.out
theorem copied_d : ∀ (n : Nat) {F : Nat → Prop} {w : World} {t : T} {c : List Value} {d : Nat}, hgt n t → n ≤ d → d ≤ 65536 → VA F w t c → Calls Tryz.prog 156 #[.agg c.toArray, .int .i64 (d : Nat)] w (AnC w t)
  | 0, F, w, t, c, d, hh, _, _, _ => hh.elim
  | n + 1, F, w, t, c, d, hh, hnd, hd6, h => copied_s (fun h1 h2 => copied_d n (d := d - 1) h1 (by omega) (by omega) h2) hh hnd hd6 h
end Go.Proofs.YtdhmonlhlfkjbaaGreatDoor

namespace Go.Proofs.YtdhmonlhlfkjbaaGreatDoor
open Go.RowKit Go.Shelf
attribute [local go_sem] Oper.semAt_some

theorem wpListIn_ldm {F : Fence} {n : Nat} {ops : Array Oper} {rest : List Oper} {op : Oper} {a : Act} {w : World} {Q : Exit → Act → World → Prop} (hgd : op.guard = none) (ty : TypeId) (x : Operand) (ho : op.op = .load ty x)
    (b o : Nat) (hx : a.eval x = .pointer (some ⟨b, o, none⟩)) (cs : List Value) (d : TypeDesc) (hc : w.rangeAt b o cs) (hu : Tryz.prog.underlying ty = some d) (hd : d.isRow = true) (hi : (Tryz.prog.info? ty).map (·.size) = some cs.length)
    (h : wpListIn F n Tryz.prog ops Q rest (a.put op.dst (.agg cs.toArray)) w) : wpListIn F n Tryz.prog ops Q (op :: rest) a w := by
  refine wpListIn_plain hgd fun K hK => ?_
  unfold Oper.wpIn
  refine ⟨by simp [Oper.about, ho], ?_⟩
  rw [Oper.semAt_plain F _ _ (by rw [ho]; intro c hc'; cases hc')]
  unfold execOp
  simp only [ho, hx, Instr.loadAt, Instr.sureAddr, Sem.run_bind, Sem.run_pure, Result.andThen_ok, run_loadVar_mid w b o ty cs d hc hu hd hi]
  exact hK _ _ h
theorem wpListIn_str {F : Fence} {n : Nat} {ops : Array Oper} {rest : List Oper} {o : Oper} {a : Act} {w : World} {Q : Exit → Act → World → Prop} (hgd : o.guard = none) (ty : TypeId) (x y : Operand) (ho : o.op = .store ty x y)
    (g : Nat) (cells : Array Value) (hx : a.eval x = .pointer (some ⟨g, 0, none⟩)) (hy : a.eval y = .agg cells) (t : TypeId) (old : Array Value) (hg : w.heap[g]? = some (.cells old t (0, 0))) (hi : (Tryz.prog.info? ty).map (·.size) = some cells.size)
    (hold : old.size = cells.size) (h1 : cells.all (·.oneCell') = true) (h : wpListIn F n Tryz.prog ops Q rest (a.put o.dst undef) (w.setRow g cells)) : wpListIn F n Tryz.prog ops Q (o :: rest) a w := by
  refine wpListIn_plain hgd fun K hK => ?_
  unfold Oper.wpIn
  refine ⟨by simp [Oper.about, ho], ?_⟩
  rw [Oper.semAt_plain F _ _ (by rw [ho]; intro c hc'; cases hc')]
  unfold execOp
  simp only [ho, hx, hy, Instr.storeAt, Instr.sureAddr, Sem.run_bind, Sem.run_pure, Result.andThen_ok, run_storeVar_row w g t ty old cells hg hi hold h1]
  exact hK _ _ h
def hnd (c : List Value) : Value × Value := (c.headD undef, .agg c.tail.toArray)
theorem hnd_len (cp : List (List Value)) : (cp.map hnd).length = cp.length := by simp
set_option maxHeartbeats 400000 in
theorem pairs_d (c : Array Value) (w : World) : Calls Tryz.prog 137 #[.agg c] w fun e w' => e = .returned (.func (.func 176) #[] #[.pointer (some ⟨w.heap.size, 0, none⟩)]) ∧ w' = w.alloc (.cells c 55) := by
  go_enter Tryz.func137, Tryz.ntmps137
  go_wp2
  go_ret
  exact ⟨rfl, rfl⟩
set_option maxRecDepth 100000 in
set_option maxHeartbeats 4000000 in
theorem pairs_seq {F : Nat → Prop} {w0 w : World} {bx : Nat} {ki : Int} {s : Value} {sl sp : Value} {cp : List (List Value)} (hn : cp.length ≤ 1000000) (h : RwA F w0 69 6 sp cp) (hon : ∀ c ∈ cp, c.all (·.oneCell') = true) (hbw : Below w0.heap.size w0 w)
    (hbx : w.heap[bx]? = some (.cells #[.int .i64 5, .int .i64 ki, s, sl, sp] 55 (0, 0))) : SeqY 176 #[.pointer (some ⟨bx, 0, none⟩)] (cp.map hnd) (fun j => j < w0.heap.size ∨ j = bx) w := by
  intro l J Jx W hW hJ hJx hY h0
  have hxl := (Array.getElem?_eq_some_iff.1 hbx).1
  have hbW := (hW.block bx hxl).trans hbx
  have c0 : W.cell? ⟨bx, 0, none⟩ = some (.int .i64 5) := by simp only [World.cell?, hbW]; rfl
  have c4 : W.cell? ⟨bx, 4, none⟩ = some sp := by simp only [World.cell?, hbW]; rfl
  have hB0 : Below w0.heap.size w0 W := hbw.trans (hW.mono hbw.size)
  obtain ⟨va, vc, rfl⟩ : ∃ va vc, sp = .slice va cp.length vc := by
    obtain ⟨_, ⟨a, cap, h1, h2⟩ | ⟨b, o, cap, cur, fz, h1, _⟩⟩ := h
    · exact ⟨a, cap, by rw [h1, h2]; rfl⟩
    · exact ⟨_, cap, h1⟩
  rw [hnd_len] at *
  have hXK : Kx W.heap.size (fun j => j < w0.heap.size ∨ j = bx) W W := Kx.refl _ _ _
  replace h := hide1 h
  replace hB0 := hide1 hB0
  replace hY := hide1 hY
  replace hbW := hide1 hbW
  replace hJ := hide1 hJ
  replace hon := hide1 hon
  show CallsIn Fence.wide 4 Tryz.prog 176 #[.func (.yield l) #[] #[], .pointer (some ⟨bx, 0, none⟩)] W _
  refine callsIn_of_wp Tryz.func176 rfl trivial ?_ rfl
  simp only [Tryz.ntmps176, List.size_toArray, List.length_cons, List.length_nil, Nat.reduceAdd, Nat.reduceSub, Array.replicate_succ, Array.replicate_zero, List.push_toArray, List.append_toArray, List.nil_append, List.cons_append]
  clear hbx
  gi_wp2
  gi_loopw [11] (fun x wr => ∃ k : Nat, x = .int .i64 (k : Nat) ∧ k ≤ cp.length ∧ J k wr ∧ Hid (Kx W.heap.size (fun j => j < w0.heap.size ∨ j = bx) W wr)) (fun x _ => cp.length - (intOf x).toNat)
  case atStart => exact ⟨0, rfl, by omega, h0, hide1 hXK⟩
  case round =>
    obtain ⟨k, rfl, hkn, hJk, hK⟩ := hrel
    by_cases hlt : k < cp.length
    · obtain ⟨x, hx⟩ : ∃ x, cp[k]? = some x := ⟨_, List.getElem?_eq_getElem hlt⟩
      have hx6 := h.out.1 x (List.mem_of_getElem? hx)
      have hox := hon.out x (List.mem_of_getElem? hx)
      obtain ⟨b, o, cap, hve, -, hbl, hr⟩ := h.out.at hx
      have hva : va = some ⟨b, o, none⟩ := by cases hve; rfl
      subst hva
      have hy := hY.out k (by simpa using hlt)
      have hit : (cp.map hnd)[k]'(by simpa using hlt) = hnd x := by
        rw [List.getElem_map]
        congr 1
        have := List.getElem?_eq_getElem hlt
        rw [hx] at this
        exact (Option.some.inj this).symm
      rw [hit] at hy
      obtain ⟨x0, x1, x2, x3, x4, x5, rfl⟩ := arr6 hx6
      have hblk : wr.heap[b]? = w0.heap[b]? := by
        have h1 := hB0.out.block b hbl
        obtain ⟨ob, hob⟩ : ∃ ob, w0.heap[b]? = some ob := ⟨_, Array.getElem?_eq_getElem hbl⟩
        rw [hob] at h1 ⊢
        exact hK.out.same b ob h1 (.inr (.inl hbl))
      have hr2 : wr.rangeAt b (o + k * 6) [x0, x1, x2, x3, x4, x5] := fun j u hj => by
        rw [World.cell?_of_block (w := w0) hblk]
        exact hr j u hj
      have hr6 : (wr.alloc (.cells #[.string ⟨#[]⟩, .int .i64 0, .int .i64 0, .string ⟨#[]⟩, .slice none 0 0, .slice none 0 0] 69)).heap[wr.heap.size]? = some (.cells #[.string ⟨#[]⟩, .int .i64 0, .int .i64 0, .string ⟨#[]⟩, .slice none 0 0, .slice none 0 0] 69 (0, 0)) := by
        show (wr.heap.push _)[wr.heap.size]? = _
        rw [Array.getElem?_push, if_pos rfl]
      have h6 := setRow_heap (wr.alloc (.cells #[.string ⟨#[]⟩, .int .i64 0, .int .i64 0, .string ⟨#[]⟩, .slice none 0 0, .slice none 0 0] 69)) wr.heap.size _ #[x0, x1, x2, x3, x4, x5] _ _ hr6
      have hal : ∀ k, k < wr.heap.size → ((wr.alloc (.cells #[.string ⟨#[]⟩, .int .i64 0, .int .i64 0, .string ⟨#[]⟩, .slice none 0 0, .slice none 0 0] 69)).setRow wr.heap.size #[x0, x1, x2, x3, x4, x5]).heap[k]? = wr.heap[k]? := fun k hk => (setRow_other _ _ k _ (by omega)).trans (by
        show (wr.heap.push _)[k]? = _
        rw [Array.getElem?_push, if_neg (by omega)])
      have hb4 : Below wr.heap.size wr ((wr.alloc (.cells #[.string ⟨#[]⟩, .int .i64 0, .int .i64 0, .string ⟨#[]⟩, .slice none 0 0, .slice none 0 0] 69)).setRow wr.heap.size #[x0, x1, x2, x3, x4, x5]) := ⟨rfl, rfl, rfl, by simp [World.setRow], hal⟩
      have hJ4 : J k ((wr.alloc (.cells #[.string ⟨#[]⟩, .int .i64 0, .int .i64 0, .string ⟨#[]⟩, .slice none 0 0, .slice none 0 0] 69)).setRow wr.heap.size #[x0, x1, x2, x3, x4, x5]) := hJ.out k wr _ none hJk ⟨hb4.os, hb4.tape, hb4.output, hb4.size, fun j hj _ => hb4.block j hj⟩ (fun _ e => by cases e)
      have hK4 : Hid (Kx W.heap.size (fun j => j < w0.heap.size ∨ j = bx) W ((wr.alloc (.cells #[.string ⟨#[]⟩, .int .i64 0, .int .i64 0, .string ⟨#[]⟩, .slice none 0 0, .slice none 0 0] 69)).setRow wr.heap.size #[x0, x1, x2, x3, x4, x5])) := hide1 (hK.out.trans (Kx.below hb4))
      have l0 : ((wr.alloc (.cells #[.string ⟨#[]⟩, .int .i64 0, .int .i64 0, .string ⟨#[]⟩, .slice none 0 0, .slice none 0 0] 69)).setRow wr.heap.size #[x0, x1, x2, x3, x4, x5]).cell? ⟨wr.heap.size, 0, none⟩ = some x0 := by simp only [World.cell?, h6]; rfl
      have l1 : ((wr.alloc (.cells #[.string ⟨#[]⟩, .int .i64 0, .int .i64 0, .string ⟨#[]⟩, .slice none 0 0, .slice none 0 0] 69)).setRow wr.heap.size #[x0, x1, x2, x3, x4, x5]).cell? ⟨wr.heap.size, 1, none⟩ = some x1 := by simp only [World.cell?, h6]; rfl
      have l2 : ((wr.alloc (.cells #[.string ⟨#[]⟩, .int .i64 0, .int .i64 0, .string ⟨#[]⟩, .slice none 0 0, .slice none 0 0] 69)).setRow wr.heap.size #[x0, x1, x2, x3, x4, x5]).cell? ⟨wr.heap.size, 2, none⟩ = some x2 := by simp only [World.cell?, h6]; rfl
      have l3 : ((wr.alloc (.cells #[.string ⟨#[]⟩, .int .i64 0, .int .i64 0, .string ⟨#[]⟩, .slice none 0 0, .slice none 0 0] 69)).setRow wr.heap.size #[x0, x1, x2, x3, x4, x5]).cell? ⟨wr.heap.size, 3, none⟩ = some x3 := by simp only [World.cell?, h6]; rfl
      have l4 : ((wr.alloc (.cells #[.string ⟨#[]⟩, .int .i64 0, .int .i64 0, .string ⟨#[]⟩, .slice none 0 0, .slice none 0 0] 69)).setRow wr.heap.size #[x0, x1, x2, x3, x4, x5]).cell? ⟨wr.heap.size, 4, none⟩ = some x4 := by simp only [World.cell?, h6]; rfl
      have l5 : ((wr.alloc (.cells #[.string ⟨#[]⟩, .int .i64 0, .int .i64 0, .string ⟨#[]⟩, .slice none 0 0, .slice none 0 0] 69)).setRow wr.heap.size #[x0, x1, x2, x3, x4, x5]).cell? ⟨wr.heap.size, 5, none⟩ = some x5 := by simp only [World.cell?, h6]; rfl
      have hyy := hy _ hJ4
      replace hox := hide1 hox
      replace h6 := hide1 h6
      obtain ⟨fn, tmps, assign, body, hyr, hR⟩ := hyy
      simp only [hnd, List.headD_cons, List.tail_cons] at hyr
      clear hb4 hJ4 hJk hK hr hve hx hit hy hal hblk hx6
      gi_wp2_with (first | refine wpListIn_ldm rfl 69 (.tmp 13) rfl b (o + k * 6) rfl [x0, x1, x2, x3, x4, x5] _ hr2 Tryz.underlying69 rfl (by kernel_rfl) ?_ | refine wpListIn_str rfl 69 (.tmp 4) (.tmp 14) rfl wr.heap.size #[x0, x1, x2, x3, x4, x5] rfl rfl 69 _ hr6 (by kernel_rfl) rfl (by simpa using hox.out) ?_)
      refine hR.mono ?_
      rintro e' W5 (⟨rfl, hJ5, hk5⟩ | ⟨rfl, hJx5, hk5⟩)
      · have hK5 := hide1 (hK4.out.trans hk5)
        clear hk5
        gi_wp2
        go_roundw
        case rel => exact ⟨k + 1, rfl, by omega, hJ5, hK5⟩
        case measure => simp [intOf]; omega
      · gi_wp2
        exact bodyPost_ret (results_none rfl _ _ _) rfl ⟨⟨_, rfl⟩, .inr ⟨k, hlt, hJx5⟩⟩
    · have hke : k = cp.length := by omega
      subst hke
      gi_wp2
      exact bodyPost_end (results_none rfl _ _ _) rfl ⟨⟨_, rfl⟩, .inl hJk⟩
attribute [local go_sem] Oper.semAt_some

set_option maxRecDepth 100000 in
set_option maxHeartbeats 4000000 in
theorem pairs_seq0 {w : World} {bx : Nat} {k ki : Int} {s sl sp : Value} {P : Nat → Prop} (hk : k ≠ 5) (hbx : w.heap[bx]? = some (.cells #[.int .i64 k, .int .i64 ki, s, sl, sp] 55 (0, 0))) : SeqY 176 #[.pointer (some ⟨bx, 0, none⟩)] [] P w := by
  intro l J Jx W hW hJ hJx hY h0
  have hbW := (hW.block bx (Array.getElem?_eq_some_iff.1 hbx).1).trans hbx
  have c0 : W.cell? ⟨bx, 0, none⟩ = some (.int .i64 k) := by simp only [World.cell?, hbW]; rfl
  have hk5 : (k == 5) = false := by simpa using hk
  replace hbW := hide1 hbW
  clear hY hbx
  show CallsIn Fence.wide 4 Tryz.prog 176 #[.func (.yield l) #[] #[], .pointer (some ⟨bx, 0, none⟩)] W _
  refine callsIn_of_wp Tryz.func176 rfl trivial ?_ rfl
  simp only [Tryz.ntmps176, List.size_toArray, List.length_cons, List.length_nil, Nat.reduceAdd, Nat.reduceSub, Array.replicate_succ, Array.replicate_zero, List.push_toArray, List.append_toArray, List.nil_append, List.cons_append]
  gi_wp2
  exact bodyPost_ret (results_none rfl _ _ _) rfl ⟨⟨_, rfl⟩, .inl h0⟩
def getP (k : Int) (p : List (List UInt8 × T)) (n : List UInt8) : Option T := if k = 5 then (p.find? (fun q => q.1 == n)).map (·.2) else none
structure Gb (w : World) (n : List UInt8) (c : Array Value) (b : Bool) (W : World) : Prop where
  bw : Below w.heap.size w W
  b3 : W.heap[w.heap.size + 1]? = some (.cells #[.string (st n)] 9 (0, 0))
  b4 : W.heap[w.heap.size + 2]? = some (.cells c 55 (0, 0))
  b5 : W.heap[w.heap.size + 3]? = some (.cells #[.bool b] 4 (0, 0))
theorem Gb.keep {w W W' : World} {n : List UInt8} {c : Array Value} {b : Bool} (h : Gb w n c b W) (hk : ∀ j, j < W.heap.size → j < w.heap.size + 4 → W'.heap[j]? = W.heap[j]?) (ho : W'.os = W.os) (ht : W'.tape = W.tape) (hu : W'.output = W.output) (hz : W.heap.size ≤ W'.heap.size) : Gb w n c b W' := by
  have l3 := (Array.getElem?_eq_some_iff.1 h.b3).1
  have l4 := (Array.getElem?_eq_some_iff.1 h.b4).1
  have l5 := (Array.getElem?_eq_some_iff.1 h.b5).1
  exact ⟨⟨ho.trans h.bw.os, ht.trans h.bw.tape, hu.trans h.bw.output, Nat.le_trans h.bw.size hz, fun j hj => (hk j (by omega) (by omega)).trans (h.bw.block j hj)⟩, (hk _ l3 (by omega)).trans h.b3, (hk _ l4 (by omega)).trans h.b4, (hk _ l5 (by omega)).trans h.b5⟩
theorem Gb.own {w W W' : World} {n : List UInt8} {c : Array Value} {b : Bool} {row : Option Nat} (h : Gb w n c b W) (hg : W.grownBy W' row) (hr : ∀ r, row = some r → ∃ o : Obj, W.heap[r]? = some o ∧ o.isCells = false ∧ w.heap.size ≤ r) : Gb w n c b W' := by
  have hne : ∀ j cc t, W.heap[j]? = some (.cells cc t (0, 0)) → some j ≠ row := fun j cc t hj e => by
    obtain ⟨o, ho, hc, _⟩ := hr j e.symm
    rw [hj] at ho; cases ho; cases hc
  refine ⟨⟨hg.os.trans h.bw.os, hg.tape.trans h.bw.tape, hg.output.trans h.bw.output, Nat.le_trans h.bw.size hg.size, fun j hj => (hg.block j (Nat.lt_of_lt_of_le hj h.bw.size) (fun e => ?_)).trans (h.bw.block j hj)⟩, (hg.block _ (Array.getElem?_eq_some_iff.1 h.b3).1 (hne _ _ _ h.b3)).trans h.b3, (hg.block _ (Array.getElem?_eq_some_iff.1 h.b4).1 (hne _ _ _ h.b4)).trans h.b4, (hg.block _ (Array.getElem?_eq_some_iff.1 h.b5).1 (hne _ _ _ h.b5)).trans h.b5⟩
  obtain ⟨o, ho, hc, hl⟩ := hr j e.symm
  omega
theorem RwA.frameC {F G : Nat → Prop} {w w' : World} {e : TypeId} {z : Nat} {v : Value} {cs : List (List Value)} (h : RwA F w e z v cs)
    (hk : ∀ k c t f, F k → w.heap[k]? = some (.cells c t f) → w'.heap[k]? = w.heap[k]?) (hG : ∀ k, F k → k < w.heap.size → G k) : RwA G w' e z v cs := by
  obtain ⟨hl, h | ⟨b, o, cap, cur, fz, hv, hF, hb, h1, h2⟩⟩ := h
  · exact ⟨hl, .inl h⟩
  · exact ⟨hl, .inr ⟨b, o, cap, cur, fz, hv, hG b hF (Array.getElem?_eq_some_iff.1 hb).1, (hk b _ _ _ hF hb).trans hb, h1, h2⟩⟩
theorem VA.frameC {F G : Nat → Prop} {w w' : World} {t : T} {c : List Value} (h : VA F w t c)
    (hk : ∀ k c t f, F k → w.heap[k]? = some (.cells c t f) → w'.heap[k]? = w.heap[k]?) (hG : ∀ k, F k → k < w.heap.size → G k) : VA G w' t c := by
  induction h with
  | mk h1 h2 e1 e2 _ h4 _ i1 i2 => exact .mk (h1.frameC hk hG) (h2.frameC hk hG) e1 e2 i1 h4 i2
theorem own_c {W W' : World} {row : Option Nat} (hg : W.grownBy W' row) (hr : ∀ r, row = some r → ∃ o : Obj, W.heap[r]? = some o ∧ o.isCells = false) : ∀ (k : Nat) (c : Array Value) (t : TypeId) (f : Nat × Nat), W.heap[k]? = some (.cells c t f) → W'.heap[k]? = W.heap[k]? := fun k c t f hk =>
  hg.block k (Array.getElem?_eq_some_iff.1 hk).1 (fun e => by
    obtain ⟨o, ho, hc⟩ := hr k e.symm
    rw [hk] at ho; cases ho; cases hc)
def AnG (w : World) (o : Option T) (e : Ending) (w' : World) : Prop :=
  ∃ c : Array Value, e = .returned (.tuple #[.agg c, .bool o.isSome]) ∧ c.size = 5 ∧ c.all (·.oneCell') = true ∧ Below w.heap.size w w' ∧ ((∃ t, o = some t ∧ VA (w.heap.size ≤ ·) w' t c.toList) ∨ (o = none ∧ c = zV))
theorem results_gt {fn : Func} {t u : Tmp} (h : fn.results = #[.cell t Vt, .cell u 4]) (tmps : Array Value) {w : World} {b b' : Nat} {c : Array Value} {x : Bool} (ht : tmps.getD t undef = .pointer (some ⟨b, 0, none⟩)) (hu : tmps.getD u undef = .pointer (some ⟨b', 0, none⟩)) (hs : c.size = 5) (hg : w.heap[b]? = some (.cells c Vt (0, 0))) (hb : w.heap[b']? = some (.cells #[.bool x] 4 (0, 0))) :
    (results fn tmps).run Tryz.prog w = .ok (.tuple #[.agg c, .bool x]) w := by
  have hl := run_loadVar_row (P := Tryz.prog) w b Vt Vt c (0, 0) _ hg Tryz.underlying55 (by rfl) (by rw [hs]; kernel_rfl)
  have hc : w.cell? ⟨b', 0, none⟩ = some (.bool x) := by simp [World.cell?, hb]
  have ht2 : tmps[t]?.getD undef = .pointer (some ⟨b, 0, none⟩) := by simpa using ht
  have hu2 : tmps[u]?.getD undef = .pointer (some ⟨b', 0, none⟩) := by simpa using hu
  have hl2 : (loadVar 4 ⟨b', 0, none⟩).run Tryz.prog w = .ok (.bool x) w := by simp [go_sem, hc]
  simp [results, h, ht2, hu2, asAddr, hl, hl2, Result.andThen]
theorem blw_done {w W : World} {D : Nat} {o o' : Obj} (h : Below w.heap.size w W) (hD : w.heap.size ≤ D) (ho : W.heap[D]? = some o) : Below w.heap.size w (W.putObj D o') :=
  h.trans ((Below.refl _ W).grown (grownBy_putObj' W D o') (by have := (Array.getElem?_eq_some_iff.1 ho).1; omega) (fun k e => by cases e; exact hD))
theorem Kx.row {h b : Nat} {P : Nat → Prop} {W0 W : World} (x : Kx h P W0 W) (c : Array Value) (hb : b < h) (hP : ¬ P b) : Kx h P W0 (W.setRow b c) := ⟨by simpa [World.setRow] using x.size, fun j ob h1 h2 => (setRow_other W b j c (by rintro rfl; rcases h2 with h2 | h2 <;> first | omega | exact hP h2)).trans (x.same j ob h1 h2)⟩
theorem find_snoc {qs : List (List UInt8 × T)} {k : Nat} {q : List UInt8 × T} (hq : qs[k]? = some q) {f : List UInt8 × T → Bool} (h : (qs.take k).find? f = none) : (qs.take (k + 1)).find? f = if f q then some q else none := by
  rw [List.take_add_one, hq, Option.toList_some, List.find?_append, h, Option.none_or, List.find?_singleton]
theorem find_of {qs : List (List UInt8 × T)} {k : Nat} {f : List UInt8 × T → Bool} {q : List UInt8 × T} (h : (qs.take k).find? f = some q) : qs.find? f = some q := by
  rw [← List.take_append_drop k qs, List.find?_append, h]; rfl
set_option maxRecDepth 100000 in
set_option maxHeartbeats 8000000 in
theorem get_in {n : Nat} {F : Nat → Prop} {w : World} {c0 : Array Value} {qs : List (List UInt8 × T)} {cp : List (List Value)} {nm : List UInt8} (hc0 : c0.size = 5) (hc1 : c0.all (·.oneCell') = true) (hn : n ≤ 65536) (hln : cp.length = qs.length)
    (hq : ∀ (j : Nat) (q : List UInt8 × T) (x : List Value), qs[j]? = some q → cp[j]? = some x → PA F w q x ∧ x.length = 6 ∧ hgt n q.2)
    (hseq : ∀ W, Below w.heap.size w W → (∃ bx, bx = w.heap.size + 4 ∧ W.heap[bx]? = some (.cells c0 55 (0, 0))) → SeqY 176 #[.pointer (some ⟨w.heap.size + 4, 0, none⟩)] (cp.map hnd) (fun j => j < w.heap.size ∨ j = w.heap.size + 4) W) :
    CallsIn Fence.wide 5 Tryz.prog 105 #[.agg c0, .string (st nm)] w (AnG w ((qs.find? (fun q => q.1 == nm)).map (·.2))) := by
  obtain ⟨y0, y1, y2, y3, y4, rfl⟩ := arr5 hc0
  obtain ⟨o, ho⟩ : ∃ o, Hid (o = (qs.find? (fun q => q.1 == nm)).map (·.2)) := ⟨_, hide1 rfl⟩
  rw [← ho.out]
  refine callsIn_of_wp_marks Tryz.func105 rfl trivial ?_ rfl
  simp only [Tryz.ntmps105, List.size_toArray, List.length_cons, List.length_nil, Nat.reduceAdd, Nat.reduceSub, Array.replicate_succ, Array.replicate_zero, List.push_toArray, List.append_toArray, List.nil_append, List.cons_append]
  replace hseq := hide1 hseq
  replace hq := hide1 hq
  replace hc1 := hide1 hc1
  gi_wp2
  refine ⟨trivial, (callsIn_wide.2 (pairs_d _ _)).mono ?_⟩
  rintro e W1 ⟨rfl, rfl⟩
  have hbw : Below w.heap.size w (((((w.alloc (.cells #[y0, y1, y2, y3, y4] 55)).alloc (.cells #[.string (st nm)] 9)).alloc (.cells #[.int .i64 0, .int .i64 0, .string ⟨#[]⟩, .slice none 0 0, .slice none 0 0] 55)).alloc (.cells #[.bool false] 4)).alloc (.cells #[y0, y1, y2, y3, y4] 55)) := blw_al (blw_al (blw_al (blw_al (blw_al (Below.refl _ _) (Nat.le_refl _) _) (by simp) _) (by simp; omega) _) (by simp; omega) _) (by simp; omega) _
  have hsz : (((((w.alloc (.cells #[y0, y1, y2, y3, y4] 55)).alloc (.cells #[.string (st nm)] 9)).alloc (.cells #[.int .i64 0, .int .i64 0, .string ⟨#[]⟩, .slice none 0 0, .slice none 0 0] 55)).alloc (.cells #[.bool false] 4)).alloc (.cells #[y0, y1, y2, y3, y4] 55)).heap.size = w.heap.size + 5 := by simp
  have hG : Gb w nm zV false (((((w.alloc (.cells #[y0, y1, y2, y3, y4] 55)).alloc (.cells #[.string (st nm)] 9)).alloc (.cells #[.int .i64 0, .int .i64 0, .string ⟨#[]⟩, .slice none 0 0, .slice none 0 0] 55)).alloc (.cells #[.bool false] 4)).alloc (.cells #[y0, y1, y2, y3, y4] 55)) := by
    refine ⟨hbw, ?_, ?_, ?_⟩
    · show (((((w.heap.push _).push _).push _).push _).push _)[w.heap.size + 1]? = _
      rw [Array.getElem?_push, if_neg (by simp), Array.getElem?_push, if_neg (by simp), Array.getElem?_push, if_neg (by simp), Array.getElem?_push, if_pos (by simp)]
    · show (((((w.heap.push _).push _).push _).push _).push _)[w.heap.size + 2]? = _
      rw [Array.getElem?_push, if_neg (by simp), Array.getElem?_push, if_neg (by simp), Array.getElem?_push, if_pos (by simp)]
      rfl
    · show (((((w.heap.push _).push _).push _).push _).push _)[w.heap.size + 3]? = _
      rw [Array.getElem?_push, if_neg (by simp), Array.getElem?_push, if_pos (by simp)]
  have hbx : (((((w.alloc (.cells #[y0, y1, y2, y3, y4] 55)).alloc (.cells #[.string (st nm)] 9)).alloc (.cells #[.int .i64 0, .int .i64 0, .string ⟨#[]⟩, .slice none 0 0, .slice none 0 0] 55)).alloc (.cells #[.bool false] 4)).alloc (.cells #[y0, y1, y2, y3, y4] 55)).heap[w.heap.size + 4]? = some (.cells #[y0, y1, y2, y3, y4] 55 (0, 0)) := by
    show (((((w.heap.push _).push _).push _).push _).push _)[w.heap.size + 4]? = _
    rw [Array.getElem?_push, if_pos (by simp)]
  have hsq := hseq.out _ hbw ⟨_, rfl, hbx⟩
  gi_wp2
  generalize (((((w.alloc (.cells #[y0, y1, y2, y3, y4] 55)).alloc (.cells #[.string (st nm)] 9)).alloc (.cells #[.int .i64 0, .int .i64 0, .string ⟨#[]⟩, .slice none 0 0, .slice none 0 0] 55)).alloc (.cells #[.bool false] 4)).alloc (.cells #[y0, y1, y2, y3, y4] 55)) = W0 at *
  refine range_y (w := W0) (gf := 176) (lb := #[.pointer (some ⟨w.heap.size + 4, 0, none⟩)]) rfl (fun _ _ => by kernel_rfl) hsq (fun j hj => by rw [hsz]; rcases hj with hj | hj <;> omega)
    (fun k W => Gb w nm zV false W ∧ (qs.take k).find? (fun q => q.1 == nm) = none)
    (fun c _ W => c = .ret ∧ ∃ (x : T) (c' : Array Value), o = some x ∧ c'.size = 5 ∧ c'.all (·.oneCell') = true ∧ Gb w nm c' true W ∧ VA (w.heap.size + 5 ≤ ·) W x c'.toList) ?hI ?hIx ⟨hG, rfl⟩ ?round ?done ?stop
  case hI =>
    intro k A B row h hg hr
    exact ⟨h.1.own hg (fun r e => by obtain ⟨h1, ob, h2, h3⟩ := hr r e; exact ⟨ob, h2, h3, by omega⟩), h.2⟩
  case hIx =>
    rintro c k A B row ⟨hc, x, c', h1, h2, h3, h4, h5⟩ hg hr
    exact ⟨hc, x, c', h1, h2, h3, h4.own hg (fun r e => by obtain ⟨h1, ob, h2, h3⟩ := hr r e; exact ⟨ob, h2, h3, by omega⟩), h5.frameC (fun k c t f _ hk => own_c hg (fun r e => (hr r e).2) k c t f hk) (fun _ h _ => h)⟩
  case round =>
    intro lq k hk W Kq hz hI hK
    rw [hnd_len] at hk
    obtain ⟨x, hx⟩ : ∃ x, cp[k]? = some x := ⟨_, List.getElem?_eq_getElem hk⟩
    obtain ⟨q, hqk⟩ : ∃ q, qs[k]? = some q := ⟨_, List.getElem?_eq_getElem (by omega)⟩
    obtain ⟨hpa, hx6, hhg⟩ := hq.out k q x hqk hx
    have hit : (cp.map hnd)[k]'(by rw [hnd_len]; exact hk) = hnd x := by
      rw [List.getElem_map]
      congr 1
      have := List.getElem?_eq_getElem hk
      rw [hx] at this
      exact (Option.some.inj this).symm
    rw [hit]
    obtain ⟨x0, x1, x2, x3, x4, x5, rfl⟩ := arr6 hx6
    have hx0 : x0 = .string (st q.1) := by simpa using hpa.1
    subst hx0
    have hva : VA F w q.2 [x1, x2, x3, x4, x5] := hpa.2
    have hon := hva.one
    simp only [hnd, List.headD_cons, List.tail_cons]
    have hr7 : (W.alloc (.cells #[.int .i64 0, .int .i64 0, .string ⟨#[]⟩, .slice none 0 0, .slice none 0 0] 55)).heap[W.heap.size]? = some (.cells #[.int .i64 0, .int .i64 0, .string ⟨#[]⟩, .slice none 0 0, .slice none 0 0] 55 (0, 0)) := by
      show (W.heap.push _)[W.heap.size]? = _
      rw [Array.getElem?_push, if_pos rfl]
    have h7 := setRow_heap (W.alloc (.cells #[.int .i64 0, .int .i64 0, .string ⟨#[]⟩, .slice none 0 0, .slice none 0 0] 55)) W.heap.size _ #[x1, x2, x3, x4, x5] _ _ hr7
    have hal : ∀ j, j < W.heap.size → ((W.alloc (.cells #[.int .i64 0, .int .i64 0, .string ⟨#[]⟩, .slice none 0 0, .slice none 0 0] 55)).setRow W.heap.size #[x1, x2, x3, x4, x5]).heap[j]? = W.heap[j]? := fun j hj => (setRow_other _ _ j _ (by omega)).trans (by
      show (W.heap.push _)[j]? = _
      rw [Array.getElem?_push, if_neg (by omega)])
    have hb7 : Below W.heap.size W ((W.alloc (.cells #[.int .i64 0, .int .i64 0, .string ⟨#[]⟩, .slice none 0 0, .slice none 0 0] 55)).setRow W.heap.size #[x1, x2, x3, x4, x5]) := ⟨rfl, rfl, rfl, by simp [World.setRow], hal⟩
    have hs7 : ((W.alloc (.cells #[.int .i64 0, .int .i64 0, .string ⟨#[]⟩, .slice none 0 0, .slice none 0 0] 55)).setRow W.heap.size #[x1, x2, x3, x4, x5]).heap.size = W.heap.size + 1 := by simp [World.setRow]
    have hf := find_snoc hqk hI.2
    replace hon := hide1 hon
    replace hva := hide1 hva
    clear hit hx hpa hx6 hal
    gi_wp2_with (refine wpListIn_str rfl 55 (.tmp 7) (.tmp 11) rfl W.heap.size #[x1, x2, x3, x4, x5] rfl rfl 55 _ hr7 (by kernel_rfl) rfl (by simpa using hon.out) ?_)
    refine hK _ _ hb7 ?_
    rintro W2 hsame hs2 ⟨hG2, hf2⟩
    have h72 := (hsame W.heap.size (by omega)).trans h7
    have l0 : W2.cell? ⟨W.heap.size, 0, none⟩ = some x1 := by simp only [World.cell?, h72]; rfl
    have l1 : W2.cell? ⟨W.heap.size, 1, none⟩ = some x2 := by simp only [World.cell?, h72]; rfl
    have l2 : W2.cell? ⟨W.heap.size, 2, none⟩ = some x3 := by simp only [World.cell?, h72]; rfl
    have l3 : W2.cell? ⟨W.heap.size, 3, none⟩ = some x4 := by simp only [World.cell?, h72]; rfl
    have l4 : W2.cell? ⟨W.heap.size, 4, none⟩ = some x5 := by simp only [World.cell?, h72]; rfl
    have c3 : W2.cell? ⟨w.heap.size + 1, 0, none⟩ = some (.string (st nm)) := by simp only [World.cell?, hG2.b3]; rfl
    have hse := st_eq q.1 nm
    have hsz2 : w.heap.size + 5 ≤ W2.heap.size := by rw [hs2, hs7]; omega
    by_cases hqn : q.1 = nm
    · have heq : ((st q.1).toList == (st nm).toList) = true := by rw [hse]; exact decide_eq_true hqn
      have hoq : o = some q.2 := by
        rw [ho.out, find_of (k := k + 1) (by rw [hf, if_pos (by simpa using hqn)])]; rfl
      have hcop := copied_d n (d := 65536) hhg hn (by omega) (hva.out.frame (w' := W2) (G := F) (fun j _ hj => hG2.bw.block j hj) (fun _ h _ => h))
      have hb4 := hG2.b4
      have hb5 := hG2.b5
      replace hG2 := hide1 hG2
      replace hoq := hide1 hoq
      clear hK hsame h72 h7 hse hf hf2 hI
      gi_wp2
      refine ⟨trivial, (CallsIn.inRound lq (callsIn_wide.2 hcop)).mono ?_⟩
      rintro e W3 ⟨c', rfl, hc5, b3, hv3⟩
      have hon3 := hv3.one
      obtain ⟨z0, z1, z2, z3, z4, rfl⟩ := arr5 hc5
      have hr4 := (b3.block _ (Array.getElem?_eq_some_iff.1 hb4).1).trans hb4
      have hr5 := (b3.block _ (Array.getElem?_eq_some_iff.1 hb5).1).trans hb5
      have hr45 := (setRow_other W3 (w.heap.size + 2) (w.heap.size + 3) #[z0, z1, z2, z3, z4] (by omega)).trans hr5
      have c5 : (W3.setRow (w.heap.size + 2) #[z0, z1, z2, z3, z4]).cell? ⟨w.heap.size + 3, 0, none⟩ = some (.bool false) := by simp only [World.cell?, hr45]; rfl
      have f5 : (W3.setRow (w.heap.size + 2) #[z0, z1, z2, z3, z4]).frozen? ⟨w.heap.size + 3, 0, none⟩ = false := by simp [World.frozen?, hr45]
      have hw5 : (W3.setRow (w.heap.size + 2) #[z0, z1, z2, z3, z4]).setCell ⟨w.heap.size + 3, 0, none⟩ (.bool true) = (W3.setRow (w.heap.size + 2) #[z0, z1, z2, z3, z4]).setRow (w.heap.size + 3) #[.bool true] := by
        rw [setCell_eq_setRow _ (w.heap.size + 3) 0 _ _ (0, 0) _ hr45]; rfl
      have hfin : Hid (outX W0.heap.size (fun j => j < w.heap.size ∨ j = w.heap.size + 4) (fun k W => Gb w nm zV false W ∧ (qs.take k).find? (fun q => q.1 == nm) = none)
          (fun c _ W => c = .ret ∧ ∃ (x : T) (c' : Array Value), o = some x ∧ c'.size = 5 ∧ c'.all (·.oneCell') = true ∧ Gb w nm c' true W ∧ VA (w.heap.size + 5 ≤ ·) W x c'.toList) k W2 .ret { tmps := #[], defers := [] } ((W3.setRow (w.heap.size + 2) #[z0, z1, z2, z3, z4]).setCell ⟨w.heap.size + 3, 0, none⟩ (.bool true))) := hide1 (by
        rw [hw5]
        refine ⟨((Kx.below b3).row _ (by omega) (by omega)).row _ (by omega) (by omega), rfl, q.2, #[z0, z1, z2, z3, z4], hoq.out, rfl, by simpa using hon3, ?_, ?_⟩
        · have g := hG2.out
          refine ⟨blw_own (blw_own (g.bw.trans (b3.mono g.bw.size)) (by omega) _) (by omega) _, ?_, ?_, ?_⟩
          · exact (setRow_other _ _ _ _ (by omega)).trans ((setRow_other _ _ _ _ (by omega)).trans ((b3.block _ (Array.getElem?_eq_some_iff.1 g.b3).1).trans g.b3))
          · exact (setRow_other _ _ _ _ (by omega)).trans (setRow_heap W3 _ _ _ _ _ hr4)
          · exact setRow_heap _ _ _ _ _ _ hr45
        · refine hv3.frame (fun j hj _ => (setRow_other _ _ j _ ?_).trans (setRow_other _ _ j _ ?_)) (fun j hj _ => Nat.le_trans hsz2 hj)
          · have : W2.heap.size ≤ j := hj
            omega
          · have : W2.heap.size ≤ j := hj
            omega)
      replace hon3 := hide1 hon3
      clear hw5 hv3 b3 hcop hb4 hb5 hr5 hr45
      gi_wp2_with (refine wpListIn_str rfl 55 (.tmp 4) (.tmp 16) rfl (w.heap.size + 2) #[z0, z1, z2, z3, z4] rfl rfl 55 _ hr4 (by kernel_rfl) rfl (by simpa using hon3.out) ?_)
      exact hfin.out
    · have heq : ((st q.1).toList == (st nm).toList) = false := by rw [hse]; exact decide_eq_false hqn
      have hfin : Hid (Kx W0.heap.size (fun j => j < w.heap.size ∨ j = w.heap.size + 4) W2 W2 ∧ Gb w nm zV false W2 ∧ (qs.take (k + 1)).find? (fun q => q.1 == nm) = none) := hide1 ⟨Kx.refl _ _ _, hG2, by rw [hf, if_neg (by simpa using hqn)]⟩
      clear hK hsame h72 h7 hse hf hf2 hI hG2
      gi_wp2
      exact hfin.out
  case done =>
    rintro D W hD ⟨hGW, hf⟩ hK
    have hon : o = none := by
      rw [hnd_len, List.take_of_length_le (by omega)] at hf
      rw [ho.out, hf]; rfl
    have hr4 := hGW.b4
    have hr45 := (setRow_other W (w.heap.size + 2) (w.heap.size + 3) zV (by omega)).trans hGW.b5
    have c5 : (W.setRow (w.heap.size + 2) zV).cell? ⟨w.heap.size + 3, 0, none⟩ = some (.bool false) := by simp only [World.cell?, hr45]; rfl
    have f5 : (W.setRow (w.heap.size + 2) zV).frozen? ⟨w.heap.size + 3, 0, none⟩ = false := by simp [World.frozen?, hr45]
    have hw5 : (W.setRow (w.heap.size + 2) zV).setCell ⟨w.heap.size + 3, 0, none⟩ (.bool false) = (W.setRow (w.heap.size + 2) zV).setRow (w.heap.size + 3) #[.bool false] := by
      rw [setCell_eq_setRow _ (w.heap.size + 3) 0 _ _ (0, 0) _ hr45]; rfl
    have hDK : ((W.setRow (w.heap.size + 2) zV).setCell ⟨w.heap.size + 3, 0, none⟩ (.bool false)).heap[D]? = some (.deferred (some [])) := by
      rw [hw5]
      exact (setRow_other _ _ _ _ (by omega)).trans ((setRow_other _ _ _ _ (by omega)).trans hK)
    have hb4 : ((W.setRow (w.heap.size + 2) zV).setCell ⟨w.heap.size + 3, 0, none⟩ (.bool false)).heap[w.heap.size + 2]? = some (.cells zV 55 (0, 0)) := by
      rw [hw5]
      exact (setRow_other _ _ _ _ (by omega)).trans (setRow_heap W _ _ _ _ _ hr4)
    have hb5 : ((W.setRow (w.heap.size + 2) zV).setCell ⟨w.heap.size + 3, 0, none⟩ (.bool false)).heap[w.heap.size + 3]? = some (.cells #[.bool false] 4 (0, 0)) := by
      rw [hw5]
      exact setRow_heap _ _ _ _ _ _ hr45
    have hbb : Below w.heap.size w ((W.setRow (w.heap.size + 2) zV).setCell ⟨w.heap.size + 3, 0, none⟩ (.bool false)) := by
      rw [hw5]
      exact blw_own (blw_own hGW.bw (by omega) _) (by omega) _
    replace hDK := hide1 hDK
    replace hb4 := hide1 hb4
    replace hb5 := hide1 hb5
    replace hbb := hide1 hbb
    replace hon := hide1 hon
    clear hGW hf hw5 hr45
    gi_wp2_with (refine wpListIn_str rfl 55 (.tmp 4) (.tmp 17) rfl (w.heap.size + 2) zV rfl rfl 55 _ hr4 (by kernel_rfl) rfl (by kernel_rfl) ?_)
    refine ⟨by simp, .inl ⟨_, _, rfl, run_takeDeferred hDK.out, ?_⟩⟩
    refine ⟨_, results_gt rfl _ rfl rfl rfl ((World.putObj_heap_other (by omega)).trans hb4.out) ((World.putObj_heap_other (by omega)).trans hb5.out), ?_⟩
    exact ⟨zV, by rw [hon.out]; rfl, rfl, by kernel_rfl, blw_done hbb.out (by omega) hDK.out, .inr ⟨hon.out, rfl⟩⟩
  case stop =>
    rintro D c k W hD hk ⟨rfl, x, c', h1, h2, h3, h4, h5⟩ hK
    gi_wp2
    refine ⟨by simp, .inl ⟨_, _, rfl, run_takeDeferred hK, ?_⟩⟩
    refine ⟨_, results_gt rfl _ rfl rfl h2 ((World.putObj_heap_other (by omega)).trans h4.b4) ((World.putObj_heap_other (by omega)).trans h4.b5), ?_⟩
    refine ⟨c', by rw [h1]; rfl, h2, h3, blw_done h4.bw (by omega) hK, .inl ⟨x, h1, h5.frameC (fun j c t f _ hj => ?_) (fun j hj _ => by show w.heap.size ≤ j; have : w.heap.size + 5 ≤ j := hj; omega)⟩⟩
    exact World.putObj_heap_other (by rintro rfl; rw [hK] at hj; cases hj)
theorem get_d {n : Nat} {F : Nat → Prop} {w : World} {k ki : Int} {s nm : List UInt8} {l : List T} {p : List (List UInt8 × T)} {c : List Value} (hh : hgt (n + 1) (.mk k ki s l p)) (hn : n ≤ 65536) (h : VA F w (.mk k ki s l p) c) : Calls Tryz.prog 105 #[.agg c.toArray, .string (st nm)] w (AnG w (getP k p nm)) := by
  have h5 := h.len
  have h1 := h.one
  obtain ⟨b1, b2, hl1, hl2⟩ := hh
  cases h with
  | @mk _ _ _ _ _ sl sp cl cp r1 r2 e1 e2 hl hp1 hp2 =>
    refine (callsIn_wide (n := 5)).1 ?_
    by_cases hk : k = 5
    · subst hk
      unfold getP
      rw [if_pos rfl]
      refine get_in (cp := cp) rfl (by simpa using h1) hn e2 (fun j q x hq hx => ⟨⟨hp1 j q x hq hx, hp2 j q x hq hx⟩, r2.1 x (List.mem_of_getElem? hx), hl2 q (List.mem_of_getElem? hq)⟩) (fun W hb ⟨bx, e, hbx⟩ => ?_)
      subst e
      refine pairs_seq (by omega) r2 (fun x hx => ?_) hb hbx
      obtain ⟨j, hj, rfl⟩ := List.mem_iff_getElem.1 hx
      have hj2 : j < p.length := by omega
      have g1 := hp1 j _ _ (List.getElem?_eq_getElem hj2) (List.getElem?_eq_getElem hj)
      have g2 := (hp2 j _ _ (List.getElem?_eq_getElem hj2) (List.getElem?_eq_getElem hj)).one
      generalize cp[j] = x at *
      cases x with
      | nil => cases g1
      | cons a b =>
        simp at g1
        subst g1
        simpa [Value.oneCell'] using g2
    · unfold getP
      rw [if_neg hk]
      have := get_in (n := n) (F := F) (w := w) (qs := []) (cp := []) (nm := nm) (c0 := #[.int .i64 k, .int .i64 ki, .string (st s), sl, sp]) rfl (by simpa using h1) hn rfl (by simp) (fun W hb ⟨bx, e, hbx⟩ => by
        subst e
        exact pairs_seq0 hk hbx)
      exact this
end Go.Proofs.YtdhmonlhlfkjbaaGreatDoor

namespace Go.Proofs.YtdhmonlhlfkjbaaGreatDoor
open Go.RowKit

def ht : Nat → T → Prop
  | 0, _ => False
  | n + 1, .mk _ _ _ l p => (∀ t ∈ l, ht n t) ∧ ∀ q ∈ p, ht n q.2
theorem ht_mono : ∀ {n m : Nat} {t : T}, n ≤ m → ht n t → ht m t
  | 0, _, _, _, h => h.elim
  | n + 1, 0, _, hm, _ => absurd hm (by omega)
  | n + 1, m + 1, .mk _ _ _ l p, hm, h => ⟨fun t ht' => ht_mono (by omega) (h.1 t ht'), fun q hq => ht_mono (by omega) (h.2 q hq)⟩
theorem ht_all {α : Type} {f : α → T} : ∀ (l : List α), (∀ t ∈ l, ∃ n, ht n (f t)) → ∃ n, ∀ t ∈ l, ht n (f t)
  | [], _ => ⟨0, by simp⟩
  | x :: r, h => by
    obtain ⟨a, ha⟩ := h x (by simp)
    obtain ⟨b, hb⟩ := ht_all r (fun t ht => h t (by simp [ht]))
    refine ⟨max a b, fun t ht => ?_⟩
    rcases List.mem_cons.1 ht with rfl | ht
    · exact ht_mono (Nat.le_max_left _ _) ha
    · exact ht_mono (Nat.le_max_right _ _) (hb t ht)
theorem VA.ht {F : Nat → Prop} {w : World} {t : T} {c : List Value} (h : VA F w t c) : ∃ n, ht n t := by
  induction h with
  | @mk k i s l p sl sp cl cp r1 r2 e1 e2 _ _ _ i1 i2 =>
    obtain ⟨a, ha⟩ := ht_all (f := id) l (fun t ht => by
      obtain ⟨j, hj, rfl⟩ := List.mem_iff_getElem.1 ht
      exact i1 j _ _ (List.getElem?_eq_getElem hj) (List.getElem?_eq_getElem (by omega)))
    obtain ⟨b, hb⟩ := ht_all (f := (·.2)) p (fun t ht => by
      obtain ⟨j, hj, rfl⟩ := List.mem_iff_getElem.1 ht
      exact i2 j _ _ (List.getElem?_eq_getElem hj) (List.getElem?_eq_getElem (by omega)))
    exact ⟨max a b + 1, fun t ht => ht_mono (Nat.le_max_left _ _) (ha t ht), fun q hq => ht_mono (Nat.le_max_right _ _) (hb q hq)⟩
section
variable {P : Program} {Q : Exit → Act → World → Prop}
def rch (l : List Oper) : Nat → Nat → Nat → Bool
  | 0, _, _ => false
  | k + 1, j, i => match l[j]? with
    | some o => o.after.any fun e => Region.binds .any e && (e.on == i || rch l k e.on i)
    | none => false
theorem rch_of {l : List Oper} {D : Nat → Bool} (hcl : ∀ j oj, l[j]? = some oj → D j = true → ∀ e ∈ oj.after, Region.binds .any e = true → D e.on = true) : ∀ (k j i : Nat), rch l k j i = true → D j = true → D i = true
  | 0, _, _, h, _ => by cases h
  | k + 1, j, i, h, hD => by
    unfold rch at h
    cases hj : l[j]? with
    | none => rw [hj] at h; cases h
    | some o =>
      rw [hj] at h
      obtain ⟨e, he, h1⟩ := Array.any_eq_true'.1 h
      simp only [Bool.and_eq_true, Bool.or_eq_true, beq_iff_eq] at h1
      have hDe := hcl j o hj hD e he h1.1
      rcases h1.2 with h2 | h2
      · rw [← h2]; exact hDe
      · exact rch_of hcl k e.on i h2 hDe
def finC (l : List Oper) (fin n : Nat) : Bool := (List.range l.length).all fun i => i == fin || (rch l l.length fin i && (match (l[i]?).bind (·.dst) with
    | some d => decide (d < n) && (List.range l.length).all fun j => j == i || ((l[j]?).bind (·.dst)) != some d
    | none => false))
theorem finC_at {l : List Oper} {fin n : Nat} (h : finC l fin n = true) {i : Nat} {o : Oper} (ho : l[i]? = some o) (hi : i ≠ fin) :
    rch l l.length fin i = true ∧ ∃ d, o.dst = some d ∧ d < n ∧ ∀ j oj, l[j]? = some oj → j ≠ i → oj.dst ≠ some d := by
  have hil := (List.getElem?_eq_some_iff.1 ho).1
  have h1 := List.all_eq_true.1 h i (by simp [hil])
  simp only [ho, Option.bind_some, Bool.or_eq_true, beq_iff_eq, hi, false_or, Bool.and_eq_true] at h1
  refine ⟨h1.1, ?_⟩
  have h3 := h1.2
  cases hd : o.dst with
  | none => rw [hd] at h3; cases h3
  | some d =>
    rw [hd] at h3
    simp only [Bool.and_eq_true, decide_eq_true_eq] at h3
    refine ⟨d, rfl, h3.1, fun j oj hj hne e => ?_⟩
    have h5 := List.all_eq_true.1 h3.2 j (by simp [(List.getElem?_eq_some_iff.1 hj).1])
    simp [hj, hne, e] at h5
def OpG (P : Program) (l : List Oper) (Q : Exit → Act → World → Prop) (o : Oper) (a : Act) (w : World) (K : Act → World → Prop) : Prop :=
  (Region.wanted o (yielded l.toArray a.tmps) = true ∧ o.wp P a w K Q) ∨ (Region.wanted o (yielded l.toArray a.tmps) = false ∧ K (a.put o.dst undef) w)
theorem OpG.plain {l : List Oper} {o : Oper} {a : Act} {w : World} {K : Act → World → Prop} (hg : o.guard = none) (h : o.wp P a w K Q) : OpG P l Q o a w K := .inl ⟨by unfold Region.wanted; rw [hg], h⟩
theorem OpG.want {l : List Oper} {o : Oper} {a : Act} {w : World} {K : Act → World → Prop} {j d : Nat} {b : Bool} (hg : o.guard = some (j, b)) (hd : (l[j]?).bind (·.dst) = some d) (hs : d < a.tmps.size) (hv : a.tmps.getD d undef = .bool b) (h : o.wp P a w K Q) : OpG P l Q o a w K := by
  refine .inl ⟨?_, h⟩
  have ht : a.tmps[d]? = some (.bool b) := by
    rw [Array.getElem?_eq_getElem hs]
    simpa [Array.getD, hs] using hv
  unfold Region.wanted yielded
  rw [hg]
  simp [hd, ht]
theorem OpG.skip {l : List Oper} {o : Oper} {a : Act} {w : World} {K : Act → World → Prop} {j d : Nat} {b : Bool} (hg : o.guard = some (j, b)) (hd : (l[j]?).bind (·.dst) = some d) (hs : d < a.tmps.size) (hv : a.tmps.getD d undef = .bool (!b)) (h : K (a.put o.dst undef) w) : OpG P l Q o a w K := by
  refine .inr ⟨?_, h⟩
  have ht : a.tmps[d]? = some (.bool (!b)) := by
    rw [Array.getElem?_eq_getElem hs]
    simpa [Array.getD, hs] using hv
  unfold Region.wanted yielded
  rw [hg]
  cases b <;> simp [hd, ht]
theorem wp_flowG {l : List Oper} {id : Nat} (fin : Nat) (a0 : Act) (w0 : World) (hm : P.follows .mixedOrders = true) (hac : acycB l.toArray = true) (hfin : finC l fin a0.tmps.size = true) {f : Oper} (hf : l[fin]? = some f)
    (Rr : Nat → Value → World → Prop) (hmono : ∀ i v w w', Rr i v w → Below w.heap.size w w' → Rr i v w')
    (hop : ∀ i o, l[i]? = some o → i ≠ fin → ∀ a w, Below w0.heap.size w0 w → a.tmps.size = a0.tmps.size → (∀ t, wrB l t = false → a.tmps.getD t undef = a0.tmps.getD t undef) → (∀ j oj d, l[j]? = some oj → oj.dst = some d → (∃ e ∈ o.after, Region.binds .any e = true ∧ e.on = j) → Rr j (a.tmps.getD d undef) w) →
      ∀ K : Act → World → Prop, (∀ v w', Below w.heap.size w w' → Rr i v w' → K (a.put o.dst v) w') → OpG P l Q o a w K)
    (hlast : ∀ a w, Below w0.heap.size w0 w → a.defers = a0.defers → a.tmps.size = a0.tmps.size → (∀ t, wrB l t = false → a.tmps.getD t undef = a0.tmps.getD t undef) → (∀ j oj d, l[j]? = some oj → j ≠ fin → oj.dst = some d → Rr j (a.tmps.getD d undef) w) →
      ∀ K : Act → World → Prop, (∀ a' w', Q .normal a' w' → K a' w') → OpG P l Q f a w K) : (Code.region id l.toArray true).wp P Q a0 w0 := by
  have hacyc := acyc_of (ops := l.toArray) hac
  refine wp_region_any hm (wpAny_sym hacyc (fun D a w => ((∀ j, j < l.length → D j = true) ∧ Q .normal a w) ∨ (D fin = false ∧ a.defers = a0.defers ∧ a.tmps.size = a0.tmps.size ∧ Below w0.heap.size w0 w ∧ (∀ t, wrB l t = false → a.tmps.getD t undef = a0.tmps.getD t undef) ∧ (∀ j oj, l[j]? = some oj → D j = true → ∀ e ∈ oj.after, Region.binds .any e = true → D e.on = true) ∧ ∀ j oj d, l[j]? = some oj → D j = true → oj.dst = some d → Rr j (a.tmps.getD d undef) w)) ?_ ?_ _ _ _ _ (by simp) ?_ ?_)
  · intro D a w hI i o ho hD hdep K hK
    have ho : l[i]? = some o := by simpa using ho
    rcases hI with ⟨h1, _⟩ | ⟨h1, hdf, hsz, hb, hsl, hcl, hr⟩
    · rw [h1 i (List.getElem?_eq_some_iff.1 ho).1] at hD; cases hD
    · by_cases hi : i = fin
      · subst hi
        rw [hf] at ho
        cases ho
        have hall : ∀ j, j < l.length → j ≠ i → D j = true := fun j hj hne => by
          obtain ⟨h3, _⟩ := finC_at hfin (List.getElem?_eq_getElem hj) hne
          cases hk : l.length with
          | zero => omega
          | succ k =>
            rw [hk] at h3
            unfold rch at h3
            rw [hf] at h3
            obtain ⟨e, he, h4⟩ := Array.any_eq_true'.1 h3
            simp only [Bool.and_eq_true, Bool.or_eq_true, beq_iff_eq] at h4
            rcases h4.2 with h5 | h5
            · rw [← h5]; exact hdep e he h4.1
            · exact rch_of hcl k e.on j h5 (hdep e he h4.1)
        refine hlast a w hb hdf hsz hsl (fun j oj d hj hne hd => hr j oj d hj (hall j (List.getElem?_eq_some_iff.1 hj).1 hne) hd) K (fun a' w' hq => hK a' w' (.inl ⟨fun j hj => ?_, hq⟩))
        by_cases hji : j = i
        · rw [hji]; exact add1_eq
        · rw [add1_ne hji]; exact hall j hj hji
      · obtain ⟨_, d, hd, hdn, hap⟩ := finC_at hfin ho hi
        have hds : d < a.tmps.size := by rw [hsz]; exact hdn
        refine hop i o ho hi a w hb hsz hsl (fun j oj d' hj hd' ⟨e, he, h3, h4⟩ => hr j oj d' hj (by rw [← h4]; exact hdep e he h3) hd') K (fun v w' hb' hR => hK _ _ (.inr ⟨?_, ?_, ?_, ?_, ?_, ?_, ?_⟩))
        · rw [add1_ne (fun e => hi e.symm)]; exact h1
        · rw [put_df]; exact hdf
        · rw [put_sz]; exact hsz
        · exact hb.trans (hb'.mono hb.size)
        · intro t ht
          rw [hd, put_of hds (fun e => by
            subst e
            have : wrB l t = true := List.any_eq_true.2 ⟨o, List.mem_of_getElem? ho, by simp [hd]⟩
            rw [this] at ht; cases ht)]
          exact hsl t ht
        · intro j oj hj hDj e he h3
          by_cases hji : j = i
          · subst hji
            rw [ho] at hj
            cases hj
            exact add1_mono (hdep e he h3)
          · rw [add1_ne hji] at hDj
            exact add1_mono (hcl j oj hj hDj e he h3)
        · intro j oj d' hj hDj hd'
          by_cases hji : j = i
          · subst hji
            rw [ho] at hj
            cases hj
            rw [hd] at hd'
            cases hd'
            rw [hd, put_at hds]
            exact hR
          · rw [add1_ne hji] at hDj
            rw [hd, put_of hds (fun e => hap j oj hj hji (by rw [hd', e]))]
            exact hmono _ _ _ _ (hr j oj d' hj hDj hd') hb'
  · intro D a w hI hall
    rcases hI with ⟨_, h⟩ | ⟨h1, _⟩
    · exact h
    · rw [hall fin (by simpa using (List.getElem?_eq_some_iff.1 hf).1)] at h1; cases h1
  · exact Nat.le_trans (List.length_filter_le _ _) (by simp)
  · have e : (fun i => (Array.replicate l.toArray.size false).getD i false) = fun _ => false := by
      funext i
      by_cases h : i < l.toArray.size <;> simp [Array.getD]
    rw [e]
    exact .inr ⟨rfl, rfl, rfl, (Below.refl _ _).drew, fun _ _ => rfl, (fun _ _ _ h => absurd h (by simp)), (fun _ _ _ _ h => absurd h (by simp))⟩
end
def En (q : List UInt8) : Prop := ∃ p c, q = p ++ [c] ∧ bk.contains c = false
theorem En.app {q : List UInt8} (a : List UInt8) (h : En q) : En (a ++ q) := by
  obtain ⟨p, c, rfl, hc⟩ := h
  exact ⟨a ++ p, c, by simp, hc⟩
theorem En.one {c : UInt8} (h : bk.contains c = false) : En [c] := ⟨[], c, rfl, h⟩
theorem En.ne {q : List UInt8} (h : En q) : q ≠ [] := by
  obtain ⟨p, c, rfl, _⟩ := h; simp
def nd (l : List UInt8) : Prop := ∀ b m, l = b :: m → dg b = false
theorem hp1 {b : UInt8} {l : List UInt8} (h : hp [b] l = true) : ∃ m, l = b :: m := by
  cases l with
  | nil => simp [hp] at h
  | cons c m => simp [hp] at h; exact ⟨m, by rw [h]⟩
theorem hpw {p l : List UInt8} (h : hp p l = true) : l = p ++ tk p l := by
  unfold hp at h
  unfold tk
  rw [if_pos h]
  obtain ⟨t, rfl⟩ := List.isPrefixOf_iff_prefix.1 h
  simp
section
variable {α : Type} {one : List UInt8 → Option (α × List UInt8)} {e : UInt8}
end
end Go.Proofs.YtdhmonlhlfkjbaaGreatDoor

namespace Go.Proofs.YtdhmonlhlfkjbaaGreatDoor
open Go.RowKit Go.Shelf

def bv (l : List UInt8) : List Value := l.map fun x => Value.int .u8 (x.toNat : Nat)
theorem bv_app (a b : List UInt8) : bv (a ++ b) = bv a ++ bv b := by simp [bv]
theorem bv_len (l : List UInt8) : (bv l).length = l.length := by simp [bv]
abbrev Ow (w : World) (B : Nat) (v : Value) (l : List UInt8) : Prop := w.ownsRow B 5 1 v l.length (bv l)
theorem Ow.bs {w : World} {B : Nat} {v : Value} {l : List UInt8} (h : Ow w B v l) : BsA w v l := by
  obtain ⟨h1, ⟨rfl, h2⟩ | ⟨g, cap, cur, rfl, hB, hg, hn, hm, hs, ht⟩⟩ := h
  · exact ⟨none, 0, by rw [h2], .inl (List.length_eq_zero_iff.1 h2)⟩
  · refine ⟨_, cap, rfl, .inr ⟨g, 0, rfl, (Array.getElem?_eq_some_iff.1 hg).1, fun j x hj => ?_⟩⟩
    simp only [World.cell?, hg]
    rw [Nat.zero_add, ← Array.getElem?_toList]
    have hjl := (List.getElem?_eq_some_iff.1 hj).1
    have e := congrArg (·[j]?) ht
    simp only [List.getElem?_take] at e
    rw [if_pos (by omega)] at e
    rw [e]
    simp [bv, hj]
theorem Ow.slc {w : World} {B : Nat} {v : Value} {l : List UInt8} (h : Ow w B v l) : ∃ a cap, v = .slice a l.length cap := by
  obtain ⟨a, cap, rfl, _⟩ := h.bs
  exact ⟨a, cap, rfl⟩
theorem Ow.later {w w' : World} {B : Nat} {v : Value} {l : List UInt8} (h : Ow w B v l) (hb : Below w.heap.size w w') : Ow w' B v l := by
  obtain ⟨h1, h2 | ⟨g, cap, cur, hv, hB, hg, r⟩⟩ := h
  · exact ⟨h1, .inl h2⟩
  · exact ⟨h1, .inr ⟨g, cap, cur, hv, hB, (hb.block g (Array.getElem?_eq_some_iff.1 hg).1).trans hg, r⟩⟩
theorem Ow.block {w : World} {B : Nat} {v : Value} {l : List UInt8} (h : Ow w B v l) : ∀ g, v.ownBlock = some g → B ≤ g := by
  obtain ⟨h1, ⟨rfl, h2⟩ | ⟨g, cap, cur, rfl, hB, _⟩⟩ := h
  · intro g e; cases e
  · intro g' e; cases e; exact hB
theorem info_u8 : (Tryz.prog.info? 5).map (fun i => (i.zero, i.size, i.bytes)) = some (some (.int .u8 0), 1, 1) := by kernel_rfl
theorem BsA.grown {w w' : World} {u : Value} {m : List UInt8} {row : Option Nat} {B : Nat} (h : BsA w u m) (hg : w.grownBy w' row) (hr : ∀ r, row = some r → B ≤ r) (hu : ∀ a n c, u = .slice (some a) n c → a.block < B) : BsA w' u m := by
  obtain ⟨a, cap, rfl, h | ⟨b, o, rfl, hb, hc⟩⟩ := h
  · exact ⟨a, cap, rfl, .inl h⟩
  · have hbB := hu _ _ _ rfl
    refine ⟨_, cap, rfl, .inr ⟨b, o, rfl, Nat.lt_of_lt_of_le hb hg.size, fun j x hj => ?_⟩⟩
    rw [World.cell?_of_block (w := w) (hg.block b hb (fun e => by have := hr b e.symm; simp at hbB; omega))]
    exact hc j x hj
section
variable {α : Type} {one : List UInt8 → Option (α × List UInt8)} {e : UInt8}
end
end Go.Proofs.YtdhmonlhlfkjbaaGreatDoor

namespace Go.Proofs.YtdhmonlhlfkjbaaGreatDoor
open Go.RowKit

end Go.Proofs.YtdhmonlhlfkjbaaGreatDoor

namespace Go.Proofs.YtdhmonlhlfkjbaaGreatDoor
open Go.ChangeShapes Go.WideShapes Go.ChangeAt Go.RowKit

section
variable {H : Type} {enc : TypeId × Value → H} {W : World} {held : Bool}
theorem five_l {α : Type} : ∀ {l : List α}, l.length = 5 → ∃ a b c d e, l = [a, b, c, d, e]
  | [a, b, c, d, e], _ => ⟨a, b, c, d, e, rfl⟩
def sbd : Nat → T → Prop
  | 0, _ => True
  | n + 1, .mk _ _ s l p => s.length ≤ 9223372036854775807 ∧ (∀ t ∈ l, sbd n t) ∧ ∀ q ∈ p, q.1.length ≤ 9223372036854775807 ∧ sbd n q.2
end
end Go.Proofs.YtdhmonlhlfkjbaaGreatDoor

namespace Go.Proofs.YtdhmonlhlfkjbaaGreatDoor
open Go.Shelf
def lays196_ren : Go.Shelf.Ren := ⟨fun | 196 => 84 | 259 => 134 | n => n, fun | 9 => 9 | 4 => 4 | 3 => 3 | 5 => 5 | 12 => 12 | 119 => 171 | 0 => 0 | 46 => 79 | 139 => 174 | 138 => 173 | 53 => 125 | n => n, fun | 3 => 1 | 4 => 2 | n => n⟩
theorem lays196 : Go.Proofs.Lays.n196 Tryz.prog lays196_ren := {
  mixed := by kernel_rfl
  f196 := Tryz.func84.trans (congrArg some (by kernel_rfl))
  f259 := Tryz.func134.trans (congrArg some (by kernel_rfl))
  t0 := Tryz.underlying0
  a0 := Tryz.isAgg0
  z0 := Tryz.sizeOf0
  v0 := Tryz.zeroValue0
  t3 := Tryz.underlying3
  a3 := Tryz.isAgg3
  z3 := Tryz.sizeOf3
  v3 := Tryz.zeroValue3
  t4 := Tryz.underlying4
  a4 := Tryz.isAgg4
  z4 := Tryz.sizeOf4
  v4 := Tryz.zeroValue4
  t5 := Tryz.underlying5
  a5 := Tryz.isAgg5
  z5 := Tryz.sizeOf5
  v5 := Tryz.zeroValue5
  t9 := Tryz.underlying9
  a9 := Tryz.isAgg9
  z9 := Tryz.sizeOf9
  v9 := Tryz.zeroValue9
  t12 := Tryz.underlying12
  a12 := Tryz.isAgg12
  z12 := Tryz.sizeOf12
  v12 := Tryz.zeroValue12
  t46 := Tryz.underlying79
  a46 := Tryz.isAgg79
  z46 := Tryz.sizeOf79
  v46 := Tryz.zeroValue79
  t53 := Tryz.underlying125
  a53 := Tryz.isAgg125
  z53 := Tryz.sizeOf125
  v53 := Tryz.zeroValue125
  t119 := Tryz.underlying171
  a119 := Tryz.isAgg171
  z119 := Tryz.sizeOf171
  t138 := Tryz.underlying173
  a138 := Tryz.isAgg173
  z138 := Tryz.sizeOf173
  v138 := Tryz.zeroValue173
  t139 := Tryz.underlying174
  a139 := Tryz.isAgg174
  z139 := Tryz.sizeOf174
  v139 := Tryz.zeroValue174
  g3 := by kernel_rfl
  g4 := by kernel_rfl }
open Go.RowKit Go.Lib in
theorem utf8_ValidString (s : ByteArray) (w : World) (hs : s.size ≤ 9223372036854775807) (hT : Lib.Utf8Tabs 1 2 w) :
    Calls Tryz.prog 84 #[.string s] w fun e w' => e = .returned (.bool (Lib.validD s.data.toList)) ∧ Below w.heap.size w w' := Any.utf8_ValidString lays196 s w hs hT
def lays260_ren : Go.Shelf.Ren := ⟨fun | 260 => 202 | n => n, fun | 9 => 9 | 21 => 21 | 3 => 3 | 4 => 4 | 5 => 5 | 119 => 171 | 0 => 0 | 46 => 79 | 139 => 174 | 138 => 173 | n => n, fun | 3 => 1 | 4 => 2 | n => n⟩
theorem lays260 : Go.Proofs.Lays.n260 Tryz.prog lays260_ren := {
  mixed := by kernel_rfl
  f260 := Tryz.func202.trans (congrArg some (by kernel_rfl))
  t0 := Tryz.underlying0
  a0 := Tryz.isAgg0
  z0 := Tryz.sizeOf0
  v0 := Tryz.zeroValue0
  t3 := Tryz.underlying3
  a3 := Tryz.isAgg3
  z3 := Tryz.sizeOf3
  v3 := Tryz.zeroValue3
  t4 := Tryz.underlying4
  a4 := Tryz.isAgg4
  z4 := Tryz.sizeOf4
  v4 := Tryz.zeroValue4
  t5 := Tryz.underlying5
  a5 := Tryz.isAgg5
  z5 := Tryz.sizeOf5
  v5 := Tryz.zeroValue5
  t9 := Tryz.underlying9
  a9 := Tryz.isAgg9
  z9 := Tryz.sizeOf9
  v9 := Tryz.zeroValue9
  t21 := Tryz.underlying21
  a21 := Tryz.isAgg21
  z21 := Tryz.sizeOf21
  v21 := Tryz.zeroValue21
  t46 := Tryz.underlying79
  a46 := Tryz.isAgg79
  z46 := Tryz.sizeOf79
  v46 := Tryz.zeroValue79
  t119 := Tryz.underlying171
  a119 := Tryz.isAgg171
  z119 := Tryz.sizeOf171
  t138 := Tryz.underlying173
  a138 := Tryz.isAgg173
  z138 := Tryz.sizeOf173
  v138 := Tryz.zeroValue173
  t139 := Tryz.underlying174
  a139 := Tryz.isAgg174
  z139 := Tryz.sizeOf174
  v139 := Tryz.zeroValue174
  g3 := by kernel_rfl
  g4 := by kernel_rfl }
end Go.Proofs.YtdhmonlhlfkjbaaGreatDoor

namespace Go.Proofs.YtdhmonlhlfkjbaaGreatDoor
open Go.RowKit

def spB (k i : Int) (s : List UInt8) (nl np : Nat) : Bool :=
  decide (i ≠ 0 ∧ k ≠ 1 ∧ k ≠ 2) || decide (s ≠ [] ∧ k ≠ 3) || decide (0 < nl ∧ k ≠ 4) || decide (0 < np ∧ k ≠ 5)
theorem spB_1 {k i : Int} {s : List UInt8} {nl np : Nat} (h : i ≠ 0 ∧ k ≠ 1 ∧ k ≠ 2) : spB k i s nl np = true := by unfold spB; rw [decide_eq_true h]; simp only [Bool.true_or]
theorem spB_2 {k i : Int} {s : List UInt8} {nl np : Nat} (h : s ≠ [] ∧ k ≠ 3) : spB k i s nl np = true := by unfold spB; rw [decide_eq_true h]; simp only [Bool.true_or, Bool.or_true]
theorem spB_3 {k i : Int} {s : List UInt8} {nl np : Nat} (h : 0 < nl ∧ k ≠ 4) : spB k i s nl np = true := by unfold spB; rw [decide_eq_true h]; simp only [Bool.true_or, Bool.or_true]
theorem spB_4 {k i : Int} {s : List UInt8} {nl np : Nat} (h : 0 < np ∧ k ≠ 5) : spB k i s nl np = true := by unfold spB; rw [decide_eq_true h]; simp only [Bool.or_true]
theorem spB_f {k i : Int} {s : List UInt8} {nl np : Nat} (h1 : ¬ (i ≠ 0 ∧ k ≠ 1 ∧ k ≠ 2)) (h2 : ¬ (s ≠ [] ∧ k ≠ 3)) (h3 : ¬ (0 < nl ∧ k ≠ 4)) (h4 : ¬ (0 < np ∧ k ≠ 5)) : spB k i s nl np = false := by unfold spB; rw [decide_eq_false h1, decide_eq_false h2, decide_eq_false h3, decide_eq_false h4]; rfl
def inR (n : Int) : Bool := decide (-9007199254740991 ≤ n ∧ n ≤ 9007199254740991)
def gd : Nat → T → Bool
  | n, .mk k i s l p => !spB k i s l.length p.length && (
    if k = 0 then true else if k = 1 then decide (i = 0 ∨ i = 1) else if k = 2 then inR i else if k = 3 then Lib.validD s
    else if k = 4 then (match n with
      | 0 => false
      | n + 1 => l.all (gd n))
    else if k = 5 then (match n with
      | 0 => false
      | n + 1 => p.all (fun q => Lib.validD q.1 && gd n q.2) && onc (p.map (·.1)))
    else false)
theorem rng_d {n : Int} {w : World} : Calls Tryz.prog 83 #[.int .i64 n] w fun e w' => e = .returned (.bool (inR n)) ∧ w' = w := by
  by_cases h1 : -9007199254740991 ≤ n
  · by_cases h2 : n ≤ 9007199254740991
    · have e : inR n = true := decide_eq_true ⟨h1, h2⟩
      rw [e]
      have d1 : decide ((-9007199254740991 : Int) ≤ n) = true := decide_eq_true h1
      have d2 : decide (n ≤ 9007199254740991) = true := decide_eq_true h2
      go_enter Tryz.func83, Tryz.ntmps83
      go_wp2
      go_ret
      exact ⟨rfl, rfl⟩
    · have e : inR n = false := decide_eq_false fun h => h2 h.2
      rw [e]
      have d1 : decide ((-9007199254740991 : Int) ≤ n) = true := decide_eq_true h1
      have d2 : decide (n ≤ 9007199254740991) = false := decide_eq_false h2
      go_enter Tryz.func83, Tryz.ntmps83
      go_wp2
      go_ret
      exact ⟨rfl, rfl⟩
  · have e : inR n = false := decide_eq_false fun h => h1 h.1
    rw [e]
    have d1 : decide ((-9007199254740991 : Int) ≤ n) = false := decide_eq_false h1
    go_enter Tryz.func83, Tryz.ntmps83
    go_wp2
    go_ret
    exact ⟨rfl, rfl⟩
theorem RwA.slc {F : Nat → Prop} {w : World} {e : TypeId} {z : Nat} {v : Value} {cs : List (List Value)} (h : RwA F w e z v cs) : ∃ a cap, v = .slice a cs.length cap := by
  obtain ⟨_, ⟨a, cap, h1, h2⟩ | ⟨b, o, cap, cur, fz, h1, _⟩⟩ := h
  · exact ⟨a, cap, by rw [h1, h2]; rfl⟩
  · exact ⟨_, cap, h1⟩
theorem st_no {s : List UInt8} : (st s).toList = [] ↔ s = [] := by
  have h := st_eq s []
  have e : (st []).toList = [] := by kernel_rfl
  rw [e] at h
  by_cases hs : s = []
  · subst hs; simp [e]
  · rw [decide_eq_false hs] at h
    simp only [hs, iff_false]
    intro h2
    rw [h2] at h
    cases h
theorem kinds (k : Int) : k = 1 ∨ k = 2 ∨ k = 3 ∨ k = 4 ∨ k = 5 ∨ (k ≠ 1 ∧ k ≠ 2 ∧ k ≠ 3 ∧ k ≠ 4 ∧ k ≠ 5) := by omega
set_option maxHeartbeats 8000000 in
set_option maxRecDepth 100000 in
theorem spare_1 {i : Int} {s : List UInt8} {sa pa : Option Addr} {nl np sc pc : Nat} {w : World} : Calls Tryz.prog 82 #[.agg #[.int .i64 1, .int .i64 i, .string (st s), .slice sa nl sc, .slice pa np pc]] w fun e w' => e = .returned (.bool (spB 1 i s nl np)) ∧ Below w.heap.size w w' := by
  obtain ⟨B, hB⟩ : ∃ B, Hid (B = spB 1 i s nl np) := ⟨_, hide1 rfl⟩
  rw [← hB.out]
  have hbl : Hid (Below w.heap.size w (w.alloc (.cells #[.int .i64 (1), .int .i64 i, .string (st s), .slice sa nl sc, .slice pa np pc] 55))) := hide1 ((Below.refl _ _).alloc (Nat.le_refl _) _)
  by_cases hi : i = 0
  · have di : (i != 0) = false := by simpa using hi
    by_cases hs : s = []
    · have ds : (st s).toList = [] := st_no.2 hs
      by_cases hl : nl = 0
      · have dl : ¬ 0 < nl := by omega
        by_cases hp : np = 0
        · have dp : ¬ 0 < np := by omega
          have hE : Hid (B = false) := hide1 (hB.out.trans (spB_f (by omega) (fun h => h.1 hs) (by omega) (by omega)))
          clear hB hi hs hl hp
          go_enter Tryz.func82, Tryz.ntmps82
          go_wp2
          go_ret
          exact ⟨by rw [hE.out]; rfl, hbl.out⟩
        · have dp : 0 < np := by omega
          have hE : Hid (B = true) := hide1 (hB.out.trans (spB_4 ⟨by omega, by omega⟩))
          clear hB hi hs hl hp
          go_enter Tryz.func82, Tryz.ntmps82
          go_wp2
          go_ret
          exact ⟨by rw [hE.out]; rfl, hbl.out⟩
      · have dl : 0 < nl := by omega
        have hE : Hid (B = true) := hide1 (hB.out.trans (spB_3 ⟨by omega, by omega⟩))
        clear hB hi hs hl
        go_enter Tryz.func82, Tryz.ntmps82
        go_wp2
        go_ret
        exact ⟨by rw [hE.out]; rfl, hbl.out⟩
    · have ds : ¬ (st s).toList = [] := fun h => hs (st_no.1 h)
      have hE : Hid (B = true) := hide1 (hB.out.trans (spB_2 ⟨hs, by omega⟩))
      clear hB hi hs
      go_enter Tryz.func82, Tryz.ntmps82
      go_wp2
      go_ret
      exact ⟨by rw [hE.out]; rfl, hbl.out⟩
  · have di : (i != 0) = true := by simpa using hi
    by_cases hs : s = []
    · have ds : (st s).toList = [] := st_no.2 hs
      by_cases hl : nl = 0
      · have dl : ¬ 0 < nl := by omega
        by_cases hp : np = 0
        · have dp : ¬ 0 < np := by omega
          have hE : Hid (B = false) := hide1 (hB.out.trans (spB_f (by omega) (fun h => h.1 hs) (by omega) (by omega)))
          clear hB hi hs hl hp
          go_enter Tryz.func82, Tryz.ntmps82
          go_wp2
          go_ret
          exact ⟨by rw [hE.out]; rfl, hbl.out⟩
        · have dp : 0 < np := by omega
          have hE : Hid (B = true) := hide1 (hB.out.trans (spB_4 ⟨by omega, by omega⟩))
          clear hB hi hs hl hp
          go_enter Tryz.func82, Tryz.ntmps82
          go_wp2
          go_ret
          exact ⟨by rw [hE.out]; rfl, hbl.out⟩
      · have dl : 0 < nl := by omega
        have hE : Hid (B = true) := hide1 (hB.out.trans (spB_3 ⟨by omega, by omega⟩))
        clear hB hi hs hl
        go_enter Tryz.func82, Tryz.ntmps82
        go_wp2
        go_ret
        exact ⟨by rw [hE.out]; rfl, hbl.out⟩
    · have ds : ¬ (st s).toList = [] := fun h => hs (st_no.1 h)
      have hE : Hid (B = true) := hide1 (hB.out.trans (spB_2 ⟨hs, by omega⟩))
      clear hB hi hs
      go_enter Tryz.func82, Tryz.ntmps82
      go_wp2
      go_ret
      exact ⟨by rw [hE.out]; rfl, hbl.out⟩
set_option maxHeartbeats 8000000 in
set_option maxRecDepth 100000 in
theorem spare_2 {i : Int} {s : List UInt8} {sa pa : Option Addr} {nl np sc pc : Nat} {w : World} : Calls Tryz.prog 82 #[.agg #[.int .i64 2, .int .i64 i, .string (st s), .slice sa nl sc, .slice pa np pc]] w fun e w' => e = .returned (.bool (spB 2 i s nl np)) ∧ Below w.heap.size w w' := by
  obtain ⟨B, hB⟩ : ∃ B, Hid (B = spB 2 i s nl np) := ⟨_, hide1 rfl⟩
  rw [← hB.out]
  have hbl : Hid (Below w.heap.size w (w.alloc (.cells #[.int .i64 (2), .int .i64 i, .string (st s), .slice sa nl sc, .slice pa np pc] 55))) := hide1 ((Below.refl _ _).alloc (Nat.le_refl _) _)
  by_cases hi : i = 0
  · have di : (i != 0) = false := by simpa using hi
    by_cases hs : s = []
    · have ds : (st s).toList = [] := st_no.2 hs
      by_cases hl : nl = 0
      · have dl : ¬ 0 < nl := by omega
        by_cases hp : np = 0
        · have dp : ¬ 0 < np := by omega
          have hE : Hid (B = false) := hide1 (hB.out.trans (spB_f (by omega) (fun h => h.1 hs) (by omega) (by omega)))
          clear hB hi hs hl hp
          go_enter Tryz.func82, Tryz.ntmps82
          go_wp2
          go_ret
          exact ⟨by rw [hE.out]; rfl, hbl.out⟩
        · have dp : 0 < np := by omega
          have hE : Hid (B = true) := hide1 (hB.out.trans (spB_4 ⟨by omega, by omega⟩))
          clear hB hi hs hl hp
          go_enter Tryz.func82, Tryz.ntmps82
          go_wp2
          go_ret
          exact ⟨by rw [hE.out]; rfl, hbl.out⟩
      · have dl : 0 < nl := by omega
        have hE : Hid (B = true) := hide1 (hB.out.trans (spB_3 ⟨by omega, by omega⟩))
        clear hB hi hs hl
        go_enter Tryz.func82, Tryz.ntmps82
        go_wp2
        go_ret
        exact ⟨by rw [hE.out]; rfl, hbl.out⟩
    · have ds : ¬ (st s).toList = [] := fun h => hs (st_no.1 h)
      have hE : Hid (B = true) := hide1 (hB.out.trans (spB_2 ⟨hs, by omega⟩))
      clear hB hi hs
      go_enter Tryz.func82, Tryz.ntmps82
      go_wp2
      go_ret
      exact ⟨by rw [hE.out]; rfl, hbl.out⟩
  · have di : (i != 0) = true := by simpa using hi
    by_cases hs : s = []
    · have ds : (st s).toList = [] := st_no.2 hs
      by_cases hl : nl = 0
      · have dl : ¬ 0 < nl := by omega
        by_cases hp : np = 0
        · have dp : ¬ 0 < np := by omega
          have hE : Hid (B = false) := hide1 (hB.out.trans (spB_f (by omega) (fun h => h.1 hs) (by omega) (by omega)))
          clear hB hi hs hl hp
          go_enter Tryz.func82, Tryz.ntmps82
          go_wp2
          go_ret
          exact ⟨by rw [hE.out]; rfl, hbl.out⟩
        · have dp : 0 < np := by omega
          have hE : Hid (B = true) := hide1 (hB.out.trans (spB_4 ⟨by omega, by omega⟩))
          clear hB hi hs hl hp
          go_enter Tryz.func82, Tryz.ntmps82
          go_wp2
          go_ret
          exact ⟨by rw [hE.out]; rfl, hbl.out⟩
      · have dl : 0 < nl := by omega
        have hE : Hid (B = true) := hide1 (hB.out.trans (spB_3 ⟨by omega, by omega⟩))
        clear hB hi hs hl
        go_enter Tryz.func82, Tryz.ntmps82
        go_wp2
        go_ret
        exact ⟨by rw [hE.out]; rfl, hbl.out⟩
    · have ds : ¬ (st s).toList = [] := fun h => hs (st_no.1 h)
      have hE : Hid (B = true) := hide1 (hB.out.trans (spB_2 ⟨hs, by omega⟩))
      clear hB hi hs
      go_enter Tryz.func82, Tryz.ntmps82
      go_wp2
      go_ret
      exact ⟨by rw [hE.out]; rfl, hbl.out⟩
set_option maxHeartbeats 8000000 in
set_option maxRecDepth 100000 in
theorem spare_3 {i : Int} {s : List UInt8} {sa pa : Option Addr} {nl np sc pc : Nat} {w : World} : Calls Tryz.prog 82 #[.agg #[.int .i64 3, .int .i64 i, .string (st s), .slice sa nl sc, .slice pa np pc]] w fun e w' => e = .returned (.bool (spB 3 i s nl np)) ∧ Below w.heap.size w w' := by
  obtain ⟨B, hB⟩ : ∃ B, Hid (B = spB 3 i s nl np) := ⟨_, hide1 rfl⟩
  rw [← hB.out]
  have hbl : Hid (Below w.heap.size w (w.alloc (.cells #[.int .i64 (3), .int .i64 i, .string (st s), .slice sa nl sc, .slice pa np pc] 55))) := hide1 ((Below.refl _ _).alloc (Nat.le_refl _) _)
  by_cases hi : i = 0
  · have di : (i != 0) = false := by simpa using hi
    by_cases hs : s = []
    · have ds : (st s).toList = [] := st_no.2 hs
      by_cases hl : nl = 0
      · have dl : ¬ 0 < nl := by omega
        by_cases hp : np = 0
        · have dp : ¬ 0 < np := by omega
          have hE : Hid (B = false) := hide1 (hB.out.trans (spB_f (by omega) (fun h => h.1 hs) (by omega) (by omega)))
          clear hB hi hs hl hp
          go_enter Tryz.func82, Tryz.ntmps82
          go_wp2
          go_ret
          exact ⟨by rw [hE.out]; rfl, hbl.out⟩
        · have dp : 0 < np := by omega
          have hE : Hid (B = true) := hide1 (hB.out.trans (spB_4 ⟨by omega, by omega⟩))
          clear hB hi hs hl hp
          go_enter Tryz.func82, Tryz.ntmps82
          go_wp2
          go_ret
          exact ⟨by rw [hE.out]; rfl, hbl.out⟩
      · have dl : 0 < nl := by omega
        have hE : Hid (B = true) := hide1 (hB.out.trans (spB_3 ⟨by omega, by omega⟩))
        clear hB hi hs hl
        go_enter Tryz.func82, Tryz.ntmps82
        go_wp2
        go_ret
        exact ⟨by rw [hE.out]; rfl, hbl.out⟩
    · have ds : ¬ (st s).toList = [] := fun h => hs (st_no.1 h)
      by_cases hl : nl = 0
      · have dl : ¬ 0 < nl := by omega
        by_cases hp : np = 0
        · have dp : ¬ 0 < np := by omega
          have hE : Hid (B = false) := hide1 (hB.out.trans (spB_f (by omega) (fun h => h.2 rfl) (by omega) (by omega)))
          clear hB hi hs hl hp
          go_enter Tryz.func82, Tryz.ntmps82
          go_wp2
          go_ret
          exact ⟨by rw [hE.out]; rfl, hbl.out⟩
        · have dp : 0 < np := by omega
          have hE : Hid (B = true) := hide1 (hB.out.trans (spB_4 ⟨by omega, by omega⟩))
          clear hB hi hs hl hp
          go_enter Tryz.func82, Tryz.ntmps82
          go_wp2
          go_ret
          exact ⟨by rw [hE.out]; rfl, hbl.out⟩
      · have dl : 0 < nl := by omega
        have hE : Hid (B = true) := hide1 (hB.out.trans (spB_3 ⟨by omega, by omega⟩))
        clear hB hi hs hl
        go_enter Tryz.func82, Tryz.ntmps82
        go_wp2
        go_ret
        exact ⟨by rw [hE.out]; rfl, hbl.out⟩
  · have di : (i != 0) = true := by simpa using hi
    have hE : Hid (B = true) := hide1 (hB.out.trans (spB_1 ⟨hi, by omega, by omega⟩))
    clear hB hi
    go_enter Tryz.func82, Tryz.ntmps82
    go_wp2
    go_ret
    exact ⟨by rw [hE.out]; rfl, hbl.out⟩
set_option maxHeartbeats 8000000 in
set_option maxRecDepth 100000 in
theorem spare_4 {i : Int} {s : List UInt8} {sa pa : Option Addr} {nl np sc pc : Nat} {w : World} : Calls Tryz.prog 82 #[.agg #[.int .i64 4, .int .i64 i, .string (st s), .slice sa nl sc, .slice pa np pc]] w fun e w' => e = .returned (.bool (spB 4 i s nl np)) ∧ Below w.heap.size w w' := by
  obtain ⟨B, hB⟩ : ∃ B, Hid (B = spB 4 i s nl np) := ⟨_, hide1 rfl⟩
  rw [← hB.out]
  have hbl : Hid (Below w.heap.size w (w.alloc (.cells #[.int .i64 (4), .int .i64 i, .string (st s), .slice sa nl sc, .slice pa np pc] 55))) := hide1 ((Below.refl _ _).alloc (Nat.le_refl _) _)
  by_cases hi : i = 0
  · have di : (i != 0) = false := by simpa using hi
    by_cases hs : s = []
    · have ds : (st s).toList = [] := st_no.2 hs
      by_cases hl : nl = 0
      · have dl : ¬ 0 < nl := by omega
        by_cases hp : np = 0
        · have dp : ¬ 0 < np := by omega
          have hE : Hid (B = false) := hide1 (hB.out.trans (spB_f (by omega) (fun h => h.1 hs) (by omega) (by omega)))
          clear hB hi hs hl hp
          go_enter Tryz.func82, Tryz.ntmps82
          go_wp2
          go_ret
          exact ⟨by rw [hE.out]; rfl, hbl.out⟩
        · have dp : 0 < np := by omega
          have hE : Hid (B = true) := hide1 (hB.out.trans (spB_4 ⟨by omega, by omega⟩))
          clear hB hi hs hl hp
          go_enter Tryz.func82, Tryz.ntmps82
          go_wp2
          go_ret
          exact ⟨by rw [hE.out]; rfl, hbl.out⟩
      · have dl : 0 < nl := by omega
        by_cases hp : np = 0
        · have dp : ¬ 0 < np := by omega
          have hE : Hid (B = false) := hide1 (hB.out.trans (spB_f (by omega) (fun h => h.1 hs) (by omega) (by omega)))
          clear hB hi hs hl hp
          go_enter Tryz.func82, Tryz.ntmps82
          go_wp2
          go_ret
          exact ⟨by rw [hE.out]; rfl, hbl.out⟩
        · have dp : 0 < np := by omega
          have hE : Hid (B = true) := hide1 (hB.out.trans (spB_4 ⟨by omega, by omega⟩))
          clear hB hi hs hl hp
          go_enter Tryz.func82, Tryz.ntmps82
          go_wp2
          go_ret
          exact ⟨by rw [hE.out]; rfl, hbl.out⟩
    · have ds : ¬ (st s).toList = [] := fun h => hs (st_no.1 h)
      have hE : Hid (B = true) := hide1 (hB.out.trans (spB_2 ⟨hs, by omega⟩))
      clear hB hi hs
      go_enter Tryz.func82, Tryz.ntmps82
      go_wp2
      go_ret
      exact ⟨by rw [hE.out]; rfl, hbl.out⟩
  · have di : (i != 0) = true := by simpa using hi
    have hE : Hid (B = true) := hide1 (hB.out.trans (spB_1 ⟨hi, by omega, by omega⟩))
    clear hB hi
    go_enter Tryz.func82, Tryz.ntmps82
    go_wp2
    go_ret
    exact ⟨by rw [hE.out]; rfl, hbl.out⟩
set_option maxHeartbeats 8000000 in
set_option maxRecDepth 100000 in
theorem spare_5 {i : Int} {s : List UInt8} {sa pa : Option Addr} {nl np sc pc : Nat} {w : World} : Calls Tryz.prog 82 #[.agg #[.int .i64 5, .int .i64 i, .string (st s), .slice sa nl sc, .slice pa np pc]] w fun e w' => e = .returned (.bool (spB 5 i s nl np)) ∧ Below w.heap.size w w' := by
  obtain ⟨B, hB⟩ : ∃ B, Hid (B = spB 5 i s nl np) := ⟨_, hide1 rfl⟩
  rw [← hB.out]
  have hbl : Hid (Below w.heap.size w (w.alloc (.cells #[.int .i64 (5), .int .i64 i, .string (st s), .slice sa nl sc, .slice pa np pc] 55))) := hide1 ((Below.refl _ _).alloc (Nat.le_refl _) _)
  by_cases hi : i = 0
  · have di : (i != 0) = false := by simpa using hi
    by_cases hs : s = []
    · have ds : (st s).toList = [] := st_no.2 hs
      by_cases hl : nl = 0
      · have dl : ¬ 0 < nl := by omega
        by_cases hp : np = 0
        · have dp : ¬ 0 < np := by omega
          have hE : Hid (B = false) := hide1 (hB.out.trans (spB_f (by omega) (fun h => h.1 hs) (by omega) (by omega)))
          clear hB hi hs hl hp
          go_enter Tryz.func82, Tryz.ntmps82
          go_wp2
          go_ret
          exact ⟨by rw [hE.out]; rfl, hbl.out⟩
        · have dp : 0 < np := by omega
          have hE : Hid (B = false) := hide1 (hB.out.trans (spB_f (by omega) (fun h => h.1 hs) (by omega) (by omega)))
          clear hB hi hs hl hp
          go_enter Tryz.func82, Tryz.ntmps82
          go_wp2
          go_ret
          exact ⟨by rw [hE.out]; rfl, hbl.out⟩
      · have dl : 0 < nl := by omega
        have hE : Hid (B = true) := hide1 (hB.out.trans (spB_3 ⟨by omega, by omega⟩))
        clear hB hi hs hl
        go_enter Tryz.func82, Tryz.ntmps82
        go_wp2
        go_ret
        exact ⟨by rw [hE.out]; rfl, hbl.out⟩
    · have ds : ¬ (st s).toList = [] := fun h => hs (st_no.1 h)
      have hE : Hid (B = true) := hide1 (hB.out.trans (spB_2 ⟨hs, by omega⟩))
      clear hB hi hs
      go_enter Tryz.func82, Tryz.ntmps82
      go_wp2
      go_ret
      exact ⟨by rw [hE.out]; rfl, hbl.out⟩
  · have di : (i != 0) = true := by simpa using hi
    have hE : Hid (B = true) := hide1 (hB.out.trans (spB_1 ⟨hi, by omega, by omega⟩))
    clear hB hi
    go_enter Tryz.func82, Tryz.ntmps82
    go_wp2
    go_ret
    exact ⟨by rw [hE.out]; rfl, hbl.out⟩
set_option maxHeartbeats 8000000 in
set_option maxRecDepth 100000 in
theorem spare_o {k i : Int} {s : List UInt8} {sa pa : Option Addr} {nl np sc pc : Nat} {w : World} (k1 : k ≠ 1) (k2 : k ≠ 2) (k3 : k ≠ 3) (k4 : k ≠ 4) (k5 : k ≠ 5) : Calls Tryz.prog 82 #[.agg #[.int .i64 k, .int .i64 i, .string (st s), .slice sa nl sc, .slice pa np pc]] w fun e w' => e = .returned (.bool (spB k i s nl np)) ∧ Below w.heap.size w w' := by
  obtain ⟨B, hB⟩ : ∃ B, Hid (B = spB k i s nl np) := ⟨_, hide1 rfl⟩
  rw [← hB.out]
  have hbl : Hid (Below w.heap.size w (w.alloc (.cells #[.int .i64 k, .int .i64 i, .string (st s), .slice sa nl sc, .slice pa np pc] 55))) := hide1 ((Below.refl _ _).alloc (Nat.le_refl _) _)
  have d1 : (k != 1) = true := by simpa using k1
  have d2 : (k != 2) = true := by simpa using k2
  have d3 : (k != 3) = true := by simpa using k3
  have d4 : (k != 4) = true := by simpa using k4
  have d5 : (k != 5) = true := by simpa using k5
  by_cases hi : i = 0
  · have di : (i != 0) = false := by simpa using hi
    by_cases hs : s = []
    · have ds : (st s).toList = [] := st_no.2 hs
      by_cases hl : nl = 0
      · have dl : ¬ 0 < nl := by omega
        by_cases hp : np = 0
        · have dp : ¬ 0 < np := by omega
          have hE : Hid (B = false) := hide1 (hB.out.trans (spB_f (by omega) (fun h => h.1 hs) (by omega) (by omega)))
          clear hB hi hs hl hp
          go_enter Tryz.func82, Tryz.ntmps82
          go_wp2
          go_ret
          exact ⟨by rw [hE.out]; rfl, hbl.out⟩
        · have dp : 0 < np := by omega
          have hE : Hid (B = true) := hide1 (hB.out.trans (spB_4 ⟨by omega, by omega⟩))
          clear hB hi hs hl hp
          go_enter Tryz.func82, Tryz.ntmps82
          go_wp2
          go_ret
          exact ⟨by rw [hE.out]; rfl, hbl.out⟩
      · have dl : 0 < nl := by omega
        have hE : Hid (B = true) := hide1 (hB.out.trans (spB_3 ⟨by omega, by omega⟩))
        clear hB hi hs hl
        go_enter Tryz.func82, Tryz.ntmps82
        go_wp2
        go_ret
        exact ⟨by rw [hE.out]; rfl, hbl.out⟩
    · have ds : ¬ (st s).toList = [] := fun h => hs (st_no.1 h)
      have hE : Hid (B = true) := hide1 (hB.out.trans (spB_2 ⟨hs, by omega⟩))
      clear hB hi hs
      go_enter Tryz.func82, Tryz.ntmps82
      go_wp2
      go_ret
      exact ⟨by rw [hE.out]; rfl, hbl.out⟩
  · have di : (i != 0) = true := by simpa using hi
    have hE : Hid (B = true) := hide1 (hB.out.trans (spB_1 ⟨hi, by omega, by omega⟩))
    clear hB hi
    go_enter Tryz.func82, Tryz.ntmps82
    go_wp2
    go_ret
    exact ⟨by rw [hE.out]; rfl, hbl.out⟩
theorem spare_d {k i : Int} {s : List UInt8} {sa pa : Option Addr} {nl np sc pc : Nat} {w : World} : Calls Tryz.prog 82 #[.agg #[.int .i64 k, .int .i64 i, .string (st s), .slice sa nl sc, .slice pa np pc]] w fun e w' => e = .returned (.bool (spB k i s nl np)) ∧ Below w.heap.size w w' := by
  rcases kinds k with rfl | rfl | rfl | rfl | rfl | ⟨k1, k2, k3, k4, k5⟩
  · exact spare_1
  · exact spare_2
  · exact spare_3
  · exact spare_4
  · exact spare_5
  · exact spare_o k1 k2 k3 k4 k5
def AnI (w : World) (b : Bool) (e : Ending) (w' : World) : Prop := ∃ n : Int, e = .returned (.int .i64 n) ∧ (decide (n ≥ 0) = b) ∧ -1 ≤ n ∧ n ≤ 1000000 ∧ Below w.heap.size w w'
theorem any_take {f : T → Bool} {l : List T} {i : Nat} {u : T} (hu : l[i]? = some u) (h : (l.take i).any f = false) : (l.take (i + 1)).any f = f u := by
  rw [List.take_add_one, hu, List.any_append, h]
  simp
theorem any_of {f : T → Bool} {l : List T} {i : Nat} (h : (l.take i).any f = true) : l.any f = true := by
  rw [← List.take_append_drop i l, List.any_append, h]; rfl
set_option maxHeartbeats 8000000 in
set_option maxRecDepth 100000 in
theorem idx_d {K : Nat} {cap : Array Value} (he : ∀ args w, (callFunc K args).run Tryz.prog w = .ok (.enter K args) w) {f : T → Bool} {F : Nat → Prop} {w : World} {v : Value} {l : List T} {cl : List (List Value)} (r : RwA F w Vt 5 v cl) (hl : cl.length = l.length) (hb : cl.length ≤ 1000000)
    (hf : ∀ w', Below w.heap.size w w' → ∀ (j : Nat) (t : T) (c : List Value), l[j]? = some t → cl[j]? = some c → Calls Tryz.prog K (#[.agg c.toArray] ++ cap) w' fun e w2 => e = .returned (.bool (f t)) ∧ Below w'.heap.size w' w2) :
    Calls Tryz.prog 175 #[v, .func (.func K) #[] cap] w (AnI w (l.any f)) := by
  obtain ⟨sa, sc, rfl⟩ := r.slc
  replace r := hide1 r
  replace hf := hide1 hf
  replace hl := hide1 hl
  obtain ⟨B, hB⟩ : ∃ B, Hid (B = l.any f) := ⟨_, hide1 rfl⟩
  rw [← hB.out]
  go_enter Tryz.func175, Tryz.ntmps175
  go_wp2_with fail
  go_loopw [8] (fun x wr => ∃ i : Nat, x = .int .i64 (i : Nat) ∧ i ≤ cl.length ∧ Hid ((l.take i).any f = false) ∧ Hid (Below w.heap.size w wr)) (fun x _ => cl.length - (intOf x).toNat)
  case atStart => exact ⟨0, rfl, by omega, hide1 rfl, hide1 (Below.refl _ _)⟩
  case round =>
    obtain ⟨i, rfl, hin, hme, hbw⟩ := hrel
    by_cases hlt : i < cl.length
    · obtain ⟨x, hx⟩ : ∃ x, cl[i]? = some x := ⟨_, List.getElem?_eq_getElem hlt⟩
      obtain ⟨u, hu⟩ : ∃ u, l[i]? = some u := ⟨_, List.getElem?_eq_getElem (by have := hl.out; omega)⟩
      obtain ⟨b, o, cap', hve, -, hbl, hr⟩ := r.out.at hx
      have hva : sa = some ⟨b, o, none⟩ := by cases hve; rfl
      subst hva
      have hx5 := r.out.1 x (List.mem_of_getElem? hx)
      obtain ⟨x0, x1, x2, x3, x4, rfl⟩ : ∃ x0 x1 x2 x3 x4, x = [x0, x1, x2, x3, x4] := by
        match x, hx5 with
        | [x0, x1, x2, x3, x4], _ => exact ⟨x0, x1, x2, x3, x4, rfl⟩
      have hr2 : wr.rangeAt b (o + i * 5) [x0, x1, x2, x3, x4] := fun j v hj => by
        rw [World.cell?_of_block (w := w) (hbw.out.block b hbl)]
        exact hr j v hj
      have hc := hf.out wr hbw.out i u _ hu hx
      have hms := hide1 (any_take hu hme.out)
      clear hve hr hx hx5 hme hu
      go_wp2_with (refine wpList_load_mid rfl 55 (.tmp 14) rfl b (o + i * 5) rfl [x0, x1, x2, x3, x4] _ hr2 Tryz.underlying55 rfl (by kernel_rfl) ?_)
      refine hc.mono ?_
      rintro e w2 ⟨rfl, b2⟩
      have hb2 := hide1 (hbw.out.trans (b2.mono hbw.out.size))
      clear hc b2 hbw hr2
      cases hq : f u with
      | true =>
        have hfin : Hid (AnI w B (.returned (.int .i64 (i : Nat))) w2) := hide1 ⟨i, rfl, by rw [hB.out, any_of (hms.out.trans hq)]; exact decide_eq_true (by omega), by omega, by omega, hb2.out⟩
        clear hms hq hB
        go_wp2
        go_ret
        exact hfin.out
      | false =>
        replace hms := hide1 (hms.out.trans hq)
        clear hq
        go_wp2
        go_roundw
        case rel => exact ⟨i + 1, rfl, by omega, hms, hb2⟩
        case measure => simp [intOf]; omega
    · have hfin : Hid (AnI w B (.returned (.int .i64 (-1))) wr) := hide1 ⟨-1, rfl, by
        rw [hB.out]
        have := hme.out
        rw [List.take_of_length_le (by have := hl.out; omega)] at this
        rw [this]; rfl, by omega, by omega, hbw.out⟩
      have hie : i = cl.length := by omega
      subst hie
      clear hme hbw hlt hB
      go_wp2
      go_ret
      exact hfin.out
theorem cont_d {K : Nat} {cap : Array Value} (he : ∀ args w, (callFunc K args).run Tryz.prog w = .ok (.enter K args) w) {f : T → Bool} {F : Nat → Prop} {w : World} {v : Value} {l : List T} {cl : List (List Value)} (r : RwA F w Vt 5 v cl) (hl : cl.length = l.length) (hb : cl.length ≤ 1000000)
    (hf : ∀ w', Below w.heap.size w w' → ∀ (j : Nat) (t : T) (c : List Value), l[j]? = some t → cl[j]? = some c → Calls Tryz.prog K (#[.agg c.toArray] ++ cap) w' fun e w2 => e = .returned (.bool (f t)) ∧ Below w'.heap.size w' w2) :
    Calls Tryz.prog 135 #[v, .func (.func K) #[] cap] w fun e w' => e = .returned (.bool (l.any f)) ∧ Below w.heap.size w w' := by
  have hi := idx_d he r hl hb hf
  clear r hf hl hb
  generalize l.any f = B at *
  go_enter Tryz.func135, Tryz.ntmps135
  go_wp2_with fail
  refine hi.mono ?_
  rintro e w1 ⟨n, rfl, hn, _, _, b1⟩
  replace b1 := hide1 b1
  clear hi
  cases B with
  | true =>
    have hn' : n ≥ 0 := of_decide_eq_true hn
    go_wp2
    go_ret
    exact ⟨rfl, b1.out⟩
  | false =>
    have hn' : ¬ n ≥ 0 := of_decide_eq_false hn
    go_wp2
    go_ret
    exact ⟨rfl, b1.out⟩
def Sok (n : Nat) : Prop := ∀ {F : Nat → Prop} {w : World} {t : T} {c : List Value} {h : Nat}, hgt h t → sbd h t → VA F w t c → Ev w → 8 ≤ w.heap.size → Calls Tryz.prog 44 #[.agg c.toArray, .int .i64 (8 - n : Nat)] w fun e w' => e = .returned (.bool (gd n t)) ∧ Below w.heap.size w w'
theorem snd1_d {n h b : Nat} (ih : Sok n) {F : Nat → Prop} {w : World} {t : T} {c : List Value} (hh : hgt h t) (hs : sbd h t) (hv : VA F w t c) (hT : Ev w) (h8 : 8 ≤ w.heap.size) (hb : w.heap[b]? = some (.cells #[.int .i64 (8 - n : Nat)] 3 (0, 0))) :
    Calls Tryz.prog 136 (#[.agg c.toArray] ++ #[.pointer (some ⟨b, 0, none⟩)]) w fun e w' => e = .returned (.bool (!gd n t)) ∧ Below w.heap.size w w' := by
  have hc5 := hv.len
  obtain ⟨y0, y1, y2, y3, y4, rfl⟩ := five_l hc5
  have hb0 : Below w.heap.size w (w.alloc (.cells #[y0, y1, y2, y3, y4] 55)) := (Below.refl _ _).alloc (Nat.le_refl _) _
  have hbl := (Array.getElem?_eq_some_iff.1 hb).1
  have hcb : (w.alloc (.cells #[y0, y1, y2, y3, y4] 55)).cell? ⟨b, 0, none⟩ = some (.int .i64 (8 - n : Nat)) := by
    have := (hb0.block b hbl).trans hb
    simp only [World.cell?, this]; rfl
  have hc := ih (c := [y0, y1, y2, y3, y4]) hh hs (hv.frame (fun j _ hj => hb0.block j hj) (fun _ h _ => h)) (hT.below hb0 (by omega)) (by have := hb0.size; omega)
  replace hb0 := hide1 hb0
  generalize gd n t = B at *
  generalize ((8 - n : Nat) : Int) = D at *
  clear hv hT hb hc5 ih hh hs
  show Calls Tryz.prog 136 #[.agg #[y0, y1, y2, y3, y4], .pointer (some ⟨b, 0, none⟩)] w _
  go_enter Tryz.func136, Tryz.ntmps136
  go_wp2_with fail
  refine hc.mono ?_
  rintro e w1 ⟨rfl, b1⟩
  replace b1 := hide1 (hb0.out.trans (b1.mono hb0.out.size))
  clear hc hb0
  go_wp2
  go_ret
  exact ⟨rfl, b1.out⟩
theorem any_all {f : T → Bool} : ∀ l : List T, (!l.any fun t => !f t) = l.all f
  | [] => rfl
  | a :: l => by
    have := any_all (f := f) l
    simp only [List.any_cons, List.all_cons]
    rw [← this]
    cases f a <;> simp
set_option maxRecDepth 100000 in
theorem sndL_d {n h : Nat} (ih : Sok n) {F : Nat → Prop} {w : World} {v : Value} {l : List T} {cl : List (List Value)} (r : RwA F w Vt 5 v cl) (hl : cl.length = l.length) (hb : cl.length ≤ 1000000) (hh : ∀ t ∈ l, hgt h t) (hs : ∀ t ∈ l, sbd h t)
    (hv : ∀ (j : Nat) (t : T) (c : List Value), l[j]? = some t → cl[j]? = some c → VA F w t c) (hT : Ev w) (h8 : 8 ≤ w.heap.size) :
    Calls Tryz.prog 85 #[v, .int .i64 (8 - n : Nat)] w fun e w' => e = .returned (.bool (l.all (gd n))) ∧ Below w.heap.size w w' := by
  obtain ⟨w1, hw1⟩ : ∃ w1, w1 = w.alloc (.cells #[.int .i64 (8 - n : Nat)] 3) := ⟨_, rfl⟩
  have hb0 : Below w.heap.size w w1 := by rw [hw1]; exact (Below.refl _ _).alloc (Nat.le_refl _) _
  have hbx : w1.heap[w.heap.size]? = some (.cells #[.int .i64 (8 - n : Nat)] 3 (0, 0)) := by
    rw [hw1]
    show (w.heap.push _)[w.heap.size]? = _
    rw [Array.getElem?_push, if_pos rfl]
  have hc := cont_d (K := 136) (cap := #[.pointer (some ⟨w.heap.size, 0, none⟩)]) (f := fun t => !gd n t) (fun _ _ => by kernel_rfl) (r.frame (w' := w1) (G := F) (fun j _ hj => hb0.block j hj) (fun _ h _ => h)) hl hb (fun w' hb' j t c h1 h2 =>
    snd1_d ih (hh t (List.mem_of_getElem? h1)) (hs t (List.mem_of_getElem? h1)) ((hv j t c h1 h2).frame (w' := w') (G := F) (fun k _ hk => (hb'.block k (Nat.lt_of_lt_of_le hk hb0.size)).trans (hb0.block k hk)) (fun _ h _ => h)) ((hT.below hb0 (by omega)).below hb' (by have := hb0.size; omega)) (by have := hb0.size; have := hb'.size; omega) ((hb'.block _ (Array.getElem?_eq_some_iff.1 hbx).1).trans hbx))
  have ha := any_all (f := gd n) l
  obtain ⟨sa, sc, rfl⟩ := r.slc
  replace hb0 := hide1 hb0
  rw [← ha]
  generalize (l.any fun t => !gd n t) = B at *
  generalize ((8 - n : Nat) : Int) = D at *
  clear ha r hh hs hv hT hbx ih hl
  go_enter Tryz.func85, Tryz.ntmps85
  go_wp2_with fail
  rw [← hw1]
  refine hc.mono ?_
  rintro e w2 ⟨rfl, b1⟩
  replace b1 := hide1 (hb0.out.trans (b1.mono hb0.out.size))
  clear hc hb0 hw1
  go_wp2
  go_ret
  exact ⟨rfl, b1.out⟩
end Go.Proofs.YtdhmonlhlfkjbaaGreatDoor

namespace Go.Proofs.YtdhmonlhlfkjbaaGreatDoor
open Go.RowKit Go.Shelf Go.Maps
attribute [local go_sem] Oper.semAt_some

theorem results_1b {fn : Func} {p : Tmp} (h : fn.results = #[.cell p 4]) (tmps : Array Value) {u : World} {b : Nat} {x : Bool} (ht : tmps.getD p undef = .pointer (some ⟨b, 0, none⟩)) (hc : u.heap[b]? = some (.cells #[.bool x] 4 (0, 0))) : (results fn tmps).run Tryz.prog u = .ok (.bool x) u := by
  have ht2 : tmps[p]?.getD undef = .pointer (some ⟨b, 0, none⟩) := by simpa using ht
  have hc2 : u.cell? ⟨b, 0, none⟩ = some (.bool x) := by simp only [World.cell?, hc]; rfl
  have hl2 : (loadVar 4 ⟨b, 0, none⟩).run Tryz.prog u = .ok (.bool x) u := by simp [go_sem, hc2]
  simp [results, h, ht2, asAddr, hl2]
structure Sb (w : World) (c : Array Value) (a : Int) (b : Bool) (W : World) : Prop where
  bw : Below w.heap.size w W
  b2 : W.heap[w.heap.size]? = some (.cells c 55 (0, 0))
  b3 : W.heap[w.heap.size + 1]? = some (.cells #[.int .i64 a] 3 (0, 0))
  b4 : W.heap[w.heap.size + 2]? = some (.cells #[.bool b] 4 (0, 0))
theorem Sb.later {w W W' : World} {c : Array Value} {a : Int} {b : Bool} (h : Sb w c a b W) (k : Below W.heap.size W W') : Sb w c a b W' :=
  ⟨h.bw.trans (k.mono h.bw.size), (k.block _ (Array.getElem?_eq_some_iff.1 h.b2).1).trans h.b2, (k.block _ (Array.getElem?_eq_some_iff.1 h.b3).1).trans h.b3, (k.block _ (Array.getElem?_eq_some_iff.1 h.b4).1).trans h.b4⟩
theorem Sb.own {w W W' : World} {c : Array Value} {a : Int} {b : Bool} {row : Option Nat} (h : Sb w c a b W) (hg : W.grownBy W' row) (hr : ∀ r, row = some r → ∃ o : Obj, W.heap[r]? = some o ∧ o.isCells = false ∧ w.heap.size ≤ r) : Sb w c a b W' := by
  have hne : ∀ j cc t, W.heap[j]? = some (.cells cc t (0, 0)) → some j ≠ row := fun j cc t hj e => by
    obtain ⟨o, ho, hc, _⟩ := hr j e.symm
    rw [hj] at ho; cases ho; cases hc
  refine ⟨⟨hg.os.trans h.bw.os, hg.tape.trans h.bw.tape, hg.output.trans h.bw.output, Nat.le_trans h.bw.size hg.size, fun j hj => (hg.block j (Nat.lt_of_lt_of_le hj h.bw.size) (fun e => ?_)).trans (h.bw.block j hj)⟩, (hg.block _ (Array.getElem?_eq_some_iff.1 h.b2).1 (hne _ _ _ h.b2)).trans h.b2, (hg.block _ (Array.getElem?_eq_some_iff.1 h.b3).1 (hne _ _ _ h.b3)).trans h.b3, (hg.block _ (Array.getElem?_eq_some_iff.1 h.b4).1 (hne _ _ _ h.b4)).trans h.b4⟩
  obtain ⟨o, ho, hc, hl⟩ := hr j e.symm
  omega
theorem all_snoc {f : List UInt8 × T → Bool} {qs : List (List UInt8 × T)} {k : Nat} {q : List UInt8 × T} (hq : qs[k]? = some q) (h : (qs.take k).all f = true) : (qs.take (k + 1)).all f = f q := by
  rw [List.take_add_one, hq, List.all_append, h]
  simp
theorem all_of {f : List UInt8 × T → Bool} {qs : List (List UInt8 × T)} {k : Nat} (h : (qs.take k).all f = false) : qs.all f = false := by
  rw [← List.take_append_drop k qs, List.all_append, h]; rfl
set_option maxRecDepth 100000 in
set_option maxHeartbeats 8000000 in
theorem sndP_in {n h : Nat} (ih : Sok n) {F : Nat → Prop} {w : World} {ki : Int} {s : List UInt8} {sl sp : Value} {p : List (List UInt8 × T)} {cp : List (List Value)} (r : RwA F w Pt 6 sp cp) (hl : cp.length = p.length) (hb : cp.length ≤ 1000000) (hh : ∀ q ∈ p, hgt h q.2) (hs : ∀ q ∈ p, q.1.length ≤ 9223372036854775807 ∧ sbd h q.2)
    (hv : ∀ (j : Nat) (q : List UInt8 × T) (c : List Value), p[j]? = some q → cp[j]? = some c → PA F w q c) (hT : Ev w) (h8 : 8 ≤ w.heap.size) :
    CallsIn Fence.wide 5 Tryz.prog 86 #[.agg #[.int .i64 5, .int .i64 ki, .string (st s), sl, sp], .int .i64 (8 - n : Nat)] w fun e w' => e = .returned (.bool (p.all (fun q => Lib.validD q.1 && gd n q.2) && onc (p.map (·.1)))) ∧ Below w.heap.size w w' := by
  obtain ⟨A, hA⟩ : ∃ A, Hid (A = p.all (fun q => Lib.validD q.1 && gd n q.2)) := ⟨_, hide1 rfl⟩
  obtain ⟨O, hO⟩ : ∃ O, Hid (O = onc (p.map (·.1))) := ⟨_, hide1 rfl⟩
  rw [← hA.out, ← hO.out]
  have hnmo : ∀ c ∈ cp, c.all (·.oneCell') = true := fun x hx => by
    obtain ⟨j, hj, rfl⟩ := List.mem_iff_getElem.1 hx
    have hj2 : j < p.length := by omega
    obtain ⟨g1, g2⟩ := hv j _ _ (List.getElem?_eq_getElem hj2) (List.getElem?_eq_getElem hj)
    have g3 := g2.one
    generalize cp[j] = x at *
    cases x with
    | nil => cases g1
    | cons a b =>
      simp at g1
      subst g1
      simpa [Value.oneCell'] using g3
  have hna : NmA F w sp cp (p.map (·.1)) := ⟨r, by simp [hl], fun j c s' h1 h2 => by
      rw [List.getElem?_map] at h2
      cases hq : p[j]? with
      | none => rw [hq] at h2; cases h2
      | some q =>
        rw [hq] at h2
        cases h2
        exact (hv j q c hq h1).1, fun s' hs' => by
      obtain ⟨q, hq, rfl⟩ := List.mem_map.1 hs'
      exact (hs q hq).1, hnmo⟩
  obtain ⟨pa, pc, rfl⟩ := r.slc
  refine callsIn_of_wp_marks Tryz.func86 rfl trivial ?_ rfl
  simp only [Tryz.ntmps86, List.size_toArray, List.length_cons, List.length_nil, Nat.reduceAdd, Nat.reduceSub, Array.replicate_succ, Array.replicate_zero, List.push_toArray, List.append_toArray, List.nil_append, List.cons_append]
  obtain ⟨D, hD⟩ : ∃ D, Hid (D = ((8 - n : Nat) : Int)) := ⟨_, hide1 rfl⟩
  rw [← hD.out]
  replace hv := hide1 hv
  replace hh := hide1 hh
  replace hs := hide1 hs
  replace hna := hide1 hna
  replace hl := hide1 hl
  gi_wp2
  refine ⟨trivial, (callsIn_wide.2 (pairs_d _ _)).mono ?_⟩
  rintro e W1 ⟨rfl, rfl⟩
  have hbw : Below w.heap.size w ((((w.alloc (.cells #[.int .i64 5, .int .i64 ki, .string (st s), sl, .slice pa cp.length pc] 55)).alloc (.cells #[.int .i64 D] 3)).alloc (.cells #[.bool false] 4)).alloc (.cells #[.int .i64 5, .int .i64 ki, .string (st s), sl, .slice pa cp.length pc] 55)) := blw_al (blw_al (blw_al (blw_al (Below.refl _ _) (Nat.le_refl _) _) (by simp) _) (by simp; omega) _) (by simp; omega) _
  have hsz : ((((w.alloc (.cells #[.int .i64 5, .int .i64 ki, .string (st s), sl, .slice pa cp.length pc] 55)).alloc (.cells #[.int .i64 D] 3)).alloc (.cells #[.bool false] 4)).alloc (.cells #[.int .i64 5, .int .i64 ki, .string (st s), sl, .slice pa cp.length pc] 55)).heap.size = w.heap.size + 4 := by simp
  have hG : Sb w #[.int .i64 5, .int .i64 ki, .string (st s), sl, .slice pa cp.length pc] D false ((((w.alloc (.cells #[.int .i64 5, .int .i64 ki, .string (st s), sl, .slice pa cp.length pc] 55)).alloc (.cells #[.int .i64 D] 3)).alloc (.cells #[.bool false] 4)).alloc (.cells #[.int .i64 5, .int .i64 ki, .string (st s), sl, .slice pa cp.length pc] 55)) := by
    refine ⟨hbw, ?_, ?_, ?_⟩
    · show ((((w.heap.push _).push _).push _).push _)[w.heap.size]? = _
      rw [Array.getElem?_push, if_neg (by simp; omega), Array.getElem?_push, if_neg (by simp; omega), Array.getElem?_push, if_neg (by simp), Array.getElem?_push, if_pos (by simp)]
    · show ((((w.heap.push _).push _).push _).push _)[w.heap.size + 1]? = _
      rw [Array.getElem?_push, if_neg (by simp), Array.getElem?_push, if_neg (by simp), Array.getElem?_push, if_pos (by simp)]
    · show ((((w.heap.push _).push _).push _).push _)[w.heap.size + 2]? = _
      rw [Array.getElem?_push, if_neg (by simp), Array.getElem?_push, if_pos (by simp)]
  have hbx : ((((w.alloc (.cells #[.int .i64 5, .int .i64 ki, .string (st s), sl, .slice pa cp.length pc] 55)).alloc (.cells #[.int .i64 D] 3)).alloc (.cells #[.bool false] 4)).alloc (.cells #[.int .i64 5, .int .i64 ki, .string (st s), sl, .slice pa cp.length pc] 55)).heap[w.heap.size + 3]? = some (.cells #[.int .i64 5, .int .i64 ki, .string (st s), sl, .slice pa cp.length pc] 55 (0, 0)) := by
    show ((((w.heap.push _).push _).push _).push _)[w.heap.size + 3]? = _
    rw [Array.getElem?_push, if_pos (by simp)]
  have hsq := pairs_seq hb r hnmo hbw hbx
  gi_wp2
  generalize ((((w.alloc (.cells #[.int .i64 5, .int .i64 ki, .string (st s), sl, .slice pa cp.length pc] 55)).alloc (.cells #[.int .i64 D] 3)).alloc (.cells #[.bool false] 4)).alloc (.cells #[.int .i64 5, .int .i64 ki, .string (st s), sl, .slice pa cp.length pc] 55)) = W0 at *
  refine range_y (w := W0) (gf := 176) (lb := #[.pointer (some ⟨w.heap.size + 3, 0, none⟩)]) rfl (fun _ _ => by kernel_rfl) hsq (fun j hj => by rw [hsz]; rcases hj with hj | hj <;> omega)
    (fun k W => Sb w #[.int .i64 5, .int .i64 ki, .string (st s), sl, .slice pa cp.length pc] D false W ∧ (p.take k).all (fun q => Lib.validD q.1 && gd n q.2) = true)
    (fun c _ W => c = .ret ∧ A = false ∧ Sb w #[.int .i64 5, .int .i64 ki, .string (st s), sl, .slice pa cp.length pc] D false W) ?hI ?hIx ⟨hG, rfl⟩ ?round ?done ?stop
  case hI =>
    intro k A B row h hg hr
    exact ⟨h.1.own hg (fun r e => by obtain ⟨h1, ob, h2, h3⟩ := hr r e; exact ⟨ob, h2, h3, by omega⟩), h.2⟩
  case hIx =>
    rintro c k A B row ⟨hc, h1, h4⟩ hg hr
    exact ⟨hc, h1, h4.own hg (fun r e => by obtain ⟨h1, ob, h2, h3⟩ := hr r e; exact ⟨ob, h2, h3, by omega⟩)⟩
  case round =>
    intro lq k hk W Kq hz hI hK
    rw [hnd_len] at hk
    obtain ⟨x, hx⟩ : ∃ x, cp[k]? = some x := ⟨_, List.getElem?_eq_getElem hk⟩
    obtain ⟨q, hqk⟩ : ∃ q, p[k]? = some q := ⟨_, List.getElem?_eq_getElem (by have := hl.out; omega)⟩
    have hpa := hv.out k q x hqk hx
    have hx6 := r.1 x (List.mem_of_getElem? hx)
    have hhg := hh.out q (List.mem_of_getElem? hqk)
    obtain ⟨hsq1, hsq2⟩ := hs.out q (List.mem_of_getElem? hqk)
    have hit : (cp.map hnd)[k]'(by rw [hnd_len]; exact hk) = hnd x := by
      rw [List.getElem_map]
      congr 1
      have := List.getElem?_eq_getElem hk
      rw [hx] at this
      exact (Option.some.inj this).symm
    rw [hit]
    obtain ⟨x0, x1, x2, x3, x4, x5, rfl⟩ := arr6 hx6
    have hx0 : x0 = .string (st q.1) := by simpa using hpa.1
    subst hx0
    have hva : VA F w q.2 [x1, x2, x3, x4, x5] := hpa.2
    have hon := hva.one
    simp only [hnd, List.headD_cons, List.tail_cons]
    have hr7 : (W.alloc (.cells #[.int .i64 0, .int .i64 0, .string ⟨#[]⟩, .slice none 0 0, .slice none 0 0] 55)).heap[W.heap.size]? = some (.cells #[.int .i64 0, .int .i64 0, .string ⟨#[]⟩, .slice none 0 0, .slice none 0 0] 55 (0, 0)) := by
      show (W.heap.push _)[W.heap.size]? = _
      rw [Array.getElem?_push, if_pos rfl]
    have h7 := setRow_heap (W.alloc (.cells #[.int .i64 0, .int .i64 0, .string ⟨#[]⟩, .slice none 0 0, .slice none 0 0] 55)) W.heap.size _ #[x1, x2, x3, x4, x5] _ _ hr7
    have hal : ∀ j, j < W.heap.size → ((W.alloc (.cells #[.int .i64 0, .int .i64 0, .string ⟨#[]⟩, .slice none 0 0, .slice none 0 0] 55)).setRow W.heap.size #[x1, x2, x3, x4, x5]).heap[j]? = W.heap[j]? := fun j hj => (setRow_other _ _ j _ (by omega)).trans (by
      show (W.heap.push _)[j]? = _
      rw [Array.getElem?_push, if_neg (by omega)])
    have hb7 : Below W.heap.size W ((W.alloc (.cells #[.int .i64 0, .int .i64 0, .string ⟨#[]⟩, .slice none 0 0, .slice none 0 0] 55)).setRow W.heap.size #[x1, x2, x3, x4, x5]) := ⟨rfl, rfl, rfl, by simp [World.setRow], hal⟩
    have hs7 : ((W.alloc (.cells #[.int .i64 0, .int .i64 0, .string ⟨#[]⟩, .slice none 0 0, .slice none 0 0] 55)).setRow W.heap.size #[x1, x2, x3, x4, x5]).heap.size = W.heap.size + 1 := by simp [World.setRow]
    have hf := all_snoc hqk hI.2
    replace hon := hide1 hon
    replace hva := hide1 hva
    clear hit hx hpa hx6 hal
    gi_wp2_with (refine wpListIn_str rfl 55 (.tmp 6) (.tmp 12) rfl W.heap.size #[x1, x2, x3, x4, x5] rfl rfl 55 _ hr7 (by kernel_rfl) rfl (by simpa using hon.out) ?_)
    refine hK _ _ hb7 ?_
    rintro W2 hsame hs2 ⟨hG2, hf2⟩
    have h72 := (hsame W.heap.size (by omega)).trans h7
    have hsz2 : w.heap.size + 4 ≤ W2.heap.size := by rw [hs2, hs7]; omega
    have hT2 := hT.below hG2.bw (by omega)
    have hcv := utf8_ValidString (st q.1) W2 (by rw [st_size]; exact hsq1) hT2.tb
    rw [st_data] at hcv
    replace hG2 := hide1 hG2
    replace hf := hide1 hf
    replace hT2 := hide1 hT2
    replace hI := hide1 hI
    clear hK hsame h7 hf2
    gi_wp2
    refine ⟨trivial, (CallsIn.inRound lq (callsIn_wide.2 hcv)).mono ?_⟩
    rintro e W3 ⟨rfl, b3⟩
    have hG3 := hide1 (hG2.out.later b3)
    have h73 := (b3.block _ (Array.getElem?_eq_some_iff.1 h72).1).trans h72
    have l0 : W3.cell? ⟨W.heap.size, 0, none⟩ = some x1 := by simp only [World.cell?, h73]; rfl
    have l1 : W3.cell? ⟨W.heap.size, 1, none⟩ = some x2 := by simp only [World.cell?, h73]; rfl
    have l2 : W3.cell? ⟨W.heap.size, 2, none⟩ = some x3 := by simp only [World.cell?, h73]; rfl
    have l3 : W3.cell? ⟨W.heap.size, 3, none⟩ = some x4 := by simp only [World.cell?, h73]; rfl
    have l4 : W3.cell? ⟨W.heap.size, 4, none⟩ = some x5 := by simp only [World.cell?, h73]; rfl
    have c3 : W3.cell? ⟨w.heap.size + 1, 0, none⟩ = some (.int .i64 D) := by simp only [World.cell?, hG3.out.b3]; rfl
    have hT3 := hide1 (hT2.out.below b3 (by omega))
    have hsz3 : W2.heap.size ≤ W3.heap.size := b3.size
    have stop : ∀ W4, Below W2.heap.size W2 W4 → (Lib.validD q.1 && gd n q.2) = false → Hid (outX W0.heap.size (fun j => j < w.heap.size ∨ j = w.heap.size + 3) (fun k W => Sb w #[.int .i64 5, .int .i64 ki, .string (st s), sl, .slice pa cp.length pc] D false W ∧ (p.take k).all (fun q => Lib.validD q.1 && gd n q.2) = true) (fun c _ W => c = .ret ∧ A = false ∧ Sb w #[.int .i64 5, .int .i64 ki, .string (st s), sl, .slice pa cp.length pc] D false W) k W2 .ret { tmps := #[], defers := [] } (W4.setCell ⟨w.heap.size + 2, 0, none⟩ (.bool false))) := fun W4 b4 hbad => hide1 (by
      have g := hG2.out.later b4
      have hw5 : W4.setCell ⟨w.heap.size + 2, 0, none⟩ (.bool false) = W4.setRow (w.heap.size + 2) #[.bool false] := by
        rw [setCell_eq_setRow _ (w.heap.size + 2) 0 _ _ (0, 0) _ g.b4]; rfl
      rw [hw5]
      refine ⟨(Kx.below b4).row _ (by omega) (by omega), rfl, ?_, blw_own g.bw (by omega) _, (setRow_other _ _ _ _ (by omega)).trans g.b2, (setRow_other _ _ _ _ (by omega)).trans g.b3, setRow_heap _ _ _ _ _ _ g.b4⟩
      rw [hA.out]
      exact all_of (hf.out.trans hbad))
    replace stop := hide1 stop
    cases hvd : Lib.validD q.1 with
    | false =>
      have hfin := stop.out W3 b3 (by rw [hvd]; rfl)
      have c4 : W3.cell? ⟨w.heap.size + 2, 0, none⟩ = some (.bool false) := by simp only [World.cell?, hG3.out.b4]; rfl
      have f4 : W3.frozen? ⟨w.heap.size + 2, 0, none⟩ = false := by simp [World.frozen?, hG3.out.b4]
      clear stop hcv b3 hvd
      gi_wp2
      refine ⟨trivial, ?_⟩
      rename_i Kz hKz
      refine hKz _ _ ?_
      gi_wp2
      exact hfin.out
    | true =>
      have hcs := ih (w := W3) (c := [x1, x2, x3, x4, x5]) hhg hsq2 (VA.frame (c := [x1, x2, x3, x4, x5]) hva.out (w' := W3) (G := F) (fun j _ hj => hG3.out.bw.block j hj) (fun _ h _ => h)) hT3.out (by omega)
      rw [← hD.out] at hcs
      replace b3 := hide1 b3
      replace hvd := hide1 hvd
      clear hcv
      gi_wp2
      refine ⟨trivial, (CallsIn.inRound lq (callsIn_wide.2 hcs)).mono ?_⟩
      rintro e W4 ⟨rfl, b4⟩
      have b24 := hide1 (b3.out.trans (b4.mono b3.out.size))
      have hG4 := hide1 (hG3.out.later b4)
      cases hgq : gd n q.2 with
      | false =>
        have hfin := stop.out W4 b24.out (by rw [hgq, hvd.out]; rfl)
        have c4 : W4.cell? ⟨w.heap.size + 2, 0, none⟩ = some (.bool false) := by simp only [World.cell?, hG4.out.b4]; rfl
        have f4 : W4.frozen? ⟨w.heap.size + 2, 0, none⟩ = false := by simp [World.frozen?, hG4.out.b4]
        clear stop hcs b4 hgq
        gi_wp2
        exact hfin.out
      | true =>
        have hfin : Hid (Kx W0.heap.size (fun j => j < w.heap.size ∨ j = w.heap.size + 3) W2 W4 ∧ Sb w #[.int .i64 5, .int .i64 ki, .string (st s), sl, .slice pa cp.length pc] D false W4 ∧ (p.take (k + 1)).all (fun q => Lib.validD q.1 && gd n q.2) = true) := hide1 ⟨Kx.below b24.out, hG4.out, by rw [hf.out, hvd.out, hgq]; rfl⟩
        clear stop hcs b4 hgq
        gi_wp2
        exact hfin.out
  case done =>
    rintro E W hE ⟨hGW, hf⟩ hK
    have hAt : A = true := by
      rw [hnd_len, List.take_of_length_le (by have := hl.out; omega)] at hf
      rw [hA.out, hf]
    subst hAt
    have c4 : W.cell? ⟨w.heap.size, 4, none⟩ = some (.slice pa cp.length pc) := by simp only [World.cell?, hGW.b2]; rfl
    have hna2 : NmA F W (.slice pa cp.length pc) cp (p.map (·.1)) := ⟨hna.out.rw.frame (fun j _ hj => hGW.bw.block j hj) (fun _ h _ => h), hna.out.ln, hna.out.nm, hna.out.sm, hna.out.on⟩
    have hpl := places_d hna2 (by omega)
    replace hGW := hide1 hGW
    replace hK := hide1 hK
    clear hf hna2
    gi_wp2
    refine ⟨trivial, (callsIn_wide.2 hpl).mono ?_⟩
    rintro e W2 ⟨mb, MD, mn, rfl, b2, hmb, hmo, hmi⟩
    have hG2 := hGW.out.later b2
    have hK2 := (b2.block _ (Array.getElem?_eq_some_iff.1 hK.out).1).trans hK.out
    have c5 : W2.cell? ⟨w.heap.size + 2, 0, none⟩ = some (.bool false) := by simp only [World.cell?, hG2.b4]; rfl
    have f5 : W2.frozen? ⟨w.heap.size + 2, 0, none⟩ = false := by simp [World.frozen?, hG2.b4]
    have hne : E ≠ w.heap.size + 2 := by rintro rfl; rw [hG2.b4] at hK2; cases hK2
    rw [← hO.out]
    have hw5 : W2.setCell ⟨w.heap.size + 2, 0, none⟩ (.bool O) = W2.setRow (w.heap.size + 2) #[.bool O] := by
      rw [setCell_eq_setRow _ (w.heap.size + 2) 0 _ _ (0, 0) _ hG2.b4]; rfl
    have hDK : (W2.setCell ⟨w.heap.size + 2, 0, none⟩ (.bool O)).heap[E]? = some (.deferred (some [])) := by
      rw [hw5]
      exact (setRow_other _ _ _ _ hne).trans hK2
    have hb5 : (W2.setCell ⟨w.heap.size + 2, 0, none⟩ (.bool O)).heap[w.heap.size + 2]? = some (.cells #[.bool O] 4 (0, 0)) := by
      rw [hw5]
      exact setRow_heap _ _ _ _ _ _ hG2.b4
    have hbb : Below w.heap.size w (W2.setCell ⟨w.heap.size + 2, 0, none⟩ (.bool O)) := by
      rw [hw5]
      exact blw_own hG2.bw (by omega) _
    replace hDK := hide1 hDK
    replace hb5 := hide1 hb5
    replace hbb := hide1 hbb
    replace hne := hide1 hne
    clear hG2 hw5 hpl hmo hmi b2 hK2
    gi_wp2
    refine ⟨by simp, .inl ⟨_, _, rfl, run_takeDeferred hDK.out, ?_⟩⟩
    refine ⟨_, results_1b rfl _ rfl ((World.putObj_heap_other (fun e => hne.out e.symm)).trans hb5.out), ?_⟩
    exact ⟨by rw [Bool.true_and], blw_done hbb.out (by omega) hDK.out⟩
  case stop =>
    rintro E c k W hE hk ⟨rfl, h1, h4⟩ hK
    have hne : w.heap.size + 2 ≠ E := by rintro rfl; rw [h4.b4] at hK; cases hK
    gi_wp2
    refine ⟨by simp, .inl ⟨_, _, rfl, run_takeDeferred hK, ?_⟩⟩
    refine ⟨_, results_1b rfl _ rfl ((World.putObj_heap_other hne).trans h4.b4), ?_⟩
    exact ⟨by rw [h1]; rfl, blw_done h4.bw (by omega) hK⟩
end Go.Proofs.YtdhmonlhlfkjbaaGreatDoor

namespace Go.Proofs.YtdhmonlhlfkjbaaGreatDoor
open Go.RowKit

theorem below_al {w : World} (o : Obj) : Below w.heap.size w (w.alloc o) := (Below.refl _ _).alloc (Nat.le_refl _) _
theorem new_at (w : World) (c : Array Value) (t : TypeId) : (w.alloc (.cells c t)).heap[w.heap.size]? = some (.cells c t (0, 0)) := by
  show (w.heap.push _)[w.heap.size]? = _
  rw [Array.getElem?_push, if_pos rfl]
set_option maxHeartbeats 4000000 in
set_option maxRecDepth 100000 in
theorem snd_sp {k i : Int} {s : List UInt8} {sa pa : Option Addr} {cl cp : List (List Value)} {sc pc : Nat} {w : World} {D : Int} (hsp0 : spB k i s cl.length cp.length = true) : Calls Tryz.prog 44 #[.agg #[.int .i64 k, .int .i64 i, .string (st s), .slice sa cl.length sc, .slice pa cp.length pc], .int .i64 D] w fun e w' => e = .returned (.bool false) ∧ Below w.heap.size w w' := by
  have hb0 := below_al (w := w) (.cells #[.int .i64 k, .int .i64 i, .string (st s), .slice sa cl.length sc, .slice pa cp.length pc] 55)
  have hbx := new_at w #[.int .i64 k, .int .i64 i, .string (st s), .slice sa cl.length sc, .slice pa cp.length pc] 55
  obtain ⟨w1, hw1⟩ : ∃ w1, w1 = w.alloc (.cells #[.int .i64 k, .int .i64 i, .string (st s), .slice sa cl.length sc, .slice pa cp.length pc] 55) := ⟨_, rfl⟩
  rw [← hw1] at hb0 hbx
  have hsp := spare_d (k := k) (i := i) (s := s) (sa := sa) (pa := pa) (nl := cl.length) (np := cp.length) (sc := sc) (pc := pc) (w := w1)
  rw [hsp0] at hsp
  replace hb0 := hide1 hb0
  replace hbx := hide1 hbx
  go_enter Tryz.func44, Tryz.ntmps44
  go_wp2_with fail
  rw [← hw1]
  refine hsp.mono ?_
  rintro e w2 ⟨rfl, b2⟩
  have hB := hide1 (hb0.out.trans (b2.mono hb0.out.size))
  have hbx2 := (b2.block _ (Array.getElem?_eq_some_iff.1 hbx.out).1).trans hbx.out
  have c0 : w2.cell? ⟨w.heap.size, 0, none⟩ = some (.int .i64 k) := by simp only [World.cell?, hbx2]; rfl
  have c1 : w2.cell? ⟨w.heap.size, 1, none⟩ = some (.int .i64 i) := by simp only [World.cell?, hbx2]; rfl
  have c2 : w2.cell? ⟨w.heap.size, 2, none⟩ = some (.string (st s)) := by simp only [World.cell?, hbx2]; rfl
  have c3 : w2.cell? ⟨w.heap.size, 3, none⟩ = some (.slice sa cl.length sc) := by simp only [World.cell?, hbx2]; rfl
  have c4 : w2.cell? ⟨w.heap.size, 4, none⟩ = some (.slice pa cp.length pc) := by simp only [World.cell?, hbx2]; rfl
  clear hsp b2 hw1 hb0 hbx
  go_wp2
  go_ret
  exact ⟨rfl, hB.out⟩
set_option maxHeartbeats 4000000 in
set_option maxRecDepth 100000 in
theorem snd_0 {i : Int} {s : List UInt8} {sa pa : Option Addr} {cl cp : List (List Value)} {sc pc : Nat} {w : World} {D : Int} (hsp0 : spB 0 i s cl.length cp.length = false) : Calls Tryz.prog 44 #[.agg #[.int .i64 0, .int .i64 i, .string (st s), .slice sa cl.length sc, .slice pa cp.length pc], .int .i64 D] w fun e w' => e = .returned (.bool true) ∧ Below w.heap.size w w' := by
  have hb0 := below_al (w := w) (.cells #[.int .i64 0, .int .i64 i, .string (st s), .slice sa cl.length sc, .slice pa cp.length pc] 55)
  have hbx := new_at w #[.int .i64 0, .int .i64 i, .string (st s), .slice sa cl.length sc, .slice pa cp.length pc] 55
  obtain ⟨w1, hw1⟩ : ∃ w1, w1 = w.alloc (.cells #[.int .i64 0, .int .i64 i, .string (st s), .slice sa cl.length sc, .slice pa cp.length pc] 55) := ⟨_, rfl⟩
  rw [← hw1] at hb0 hbx
  have hsp := spare_d (k := 0) (i := i) (s := s) (sa := sa) (pa := pa) (nl := cl.length) (np := cp.length) (sc := sc) (pc := pc) (w := w1)
  rw [hsp0] at hsp
  replace hb0 := hide1 hb0
  replace hbx := hide1 hbx
  go_enter Tryz.func44, Tryz.ntmps44
  go_wp2_with fail
  rw [← hw1]
  refine hsp.mono ?_
  rintro e w2 ⟨rfl, b2⟩
  have hB := hide1 (hb0.out.trans (b2.mono hb0.out.size))
  have hbx2 := (b2.block _ (Array.getElem?_eq_some_iff.1 hbx.out).1).trans hbx.out
  have c0 : w2.cell? ⟨w.heap.size, 0, none⟩ = some (.int .i64 (0)) := by simp only [World.cell?, hbx2]; rfl
  have c1 : w2.cell? ⟨w.heap.size, 1, none⟩ = some (.int .i64 i) := by simp only [World.cell?, hbx2]; rfl
  have c2 : w2.cell? ⟨w.heap.size, 2, none⟩ = some (.string (st s)) := by simp only [World.cell?, hbx2]; rfl
  have c3 : w2.cell? ⟨w.heap.size, 3, none⟩ = some (.slice sa cl.length sc) := by simp only [World.cell?, hbx2]; rfl
  have c4 : w2.cell? ⟨w.heap.size, 4, none⟩ = some (.slice pa cp.length pc) := by simp only [World.cell?, hbx2]; rfl
  clear hsp b2 hw1 hb0 hbx
  go_wp2
  go_ret
  exact ⟨rfl, hB.out⟩
set_option maxHeartbeats 4000000 in
set_option maxRecDepth 100000 in
theorem snd_10  {s : List UInt8} {sa pa : Option Addr} {cl cp : List (List Value)} {sc pc : Nat} {w : World} {D : Int} (hsp0 : spB 1 0 s cl.length cp.length = false) : Calls Tryz.prog 44 #[.agg #[.int .i64 1, .int .i64 0, .string (st s), .slice sa cl.length sc, .slice pa cp.length pc], .int .i64 D] w fun e w' => e = .returned (.bool true) ∧ Below w.heap.size w w' := by
  have hb0 := below_al (w := w) (.cells #[.int .i64 1, .int .i64 0, .string (st s), .slice sa cl.length sc, .slice pa cp.length pc] 55)
  have hbx := new_at w #[.int .i64 1, .int .i64 0, .string (st s), .slice sa cl.length sc, .slice pa cp.length pc] 55
  obtain ⟨w1, hw1⟩ : ∃ w1, w1 = w.alloc (.cells #[.int .i64 1, .int .i64 0, .string (st s), .slice sa cl.length sc, .slice pa cp.length pc] 55) := ⟨_, rfl⟩
  rw [← hw1] at hb0 hbx
  have hsp := spare_d (k := 1) (i := 0) (s := s) (sa := sa) (pa := pa) (nl := cl.length) (np := cp.length) (sc := sc) (pc := pc) (w := w1)
  rw [hsp0] at hsp
  replace hb0 := hide1 hb0
  replace hbx := hide1 hbx
  go_enter Tryz.func44, Tryz.ntmps44
  go_wp2_with fail
  rw [← hw1]
  refine hsp.mono ?_
  rintro e w2 ⟨rfl, b2⟩
  have hB := hide1 (hb0.out.trans (b2.mono hb0.out.size))
  have hbx2 := (b2.block _ (Array.getElem?_eq_some_iff.1 hbx.out).1).trans hbx.out
  have c0 : w2.cell? ⟨w.heap.size, 0, none⟩ = some (.int .i64 (1)) := by simp only [World.cell?, hbx2]; rfl
  have c1 : w2.cell? ⟨w.heap.size, 1, none⟩ = some (.int .i64 (0)) := by simp only [World.cell?, hbx2]; rfl
  have c2 : w2.cell? ⟨w.heap.size, 2, none⟩ = some (.string (st s)) := by simp only [World.cell?, hbx2]; rfl
  have c3 : w2.cell? ⟨w.heap.size, 3, none⟩ = some (.slice sa cl.length sc) := by simp only [World.cell?, hbx2]; rfl
  have c4 : w2.cell? ⟨w.heap.size, 4, none⟩ = some (.slice pa cp.length pc) := by simp only [World.cell?, hbx2]; rfl
  clear hsp b2 hw1 hb0 hbx
  go_wp2
  go_ret
  exact ⟨rfl, hB.out⟩
set_option maxHeartbeats 4000000 in
set_option maxRecDepth 100000 in
theorem snd_11  {s : List UInt8} {sa pa : Option Addr} {cl cp : List (List Value)} {sc pc : Nat} {w : World} {D : Int} (hsp0 : spB 1 1 s cl.length cp.length = false) : Calls Tryz.prog 44 #[.agg #[.int .i64 1, .int .i64 1, .string (st s), .slice sa cl.length sc, .slice pa cp.length pc], .int .i64 D] w fun e w' => e = .returned (.bool true) ∧ Below w.heap.size w w' := by
  have hb0 := below_al (w := w) (.cells #[.int .i64 1, .int .i64 1, .string (st s), .slice sa cl.length sc, .slice pa cp.length pc] 55)
  have hbx := new_at w #[.int .i64 1, .int .i64 1, .string (st s), .slice sa cl.length sc, .slice pa cp.length pc] 55
  obtain ⟨w1, hw1⟩ : ∃ w1, w1 = w.alloc (.cells #[.int .i64 1, .int .i64 1, .string (st s), .slice sa cl.length sc, .slice pa cp.length pc] 55) := ⟨_, rfl⟩
  rw [← hw1] at hb0 hbx
  have hsp := spare_d (k := 1) (i := 1) (s := s) (sa := sa) (pa := pa) (nl := cl.length) (np := cp.length) (sc := sc) (pc := pc) (w := w1)
  rw [hsp0] at hsp
  replace hb0 := hide1 hb0
  replace hbx := hide1 hbx
  go_enter Tryz.func44, Tryz.ntmps44
  go_wp2_with fail
  rw [← hw1]
  refine hsp.mono ?_
  rintro e w2 ⟨rfl, b2⟩
  have hB := hide1 (hb0.out.trans (b2.mono hb0.out.size))
  have hbx2 := (b2.block _ (Array.getElem?_eq_some_iff.1 hbx.out).1).trans hbx.out
  have c0 : w2.cell? ⟨w.heap.size, 0, none⟩ = some (.int .i64 (1)) := by simp only [World.cell?, hbx2]; rfl
  have c1 : w2.cell? ⟨w.heap.size, 1, none⟩ = some (.int .i64 (1)) := by simp only [World.cell?, hbx2]; rfl
  have c2 : w2.cell? ⟨w.heap.size, 2, none⟩ = some (.string (st s)) := by simp only [World.cell?, hbx2]; rfl
  have c3 : w2.cell? ⟨w.heap.size, 3, none⟩ = some (.slice sa cl.length sc) := by simp only [World.cell?, hbx2]; rfl
  have c4 : w2.cell? ⟨w.heap.size, 4, none⟩ = some (.slice pa cp.length pc) := by simp only [World.cell?, hbx2]; rfl
  clear hsp b2 hw1 hb0 hbx
  go_wp2
  go_ret
  exact ⟨rfl, hB.out⟩
set_option maxHeartbeats 4000000 in
set_option maxRecDepth 100000 in
theorem snd_1o {i : Int} {s : List UInt8} {sa pa : Option Addr} {cl cp : List (List Value)} {sc pc : Nat} {w : World} {D : Int} (hsp0 : spB 1 i s cl.length cp.length = false) (i0 : i ≠ 0) (i1 : i ≠ 1) : Calls Tryz.prog 44 #[.agg #[.int .i64 1, .int .i64 i, .string (st s), .slice sa cl.length sc, .slice pa cp.length pc], .int .i64 D] w fun e w' => e = .returned (.bool false) ∧ Below w.heap.size w w' := by
  have hb0 := below_al (w := w) (.cells #[.int .i64 1, .int .i64 i, .string (st s), .slice sa cl.length sc, .slice pa cp.length pc] 55)
  have hbx := new_at w #[.int .i64 1, .int .i64 i, .string (st s), .slice sa cl.length sc, .slice pa cp.length pc] 55
  obtain ⟨w1, hw1⟩ : ∃ w1, w1 = w.alloc (.cells #[.int .i64 1, .int .i64 i, .string (st s), .slice sa cl.length sc, .slice pa cp.length pc] 55) := ⟨_, rfl⟩
  rw [← hw1] at hb0 hbx
  have hsp := spare_d (k := 1) (i := i) (s := s) (sa := sa) (pa := pa) (nl := cl.length) (np := cp.length) (sc := sc) (pc := pc) (w := w1)
  rw [hsp0] at hsp
  replace hb0 := hide1 hb0
  replace hbx := hide1 hbx
  have d0 : (i == 0) = false := by simpa using i0
  have d1 : (i == 1) = false := by simpa using i1
  go_enter Tryz.func44, Tryz.ntmps44
  go_wp2_with fail
  rw [← hw1]
  refine hsp.mono ?_
  rintro e w2 ⟨rfl, b2⟩
  have hB := hide1 (hb0.out.trans (b2.mono hb0.out.size))
  have hbx2 := (b2.block _ (Array.getElem?_eq_some_iff.1 hbx.out).1).trans hbx.out
  have c0 : w2.cell? ⟨w.heap.size, 0, none⟩ = some (.int .i64 (1)) := by simp only [World.cell?, hbx2]; rfl
  have c1 : w2.cell? ⟨w.heap.size, 1, none⟩ = some (.int .i64 i) := by simp only [World.cell?, hbx2]; rfl
  have c2 : w2.cell? ⟨w.heap.size, 2, none⟩ = some (.string (st s)) := by simp only [World.cell?, hbx2]; rfl
  have c3 : w2.cell? ⟨w.heap.size, 3, none⟩ = some (.slice sa cl.length sc) := by simp only [World.cell?, hbx2]; rfl
  have c4 : w2.cell? ⟨w.heap.size, 4, none⟩ = some (.slice pa cp.length pc) := by simp only [World.cell?, hbx2]; rfl
  clear hsp b2 hw1 hb0 hbx
  go_wp2
  go_ret
  exact ⟨rfl, hB.out⟩
set_option maxHeartbeats 4000000 in
set_option maxRecDepth 100000 in
theorem snd_2 {i : Int} {s : List UInt8} {sa pa : Option Addr} {cl cp : List (List Value)} {sc pc : Nat} {w : World} {D : Int} (hsp0 : spB 2 i s cl.length cp.length = false) : Calls Tryz.prog 44 #[.agg #[.int .i64 2, .int .i64 i, .string (st s), .slice sa cl.length sc, .slice pa cp.length pc], .int .i64 D] w fun e w' => e = .returned (.bool (inR i)) ∧ Below w.heap.size w w' := by
  have hb0 := below_al (w := w) (.cells #[.int .i64 2, .int .i64 i, .string (st s), .slice sa cl.length sc, .slice pa cp.length pc] 55)
  have hbx := new_at w #[.int .i64 2, .int .i64 i, .string (st s), .slice sa cl.length sc, .slice pa cp.length pc] 55
  obtain ⟨w1, hw1⟩ : ∃ w1, w1 = w.alloc (.cells #[.int .i64 2, .int .i64 i, .string (st s), .slice sa cl.length sc, .slice pa cp.length pc] 55) := ⟨_, rfl⟩
  rw [← hw1] at hb0 hbx
  have hsp := spare_d (k := 2) (i := i) (s := s) (sa := sa) (pa := pa) (nl := cl.length) (np := cp.length) (sc := sc) (pc := pc) (w := w1)
  rw [hsp0] at hsp
  replace hb0 := hide1 hb0
  replace hbx := hide1 hbx
  obtain ⟨B, hBe⟩ : ∃ B, Hid (B = inR i) := ⟨_, hide1 rfl⟩
  rw [← hBe.out]
  go_enter Tryz.func44, Tryz.ntmps44
  go_wp2_with fail
  rw [← hw1]
  refine hsp.mono ?_
  rintro e w2 ⟨rfl, b2⟩
  have hB := hide1 (hb0.out.trans (b2.mono hb0.out.size))
  have hbx2 := (b2.block _ (Array.getElem?_eq_some_iff.1 hbx.out).1).trans hbx.out
  have c0 : w2.cell? ⟨w.heap.size, 0, none⟩ = some (.int .i64 (2)) := by simp only [World.cell?, hbx2]; rfl
  have c1 : w2.cell? ⟨w.heap.size, 1, none⟩ = some (.int .i64 i) := by simp only [World.cell?, hbx2]; rfl
  have c2 : w2.cell? ⟨w.heap.size, 2, none⟩ = some (.string (st s)) := by simp only [World.cell?, hbx2]; rfl
  have c3 : w2.cell? ⟨w.heap.size, 3, none⟩ = some (.slice sa cl.length sc) := by simp only [World.cell?, hbx2]; rfl
  have c4 : w2.cell? ⟨w.heap.size, 4, none⟩ = some (.slice pa cp.length pc) := by simp only [World.cell?, hbx2]; rfl
  have hcc := rng_d (n := i) (w := w2)
  rw [← hBe.out] at hcc
  clear hsp b2 hw1 hb0 hbx
  go_wp2_with fail
  refine hcc.mono ?_
  rintro e w3 ⟨rfl, rfl⟩
  clear hcc
  go_wp2
  go_ret
  exact ⟨rfl, hB.out⟩
set_option maxHeartbeats 4000000 in
set_option maxRecDepth 100000 in
theorem snd_3 {i : Int} {s : List UInt8} {sa pa : Option Addr} {cl cp : List (List Value)} {sc pc : Nat} {w : World} {D : Int} (hsp0 : spB 3 i s cl.length cp.length = false) (hsz : s.length ≤ 9223372036854775807) (hT : Ev w) (h8 : 8 ≤ w.heap.size) : Calls Tryz.prog 44 #[.agg #[.int .i64 3, .int .i64 i, .string (st s), .slice sa cl.length sc, .slice pa cp.length pc], .int .i64 D] w fun e w' => e = .returned (.bool (Lib.validD s)) ∧ Below w.heap.size w w' := by
  have hb0 := below_al (w := w) (.cells #[.int .i64 3, .int .i64 i, .string (st s), .slice sa cl.length sc, .slice pa cp.length pc] 55)
  have hbx := new_at w #[.int .i64 3, .int .i64 i, .string (st s), .slice sa cl.length sc, .slice pa cp.length pc] 55
  obtain ⟨w1, hw1⟩ : ∃ w1, w1 = w.alloc (.cells #[.int .i64 3, .int .i64 i, .string (st s), .slice sa cl.length sc, .slice pa cp.length pc] 55) := ⟨_, rfl⟩
  rw [← hw1] at hb0 hbx
  have hsp := spare_d (k := 3) (i := i) (s := s) (sa := sa) (pa := pa) (nl := cl.length) (np := cp.length) (sc := sc) (pc := pc) (w := w1)
  rw [hsp0] at hsp
  replace hb0 := hide1 hb0
  replace hbx := hide1 hbx
  obtain ⟨B, hBe⟩ : ∃ B, Hid (B = Lib.validD s) := ⟨_, hide1 rfl⟩
  rw [← hBe.out]
  go_enter Tryz.func44, Tryz.ntmps44
  go_wp2_with fail
  rw [← hw1]
  refine hsp.mono ?_
  rintro e w2 ⟨rfl, b2⟩
  have hB := hide1 (hb0.out.trans (b2.mono hb0.out.size))
  have hbx2 := (b2.block _ (Array.getElem?_eq_some_iff.1 hbx.out).1).trans hbx.out
  have c0 : w2.cell? ⟨w.heap.size, 0, none⟩ = some (.int .i64 (3)) := by simp only [World.cell?, hbx2]; rfl
  have c1 : w2.cell? ⟨w.heap.size, 1, none⟩ = some (.int .i64 i) := by simp only [World.cell?, hbx2]; rfl
  have c2 : w2.cell? ⟨w.heap.size, 2, none⟩ = some (.string (st s)) := by simp only [World.cell?, hbx2]; rfl
  have c3 : w2.cell? ⟨w.heap.size, 3, none⟩ = some (.slice sa cl.length sc) := by simp only [World.cell?, hbx2]; rfl
  have c4 : w2.cell? ⟨w.heap.size, 4, none⟩ = some (.slice pa cp.length pc) := by simp only [World.cell?, hbx2]; rfl
  have hcc := utf8_ValidString (st s) w2 (by rw [st_size]; exact hsz) (hT.below hB.out (by omega)).tb
  rw [st_data, ← hBe.out] at hcc
  clear hsp b2 hw1 hb0 hbx
  go_wp2_with fail
  refine hcc.mono ?_
  rintro e w3 ⟨rfl, b3⟩
  have hB3 := hide1 (hB.out.trans (b3.mono hB.out.size))
  clear hcc b3 hB
  go_wp2
  go_ret
  exact ⟨rfl, hB3.out⟩
set_option maxHeartbeats 4000000 in
set_option maxRecDepth 100000 in
theorem snd_4z {i : Int} {s : List UInt8} {sa pa : Option Addr} {cl cp : List (List Value)} {sc pc : Nat} {w : World} {D : Int} (hsp0 : spB 4 i s cl.length cp.length = false) (hD : D = 8) : Calls Tryz.prog 44 #[.agg #[.int .i64 4, .int .i64 i, .string (st s), .slice sa cl.length sc, .slice pa cp.length pc], .int .i64 D] w fun e w' => e = .returned (.bool false) ∧ Below w.heap.size w w' := by
  have hb0 := below_al (w := w) (.cells #[.int .i64 4, .int .i64 i, .string (st s), .slice sa cl.length sc, .slice pa cp.length pc] 55)
  have hbx := new_at w #[.int .i64 4, .int .i64 i, .string (st s), .slice sa cl.length sc, .slice pa cp.length pc] 55
  obtain ⟨w1, hw1⟩ : ∃ w1, w1 = w.alloc (.cells #[.int .i64 4, .int .i64 i, .string (st s), .slice sa cl.length sc, .slice pa cp.length pc] 55) := ⟨_, rfl⟩
  rw [← hw1] at hb0 hbx
  have hsp := spare_d (k := 4) (i := i) (s := s) (sa := sa) (pa := pa) (nl := cl.length) (np := cp.length) (sc := sc) (pc := pc) (w := w1)
  rw [hsp0] at hsp
  replace hb0 := hide1 hb0
  replace hbx := hide1 hbx
  subst hD
  go_enter Tryz.func44, Tryz.ntmps44
  go_wp2_with fail
  rw [← hw1]
  refine hsp.mono ?_
  rintro e w2 ⟨rfl, b2⟩
  have hB := hide1 (hb0.out.trans (b2.mono hb0.out.size))
  have hbx2 := (b2.block _ (Array.getElem?_eq_some_iff.1 hbx.out).1).trans hbx.out
  have c0 : w2.cell? ⟨w.heap.size, 0, none⟩ = some (.int .i64 (4)) := by simp only [World.cell?, hbx2]; rfl
  have c1 : w2.cell? ⟨w.heap.size, 1, none⟩ = some (.int .i64 i) := by simp only [World.cell?, hbx2]; rfl
  have c2 : w2.cell? ⟨w.heap.size, 2, none⟩ = some (.string (st s)) := by simp only [World.cell?, hbx2]; rfl
  have c3 : w2.cell? ⟨w.heap.size, 3, none⟩ = some (.slice sa cl.length sc) := by simp only [World.cell?, hbx2]; rfl
  have c4 : w2.cell? ⟨w.heap.size, 4, none⟩ = some (.slice pa cp.length pc) := by simp only [World.cell?, hbx2]; rfl
  clear hsp b2 hw1 hb0 hbx
  go_wp2
  go_ret
  exact ⟨rfl, hB.out⟩
set_option maxHeartbeats 4000000 in
set_option maxRecDepth 100000 in
theorem snd_4 {i : Int} {B : Bool} {s : List UInt8} {sa pa : Option Addr} {cl cp : List (List Value)} {sc pc : Nat} {w : World} {D : Int} (hsp0 : spB 4 i s cl.length cp.length = false) (hD : D < 8) (hD0 : 0 ≤ D) (hc : ∀ w2, Below w.heap.size w w2 → Calls Tryz.prog 85 #[.slice sa cl.length sc, .int .i64 (D + 1)] w2 fun e w3 => e = .returned (.bool B) ∧ Below w2.heap.size w2 w3) : Calls Tryz.prog 44 #[.agg #[.int .i64 4, .int .i64 i, .string (st s), .slice sa cl.length sc, .slice pa cp.length pc], .int .i64 D] w fun e w' => e = .returned (.bool B) ∧ Below w.heap.size w w' := by
  have hb0 := below_al (w := w) (.cells #[.int .i64 4, .int .i64 i, .string (st s), .slice sa cl.length sc, .slice pa cp.length pc] 55)
  have hbx := new_at w #[.int .i64 4, .int .i64 i, .string (st s), .slice sa cl.length sc, .slice pa cp.length pc] 55
  obtain ⟨w1, hw1⟩ : ∃ w1, w1 = w.alloc (.cells #[.int .i64 4, .int .i64 i, .string (st s), .slice sa cl.length sc, .slice pa cp.length pc] 55) := ⟨_, rfl⟩
  rw [← hw1] at hb0 hbx
  have hsp := spare_d (k := 4) (i := i) (s := s) (sa := sa) (pa := pa) (nl := cl.length) (np := cp.length) (sc := sc) (pc := pc) (w := w1)
  rw [hsp0] at hsp
  replace hb0 := hide1 hb0
  replace hbx := hide1 hbx
  replace hc := hide1 hc
  go_enter Tryz.func44, Tryz.ntmps44
  go_wp2_with fail
  rw [← hw1]
  refine hsp.mono ?_
  rintro e w2 ⟨rfl, b2⟩
  have hB := hide1 (hb0.out.trans (b2.mono hb0.out.size))
  have hbx2 := (b2.block _ (Array.getElem?_eq_some_iff.1 hbx.out).1).trans hbx.out
  have c0 : w2.cell? ⟨w.heap.size, 0, none⟩ = some (.int .i64 (4)) := by simp only [World.cell?, hbx2]; rfl
  have c1 : w2.cell? ⟨w.heap.size, 1, none⟩ = some (.int .i64 i) := by simp only [World.cell?, hbx2]; rfl
  have c2 : w2.cell? ⟨w.heap.size, 2, none⟩ = some (.string (st s)) := by simp only [World.cell?, hbx2]; rfl
  have c3 : w2.cell? ⟨w.heap.size, 3, none⟩ = some (.slice sa cl.length sc) := by simp only [World.cell?, hbx2]; rfl
  have c4 : w2.cell? ⟨w.heap.size, 4, none⟩ = some (.slice pa cp.length pc) := by simp only [World.cell?, hbx2]; rfl
  have hcc := hc.out w2 hB.out
  clear hsp b2 hw1 hb0 hbx
  go_wp2_with fail
  refine hcc.mono ?_
  rintro e w3 ⟨rfl, b3⟩
  have hB3 := hide1 (hB.out.trans (b3.mono hB.out.size))
  clear hcc b3 hB
  go_wp2
  go_ret
  exact ⟨rfl, hB3.out⟩
set_option maxHeartbeats 4000000 in
set_option maxRecDepth 100000 in
theorem snd_5z {i : Int} {s : List UInt8} {sa pa : Option Addr} {cl cp : List (List Value)} {sc pc : Nat} {w : World} {D : Int} (hsp0 : spB 5 i s cl.length cp.length = false) (hD : D = 8) : Calls Tryz.prog 44 #[.agg #[.int .i64 5, .int .i64 i, .string (st s), .slice sa cl.length sc, .slice pa cp.length pc], .int .i64 D] w fun e w' => e = .returned (.bool false) ∧ Below w.heap.size w w' := by
  have hb0 := below_al (w := w) (.cells #[.int .i64 5, .int .i64 i, .string (st s), .slice sa cl.length sc, .slice pa cp.length pc] 55)
  have hbx := new_at w #[.int .i64 5, .int .i64 i, .string (st s), .slice sa cl.length sc, .slice pa cp.length pc] 55
  obtain ⟨w1, hw1⟩ : ∃ w1, w1 = w.alloc (.cells #[.int .i64 5, .int .i64 i, .string (st s), .slice sa cl.length sc, .slice pa cp.length pc] 55) := ⟨_, rfl⟩
  rw [← hw1] at hb0 hbx
  have hsp := spare_d (k := 5) (i := i) (s := s) (sa := sa) (pa := pa) (nl := cl.length) (np := cp.length) (sc := sc) (pc := pc) (w := w1)
  rw [hsp0] at hsp
  replace hb0 := hide1 hb0
  replace hbx := hide1 hbx
  subst hD
  go_enter Tryz.func44, Tryz.ntmps44
  go_wp2_with fail
  rw [← hw1]
  refine hsp.mono ?_
  rintro e w2 ⟨rfl, b2⟩
  have hB := hide1 (hb0.out.trans (b2.mono hb0.out.size))
  have hbx2 := (b2.block _ (Array.getElem?_eq_some_iff.1 hbx.out).1).trans hbx.out
  have c0 : w2.cell? ⟨w.heap.size, 0, none⟩ = some (.int .i64 (5)) := by simp only [World.cell?, hbx2]; rfl
  have c1 : w2.cell? ⟨w.heap.size, 1, none⟩ = some (.int .i64 i) := by simp only [World.cell?, hbx2]; rfl
  have c2 : w2.cell? ⟨w.heap.size, 2, none⟩ = some (.string (st s)) := by simp only [World.cell?, hbx2]; rfl
  have c3 : w2.cell? ⟨w.heap.size, 3, none⟩ = some (.slice sa cl.length sc) := by simp only [World.cell?, hbx2]; rfl
  have c4 : w2.cell? ⟨w.heap.size, 4, none⟩ = some (.slice pa cp.length pc) := by simp only [World.cell?, hbx2]; rfl
  clear hsp b2 hw1 hb0 hbx
  go_wp2
  go_ret
  exact ⟨rfl, hB.out⟩
set_option maxHeartbeats 4000000 in
set_option maxRecDepth 100000 in
theorem snd_5 {i : Int} {B : Bool} {s : List UInt8} {sa pa : Option Addr} {cl cp : List (List Value)} {sc pc : Nat} {w : World} {D : Int} (hsp0 : spB 5 i s cl.length cp.length = false) (hD : D < 8) (hD0 : 0 ≤ D) (hc : ∀ w2, Below w.heap.size w w2 → Calls Tryz.prog 86 #[.agg #[.int .i64 5, .int .i64 i, .string (st s), .slice sa cl.length sc, .slice pa cp.length pc], .int .i64 (D + 1)] w2 fun e w3 => e = .returned (.bool B) ∧ Below w2.heap.size w2 w3) : Calls Tryz.prog 44 #[.agg #[.int .i64 5, .int .i64 i, .string (st s), .slice sa cl.length sc, .slice pa cp.length pc], .int .i64 D] w fun e w' => e = .returned (.bool B) ∧ Below w.heap.size w w' := by
  have hb0 := below_al (w := w) (.cells #[.int .i64 5, .int .i64 i, .string (st s), .slice sa cl.length sc, .slice pa cp.length pc] 55)
  have hbx := new_at w #[.int .i64 5, .int .i64 i, .string (st s), .slice sa cl.length sc, .slice pa cp.length pc] 55
  obtain ⟨w1, hw1⟩ : ∃ w1, w1 = w.alloc (.cells #[.int .i64 5, .int .i64 i, .string (st s), .slice sa cl.length sc, .slice pa cp.length pc] 55) := ⟨_, rfl⟩
  rw [← hw1] at hb0 hbx
  have hsp := spare_d (k := 5) (i := i) (s := s) (sa := sa) (pa := pa) (nl := cl.length) (np := cp.length) (sc := sc) (pc := pc) (w := w1)
  rw [hsp0] at hsp
  replace hb0 := hide1 hb0
  replace hbx := hide1 hbx
  replace hc := hide1 hc
  go_enter Tryz.func44, Tryz.ntmps44
  go_wp2_with fail
  rw [← hw1]
  refine hsp.mono ?_
  rintro e w2 ⟨rfl, b2⟩
  have hB := hide1 (hb0.out.trans (b2.mono hb0.out.size))
  have hbx2 := (b2.block _ (Array.getElem?_eq_some_iff.1 hbx.out).1).trans hbx.out
  have c0 : w2.cell? ⟨w.heap.size, 0, none⟩ = some (.int .i64 (5)) := by simp only [World.cell?, hbx2]; rfl
  have c1 : w2.cell? ⟨w.heap.size, 1, none⟩ = some (.int .i64 i) := by simp only [World.cell?, hbx2]; rfl
  have c2 : w2.cell? ⟨w.heap.size, 2, none⟩ = some (.string (st s)) := by simp only [World.cell?, hbx2]; rfl
  have c3 : w2.cell? ⟨w.heap.size, 3, none⟩ = some (.slice sa cl.length sc) := by simp only [World.cell?, hbx2]; rfl
  have c4 : w2.cell? ⟨w.heap.size, 4, none⟩ = some (.slice pa cp.length pc) := by simp only [World.cell?, hbx2]; rfl
  have hcc := hc.out w2 hB.out
  clear hsp b2 hw1 hb0 hbx
  go_wp2_with fail
  refine hcc.mono ?_
  rintro e w3 ⟨rfl, b3⟩
  have hB3 := hide1 (hB.out.trans (b3.mono hB.out.size))
  clear hcc b3 hB
  go_wp2
  go_ret
  exact ⟨rfl, hB3.out⟩
set_option maxHeartbeats 4000000 in
set_option maxRecDepth 100000 in
theorem snd_o {k i : Int} {s : List UInt8} {sa pa : Option Addr} {cl cp : List (List Value)} {sc pc : Nat} {w : World} {D : Int} (hsp0 : spB k i s cl.length cp.length = false) (k0 : k ≠ 0) (k1 : k ≠ 1) (k2 : k ≠ 2) (k3 : k ≠ 3) (k4 : k ≠ 4) (k5 : k ≠ 5) : Calls Tryz.prog 44 #[.agg #[.int .i64 k, .int .i64 i, .string (st s), .slice sa cl.length sc, .slice pa cp.length pc], .int .i64 D] w fun e w' => e = .returned (.bool false) ∧ Below w.heap.size w w' := by
  have hb0 := below_al (w := w) (.cells #[.int .i64 k, .int .i64 i, .string (st s), .slice sa cl.length sc, .slice pa cp.length pc] 55)
  have hbx := new_at w #[.int .i64 k, .int .i64 i, .string (st s), .slice sa cl.length sc, .slice pa cp.length pc] 55
  obtain ⟨w1, hw1⟩ : ∃ w1, w1 = w.alloc (.cells #[.int .i64 k, .int .i64 i, .string (st s), .slice sa cl.length sc, .slice pa cp.length pc] 55) := ⟨_, rfl⟩
  rw [← hw1] at hb0 hbx
  have hsp := spare_d (k := k) (i := i) (s := s) (sa := sa) (pa := pa) (nl := cl.length) (np := cp.length) (sc := sc) (pc := pc) (w := w1)
  rw [hsp0] at hsp
  replace hb0 := hide1 hb0
  replace hbx := hide1 hbx
  have d0 : (k == 0) = false := by simpa using k0
  have d1 : (k == 1) = false := by simpa using k1
  have d2 : (k == 2) = false := by simpa using k2
  have d3 : (k == 3) = false := by simpa using k3
  have d4 : (k == 4) = false := by simpa using k4
  have d5 : (k == 5) = false := by simpa using k5
  go_enter Tryz.func44, Tryz.ntmps44
  go_wp2_with fail
  rw [← hw1]
  refine hsp.mono ?_
  rintro e w2 ⟨rfl, b2⟩
  have hB := hide1 (hb0.out.trans (b2.mono hb0.out.size))
  have hbx2 := (b2.block _ (Array.getElem?_eq_some_iff.1 hbx.out).1).trans hbx.out
  have c0 : w2.cell? ⟨w.heap.size, 0, none⟩ = some (.int .i64 k) := by simp only [World.cell?, hbx2]; rfl
  have c1 : w2.cell? ⟨w.heap.size, 1, none⟩ = some (.int .i64 i) := by simp only [World.cell?, hbx2]; rfl
  have c2 : w2.cell? ⟨w.heap.size, 2, none⟩ = some (.string (st s)) := by simp only [World.cell?, hbx2]; rfl
  have c3 : w2.cell? ⟨w.heap.size, 3, none⟩ = some (.slice sa cl.length sc) := by simp only [World.cell?, hbx2]; rfl
  have c4 : w2.cell? ⟨w.heap.size, 4, none⟩ = some (.slice pa cp.length pc) := by simp only [World.cell?, hbx2]; rfl
  clear hsp b2 hw1 hb0 hbx
  go_wp2
  go_ret
  exact ⟨rfl, hB.out⟩
theorem sound_s {n : Nat} (hn : n ≤ 8) (ih : ∀ m, n = m + 1 → Sok m) : Sok n := by
  intro F w t c h hh hs hv hT h8
  cases h with
  | zero => exact hh.elim
  | succ h =>
  cases hv with
  | @mk k i s l p sl sp cl cp r1 r2 e1 e2 hl hp1 hp2 =>
    obtain ⟨b1, b2, hh1, hh2⟩ := hh
    obtain ⟨z0, z1, z2⟩ := hs
    obtain ⟨sa, sc, rfl⟩ := r1.slc
    obtain ⟨pa, pc, rfl⟩ := r2.slc
    unfold gd
    rw [← e1, ← e2]
    cases hsp : spB k i s cl.length cp.length with
    | true => exact snd_sp hsp
    | false =>
      simp only [Bool.not_false, Bool.true_and]
      by_cases k0 : k = 0
      · subst k0
        rw [if_pos rfl]
        exact snd_0 hsp
      rw [if_neg k0]
      by_cases k1 : k = 1
      · subst k1
        rw [if_pos rfl]
        by_cases i0 : i = 0
        · subst i0
          exact snd_10 hsp
        · by_cases i1 : i = 1
          · subst i1
            exact snd_11 hsp
          · rw [decide_eq_false (by omega)]
            exact snd_1o hsp i0 i1
      rw [if_neg k1]
      by_cases k2 : k = 2
      · subst k2
        rw [if_pos rfl]
        exact snd_2 hsp
      rw [if_neg k2]
      by_cases k3 : k = 3
      · subst k3
        rw [if_pos rfl]
        exact snd_3 hsp z0 hT h8
      rw [if_neg k3]
      by_cases k4 : k = 4
      · subst k4
        rw [if_pos rfl]
        cases n with
        | zero => exact snd_4z hsp rfl
        | succ n =>
          refine snd_4 hsp (by omega) (by omega) fun w2 hb => ?_
          rw [show ((8 - (n + 1) : Nat) : Int) + 1 = ((8 - n : Nat) : Int) by omega]
          exact sndL_d (ih n rfl) (r1.frame (w' := w2) (G := F) (fun j _ hj => hb.block j hj) (fun _ h _ => h)) e1 (by omega) hh1 z1 (fun j t c h1 h2 => (hl j t c h1 h2).frame (fun j _ hj => hb.block j hj) (fun _ h _ => h)) (hT.below hb (by omega)) (by have := hb.size; omega)
      rw [if_neg k4]
      by_cases k5 : k = 5
      · subst k5
        rw [if_pos rfl]
        cases n with
        | zero => exact snd_5z hsp rfl
        | succ n =>
          refine snd_5 hsp (by omega) (by omega) fun w2 hb => ?_
          rw [show ((8 - (n + 1) : Nat) : Int) + 1 = ((8 - n : Nat) : Int) by omega]
          exact (callsIn_wide (n := 5)).1 (sndP_in (ih n rfl) (r2.frame (w' := w2) (G := F) (fun j _ hj => hb.block j hj) (fun _ h _ => h)) e2 (by omega) hh2 z2 (fun j q c h1 h2 => ⟨hp1 j q c h1 h2, (hp2 j q c h1 h2).frame (fun j _ hj => hb.block j hj) (fun _ h _ => h)⟩) (hT.below hb (by omega)) (by have := hb.size; omega))
      rw [if_neg k5]
      exact snd_o hsp k0 k1 k2 k3 k4 k5
theorem sound_d : ∀ n, n ≤ 8 → Sok n
  | 0, h => sound_s h fun m e => by cases e
  | n + 1, h => sound_s h fun m e => by cases e; exact sound_d n (by omega)
theorem check_d {F : Nat → Prop} {w : World} {t : T} {c : List Value} {h : Nat} (hh : hgt h t) (hs : sbd h t) (hv : VA F w t c) (hT : Ev w) (h8 : 8 ≤ w.heap.size) : Calls Tryz.prog 30 #[.agg c.toArray] w fun e w' => e = .returned (if gd 8 t then .nilIface else .iface 64 (.int .i64 1)) ∧ Below w.heap.size w w' := by
  have hc5 := hv.len
  obtain ⟨y0, y1, y2, y3, y4, rfl⟩ := five_l hc5
  have hb0 := below_al (w := w) (.cells #[y0, y1, y2, y3, y4] 55)
  have hc := sound_d 8 (by omega) (c := [y0, y1, y2, y3, y4]) hh hs (hv.frame (fun j _ hj => hb0.block j hj) (fun _ h _ => h)) (hT.below hb0 (by omega)) (by have := hb0.size; omega)
  replace hc : Calls Tryz.prog 44 #[.agg #[y0, y1, y2, y3, y4], .int .i64 0] (w.alloc (.cells #[y0, y1, y2, y3, y4] 55)) _ := hc
  replace hb0 := hide1 hb0
  generalize gd 8 t = B at *
  clear hv hT hc5 hh hs
  show Calls Tryz.prog 30 #[.agg #[y0, y1, y2, y3, y4]] w _
  go_enter Tryz.func30, Tryz.ntmps30
  go_wp2_with fail
  refine hc.mono ?_
  rintro e w1 ⟨rfl, b1⟩
  replace b1 := hide1 (hb0.out.trans (b1.mono hb0.out.size))
  clear hc hb0
  cases B with
  | true =>
    go_wp2
    go_ret
    exact ⟨rfl, b1.out⟩
  | false =>
    go_wp2
    go_ret
    exact ⟨rfl, b1.out⟩
end Go.Proofs.YtdhmonlhlfkjbaaGreatDoor

/- KP12, KP15, KP16, KP13, KP14, KQ1, KB3, KT: laid together. -/
import Derived.WalkKit
import Derived.ProofKit
import Derived.OpenShut
import Derived.ChangeOld
import Derived.Lib.LaidU8
import Derived.Lib.LaidTab
import Derived.LaidLaws
import Derived.PinnedBridge
import Derived.Lay
import Derived.LaidMore
import Derived.Test.YthgndmgoilfpcaaGreatDoorG7
import Derived.Test.YthgndmgoilfpcaaGreatDoorG2
import Derived.Test.YthgndmgoilfpcaaGreatDoorG6
import Derived.Test.YthgndmgoilfpcaaGreatDoorG4
import Derived.Test.YthgndmgoilfpcaaGreatDoorG3
import Derived.Test.YthgndmgoilfpcaaGreatDoorRows
namespace Go.Proofs.YthgndmgoilfpcaaGreatDoor
open Go.RowKit

def AnPr (w : World) (B : List UInt8) (e : Ending) (w' : World) : Prop :=
  ∃ c, e = .returned (.tuple #[.agg c, .int .i64 (if (prsV B).isSome then 0 else prsE B)]) ∧ c.size = 5 ∧ c.all (·.oneCell') = true ∧ Below w.heap.size w w' ∧
    ((∃ t, prsV B = some t ∧ VA (w.heap.size ≤ ·) w' t c.toList) ∨ (prsV B = none ∧ c = zV))
set_option maxHeartbeats 16000000 in
set_option maxRecDepth 100000 in
theorem rparse_d {w : World} {a : Option Addr} {cap : Nat} {B : List UInt8} (h : BsA w (.slice a B.length cap) B) (hcap : B.length ≤ cap) : Calls Tryz.prog 12 #[.slice a B.length cap] w (AnPr w B) := by
  obtain ⟨wa, hwa⟩ : ∃ wa, wa = w.alloc (.cells #[.int .i64 0, .int .i64 0, .string ⟨#[]⟩, .slice none 0 0, .slice none 0 0] 28) := ⟨_, rfl⟩
  have ba : Below w.heap.size w wa := by rw [hwa]; exact below_al _
  have ra : wa.heap[w.heap.size]? = some (.cells #[.int .i64 0, .int .i64 0, .string ⟨#[]⟩, .slice none 0 0, .slice none 0 0] 28 (0, 0)) := by rw [hwa]; exact new_at w _ _
  have za : wa.heap.size = w.heap.size + 1 := by rw [hwa]; simp
  by_cases hl : 4096 < B.length
  · have hv : prsV B = none := by unfold prsV; rw [if_pos hl]
    have hE : prsE B = 10 := by unfold prsE; rw [if_pos hl]
    have hf : Hid (AnPr w B (.returned (.tuple #[.agg zV, .int .i64 10])) (wa.setRow w.heap.size zV)) := hide1 ⟨zV, by rw [hv, hE]; rfl, rfl, by kernel_rfl, blw_own ba (Nat.le_refl _) _, .inr ⟨hv, rfl⟩⟩
    have hz := hide1 (setRow_heap wa w.heap.size _ zV _ _ ra)
    have hl2 : (4096 : Int) < (B.length : Int) := by omega
    unfold zV at hf hz
    clear h hcap hv hE
    go_enter Tryz.func12, Tryz.ntmps12
    go_upto_region 1 with fail
    rw [← hwa]
    clear hwa
    go_wp2_with (refine wpList_store_row rfl Vt (.tmp 2) (.tmp 9) rfl w.heap.size #[.int .i64 0, .int .i64 0, .string ⟨#[]⟩, .slice none 0 0, .slice none 0 0] rfl rfl Vt _ ra (by kernel_rfl) rfl (by kernel_rfl) ?_)
    refine bodyPost_ret (results_vt rfl _ rfl rfl hz.out) rfl ?_
    exact hf.out
  have hB : B.length ≤ 4096 := by omega
  obtain ⟨wb, hwb⟩ : ∃ wb, wb = wa.alloc (.cells #[.slice a B.length cap, .int .i64 0, .bool false] 60) := ⟨_, rfl⟩
  have bb : Below w.heap.size w wb := by rw [hwb]; exact ba.alloc (by omega) _
  have rb : wb.heap[w.heap.size]? = some (.cells #[.int .i64 0, .int .i64 0, .string ⟨#[]⟩, .slice none 0 0, .slice none 0 0] 28 (0, 0)) := by
    rw [hwb]
    exact ((below_al (w := wa) _).block _ (by omega)).trans ra
  have tb : Tg (.slice a B.length cap) B (w.heap.size + 1) 0 false wb := by
    refine ⟨?_, h.below bb, fun hne x n c e => ?_, fun x n c e => by cases e; exact hcap⟩
    · rw [hwb, ← za]
      exact new_at wa _ _
    · cases e
      obtain ⟨a', cap', e, hb⟩ := h
      cases e
      obtain ⟨b, o, e, hlt, _⟩ := hb.resolve_left hne
      cases e
      show b ≠ _
      omega
  have hvl := vrk (sl := .slice a B.length cap) (g := w.heap.size + 1) hB 8 (by omega) tb (by omega)
  rw [List.drop_zero] at hvl
  obtain ⟨o, ho⟩ : ∃ o, Hid (pv 8 B = o) := ⟨_, hide1 rfl⟩
  rw [ho.out, show (8 : Int) - ((8 : Nat) : Int) = 0 by decide] at hvl
  have hpv : Hid (prsV B = o.bind fun tr => if (sk tr.2).isEmpty then some tr.1 else none) := hide1 (by unfold prsV; rw [if_neg hl, ho.out]; cases o <;> rfl)
  have hpE : Hid (prsE B = 1) := hide1 (by unfold prsE; rw [if_neg hl])
  have hl2 : ¬ (4096 : Int) < (B.length : Int) := by omega
  replace tb := hide1 tb
  replace bb := hide1 bb
  clear h ba ra
  go_enter Tryz.func12, Tryz.ntmps12
  go_upto_region 4 with fail
  rw [← hwa, ← hwb]
  clear hwa hwb za
  go_wp2_with fail
  refine hvl.mono ?_
  rintro e w1 ⟨c, q, rfl, hc5, hco, t1, k1, hq, hv⟩
  obtain ⟨x0, x1, x2, x3, x4, hce⟩ := five_l (l := c.toList) (by simpa using hc5)
  obtain rfl : c = #[x0, x1, x2, x3, x4] := by cases c; simp at hce; simp [hce]
  have r1 := (k1.block _ (Array.getElem?_eq_some_iff.1 rb).1 (by omega)).trans rb
  have hlt1 := (Array.getElem?_eq_some_iff.1 r1).1
  have bw1 := blw_kg bb.out (Nat.le_succ _) bb.out.size k1
  obtain ⟨w2, hw2⟩ : ∃ w2, w2 = (w1.alloc (.cells #[.int .i64 0, .int .i64 0, .string ⟨#[]⟩, .slice none 0 0, .slice none 0 0] 28)).setRow w1.heap.size #[x0, x1, x2, x3, x4] := ⟨_, rfl⟩
  have n2 := new_at w1 #[.int .i64 0, .int .i64 0, .string ⟨#[]⟩, .slice none 0 0, .slice none 0 0] 28
  have b2 : Below w1.heap.size w1 w2 := by rw [hw2]; exact blw_own (below_al _) (Nat.le_refl _) _
  have c2 : w2.heap[w1.heap.size]? = some (.cells #[x0, x1, x2, x3, x4] 28 (0, 0)) := by rw [hw2]; exact setRow_heap _ _ _ _ _ _ n2
  have t2 := t1.later b2
  have r2 := (b2.block _ hlt1).trans r1
  have bw2 := bw1.trans (b2.mono bw1.size)
  have hbl := blanks_t t2 (by omega) hB
  have hvz : ∀ t r, o = some (t, r) → VA (wb.heap.size ≤ ·) w2 t [x0, x1, x2, x3, x4] ∧ B.drop q = r ∧ q ≤ B.length := fun t r e => ⟨(hv t r e).1.frame (fun k _ hk => b2.block k hk) (fun _ h _ => h), (hv t r e).2⟩
  replace hvz := hide1 hvz
  replace c2 := hide1 c2
  replace r2 := hide1 r2
  replace bw2 := hide1 bw2
  have hsz1 : Hid (w.heap.size + 1 < w1.heap.size) := hide1 t1.lt
  have hbz : Hid (w.heap.size + 1 < wb.heap.size) := hide1 tb.out.lt
  clear hvl hv t1 k1 r1 hlt1 bw1 rb t2 tb bb hce
  go_upto_region 5 with (refine wpList_store_row rfl Vt (.tmp 5) (.tmp 14) rfl w1.heap.size #[x0, x1, x2, x3, x4] rfl rfl Vt _ n2 (by kernel_rfl) rfl hco ?_)
  rw [← hw2]
  generalize w1.heap.size = s5 at *
  clear hw2 n2 b2
  go_wp2_with fail
  refine hbl.mono ?_
  rintro e w3 ⟨rfl, q2, t3, k3, hs3, hpq, hq2⟩
  have r3 := (k3.block _ (Array.getElem?_eq_some_iff.1 r2.out).1 (by omega)).trans r2.out
  have c3 := (k3.block _ (Array.getElem?_eq_some_iff.1 c2.out).1 (by have := hsz1.out; omega)).trans c2.out
  have bw3 := blw_kg bw2.out (Nat.le_succ _) bw2.out.size k3
  have ccb := t3.c2
  have cca := t3.c1
  have hvz3 : ∀ t r, o = some (t, r) → VA (wb.heap.size ≤ ·) w3 t [x0, x1, x2, x3, x4] := fun t r e => (hvz.out t r e).1.frame (fun k hk hl => k3.block k hl (by have h1 : wb.heap.size ≤ k := hk; have := hbz.out; omega)) (fun _ h _ => h)
  have hbad : prsV B = none → Hid (AnPr w B (.returned (.tuple #[.agg zV, .int .i64 1])) (w3.setRow w.heap.size zV)) := fun hn => hide1 ⟨zV, by rw [hn, hpE.out]; rfl, rfl, by kernel_rfl, blw_own bw3 (Nat.le_refl _) _, .inr ⟨hn, rfl⟩⟩
  have hz := hide1 (setRow_heap w3 w.heap.size _ zV _ _ r3)
  have hz2 := hide1 (setRow_heap w3 w.heap.size _ #[x0, x1, x2, x3, x4] _ _ r3)
  unfold zV at hbad hz
  cases o with
  | none =>
    have hf := hbad hpv.out
    replace ccb : w3.cell? ⟨w.heap.size + 1, 2, none⟩ = some (.bool true) := ccb
    clear hbl hvz hvz3 hbad t3 k3 c2 r2 c3 bw3 bw2 hz2 cca hpv hpE
    go_wp2_with (refine wpList_store_row rfl Vt (.tmp 2) (.tmp 30) rfl w.heap.size #[.int .i64 0, .int .i64 0, .string ⟨#[]⟩, .slice none 0 0, .slice none 0 0] rfl rfl Vt _ r3 (by kernel_rfl) rfl (by kernel_rfl) ?_)
    refine bodyPost_ret (results_vt rfl _ rfl rfl hz.out) rfl ?_
    exact hf.out
  | some tr =>
    obtain ⟨t, r⟩ := tr
    obtain ⟨-, hdr, hqB⟩ := hvz.out t r rfl
    rw [hdr] at hs3
    have hq2B : q2 ≤ B.length := by omega
    have hlen := congrArg List.length hs3
    rw [List.length_drop] at hlen
    have hpv2 : prsV B = if (sk r).isEmpty then some t else none := hpv.out
    replace ccb : w3.cell? ⟨w.heap.size + 1, 2, none⟩ = some (.bool false) := ccb
    by_cases hqe : q2 = B.length
    · have hsk : (sk r).isEmpty = true := by
        rw [List.isEmpty_iff, ← List.length_eq_zero_iff]; omega
      rw [if_pos hsk] at hpv2
      have hf : Hid (AnPr w B (.returned (.tuple #[.agg #[x0, x1, x2, x3, x4], .int .i64 0])) (w3.setRow w.heap.size #[x0, x1, x2, x3, x4])) := hide1 ⟨_, by rw [hpv2]; rfl, rfl, hco, blw_own bw3 (Nat.le_refl _) _, .inl ⟨t, hpv2, (hvz3 t r rfl).frame (fun k hk _ => setRow_other w3 _ k _ (by have h1 : wb.heap.size ≤ k := hk; have := hbz.out; omega)) (fun k hk _ => by have h1 : wb.heap.size ≤ k := hk; have := hbz.out; show w.heap.size ≤ k; omega)⟩⟩
      have m0 : ((q2 : Int) != (B.length : Int)) = false := by simp; omega
      have hl5 : w3.rangeAt s5 0 [x0, x1, x2, x3, x4] := fun j z hj => by
        simp only [World.cell?, c3]
        rw [Nat.zero_add]
        simpa using hj
      clear hbl hvz hvz3 hbad t3 k3 c2 r2 c3 bw3 bw2 hz hpv hpE hpv2 hs3 hlen hsk hdr
      go_wp2_with (first
        | refine wpList_load_mid rfl 28 (.tmp 5) rfl s5 0 rfl [x0, x1, x2, x3, x4] _ hl5 Tryz.underlying28 rfl (by kernel_rfl) ?_
        | refine wpList_store_row rfl Vt (.tmp 2) (.tmp 31) rfl w.heap.size #[x0, x1, x2, x3, x4] rfl rfl Vt _ r3 (by kernel_rfl) rfl hco ?_)
      refine bodyPost_ret (results_vt rfl _ rfl rfl hz2.out) rfl ?_
      exact hf.out
    · have hsk : (sk r).isEmpty = false := by
        cases e : sk r with
        | nil => rw [e] at hlen; simp at hlen; omega
        | cons x m => rfl
      rw [hsk, if_neg (by simp)] at hpv2
      have hf := hbad hpv2
      have m0 : ((q2 : Int) != (B.length : Int)) = true := by simp; omega
      clear hbl hvz hvz3 hbad t3 k3 c2 r2 c3 bw3 bw2 hz2 hpv hpE hpv2 hs3 hlen hsk hdr
      go_wp2_with (refine wpList_store_row rfl Vt (.tmp 2) (.tmp 30) rfl w.heap.size #[.int .i64 0, .int .i64 0, .string ⟨#[]⟩, .slice none 0 0, .slice none 0 0] rfl rfl Vt _ r3 (by kernel_rfl) rfl (by kernel_rfl) ?_)
      refine bodyPost_ret (results_vt rfl _ rfl rfl hz.out) rfl ?_
      exact hf.out
end Go.Proofs.YthgndmgoilfpcaaGreatDoor

namespace Go.Proofs.YthgndmgoilfpcaaGreatDoor
open Go.RowKit Go.Shelf

theorem wpList_apc {w : World} {ops : Array Oper} {rest : List Oper} {o : Oper} {a : Act} {Q : Exit → Act → World → Prop} (hgd : o.guard = none) (s x : Operand)
    (ho : o.op = .call { callee := .builtin .append, args := #[s, x], argTypes := #[22, 22] }) (B : Nat) (v : Value) (l : List UInt8) (hs : a.eval s = v) (hown : Ow w B v l)
    (u : Value) (m : List UInt8) (hx : a.eval x = u) (hb : BsA w u m) (hn : l.length + m.length ≤ 140737488353280) (hB : B ≤ w.heap.size)
    (h : ∀ v' w', Ow w' B v' (l ++ m) → w.grownBy w' v.ownBlock → wpList Tryz.prog ops Q rest (a.put o.dst v') w') : wpList Tryz.prog ops Q (o :: rest) a w := by
  refine wpList_plain hgd fun K hK => ?_
  obtain ⟨i0, hi, he⟩ := Option.map_eq_some_iff.1 info_u8
  simp only [Prod.mk.injEq] at he
  obtain ⟨hz0, hz1, hz2⟩ := he
  obtain ⟨v', w', hr, h2, h3⟩ : ∃ v' w', (Builtin.append_ #[22, 22] o.type #[v, u]).run Tryz.prog w = .ok v' w' ∧ Ow w' B v' (l ++ m) ∧ w.grownBy w' v.ownBlock := by
    obtain ⟨ad, c, rfl, hm⟩ := hb
    cases ad with
    | none =>
      obtain rfl : m = [] := by
        rcases hm with h | ⟨_, _, e, _⟩
        · exact h
        · cases e
      refine ⟨v, w, ?_, by simpa using hown, ⟨rfl, rfl, rfl, Nat.le_refl _, fun _ _ _ => rfl⟩⟩
      rcases hown.2 with ⟨rfl, _⟩ | ⟨g, cap, cur, rfl, _, _, hnc, _⟩
      · simp [Builtin.append_, run_underlying Tryz.underlying22, sizeOf, typeInfo, hi, Builtin.lenOf, Builtin.firstCells]
      · simp [Builtin.append_, run_underlying Tryz.underlying22, sizeOf, typeInfo, hi, Builtin.lenOf, Builtin.firstCells, hnc, storeCells]
    | some ad =>
      have hnews : ∀ j u, (bv m)[j]? = some u → w.cell? (ad.add j) = some u := by
        intro j u hj
        rcases hm with rfl | ⟨b, off, e, hbl, hc⟩
        · simp [bv] at hj
        · cases e
          cases hmj : m[j]? with
          | none => rw [bv, List.getElem?_map, hmj] at hj; cases hj
          | some y =>
            rw [bv, List.getElem?_map, hmj] at hj
            cases hj
            rw [Addr.add_lit]
            exact hc j y hmj
      obtain ⟨v', w', hr, h4, h5, _⟩ := run_append_own (P := Tryz.prog) w B 22 o.type 5 i0 (.int .u8 0) 1 1 Tryz.underlying22 hi hz0 hz1 hz2 rfl (by decide) v l.length (bv l) hown ad m.length c (bv m) (by simp [bv]) hnews
        (by intro u hu; simp [bv] at hu; obtain ⟨z, _, rfl⟩ := hu; rfl) (by unfold maxLen; omega) (by omega) hB
      refine ⟨v', w', hr, ?_, h5⟩
      unfold Ow
      rw [bv_app, List.length_append]
      exact h4
  unfold Oper.wp execOp
  simp only [ho, resolve, invoke, builtin, Sem.run_bind, Sem.run_pure, Result.andThen_ok, List.map_toArray, List.map_cons, List.map_nil, hs, hx, hr]
  exact hK _ _ (h v' w' h2 h3)
theorem two_b (w : World) : BsA (w.alloc (.cells #[.int .u8 165, .int .u8 90] 5)) (.slice (some ⟨w.heap.size, 0, none⟩) 2 2) [165, 90] :=
  ⟨_, 2, rfl, .inr ⟨w.heap.size, 0, rfl, by simp, fun j x hj => by
    simp only [World.cell?, new_at]
    match j, hj with
    | 0, hj => cases hj; rfl
    | 1, hj => cases hj; rfl
    | j + 2, hj => simp at hj⟩⟩
def Mkd (w : World) (g cap : Nat) (l : List UInt8) : Prop := l.length + 2 ≤ cap ∧ cap ≤ maxLen ∧ ∃ cur, w.heap[g]? = some (.cells cur 5 (0, 0)) ∧ ∀ (j : Nat) (x : UInt8), (l ++ [165, 90])[j]? = some x → cur[j]? = some (Value.int .u8 (x.toNat : Nat))
theorem Mkd.below {w w' : World} {g cap : Nat} {l : List UInt8} (h : Mkd w g cap l) (hb : Below w.heap.size w w') : Mkd w' g cap l := by
  obtain ⟨h1, h2, cur, hg, r⟩ := h
  exact ⟨h1, h2, cur, (hb.block g (Array.getElem?_eq_some_iff.1 hg).1).trans hg, r⟩
theorem Mkd.bsa {w : World} {g cap : Nat} {l : List UInt8} (h : Mkd w g cap l) : BsA w (.slice (some ⟨g, 0, none⟩) l.length cap) l := by
  obtain ⟨h1, h2, cur, hg, r⟩ := h
  refine ⟨_, cap, rfl, .inr ⟨g, 0, rfl, (Array.getElem?_eq_some_iff.1 hg).1, fun j x hj => ?_⟩⟩
  simp only [World.cell?, hg]
  rw [Nat.zero_add]
  refine r j x ?_
  rw [List.getElem?_append_left (List.getElem?_eq_some_iff.1 hj).1]
  exact hj
theorem Ow.mkd {w : World} {B : Nat} {v : Value} {l : List UInt8} (h : Ow w B v (l ++ [165, 90])) : ∃ g cap, v = .slice (some ⟨g, 0, none⟩) (l.length + 2) cap ∧ B ≤ g ∧ Mkd w g cap l := by
  obtain ⟨h1, ⟨rfl, h2⟩ | ⟨g, cap, cur, rfl, hB, hg, hn, hm, hs, ht⟩⟩ := h
  · simp at h2
  · have e : (l ++ [165, 90]).length = l.length + 2 := by simp
    refine ⟨g, cap, by rw [e], hB, by omega, by omega, cur, hg, fun j x hj => ?_⟩
    have hjl := (List.getElem?_eq_some_iff.1 hj).1
    have e2 := congrArg (·[j]?) ht
    simp only [List.getElem?_take] at e2
    rw [if_pos (by omega)] at e2
    rw [← Array.getElem?_toList, e2]
    simp only [bv, List.getElem?_map, hj, Option.map_some]
set_option maxHeartbeats 1600000 in
set_option maxRecDepth 100000 in
theorem copy_a {w : World} {a : Option Addr} {cap : Nat} {l : List UInt8} (hb : BsA w (.slice a l.length cap) l) (hm : l.length ≤ 140737488351232) :
    Calls Tryz.prog 10 #[.slice a l.length cap] w fun e w' => ∃ g cap', e = .returned (.slice (some ⟨g, 0, none⟩) l.length cap') ∧ w.heap.size ≤ g ∧ Mkd w' g cap' l ∧ Below w.heap.size w w' := by
  obtain ⟨i0, hi, he⟩ := Option.map_eq_some_iff.1 info_u8
  simp only [Prod.mk.injEq] at he
  obtain ⟨hz0, hz1, hz2⟩ := he
  obtain ⟨w1, hmk, hown0, hg0⟩ := run_make_own (P := Tryz.prog) w w.heap.size 22 5 i0 (.int .u8 0) 1 Tryz.underlying22 hi hz0 hz1 .i64 .i64 (l.length + 2) (by rw [hz2]; omega) (by unfold maxLen; omega) (Nat.le_refl _)
  have ec : ((l.length + 2 : Nat) : Int) = (l.length : Int) + 2 := by omega
  rw [ec] at hmk
  replace hown0 : Ow w1 w.heap.size (.slice (some ⟨w.heap.size, 0, none⟩) 0 (l.length + 2)) [] := hown0
  have hb1 : Below w.heap.size w w1 := below_gr hg0 (fun k e => by cases e) (Nat.le_refl _)
  have hbs1 := hb.below hb1
  clear ec hi hz0 hz1 hz2 hg0
  go_enter Tryz.func10, Tryz.ntmps10
  go_wp2_with (first
    | (at_builtin; refine wpList_apc rfl (.tmp 6) (.tmp 7) rfl w.heap.size (.slice (some ⟨w.heap.size, 0, none⟩) 0 (l.length + 2)) [] rfl hown0 (.slice a l.length cap) l rfl hbs1 (by simp; omega) hb1.size ?_; intro v2 w2 hown2 hg2; have hb2 : Below w.heap.size w w2 := hb1.trans (below_gr hg2 (fun k e => hown0.block k e) hb1.size); clear hown0 hg2; rw [List.nil_append] at hown2)
    | (at_builtin; refine wpList_apc rfl (.tmp 8) (.tmp 9) rfl w.heap.size v2 l rfl (hown2.later (below_al _)) (.slice (some ⟨w2.heap.size, 0, none⟩) 2 2) [165, 90] rfl (two_b _) (by simp; omega) (by have := hb2.size; simp; omega) ?_; intro v3 w3 hown3 hg3; have hb3 : Below w.heap.size w w3 := (hb2.alloc hb2.size _).trans (below_gr hg3 (fun k e => hown2.block k e) (by have := hb2.size; simp; omega)); obtain ⟨g, cap3, hv3, hgb, hk3⟩ := hown3.mkd; have hk1 := hk3.1; have hk2 := hk3.2.1; unfold maxLen at hk2; clear hg3 hown3))
  go_ret
  exact ⟨g, cap3, rfl, hgb, hk3, hb3⟩
set_option maxHeartbeats 1600000 in
set_option maxRecDepth 100000 in
theorem kept_a {w : World} {g cap cap' : Nat} {a : Option Addr} {l : List UInt8} (hk : Mkd w g cap l) (hb : BsA w (.slice a l.length cap') l) :
    Calls Tryz.prog 13 #[.slice (some ⟨g, 0, none⟩) l.length cap, .slice a l.length cap'] w fun e w' => e = .returned (.bool true) ∧ w' = w := by
  have k1 := conv_b hk.bsa
  have k2 := conv_b hb
  have k3 : (binOp .neq 9 (.string (st l)) (.string (st l))).run Tryz.prog w = .ok (.bool (!decide (l = l))) w := str_ne l l w
  rw [decide_eq_true rfl] at k3
  obtain ⟨h3, h4, cur, hg, hr⟩ := hk
  unfold maxLen at h4
  have c1 : w.cell? ⟨g, l.length, none⟩ = some (.int .u8 165) := by
    simp only [World.cell?, hg]
    exact hr l.length 165 (by simp)
  have c2 : w.cell? ⟨g, l.length + 1, none⟩ = some (.int .u8 90) := by
    simp only [World.cell?, hg]
    exact hr (l.length + 1) 90 (by simp)
  clear hg hr
  go_enter Tryz.func13, Tryz.ntmps13
  go_wp2
  go_ret
  exact ⟨rfl, rfl⟩
end Go.Proofs.YthgndmgoilfpcaaGreatDoor

namespace Go.Proofs.YthgndmgoilfpcaaGreatDoor
open Go.RowKit Go.Maps

structure Odw (w w' : World) (g : Nat) : Prop where
  os : w'.os = w.os
  tape : w'.tape = w.tape
  output : w'.output = w.output
  size : w'.heap.size = w.heap.size
  block : ∀ k, k ≠ g → w'.heap[k]? = w.heap[k]?
def Rwu (w : World) (g n : Nat) : Prop := ∃ cur, w.heap[g]? = some (.cells cur 5 (0, 0)) ∧ ∀ j, j < n → ∃ z : Nat, z < 256 ∧ cur[j]? = some (Value.int .u8 (z : Int))
theorem Odw.refl (w : World) (g : Nat) : Odw w w g := ⟨rfl, rfl, rfl, rfl, fun _ _ => rfl⟩
theorem Odw.cell {w w' : World} {g i : Nat} {v : Value} (h : Odw w w' g) : Odw w (w'.setCell ⟨g, i, none⟩ v) g := by
  refine ⟨h.os, h.tape, h.output, by simp [h.size], fun k hk => ?_⟩
  rw [Below.heap_setCell _ _ _ _ (by simpa using hk)]
  exact h.block k hk
theorem Odw.below {w w' : World} {g B : Nat} (h : Odw w w' g) (hB : B ≤ g) : Below B w w' := ⟨h.os, h.tape, h.output, by rw [h.size]; exact Nat.le_refl _, fun k hk => h.block k (by omega)⟩
theorem Rwu.cell {w : World} {g n i y : Nat} (h : Rwu w g n) (hy : y < 256) (hi : i < n) : Rwu (w.setCell ⟨g, i, none⟩ (.int .u8 (y : Int))) g n := by
  obtain ⟨cur, h1, h2⟩ := h
  refine ⟨cur.setIfInBounds i (.int .u8 (y : Int)), by simp [World.setCell, h1, Array.getElem?_modify], fun j hj => ?_⟩
  by_cases e : j = i
  · subst e
    obtain ⟨z, _, h3⟩ := h2 j hj
    have := (Array.getElem?_eq_some_iff.1 h3).1
    exact ⟨y, hy, by simp [this]⟩
  · obtain ⟨z, hz, h3⟩ := h2 j hj
    exact ⟨z, hz, by rw [Array.getElem?_setIfInBounds_ne (by omega)]; exact h3⟩
theorem Mkd.rwu {w : World} {g cap : Nat} {l : List UInt8} (h : Mkd w g cap l) : Rwu w g l.length := by
  obtain ⟨_, _, cur, hg, hr⟩ := h
  refine ⟨cur, hg, fun j hj => ⟨(l[j]).toNat, (l[j]).toNat_lt, ?_⟩⟩
  exact hr j l[j] (by rw [List.getElem?_append_left hj, List.getElem?_eq_getElem hj])
set_option maxHeartbeats 1600000 in
set_option maxRecDepth 100000 in
theorem over_a {w : World} {g n cap : Nat} (h : Rwu w g n) (hn : n ≤ 140737488351232) :
    Calls Tryz.prog 15 #[.slice (some ⟨g, 0, none⟩) n cap] w fun e w' => e = .returned (.tuple #[]) ∧ Odw w w' g := by
  go_enter Tryz.func15, Tryz.ntmps15
  go_wp2
  go_loopw [5] (fun i wr => ∃ k : Nat, k ≤ n ∧ i = .int .i64 k ∧ Rwu wr g n ∧ Odw w wr g) (fun i _ => n - (intOf i).toNat)
  case atStart => exact ⟨0, by omega, rfl, h, Odw.refl w g⟩
  case round =>
    obtain ⟨k, hk, rfl, h8, hf⟩ := hrel
    by_cases hlt : k < n
    · obtain ⟨cur, h1, h2⟩ := id h8
      obtain ⟨z, hz, h3⟩ := h2 k hlt
      have c0 : wr.cell? ⟨g, k, none⟩ = some (.int .u8 (z : Int)) := by simp only [World.cell?, h1]; exact h3
      have f0 : wr.frozen? ⟨g, k, none⟩ = false := by simp [World.frozen?, h1]
      have hx1 := bits_lo_u8 .xor (z : Int) 255
      have hx2 := bits_hi_u8 .xor (z : Int) 255
      generalize hx0 : bits .xor .u8 (z : Int) 255 = x at *
      obtain ⟨y, rfl⟩ : ∃ y : Nat, x = (y : Int) := ⟨x.toNat, by omega⟩
      replace hx0 := hide1 hx0
      have h9 : Rwu (wr.setCell ⟨g, k, none⟩ (.int .u8 (y : Int))) g n := h8.cell (by omega) hlt
      have hf2 : Odw w (wr.setCell ⟨g, k, none⟩ (.int .u8 (y : Int))) g := hf.cell
      clear h2 h3 h1
      go_wp2_with fail
      rw [hx0.out]
      exact ⟨⟨k + 1, by omega, by go_num, h9, hf2⟩, by simp [intOf]; omega⟩
    · obtain rfl : k = n := by omega
      go_wp2
      go_end0
      exact ⟨rfl, hf⟩
end Go.Proofs.YthgndmgoilfpcaaGreatDoor

namespace Go.Proofs.YthgndmgoilfpcaaGreatDoor
open Go.RowKit

theorem valid_app : ∀ (k : Nat) {a b : List UInt8}, a.length ≤ k → Lib.validD a = true → Lib.validD (a ++ b) = Lib.validD b
  | 0, a, b, hk, _ => by
    have : a = [] := List.length_eq_zero_iff.1 (by omega)
    rw [this]; rfl
  | k + 1, a, b, hk, h => by
    by_cases ha : a = []
    · rw [ha]; rfl
    have h2 := h
    rw [Lib.validD_step a ha] at h2
    by_cases hbad : (Lib.decodeL a).1 = 65533 ∧ (Lib.decodeL a).2 = 1
    · rw [if_pos hbad] at h2; cases h2
    rw [if_neg hbad] at h2
    obtain ⟨q, e1, e2, e3, e4⟩ := dec_sw ha hbad
    have hw := Lib.decodeL_width a
    have e5 : Lib.decodeL (a ++ b) = Lib.decodeL a := by
      have : a ++ b = q ++ (a.drop (Lib.decodeL a).2 ++ b) := by rw [← List.append_assoc, ← e1]
      rw [this]; exact e4 _
    have hl := Lib.decodeL_le a ha
    rw [Lib.validD_step (a ++ b) (by simp [ha]), e5, if_neg hbad, List.drop_append_of_le_length hl]
    exact valid_app k (by rw [List.length_drop]; omega) h2
theorem sgn_ne0 (c : Nat) : sgn c ≠ [] := by
  unfold sgn
  split
  · simp
  · split
    · simp
    · split <;> simp
theorem fend_sgn {n c : Nat} {l : List UInt8} (hb : ¬ bdc c) (h : l = sgn c) (hn : l.length = n) : fend n c l = (c, n) := by
  unfold fend
  rw [if_neg]
  rintro (e | e)
  · exact hb e
  · exact e (by rw [← hn, List.take_length, h])
theorem fst_sgn {c : Nat} (h : ¬ bdc c) : fstR (sgn c) = (c, (sgn c).length) := by
  have hb := h
  unfold bdc at hb
  obtain ⟨l, hl⟩ : ∃ l, l = sgn c := ⟨_, rfl⟩
  rw [← hl]
  have hl2 := hl
  unfold sgn at hl2
  by_cases h1 : c < 128
  · rw [if_pos h1] at hl2
    rw [hl2, fst_c, of_u8 (by omega), if_pos h1, ← hl2]
    have hlen : l.length = 1 := by rw [hl2]; rfl
    unfold fgo
    rw [if_neg (by omega), hlen]
    exact fend_sgn h hl hlen
  rw [if_neg h1] at hl2
  by_cases h2 : c < 2048
  · rw [if_pos h2] at hl2
    have hlen : l.length = 2 := by rw [hl2]; rfl
    rw [hl2, fst_c, of_u8 (by omega), if_neg (by omega), if_neg (by omega), if_pos (by omega), ← hl2]
    have hf : fcl (192 + c / 64 - 192) (2 - 1) l.tail = some c := by
      rw [hl2]
      show fcl (192 + c / 64 - 192) 1 [UInt8.ofNat (128 + c % 64)] = some c
      rw [fcl, of_u8 (by omega), if_neg (by omega), fcl]
      refine congrArg some ?_
      omega
    unfold fgo
    rw [if_neg (by omega), hf, hlen]
    exact fend_sgn h hl hlen
  rw [if_neg h2] at hl2
  by_cases h3 : c < 65536
  · rw [if_pos h3] at hl2
    have hlen : l.length = 3 := by rw [hl2]; rfl
    rw [hl2, fst_c, of_u8 (by omega), if_neg (by omega), if_neg (by omega), if_neg (by omega), if_pos (by omega), ← hl2]
    have hf : fcl (224 + c / 4096 - 224) (3 - 1) l.tail = some c := by
      rw [hl2]
      show fcl (224 + c / 4096 - 224) 2 [UInt8.ofNat (128 + c / 64 % 64), UInt8.ofNat (128 + c % 64)] = some c
      rw [fcl, of_u8 (by omega), if_neg (by omega), fcl, of_u8 (by omega), if_neg (by omega), fcl]
      refine congrArg some ?_
      omega
    unfold fgo
    rw [if_neg (by omega), hf, hlen]
    exact fend_sgn h hl hlen
  · rw [if_neg h3] at hl2
    have hlen : l.length = 4 := by rw [hl2]; rfl
    rw [hl2, fst_c, of_u8 (by omega), if_neg (by omega), if_neg (by omega), if_neg (by omega), if_neg (by omega), ← hl2]
    have hf : fcl (240 + c / 262144 - 240) (4 - 1) l.tail = some c := by
      rw [hl2]
      show fcl (240 + c / 262144 - 240) 3 [UInt8.ofNat (128 + c / 4096 % 64), UInt8.ofNat (128 + c / 64 % 64), UInt8.ofNat (128 + c % 64)] = some c
      rw [fcl, of_u8 (by omega), if_neg (by omega), fcl, of_u8 (by omega), if_neg (by omega), fcl, of_u8 (by omega), if_neg (by omega), fcl]
      refine congrArg some ?_
      omega
    unfold fgo
    rw [if_neg (by omega), hf, hlen]
    exact fend_sgn h hl hlen
theorem enc_valid {c : Nat} (h : ¬ bdc c) : Lib.validD (enc c) = true := by
  rw [enc_sgn h]
  have hl : (sgn c).length ≠ 0 := fun e => sgn_ne0 c (List.length_eq_zero_iff.1 e)
  have hf := fst_sgn h
  rw [fst_eq] at hf
  obtain ⟨_, _, _, h4, h5, h6⟩ := frs_ok hf hl
  rw [Lib.validD_step _ h5, h4, if_neg h6, List.drop_length]
  rfl
theorem ql_valid : ∀ (n : Nat) {out l s r : List UInt8}, Lib.validD out = true → ql n out l = some (s, r) → Lib.validD s = true
  | n, out, l, s, r, ho, h => by
    cases hh : hp [34] l with
    | true => rw [ql_end hh] at h; cases h; exact ho
    | false =>
      cases hl : ltr l with
      | none => rw [ql_non hh hl] at h; cases h
      | some x =>
        obtain ⟨c, q⟩ := x
        cases n with
        | zero => rw [ql, if_neg (by simp [hh]), hl] at h; cases h
        | succ n =>
          rw [ql_go hh hl] at h
          refine ql_valid n ?_ h
          rw [valid_app _ (Nat.le_refl _) ho]
          refine enc_valid ?_
          unfold ltr at hl
          split at hl
          · exact esc_ok hl
          · cases hf : frs l with
            | mk c2 s2 =>
              by_cases hs : s2 = 0
              · subst hs
                have := (ltr_no hf).2
                unfold ltr at this
                rename_i h92
                rw [if_neg h92] at this
                rw [this] at hl; cases hl
              · obtain ⟨g1, g2, g3, g4, g5, g6⟩ := frs_ok hf hs
                cases l with
                | nil => exact absurd rfl g5
                | cons x m =>
                  unfold pln at hl
                  rw [dec_go, g4] at hl
                  split at hl
                  · cases hl
                  · cases hl; exact g3
theorem qt_valid {l s r : List UInt8} (h : qt l = some (s, r)) : Lib.validD s = true := by
  unfold qt at h
  split at h
  · exact ql_valid _ rfl h
  · cases h
theorem nm_rng {l r : List UInt8} {i : Int} (h : nm l = some (i, r)) : inR i = true := by
  unfold nm at h
  cases hq : nmO (hp [45] l) ((tk [45] l).takeWhile dg) with
  | none => rw [hq] at h; cases h
  | some k =>
    rw [hq] at h
    cases h
    unfold nmO at hq
    split at hq
    · cases hq
    · rename_i hn
      have : ¬ 9007199254740991 < dgs ((tk [45] l).takeWhile dg) := fun e => hn (.inr (.inr (.inl e)))
      rw [Option.some.injEq] at hq
      unfold inR
      rw [← hq]
      apply decide_eq_true
      split <;> omega
theorem pv_gd : ∀ (n : Nat) (l : List UInt8) (x : T) (r : List UInt8), pv n l = some (x, r) → l.length ≤ 4096 → gd n x = true
  | n, l, x, r, h, hN => by
    have a := sk_le l
    unfold pv at h
    generalize sk l = m at *
    cases m with
    | nil => cases h
    | cons b m =>
      simp only at h
      split at h
      · split at h
        · cases h; unfold gd; rfl
        · cases h
      · split at h
        · split at h
          · cases h; unfold gd; rfl
          · cases h
        · split at h
          · split at h
            · cases h; unfold gd; rfl
            · cases h
          · split at h
            · split at h
              · cases h
              · rename_i hq
                cases h
                have := qt_valid hq
                unfold gd
                rw [spB_f (by simp) (by simp) (by simp) (by simp)]
                simpa using this
            · split at h
              · cases n with
                | zero => cases h
                | succ n =>
                  simp only at h
                  split at h
                  · cases h
                  · rename_i hq
                    cases h
                    obtain ⟨g1, g2⟩ := rw_all (N := 4096) (Pp := fun x => gd n x = true) (fun l x r h hl => ⟨pv_gd n l x r h hl, pv_le n l x r h⟩) hq (by omega)
                    unfold gd
                    rw [spB_f (by simp) (by simp) (by simp) (by simp)]
                    simpa using g1
              · split at h
                · cases n with
                  | zero => cases h
                  | succ n =>
                    simp only at h
                    split at h
                    · cases h
                    · rename_i hq
                      split at h
                      · rename_i honc
                        cases h
                        obtain ⟨g1, g2⟩ := rw_all (N := 4096) (Pp := fun q : List UInt8 × T => Lib.validD q.1 = true ∧ gd n q.2 = true) (fun l x r h hl => by
                          refine ⟨?_, pr_le (pv_le n) h⟩
                          unfold pr at h
                          have b1 := sk_le l
                          split at h
                          · cases h
                          · rename_i s q hq
                            have b2 := qt_le hq
                            have b3 := sk_le q
                            have b4 := tk_le [58] (sk q)
                            split at h
                            · split at h
                              · cases h
                              · rename_i v t hv
                                cases h
                                exact ⟨qt_valid hq, pv_gd n _ _ _ hv (by omega)⟩
                            · cases h) hq (by omega)
                        unfold gd
                        rw [spB_f (by simp) (by simp) (by simp) (by simp)]
                        simp only [Bool.not_false, Bool.true_and]
                        rw [if_neg (by omega), if_neg (by omega), if_neg (by omega), if_neg (by omega), if_neg (by omega)]
                        simp only [if_true]
                        rw [honc, Bool.and_true, List.all_eq_true]
                        intro q hq
                        rw [(g1 q hq).1, (g1 q hq).2]
                        rfl
                      · cases h
                · split at h
                  · cases h
                  · rename_i hq
                    cases h
                    have := nm_rng hq
                    unfold gd
                    rw [spB_f (by simp) (by simp) (by simp) (by simp)]
                    simpa using this
end Go.Proofs.YthgndmgoilfpcaaGreatDoor

namespace Go.Proofs.YthgndmgoilfpcaaGreatDoor
open Go.RowKit

theorem enc_le4 {c : Nat} (h : ¬ bdc c) : (enc c).length ≤ 4 := by
  rw [enc_sgn h]
  unfold sgn
  split
  · simp
  · split
    · simp
    · split <;> simp
theorem ltr_ok {l r : List UInt8} {c : Nat} (hl : ltr l = some (c, r)) : ¬ bdc c := by
  have hl0 := hl
  unfold ltr at hl
  split at hl
  · exact esc_ok hl
  · cases hf : frs l with
    | mk c2 s2 =>
      by_cases hs : s2 = 0
      · subst hs
        rw [(ltr_no hf).2] at hl0; cases hl0
      · obtain ⟨g1, g2, g3, g4, g5, g6⟩ := frs_ok hf hs
        cases l with
        | nil => exact absurd rfl g5
        | cons x m =>
          unfold pln at hl
          rw [dec_go, g4] at hl
          split at hl
          · cases hl
          · cases hl; exact g3
theorem ql_l4 : ∀ (n : Nat) {out l s r : List UInt8}, ql n out l = some (s, r) → s.length ≤ out.length + 4 * l.length
  | n, out, l, s, r, h => by
    cases hh : hp [34] l with
    | true => rw [ql_end hh] at h; cases h; omega
    | false =>
      cases hl : ltr l with
      | none => rw [ql_non hh hl] at h; cases h
      | some x =>
        obtain ⟨c, q⟩ := x
        cases n with
        | zero => rw [ql, if_neg (by simp [hh]), hl] at h; cases h
        | succ n =>
          rw [ql_go hh hl] at h
          have h1 := ql_l4 n h
          have h2 := ltr_lt hl
          have h3 := enc_le4 (ltr_ok hl)
          rw [List.length_append] at h1
          omega
theorem qt_l4 {l s r : List UInt8} (h : qt l = some (s, r)) : s.length ≤ 4 * l.length := by
  unfold qt at h
  split at h
  · have h1 := ql_l4 _ h
    have h2 := tk_le [34] l
    simp only [List.length_nil] at h1
    omega
  · cases h
theorem sbd_leaf {h : Nat} {k i : Int} {s : List UInt8} (hs : s.length ≤ 100000) : sbd h (.mk k i s [] []) := by
  cases h with
  | zero => exact True.intro
  | succ h => exact ⟨by omega, by simp, by simp⟩
theorem pv_sbd : ∀ (n : Nat) (l : List UInt8) (x : T) (r : List UInt8), pv n l = some (x, r) → l.length ≤ 4096 → ∀ h, sbd h x
  | n, l, x, r, h, hN, hh => by
    have a := sk_le l
    unfold pv at h
    generalize sk l = m at *
    cases m with
    | nil => cases h
    | cons b m =>
      simp only at h
      split at h
      · split at h
        · cases h; exact sbd_leaf (by simp)
        · cases h
      · split at h
        · split at h
          · cases h; exact sbd_leaf (by simp)
          · cases h
        · split at h
          · split at h
            · cases h; exact sbd_leaf (by simp)
            · cases h
          · split at h
            · split at h
              · cases h
              · rename_i hq
                cases h
                have := qt_l4 hq
                exact sbd_leaf (by omega)
            · split at h
              · cases n with
                | zero => cases h
                | succ n =>
                  simp only at h
                  split at h
                  · cases h
                  · rename_i hq
                    cases h
                    obtain ⟨g1, g2⟩ := rw_all (N := 4096) (Pp := fun x => ∀ h, sbd h x) (fun l x r h hl => ⟨pv_sbd n l x r h hl, pv_le n l x r h⟩) hq (by omega)
                    cases hh with
                    | zero => exact True.intro
                    | succ hh => exact ⟨by simp, fun t ht => g1 t ht hh, by simp⟩
              · split at h
                · cases n with
                  | zero => cases h
                  | succ n =>
                    simp only at h
                    split at h
                    · cases h
                    · rename_i hq
                      split at h
                      · cases h
                        obtain ⟨g1, g2⟩ := rw_all (N := 4096) (Pp := fun q : List UInt8 × T => q.1.length ≤ 100000 ∧ ∀ h, sbd h q.2) (fun l x r h hl => by
                          refine ⟨?_, pr_le (pv_le n) h⟩
                          unfold pr at h
                          have b1 := sk_le l
                          split at h
                          · cases h
                          · rename_i s q hq
                            have b2 := qt_le hq
                            have b3 := sk_le q
                            have b4 := tk_le [58] (sk q)
                            have b5 := qt_l4 hq
                            split at h
                            · split at h
                              · cases h
                              · rename_i v t hv
                                cases h
                                exact ⟨by show s.length ≤ 100000; omega, pv_sbd n _ _ _ hv (by omega)⟩
                            · cases h) hq (by omega)
                        cases hh with
                        | zero => exact True.intro
                        | succ hh => exact ⟨by simp, by simp, fun q hq => ⟨by have := (g1 q hq).1; omega, (g1 q hq).2 hh⟩⟩
                      · cases h
                · split at h
                  · cases h
                  · cases h; exact sbd_leaf (by simp)
end Go.Proofs.YthgndmgoilfpcaaGreatDoor

namespace Go.Proofs.YthgndmgoilfpcaaGreatDoor
open Go.RowKit Go.Shelf

set_option maxRecDepth 100000 in
theorem num_10 (w : World) : Calls Tryz.prog 14 #[.iface 52 (.int .i64 10)] w fun e w' => e = .returned (.int .i64 10) ∧ w' = w := by
  have has : ∀ w, (Instr.typeAssert (.iface 52 (.int .i64 10)) 30 52 true).run Tryz.prog w = .ok (.tuple #[.int .i64 10, .bool true]) w := fun w => by kernel_rfl
  go_enter Tryz.func14, Tryz.ntmps14
  go_wp2
  go_ret
  exact ⟨rfl, rfl⟩
def bxw (w : World) (c : Array Value) : World := (w.alloc (.cells #[.int .i64 0, .int .i64 0, .string ⟨#[]⟩, .slice none 0 0, .slice none 0 0] 28)).setRow w.heap.size c
theorem bxw_z (w : World) : (w.alloc (.cells #[.int .i64 0, .int .i64 0, .string ⟨#[]⟩, .slice none 0 0, .slice none 0 0] 28)).heap[w.heap.size]? = some (.cells #[.int .i64 0, .int .i64 0, .string ⟨#[]⟩, .slice none 0 0, .slice none 0 0] 28 (0, 0)) := by
  show (w.heap.push _)[w.heap.size]? = _
  rw [Array.getElem?_push, if_pos rfl]
theorem bxw_at (w : World) (c : Array Value) : (bxw w c).heap[w.heap.size]? = some (.cells c 28 (0, 0)) := setRow_heap _ w.heap.size _ c _ _ (bxw_z w)
theorem bxw_bl (w : World) (c : Array Value) : Below w.heap.size w (bxw w c) := ⟨rfl, rfl, rfl, by simp [bxw, World.setRow], fun k hk => (setRow_other _ _ k _ (by omega)).trans (by
  show (w.heap.push _)[k]? = _
  rw [Array.getElem?_push, if_neg (by omega)])⟩
theorem bxw_sz (w : World) (c : Array Value) : (bxw w c).heap.size = w.heap.size + 1 := by simp [bxw, World.setRow]
def tz0 : T := .mk 0 0 [] [] []
theorem arr5q {c : Array Value} (h : c.size = 5) : ∃ a b d e f, c = #[a, b, d, e, f] := by
  obtain ⟨x0, x1, x2, x3, x4, hce⟩ := five_l (l := c.toList) (by simpa using h)
  exact ⟨x0, x1, x2, x3, x4, by cases c; simp at hce; simp [hce]⟩
structure Pq (l : List UInt8) (ev : Value) (bad : Int) (t : T) : Prop where
  num : ∀ w, Calls Tryz.prog 14 #[ev] w fun e w' => e = .returned (.int .i64 bad) ∧ w' = w
  hgt : hgt 9 t
  good : bad = 0 → gd 8 t = true ∧ sbd 9 t
  p : ∀ {w w' : World} {e : Ending}, AnX w l e w' → ∃ c, e = .returned (.tuple #[.agg c, ev]) ∧ c.size = 5 ∧ c.all (·.oneCell') = true ∧ Below w.heap.size w w' ∧ VA (w.heap.size ≤ ·) w' t c.toList
  r : ∀ {w w' : World} {e : Ending}, AnPr w l e w' → ∃ c, e = .returned (.tuple #[.agg c, .int .i64 bad]) ∧ c.size = 5 ∧ c.all (·.oneCell') = true ∧ Below w.heap.size w w' ∧ VA (w.heap.size ≤ ·) w' t c.toList
theorem hgt_tz0 : hgt 9 tz0 := ⟨by simp, by simp, by simp, by simp⟩
theorem pq_of (l : List UInt8) : ∃ ev bad t, Pq l ev bad t := by
  cases h : prsV l with
  | none =>
    have hE : prsE l = 10 ∨ prsE l = 1 := by unfold prsE; split <;> simp
    refine ⟨.iface 52 (.int .i64 (prsE l)), prsE l, tz0, ?_, hgt_tz0, (fun e => by rcases hE with h | h <;> rw [h] at e <;> cases e), ?_, ?_⟩
    · rcases hE with e | e <;> rw [e]
      · exact num_10
      · exact num_1
    · rintro w w' e ⟨c, ev, rfl, h1, h2, h3, h4⟩
      rcases h4 with ⟨t, e, _⟩ | ⟨_, rfl, rfl⟩
      · rw [h] at e; cases e
      · exact ⟨zV, rfl, rfl, by kernel_rfl, h3, VA.leaf 0 0 []⟩
    · rintro w w' e ⟨c, rfl, h1, h2, h3, h4⟩
      rcases h4 with ⟨t, e, _⟩ | ⟨_, rfl⟩
      · rw [h] at e; cases e
      · exact ⟨zV, by rw [h]; rfl, rfl, by kernel_rfl, h3, VA.leaf 0 0 []⟩
  | some t =>
    have hl : l.length ≤ 4096 := by
      unfold prsV at h
      split at h
      · cases h
      · omega
    obtain ⟨r, hp⟩ : ∃ r, pv 8 l = some (t, r) := by
      unfold prsV at h
      rw [if_neg (by omega)] at h
      cases hpv : pv 8 l with
      | none => rw [hpv] at h; cases h
      | some x =>
        rw [hpv] at h
        obtain ⟨t', r⟩ := x
        simp only at h
        split at h
        · cases h; exact ⟨r, rfl⟩
        · cases h
    refine ⟨.nilIface, 0, t, num_0, pv_hgt 8 l t r hp hl, fun _ => ⟨pv_gd 8 l t r hp hl, pv_sbd 8 l t r hp hl 9⟩, ?_, ?_⟩
    · rintro w w' e ⟨c, ev, rfl, h1, h2, h3, h4⟩
      rcases h4 with ⟨t', e, rfl, hv⟩ | ⟨e, _⟩
      · rw [h] at e; cases e
        exact ⟨c, rfl, h1, h2, h3, hv⟩
      · rw [h] at e; cases e
    · rintro w w' e ⟨c, rfl, h1, h2, h3, h4⟩
      rcases h4 with ⟨t', e, hv⟩ | ⟨e, _⟩
      · rw [h] at e; cases e
        exact ⟨c, by rw [h]; rfl, h1, h2, h3, hv⟩
      · rw [h] at e; cases e
set_option maxHeartbeats 16000000 in
set_option maxRecDepth 100000 in
theorem parses_walk {w : World} {a : Option Addr} {cap : Nat} {l : List UInt8} (hb : BsA w (.slice a l.length cap) l) (hcap : l.length ≤ cap) (hm : l.length ≤ 140737488351232) (hT : Ev w) (h8 : 8 ≤ w.heap.size) :
    Calls Tryz.prog 3 #[.slice a l.length cap] w fun e w' => e = .returned (.bool true) ∧ Below w.heap.size w w' := by
  obtain ⟨ev, bad, t, hq⟩ := pq_of l
  replace hq := hide1 hq
  have hal := alive_j hT h8
  obtain ⟨N, hN⟩ : ∃ N, Hid (N = l.length) := ⟨_, hide1 rfl⟩
  replace hb := hide1 hb
  replace hT := hide1 hT
  replace hm := hide1 hm
  replace hcap := hide1 hcap
  go_enter Tryz.func3, Tryz.ntmps3
  go_wp2_with fail
  refine hal.mono ?_
  rintro e w1 ⟨rfl, b1⟩
  have hb1 := hide1 (hb.out.below b1)
  have hcp := copy_a hb1.out hm.out
  replace b1 := hide1 b1
  clear hal
  go_wp2_with fail
  refine hcp.mono ?_
  rintro e w2 ⟨g, c2, rfl, hg, hk2, b2⟩
  have hgs : g < w2.heap.size := by
    obtain ⟨_, _, cur, hc, _⟩ := hk2
    exact (Array.getElem?_eq_some_iff.1 hc).1
  have B2 := hide1 (b1.out.trans (b2.mono b1.out.size))
  have hb2 := hide1 (hb1.out.below b2)
  have hpr := parse_d hk2.bsa (hT.out.below B2.out (by omega)) (by have := B2.out.size; omega)
  have hwg : w.heap.size ≤ g := by have := b1.out.size; omega
  replace hk2 := hide1 hk2
  clear hcp b2 hg b1 hb1
  go_wp2_with fail
  refine hpr.mono ?_
  intro e w3 h3
  obtain ⟨c, rfl, hc5, hco, b3, hv3⟩ := hq.out.p h3
  obtain ⟨c0, c1, c2', c3, c4, rfl⟩ := arr5q hc5
  have hAo := hide1 hco
  have B3 := hide1 (B2.out.trans (b3.mono B2.out.size))
  have hb3 := hide1 (hb2.out.below b3)
  have hk3 := hide1 (hk2.out.below b3)
  have hsz3 := b3.size
  clear hpr h3 hco b3 hb2 hk2
  go_upto_region 5 with (refine wpList_store_row rfl 28 (.tmp 4) (.tmp 15) rfl w3.heap.size #[c0, c1, c2', c3, c4] rfl rfl 28 _ (bxw_z w3) (by kernel_rfl) rfl hAo.out ?_)
  have haA := bxw_at w3 #[c0, c1, c2', c3, c4]
  have hlA := bxw_bl w3 #[c0, c1, c2', c3, c4]
  have hsA := bxw_sz w3 #[c0, c1, c2', c3, c4]
  generalize hwe : bxw w3 #[c0, c1, c2', c3, c4] = wA at *
  rw [show (w3.alloc (.cells #[.int .i64 0, .int .i64 0, .string ⟨#[]⟩, .slice none 0 0, .slice none 0 0] 28)).setRow w3.heap.size #[c0, c1, c2', c3, c4] = wA from hwe]
  clear hwe
  have hvA := hide1 (VA.frame (c := [c0, c1, c2', c3, c4]) hv3 (w' := wA) (G := (w2.heap.size ≤ ·)) (fun j _ hj => hlA.block j hj) (fun _ h _ => h))
  have BA := hide1 (B3.out.trans (hlA.mono B3.out.size))
  have hbA := hide1 (hb3.out.below hlA)
  have hkA := hide1 (hk3.out.below hlA)
  have hq3 : w3.heap.size < wA.heap.size := by omega
  have hrp := rparse_d hbA.out hcap.out
  replace haA := hide1 haA
  clear hlA hb3 B3 hk3 hv3 hsA
  go_wp2_with fail
  refine hrp.mono ?_
  intro e w4 h4
  obtain ⟨d, rfl, hd5, hdo, b4, hv4⟩ := hq.out.r h4
  obtain ⟨d0, d1, d2, d3, d4, rfl⟩ := arr5q hd5
  have hDo := hide1 hdo
  have B4 := hide1 (BA.out.trans (b4.mono BA.out.size))
  have hb4 := hide1 (hbA.out.below b4)
  have hk4 := hide1 (hkA.out.below b4)
  have hA4 := hide1 ((b4.block _ hq3).trans haA.out)
  have hvB := hide1 (VA.frame (c := [c0, c1, c2', c3, c4]) hvA.out (w' := w4) (G := (w2.heap.size ≤ ·)) (fun j _ hj => b4.block j hj) (fun _ h _ => h))
  have hsz4 := b4.size
  clear hrp h4 hdo b4 hbA hkA haA hvA BA
  go_upto_region 6 with (refine wpList_store_row rfl 28 (.tmp 6) (.tmp 20) rfl w4.heap.size #[d0, d1, d2, d3, d4] rfl rfl 28 _ (bxw_z w4) (by kernel_rfl) rfl hDo.out ?_)
  have haC := bxw_at w4 #[d0, d1, d2, d3, d4]
  have hlC := bxw_bl w4 #[d0, d1, d2, d3, d4]
  have hsC := bxw_sz w4 #[d0, d1, d2, d3, d4]
  generalize hwe : bxw w4 #[d0, d1, d2, d3, d4] = wC at *
  rw [show (w4.alloc (.cells #[.int .i64 0, .int .i64 0, .string ⟨#[]⟩, .slice none 0 0, .slice none 0 0] 28)).setRow w4.heap.size #[d0, d1, d2, d3, d4] = wC from hwe]
  clear hwe
  have hvC := hide1 (VA.frame (c := [c0, c1, c2', c3, c4]) hvB.out (w' := wC) (G := (w2.heap.size ≤ ·)) (fun j _ hj => hlC.block j hj) (fun _ h _ => h))
  have hvD := hide1 (VA.frame (c := [d0, d1, d2, d3, d4]) hv4 (w' := wC) (G := (wA.heap.size ≤ ·)) (fun j _ hj => hlC.block j hj) (fun _ h _ => h))
  have BC := hide1 (B4.out.trans (hlC.mono B4.out.size))
  have hbC := hide1 (hb4.out.below hlC)
  have hkC := hide1 (hk4.out.below hlC)
  have hA5 := hide1 ((hlC.block _ (by omega)).trans hA4.out)
  have hq4 : w4.heap.size < wC.heap.size := by omega
  have hkp := kept_a hkC.out hbC.out
  have hnm := hq.out.num wC
  replace haC := hide1 haC
  clear hlC hb4 B4 hk4 hv4 hsC hA4 hvB hbC
  go_wp2_with fail
  refine hkp.mono ?_
  rintro e w5 ⟨rfl, rfl⟩
  clear hkp
  go_wp2_with fail
  refine hnm.mono ?_
  rintro e w6 ⟨rfl, rfl⟩
  clear hnm
  have hov := over_a (cap := c2) hkC.out.rwu hm.out
  have hsCw := BC.out.size
  go_wp2_with fail
  refine hov.mono ?_
  rintro e w7 ⟨rfl, od⟩
  have hvC7 := hide1 (VA.frame (c := [c0, c1, c2', c3, c4]) hvC.out (w' := w7) (G := fun _ => True) (fun j hj _ => od.block j (by have h1 : w2.heap.size ≤ j := hj; omega)) (fun _ _ _ => trivial))
  have hvD7 := hide1 (VA.frame (c := [d0, d1, d2, d3, d4]) hvD.out (w' := w7) (G := fun _ => True) (fun j hj _ => od.block j (by have h1 : wA.heap.size ≤ j := hj; omega)) (fun _ _ _ => trivial))
  have B7 := hide1 (BC.out.trans ((od.below (Nat.le_refl g)).mono hwg))
  have hA7 := (od.block _ (show w3.heap.size ≠ g by omega)).trans hA5.out
  have hC7 := (od.block _ (show w4.heap.size ≠ g by omega)).trans haC.out
  have hs7 := od.size
  clear hov od hvC hvD BC hA5 haC hkC
  have a0 : w7.cell? ⟨w3.heap.size, 0, none⟩ = some c0 := by simp only [World.cell?, hA7]; rfl
  have a1 : w7.cell? ⟨w3.heap.size, 1, none⟩ = some c1 := by simp only [World.cell?, hA7]; rfl
  have a2 : w7.cell? ⟨w3.heap.size, 2, none⟩ = some c2' := by simp only [World.cell?, hA7]; rfl
  have a3 : w7.cell? ⟨w3.heap.size, 3, none⟩ = some c3 := by simp only [World.cell?, hA7]; rfl
  have a4 : w7.cell? ⟨w3.heap.size, 4, none⟩ = some c4 := by simp only [World.cell?, hA7]; rfl
  have k0 : w7.cell? ⟨w4.heap.size, 0, none⟩ = some d0 := by simp only [World.cell?, hC7]; rfl
  have k1 : w7.cell? ⟨w4.heap.size, 1, none⟩ = some d1 := by simp only [World.cell?, hC7]; rfl
  have k2 : w7.cell? ⟨w4.heap.size, 2, none⟩ = some d2 := by simp only [World.cell?, hC7]; rfl
  have k3 : w7.cell? ⟨w4.heap.size, 3, none⟩ = some d3 := by simp only [World.cell?, hC7]; rfl
  have k4 : w7.cell? ⟨w4.heap.size, 4, none⟩ = some d4 := by simp only [World.cell?, hC7]; rfl
  have hex := ex_d 9 (c := [c0, c1, c2', c3, c4]) (c' := [d0, d1, d2, d3, d4]) hq.out.hgt hvC7.out hvD7.out
  rw [(exB_eq (hgt_ht hq.out.hgt)).2 rfl] at hex
  replace hex : Calls Tryz.prog 16 #[.agg #[c0, c1, c2', c3, c4], .agg #[d0, d1, d2, d3, d4]] w7 _ := hex
  replace hA7 := hide1 hA7
  replace hC7 := hide1 hC7
  by_cases hz : bad = 0
  · obtain ⟨hgd, hsb⟩ := hq.out.good hz
    subst hz
    have hck : ∀ w8, Below w7.heap.size w7 w8 → Calls Tryz.prog 17 #[.agg #[c0, c1, c2', c3, c4]] w8 fun e w' => e = .returned .nilIface ∧ Below w8.heap.size w8 w' := fun w8 b8 => by
      have h := check_d (c := [c0, c1, c2', c3, c4]) hq.out.hgt hsb (VA.frame hvC7.out (w' := w8) (G := fun _ => True) (fun j _ hj => b8.block j hj) (fun _ _ _ => trivial)) (hT.out.below (B7.out.trans (b8.mono (by omega))) (by omega)) (by have := b8.size; omega)
      rw [hgd] at h
      exact h
    replace hck := hide1 hck
    replace hgd := hide1 hgd
    replace hsb := hide1 hsb
    go_wp2_with fail
    refine hex.mono ?_
    rintro e w8 ⟨rfl, b8⟩
    have c8 := hck.out w8 b8
    have B8 := hide1 (B7.out.trans (b8.mono (by omega)))
    have hA8 := (b8.block _ (by omega)).trans hA7.out
    have hs8 := b8.size
    clear hex a0 a1 a2 a3 a4 k0 k1 k2 k3 k4 hck b8
    have a0 : w8.cell? ⟨w3.heap.size, 0, none⟩ = some c0 := by simp only [World.cell?, hA8]; rfl
    have a1 : w8.cell? ⟨w3.heap.size, 1, none⟩ = some c1 := by simp only [World.cell?, hA8]; rfl
    have a2 : w8.cell? ⟨w3.heap.size, 2, none⟩ = some c2' := by simp only [World.cell?, hA8]; rfl
    have a3 : w8.cell? ⟨w3.heap.size, 3, none⟩ = some c3 := by simp only [World.cell?, hA8]; rfl
    have a4 : w8.cell? ⟨w3.heap.size, 4, none⟩ = some c4 := by simp only [World.cell?, hA8]; rfl
    replace hA8 := hide1 hA8
    go_wp2_with fail
    refine c8.mono ?_
    rintro e w9 ⟨rfl, b9⟩
    have B9 := hide1 (B8.out.trans (b9.mono (by omega)))
    clear c8 b9 a0 a1 a2 a3 a4
    go_wp2
    go_ret
    exact ⟨rfl, B9.out⟩
  · have hzb : (bad != 0) = true := by simpa using hz
    replace hz := hide1 hz
    go_wp2_with fail
    refine hex.mono ?_
    rintro e w8 ⟨rfl, b8⟩
    have B8 := hide1 (B7.out.trans (b8.mono (by omega)))
    clear hex b8 a0 a1 a2 a3 a4 k0 k1 k2 k3 k4
    go_wp2
    go_ret
    exact ⟨rfl, B8.out⟩
end Go.Proofs.YthgndmgoilfpcaaGreatDoor

namespace Go.Proofs.YthgndmgoilfpcaaGreatDoor
open Go.ChangeShapes Go.WideShapes Go.ChangeAt Go.RowKit
section
variable {H : Type} {enc : TypeId × Value → H} {W : World} {held : Bool}
theorem ints_inA {k : IntKind} {t e : TypeId} {a : Option Addr} {len cap fuel : Nat} {x : DataW H × List MemPlace} (ht : Tryz.prog.underlying t = some (.slice e)) (he : Tryz.prog.underlying e = some (.int k)) (hc : Tryz.prog.cellsOf e = 1)
    (h : DataW.trod enc Tryz.prog W 0 (fun _ => true) held fuel t [.slice a len cap] = some x) : ∃ zs : List Int, zs.length = len ∧ len ≤ cap ∧ (∀ z ∈ zs, (Lit.int k z).wf = true) ∧ (zs = [] ∨ ∃ b o, a = some ⟨b, o, none⟩ ∧ b < W.heap.size ∧ ∀ (j : Nat) (z : Int), zs[j]? = some z → W.cell? ⟨b, o + j, none⟩ = some (.int k z)) := by
  rcases open_ints ht he hc h with ⟨hcs, _⟩ | ⟨x, l, c, zs, hcs, _, hl, hm, hz, _, hcell, hwz⟩
  · cases hcs
    exact ⟨[], rfl, Nat.le_refl _, by simp, .inl rfl⟩
  · cases hcs
    simp only [if_true] at hz
    refine ⟨zs.take len, by simp; omega, hl, fun z h => hwz z (List.mem_of_mem_take h), ?_⟩
    rcases Nat.eq_zero_or_pos len with rfl | hp
    · left; simp
    · right
      obtain ⟨b, off, spot⟩ := x
      have hc0 := hcell 0 (by omega)
      have hspot : spot = none := by simpa [Addr.add] using World.cell?_spot hc0
      subst hspot
      refine ⟨b, off, rfl, ?_, fun j z hj => ?_⟩
      · rcases Nat.lt_or_ge b W.heap.size with h' | h'
        · exact h'
        · rw [Addr.add_lit] at hc0; simp [World.cell?, Array.getElem?_eq_none h'] at hc0
      · rw [List.getElem?_take] at hj
        split at hj
        · rename_i hjl
          have := hcell j (by omega)
          rw [Addr.add_lit] at this
          rw [this, List.getD_eq_getElem?_getD, hj]; rfl
        · cases hj
theorem bytes_inA {a : Option Addr} {len cap fuel : Nat} {x : DataW H × List MemPlace} (h : DataW.trod enc Tryz.prog W 0 (fun _ => true) held fuel 22 [.slice a len cap] = some x) : ∃ l : List UInt8, len = l.length ∧ len ≤ cap ∧ BsA W (.slice a l.length cap) l := by
  obtain ⟨zs, h1, h2, h3, h4⟩ := ints_inA Tryz.underlying22 Tryz.underlying5 (by kernel_rfl) h
  have hw : ∀ z ∈ zs, ((UInt8.ofNat z.toNat).toNat : Int) = z := fun z hz => by
    have := h3 z hz
    simp only [Lit.wf, Bool.and_eq_true, decide_eq_true_eq] at this
    have e1 : IntKind.u8.min = 0 := rfl
    have e2 : IntKind.u8.max = 255 := rfl
    rw [e1, e2] at this
    have h5 : z.toNat < 256 := by omega
    have : (UInt8.ofNat z.toNat).toNat = z.toNat := by simp; omega
    omega
  refine ⟨zs.map fun z => UInt8.ofNat z.toNat, by simp [h1], h2, ?_⟩
  refine ⟨a, cap, by simp, ?_⟩
  rcases h4 with rfl | ⟨b, o, rfl, hb, hc⟩
  · left; rfl
  · right
    refine ⟨b, o, rfl, hb, fun j y hj => ?_⟩
    rw [List.getElem?_map] at hj
    cases hz : zs[j]? with
    | none => rw [hz] at hj; cases hj
    | some z =>
      rw [hz] at hj
      cases hj
      rw [hc j z hz, hw z (List.mem_of_getElem? hz)]
end
end Go.Proofs.YthgndmgoilfpcaaGreatDoor

namespace Go.Proofs.YthgndmgoilfpcaaGreatDoor
open Go.ChangeShapes Go.WideShapes Go.ChangeAt Go.RowKit

def laidJ : List (String × DataW Unit) := [("math/bits.deBruijn32tab", Rows.laid_math_bits_deBruijn32tab), ("math/bits.deBruijn64tab", Rows.laid_math_bits_deBruijn64tab), ("internal/strconv.uint64pow10", Rows.laid_internal_strconv_uint64pow10), ("unicode/utf8.acceptRanges", Rows.laid_unicode_utf8_acceptRanges), ("strconv.ErrRange", Rows.laid_strconv_ErrRange), ("strconv.ErrSyntax", Rows.laid_strconv_ErrSyntax), ("unicode/utf8.first", Rows.laid_unicode_utf8_first)]
theorem acc_L : (Rows.laid_unicode_utf8_acceptRanges : DataW Unit) = Lib.acceptData := by kernel_rfl
theorem pow_L : (Rows.laid_internal_strconv_uint64pow10 : DataW Unit) = Lib.tabData .u64 Lib.pow10Tab := by kernel_rfl
theorem fst_L : Rows.laid_unicode_utf8_first = Lib.firstData := Pinned.utf8First_eq
theorem err_cell {W : World} {n nm : String} {d : DataW Unit} {g : Nat} {t : TypeId} {ms : Array (String × TypeId)} (hg : Tryz.prog.globalNamed n = some g) (ht : (Tryz.prog.globals[g]?).map (·.type) = some t) (hi : Tryz.prog.underlying t = some (.interface ms))
    (h : Lib.VarReads Tryz.prog W n (.iface nm d)) : ∃ te pe, W.cell? ⟨g, 0, none⟩ = some (.iface te pe) := by
  obtain ⟨g', t', cs, fuel, p, hg', hty, hvar, hd⟩ := h
  obtain rfl := Option.some.inj (hg.symm.trans hg')
  obtain rfl := Option.some.inj (ht.symm.trans hty)
  obtain ⟨f1, u, v, e, hn, h1⟩ := iface_of_trod hi hd
  refine ⟨u, v, ?_⟩
  rw [World.var?_cell hg hvar 0, ← Array.getElem?_toList, e]
  rfl
theorem of_laidJ {W : World} (h : laidMetH Tryz.prog laidJ W) : Ev W ∧ 8 ≤ W.heap.size := by
  rw [MakeChecks.laidMetH_plain _ _ _ (by kernel_rfl)] at h
  have r1 : Lib.VarReads Tryz.prog W "unicode/utf8.first" Lib.firstData := fst_L ▸ Lib.laidMet.reads h (by simp [laidJ])
  have r2 : Lib.VarReads Tryz.prog W "unicode/utf8.acceptRanges" Lib.acceptData := acc_L ▸ Lib.laidMet.reads h (by simp [laidJ])
  have r3 : Lib.VarReads Tryz.prog W "internal/strconv.uint64pow10" (Lib.tabData .u64 Lib.pow10Tab) := pow_L ▸ Lib.laidMet.reads h (by simp [laidJ])
  have r4 : Lib.VarReads Tryz.prog W "strconv.ErrSyntax" Rows.laid_strconv_ErrSyntax := Lib.laidMet.reads h (by simp [laidJ])
  have r5 : Lib.VarReads Tryz.prog W "strconv.ErrRange" Rows.laid_strconv_ErrRange := Lib.laidMet.reads h (by simp [laidJ])
  have r6 : Lib.VarReads Tryz.prog W "math/bits.deBruijn64tab" Rows.laid_math_bits_deBruijn64tab := Lib.laidMet.reads h (by simp [laidJ])
  refine ⟨⟨utf8Tabs_of_reads lays260 ⟨by kernel_rfl, by kernel_rfl, by kernel_rfl, by kernel_rfl, by kernel_rfl, by kernel_rfl, by kernel_rfl⟩ r1 r2, ?_, ?_, ?_⟩, ?_⟩
  · obtain ⟨g, t, cs, fuel, p, hg, hty, hvar, hd⟩ := r3
    have e1 : Tryz.prog.globalNamed "internal/strconv.uint64pow10" = some 3 := by kernel_rfl
    obtain rfl := Option.some.inj (e1.symm.trans hg)
    have e2 : (Tryz.prog.globals[3]?).map (·.type) = some 161 := by kernel_rfl
    obtain rfl := Option.some.inj (e2.symm.trans hty)
    unfold Lib.TabIs
    rw [hvar, ← Lib.cells_of_tab Tryz.underlying161 Tryz.underlying125 (by kernel_rfl) (by kernel_rfl) hd]
  · exact err_cell (by kernel_rfl) (by kernel_rfl) Tryz.underlying30 r4
  · exact err_cell (by kernel_rfl) (by kernel_rfl) Tryz.underlying30 r5
  · obtain ⟨g, t, cs, fuel, p, hg, hty, hvar, hd⟩ := r6
    have e1 : Tryz.prog.globalNamed "math/bits.deBruijn64tab" = some 7 := by kernel_rfl
    obtain rfl := Option.some.inj (e1.symm.trans hg)
    unfold World.var? at hvar
    rw [hg] at hvar
    simp only [Option.bind_some] at hvar
    rcases Nat.lt_or_ge 7 W.heap.size with h' | h'
    · exact h'
    · rw [Array.getElem?_eq_none h'] at hvar; cases hvar
theorem laid_metJ (os : Os) (args : Array Value) : laidMetH Tryz.prog laidJ ((World.laidAll Tryz.prog os laidJ).forCall (fun _ _ => 0) ⟨#[], args, []⟩).memory := by
  rw [MakeChecks.laidMetH_plain _ _ _ (by kernel_rfl)]
  exact laidMet_laidAll _ (by kernel_rfl) (by kernel_rfl)
end Go.Proofs.YthgndmgoilfpcaaGreatDoor

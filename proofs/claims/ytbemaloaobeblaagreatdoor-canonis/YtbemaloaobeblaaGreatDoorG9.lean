/- CBQ, CN1, CN2, CN3, CN4, CN5, CN6, CN7, CN9, CN11, CI1, CIW, KB3: laid together. -/
import Derived.Deep.RegionHeld3
import Derived.WalkKit
import Derived.ProofKit
import Derived.OpenShut
import Derived.ChangeOld
import Derived.Test.YtbemaloaobeblaaGreatDoorG8
import Derived.Test.YtbemaloaobeblaaGreatDoorG5
import Derived.Test.YtbemaloaobeblaaGreatDoorG2
import Derived.Test.YtbemaloaobeblaaGreatDoorG3
import Derived.Test.YtbemaloaobeblaaGreatDoorG7
namespace Go.Proofs.YtbemaloaobeblaaGreatDoor
open Go.RowKit Go.Shelf

theorem run_apb {w : World} (ot : TypeId) (B : Nat) (v : Value) (l : List UInt8) (hown : Ow w B v l) (u : Value) (m : List UInt8) (hb : BsA w u m) (hn : l.length + m.length ≤ 1000000) (hB : B ≤ w.heap.size) :
  ∃ v' w', (Builtin.append_ #[22, 22] ot #[v, u]).run Tryz.prog w = .ok v' w' ∧ Ow w' B v' (l ++ m) ∧ w.grownBy w' v.ownBlock := by
 obtain ⟨i0, hi, he⟩ := Option.map_eq_some_iff.1 info_u8
 simp only [Prod.mk.injEq] at he
 obtain ⟨hz0, hz1, hz2⟩ := he
 obtain ⟨ad, c, rfl, hm⟩ := hb
 cases ad with
 | none =>
  obtain rfl : m = [] := by
   rcases hm with h | ⟨_, _, e, _⟩
   ·exact h
   ·cases e
  refine ⟨v, w, ?_, by simpa using hown, ⟨rfl, rfl, rfl, Nat.le_refl _, fun _ _ _ => rfl⟩⟩
  rcases hown.2 with ⟨rfl, _⟩ | ⟨g, cap, cur, rfl, _, _, hnc, _⟩
  ·simp [Builtin.append_, run_underlying Tryz.underlying22, sizeOf, typeInfo, hi, Builtin.lenOf, Builtin.firstCells]
  ·simp [Builtin.append_, run_underlying Tryz.underlying22, sizeOf, typeInfo, hi, Builtin.lenOf, Builtin.firstCells, hnc, storeCells]
 | some ad =>
  have hnews : ∀ j u, (bv m)[j]? = some u → w.cell? (ad.add j) = some u := by
   intro j u hj
   rcases hm with rfl | ⟨b, off, e, hbl, hc⟩
   ·simp [bv] at hj
   ·cases e
    cases hmj : m[j]? with
    | none => rw [bv, List.getElem?_map, hmj] at hj; cases hj
    | some y =>
     rw [bv, List.getElem?_map, hmj] at hj
     cases hj
     rw [Addr.add_lit]
     exact hc j y hmj
  obtain ⟨v', w', hr, h4, h5, _⟩ := run_append_own (P := Tryz.prog) w B 22 ot 5 i0 (.int .u8 0) 1 1 Tryz.underlying22 hi hz0 hz1 hz2 rfl (by decide) v l.length (bv l) hown ad m.length c (bv m) (by simp [bv]) hnews
   (by intro u hu; simp [bv] at hu; obtain ⟨z, _, rfl⟩ := hu; rfl) (by unfold maxLen; omega) (by omega) hB
  refine ⟨v', w', hr, ?_, h5⟩
  unfold Ow
  rw [bv_app, List.length_append]
  exact h4
theorem step_apb {w : World} {ops : Array Oper} {o : Oper} {a : Act} {K : Act → World → Prop} {Q : Exit → Act → World → Prop} {E : Prop} (hgd : o.guard = none) (s x : Operand)
  (ho : o.op = .call { callee := .builtin .append, args := #[s, x], argTypes := #[22, 22] }) (B : Nat) (v : Value) (l : List UInt8) (hs : a.eval s = v) (hown : Ow w B v l)
  (u : Value) (m : List UInt8) (hx : a.eval x = u) (hb : BsA w u m) (hn : l.length + m.length ≤ 1000000) (hB : B ≤ w.heap.size)
  (h : ∀ v' w', Ow w' B v' (l ++ m) → w.grownBy w' v.ownBlock → K (a.put o.dst v') w') : if Region.wanted o (yielded ops a.tmps) = true then Oper.wp Tryz.prog o a w K Q else E := by
 have hw : Region.wanted o (yielded ops a.tmps) = true := by simp [Region.wanted, hgd]
 rw [if_pos hw]
 obtain ⟨v', w', hr, h2, h3⟩ := run_apb o.type B v l hown u m hb hn hB
 unfold Oper.wp execOp
 simp only [ho, resolve, invoke, builtin, Sem.run_bind, Sem.run_pure, Result.andThen_ok, List.map_toArray, List.map_cons, List.map_nil, hs, hx, hr]
 exact h v' w' h2 h3
theorem wpList_apq {w : World} {ops : Array Oper} {rest : List Oper} {o : Oper} {a : Act} {Q : Exit → Act → World → Prop} (hgd : o.guard = none) (s x : Operand)
  (ho : o.op = .call { callee := .builtin .append, args := #[s, x], argTypes := #[22, 22] }) (B : Nat) (v : Value) (l : List UInt8) (hs : a.eval s = v) (hown : Ow w B v l)
  (u : Value) (m : List UInt8) (hx : a.eval x = u) (hb : BsA w u m) (hn : l.length + m.length ≤ 1000000) (hB : B ≤ w.heap.size)
  (h : ∀ v' w', Ow w' B v' (l ++ m) → w.grownBy w' v.ownBlock → wpList Tryz.prog ops Q rest (a.put o.dst v') w') : wpList Tryz.prog ops Q (o :: rest) a w := by
 refine wpList_plain hgd fun K hK => ?_
 obtain ⟨v', w', hr, h2, h3⟩ := run_apb o.type B v l hown u m hb hn hB
 unfold Oper.wp execOp
 simp only [ho, resolve, invoke, builtin, Sem.run_bind, Sem.run_pure, Result.andThen_ok, List.map_toArray, List.map_cons, List.map_nil, hs, hx, hr]
 exact hK _ _ (h v' w' h2 h3)
theorem below_gq {w w' : World} {row : Option Nat} {B : Nat} (hg : w.grownBy w' row) (hr : ∀ r, row = some r → B ≤ r) (hB : B ≤ w.heap.size) : Below B w w' := ⟨hg.os, hg.tape, hg.output, hg.size, fun k hk => hg.block k (by omega) (fun e => by have := hr k e.symm; omega)⟩
def pls : List Nat := [34, 92, 8, 9, 10, 12, 13]
def mns (n : Nat) : UInt8 := if n = 34 then 34 else if n = 92 then 92 else if n = 8 then 98 else if n = 9 then 116 else if n = 10 then 110 else if n = 12 then 102 else 114
def fdk (n k : Nat) : Bool := (pls.take k).contains n
def apk (n k : Nat) : List UInt8 := if fdk n k then [92, mns n] else []
theorem q1_eq (c : UInt8) : q1 c = if fdk c.toNat 7 = true then apk c.toNat 7 else if c.toNat < 32 then [92, 117, 48, 48, hxd (c.toNat / 16), hxd (c.toNat % 16)] else [c] := by
 unfold q1 apk
 by_cases h0 : c.toNat = 34
 ·simp [h0, fdk, pls, mns]
 by_cases h1 : c.toNat = 92
 ·simp [h1, fdk, pls, mns]
 by_cases h2 : c.toNat = 8
 ·simp [h2, fdk, pls, mns]
 by_cases h3 : c.toNat = 9
 ·simp [h3, fdk, pls, mns]
 by_cases h4 : c.toNat = 10
 ·simp [h4, fdk, pls, mns]
 by_cases h5 : c.toNat = 12
 ·simp [h5, fdk, pls, mns]
 by_cases h6 : c.toNat = 13
 ·simp [h6, fdk, pls, mns]
 simp [h0, h1, h2, h3, h4, h5, h6, fdk, pls]
theorem fdk_miss {n k p : Nat} (hp : pls[k]? = some p) (h : n ≠ p) : fdk n (k + 1) = fdk n k := by
 unfold fdk
 rw [List.take_add_one, hp]
 simp [h]
theorem apk_miss {n k p : Nat} (hp : pls[k]? = some p) (h : n ≠ p) : apk n (k + 1) = apk n k := by unfold apk; rw [fdk_miss hp h]
theorem qb_take {l : List UInt8} {j : Nat} {c : UInt8} (h : l[j]? = some c) : qb (l.take (j + 1)) = qb (l.take j) ++ q1 c := by
 rw [List.take_add_one, h]; simp [qb]
theorem qb_take_len {l : List UInt8} (j : Nat) (hl : l.length ≤ 100000) : (qb (l.take j)).length ≤ 600000 := by
 have := (qb_len (l.take j)).2
 have : (l.take j).length ≤ l.length := by simp; omega
 omega
theorem st_at {l : List UInt8} {j : Nat} {c : UInt8} (h : l[j]? = some c) {h'} : ((st l)[j]'h').toNat = c.toNat := by
 have e : (st l).data[j]? = some c := by rw [← Array.getElem?_toList, st_data]; exact h
 have e2 : (st l)[j]'h' = c := (Array.getElem?_eq_some_iff.1 e).2
 rw [e2]
theorem ow_one (w : World) (x : UInt8) : Ow (w.alloc (.cells #[.int .u8 (x.toNat : Nat)] 5)) w.heap.size (.slice (some ⟨w.heap.size, 0, none⟩) 1 1) [x] :=
 ⟨by simp [bv], .inr ⟨w.heap.size, 1, #[.int .u8 (x.toNat : Nat)], rfl, Nat.le_refl _, by
  show (w.heap.push _)[w.heap.size]? = _
  rw [Array.getElem?_push, if_pos rfl], by simp, by decide, rfl, rfl⟩⟩
def hxB : ByteArray := ⟨#[48, 49, 50, 51, 52, 53, 54, 55, 56, 57, 97, 98, 99, 100, 101, 102]⟩
theorem hxB_z : hxB.size = 16 := rfl
theorem hxB_at (n : Nat) (h : n < hxB.size) : (hxB[n]'h) = hxd n := hx_b (by simpa [hxB_z] using h)
theorem wrap_u8' (n : Nat) (h : n < 256) : IntKind.u8.wrap (n : Int) = (n : Int) := by
 have e : (n : Int) % 2 ^ 8 = n := Int.emod_eq_of_lt (by omega) (by omega)
 simp only [IntKind.wrap, IntKind.bits, IntKind.signed, e]
 simp
theorem al_b (w : World) (o : Obj) : Below w.heap.size w (w.alloc o) := (Below.refl _ _).alloc (Nat.le_refl _) _
theorem ow_gr {w0 : Nat} {w w' : World} {v : Value} {P : List UInt8} (o : Obj) (h : Ow w w0 v P) (hg : (w.alloc o).grownBy w' v.ownBlock) (hB : w0 ≤ w.heap.size) : Below w0 w w' :=
 ((al_b w o).mono hB).trans (below_gq hg h.block (Nat.le_trans hB (al_b w o).size))
set_option maxHeartbeats 16000000 in
set_option maxRecDepth 100000 in
theorem rquote_d {w : World} {l : List UInt8} (hl : l.length ≤ 100000) : Calls Tryz.prog 67 #[.string (st l)] w fun e w' => e = .returned (.string (st (qu l))) ∧ Below w.heap.size w w' := by
 have hsz := st_size l
 go_enter Tryz.func67, Tryz.ntmps67
 go_wp2_with fail
 go_loopw [6, 7] (fun v i wr => ∃ j : Nat, j ≤ l.length ∧ i = .int .i64 (j : Nat) ∧ Hid (Ow wr w.heap.size v (34 :: qb (l.take j))) ∧ Hid (Below w.heap.size w wr)) (fun _ i _ => l.length - (intOf i).toNat)
 case atStart => exact ⟨0, by omega, rfl, hide1 (ow_one w 34), hide1 (al_b w _)⟩
 case round =>
  obtain ⟨j, hj, rfl, hO, hB⟩ := hrel
  by_cases hlt : j < l.length
  ·obtain ⟨c, hc⟩ : ∃ c, l[j]? = some c := ⟨_, List.getElem?_eq_getElem hlt⟩
   obtain ⟨P, hP⟩ : ∃ P, Hid (P = 34 :: qb (l.take j)) := ⟨_, hide1 rfl⟩
   rw [← hP.out] at hO
   have hPl : P.length ≤ 600001 := by rw [hP.out]; have := qb_take_len (l := l) j hl; simp; omega
   have hnext : Hid (34 :: qb (l.take (j + 1)) = P ++ q1 c) := hide1 (by rw [hP.out, qb_take hc]; rfl)
   clear hP
   go_wp2_with fail
   rw [st_at hc]
   have hcl := c.toNat_lt
   have hq1 := hide1 (q1_eq c)
   obtain ⟨n, hn⟩ : ∃ n, Hid (n = c.toNat) := ⟨_, hide1 rfl⟩
   rw [← hn.out] at hcl ⊢
   go_loopw [6, 9, 10] (fun v f k wi => ∃ kk : Nat, kk ≤ 7 ∧ k = .int .i64 (kk : Nat) ∧ f = .bool (fdk n kk) ∧ Hid (Ow wi w.heap.size v (P ++ apk n kk)) ∧ Hid (Below w.heap.size w wi)) (fun _ _ k _ => 7 - (intOf k).toNat)
   case atStart => exact ⟨0, by omega, rfl, by simp [fdk], hide1 (by rw [show apk n 0 = [] by simp [apk, fdk], List.append_nil]; exact hO.out), hB⟩
   case round =>
    obtain ⟨kk, hk, rfl, rfl, hO2, hB2⟩ := hrel
    have hBs := hB2.out.size
    by_cases hk7 : kk < 7
    ·rcases (by omega : kk = 0 ∨ kk = 1 ∨ kk = 2 ∨ kk = 3 ∨ kk = 4 ∨ kk = 5 ∨ kk = 6) with rfl | rfl | rfl | rfl | rfl | rfl | rfl
     ·by_cases hp : n = 34
      ·have e1 : fdk n 1 = true := by rw [hp]; rfl
       have e0 : apk n 0 = [] := by rw [hp]; rfl
       have e2 : Hid (apk n 1 = [92, 34]) := hide1 (by rw [hp]; rfl)
       rw [e0, List.append_nil] at hO2
       have hpb : (((⟨#[34, 92, 8, 9, 10, 12, 13]⟩ : ByteArray)[0]'(by decide)).toNat : Int) = (n : Int) := by rw [hp]; rfl
       clear hsz e0 hO hp hq1
       go_wp2_with (refine wpList_apq rfl (.tmp 32) (.tmp 36) rfl w.heap.size u6 P rfl (hO2.out.later (al_b _ _)) _ [92, 34] rfl (bsa_new rfl 2 rfl (0, 0)) (by simp; omega) (by have := (al_b wr (.cells #[.int .u8 92, .int .u8 34] 5)).size; simp; omega) ?_; intro v3 w3 hO3 hG3; have hB3 := hide1 (hB2.out.trans (ow_gr _ hO2.out hG3 (by omega))); replace hO3 := hide1 hO3; clear hG3)
       go_roundw
       case rel => exact ⟨1, by omega, rfl, by rw [e1], hide1 (by rw [e2.out]; exact hO3.out), hB3⟩
       case measure => simp [intOf]
      ·have e1 := fdk_miss (k := 0) rfl hp
       have e2 := apk_miss (k := 0) rfl hp
       have hpb : ¬ (((⟨#[34, 92, 8, 9, 10, 12, 13]⟩ : ByteArray)[0]'(by decide)).toNat : Int) = (n : Int) := by show ¬ (34 : Int) = (n : Int); omega
       clear hsz hO hp hq1
       go_wp2_with fail
       go_roundw
       case rel => exact ⟨1, by omega, rfl, by rw [e1], hide1 (by rw [e2]; exact hO2.out), hB2⟩
       case measure => simp [intOf]
     ·by_cases hp : n = 92
      ·have e1 : fdk n 2 = true := by rw [hp]; rfl
       have e0 : apk n 1 = [] := by rw [hp]; rfl
       have e2 : Hid (apk n 2 = [92, 92]) := hide1 (by rw [hp]; rfl)
       rw [e0, List.append_nil] at hO2
       have hpb : (((⟨#[34, 92, 8, 9, 10, 12, 13]⟩ : ByteArray)[1]'(by decide)).toNat : Int) = (n : Int) := by rw [hp]; rfl
       clear hsz e0 hO hp hq1
       go_wp2_with (refine wpList_apq rfl (.tmp 32) (.tmp 36) rfl w.heap.size u6 P rfl (hO2.out.later (al_b _ _)) _ [92, 92] rfl (bsa_new rfl 2 rfl (0, 0)) (by simp; omega) (by have := (al_b wr (.cells #[.int .u8 92, .int .u8 92] 5)).size; simp; omega) ?_; intro v3 w3 hO3 hG3; have hB3 := hide1 (hB2.out.trans (ow_gr _ hO2.out hG3 (by omega))); replace hO3 := hide1 hO3; clear hG3)
       go_roundw
       case rel => exact ⟨2, by omega, rfl, by rw [e1], hide1 (by rw [e2.out]; exact hO3.out), hB3⟩
       case measure => simp [intOf]
      ·have e1 := fdk_miss (k := 1) rfl hp
       have e2 := apk_miss (k := 1) rfl hp
       have hpb : ¬ (((⟨#[34, 92, 8, 9, 10, 12, 13]⟩ : ByteArray)[1]'(by decide)).toNat : Int) = (n : Int) := by show ¬ (92 : Int) = (n : Int); omega
       clear hsz hO hp hq1
       go_wp2_with fail
       go_roundw
       case rel => exact ⟨2, by omega, rfl, by rw [e1], hide1 (by rw [e2]; exact hO2.out), hB2⟩
       case measure => simp [intOf]
     ·by_cases hp : n = 8
      ·have e1 : fdk n 3 = true := by rw [hp]; rfl
       have e0 : apk n 2 = [] := by rw [hp]; rfl
       have e2 : Hid (apk n 3 = [92, 98]) := hide1 (by rw [hp]; rfl)
       rw [e0, List.append_nil] at hO2
       have hpb : (((⟨#[34, 92, 8, 9, 10, 12, 13]⟩ : ByteArray)[2]'(by decide)).toNat : Int) = (n : Int) := by rw [hp]; rfl
       clear hsz e0 hO hp hq1
       go_wp2_with (refine wpList_apq rfl (.tmp 32) (.tmp 36) rfl w.heap.size u6 P rfl (hO2.out.later (al_b _ _)) _ [92, 98] rfl (bsa_new rfl 2 rfl (0, 0)) (by simp; omega) (by have := (al_b wr (.cells #[.int .u8 92, .int .u8 98] 5)).size; simp; omega) ?_; intro v3 w3 hO3 hG3; have hB3 := hide1 (hB2.out.trans (ow_gr _ hO2.out hG3 (by omega))); replace hO3 := hide1 hO3; clear hG3)
       go_roundw
       case rel => exact ⟨3, by omega, rfl, by rw [e1], hide1 (by rw [e2.out]; exact hO3.out), hB3⟩
       case measure => simp [intOf]
      ·have e1 := fdk_miss (k := 2) rfl hp
       have e2 := apk_miss (k := 2) rfl hp
       have hpb : ¬ (((⟨#[34, 92, 8, 9, 10, 12, 13]⟩ : ByteArray)[2]'(by decide)).toNat : Int) = (n : Int) := by show ¬ (8 : Int) = (n : Int); omega
       clear hsz hO hp hq1
       go_wp2_with fail
       go_roundw
       case rel => exact ⟨3, by omega, rfl, by rw [e1], hide1 (by rw [e2]; exact hO2.out), hB2⟩
       case measure => simp [intOf]
     ·by_cases hp : n = 9
      ·have e1 : fdk n 4 = true := by rw [hp]; rfl
       have e0 : apk n 3 = [] := by rw [hp]; rfl
       have e2 : Hid (apk n 4 = [92, 116]) := hide1 (by rw [hp]; rfl)
       rw [e0, List.append_nil] at hO2
       have hpb : (((⟨#[34, 92, 8, 9, 10, 12, 13]⟩ : ByteArray)[3]'(by decide)).toNat : Int) = (n : Int) := by rw [hp]; rfl
       clear hsz e0 hO hp hq1
       go_wp2_with (refine wpList_apq rfl (.tmp 32) (.tmp 36) rfl w.heap.size u6 P rfl (hO2.out.later (al_b _ _)) _ [92, 116] rfl (bsa_new rfl 2 rfl (0, 0)) (by simp; omega) (by have := (al_b wr (.cells #[.int .u8 92, .int .u8 116] 5)).size; simp; omega) ?_; intro v3 w3 hO3 hG3; have hB3 := hide1 (hB2.out.trans (ow_gr _ hO2.out hG3 (by omega))); replace hO3 := hide1 hO3; clear hG3)
       go_roundw
       case rel => exact ⟨4, by omega, rfl, by rw [e1], hide1 (by rw [e2.out]; exact hO3.out), hB3⟩
       case measure => simp [intOf]
      ·have e1 := fdk_miss (k := 3) rfl hp
       have e2 := apk_miss (k := 3) rfl hp
       have hpb : ¬ (((⟨#[34, 92, 8, 9, 10, 12, 13]⟩ : ByteArray)[3]'(by decide)).toNat : Int) = (n : Int) := by show ¬ (9 : Int) = (n : Int); omega
       clear hsz hO hp hq1
       go_wp2_with fail
       go_roundw
       case rel => exact ⟨4, by omega, rfl, by rw [e1], hide1 (by rw [e2]; exact hO2.out), hB2⟩
       case measure => simp [intOf]
     ·by_cases hp : n = 10
      ·have e1 : fdk n 5 = true := by rw [hp]; rfl
       have e0 : apk n 4 = [] := by rw [hp]; rfl
       have e2 : Hid (apk n 5 = [92, 110]) := hide1 (by rw [hp]; rfl)
       rw [e0, List.append_nil] at hO2
       have hpb : (((⟨#[34, 92, 8, 9, 10, 12, 13]⟩ : ByteArray)[4]'(by decide)).toNat : Int) = (n : Int) := by rw [hp]; rfl
       clear hsz e0 hO hp hq1
       go_wp2_with (refine wpList_apq rfl (.tmp 32) (.tmp 36) rfl w.heap.size u6 P rfl (hO2.out.later (al_b _ _)) _ [92, 110] rfl (bsa_new rfl 2 rfl (0, 0)) (by simp; omega) (by have := (al_b wr (.cells #[.int .u8 92, .int .u8 110] 5)).size; simp; omega) ?_; intro v3 w3 hO3 hG3; have hB3 := hide1 (hB2.out.trans (ow_gr _ hO2.out hG3 (by omega))); replace hO3 := hide1 hO3; clear hG3)
       go_roundw
       case rel => exact ⟨5, by omega, rfl, by rw [e1], hide1 (by rw [e2.out]; exact hO3.out), hB3⟩
       case measure => simp [intOf]
      ·have e1 := fdk_miss (k := 4) rfl hp
       have e2 := apk_miss (k := 4) rfl hp
       have hpb : ¬ (((⟨#[34, 92, 8, 9, 10, 12, 13]⟩ : ByteArray)[4]'(by decide)).toNat : Int) = (n : Int) := by show ¬ (10 : Int) = (n : Int); omega
       clear hsz hO hp hq1
       go_wp2_with fail
       go_roundw
       case rel => exact ⟨5, by omega, rfl, by rw [e1], hide1 (by rw [e2]; exact hO2.out), hB2⟩
       case measure => simp [intOf]
     ·by_cases hp : n = 12
      ·have e1 : fdk n 6 = true := by rw [hp]; rfl
       have e0 : apk n 5 = [] := by rw [hp]; rfl
       have e2 : Hid (apk n 6 = [92, 102]) := hide1 (by rw [hp]; rfl)
       rw [e0, List.append_nil] at hO2
       have hpb : (((⟨#[34, 92, 8, 9, 10, 12, 13]⟩ : ByteArray)[5]'(by decide)).toNat : Int) = (n : Int) := by rw [hp]; rfl
       clear hsz e0 hO hp hq1
       go_wp2_with (refine wpList_apq rfl (.tmp 32) (.tmp 36) rfl w.heap.size u6 P rfl (hO2.out.later (al_b _ _)) _ [92, 102] rfl (bsa_new rfl 2 rfl (0, 0)) (by simp; omega) (by have := (al_b wr (.cells #[.int .u8 92, .int .u8 102] 5)).size; simp; omega) ?_; intro v3 w3 hO3 hG3; have hB3 := hide1 (hB2.out.trans (ow_gr _ hO2.out hG3 (by omega))); replace hO3 := hide1 hO3; clear hG3)
       go_roundw
       case rel => exact ⟨6, by omega, rfl, by rw [e1], hide1 (by rw [e2.out]; exact hO3.out), hB3⟩
       case measure => simp [intOf]
      ·have e1 := fdk_miss (k := 5) rfl hp
       have e2 := apk_miss (k := 5) rfl hp
       have hpb : ¬ (((⟨#[34, 92, 8, 9, 10, 12, 13]⟩ : ByteArray)[5]'(by decide)).toNat : Int) = (n : Int) := by show ¬ (12 : Int) = (n : Int); omega
       clear hsz hO hp hq1
       go_wp2_with fail
       go_roundw
       case rel => exact ⟨6, by omega, rfl, by rw [e1], hide1 (by rw [e2]; exact hO2.out), hB2⟩
       case measure => simp [intOf]
     ·by_cases hp : n = 13
      ·have e1 : fdk n 7 = true := by rw [hp]; rfl
       have e0 : apk n 6 = [] := by rw [hp]; rfl
       have e2 : Hid (apk n 7 = [92, 114]) := hide1 (by rw [hp]; rfl)
       rw [e0, List.append_nil] at hO2
       have hpb : (((⟨#[34, 92, 8, 9, 10, 12, 13]⟩ : ByteArray)[6]'(by decide)).toNat : Int) = (n : Int) := by rw [hp]; rfl
       clear hsz e0 hO hp hq1
       go_wp2_with (refine wpList_apq rfl (.tmp 32) (.tmp 36) rfl w.heap.size u6 P rfl (hO2.out.later (al_b _ _)) _ [92, 114] rfl (bsa_new rfl 2 rfl (0, 0)) (by simp; omega) (by have := (al_b wr (.cells #[.int .u8 92, .int .u8 114] 5)).size; simp; omega) ?_; intro v3 w3 hO3 hG3; have hB3 := hide1 (hB2.out.trans (ow_gr _ hO2.out hG3 (by omega))); replace hO3 := hide1 hO3; clear hG3)
       go_roundw
       case rel => exact ⟨7, by omega, rfl, by rw [e1], hide1 (by rw [e2.out]; exact hO3.out), hB3⟩
       case measure => simp [intOf]
      ·have e1 := fdk_miss (k := 6) rfl hp
       have e2 := apk_miss (k := 6) rfl hp
       have hpb : ¬ (((⟨#[34, 92, 8, 9, 10, 12, 13]⟩ : ByteArray)[6]'(by decide)).toNat : Int) = (n : Int) := by show ¬ (13 : Int) = (n : Int); omega
       clear hsz hO hp hq1
       go_wp2_with fail
       go_roundw
       case rel => exact ⟨7, by omega, rfl, by rw [e1], hide1 (by rw [e2]; exact hO2.out), hB2⟩
       case measure => simp [intOf]
    ·obtain rfl : kk = 7 := by omega
     rw [← hn.out] at hq1
     cases hf : fdk n 7 with
     | true =>
      have hq2 : q1 c = apk n 7 := by rw [hq1.out, if_pos hf]
      rw [← hq2, ← hnext.out] at hO2
      clear hq1 hq2 hnext hO hB hsz
      go_wp2_with fail
      go_roundw
      case rel => exact ⟨j + 1, by omega, by go_num, hO2, hB2⟩
      case measure => simp [intOf]; omega
     | false =>
      have e0 : apk n 7 = [] := by unfold apk; rw [hf]; rfl
      rw [e0, List.append_nil] at hO2
      have hq2 := hq1.out
      rw [hf, if_neg (by simp)] at hq2
      clear hq1 e0
      by_cases h32 : n < 32
      ·rw [if_pos h32] at hq2
       rw [hq2] at hnext
       clear hq2 hO hB hsz
       have g1 : (n : Int) < 32 := by omega
       have g2 : ¬ (n : Int) ≥ 32 := by omega
       have hZ := hxB_z
       obtain ⟨d1, hd1⟩ : ∃ d, Hid (d = n / 16) := ⟨_, hide1 rfl⟩
       obtain ⟨d2, hd2⟩ : ∃ d, Hid (d = n % 16) := ⟨_, hide1 rfl⟩
       have q1 : IntKind.u8.wrap ((n : Int) / 16) = (d1 : Int) := by rw [hd1.out]; exact wrap_u8' (n / 16) (by omega)
       have q2 : (n : Int).tmod 16 = (d2 : Int) := by rw [hd2.out]; rfl
       have r1 : (d1 : Int) < 16 := by rw [hd1.out]; omega
       have r2 : (d2 : Int) < 16 := by rw [hd2.out]; omega
       have Hg := hxB_at d1 (by rw [hxB_z]; omega)
       have Hg2 := hxB_at d2 (by rw [hxB_z]; omega)
       rw [← hd1.out, ← hd2.out] at hnext
       go_upto_region 17 with fail
       rw [show (⟨#[48, 49, 50, 51, 52, 53, 54, 55, 56, 57, 97, 98, 99, 100, 101, 102]⟩ : ByteArray) = hxB from rfl]
       have hoD : Hid (Ow wr.drew w.heap.size u6 P) := hO2
       have hwD : Hid (Below w.heap.size w wr.drew) := hide1 hB2.out.drew
       have hzz : w.heap.size ≤ wr.drew.heap.size := hBs
       have hb6 := hide1 (bsa_new (w := wr.drew) (C := #[.int .u8 92, .int .u8 117, .int .u8 48, .int .u8 48, .int .u8 ((hxd d1).toNat : Nat), .int .u8 ((hxd d2).toNat : Nat)]) (l := [92, 117, 48, 48, hxd d1, hxd d2]) rfl 6 rfl (0, 0))
       go_region_law (refine step_apb rfl (.tmp 44) (.tmp 53) rfl w.heap.size u6 P (by first | (simp [Act.eval]; done) | (simp [Act.eval, Act.put]; done) | rfl) (hoD.out.later (al_b _ _)) _ [92, 117, 48, 48, hxd d1, hxd d2] (by first | (simp [Act.eval]; done) | (simp [Act.eval, Act.put]; done) | rfl) hb6.out (by simp; omega) (Nat.le_trans hzz (al_b _ _).size) ?_; intro v1 w1 hO3 hG3; have hB3 := hide1 (hwD.out.trans (ow_gr _ hoD.out hG3 hzz)); replace hO3 := hide1 hO3; clear hG3)
       all_goals
        simp only [Act.put, List.setIfInBounds_toArray]
        rw [show hxB = (⟨#[48, 49, 50, 51, 52, 53, 54, 55, 56, 57, 97, 98, 99, 100, 101, 102]⟩ : ByteArray) from rfl]
        clear Hg Hg2 q1 q2 hoD hwD hb6
        go_wp2_with fail
        go_roundw
        case rel => exact ⟨j + 1, by omega, by go_num, hide1 (by rw [hnext.out]; exact hO3.out), hB3⟩
        case measure => simp [intOf]; omega
      ·rw [if_neg h32] at hq2
       rw [hq2] at hnext
       clear hq2 hO hB hsz
       have g1 : ¬ (n : Int) < 32 := by omega
       have g2 : (n : Int) ≥ 32 := by omega
       go_wp2_with (refine wpList_apq rfl (.tmp 61) (.tmp 63) rfl w.heap.size u6 P rfl (hO2.out.later (al_b _ _)) _ [c] rfl (bsa_new (by rw [hn.out]; rfl) 1 rfl (0, 0)) (by simp; omega) (Nat.le_trans hBs (al_b _ _).size) ?_; intro v3 w3 hO3 hG3; have hB3 := hide1 (hB2.out.trans (ow_gr _ hO2.out hG3 (by omega))); replace hO3 := hide1 hO3; clear hG3)
       go_roundw
       case rel => exact ⟨j + 1, by omega, by go_num, hide1 (by rw [hnext.out]; exact hO3.out), hB3⟩
       case measure => simp [intOf]; omega
  ·obtain rfl : j = l.length := by omega
   rw [List.take_length] at hO
   have ho1 : Hid (Ow wr w.heap.size u6 (34 :: qb l)) := hO
   have hBs := hB.out.size
   have hPl : (34 :: qb l).length ≤ 600001 := by have := (qb_len l).2; simp; omega
   clear hsz hO
   go_wp2_with (refine wpList_apq rfl (.tmp 65) (.tmp 66) rfl w.heap.size u6 (34 :: qb l) rfl (ho1.out.later (al_b _ _)) _ [34] rfl (bsa_new rfl 1 rfl (0, 0)) (by simp at hPl ⊢; omega) (Nat.le_trans hBs (al_b _ _).size) ?_; intro v3 w3 hO3 hG3; have hB3 := hide1 (hB.out.trans (ow_gr _ ho1.out hG3 (by omega))); have hcv := conv_b hO3.bs; obtain ⟨oa, oc, rfl⟩ := hO3.slc; clear hG3 hO3; generalize ((34 :: qb l) ++ [34]).length = M at hcv ⊢)
   go_ret
   exact ⟨rfl, hB3.out⟩
abbrev AnN (w : World) (l : List UInt8) (e : Ending) (w' : World) : Prop := e = .returned (.string (st l)) ∧ Below w.heap.size w w'
set_option maxHeartbeats 8000000 in
set_option maxRecDepth 100000 in
theorem rnum_s {w : World} {u : Nat} (h : u < 10) : Calls Tryz.prog 66 #[.int .i64 (u : Nat)] w (AnN w (Lib.decDigits u)) := by
 rw [dec_small h]
 rcases (by omega : u = 0 ∨ u = 1 ∨ u = 2 ∨ u = 3 ∨ u = 4 ∨ u = 5 ∨ u = 6 ∨ u = 7 ∨ u = 8 ∨ u = 9) with rfl | rfl | rfl | rfl | rfl | rfl | rfl | rfl | rfl | rfl <;>
  (
    go_enter Tryz.func66, Tryz.ntmps66
    go_wp2
    go_ret
    exact ⟨rfl, Below.refl _ _⟩)
theorem dec_len : ∀ (k u : Nat), u < 10 ^ (k + 1) → (Lib.decDigits u).length ≤ k + 1
 | 0, u, h => by rw [dec_small (by simpa using h)]; simp
 | k + 1, u, h => by
  by_cases h1 : u < 10
  ·rw [dec_small h1]; simp
  ·rw [dec_big h1, List.length_append]
   have := dec_len k (u / 10) (by rw [Nat.pow_succ] at h; omega)
   simp; omega
theorem dec_len20 {u : Nat} (h : u < 9223372036854775808) : (Lib.decDigits u).length ≤ 20 := dec_len 19 u (Nat.lt_of_lt_of_le h (by decide))
theorem st_ap (a b : List UInt8) : st a ++ st b = st (a ++ b) := by
 apply ByteArray.ext
 simp [st]
set_option maxHeartbeats 8000000 in
set_option maxRecDepth 100000 in
theorem rnum_b {w : World} {u : Nat} (h : ¬ u < 10) (hu : u < 9223372036854775808) (h1 : ∀ w, Calls Tryz.prog 66 #[.int .i64 (u / 10 : Nat)] w (AnN w (Lib.decDigits (u / 10)))) : Calls Tryz.prog 66 #[.int .i64 (u : Nat)] w (AnN w (Lib.decDigits u)) := by
 have h2 := fun w => rnum_s (w := w) (u := u % 10) (by omega)
 have hd := hide1 (dec_big h)
 have hm := hide1 (dec_small (u := u % 10) (by omega))
 obtain ⟨d, hdd⟩ : ∃ d, Hid (d = u / 10) := ⟨_, hide1 rfl⟩
 obtain ⟨m, hmm⟩ : ∃ m, Hid (m = u % 10) := ⟨_, hide1 rfl⟩
 have q1 : (u : Int) / 10 = (d : Int) := by rw [hdd.out]; omega
 have q2 : (u : Int).tmod 10 = (m : Int) := by rw [hmm.out]; rfl
 have g1 : ¬ (u : Int) < 10 := by omega
 have g2 : ¬ (u : Int) < 0 := by omega
 rw [← hdd.out] at h1 hd
 rw [← hmm.out] at h2 hm hd
 rw [← hm.out] at hd
 go_enter Tryz.func66, Tryz.ntmps66
 go_wp2_with fail
 refine (h1 _).mono ?_
 rintro e w1 ⟨rfl, b1⟩
 have B1 := hide1 b1
 clear b1 h1
 go_wp2_with fail
 refine (h2 _).mono ?_
 rintro e w2 ⟨rfl, b2⟩
 have B2 := hide1 (B1.out.trans (b2.mono B1.out.size))
 clear b2 h2
 have hcat : Hid (AnN w (Lib.decDigits u) (.returned (.string (st (Lib.decDigits d) ++ st (Lib.decDigits m)))) w2) := hide1 ⟨by rw [hd.out, st_ap], B2.out⟩
 have hno : ¬ 9223372036854775807 < (st (Lib.decDigits d)).size + (st (Lib.decDigits m)).size := by
  rw [st_size, st_size]
  have h3 := dec_len20 (u := d) (by rw [hdd.out]; omega)
  have h4 := dec_len20 (u := m) (by rw [hmm.out]; omega)
  omega
 go_wp2
 go_ret
 exact hcat.out
theorem rnum_p (n : Nat) : ∀ (u : Nat) (w : World), u ≤ n → u < 9223372036854775808 → Calls Tryz.prog 66 #[.int .i64 (u : Nat)] w (AnN w (Lib.decDigits u)) := by
 induction n with
 | zero => intro u w h _; exact rnum_s (by omega)
 | succ n ih =>
  intro u w h hu
  by_cases h1 : u < 10
  ·exact rnum_s h1
  ·exact rnum_b h1 hu (fun w => ih (u / 10) w (by omega) (by omega))
set_option maxHeartbeats 8000000 in
set_option maxRecDepth 100000 in
theorem rnum_d {w : World} {k : Int} (h : -9007199254740991 ≤ k ∧ k ≤ 9007199254740991) : Calls Tryz.prog 66 #[.int .i64 k] w (AnN w (Lib.itoa k)) := by
 by_cases h0 : k < 0
 ·obtain ⟨u, hu⟩ : ∃ u : Nat, k = -(u : Int) := ⟨k.natAbs, by omega⟩
  subst hu
  have hi : Lib.itoa (-(u : Int)) = [45] ++ Lib.decDigits u := by
   unfold Lib.itoa
   rw [if_pos h0, show (-(u : Int)).natAbs = u by omega]; rfl
  have h1 := fun w => rnum_p u u w (Nat.le_refl _) (by omega)
  have hl := hide1 (dec_len20 (u := u) (by omega))
  rw [hi]
  go_enter Tryz.func66, Tryz.ntmps66
  go_wp2_with fail
  refine (h1 _).mono ?_
  rintro e w1 ⟨rfl, b1⟩
  have hf : Hid (AnN w (45 :: Lib.decDigits u) (.returned (.string (⟨#[45]⟩ ++ st (Lib.decDigits u)))) w1) := hide1 ⟨by rw [show (⟨#[45]⟩ : ByteArray) = st [45] from rfl, st_ap]; rfl, b1⟩
  have hno : ¬ 9223372036854775807 < (⟨#[45]⟩ : ByteArray).size + (st (Lib.decDigits u)).size := by
   rw [st_size, show (⟨#[45]⟩ : ByteArray).size = 1 from rfl]
   have := hl.out
   omega
  clear b1 h1
  go_wp2
  go_ret
  exact hf.out
 ·obtain ⟨u, hu⟩ : ∃ u : Nat, k = (u : Int) := ⟨k.toNat, by omega⟩
  subst hu
  have hi : Lib.itoa (u : Int) = Lib.decDigits u := by
   unfold Lib.itoa
   rw [if_neg h0]; rfl
  rw [hi]
  exact rnum_p u u w (Nat.le_refl _) (by omega)
theorem lt_st (a b : List UInt8) (w : World) : (binOp .lss 9 (.string (st a)) (.string (st b))).run Tryz.prog w = .ok (.bool (bl a b)) w := by
 simp [binOp, go_sem, Op.stringOp, bl, ByteArray.toList_eq, st_data]
theorem gt_z (a : Nat) (w : World) : (binOp .gtr 3 (.int .i64 (a : Nat)) (.int .i64 0)).run Tryz.prog w = .ok (.bool (decide (0 < a))) w := by
 simp [go_sem]
def RPv (g n cap jj : Nat) (F : Nat → Ep) : Nat → Value → Prop
 | 0, v => v = (.slice (some ⟨g, 0, none⟩) n cap)
 | 1, v => v = (.int .i64 (jj : Nat))
 | 2, v => v = (.slice (some ⟨g, 0, none⟩) n cap)
 | 3, v => v = (.int .i64 (jj : Nat))
 | 4, v => v = (.int .i64 (jj - 1 : Nat))
 | 5, v => v = (.slice (some ⟨g, 0, none⟩) n cap)
 | 6, v => v = (.int .i64 (jj : Nat))
 | 7, v => v = (.int .i64 (jj - 1 : Nat))
 | 8, v => v = .pointer (some ⟨g, (jj - 1) * 6, none⟩)
 | 9, v => v = .agg (cl (F (jj - 1))).toArray
 | 10, v => v = (.slice (some ⟨g, 0, none⟩) n cap)
 | 11, v => v = (.int .i64 (jj : Nat))
 | 12, v => v = .pointer (some ⟨g, (jj) * 6, none⟩)
 | 13, v => v = .agg (cl (F (jj))).toArray
 | 14, v => v = .pointer (some ⟨g, (jj) * 6, none⟩)
 | 16, v => v = .pointer (some ⟨g, (jj - 1) * 6, none⟩)
 | _, _ => True
def RPvd : Nat → Nat
 | 0 => 34
 | 1 => 35
 | 2 => 36
 | 3 => 37
 | 4 => 38
 | 5 => 39
 | 6 => 40
 | 7 => 41
 | 8 => 42
 | 9 => 43
 | 10 => 44
 | 11 => 45
 | 12 => 46
 | 13 => 47
 | 14 => 48
 | 15 => 1015
 | 16 => 49
 | 17 => 1017
 | i => 2000 + i

theorem Kg.out {g : Nat} {w w1 w' : World} (h : Below w.heap.size w w1) (k : Kg g w1 w') (hg : w.heap.size ≤ g) : Below w.heap.size w w' :=
 ⟨k.os.trans h.os, k.tape.trans h.tape, k.output.trans h.output, Nat.le_trans h.size k.size, fun q hq => (k.block q (Nat.lt_of_lt_of_le hq h.size) (by omega)).trans (h.block q hq)⟩
set_option maxHeartbeats 8000000 in
set_option maxRecDepth 100000 in
theorem rpairs_n {F : Nat → Prop} {w : World} {v : Value} {cs : List (List Value)} {n : Nat} {E : Nat → Ep} (h : RwA F w 49 6 v cs) (hcs : cs = (sg E 0 n).map cl) (hok : ∀ k, k < n → EpOk (E k)) (h1 : 1 ≤ n) (hn : n ≤ 2000000) :
  Calls Tryz.prog 40 #[v] w fun e w' => ∃ g cap G, e = .returned (.slice (some ⟨g, 0, none⟩) n cap) ∧ w.heap.size ≤ g ∧ Rw w' w.heap.size g n cap G ∧ sg G 0 n = ss ltE (sg E 0 n) ∧ Below w.heap.size w w' := by
 have hln : cs.length = n := by rw [hcs, List.length_map, sg_len]
 have hon : ∀ c ∈ cs, c.all (·.oneCell') = true := fun c hc => by
  rw [hcs] at hc
  obtain ⟨e, he, rfl⟩ := List.mem_map.1 hc
  obtain ⟨k, _, hk, rfl⟩ := sg_mem.1 he
  exact (hok k (by omega)).one
 have hfl : cs.flatten.length = cs.length * 6 := by
  rw [List.length_flatten, List.map_congr_left (g := fun _ => 6) (fun c hc => h.1 c hc), List.map_const', List.sum_replicate_nat]
 have hone : ∀ u ∈ cs.flatten, u.oneCell' = true := fun u hu => by
  obtain ⟨c, hc, huc⟩ := List.mem_flatten.1 hu
  exact List.all_eq_true.1 (hon c hc) u huc
 obtain ⟨a, cap0, rfl, hc, hnil⟩ := h.sliceP
 cases a with
 | none =>
  have := hnil rfl
  subst this
  simp at hln
  omega
 | some ad =>
  have hb0 : Below w.heap.size w (w.alloc (.cells #[] 49)) := (Below.refl _ _).alloc (Nat.le_refl _) _
  have hw0 : (w.alloc (.cells #[] 49)).ownsRow w.heap.size 49 6 (.slice (some ⟨w.heap.size, 0, none⟩) 0 0) 0 [] := by
   refine ⟨rfl, .inr ⟨w.heap.size, 0, #[], rfl, Nat.le_refl _, ?_, Nat.le_refl _, by unfold maxLen; omega, rfl, rfl⟩⟩
   show (w.heap.push _)[w.heap.size]? = _
   rw [Array.getElem?_push, if_pos rfl]
  have hnw : ∀ j u, cs.flatten[j]? = some u → (w.alloc (.cells #[] 49)).cell? (ad.add j) = some u := fun j u hj => by
   have h1 := hc ad rfl j u hj
   have hbl : (ad.add j).block < w.heap.size := by
    rcases Nat.lt_or_ge (ad.add j).block w.heap.size with h' | h'
    ·exact h'
    ·simp [World.cell?, Array.getElem?_eq_none h'] at h1
   exact (hb0.cell hbl).trans h1
  have hbs := bs_0P w
  have hrw : ∀ {w1 : World} {g cap : Nat}, w1.ownsRow w.heap.size 49 6 (.slice (some ⟨g, 0, none⟩) n cap) n cs.flatten → Hid (Rw w1 w.heap.size g n cap E) := fun hr => hide1 ⟨by rw [← hcs]; exact hr, hok⟩
  rw [hln] at hfl ⊢
  generalize cs.flatten = ys at *
  obtain ⟨B, hBe⟩ : ∃ B, Hid (B = w.heap.size) := ⟨_, hide1 rfl⟩
  clear hc hnil h hon hok hcs hln
  go_enter Tryz.func40, Tryz.ntmps40
  go_upto_region 2 with (at_builtin; refine wpList_apP rfl (.tmp 6) (.tmp 7) rfl w.heap.size _ 0 [] rfl hw0 ad n cap0 ys rfl hfl hnw hone (by omega) (by simp) ?_; intro v' w1 hrow hgr)
  rw [Nat.zero_add, List.nil_append] at hrow
  obtain ⟨g, cap, rfl, hgB⟩ : ∃ g cap, v' = .slice (some ⟨g, 0, none⟩) n cap ∧ w.heap.size ≤ g := by
   rcases hrow.2 with ⟨_, e⟩ | ⟨g, cap, cur, e, hg, _⟩
   ·omega
   ·exact ⟨g, cap, e, hg⟩
  have h0 := hrw hrow
  have hbw : Hid (Below w.heap.size w w1) := hide1 ⟨hgr.os, hgr.tape, hgr.output, Nat.le_trans hb0.size hgr.size, fun k hk => (hgr.block k (Nat.lt_of_lt_of_le hk hb0.size) (fun e => by
   have e2 : some k = some w.heap.size := e
   have : k = w.heap.size := by simpa using e2
   omega)).trans (hb0.block k hk)⟩
  rw [← hBe.out] at h0 hgB
  clear hrow hgr hrw hw0 hnw hb0 hbs hfl hone
  go_wp2_with fail
  go_loopw [4] (fun s8 wo => ∃ (i : Nat) (G : Nat → Ep), s8 = .int .i64 (i : Nat) ∧ 1 ≤ i ∧ i ≤ n ∧ Hid (Std ltE E 0 i G) ∧ Hid (Rw wo B g n cap G) ∧ Hid (Kg g w1 wo)) (fun s8 _ => n + 1 - (intOf s8).toNat)
  case atStart => exact ⟨1, E, by first | rfl | (congr 1; omega) | go_num, by omega, by omega, hide1 (std_1 (Nat.le_refl _)), h0, hide1 (Kg.refl g w1)⟩
  case round =>
   obtain ⟨i, G, rfl, hi1, hi2, hstd, hRo, hKo⟩ := hrel
   by_cases hlt : i < n
   ·have hrs := hide1 (std_rs ok_ltE hstd.out)
    go_wp2_with fail
    go_loopw [5] (fun s9 wr => ∃ jj : Nat, s9 = .int .i64 (jj : Nat) ∧ 0 ≤ jj ∧ jj ≤ i ∧ Hid (∀ k, jj ≤ k → k < i → ltE (G i) (G k) = true) ∧ Hid (Rw wr B g n cap (rot G jj i (i + 1))) ∧ Hid (Kg g w1 wr)) (fun s9 _ => (intOf s9).toNat)
    case atStart => exact ⟨i, by first | rfl | (congr 1; omega), by omega, Nat.le_refl _, hide1 fun k h1 h2 => by omega, hide1 (by rw [rot_id G (.inl rfl)]; exact hRo.out), hKo⟩
    case round =>
     obtain ⟨jj, rfl, hj1, hj2, hpast, hR, hK⟩ := hrel
     have hfin : ltE (G i) (G (jj - 1)) = false ∨ jj = 0 → Hid (Std ltE E 0 (i + 1) (rot G jj i (i + 1))) := fun hx => hide1 (std_s (by omega) hstd.out (mgd_r hj1 hj2 (fun k h1 h2 => by
      rcases hx with hx | hx
      ·by_cases ek : k = jj - 1
       ·rw [ek]; exact hx
       ·cases e : ltE (G i) (G k) with
        | false => rfl
        | true =>
         rcases ok_ltE.wk (G i) (G k) (G (jj - 1)) e with h3 | h3
         ·rw [hx] at h3; cases h3
         ·rw [hrs.out k (jj - 1) h1 (by omega) (by omega)] at h3; cases h3
      ·omega) hpast.out))
     by_cases hgt' : 0 < jj
     ·have hjn : jj < n := by omega
      have hj1n : jj - 1 < n := by omega
      have hsb := fun w => sub1_n (a := jj) (by omega) (by omega) w
      have hgt : ∀ w : World, (binOp .gtr 3 (.int .i64 (jj : Nat)) (.int .i64 0)).run Tryz.prog w = .ok (.bool true) w := fun w => by rw [gt_z, decide_eq_true hgt']
      have e1 : rot G jj i (i + 1) jj = G i := by unfold rot; rw [if_pos (by omega)]; congr 1; omega
      have e2 : rot G jj i (i + 1) (jj - 1) = G (jj - 1) := by unfold rot; rw [if_neg (by omega), if_neg (by omega)]
      have hld1 : ∀ wa, Below wr.heap.size wr wa → (Instr.loadAt 9 (.pointer (some ⟨g, jj * 6, none⟩))).run Tryz.prog wa = .ok (.string (st (G i).1)) wa := fun wa hwa => by
       have := (hR.out.later hwa).name hjn
       rw [e1] at this
       exact ld_s0 this
      have hld2 : ∀ wa, Below wr.heap.size wr wa → (Instr.loadAt 9 (.pointer (some ⟨g, (jj - 1) * 6, none⟩))).run Tryz.prog wa = .ok (.string (st (G (jj - 1)).1)) wa := fun wa hwa => by
       have := (hR.out.later hwa).name hj1n
       rw [e2] at this
       exact ld_s0 this
      obtain ⟨R, hRd⟩ : ∃ R, Hid (R = ltE (G i) (G (jj - 1))) := ⟨_, hide1 rfl⟩
      have hzr : ∀ w, (binOp .lss 9 (.string (st (G i).1)) (.string (st (G (jj - 1)).1))).run Tryz.prog w = .ok (.bool R) w := fun w => by rw [hRd.out]; exact lt_st _ _ w
      replace e1 := hide1 e1
      replace e2 := hide1 e2
      go_upto_region 6 with fail
      refine wp_flowG 15 _ _ (by kernel_rfl) (by kernel_rfl) (by kernel_rfl) rfl (fun j v _ => v = ([(.int .i64 (jj : Nat)), (.bool true), (.bool true), (.slice (some ⟨g, 0, none⟩) n cap), (.int .i64 (jj : Nat)), (.pointer (some ⟨g, jj * 6, none⟩)), (.pointer (some ⟨g, jj * 6, none⟩)), (.string (st (G i).1)), (.slice (some ⟨g, 0, none⟩) n cap), (.int .i64 (jj : Nat)), (.int .i64 (jj - 1 : Nat)), (.pointer (some ⟨g, (jj - 1) * 6, none⟩)), (.pointer (some ⟨g, (jj - 1) * 6, none⟩)), (.string (st (G (jj - 1)).1)), (.bool R), (.bool R)] : List Value).getD j undef) (fun _ _ _ _ h _ => h) ?_ ?_
      ·intro j op hop hj a wa hwa hsz hsl hdep K hK
       match j, hop with
       | 0, hop =>
        obtain rfl := Option.some.inj hop
        have p5 : a.tmps.getD 5 undef = (.int .i64 (jj : Nat)) := hsl 5 rfl
        exact .plain rfl (wp_val (w' := wa) (v := (.int .i64 (jj : Nat))) (by simp only [execOp, Act.eval]; rw [show a.tmps.getD 5 undef = _ from p5]; rfl) (hK _ _ (Below.refl _ _) rfl))
       | 1, hop =>
        obtain rfl := Option.some.inj hop
        have t0 : a.tmps.getD 16 undef = (.int .i64 (jj : Nat)) := hdep 0 _ 16 rfl rfl ⟨⟨0, .data⟩, by simp, rfl, rfl⟩
        exact .plain rfl (wp_val (w' := wa) (v := (.bool true)) (by simp only [execOp, Act.eval]; rw [show a.tmps.getD 16 undef = _ from t0]; simp only [Sem.run_bind, eqg_gtr, hgt, Result.andThen_ok, Sem.run_pure]) (hK _ _ (Below.refl _ _) rfl))
       | 2, hop =>
        obtain rfl := Option.some.inj hop
        have t1 : a.tmps.getD 17 undef = (.bool true) := hdep 1 _ 17 rfl rfl ⟨⟨1, .data⟩, by simp, rfl, rfl⟩
        exact .plain rfl (wp_val (w' := wa) (v := (.bool true)) (by simp only [execOp, Act.eval]; rw [show a.tmps.getD 17 undef = _ from t1]; rfl) (hK _ _ (Below.refl _ _) rfl))
       | 3, hop =>
        obtain rfl := Option.some.inj hop
        have gg : a.tmps.getD 18 undef = (.bool true) := hdep 2 _ 18 rfl rfl ⟨⟨2, .guard⟩, by simp, rfl, rfl⟩
        have p3 : a.tmps.getD 3 undef = (.slice (some ⟨g, 0, none⟩) n cap) := hsl 3 rfl
        exact .want rfl rfl (by rw [hsz]; simp) gg (wp_val (w' := wa) (v := (.slice (some ⟨g, 0, none⟩) n cap)) (by simp only [execOp, Act.eval]; rw [show a.tmps.getD 3 undef = _ from p3]; rfl) (hK _ _ (Below.refl _ _) rfl))
       | 4, hop =>
        obtain rfl := Option.some.inj hop
        have gg : a.tmps.getD 18 undef = (.bool true) := hdep 2 _ 18 rfl rfl ⟨⟨2, .guard⟩, by simp, rfl, rfl⟩
        have p5 : a.tmps.getD 5 undef = (.int .i64 (jj : Nat)) := hsl 5 rfl
        exact .want rfl rfl (by rw [hsz]; simp) gg (wp_val (w' := wa) (v := (.int .i64 (jj : Nat))) (by simp only [execOp, Act.eval]; rw [show a.tmps.getD 5 undef = _ from p5]; rfl) (hK _ _ (Below.refl _ _) rfl))
       | 5, hop =>
        obtain rfl := Option.some.inj hop
        have gg : a.tmps.getD 18 undef = (.bool true) := hdep 2 _ 18 rfl rfl ⟨⟨2, .guard⟩, by simp, rfl, rfl⟩
        have t3 : a.tmps.getD 19 undef = (.slice (some ⟨g, 0, none⟩) n cap) := hdep 3 _ 19 rfl rfl ⟨⟨3, .data⟩, by simp, rfl, rfl⟩
        have t4 : a.tmps.getD 20 undef = (.int .i64 (jj : Nat)) := hdep 4 _ 20 rfl rfl ⟨⟨4, .data⟩, by simp, rfl, rfl⟩
        exact .want rfl rfl (by rw [hsz]; simp) gg (wp_val (w' := wa) (v := (.pointer (some ⟨g, jj * 6, none⟩))) (by simp only [execOp, Act.eval]; rw [show a.tmps.getD 19 undef = _ from t3, show a.tmps.getD 20 undef = _ from t4]; simp only [Sem.run_bind, ix_sP hjn, Result.andThen_ok, Sem.run_pure]) (hK _ _ (Below.refl _ _) rfl))
       | 6, hop =>
        obtain rfl := Option.some.inj hop
        have gg : a.tmps.getD 18 undef = (.bool true) := hdep 2 _ 18 rfl rfl ⟨⟨2, .guard⟩, by simp, rfl, rfl⟩
        have t5 : a.tmps.getD 21 undef = (.pointer (some ⟨g, jj * 6, none⟩)) := hdep 5 _ 21 rfl rfl ⟨⟨5, .data⟩, by simp, rfl, rfl⟩
        exact .want rfl rfl (by rw [hsz]; simp) gg (wp_val (w' := wa) (v := (.pointer (some ⟨g, jj * 6, none⟩))) (by simp only [execOp, Act.eval]; rw [show a.tmps.getD 21 undef = _ from t5]; kernel_rfl) (hK _ _ (Below.refl _ _) rfl))
       | 7, hop =>
        obtain rfl := Option.some.inj hop
        have gg : a.tmps.getD 18 undef = (.bool true) := hdep 2 _ 18 rfl rfl ⟨⟨2, .guard⟩, by simp, rfl, rfl⟩
        have t6 : a.tmps.getD 22 undef = (.pointer (some ⟨g, jj * 6, none⟩)) := hdep 6 _ 22 rfl rfl ⟨⟨6, .data⟩, by simp, rfl, rfl⟩
        exact .want rfl rfl (by rw [hsz]; simp) gg (wp_val (w' := wa) (v := (.string (st (G i).1))) (by simp only [execOp, Act.eval]; rw [show a.tmps.getD 22 undef = _ from t6]; simp only [Sem.run_bind, hld1 _ hwa, Result.andThen_ok, Sem.run_pure]) (hK _ _ (Below.refl _ _) rfl))
       | 8, hop =>
        obtain rfl := Option.some.inj hop
        have gg : a.tmps.getD 18 undef = (.bool true) := hdep 2 _ 18 rfl rfl ⟨⟨2, .guard⟩, by simp, rfl, rfl⟩
        have p3 : a.tmps.getD 3 undef = (.slice (some ⟨g, 0, none⟩) n cap) := hsl 3 rfl
        exact .want rfl rfl (by rw [hsz]; simp) gg (wp_val (w' := wa) (v := (.slice (some ⟨g, 0, none⟩) n cap)) (by simp only [execOp, Act.eval]; rw [show a.tmps.getD 3 undef = _ from p3]; rfl) (hK _ _ (Below.refl _ _) rfl))
       | 9, hop =>
        obtain rfl := Option.some.inj hop
        have gg : a.tmps.getD 18 undef = (.bool true) := hdep 2 _ 18 rfl rfl ⟨⟨2, .guard⟩, by simp, rfl, rfl⟩
        have p5 : a.tmps.getD 5 undef = (.int .i64 (jj : Nat)) := hsl 5 rfl
        exact .want rfl rfl (by rw [hsz]; simp) gg (wp_val (w' := wa) (v := (.int .i64 (jj : Nat))) (by simp only [execOp, Act.eval]; rw [show a.tmps.getD 5 undef = _ from p5]; rfl) (hK _ _ (Below.refl _ _) rfl))
       | 10, hop =>
        obtain rfl := Option.some.inj hop
        have gg : a.tmps.getD 18 undef = (.bool true) := hdep 2 _ 18 rfl rfl ⟨⟨2, .guard⟩, by simp, rfl, rfl⟩
        have t9 : a.tmps.getD 25 undef = (.int .i64 (jj : Nat)) := hdep 9 _ 25 rfl rfl ⟨⟨9, .data⟩, by simp, rfl, rfl⟩
        exact .want rfl rfl (by rw [hsz]; simp) gg (wp_val (w' := wa) (v := (.int .i64 (jj - 1 : Nat))) (by simp only [execOp, Act.eval]; rw [show a.tmps.getD 25 undef = _ from t9]; simp only [Sem.run_bind, eqg_sub, hsb, Result.andThen_ok, Sem.run_pure]) (hK _ _ (Below.refl _ _) rfl))
       | 11, hop =>
        obtain rfl := Option.some.inj hop
        have gg : a.tmps.getD 18 undef = (.bool true) := hdep 2 _ 18 rfl rfl ⟨⟨2, .guard⟩, by simp, rfl, rfl⟩
        have t8 : a.tmps.getD 24 undef = (.slice (some ⟨g, 0, none⟩) n cap) := hdep 8 _ 24 rfl rfl ⟨⟨8, .data⟩, by simp, rfl, rfl⟩
        have t10 : a.tmps.getD 26 undef = (.int .i64 (jj - 1 : Nat)) := hdep 10 _ 26 rfl rfl ⟨⟨10, .data⟩, by simp, rfl, rfl⟩
        exact .want rfl rfl (by rw [hsz]; simp) gg (wp_val (w' := wa) (v := (.pointer (some ⟨g, (jj - 1) * 6, none⟩))) (by simp only [execOp, Act.eval]; rw [show a.tmps.getD 24 undef = _ from t8, show a.tmps.getD 26 undef = _ from t10]; simp only [Sem.run_bind, ix_sP hj1n, Result.andThen_ok, Sem.run_pure]) (hK _ _ (Below.refl _ _) rfl))
       | 12, hop =>
        obtain rfl := Option.some.inj hop
        have gg : a.tmps.getD 18 undef = (.bool true) := hdep 2 _ 18 rfl rfl ⟨⟨2, .guard⟩, by simp, rfl, rfl⟩
        have t11 : a.tmps.getD 27 undef = (.pointer (some ⟨g, (jj - 1) * 6, none⟩)) := hdep 11 _ 27 rfl rfl ⟨⟨11, .data⟩, by simp, rfl, rfl⟩
        exact .want rfl rfl (by rw [hsz]; simp) gg (wp_val (w' := wa) (v := (.pointer (some ⟨g, (jj - 1) * 6, none⟩))) (by simp only [execOp, Act.eval]; rw [show a.tmps.getD 27 undef = _ from t11]; kernel_rfl) (hK _ _ (Below.refl _ _) rfl))
       | 13, hop =>
        obtain rfl := Option.some.inj hop
        have gg : a.tmps.getD 18 undef = (.bool true) := hdep 2 _ 18 rfl rfl ⟨⟨2, .guard⟩, by simp, rfl, rfl⟩
        have t12 : a.tmps.getD 28 undef = (.pointer (some ⟨g, (jj - 1) * 6, none⟩)) := hdep 12 _ 28 rfl rfl ⟨⟨12, .data⟩, by simp, rfl, rfl⟩
        exact .want rfl rfl (by rw [hsz]; simp) gg (wp_val (w' := wa) (v := (.string (st (G (jj - 1)).1))) (by simp only [execOp, Act.eval]; rw [show a.tmps.getD 28 undef = _ from t12]; simp only [Sem.run_bind, hld2 _ hwa, Result.andThen_ok, Sem.run_pure]) (hK _ _ (Below.refl _ _) rfl))
       | 14, hop =>
        obtain rfl := Option.some.inj hop
        have gg : a.tmps.getD 18 undef = (.bool true) := hdep 2 _ 18 rfl rfl ⟨⟨2, .guard⟩, by simp, rfl, rfl⟩
        have t7 : a.tmps.getD 23 undef = (.string (st (G i).1)) := hdep 7 _ 23 rfl rfl ⟨⟨7, .data⟩, by simp, rfl, rfl⟩
        have t13 : a.tmps.getD 29 undef = (.string (st (G (jj - 1)).1)) := hdep 13 _ 29 rfl rfl ⟨⟨13, .data⟩, by simp, rfl, rfl⟩
        exact .want rfl rfl (by rw [hsz]; simp) gg (wp_val (w' := wa) (v := (.bool R)) (by simp only [execOp, Act.eval]; rw [show a.tmps.getD 23 undef = _ from t7, show a.tmps.getD 29 undef = _ from t13]; simp only [Sem.run_bind, eqg_lss, hzr, Result.andThen_ok, Sem.run_pure]) (hK _ _ (Below.refl _ _) rfl))
       | 15, _ => exact absurd rfl hj
       | _ + 16, hop => exact absurd hop (by simp)
      ·intro a wa hwa hdf hsz hsl hrr K hK
       have t2 : a.tmps.getD 18 undef = (.bool true) := hrr 2 _ 18 rfl (by decide) rfl
       have t14 : a.tmps.getD 30 undef = (.bool R) := hrr 14 _ 30 rfl (by decide) rfl
       refine .plain rfl (wp_val (w' := wa) (v := (.bool R)) (by simp only [execOp, Act.eval]; rw [show a.tmps.getD 18 undef = _ from t2, show a.tmps.getD 30 undef = _ from t14]; rfl) ?_)
       refine hK _ wa ?_
       have hact := act_puts hdf hsz hsl
       clear hrr hsl hdf hsz hK t14 t2
       simp only [List.filterMap_cons, List.filterMap_nil, List.foldl_cons, List.foldl_nil] at hact
       rw [hact]
       generalize a.tmps.getD 16 undef = y16
       generalize a.tmps.getD 17 undef = y17
       generalize a.tmps.getD 18 undef = y18
       generalize a.tmps.getD 19 undef = y19
       generalize a.tmps.getD 20 undef = y20
       generalize a.tmps.getD 21 undef = y21
       generalize a.tmps.getD 22 undef = y22
       generalize a.tmps.getD 23 undef = y23
       generalize a.tmps.getD 24 undef = y24
       generalize a.tmps.getD 25 undef = y25
       generalize a.tmps.getD 26 undef = y26
       generalize a.tmps.getD 27 undef = y27
       generalize a.tmps.getD 28 undef = y28
       generalize a.tmps.getD 29 undef = y29
       generalize a.tmps.getD 30 undef = y30
       clear hact
       simp only [Act.put, List.setIfInBounds_toArray, List.set_cons_succ, List.set_cons_zero]
       have hR4 := hide1 (hR.out.later hwa)
       have hK4 : Hid (Kg g w1 wa) := hide1 (hK.out.trans (Kg.ofB hwa))
       clear hld1 hld2 hzr hgt hwa hR hK
       cases R with
       | true =>
        have hxy : jj ≠ jj - 1 := by omega
        have hsr : Hid (sr (rot G jj i (i + 1)) jj (jj - 1) 1 = rot G (jj - 1) i (i + 1)) := hide1 (by
         have := rot_dn G (m := i) (k := jj - 1) (by omega)
         rwa [show jj - 1 + 1 = jj by omega] at this)
        have hpast2 : Hid (∀ k, jj - 1 ≤ k → k < i → ltE (G i) (G k) = true) := hide1 fun k h1 h2 => by
         by_cases ek : k = jj - 1
         ·rw [ek]; exact hRd.out.symm
         ·exact hpast.out k (by omega) h2
        go_upto_region 8 with fail
        refine wp_rel5 _ _ (fun _ j v _ => RPv g n cap jj (rot G jj i (i + 1)) j v) (fun D w => Msw wa B g n cap (rot G jj i (i + 1)) (jj) (jj - 1) (D 15) (D 17) w) RPvd (by kernel_rfl) (by kernel_rfl) 18 (by kernel_rfl) ?_ ?_ rfl (msw_start hjn hj1n hR4.out) ?_ ?_
        ·intro ix o ho
         match ix, ho with
         | 0, ho => obtain rfl := Option.some.inj ho; exact .inl ⟨rfl, by show 34 < 51; decide⟩
         | 1, ho => obtain rfl := Option.some.inj ho; exact .inl ⟨rfl, by show 35 < 51; decide⟩
         | 2, ho => obtain rfl := Option.some.inj ho; exact .inl ⟨rfl, by show 36 < 51; decide⟩
         | 3, ho => obtain rfl := Option.some.inj ho; exact .inl ⟨rfl, by show 37 < 51; decide⟩
         | 4, ho => obtain rfl := Option.some.inj ho; exact .inl ⟨rfl, by show 38 < 51; decide⟩
         | 5, ho => obtain rfl := Option.some.inj ho; exact .inl ⟨rfl, by show 39 < 51; decide⟩
         | 6, ho => obtain rfl := Option.some.inj ho; exact .inl ⟨rfl, by show 40 < 51; decide⟩
         | 7, ho => obtain rfl := Option.some.inj ho; exact .inl ⟨rfl, by show 41 < 51; decide⟩
         | 8, ho => obtain rfl := Option.some.inj ho; exact .inl ⟨rfl, by show 42 < 51; decide⟩
         | 9, ho => obtain rfl := Option.some.inj ho; exact .inl ⟨rfl, by show 43 < 51; decide⟩
         | 10, ho => obtain rfl := Option.some.inj ho; exact .inl ⟨rfl, by show 44 < 51; decide⟩
         | 11, ho => obtain rfl := Option.some.inj ho; exact .inl ⟨rfl, by show 45 < 51; decide⟩
         | 12, ho => obtain rfl := Option.some.inj ho; exact .inl ⟨rfl, by show 46 < 51; decide⟩
         | 13, ho => obtain rfl := Option.some.inj ho; exact .inl ⟨rfl, by show 47 < 51; decide⟩
         | 14, ho => obtain rfl := Option.some.inj ho; exact .inl ⟨rfl, by show 48 < 51; decide⟩
         | 15, ho => obtain rfl := Option.some.inj ho; exact .inr ⟨⟨rfl, fun _ _ _ _ => trivial⟩, by show 51 ≤ 1015; decide⟩
         | 16, ho => obtain rfl := Option.some.inj ho; exact .inl ⟨rfl, by show 49 < 51; decide⟩
         | 17, ho => obtain rfl := Option.some.inj ho; exact .inr ⟨⟨rfl, fun _ _ _ _ => trivial⟩, by show 51 ≤ 1017; decide⟩
         | _ + 18, ho => exact absurd ho (by simp)
        ·intro ix jx hi hj e; unfold RPvd at e; split at e <;> split at e <;> omega
        ·intro ix o ho
         match ix, ho with
         | 0, ho =>
          obtain rfl := Option.some.inj ho
          intro D a w hM hsl hdep hDi hcl K hK
          have hp3 : a.tmps.getD 3 undef = (.slice (some ⟨g, 0, none⟩) n cap) := hsl 3 (by intro j hj; unfold RPvd; split <;> omega)
          refine ⟨rfl, ?_⟩
          refine wp_val (w' := w) (v := (.slice (some ⟨g, 0, none⟩) n cap)) (by simp only [execOp, Act.eval]; rw [show a.tmps.getD 3 undef = _ from hp3]; rfl) ?_
          exact hK _ _ rfl (msw_ne (by decide) (by decide) hM) (fun _ _ _ _ h => h)
         | 1, ho =>
          obtain rfl := Option.some.inj ho
          intro D a w hM hsl hdep hDi hcl K hK
          have hp5 : a.tmps.getD 5 undef = (.int .i64 (jj : Nat)) := hsl 5 (by intro j hj; unfold RPvd; split <;> omega)
          refine ⟨rfl, ?_⟩
          refine wp_val (w' := w) (v := (.int .i64 (jj : Nat))) (by simp only [execOp, Act.eval]; rw [show a.tmps.getD 5 undef = _ from hp5]; rfl) ?_
          exact hK _ _ rfl (msw_ne (by decide) (by decide) hM) (fun _ _ _ _ h => h)
         | 2, ho =>
          obtain rfl := Option.some.inj ho
          intro D a w hM hsl hdep hDi hcl K hK
          have hp3 : a.tmps.getD 3 undef = (.slice (some ⟨g, 0, none⟩) n cap) := hsl 3 (by intro j hj; unfold RPvd; split <;> omega)
          refine ⟨rfl, ?_⟩
          refine wp_val (w' := w) (v := (.slice (some ⟨g, 0, none⟩) n cap)) (by simp only [execOp, Act.eval]; rw [show a.tmps.getD 3 undef = _ from hp3]; rfl) ?_
          exact hK _ _ rfl (msw_ne (by decide) (by decide) hM) (fun _ _ _ _ h => h)
         | 3, ho =>
          obtain rfl := Option.some.inj ho
          intro D a w hM hsl hdep hDi hcl K hK
          have hp5 : a.tmps.getD 5 undef = (.int .i64 (jj : Nat)) := hsl 5 (by intro j hj; unfold RPvd; split <;> omega)
          refine ⟨rfl, ?_⟩
          refine wp_val (w' := w) (v := (.int .i64 (jj : Nat))) (by simp only [execOp, Act.eval]; rw [show a.tmps.getD 5 undef = _ from hp5]; rfl) ?_
          exact hK _ _ rfl (msw_ne (by decide) (by decide) hM) (fun _ _ _ _ h => h)
         | 4, ho =>
          obtain rfl := Option.some.inj ho
          intro D a w hM hsl hdep hDi hcl K hK
          have e3 := (hdep ⟨3, .data⟩ (by simp) rfl).1
          refine ⟨rfl, ?_⟩
          refine wp_val (w' := w) (v := (.int .i64 (jj - 1 : Nat))) (by simp only [execOp, Act.eval]; rw [show a.tmps.getD 37 undef = _ from e3]; simp only [Sem.run_bind, eqg_sub, hsb, Result.andThen_ok, Sem.run_pure]) ?_
          exact hK _ _ rfl (msw_ne (by decide) (by decide) hM) (fun _ _ _ _ h => h)
         | 5, ho =>
          obtain rfl := Option.some.inj ho
          intro D a w hM hsl hdep hDi hcl K hK
          have hp3 : a.tmps.getD 3 undef = (.slice (some ⟨g, 0, none⟩) n cap) := hsl 3 (by intro j hj; unfold RPvd; split <;> omega)
          refine ⟨rfl, ?_⟩
          refine wp_val (w' := w) (v := (.slice (some ⟨g, 0, none⟩) n cap)) (by simp only [execOp, Act.eval]; rw [show a.tmps.getD 3 undef = _ from hp3]; rfl) ?_
          exact hK _ _ rfl (msw_ne (by decide) (by decide) hM) (fun _ _ _ _ h => h)
         | 6, ho =>
          obtain rfl := Option.some.inj ho
          intro D a w hM hsl hdep hDi hcl K hK
          have hp5 : a.tmps.getD 5 undef = (.int .i64 (jj : Nat)) := hsl 5 (by intro j hj; unfold RPvd; split <;> omega)
          refine ⟨rfl, ?_⟩
          refine wp_val (w' := w) (v := (.int .i64 (jj : Nat))) (by simp only [execOp, Act.eval]; rw [show a.tmps.getD 5 undef = _ from hp5]; rfl) ?_
          exact hK _ _ rfl (msw_ne (by decide) (by decide) hM) (fun _ _ _ _ h => h)
         | 7, ho =>
          obtain rfl := Option.some.inj ho
          intro D a w hM hsl hdep hDi hcl K hK
          have e6 := (hdep ⟨6, .data⟩ (by simp) rfl).1
          refine ⟨rfl, ?_⟩
          refine wp_val (w' := w) (v := (.int .i64 (jj - 1 : Nat))) (by simp only [execOp, Act.eval]; rw [show a.tmps.getD 40 undef = _ from e6]; simp only [Sem.run_bind, eqg_sub, hsb, Result.andThen_ok, Sem.run_pure]) ?_
          exact hK _ _ rfl (msw_ne (by decide) (by decide) hM) (fun _ _ _ _ h => h)
         | 8, ho =>
          obtain rfl := Option.some.inj ho
          intro D a w hM hsl hdep hDi hcl K hK
          have e5 := (hdep ⟨5, .data⟩ (by simp) rfl).1
          have e7 := (hdep ⟨7, .data⟩ (by simp) rfl).1
          refine ⟨rfl, ?_⟩
          refine wp_val (w' := w) (v := .pointer (some ⟨g, (jj - 1) * 6, none⟩)) (by simp only [execOp, Act.eval]; rw [show a.tmps.getD 39 undef = _ from e5, show a.tmps.getD 41 undef = _ from e7]; simp only [Sem.run_bind, ix_sP hj1n, Result.andThen_ok, Sem.run_pure]) ?_
          exact hK _ _ rfl (msw_ne (by decide) (by decide) hM) (fun _ _ _ _ h => h)
         | 9, ho =>
          obtain rfl := Option.some.inj ho
          intro D a w hM hsl hdep hDi hcl K hK
          have e8 := (hdep ⟨8, .data⟩ (by simp) rfl).1
          have hD15 : D 15 = false := by cases h9 : D 15 with | false => rfl | true => have := hcl 15 _ rfl h9 ⟨9, .data⟩ (by simp) rfl; rw [this] at hDi; cases hDi
          have hD17 : D 17 = false := by cases h9 : D 17 with | false => rfl | true => have := hcl 17 _ rfl h9 ⟨9, .phase⟩ (by simp) rfl; rw [this] at hDi; cases hDi
          have hl := (msw_00 hD15 hD17 hM).load hj1n
          refine ⟨rfl, ?_⟩
          refine wp_val (w' := w) (v := .agg (cl ((rot G jj i (i + 1)) (jj - 1))).toArray) (by simp only [execOp, Act.eval]; rw [show a.tmps.getD 42 undef = _ from e8]; simp only [Sem.run_bind, hl, Result.andThen_ok, Sem.run_pure]) ?_
          exact hK _ _ rfl (msw_ne (by decide) (by decide) hM) (fun _ _ _ _ h => h)
         | 10, ho =>
          obtain rfl := Option.some.inj ho
          intro D a w hM hsl hdep hDi hcl K hK
          have hp3 : a.tmps.getD 3 undef = (.slice (some ⟨g, 0, none⟩) n cap) := hsl 3 (by intro j hj; unfold RPvd; split <;> omega)
          refine ⟨rfl, ?_⟩
          refine wp_val (w' := w) (v := (.slice (some ⟨g, 0, none⟩) n cap)) (by simp only [execOp, Act.eval]; rw [show a.tmps.getD 3 undef = _ from hp3]; rfl) ?_
          exact hK _ _ rfl (msw_ne (by decide) (by decide) hM) (fun _ _ _ _ h => h)
         | 11, ho =>
          obtain rfl := Option.some.inj ho
          intro D a w hM hsl hdep hDi hcl K hK
          have hp5 : a.tmps.getD 5 undef = (.int .i64 (jj : Nat)) := hsl 5 (by intro j hj; unfold RPvd; split <;> omega)
          refine ⟨rfl, ?_⟩
          refine wp_val (w' := w) (v := (.int .i64 (jj : Nat))) (by simp only [execOp, Act.eval]; rw [show a.tmps.getD 5 undef = _ from hp5]; rfl) ?_
          exact hK _ _ rfl (msw_ne (by decide) (by decide) hM) (fun _ _ _ _ h => h)
         | 12, ho =>
          obtain rfl := Option.some.inj ho
          intro D a w hM hsl hdep hDi hcl K hK
          have e10 := (hdep ⟨10, .data⟩ (by simp) rfl).1
          have e11 := (hdep ⟨11, .data⟩ (by simp) rfl).1
          refine ⟨rfl, ?_⟩
          refine wp_val (w' := w) (v := .pointer (some ⟨g, (jj) * 6, none⟩)) (by simp only [execOp, Act.eval]; rw [show a.tmps.getD 44 undef = _ from e10, show a.tmps.getD 45 undef = _ from e11]; simp only [Sem.run_bind, ix_sP hjn, Result.andThen_ok, Sem.run_pure]) ?_
          exact hK _ _ rfl (msw_ne (by decide) (by decide) hM) (fun _ _ _ _ h => h)
         | 13, ho =>
          obtain rfl := Option.some.inj ho
          intro D a w hM hsl hdep hDi hcl K hK
          have e12 := (hdep ⟨12, .data⟩ (by simp) rfl).1
          have hD15 : D 15 = false := by cases h9 : D 15 with | false => rfl | true => have := hcl 15 _ rfl h9 ⟨13, .phase⟩ (by simp) rfl; rw [this] at hDi; cases hDi
          have hD17 : D 17 = false := by cases h9 : D 17 with | false => rfl | true => have := hcl 17 _ rfl h9 ⟨13, .data⟩ (by simp) rfl; rw [this] at hDi; cases hDi
          have hl := (msw_00 hD15 hD17 hM).load hjn
          refine ⟨rfl, ?_⟩
          refine wp_val (w' := w) (v := .agg (cl ((rot G jj i (i + 1)) (jj))).toArray) (by simp only [execOp, Act.eval]; rw [show a.tmps.getD 46 undef = _ from e12]; simp only [Sem.run_bind, hl, Result.andThen_ok, Sem.run_pure]) ?_
          exact hK _ _ rfl (msw_ne (by decide) (by decide) hM) (fun _ _ _ _ h => h)
         | 14, ho =>
          obtain rfl := Option.some.inj ho
          intro D a w hM hsl hdep hDi hcl K hK
          have e0 := (hdep ⟨0, .data⟩ (by simp) rfl).1
          have e1 := (hdep ⟨1, .data⟩ (by simp) rfl).1
          refine ⟨rfl, ?_⟩
          refine wp_val (w' := w) (v := .pointer (some ⟨g, (jj) * 6, none⟩)) (by simp only [execOp, Act.eval]; rw [show a.tmps.getD 34 undef = _ from e0, show a.tmps.getD 35 undef = _ from e1]; simp only [Sem.run_bind, ix_sP hjn, Result.andThen_ok, Sem.run_pure]) ?_
          exact hK _ _ rfl (msw_ne (by decide) (by decide) hM) (fun _ _ _ _ h => h)
         | 15, ho =>
          obtain rfl := Option.some.inj ho
          intro D a w hM hsl hdep hDi hcl K hK
          have e14 := (hdep ⟨14, .data⟩ (by simp) rfl).1
          have e9 := (hdep ⟨9, .data⟩ (by simp) rfl).1
          obtain ⟨c, hst, hM2⟩ := msw_1 (s1 := 15) (s2 := 17) (by decide) hxy hjn hDi hM
          refine ⟨rfl, ?_⟩
          refine wp_skp (w' := w.setRow g c) (by simp only [execOp, Act.eval]; rw [show a.tmps.getD 48 undef = _ from e14, show a.tmps.getD 43 undef = _ from e9]; simp only [Sem.run_bind, hst, Result.andThen_ok, Sem.run_pure]) ?_
          exact hK _ _ trivial hM2 (fun _ _ _ _ h => h)
         | 16, ho =>
          obtain rfl := Option.some.inj ho
          intro D a w hM hsl hdep hDi hcl K hK
          have e2 := (hdep ⟨2, .data⟩ (by simp) rfl).1
          have e4 := (hdep ⟨4, .data⟩ (by simp) rfl).1
          refine ⟨rfl, ?_⟩
          refine wp_val (w' := w) (v := .pointer (some ⟨g, (jj - 1) * 6, none⟩)) (by simp only [execOp, Act.eval]; rw [show a.tmps.getD 36 undef = _ from e2, show a.tmps.getD 38 undef = _ from e4]; simp only [Sem.run_bind, ix_sP hj1n, Result.andThen_ok, Sem.run_pure]) ?_
          exact hK _ _ rfl (msw_ne (by decide) (by decide) hM) (fun _ _ _ _ h => h)
         | 17, ho =>
          obtain rfl := Option.some.inj ho
          intro D a w hM hsl hdep hDi hcl K hK
          have e16 := (hdep ⟨16, .data⟩ (by simp) rfl).1
          have e13 := (hdep ⟨13, .data⟩ (by simp) rfl).1
          obtain ⟨c, hst, hM2⟩ := msw_2 (s1 := 15) (s2 := 17) (by decide) hxy hj1n hDi hM
          refine ⟨rfl, ?_⟩
          refine wp_skp (w' := w.setRow g c) (by simp only [execOp, Act.eval]; rw [show a.tmps.getD 49 undef = _ from e16, show a.tmps.getD 47 undef = _ from e13]; simp only [Sem.run_bind, hst, Result.andThen_ok, Sem.run_pure]) ?_
          exact hK _ _ trivial hM2 (fun _ _ _ _ h => h)
         | _ + 18, ho => exact absurd ho (by simp)
        ·intro D a wt hall hd hs hM hsl hr hact
         replace hM := msw_11 hxy (hall 15 (by decide)) (hall 17 (by decide)) hM
         simp only [List.filterMap_cons, List.filterMap_nil, List.foldl_cons, List.foldl_nil] at hact
         rw [hact]
         generalize a.tmps.getD 34 undef = y34
         generalize a.tmps.getD 35 undef = y35
         generalize a.tmps.getD 36 undef = y36
         generalize a.tmps.getD 37 undef = y37
         generalize a.tmps.getD 38 undef = y38
         generalize a.tmps.getD 39 undef = y39
         generalize a.tmps.getD 40 undef = y40
         generalize a.tmps.getD 41 undef = y41
         generalize a.tmps.getD 42 undef = y42
         generalize a.tmps.getD 43 undef = y43
         generalize a.tmps.getD 44 undef = y44
         generalize a.tmps.getD 45 undef = y45
         generalize a.tmps.getD 46 undef = y46
         generalize a.tmps.getD 47 undef = y47
         generalize a.tmps.getD 48 undef = y48
         generalize a.tmps.getD 49 undef = y49
         clear hact hsl hr hd hs hall a
         simp only [Act.put, List.setIfInBounds_toArray, List.set_cons_succ, List.set_cons_zero]
         obtain ⟨hR5, hO5⟩ := hM
         rw [hsr.out] at hR5
         have hR6 := hide1 hR5
         have hK6 : Hid (Kg g w1 wt) := hide1 (hK4.out.trans hO5.kg)
         clear hR5 hO5 hsr hsb hR4 hK4
         go_wp2
         go_roundw
         case rel => exact ⟨jj - 1, by congr 1; omega, by omega, by omega, hpast2, hR6, hK6⟩
         case measure => simp [intOf]; omega
       | false =>
        have hst := hfin (.inl hRd.out.symm)
        clear hfin hpast hrs hRd hsb
        go_wp2
        go_roundw
        case rel => exact ⟨i + 1, _, by first | rfl | (congr 1; omega) | go_num, by omega, by omega, hst, hR4, hK4⟩
        case measure => simp [intOf]; omega
     ·have hst := hfin (.inr (by omega))
      have hgt : ∀ w : World, (binOp .gtr 3 (.int .i64 (jj : Nat)) (.int .i64 0)).run Tryz.prog w = .ok (.bool false) w := fun w => by rw [gt_z, decide_eq_false hgt']
      clear hfin hpast hrs
      go_upto_region 6 with fail
      refine wp_flowG 15 _ _ (by kernel_rfl) (by kernel_rfl) (by kernel_rfl) rfl (fun j v _ => v = ([(.int .i64 (jj : Nat)), (.bool false), (.bool false), undef, undef, undef, undef, undef, undef, undef, undef, undef, undef, undef, undef, (.bool false)] : List Value).getD j undef) (fun _ _ _ _ h _ => h) ?_ ?_
      ·intro j op hop hj a wa hwa hsz hsl hdep K hK
       match j, hop with
       | 0, hop =>
        obtain rfl := Option.some.inj hop
        have p5 : a.tmps.getD 5 undef = (.int .i64 (jj : Nat)) := hsl 5 rfl
        exact .plain rfl (wp_val (w' := wa) (v := (.int .i64 (jj : Nat))) (by simp only [execOp, Act.eval]; rw [show a.tmps.getD 5 undef = _ from p5]; rfl) (hK _ _ (Below.refl _ _) rfl))
       | 1, hop =>
        obtain rfl := Option.some.inj hop
        have t0 : a.tmps.getD 16 undef = (.int .i64 (jj : Nat)) := hdep 0 _ 16 rfl rfl ⟨⟨0, .data⟩, by simp, rfl, rfl⟩
        exact .plain rfl (wp_val (w' := wa) (v := (.bool false)) (by simp only [execOp, Act.eval]; rw [show a.tmps.getD 16 undef = _ from t0]; simp only [Sem.run_bind, eqg_gtr, hgt, Result.andThen_ok, Sem.run_pure]) (hK _ _ (Below.refl _ _) rfl))
       | 2, hop =>
        obtain rfl := Option.some.inj hop
        have t1 : a.tmps.getD 17 undef = (.bool false) := hdep 1 _ 17 rfl rfl ⟨⟨1, .data⟩, by simp, rfl, rfl⟩
        exact .plain rfl (wp_val (w' := wa) (v := (.bool false)) (by simp only [execOp, Act.eval]; rw [show a.tmps.getD 17 undef = _ from t1]; rfl) (hK _ _ (Below.refl _ _) rfl))
       | 3, hop =>
        obtain rfl := Option.some.inj hop
        have gg : a.tmps.getD 18 undef = (.bool false) := hdep 2 _ 18 rfl rfl ⟨⟨2, .guard⟩, by simp, rfl, rfl⟩
        exact .skip rfl rfl (by rw [hsz]; simp) gg (hK _ _ (Below.refl _ _) rfl)
       | 4, hop =>
        obtain rfl := Option.some.inj hop
        have gg : a.tmps.getD 18 undef = (.bool false) := hdep 2 _ 18 rfl rfl ⟨⟨2, .guard⟩, by simp, rfl, rfl⟩
        exact .skip rfl rfl (by rw [hsz]; simp) gg (hK _ _ (Below.refl _ _) rfl)
       | 5, hop =>
        obtain rfl := Option.some.inj hop
        have gg : a.tmps.getD 18 undef = (.bool false) := hdep 2 _ 18 rfl rfl ⟨⟨2, .guard⟩, by simp, rfl, rfl⟩
        exact .skip rfl rfl (by rw [hsz]; simp) gg (hK _ _ (Below.refl _ _) rfl)
       | 6, hop =>
        obtain rfl := Option.some.inj hop
        have gg : a.tmps.getD 18 undef = (.bool false) := hdep 2 _ 18 rfl rfl ⟨⟨2, .guard⟩, by simp, rfl, rfl⟩
        exact .skip rfl rfl (by rw [hsz]; simp) gg (hK _ _ (Below.refl _ _) rfl)
       | 7, hop =>
        obtain rfl := Option.some.inj hop
        have gg : a.tmps.getD 18 undef = (.bool false) := hdep 2 _ 18 rfl rfl ⟨⟨2, .guard⟩, by simp, rfl, rfl⟩
        exact .skip rfl rfl (by rw [hsz]; simp) gg (hK _ _ (Below.refl _ _) rfl)
       | 8, hop =>
        obtain rfl := Option.some.inj hop
        have gg : a.tmps.getD 18 undef = (.bool false) := hdep 2 _ 18 rfl rfl ⟨⟨2, .guard⟩, by simp, rfl, rfl⟩
        exact .skip rfl rfl (by rw [hsz]; simp) gg (hK _ _ (Below.refl _ _) rfl)
       | 9, hop =>
        obtain rfl := Option.some.inj hop
        have gg : a.tmps.getD 18 undef = (.bool false) := hdep 2 _ 18 rfl rfl ⟨⟨2, .guard⟩, by simp, rfl, rfl⟩
        exact .skip rfl rfl (by rw [hsz]; simp) gg (hK _ _ (Below.refl _ _) rfl)
       | 10, hop =>
        obtain rfl := Option.some.inj hop
        have gg : a.tmps.getD 18 undef = (.bool false) := hdep 2 _ 18 rfl rfl ⟨⟨2, .guard⟩, by simp, rfl, rfl⟩
        exact .skip rfl rfl (by rw [hsz]; simp) gg (hK _ _ (Below.refl _ _) rfl)
       | 11, hop =>
        obtain rfl := Option.some.inj hop
        have gg : a.tmps.getD 18 undef = (.bool false) := hdep 2 _ 18 rfl rfl ⟨⟨2, .guard⟩, by simp, rfl, rfl⟩
        exact .skip rfl rfl (by rw [hsz]; simp) gg (hK _ _ (Below.refl _ _) rfl)
       | 12, hop =>
        obtain rfl := Option.some.inj hop
        have gg : a.tmps.getD 18 undef = (.bool false) := hdep 2 _ 18 rfl rfl ⟨⟨2, .guard⟩, by simp, rfl, rfl⟩
        exact .skip rfl rfl (by rw [hsz]; simp) gg (hK _ _ (Below.refl _ _) rfl)
       | 13, hop =>
        obtain rfl := Option.some.inj hop
        have gg : a.tmps.getD 18 undef = (.bool false) := hdep 2 _ 18 rfl rfl ⟨⟨2, .guard⟩, by simp, rfl, rfl⟩
        exact .skip rfl rfl (by rw [hsz]; simp) gg (hK _ _ (Below.refl _ _) rfl)
       | 14, hop =>
        obtain rfl := Option.some.inj hop
        have gg : a.tmps.getD 18 undef = (.bool false) := hdep 2 _ 18 rfl rfl ⟨⟨2, .guard⟩, by simp, rfl, rfl⟩
        exact .skip rfl rfl (by rw [hsz]; simp) gg (hK _ _ (Below.refl _ _) rfl)
       | 15, _ => exact absurd rfl hj
       | _ + 16, hop => exact absurd hop (by simp)
      ·intro a wa hwa hdf hsz hsl hrr K hK
       have t2 : a.tmps.getD 18 undef = (.bool false) := hrr 2 _ 18 rfl (by decide) rfl
       have t14 : a.tmps.getD 30 undef = undef := hrr 14 _ 30 rfl (by decide) rfl
       refine .plain rfl (wp_val (w' := wa) (v := (.bool false)) (by simp only [execOp, Act.eval]; rw [show a.tmps.getD 18 undef = _ from t2, show a.tmps.getD 30 undef = _ from t14]; rfl) ?_)
       refine hK _ wa ?_
       have hact := act_puts hdf hsz hsl
       clear hrr hsl hdf hsz hK t14 t2
       simp only [List.filterMap_cons, List.filterMap_nil, List.foldl_cons, List.foldl_nil] at hact
       rw [hact]
       generalize a.tmps.getD 16 undef = y16
       generalize a.tmps.getD 17 undef = y17
       generalize a.tmps.getD 18 undef = y18
       generalize a.tmps.getD 19 undef = y19
       generalize a.tmps.getD 20 undef = y20
       generalize a.tmps.getD 21 undef = y21
       generalize a.tmps.getD 22 undef = y22
       generalize a.tmps.getD 23 undef = y23
       generalize a.tmps.getD 24 undef = y24
       generalize a.tmps.getD 25 undef = y25
       generalize a.tmps.getD 26 undef = y26
       generalize a.tmps.getD 27 undef = y27
       generalize a.tmps.getD 28 undef = y28
       generalize a.tmps.getD 29 undef = y29
       generalize a.tmps.getD 30 undef = y30
       clear hact
       simp only [Act.put, List.setIfInBounds_toArray, List.set_cons_succ, List.set_cons_zero]
       have hR4 := hide1 (hR.out.later hwa)
       have hK4 : Hid (Kg g w1 wa) := hide1 (hK.out.trans (Kg.ofB hwa))
       clear hgt hwa hR hK
       go_wp2
       go_roundw
       case rel => exact ⟨i + 1, _, by first | rfl | (congr 1; omega) | go_num, by omega, by omega, hst, hR4, hK4⟩
       case measure => simp [intOf]; omega
   ·have hei : i = n := by omega
    have hfin : Hid (sg G 0 n = ss ltE (sg E 0 n)) := hide1 (by
     have := hstd.out.2
     rw [hei] at this
     simpa using this)
    go_wp2
    go_ret
    refine ⟨g, cap, G, rfl, by rw [← hBe.out]; exact hgB, by rw [← hBe.out]; exact hRo.out, hfin.out, Kg.out hbw.out hKo.out (by rw [← hBe.out]; exact hgB)⟩
def rz : Nat → T → List UInt8
 | 0, _ => []
 | n + 1, .mk k i s l p => if k = 0 then [110, 117, 108, 108] else if k = 1 then Lib.formatBool (decide (i = 1)) else if k = 2 then Lib.itoa i else if k = 3 then qu s
  else if k = 4 then 91 :: (cj (l.map (rz n)) ++ [93]) else if k = 5 then 123 :: (cj ((ss ltT p).map fun q => qu q.1 ++ 58 :: rz n q.2) ++ [125]) else []
def shT : Nat → T → Prop
 | 0, _ => True
 | h + 1, .mk _ _ s l p => s.length ≤ 100000 ∧ (∀ t ∈ l, shT h t) ∧ ∀ q ∈ p, q.1.length ≤ 100000 ∧ shT h q.2
theorem mg_map {α β : Type} {lt : α → α → Bool} {lt' : β → β → Bool} (f : α → β) (hf : ∀ a b, lt' (f a) (f b) = lt a b) : ∀ A B : List α, (mg lt A B).map f = mg lt' (A.map f) (B.map f)
 | [], B => rfl
 | x :: A, B => by
  have h1 : (B.takeWhile (lt · x)).map f = (B.map f).takeWhile (lt' · (f x)) := by
   rw [List.takeWhile_map]; congr 1; congr 1; funext b; simp [hf]
  have h2 : (B.dropWhile (lt · x)).map f = (B.map f).dropWhile (lt' · (f x)) := by
   rw [List.dropWhile_map]; congr 1; congr 1; funext b; simp [hf]
  show (B.takeWhile (lt · x) ++ x :: mg lt A (B.dropWhile (lt · x))).map f = (B.map f).takeWhile (lt' · (f x)) ++ f x :: mg lt' (A.map f) ((B.map f).dropWhile (lt' · (f x)))
  rw [List.map_append, List.map_cons, mg_map f hf A, h1, h2]
theorem ss_map {α β : Type} {lt : α → α → Bool} {lt' : β → β → Bool} (f : α → β) (hf : ∀ a b, lt' (f a) (f b) = lt a b) (L : List α) : (ss lt L).map f = ss lt' (L.map f) := by
 have : ∀ (L P : List α), (L.foldl (fun P x => mg lt P [x]) P).map f = (L.map f).foldl (fun P x => mg lt' P [x]) (P.map f) := by
  intro L
  induction L with
  | nil => intro P; rfl
  | cons x L ih =>
   intro P
   simp only [List.foldl_cons, List.map_cons]
   rw [ih, mg_map f hf]; rfl
 exact this L []
theorem rz_cz : ∀ (n : Nat) (t : T), gd n t = true → rz (n + 1) t = cz (n + 1) (so n t)
 | 0, .mk k i s l p, hg => by
  obtain ⟨g1, g2, _⟩ := gd_list hg
  have hl : l = [] := by
   rcases g1 with e | ⟨m, e, _⟩
   ·exact e
   ·omega
  have hp : p = [] := by
   rcases g2 with e | ⟨m, e, _⟩
   ·exact e
   ·omega
  subst hl hp
  show rz 1 (.mk k i s [] []) = cz 1 (.mk k i s [] [])
  unfold rz cz
  rfl
 | n + 1, .mk k i s l p, hg => by
  obtain ⟨g1, g2, _⟩ := gd_list hg
  have hl : l.map (rz (n + 1)) = (l.map (so n)).map (cz (n + 1)) := by
   rw [List.map_map]
   refine List.map_congr_left fun t ht => ?_
   rcases g1 with e | ⟨m, e, g⟩
   ·rw [e] at ht; simp at ht
   ·cases e
    exact rz_cz n t (g t ht)
  have hp : ((ss ltT p).map fun q => qu q.1 ++ 58 :: rz (n + 1) q.2) = (ss ltT (p.map fun q => (q.1, so n q.2))).map fun q => qu q.1 ++ 58 :: cz (n + 1) q.2 := by
   rw [← ss_map (lt := ltT) (fun q : Tp => (q.1, so n q.2)) (fun _ _ => rfl), List.map_map]
   refine List.map_congr_left fun q hq => ?_
   rcases g2 with e | ⟨m, e, g⟩
   ·rw [e] at hq; simp [ss] at hq
   ·cases e
    show _ = qu q.1 ++ 58 :: cz (n + 1) (so n q.2)
    rw [rz_cz n q.2 (g q (ss_mem.1 hq))]
  show rz (n + 1 + 1) (.mk k i s l p) = cz (n + 1 + 1) (.mk k i s (l.map (so n)) (ss ltT (p.map fun q => (q.1, so n q.2))))
  rw [rz, cz, hl, hp]
set_option maxHeartbeats 4000000 in
set_option maxRecDepth 100000 in
theorem txt_0 {w : World} {sl sp : Value} {s : List UInt8} {ki : Int} : Calls Tryz.prog 39 #[.agg #[.int .i64 0, .int .i64 ki, .string (st s), sl, sp]] w (AnN w ([110, 117, 108, 108])) := by
 obtain ⟨wb, hwb⟩ : ∃ wb, wb = w.alloc (.cells #[.int .i64 0, .int .i64 ki, .string (st s), sl, sp] 28) := ⟨_, rfl⟩
 have hB : Below w.heap.size w wb := by rw [hwb]; exact (Below.refl _ _).alloc (Nat.le_refl _) _
 have hn : wb.heap[w.heap.size]? = some (.cells #[.int .i64 0, .int .i64 ki, .string (st s), sl, sp] 28 (0, 0)) := by
  rw [hwb]
  show (w.heap.push _)[w.heap.size]? = _
  rw [Array.getElem?_push, if_pos rfl]
 have c0 : wb.cell? ⟨w.heap.size, 0, none⟩ = some (.int .i64 0) := by simp only [World.cell?, hn]; rfl
 have c1 : wb.cell? ⟨w.heap.size, 1, none⟩ = some (.int .i64 ki) := by simp only [World.cell?, hn]; rfl
 have c2 : wb.cell? ⟨w.heap.size, 2, none⟩ = some (.string (st s)) := by simp only [World.cell?, hn]; rfl
 have c3 : wb.cell? ⟨w.heap.size, 3, none⟩ = some sl := by simp only [World.cell?, hn]; rfl
 have c4 : wb.cell? ⟨w.heap.size, 4, none⟩ = some sp := by simp only [World.cell?, hn]; rfl
 replace hB := hide1 hB
 clear hn
 go_enter Tryz.func39, Tryz.ntmps39
 go_upto_region 1 with fail
 rw [← hwb]
 clear hwb
 go_wp2
 go_ret
 exact ⟨rfl, hB.out⟩
set_option maxHeartbeats 4000000 in
set_option maxRecDepth 100000 in
theorem txt_1 {w : World} {sl sp : Value} {s : List UInt8} {ki : Int} : Calls Tryz.prog 39 #[.agg #[.int .i64 1, .int .i64 ki, .string (st s), sl, sp]] w (AnN w (Lib.formatBool (decide (ki = 1)))) := by
 obtain ⟨wb, hwb⟩ : ∃ wb, wb = w.alloc (.cells #[.int .i64 1, .int .i64 ki, .string (st s), sl, sp] 28) := ⟨_, rfl⟩
 have hB : Below w.heap.size w wb := by rw [hwb]; exact (Below.refl _ _).alloc (Nat.le_refl _) _
 have hn : wb.heap[w.heap.size]? = some (.cells #[.int .i64 1, .int .i64 ki, .string (st s), sl, sp] 28 (0, 0)) := by
  rw [hwb]
  show (w.heap.push _)[w.heap.size]? = _
  rw [Array.getElem?_push, if_pos rfl]
 have c0 : wb.cell? ⟨w.heap.size, 0, none⟩ = some (.int .i64 1) := by simp only [World.cell?, hn]; rfl
 have c1 : wb.cell? ⟨w.heap.size, 1, none⟩ = some (.int .i64 ki) := by simp only [World.cell?, hn]; rfl
 have c2 : wb.cell? ⟨w.heap.size, 2, none⟩ = some (.string (st s)) := by simp only [World.cell?, hn]; rfl
 have c3 : wb.cell? ⟨w.heap.size, 3, none⟩ = some sl := by simp only [World.cell?, hn]; rfl
 have c4 : wb.cell? ⟨w.heap.size, 4, none⟩ = some sp := by simp only [World.cell?, hn]; rfl
 by_cases h1 : ki = 1
 ·subst h1
  replace hB := hide1 hB
  clear hn
  go_enter Tryz.func39, Tryz.ntmps39
  go_upto_region 1 with fail
  rw [← hwb]
  clear hwb
  go_wp2
  go_ret
  exact ⟨rfl, hB.out⟩
 ·rw [decide_eq_false h1]
  replace hB := hide1 hB
  clear hn
  go_enter Tryz.func39, Tryz.ntmps39
  go_upto_region 1 with fail
  rw [← hwb]
  clear hwb
  go_wp2
  go_ret
  exact ⟨rfl, hB.out⟩
set_option maxHeartbeats 4000000 in
set_option maxRecDepth 100000 in
theorem txt_2 {w : World} {sl sp : Value} {s : List UInt8} {ki : Int} (hr : -9007199254740991 ≤ ki ∧ ki ≤ 9007199254740991) : Calls Tryz.prog 39 #[.agg #[.int .i64 2, .int .i64 ki, .string (st s), sl, sp]] w (AnN w (Lib.itoa ki)) := by
 obtain ⟨wb, hwb⟩ : ∃ wb, wb = w.alloc (.cells #[.int .i64 2, .int .i64 ki, .string (st s), sl, sp] 28) := ⟨_, rfl⟩
 have hB : Below w.heap.size w wb := by rw [hwb]; exact (Below.refl _ _).alloc (Nat.le_refl _) _
 have hn : wb.heap[w.heap.size]? = some (.cells #[.int .i64 2, .int .i64 ki, .string (st s), sl, sp] 28 (0, 0)) := by
  rw [hwb]
  show (w.heap.push _)[w.heap.size]? = _
  rw [Array.getElem?_push, if_pos rfl]
 have c0 : wb.cell? ⟨w.heap.size, 0, none⟩ = some (.int .i64 2) := by simp only [World.cell?, hn]; rfl
 have c1 : wb.cell? ⟨w.heap.size, 1, none⟩ = some (.int .i64 ki) := by simp only [World.cell?, hn]; rfl
 have c2 : wb.cell? ⟨w.heap.size, 2, none⟩ = some (.string (st s)) := by simp only [World.cell?, hn]; rfl
 have c3 : wb.cell? ⟨w.heap.size, 3, none⟩ = some sl := by simp only [World.cell?, hn]; rfl
 have c4 : wb.cell? ⟨w.heap.size, 4, none⟩ = some sp := by simp only [World.cell?, hn]; rfl
 have hc := rnum_d (w := wb) hr
 replace hB := hide1 hB
 clear hn
 go_enter Tryz.func39, Tryz.ntmps39
 go_upto_region 1 with fail
 rw [← hwb]
 clear hwb
 go_wp2_with fail
 refine hc.mono ?_
 rintro e w1 ⟨rfl, b1⟩
 have B1 := hide1 (hB.out.trans (b1.mono hB.out.size))
 clear hc b1
 go_wp2
 go_ret
 exact ⟨rfl, B1.out⟩
set_option maxHeartbeats 4000000 in
set_option maxRecDepth 100000 in
theorem txt_3 {w : World} {sl sp : Value} {s : List UInt8} {ki : Int} (hr : s.length ≤ 100000) : Calls Tryz.prog 39 #[.agg #[.int .i64 3, .int .i64 ki, .string (st s), sl, sp]] w (AnN w (qu s)) := by
 obtain ⟨wb, hwb⟩ : ∃ wb, wb = w.alloc (.cells #[.int .i64 3, .int .i64 ki, .string (st s), sl, sp] 28) := ⟨_, rfl⟩
 have hB : Below w.heap.size w wb := by rw [hwb]; exact (Below.refl _ _).alloc (Nat.le_refl _) _
 have hn : wb.heap[w.heap.size]? = some (.cells #[.int .i64 3, .int .i64 ki, .string (st s), sl, sp] 28 (0, 0)) := by
  rw [hwb]
  show (w.heap.push _)[w.heap.size]? = _
  rw [Array.getElem?_push, if_pos rfl]
 have c0 : wb.cell? ⟨w.heap.size, 0, none⟩ = some (.int .i64 3) := by simp only [World.cell?, hn]; rfl
 have c1 : wb.cell? ⟨w.heap.size, 1, none⟩ = some (.int .i64 ki) := by simp only [World.cell?, hn]; rfl
 have c2 : wb.cell? ⟨w.heap.size, 2, none⟩ = some (.string (st s)) := by simp only [World.cell?, hn]; rfl
 have c3 : wb.cell? ⟨w.heap.size, 3, none⟩ = some sl := by simp only [World.cell?, hn]; rfl
 have c4 : wb.cell? ⟨w.heap.size, 4, none⟩ = some sp := by simp only [World.cell?, hn]; rfl
 have hc := rquote_d (w := wb) hr
 replace hB := hide1 hB
 clear hn
 go_enter Tryz.func39, Tryz.ntmps39
 go_upto_region 1 with fail
 rw [← hwb]
 clear hwb
 go_wp2_with fail
 refine hc.mono ?_
 rintro e w1 ⟨rfl, b1⟩
 have B1 := hide1 (hB.out.trans (b1.mono hB.out.size))
 clear hc b1
 go_wp2
 go_ret
 exact ⟨rfl, B1.out⟩
theorem cj_pre (A B : List (List UInt8)) : (cj A).length ≤ (cj (A ++ B)).length := by
 cases A with
 | nil => simp [cj]
 | cons x r => simp [cj]
theorem cj_take (L : List (List UInt8)) (j : Nat) : (cj (L.take j)).length ≤ (cj L).length := by
 have := cj_pre (L.take j) (L.drop j)
 rwa [List.take_append_drop] at this
theorem cj_step {L : List (List UInt8)} {j : Nat} {x : List UInt8} (h : L[j]? = some x) : cj (L.take (j + 1)) = if j = 0 then x else cj (L.take j) ++ 44 :: x := by
 have hj := (List.getElem?_eq_some_iff.1 h).1
 rw [List.take_add_one, h]
 show cj (L.take j ++ [x]) = _
 rw [cj_snoc]
 by_cases h0 : j = 0
 ·rw [if_pos h0, if_pos (by rw [h0]; rfl)]
 ·rw [if_neg h0, if_neg (fun e => by have := congrArg List.length e; rw [List.length_take, List.length_nil] at this; omega)]
set_option maxHeartbeats 4000000 in
set_option maxRecDepth 100000 in
theorem txt_4 {w : World} {sl sp : Value} {s : List UInt8} {ki : Int} {F : Nat → Prop} {cl : List (List Value)} {L : List (List UInt8)} (hrow : RwA F w 28 5 sl cl) (hln : L.length = cl.length) (hn2 : cl.length ≤ 1000000000) (hlen : (cj L).length ≤ 1000000000000)
  (hval : ∀ (i : Nat) (c : List Value) (x : List UInt8), cl[i]? = some c → L[i]? = some x → ∀ w1, Below w.heap.size w w1 → Calls Tryz.prog 39 #[.agg c.toArray] w1 (AnN w1 x)) : Calls Tryz.prog 39 #[.agg #[.int .i64 4, .int .i64 ki, .string (st s), sl, sp]] w (AnN w (91 :: (cj L ++ [93]))) := by
 obtain ⟨wb, hwb⟩ : ∃ wb, wb = w.alloc (.cells #[.int .i64 4, .int .i64 ki, .string (st s), sl, sp] 28) := ⟨_, rfl⟩
 have hB : Below w.heap.size w wb := by rw [hwb]; exact (Below.refl _ _).alloc (Nat.le_refl _) _
 have hn : wb.heap[w.heap.size]? = some (.cells #[.int .i64 4, .int .i64 ki, .string (st s), sl, sp] 28 (0, 0)) := by
  rw [hwb]
  show (w.heap.push _)[w.heap.size]? = _
  rw [Array.getElem?_push, if_pos rfl]
 have c0 : wb.cell? ⟨w.heap.size, 0, none⟩ = some (.int .i64 4) := by simp only [World.cell?, hn]; rfl
 have c1 : wb.cell? ⟨w.heap.size, 1, none⟩ = some (.int .i64 ki) := by simp only [World.cell?, hn]; rfl
 have c2 : wb.cell? ⟨w.heap.size, 2, none⟩ = some (.string (st s)) := by simp only [World.cell?, hn]; rfl
 have c3 : wb.cell? ⟨w.heap.size, 3, none⟩ = some sl := by simp only [World.cell?, hn]; rfl
 have c4 : wb.cell? ⟨w.heap.size, 4, none⟩ = some sp := by simp only [World.cell?, hn]; rfl
 obtain ⟨sa, scap, hsl⟩ : ∃ a cap, sl = .slice a cl.length cap := by
  obtain ⟨_, ⟨a, cap, h1, h2⟩ | ⟨b, o, cap, cur, fz, h1, _⟩⟩ := hrow
  ·exact ⟨a, cap, by rw [h1, h2]; rfl⟩
  ·exact ⟨_, cap, h1⟩
 subst hsl
 have hz : w.heap.size < wb.heap.size := (Array.getElem?_eq_some_iff.1 hn).1
 replace hB := hide1 hB
 replace hn := hide1 hn
 replace hlen := hide1 hlen
 go_enter Tryz.func39, Tryz.ntmps39
 go_upto_region 1 with fail
 rw [← hwb]
 clear hwb
 go_wp2_with fail
 go_loopw [3, 4] (fun v i wr => ∃ j : Nat, j ≤ cl.length ∧ i = .int .i64 (j : Nat) ∧ v = .string (st (cj (L.take j))) ∧ Hid (Below wb.heap.size wb wr)) (fun _ i _ => cl.length - (intOf i).toNat)
 case atStart => exact ⟨0, by omega, rfl, rfl, hide1 (Below.refl _ _)⟩
 case round =>
  clear c0 c1 c2 c3 c4
  obtain ⟨j, hj, rfl, rfl, hbw⟩ := hrel
  have hbr := (hbw.out.block w.heap.size hz).trans hn.out
  have c3 : wr.cell? ⟨w.heap.size, 3, none⟩ = some (.slice sa cl.length scap) := by simp only [World.cell?, hbr]; rfl
  have hBr : Hid (Below w.heap.size w wr) := hide1 (hB.out.trans (hbw.out.mono hB.out.size))
  have hPl := hide1 (cj_take L j)
  by_cases hlt : j < cl.length
  ·obtain ⟨c, hc⟩ : ∃ c, cl[j]? = some c := ⟨_, List.getElem?_eq_getElem hlt⟩
   obtain ⟨x, hx⟩ : ∃ x, L[j]? = some x := ⟨_, List.getElem?_eq_getElem (by omega)⟩
   obtain ⟨b, o, cap, hve, -, hbl, hr⟩ := hrow.at hc
   have hva : sa = some ⟨b, o, none⟩ := by cases hve; rfl
   subst hva
   obtain ⟨x0, x1, x2, x3, x4, rfl⟩ := five_l (hrow.1 c (List.mem_of_getElem? hc))
   have hr2 : wr.rangeAt b (o + j * 5) [x0, x1, x2, x3, x4] := fun q v hj => by
    rw [World.cell?_of_block (w := w) (hBr.out.block b hbl)]
    exact hr q v hj
   have hcall := hval j _ x hc hx wr hBr.out
   replace hcall : Calls Tryz.prog 39 #[.agg #[x0, x1, x2, x3, x4]] wr (AnN wr x) := hcall
   have hst := cj_step hx
   have hxl : x.length ≤ (cj L).length := by
    have := cj_take L (j + 1)
    rw [hst] at this
    split at this
    ·exact this
    ·rw [List.length_append, List.length_cons] at this; omega
   replace hxl := hide1 hxl
   generalize hP : cj (L.take j) = P at *
   clear hve hr hx hc hval hrow hbr
   by_cases h0 : j = 0
   ·rw [if_pos h0] at hst
    subst h0
    have hP0 : P = [] := by rw [← hP]; rfl
    subst hP0
    have hno : ¬ 9223372036854775807 < (st []).size + (st x).size := by rw [st_size, st_size]; have := hxl.out; have := hlen.out; simp; omega
    have hfin : Hid (st [] ++ st x = st (cj (L.take (0 + 1)))) := hide1 (by rw [st_ap, hst]; rfl)
    clear hst hP
    go_wp2_with (first | refine wpList_load_mid rfl 28 (.tmp 43) rfl b (o + 0 * 5) rfl [x0, x1, x2, x3, x4] _ hr2 Tryz.underlying28 rfl (by kernel_rfl) ?_ | refine wpList_load_mid rfl 28 (.tmp 43) rfl b o rfl [x0, x1, x2, x3, x4] _ (by simpa using hr2) Tryz.underlying28 rfl (by kernel_rfl) ?_)
    refine hcall.mono ?_
    rintro e w2 ⟨rfl, b2⟩
    have hb2 := hide1 (hbw.out.trans (b2.mono hbw.out.size))
    clear hcall b2 hbw hBr hr2 c3
    go_wp2
    go_roundw
    case rel => exact ⟨1, by omega, rfl, by rw [← hfin.out], hb2⟩
    case measure => simp [intOf]; omega
   ·rw [if_neg h0] at hst
    have h0' : 0 < j := by omega
    have hno1 : ¬ 9223372036854775807 < (st P).size + (⟨#[44]⟩ : ByteArray).size := by rw [st_size, show (⟨#[44]⟩ : ByteArray).size = 1 from rfl]; have := hPl.out; have := hlen.out; omega
    have hno : ¬ 9223372036854775807 < (st (P ++ [44])).size + (st x).size := by rw [st_size, st_size]; have := hxl.out; have := hPl.out; have := hlen.out; simp; omega
    have hcm : st P ++ (⟨#[44]⟩ : ByteArray) = st (P ++ [44]) := by rw [show (⟨#[44]⟩ : ByteArray) = st [44] from rfl, st_ap]
    have hfin : Hid (st (P ++ [44]) ++ st x = st (cj (L.take (j + 1)))) := hide1 (by rw [st_ap, hst]; simp)
    clear hst hP
    replace hcm := hide1 hcm
    go_upto_region 19 with fail
    rw [hcm.out]
    clear hno1
    go_wp2_with (refine wpList_load_mid rfl 28 (.tmp 43) rfl b (o + j * 5) rfl [x0, x1, x2, x3, x4] _ hr2 Tryz.underlying28 rfl (by kernel_rfl) ?_)
    refine hcall.mono ?_
    rintro e w2 ⟨rfl, b2⟩
    have hb2 := hide1 (hbw.out.trans (b2.mono hbw.out.size))
    clear hcall b2 hbw hBr hr2 c3
    go_wp2
    go_roundw
    case rel => exact ⟨j + 1, by omega, by go_num, by rw [← hfin.out], hb2⟩
    case measure => simp [intOf]; omega
  ·have hjn : j = cl.length := by omega
   have hP : L.take j = L := by rw [hjn, ← hln]; exact List.take_length
   rw [hP] at hPl ⊢
   generalize cj L = C at *
   have hno1 : ¬ 9223372036854775807 < (⟨#[91]⟩ : ByteArray).size + (st C).size := by rw [st_size, show (⟨#[91]⟩ : ByteArray).size = 1 from rfl]; have := hlen.out; omega
   have hno2 : ¬ 9223372036854775807 < ((⟨#[91]⟩ : ByteArray) ++ st C).size + (⟨#[93]⟩ : ByteArray).size := by rw [show (⟨#[91]⟩ : ByteArray) = st [91] from rfl, st_ap, st_size, show (⟨#[93]⟩ : ByteArray).size = 1 from rfl]; have := hlen.out; simp; omega
   have hfin : Hid ((⟨#[91]⟩ : ByteArray) ++ st C ++ ⟨#[93]⟩ = st (91 :: (C ++ [93]))) := hide1 (by rw [show (⟨#[91]⟩ : ByteArray) = st [91] from rfl, show (⟨#[93]⟩ : ByteArray) = st [93] from rfl, st_ap, st_ap]; rfl)
   clear hval hrow hP hbr hlt hPl hbw
   go_wp2
   go_ret
   exact ⟨by rw [← hfin.out]; rfl, hBr.out⟩
section
variable {P : Program} {Q : Exit → Act → World → Prop}
def wrX (l : List Oper) (fin t : Nat) : Bool := (List.range l.length).any fun i => i != fin && ((l[i]?.bind (·.dst)) == some t)
theorem wrX_of {l : List Oper} {fin i t : Nat} {o : Oper} (ho : l[i]? = some o) (hi : i ≠ fin) (hd : o.dst = some t) : wrX l fin t = true := by
 refine List.any_eq_true.2 ⟨i, List.mem_range.2 (List.getElem?_eq_some_iff.1 ho).1, ?_⟩
 rw [ho]
 simp [hi, hd]
theorem wrX_b {l : List Oper} {fin t : Nat} (h : wrB l t = false) : wrX l fin t = false := by
 cases hx : wrX l fin t with
 | false => rfl
 | true =>
  obtain ⟨i, hi, h2⟩ := List.any_eq_true.1 hx
  rw [Bool.and_eq_true] at h2
  have hil := List.mem_range.1 hi
  rw [List.getElem?_eq_getElem hil] at h2
  have : wrB l t = true := List.any_eq_true.2 ⟨l[i], List.getElem_mem hil, by simpa using h2.2⟩
  rw [this] at h; cases h
theorem wp_flowH {l : List Oper} {id : Nat} (fin : Nat) (a0 : Act) (w0 : World) (hm : P.follows .mixedOrders = true) (hac : acycB l.toArray = true) (hfin : finC l fin a0.tmps.size = true) {f : Oper} (hf : l[fin]? = some f)
  (Rr : Nat → Value → World → Prop) (hmono : ∀ i v w w', Rr i v w → Below w.heap.size w w' → Rr i v w')
  (hop : ∀ i o, l[i]? = some o → i ≠ fin → ∀ a w, Below w0.heap.size w0 w → a.tmps.size = a0.tmps.size → (∀ t, wrX l fin t = false → a.tmps.getD t undef = a0.tmps.getD t undef) → (∀ j oj d, l[j]? = some oj → oj.dst = some d → (∃ e ∈ o.after, Region.binds .any e = true ∧ e.on = j) → Rr j (a.tmps.getD d undef) w) →
   ∀ K : Act → World → Prop, (∀ v w', Below w.heap.size w w' → Rr i v w' → K (a.put o.dst v) w') → OpG P l Q o a w K)
  (hlast : ∀ a w, Below w0.heap.size w0 w → a.defers = a0.defers → a.tmps.size = a0.tmps.size → (∀ t, wrX l fin t = false → a.tmps.getD t undef = a0.tmps.getD t undef) → (∀ j oj d, l[j]? = some oj → j ≠ fin → oj.dst = some d → Rr j (a.tmps.getD d undef) w) →
   ∀ K : Act → World → Prop, (∀ a' w', Q .normal a' w' → K a' w') → OpG P l Q f a w K) : (Code.region id l.toArray true).wp P Q a0 w0 := by
 have hacyc := acyc_of (ops := l.toArray) hac
 refine wp_region_any hm (wpAny_sym hacyc (fun D a w => ((∀ j, j < l.length → D j = true) ∧ Q .normal a w) ∨ (D fin = false ∧ a.defers = a0.defers ∧ a.tmps.size = a0.tmps.size ∧ Below w0.heap.size w0 w ∧ (∀ t, wrX l fin t = false → a.tmps.getD t undef = a0.tmps.getD t undef) ∧ (∀ j oj, l[j]? = some oj → D j = true → ∀ e ∈ oj.after, Region.binds .any e = true → D e.on = true) ∧ ∀ j oj d, l[j]? = some oj → D j = true → oj.dst = some d → Rr j (a.tmps.getD d undef) w)) ?_ ?_ _ _ _ _ (by simp) ?_ ?_)
 ·intro D a w hI i o ho hD hdep K hK
  have ho : l[i]? = some o := by simpa using ho
  rcases hI with ⟨h1, _⟩ | ⟨h1, hdf, hsz, hb, hsl, hcl, hr⟩
  ·rw [h1 i (List.getElem?_eq_some_iff.1 ho).1] at hD; cases hD
  ·by_cases hi : i = fin
   ·subst hi
    rw [hf] at ho
    cases ho
    have hall : ∀ j, j < l.length → j ≠ i → D j = true := fun j hj hne => by
     obtain ⟨h3, _⟩ := finC_at hfin (List.getElem?_eq_getElem hj) hne
     cases hk : l.length with
     | zero => omega
     | succ k =>
      rw [hk] at h3
      unfold rch at h3
      rw [hf] at h3
      obtain ⟨e, he, h4⟩ := Array.any_eq_true'.1 h3
      simp only [Bool.and_eq_true, Bool.or_eq_true, beq_iff_eq] at h4
      rcases h4.2 with h5 | h5
      ·rw [← h5]; exact hdep e he h4.1
      ·exact rch_of hcl k e.on j h5 (hdep e he h4.1)
    refine hlast a w hb hdf hsz hsl (fun j oj d hj hne hd => hr j oj d hj (hall j (List.getElem?_eq_some_iff.1 hj).1 hne) hd) K (fun a' w' hq => hK a' w' (.inl ⟨fun j hj => ?_, hq⟩))
    by_cases hji : j = i
    ·rw [hji]; exact add1_eq
    ·rw [add1_ne hji]; exact hall j hj hji
   ·obtain ⟨_, d, hd, hdn, hap⟩ := finC_at hfin ho hi
    have hds : d < a.tmps.size := by rw [hsz]; exact hdn
    refine hop i o ho hi a w hb hsz hsl (fun j oj d' hj hd' ⟨e, he, h3, h4⟩ => hr j oj d' hj (by rw [← h4]; exact hdep e he h3) hd') K (fun v w' hb' hR => hK _ _ (.inr ⟨?_, ?_, ?_, ?_, ?_, ?_, ?_⟩))
    ·rw [add1_ne (fun e => hi e.symm)]; exact h1
    ·rw [put_df]; exact hdf
    ·rw [put_sz]; exact hsz
    ·exact hb.trans (hb'.mono hb.size)
    ·intro t ht
     rw [hd, put_of hds (fun e => by
      subst e
      have : wrX l fin t = true := wrX_of ho hi hd
      rw [this] at ht; cases ht)]
     exact hsl t ht
    ·intro j oj hj hDj e he h3
     by_cases hji : j = i
     ·subst hji
      rw [ho] at hj
      cases hj
      exact add1_mono (hdep e he h3)
     ·rw [add1_ne hji] at hDj
      exact add1_mono (hcl j oj hj hDj e he h3)
    ·intro j oj d' hj hDj hd'
     by_cases hji : j = i
     ·subst hji
      rw [ho] at hj
      cases hj
      rw [hd] at hd'
      cases hd'
      rw [hd, put_at hds]
      exact hR
     ·rw [add1_ne hji] at hDj
      rw [hd, put_of hds (fun e => hap j oj hj hji (by rw [hd', e]))]
      exact hmono _ _ _ _ (hr j oj d' hj hDj hd') hb'
 ·intro D a w hI hall
  rcases hI with ⟨_, h⟩ | ⟨h1, _⟩
  ·exact h
  ·rw [hall fin (by simpa using (List.getElem?_eq_some_iff.1 hf).1)] at h1; cases h1
 ·exact Nat.le_trans (List.length_filter_le _ _) (by simp)
 ·have e : (fun i => (Array.replicate l.toArray.size false).getD i false) = fun _ => false := by
   funext i
   by_cases h : i < l.toArray.size <;> simp [Array.getD]
  rw [e]
  exact .inr ⟨rfl, rfl, rfl, (Below.refl _ _).drew, fun _ _ => rfl, (fun _ _ _ h => absurd h (by simp)), (fun _ _ _ _ h => absurd h (by simp))⟩
end
theorem st_cat {a b : List UInt8} (h : a.length + b.length ≤ 9000000000000000000) (w : World) : (binOp .add 9 (.string (st a)) (.string (st b))).run Tryz.prog w = .ok (.string (st (a ++ b))) w := by
 have hno : ¬ 9223372036854775807 < (st a).size + (st b).size := by rw [st_size, st_size]; omega
 simp [binOp, go_sem, Op.stringOp, st_ap]
 omega
set_option maxRecDepth 100000 in
theorem rpairs_0 {F : Nat → Prop} {w : World} {v : Value} (h : RwA F w 49 6 v []) : Calls Tryz.prog 40 #[v] w fun e w' => (∃ a cap, e = .returned (.slice a 0 cap)) ∧ Below w.heap.size w w' := by
 have hbs := bs_0P w
 have hb0 : Hid (Below w.heap.size w (w.alloc (.cells #[] 49))) := hide1 ((Below.refl _ _).alloc (Nat.le_refl _) _)
 obtain ⟨a, cap, rfl, -, -⟩ := h.sliceP
 clear h
 simp only [List.length_nil]
 go_enter Tryz.func40, Tryz.ntmps40
 cases a <;>
  (
    go_wp2_with fail
    go_loopw [4] (fun s8 wo => s8 = .int .i64 1 ∧ Hid (Below w.heap.size w wo)) (fun _ _ => 0)
    case atStart => exact ⟨rfl, hb0⟩
    case round =>
     obtain ⟨rfl, hb⟩ := hrel
     clear hb0 hbs
     go_wp2
     go_ret
     exact ⟨⟨_, _, rfl⟩, hb.out⟩)
set_option maxHeartbeats 4000000 in
set_option maxRecDepth 100000 in
theorem txt_5 {w : World} {sl sp : Value} {s : List UInt8} {ki : Int} {F : Nat → Prop} {cp : List (List Value)} {n : Nat} {E : Nat → Ep} {L : List (List UInt8)} (hrow : RwA F w 49 6 sp cp) (hcs : cp = (sg E 0 n).map cl) (hok : ∀ k, k < n → EpOk (E k)) (hln : L.length = n) (hn2 : n ≤ 2000000) (hlen : (cj L).length ≤ 1000000000000)
  (hval : ∀ (i : Nat) (e : Ep) (y : List UInt8), (ss ltE (sg E 0 n))[i]? = some e → L[i]? = some y → ∃ X, y = qu e.1 ++ 58 :: X ∧ e.1.length ≤ 100000 ∧ ∀ w1, Below w.heap.size w w1 → Calls Tryz.prog 39 #[.agg e.2.toArray] w1 (AnN w1 X)) : Calls Tryz.prog 39 #[.agg #[.int .i64 5, .int .i64 ki, .string (st s), sl, sp]] w (AnN w (123 :: (cj L ++ [125]))) := by
 obtain ⟨wb, hwb⟩ : ∃ wb, wb = w.alloc (.cells #[.int .i64 5, .int .i64 ki, .string (st s), sl, sp] 28) := ⟨_, rfl⟩
 have hB : Below w.heap.size w wb := by rw [hwb]; exact (Below.refl _ _).alloc (Nat.le_refl _) _
 have hn : wb.heap[w.heap.size]? = some (.cells #[.int .i64 5, .int .i64 ki, .string (st s), sl, sp] 28 (0, 0)) := by
  rw [hwb]
  show (w.heap.push _)[w.heap.size]? = _
  rw [Array.getElem?_push, if_pos rfl]
 have c0 : wb.cell? ⟨w.heap.size, 0, none⟩ = some (.int .i64 5) := by simp only [World.cell?, hn]; rfl
 have c1 : wb.cell? ⟨w.heap.size, 1, none⟩ = some (.int .i64 ki) := by simp only [World.cell?, hn]; rfl
 have c2 : wb.cell? ⟨w.heap.size, 2, none⟩ = some (.string (st s)) := by simp only [World.cell?, hn]; rfl
 have c3 : wb.cell? ⟨w.heap.size, 3, none⟩ = some sl := by simp only [World.cell?, hn]; rfl
 have c4 : wb.cell? ⟨w.heap.size, 4, none⟩ = some sp := by simp only [World.cell?, hn]; rfl
 have hz : w.heap.size < wb.heap.size := (Array.getElem?_eq_some_iff.1 hn).1
 have hrb : RwA (fun _ => True) wb 49 6 sp cp := hrow.frame (fun k _ hk => hB.block k hk) (fun _ _ _ => trivial)
 replace hB := hide1 hB
 replace hn := hide1 hn
 replace hlen := hide1 hlen
 rcases Nat.eq_zero_or_pos n with rfl | h1
 ·obtain rfl : cp = [] := by rw [hcs]; rfl
  obtain rfl : L = [] := List.length_eq_zero_iff.1 hln
  have hpr := rpairs_0 hrb
  clear hval hrow hrb hcs hok hln
  go_enter Tryz.func39, Tryz.ntmps39
  go_upto_region 1 with fail
  rw [← hwb]
  clear hwb
  go_wp2_with fail
  refine hpr.mono ?_
  rintro e w1 ⟨⟨a, cap, rfl⟩, b1⟩
  have hb1 : Hid (Below w.heap.size w w1) := hide1 (hB.out.trans (b1.mono hB.out.size))
  clear hpr b1 hB
  go_wp2_with fail
  go_loopw [3, 6] (fun v i wr => i = .int .i64 0 ∧ v = .string ⟨#[]⟩ ∧ wr = w1) (fun _ _ _ => 0)
  case atStart => exact ⟨rfl, rfl, rfl⟩
  case round =>
   obtain ⟨rfl, rfl, rfl⟩ := hrel
   clear c0 c1 c2 c3 c4
   go_wp2
   go_ret
   exact ⟨rfl, hb1.out⟩
 ·have hpr := rpairs_n hrb hcs hok h1 hn2
  clear hrb hcs hok
  go_enter Tryz.func39, Tryz.ntmps39
  go_upto_region 1 with fail
  rw [← hwb]
  clear hwb
  go_wp2_with fail
  refine hpr.mono ?_
  rintro e w1 ⟨g, cap, G, rfl, hgB, hR1, hG, b1⟩
  have hb1 : Hid (Below w.heap.size w w1) := hide1 (hB.out.trans (b1.mono hB.out.size))
  rw [← hG] at hval
  replace hR1 := hide1 hR1
  clear hpr b1 hB hG hn
  go_wp2_with fail
  go_loopw [3, 6] (fun v i wr => ∃ j : Nat, j ≤ n ∧ i = .int .i64 (j : Nat) ∧ v = .string (st (cj (L.take j))) ∧ Hid (Below w1.heap.size w1 wr)) (fun _ i _ => n - (intOf i).toNat)
  case atStart => exact ⟨0, by omega, rfl, rfl, hide1 (Below.refl _ _)⟩
  case round =>
   clear c0 c1 c2 c3 c4
   obtain ⟨jj, hj, rfl, rfl, hbw⟩ := hrel
   have hBr : Hid (Below w.heap.size w wr) := hide1 (hb1.out.trans (hbw.out.mono hb1.out.size))
   have hPl := hide1 (cj_take L jj)
   by_cases hjn : jj < n
   ·have hlt : jj < n := hjn
    obtain ⟨y, hy⟩ : ∃ y, L[jj]? = some y := ⟨_, List.getElem?_eq_getElem (by omega)⟩
    obtain ⟨X, rfl, hnm0, hcall0⟩ := hval jj (G jj) y (by rw [sg_at hjn, Nat.zero_add]) hy
    have hRr := hide1 (hR1.out.later hbw.out)
    have hokj := hRr.out.ok jj hjn
    obtain ⟨nm, hnmE⟩ : ∃ nm, Hid (nm = (G jj).1) := ⟨_, hide1 rfl⟩
    obtain ⟨x1, x2, x3, x4, x5, hce⟩ := five_l hokj.1
    have hld1 : ∀ wa, Below wr.heap.size wr wa → (Instr.loadAt 9 (.pointer (some ⟨g, jj * 6, none⟩))).run Tryz.prog wa = .ok (.string (st nm)) wa := fun wa hwa => by
     rw [hnmE.out]
     exact ld_s0 ((hRr.out.later hwa).name hjn)
    have hld2 : ∀ wa, Below wr.heap.size wr wa → (Instr.loadAt 28 (.pointer (some ⟨g, jj * 6 + 1, none⟩))).run Tryz.prog wa = .ok (.agg #[x1, x2, x3, x4, x5]) wa := fun wa hwa => ld_mV (fun q v hq => by
     have := (hRr.out.later hwa).range hjn (q + 1) v (by unfold cl; rw [hce]; simpa using hq)
     rw [show jj * 6 + 1 + q = jj * 6 + (q + 1) by omega]
     exact this)
    have hcall : ∀ wa, Below wr.heap.size wr wa → Calls Tryz.prog 39 #[.agg #[x1, x2, x3, x4, x5]] wa (AnN wa X) := fun wa hwa => by
     have := hcall0 wa (hBr.out.trans (hwa.mono hBr.out.size))
     rw [hce] at this
     exact this
    have hnm : nm.length ≤ 100000 := by rw [hnmE.out]; exact hnm0
    have hst := cj_step hy
    rw [← hnmE.out] at hst
    have hql := (qb_len nm).2
    have hqu : (qu nm).length ≤ 600002 := by unfold qu; simp; omega
    have hXl : X.length ≤ (cj L).length := by
     have := cj_take L (jj + 1)
     rw [hst] at this
     split at this
     ·rw [List.length_append, List.length_cons] at this; omega
     ·rw [List.length_append, List.length_cons, List.length_append, List.length_cons] at this; omega
    have hb := hlen.out
    have hb2 := hPl.out
    obtain ⟨P, hP⟩ : ∃ P, Hid (P = if jj = 0 then [] else cj (L.take jj) ++ [44]) := ⟨_, hide1 rfl⟩
    have hPle : P.length ≤ 1000000000001 := by rw [hP.out]; split <;> simp <;> omega
    have hcat1 := fun w => st_cat (a := P) (b := qu nm) (by omega) w
    have hcat2 := fun w => st_cat (a := P ++ qu nm) (b := [58]) (by simp; omega) w
    have hcat3 := fun w => st_cat (a := P ++ qu nm ++ [58]) (b := X) (by simp; omega) w
    replace hcat2 : ∀ w, (binOp .add 9 (.string (st (P ++ qu nm))) (.string ⟨#[58]⟩)).run Tryz.prog w = .ok (.string (st (P ++ qu nm ++ [58]))) w := hcat2
    have hnext : Hid (st (P ++ qu nm ++ [58] ++ X) = st (cj (L.take (jj + 1)))) := hide1 (by
     rw [hst, hP.out]
     split
     ·simp
     ·simp)
    clear hcall0 hval hce hokj hrow hnm0
    have hreg : Hid (st P = if jj = 0 then st (cj (L.take jj)) else st (cj (L.take jj)) ++ ⟨#[44]⟩) := hide1 (by
     rw [hP.out]
     by_cases h0 : jj = 0
     ·rw [if_pos h0, if_pos h0, h0]; rfl
     ·rw [if_neg h0, if_neg h0, show (⟨#[44]⟩ : ByteArray) = st [44] from rfl, st_ap])
    have hno1 : ¬ 9223372036854775807 < (st (cj (L.take jj))).size + (⟨#[44]⟩ : ByteArray).size := by rw [st_size, show (⟨#[44]⟩ : ByteArray).size = 1 from rfl]; omega
    clear hst hql hb hb2 hPl hXl
    replace hqu := hide1 hqu
    replace hPle := hide1 hPle
    by_cases h0 : jj = 0
    ·rw [if_pos h0] at hreg
     subst h0
     go_upto_region 28 with fail
     rw [← hreg.out]
     clear hno1 hreg
     refine wp_flowH 16 _ _ (by kernel_rfl) (by kernel_rfl) (by kernel_rfl) rfl (fun j v _ => v = ([(.string (st (P))), (.slice (some ⟨g, 0, none⟩) n cap), (.int .i64 (0 : Nat)), (.pointer (some ⟨g, 0 * 6, none⟩)), (.pointer (some ⟨g, 0 * 6, none⟩)), (.string (st (nm))), (.string (st (qu nm))), (.string (st (P ++ qu nm))), (.string (st (P ++ qu nm ++ [58]))), (.slice (some ⟨g, 0, none⟩) n cap), (.int .i64 (0 : Nat)), (.pointer (some ⟨g, 0 * 6, none⟩)), (.pointer (some ⟨g, 0 * 6 + 1, none⟩)), (.agg #[x1, x2, x3, x4, x5]), (.string (st (X))), (.string (st (P ++ qu nm ++ [58] ++ X))), (.string (st (P ++ qu nm ++ [58] ++ X)))] : List Value).getD j undef) (fun _ _ _ _ h _ => h) ?_ ?_
     ·intro j op hop hj a wa hwa hsz hsl hdep K hK
      match j, hop with
      | 0, hop =>
       obtain rfl := Option.some.inj hop
       have p3 : a.tmps.getD 3 undef = (.string (st (P))) := hsl 3 rfl
       exact .plain rfl (wp_val (w' := wa) (v := (.string (st (P)))) (by simp only [execOp, Act.eval]; rw [show a.tmps.getD 3 undef = _ from p3]; rfl) (hK _ _ (Below.refl _ _) rfl))
      | 1, hop =>
       obtain rfl := Option.some.inj hop
       have p5 : a.tmps.getD 5 undef = (.slice (some ⟨g, 0, none⟩) n cap) := hsl 5 rfl
       exact .plain rfl (wp_val (w' := wa) (v := (.slice (some ⟨g, 0, none⟩) n cap)) (by simp only [execOp, Act.eval]; rw [show a.tmps.getD 5 undef = _ from p5]; rfl) (hK _ _ (Below.refl _ _) rfl))
      | 2, hop =>
       obtain rfl := Option.some.inj hop
       have p6 : a.tmps.getD 6 undef = (.int .i64 (0 : Nat)) := hsl 6 rfl
       exact .plain rfl (wp_val (w' := wa) (v := (.int .i64 (0 : Nat))) (by simp only [execOp, Act.eval]; rw [show a.tmps.getD 6 undef = _ from p6]; rfl) (hK _ _ (Below.refl _ _) rfl))
      | 3, hop =>
       obtain rfl := Option.some.inj hop
       have t1 : a.tmps.getD 66 undef = (.slice (some ⟨g, 0, none⟩) n cap) := hdep 1 _ 66 rfl rfl ⟨⟨1, .data⟩, by simp, rfl, rfl⟩
       have t2 : a.tmps.getD 67 undef = (.int .i64 (0 : Nat)) := hdep 2 _ 67 rfl rfl ⟨⟨2, .data⟩, by simp, rfl, rfl⟩
       exact .plain rfl (wp_val (w' := wa) (v := (.pointer (some ⟨g, 0 * 6, none⟩))) (by simp only [execOp, Act.eval]; rw [show a.tmps.getD 66 undef = _ from t1, show a.tmps.getD 67 undef = _ from t2]; simp only [Sem.run_bind, ix_sP hjn, Result.andThen_ok, Sem.run_pure]) (hK _ _ (Below.refl _ _) rfl))
      | 4, hop =>
       obtain rfl := Option.some.inj hop
       have t3 : a.tmps.getD 68 undef = (.pointer (some ⟨g, 0 * 6, none⟩)) := hdep 3 _ 68 rfl rfl ⟨⟨3, .data⟩, by simp, rfl, rfl⟩
       exact .plain rfl (wp_val (w' := wa) (v := (.pointer (some ⟨g, 0 * 6, none⟩))) (by simp only [execOp, Act.eval]; rw [show a.tmps.getD 68 undef = _ from t3]; kernel_rfl) (hK _ _ (Below.refl _ _) rfl))
      | 5, hop =>
       obtain rfl := Option.some.inj hop
       have t4 : a.tmps.getD 69 undef = (.pointer (some ⟨g, 0 * 6, none⟩)) := hdep 4 _ 69 rfl rfl ⟨⟨4, .data⟩, by simp, rfl, rfl⟩
       exact .plain rfl (wp_val (w' := wa) (v := (.string (st (nm)))) (by simp only [execOp, Act.eval]; rw [show a.tmps.getD 69 undef = _ from t4]; simp only [Sem.run_bind, hld1 _ hwa, Result.andThen_ok, Sem.run_pure]) (hK _ _ (Below.refl _ _) rfl))
      | 6, hop =>
       obtain rfl := Option.some.inj hop
       have t5 : a.tmps.getD 70 undef = (.string (st (nm))) := hdep 5 _ 70 rfl rfl ⟨⟨5, .data⟩, by simp, rfl, rfl⟩
       refine .plain rfl (oper_any (J := fun r w' => r = (.string (st (qu nm))) ∧ Below wa.heap.size wa w') 67 #[.tmp 70] _ rfl #[(.string (st (nm)))] (by simp only [List.map_toArray, List.map_cons, List.map_nil, Act.eval]; rw [show a.tmps.getD 70 undef = _ from t5]) (fun w => by kernel_rfl) ((rquote_d (w := wa) hnm).mono fun e w' h => ⟨_, h.1, rfl, h.2⟩) ?_)
       rintro r w' ⟨rfl, hb⟩
       exact hK _ _ hb rfl
      | 7, hop =>
       obtain rfl := Option.some.inj hop
       have t0 : a.tmps.getD 65 undef = (.string (st (P))) := hdep 0 _ 65 rfl rfl ⟨⟨0, .data⟩, by simp, rfl, rfl⟩
       have t6 : a.tmps.getD 71 undef = (.string (st (qu nm))) := hdep 6 _ 71 rfl rfl ⟨⟨6, .data⟩, by simp, rfl, rfl⟩
       exact .plain rfl (wp_val (w' := wa) (v := (.string (st (P ++ qu nm)))) (by simp only [execOp, Act.eval]; rw [show a.tmps.getD 65 undef = _ from t0, show a.tmps.getD 71 undef = _ from t6]; simp only [Sem.run_bind, eqg_add, hcat1, Result.andThen_ok, Sem.run_pure]) (hK _ _ (Below.refl _ _) rfl))
      | 8, hop =>
       obtain rfl := Option.some.inj hop
       have t7 : a.tmps.getD 72 undef = (.string (st (P ++ qu nm))) := hdep 7 _ 72 rfl rfl ⟨⟨7, .data⟩, by simp, rfl, rfl⟩
       exact .plain rfl (wp_val (w' := wa) (v := (.string (st (P ++ qu nm ++ [58])))) (by simp only [execOp, Act.eval]; rw [show a.tmps.getD 72 undef = _ from t7]; simp only [Sem.run_bind, eqg_add, hcat2, Result.andThen_ok, Sem.run_pure]) (hK _ _ (Below.refl _ _) rfl))
      | 9, hop =>
       obtain rfl := Option.some.inj hop
       have p5 : a.tmps.getD 5 undef = (.slice (some ⟨g, 0, none⟩) n cap) := hsl 5 rfl
       exact .plain rfl (wp_val (w' := wa) (v := (.slice (some ⟨g, 0, none⟩) n cap)) (by simp only [execOp, Act.eval]; rw [show a.tmps.getD 5 undef = _ from p5]; rfl) (hK _ _ (Below.refl _ _) rfl))
      | 10, hop =>
       obtain rfl := Option.some.inj hop
       have p6 : a.tmps.getD 6 undef = (.int .i64 (0 : Nat)) := hsl 6 rfl
       exact .plain rfl (wp_val (w' := wa) (v := (.int .i64 (0 : Nat))) (by simp only [execOp, Act.eval]; rw [show a.tmps.getD 6 undef = _ from p6]; rfl) (hK _ _ (Below.refl _ _) rfl))
      | 11, hop =>
       obtain rfl := Option.some.inj hop
       have t9 : a.tmps.getD 74 undef = (.slice (some ⟨g, 0, none⟩) n cap) := hdep 9 _ 74 rfl rfl ⟨⟨9, .data⟩, by simp, rfl, rfl⟩
       have t10 : a.tmps.getD 75 undef = (.int .i64 (0 : Nat)) := hdep 10 _ 75 rfl rfl ⟨⟨10, .data⟩, by simp, rfl, rfl⟩
       exact .plain rfl (wp_val (w' := wa) (v := (.pointer (some ⟨g, 0 * 6, none⟩))) (by simp only [execOp, Act.eval]; rw [show a.tmps.getD 74 undef = _ from t9, show a.tmps.getD 75 undef = _ from t10]; simp only [Sem.run_bind, ix_sP hjn, Result.andThen_ok, Sem.run_pure]) (hK _ _ (Below.refl _ _) rfl))
      | 12, hop =>
       obtain rfl := Option.some.inj hop
       have t11 : a.tmps.getD 76 undef = (.pointer (some ⟨g, 0 * 6, none⟩)) := hdep 11 _ 76 rfl rfl ⟨⟨11, .data⟩, by simp, rfl, rfl⟩
       exact .plain rfl (wp_val (w' := wa) (v := (.pointer (some ⟨g, 0 * 6 + 1, none⟩))) (by simp only [execOp, Act.eval]; rw [show a.tmps.getD 76 undef = _ from t11]; kernel_rfl) (hK _ _ (Below.refl _ _) rfl))
      | 13, hop =>
       obtain rfl := Option.some.inj hop
       have t12 : a.tmps.getD 77 undef = (.pointer (some ⟨g, 0 * 6 + 1, none⟩)) := hdep 12 _ 77 rfl rfl ⟨⟨12, .data⟩, by simp, rfl, rfl⟩
       exact .plain rfl (wp_val (w' := wa) (v := (.agg #[x1, x2, x3, x4, x5])) (by simp only [execOp, Act.eval]; rw [show a.tmps.getD 77 undef = _ from t12]; simp only [Sem.run_bind, hld2 _ hwa, Result.andThen_ok, Sem.run_pure]) (hK _ _ (Below.refl _ _) rfl))
      | 14, hop =>
       obtain rfl := Option.some.inj hop
       have t13 : a.tmps.getD 78 undef = (.agg #[x1, x2, x3, x4, x5]) := hdep 13 _ 78 rfl rfl ⟨⟨13, .data⟩, by simp, rfl, rfl⟩
       refine .plain rfl (oper_any (J := fun r w' => r = (.string (st (X))) ∧ Below wa.heap.size wa w') 39 #[.tmp 78] _ rfl #[(.agg #[x1, x2, x3, x4, x5])] (by simp only [List.map_toArray, List.map_cons, List.map_nil, Act.eval]; rw [show a.tmps.getD 78 undef = _ from t13]) (fun w => by kernel_rfl) ((hcall _ hwa).mono fun e w' h => ⟨_, h.1, rfl, h.2⟩) ?_)
       rintro r w' ⟨rfl, hb⟩
       exact hK _ _ hb rfl
      | 15, hop =>
       obtain rfl := Option.some.inj hop
       have t8 : a.tmps.getD 73 undef = (.string (st (P ++ qu nm ++ [58]))) := hdep 8 _ 73 rfl rfl ⟨⟨8, .data⟩, by simp, rfl, rfl⟩
       have t14 : a.tmps.getD 79 undef = (.string (st (X))) := hdep 14 _ 79 rfl rfl ⟨⟨14, .data⟩, by simp, rfl, rfl⟩
       exact .plain rfl (wp_val (w' := wa) (v := (.string (st (P ++ qu nm ++ [58] ++ X)))) (by simp only [execOp, Act.eval]; rw [show a.tmps.getD 73 undef = _ from t8, show a.tmps.getD 79 undef = _ from t14]; simp only [Sem.run_bind, eqg_add, hcat3, Result.andThen_ok, Sem.run_pure]) (hK _ _ (Below.refl _ _) rfl))
      | 16, _ => exact absurd rfl hj
      | _ + 17, hop => exact absurd hop (by simp)
     ·intro a wa hwa hdf hsz hsl hrr K hK
      have t15 : a.tmps.getD 80 undef = (.string (st (P ++ qu nm ++ [58] ++ X))) := hrr 15 _ 80 rfl (by decide) rfl
      refine .plain rfl (wp_val (w' := wa) (v := (.string (st (P ++ qu nm ++ [58] ++ X)))) (by simp only [execOp, Act.eval]; rw [show a.tmps.getD 80 undef = _ from t15]; rfl) ?_)
      refine hK _ wa ?_
      have hact := act_puts hdf hsz (fun t ht => hsl t (wrX_b ht))
      clear hrr hsl hdf hsz hK t15
      simp only [List.filterMap_cons, List.filterMap_nil, List.foldl_cons, List.foldl_nil] at hact
      rw [hact]
      generalize a.tmps.getD 65 undef = y65
      generalize a.tmps.getD 66 undef = y66
      generalize a.tmps.getD 67 undef = y67
      generalize a.tmps.getD 68 undef = y68
      generalize a.tmps.getD 69 undef = y69
      generalize a.tmps.getD 70 undef = y70
      generalize a.tmps.getD 71 undef = y71
      generalize a.tmps.getD 72 undef = y72
      generalize a.tmps.getD 73 undef = y73
      generalize a.tmps.getD 74 undef = y74
      generalize a.tmps.getD 75 undef = y75
      generalize a.tmps.getD 76 undef = y76
      generalize a.tmps.getD 77 undef = y77
      generalize a.tmps.getD 78 undef = y78
      generalize a.tmps.getD 79 undef = y79
      generalize a.tmps.getD 80 undef = y80
      clear hact
      simp only [Act.put, List.setIfInBounds_toArray, List.set_cons_succ, List.set_cons_zero]
      have hbn : Hid (Below w1.heap.size w1 wa) := hide1 (hbw.out.trans (hwa.mono hbw.out.size))
      clear hld1 hld2 hcall hcat1 hcat2 hcat3 hwa hbw hRr hBr
      go_wp2
      go_roundw
      case rel => exact ⟨0 + 1, by omega, by first | rfl | go_num, by rw [← hnext.out], hbn⟩
      case measure => simp [intOf]; try omega
    ·rw [if_neg h0] at hreg
     have h0' : 0 < jj := by omega
     go_upto_region 28 with fail
     rw [← hreg.out]
     clear hno1 hreg
     refine wp_flowH 16 _ _ (by kernel_rfl) (by kernel_rfl) (by kernel_rfl) rfl (fun j v _ => v = ([(.string (st (P))), (.slice (some ⟨g, 0, none⟩) n cap), (.int .i64 (jj : Nat)), (.pointer (some ⟨g, jj * 6, none⟩)), (.pointer (some ⟨g, jj * 6, none⟩)), (.string (st (nm))), (.string (st (qu nm))), (.string (st (P ++ qu nm))), (.string (st (P ++ qu nm ++ [58]))), (.slice (some ⟨g, 0, none⟩) n cap), (.int .i64 (jj : Nat)), (.pointer (some ⟨g, jj * 6, none⟩)), (.pointer (some ⟨g, jj * 6 + 1, none⟩)), (.agg #[x1, x2, x3, x4, x5]), (.string (st (X))), (.string (st (P ++ qu nm ++ [58] ++ X))), (.string (st (P ++ qu nm ++ [58] ++ X)))] : List Value).getD j undef) (fun _ _ _ _ h _ => h) ?_ ?_
     ·intro j op hop hj a wa hwa hsz hsl hdep K hK
      match j, hop with
      | 0, hop =>
       obtain rfl := Option.some.inj hop
       have p3 : a.tmps.getD 3 undef = (.string (st (P))) := hsl 3 rfl
       exact .plain rfl (wp_val (w' := wa) (v := (.string (st (P)))) (by simp only [execOp, Act.eval]; rw [show a.tmps.getD 3 undef = _ from p3]; rfl) (hK _ _ (Below.refl _ _) rfl))
      | 1, hop =>
       obtain rfl := Option.some.inj hop
       have p5 : a.tmps.getD 5 undef = (.slice (some ⟨g, 0, none⟩) n cap) := hsl 5 rfl
       exact .plain rfl (wp_val (w' := wa) (v := (.slice (some ⟨g, 0, none⟩) n cap)) (by simp only [execOp, Act.eval]; rw [show a.tmps.getD 5 undef = _ from p5]; rfl) (hK _ _ (Below.refl _ _) rfl))
      | 2, hop =>
       obtain rfl := Option.some.inj hop
       have p6 : a.tmps.getD 6 undef = (.int .i64 (jj : Nat)) := hsl 6 rfl
       exact .plain rfl (wp_val (w' := wa) (v := (.int .i64 (jj : Nat))) (by simp only [execOp, Act.eval]; rw [show a.tmps.getD 6 undef = _ from p6]; rfl) (hK _ _ (Below.refl _ _) rfl))
      | 3, hop =>
       obtain rfl := Option.some.inj hop
       have t1 : a.tmps.getD 66 undef = (.slice (some ⟨g, 0, none⟩) n cap) := hdep 1 _ 66 rfl rfl ⟨⟨1, .data⟩, by simp, rfl, rfl⟩
       have t2 : a.tmps.getD 67 undef = (.int .i64 (jj : Nat)) := hdep 2 _ 67 rfl rfl ⟨⟨2, .data⟩, by simp, rfl, rfl⟩
       exact .plain rfl (wp_val (w' := wa) (v := (.pointer (some ⟨g, jj * 6, none⟩))) (by simp only [execOp, Act.eval]; rw [show a.tmps.getD 66 undef = _ from t1, show a.tmps.getD 67 undef = _ from t2]; simp only [Sem.run_bind, ix_sP hjn, Result.andThen_ok, Sem.run_pure]) (hK _ _ (Below.refl _ _) rfl))
      | 4, hop =>
       obtain rfl := Option.some.inj hop
       have t3 : a.tmps.getD 68 undef = (.pointer (some ⟨g, jj * 6, none⟩)) := hdep 3 _ 68 rfl rfl ⟨⟨3, .data⟩, by simp, rfl, rfl⟩
       exact .plain rfl (wp_val (w' := wa) (v := (.pointer (some ⟨g, jj * 6, none⟩))) (by simp only [execOp, Act.eval]; rw [show a.tmps.getD 68 undef = _ from t3]; kernel_rfl) (hK _ _ (Below.refl _ _) rfl))
      | 5, hop =>
       obtain rfl := Option.some.inj hop
       have t4 : a.tmps.getD 69 undef = (.pointer (some ⟨g, jj * 6, none⟩)) := hdep 4 _ 69 rfl rfl ⟨⟨4, .data⟩, by simp, rfl, rfl⟩
       exact .plain rfl (wp_val (w' := wa) (v := (.string (st (nm)))) (by simp only [execOp, Act.eval]; rw [show a.tmps.getD 69 undef = _ from t4]; simp only [Sem.run_bind, hld1 _ hwa, Result.andThen_ok, Sem.run_pure]) (hK _ _ (Below.refl _ _) rfl))
      | 6, hop =>
       obtain rfl := Option.some.inj hop
       have t5 : a.tmps.getD 70 undef = (.string (st (nm))) := hdep 5 _ 70 rfl rfl ⟨⟨5, .data⟩, by simp, rfl, rfl⟩
       refine .plain rfl (oper_any (J := fun r w' => r = (.string (st (qu nm))) ∧ Below wa.heap.size wa w') 67 #[.tmp 70] _ rfl #[(.string (st (nm)))] (by simp only [List.map_toArray, List.map_cons, List.map_nil, Act.eval]; rw [show a.tmps.getD 70 undef = _ from t5]) (fun w => by kernel_rfl) ((rquote_d (w := wa) hnm).mono fun e w' h => ⟨_, h.1, rfl, h.2⟩) ?_)
       rintro r w' ⟨rfl, hb⟩
       exact hK _ _ hb rfl
      | 7, hop =>
       obtain rfl := Option.some.inj hop
       have t0 : a.tmps.getD 65 undef = (.string (st (P))) := hdep 0 _ 65 rfl rfl ⟨⟨0, .data⟩, by simp, rfl, rfl⟩
       have t6 : a.tmps.getD 71 undef = (.string (st (qu nm))) := hdep 6 _ 71 rfl rfl ⟨⟨6, .data⟩, by simp, rfl, rfl⟩
       exact .plain rfl (wp_val (w' := wa) (v := (.string (st (P ++ qu nm)))) (by simp only [execOp, Act.eval]; rw [show a.tmps.getD 65 undef = _ from t0, show a.tmps.getD 71 undef = _ from t6]; simp only [Sem.run_bind, eqg_add, hcat1, Result.andThen_ok, Sem.run_pure]) (hK _ _ (Below.refl _ _) rfl))
      | 8, hop =>
       obtain rfl := Option.some.inj hop
       have t7 : a.tmps.getD 72 undef = (.string (st (P ++ qu nm))) := hdep 7 _ 72 rfl rfl ⟨⟨7, .data⟩, by simp, rfl, rfl⟩
       exact .plain rfl (wp_val (w' := wa) (v := (.string (st (P ++ qu nm ++ [58])))) (by simp only [execOp, Act.eval]; rw [show a.tmps.getD 72 undef = _ from t7]; simp only [Sem.run_bind, eqg_add, hcat2, Result.andThen_ok, Sem.run_pure]) (hK _ _ (Below.refl _ _) rfl))
      | 9, hop =>
       obtain rfl := Option.some.inj hop
       have p5 : a.tmps.getD 5 undef = (.slice (some ⟨g, 0, none⟩) n cap) := hsl 5 rfl
       exact .plain rfl (wp_val (w' := wa) (v := (.slice (some ⟨g, 0, none⟩) n cap)) (by simp only [execOp, Act.eval]; rw [show a.tmps.getD 5 undef = _ from p5]; rfl) (hK _ _ (Below.refl _ _) rfl))
      | 10, hop =>
       obtain rfl := Option.some.inj hop
       have p6 : a.tmps.getD 6 undef = (.int .i64 (jj : Nat)) := hsl 6 rfl
       exact .plain rfl (wp_val (w' := wa) (v := (.int .i64 (jj : Nat))) (by simp only [execOp, Act.eval]; rw [show a.tmps.getD 6 undef = _ from p6]; rfl) (hK _ _ (Below.refl _ _) rfl))
      | 11, hop =>
       obtain rfl := Option.some.inj hop
       have t9 : a.tmps.getD 74 undef = (.slice (some ⟨g, 0, none⟩) n cap) := hdep 9 _ 74 rfl rfl ⟨⟨9, .data⟩, by simp, rfl, rfl⟩
       have t10 : a.tmps.getD 75 undef = (.int .i64 (jj : Nat)) := hdep 10 _ 75 rfl rfl ⟨⟨10, .data⟩, by simp, rfl, rfl⟩
       exact .plain rfl (wp_val (w' := wa) (v := (.pointer (some ⟨g, jj * 6, none⟩))) (by simp only [execOp, Act.eval]; rw [show a.tmps.getD 74 undef = _ from t9, show a.tmps.getD 75 undef = _ from t10]; simp only [Sem.run_bind, ix_sP hjn, Result.andThen_ok, Sem.run_pure]) (hK _ _ (Below.refl _ _) rfl))
      | 12, hop =>
       obtain rfl := Option.some.inj hop
       have t11 : a.tmps.getD 76 undef = (.pointer (some ⟨g, jj * 6, none⟩)) := hdep 11 _ 76 rfl rfl ⟨⟨11, .data⟩, by simp, rfl, rfl⟩
       exact .plain rfl (wp_val (w' := wa) (v := (.pointer (some ⟨g, jj * 6 + 1, none⟩))) (by simp only [execOp, Act.eval]; rw [show a.tmps.getD 76 undef = _ from t11]; kernel_rfl) (hK _ _ (Below.refl _ _) rfl))
      | 13, hop =>
       obtain rfl := Option.some.inj hop
       have t12 : a.tmps.getD 77 undef = (.pointer (some ⟨g, jj * 6 + 1, none⟩)) := hdep 12 _ 77 rfl rfl ⟨⟨12, .data⟩, by simp, rfl, rfl⟩
       exact .plain rfl (wp_val (w' := wa) (v := (.agg #[x1, x2, x3, x4, x5])) (by simp only [execOp, Act.eval]; rw [show a.tmps.getD 77 undef = _ from t12]; simp only [Sem.run_bind, hld2 _ hwa, Result.andThen_ok, Sem.run_pure]) (hK _ _ (Below.refl _ _) rfl))
      | 14, hop =>
       obtain rfl := Option.some.inj hop
       have t13 : a.tmps.getD 78 undef = (.agg #[x1, x2, x3, x4, x5]) := hdep 13 _ 78 rfl rfl ⟨⟨13, .data⟩, by simp, rfl, rfl⟩
       refine .plain rfl (oper_any (J := fun r w' => r = (.string (st (X))) ∧ Below wa.heap.size wa w') 39 #[.tmp 78] _ rfl #[(.agg #[x1, x2, x3, x4, x5])] (by simp only [List.map_toArray, List.map_cons, List.map_nil, Act.eval]; rw [show a.tmps.getD 78 undef = _ from t13]) (fun w => by kernel_rfl) ((hcall _ hwa).mono fun e w' h => ⟨_, h.1, rfl, h.2⟩) ?_)
       rintro r w' ⟨rfl, hb⟩
       exact hK _ _ hb rfl
      | 15, hop =>
       obtain rfl := Option.some.inj hop
       have t8 : a.tmps.getD 73 undef = (.string (st (P ++ qu nm ++ [58]))) := hdep 8 _ 73 rfl rfl ⟨⟨8, .data⟩, by simp, rfl, rfl⟩
       have t14 : a.tmps.getD 79 undef = (.string (st (X))) := hdep 14 _ 79 rfl rfl ⟨⟨14, .data⟩, by simp, rfl, rfl⟩
       exact .plain rfl (wp_val (w' := wa) (v := (.string (st (P ++ qu nm ++ [58] ++ X)))) (by simp only [execOp, Act.eval]; rw [show a.tmps.getD 73 undef = _ from t8, show a.tmps.getD 79 undef = _ from t14]; simp only [Sem.run_bind, eqg_add, hcat3, Result.andThen_ok, Sem.run_pure]) (hK _ _ (Below.refl _ _) rfl))
      | 16, _ => exact absurd rfl hj
      | _ + 17, hop => exact absurd hop (by simp)
     ·intro a wa hwa hdf hsz hsl hrr K hK
      have t15 : a.tmps.getD 80 undef = (.string (st (P ++ qu nm ++ [58] ++ X))) := hrr 15 _ 80 rfl (by decide) rfl
      refine .plain rfl (wp_val (w' := wa) (v := (.string (st (P ++ qu nm ++ [58] ++ X)))) (by simp only [execOp, Act.eval]; rw [show a.tmps.getD 80 undef = _ from t15]; rfl) ?_)
      refine hK _ wa ?_
      have hact := act_puts hdf hsz (fun t ht => hsl t (wrX_b ht))
      clear hrr hsl hdf hsz hK t15
      simp only [List.filterMap_cons, List.filterMap_nil, List.foldl_cons, List.foldl_nil] at hact
      rw [hact]
      generalize a.tmps.getD 65 undef = y65
      generalize a.tmps.getD 66 undef = y66
      generalize a.tmps.getD 67 undef = y67
      generalize a.tmps.getD 68 undef = y68
      generalize a.tmps.getD 69 undef = y69
      generalize a.tmps.getD 70 undef = y70
      generalize a.tmps.getD 71 undef = y71
      generalize a.tmps.getD 72 undef = y72
      generalize a.tmps.getD 73 undef = y73
      generalize a.tmps.getD 74 undef = y74
      generalize a.tmps.getD 75 undef = y75
      generalize a.tmps.getD 76 undef = y76
      generalize a.tmps.getD 77 undef = y77
      generalize a.tmps.getD 78 undef = y78
      generalize a.tmps.getD 79 undef = y79
      generalize a.tmps.getD 80 undef = y80
      clear hact
      simp only [Act.put, List.setIfInBounds_toArray, List.set_cons_succ, List.set_cons_zero]
      have hbn : Hid (Below w1.heap.size w1 wa) := hide1 (hbw.out.trans (hwa.mono hbw.out.size))
      clear hld1 hld2 hcall hcat1 hcat2 hcat3 hwa hbw hRr hBr
      go_wp2
      go_roundw
      case rel => exact ⟨jj + 1, by omega, by first | rfl | go_num, by rw [← hnext.out], hbn⟩
      case measure => simp [intOf]; try omega
   ·have hjn2 : jj = n := by omega
    have hP : L.take jj = L := by rw [hjn2, ← hln]; exact List.take_length
    rw [hP] at hPl ⊢
    generalize cj L = C at *
    have hno1 : ¬ 9223372036854775807 < (⟨#[123]⟩ : ByteArray).size + (st C).size := by rw [st_size, show (⟨#[123]⟩ : ByteArray).size = 1 from rfl]; have := hlen.out; omega
    have hno2 : ¬ 9223372036854775807 < ((⟨#[123]⟩ : ByteArray) ++ st C).size + (⟨#[125]⟩ : ByteArray).size := by rw [show (⟨#[123]⟩ : ByteArray) = st [123] from rfl, st_ap, st_size, show (⟨#[125]⟩ : ByteArray).size = 1 from rfl]; have := hlen.out; simp; omega
    have hfin : Hid ((⟨#[123]⟩ : ByteArray) ++ st C ++ ⟨#[125]⟩ = st (123 :: (C ++ [125]))) := hide1 (by rw [show (⟨#[123]⟩ : ByteArray) = st [123] from rfl, show (⟨#[125]⟩ : ByteArray) = st [125] from rfl, st_ap, st_ap]; rfl)
    clear hval hrow hP hPl hbw
    go_wp2
    go_ret
    exact ⟨by rw [← hfin.out]; rfl, hBr.out⟩
theorem cj_mem {L : List (List UInt8)} {x : List UInt8} {j : Nat} (h : L[j]? = some x) : x.length ≤ (cj L).length := by
 have h1 := cj_take L (j + 1)
 rw [cj_step h] at h1
 split at h1
 ·exact h1
 ·rw [List.length_append, List.length_cons] at h1; omega
def Eq' (p : List Tp) (cp : List (List Value)) : Nat → Ep := fun k => ((p.getD k ([], .mk 0 0 [] [] [])).1, (cp.getD k []).tail)
section
variable {F : Nat → Prop} {w : World} {p : List Tp} {cp : List (List Value)}
theorem eq_at (h6 : ∀ c ∈ cp, c.length = 6) (hp : cp.length = p.length) (hp1 : ∀ (j : Nat) (q : List UInt8 × T) (c : List Value), p[j]? = some q → cp[j]? = some c → c.head? = some (Value.string (st q.1)))
  (hp2 : ∀ (j : Nat) (q : List UInt8 × T) (c : List Value), p[j]? = some q → cp[j]? = some c → VA F w q.2 c.tail) {j : Nat} (hj : j < cp.length) :
  ∃ q c, p[j]? = some q ∧ cp[j]? = some c ∧ c = cl (Eq' p cp j) ∧ (Eq' p cp j).1 = q.1 ∧ EpOk (Eq' p cp j) ∧ VA F w q.2 (Eq' p cp j).2 := by
 obtain ⟨q, hq⟩ : ∃ q, p[j]? = some q := ⟨_, List.getElem?_eq_getElem (by omega)⟩
 obtain ⟨c, hc⟩ : ∃ c, cp[j]? = some c := ⟨_, List.getElem?_eq_getElem hj⟩
 have h1 := hp1 j q c hq hc
 have h2 := hp2 j q c hq hc
 have hl := h6 c (List.mem_of_getElem? hc)
 have e1 : (p.getD j ([], .mk 0 0 [] [] [])) = q := by rw [List.getD_eq_getElem?_getD, hq]; rfl
 have e2 : cp.getD j [] = c := by rw [List.getD_eq_getElem?_getD, hc]; rfl
 refine ⟨q, c, hq, hc, ?_, by unfold Eq'; rw [e1], ?_, ?_⟩
 ·unfold Eq' cl
  rw [e1, e2]
  cases c with
  | nil => simp at hl
  | cons x r => simp at h1; rw [h1]; rfl
 ·unfold Eq' EpOk
  rw [e2]
  exact ⟨h2.len, h2.one⟩
 ·unfold Eq'
  rw [e2]
  exact h2
end
set_option maxHeartbeats 4000000 in
set_option maxRecDepth 100000 in
theorem rtext_d : ∀ (n h : Nat) {F : Nat → Prop} {w : World} {t : T} {c : List Value}, gd n t = true → hgt h t → shT (n + 1) t → VA F w t c → (rz (n + 1) t).length ≤ 1000000000000 → Calls Tryz.prog 39 #[.agg c.toArray] w (AnN w (rz (n + 1) t))
 | _, 0, _, _, _, _, _, hh, _, _, _ => hh.elim
 | n, h + 1, F, w, .mk k i s l p, c, hg, hh, hs, hv, hlen => by
  obtain ⟨b1, b2, g1, g2⟩ := hh
  obtain ⟨s1, s2, s3⟩ := hs
  have hgl := gd_list hg
  cases hv with
  | @mk _ _ _ _ _ sl sp cl' cp r1 r2 e1 e2 hl hp1 hp2 =>
   show Calls Tryz.prog 39 #[.agg #[.int .i64 k, .int .i64 i, .string (st s), sl, sp]] w (AnN w (rz (n + 1) (.mk k i s l p)))
   unfold gd at hg
   rw [Bool.and_eq_true] at hg
   have hg2 := hg.2
   by_cases h0 : k = 0
   ·subst h0; exact txt_0
   by_cases h1 : k = 1
   ·subst h1; exact txt_1
   by_cases h3 : k = 2
   ·subst h3; exact txt_2 (by simpa [inR] using hg2)
   by_cases h4 : k = 3
   ·subst h4; exact txt_3 s1
   by_cases h5 : k = 4
   ·subst h5
    cases n with
    | zero => simp at hg2
    | succ n =>
     have hga : ∀ t ∈ l, gd n t = true := by
      rcases hgl.1 with e | ⟨m, e, g⟩
      ·rw [e]; intro t ht; simp at ht
      ·cases e; exact g
     have hle : (cj (l.map (rz (n + 1)))).length ≤ 1000000000000 := by
      have : (rz (n + 1 + 1) (.mk 4 i s l p)).length = (cj (l.map (rz (n + 1)))).length + 2 := by show (91 :: (cj (l.map (rz (n + 1))) ++ [93])).length = _; simp
      omega
     refine txt_4 (L := l.map (rz (n + 1))) r1 (by rw [List.length_map, e1]) (by omega) hle (fun j c x hc hx w1 hb => ?_)
     rw [List.getElem?_map] at hx
     obtain ⟨u, hu, rfl⟩ := Option.map_eq_some_iff.1 hx
     have hm := List.mem_of_getElem? hu
     exact rtext_d n h (hga u hm) (g1 u hm) (s2 u hm) ((hl j u c hu hc).frame (G := fun _ => True) (fun k _ hk => hb.block k hk) (fun _ _ _ => trivial)) (Nat.le_trans (cj_mem (L := l.map (rz (n + 1))) (j := j) (by rw [List.getElem?_map, hu]; rfl)) hle)
   by_cases h6 : k = 5
   ·subst h6
    cases n with
    | zero => simp at hg2
    | succ n =>
     have hga : ∀ q ∈ p, gd n q.2 = true := by
      rcases hgl.2.1 with e | ⟨m, e, g⟩
      ·rw [e]; intro t ht; simp at ht
      ·cases e; exact g
     have hle : (cj ((ss ltT p).map fun q => qu q.1 ++ 58 :: rz (n + 1) q.2)).length ≤ 1000000000000 := by
      have : (rz (n + 1 + 1) (.mk 5 i s l p)).length = (cj ((ss ltT p).map fun q => qu q.1 ++ 58 :: rz (n + 1) q.2)).length + 2 := by show (123 :: (cj ((ss ltT p).map fun q => qu q.1 ++ 58 :: rz (n + 1) q.2) ++ [125])).length = _; simp
      omega
     have hat := fun {j : Nat} (hj : j < cp.length) => eq_at (j := j) r2.1 e2 hp1 hp2 hj
     have hcs : cp = (sg (Eq' p cp) 0 p.length).map cl := by
      refine List.ext_getElem? fun j => ?_
      by_cases hj : j < cp.length
      ·obtain ⟨q, c, _, q2, q3, _⟩ := hat hj
       rw [List.getElem?_map, sg_at (by omega), q2, q3, Nat.zero_add]; rfl
      ·rw [List.getElem?_eq_none (by omega), List.getElem?_eq_none (by rw [List.length_map, sg_len]; omega)]
     have hA : A2 (fun (e : Ep) (q : Tp) => e.1 = q.1 ∧ VA F w q.2 e.2 ∧ q ∈ p) (ss ltE (sg (Eq' p cp) 0 p.length)) (ss ltT p) :=
      ss_rel (fun a b a' b' h h' => by unfold ltE ltT; rw [h.1, h'.1]) (A2.of (by rw [sg_len]) fun j a b q1 q2 => by
       have hj : j < p.length := (List.getElem?_eq_some_iff.1 q2).1
       obtain ⟨q, c, v1, _, _, v4, _, v6⟩ := hat (j := j) (by omega)
       rw [sg_at hj, Nat.zero_add] at q1
       cases q1
       rw [v1] at q2
       cases q2
       exact ⟨v4, v6, List.mem_of_getElem? v1⟩)
     refine txt_5 (n := p.length) (E := Eq' p cp) (L := (ss ltT p).map fun q => qu q.1 ++ 58 :: rz (n + 1) q.2) r2 hcs (fun j hj => by obtain ⟨_, _, _, _, _, _, x, _⟩ := hat (j := j) (by omega); exact x) (by rw [List.length_map, ss_len]) (by omega) hle (fun j e y he hy => ?_)
     rw [List.getElem?_map] at hy
     obtain ⟨q, hq, rfl⟩ := Option.map_eq_some_iff.1 hy
     obtain ⟨a1, a2, a3⟩ := hA.at he hq
     obtain ⟨t1, t2⟩ := s3 q a3
     refine ⟨rz (n + 1) q.2, by rw [a1], by rw [a1]; exact t1, fun w1 hb => ?_⟩
     have hmem := cj_mem (L := (ss ltT p).map fun q => qu q.1 ++ 58 :: rz (n + 1) q.2) (j := j) (x := qu q.1 ++ 58 :: rz (n + 1) q.2) (by rw [List.getElem?_map, hq]; rfl)
     rw [List.length_append, List.length_cons] at hmem
     exact rtext_d n h (hga q a3) (g2 q a3) t2 (a2.frame (G := fun _ => True) (fun k _ hk => hb.block k hk) (fun _ _ _ => trivial)) (by omega)
   ·simp [h0, h1, h3, h4, h5, h6] at hg2
theorem sht_leaf {h : Nat} {k i : Int} {s : List UInt8} (hs : s.length ≤ 100000) : shT h (.mk k i s [] []) := by
 cases h with
 | zero => exact True.intro
 | succ h => exact ⟨by omega, by simp, by simp⟩
theorem pv_sht : ∀ (n : Nat) (l : List UInt8) (x : T) (r : List UInt8), pv n l = some (x, r) → l.length ≤ 4096 → ∀ h, shT h x
 | n, l, x, r, h, hN, hh => by
  have a := sk_le l
  unfold pv at h
  generalize sk l = m at *
  cases m with
  | nil => cases h
  | cons b m =>
   simp only at h
   split at h
   ·split at h
    ·cases h; exact sht_leaf (by simp)
    ·cases h
   ·split at h
    ·split at h
     ·cases h; exact sht_leaf (by simp)
     ·cases h
    ·split at h
     ·split at h
      ·cases h; exact sht_leaf (by simp)
      ·cases h
     ·split at h
      ·split at h
       ·cases h
       ·rename_i hq
        cases h
        have := qt_l4 hq
        exact sht_leaf (by omega)
      ·split at h
       ·cases n with
        | zero => cases h
        | succ n =>
         simp only at h
         split at h
         ·cases h
         ·rename_i hq
          cases h
          obtain ⟨g1, g2⟩ := rw_all (N := 4096) (Pp := fun x => ∀ h, shT h x) (fun l x r h hl => ⟨pv_sht n l x r h hl, pv_le n l x r h⟩) hq (by omega)
          cases hh with
          | zero => exact True.intro
          | succ hh => exact ⟨by simp, fun t ht => g1 t ht hh, by simp⟩
       ·split at h
        ·cases n with
         | zero => cases h
         | succ n =>
          simp only at h
          split at h
          ·cases h
          ·rename_i hq
           split at h
           ·cases h
            obtain ⟨g1, g2⟩ := rw_all (N := 4096) (Pp := fun q : List UInt8 × T => q.1.length ≤ 100000 ∧ ∀ h, shT h q.2) (fun l x r h hl => by
             refine ⟨?_, pr_le (pv_le n) h⟩
             unfold pr at h
             have b1 := sk_le l
             split at h
             ·cases h
             ·rename_i s q hq
              have b2 := qt_le hq
              have b3 := sk_le q
              have b4 := tk_le [58] (sk q)
              have b5 := qt_l4 hq
              split at h
              ·split at h
               ·cases h
               ·rename_i v t hv
                cases h
                exact ⟨by show s.length ≤ 100000; omega, pv_sht n _ _ _ hv (by omega)⟩
              ·cases h) hq (by omega)
            cases hh with
            | zero => exact True.intro
            | succ hh => exact ⟨by simp, by simp, fun q hq => ⟨by have := (g1 q hq).1; omega, (g1 q hq).2 hh⟩⟩
           ·cases h
        ·split at h
         ·cases h
         ·cases h; exact sht_leaf (by simp)

theorem eqg_es {x u : Operand} {s s' : List UInt8} {w : World} : (eqGuard .eql 9 x u (.string (st s)) (.string (st s'))).run Tryz.prog w = .ok () w := by
 simp [eqGuard, go_sem]
theorem st_eql {a b : List UInt8} (w : World) : (binOp .eql 9 (.string (st a)) (.string (st b))).run Tryz.prog w = .ok (.bool (decide (a = b))) w := by
 have h := st_eq a b
 simp [binOp, go_sem, Op.stringOp, ← h]
theorem rz_ct {t : T} (h : gd 8 t = true) : rz 9 t = ct t := rz_cz 8 t h
def isR (l : List UInt8) : Bool := match prsV l with
 | none => false
 | some t => decide (ct t = l)
set_option maxHeartbeats 4000000 in
set_option maxRecDepth 100000 in
theorem ris_d {w : World} {sa : Option Addr} {cap : Nat} {l : List UInt8} (hb : BsA w (.slice sa l.length cap) l) (hcap : l.length ≤ cap)
  (hlen : ∀ t, prsV l = some t → (ct t).length ≤ 1000000000000) : Calls Tryz.prog 27 #[.slice sa l.length cap] w fun e w' => e = .returned (.bool (isR l)) ∧ Below w.heap.size w w' := by
 have hp := rparse_d hb hcap
 replace hb := hide1 hb
 generalize hN : l.length = N at *
 replace hN := hide1 hN
 go_enter Tryz.func27, Tryz.ntmps27
 go_wp2_with fail
 refine hp.mono ?_
 rintro e w1 ⟨c, rfl, h5, hco, b1, hc⟩
 obtain ⟨c0, c1, c2, c3, c4, rfl⟩ := arr5q h5
 clear hp
 go_upto_region 2 with (refine wpList_store_row rfl 28 (.tmp 3) (.tmp 8) rfl w1.heap.size #[c0, c1, c2, c3, c4] rfl rfl 28 _ (bxw_z w1) (by kernel_rfl) rfl hco ?_)
 have haA := bxw_at w1 #[c0, c1, c2, c3, c4]
 have hlA := bxw_bl w1 #[c0, c1, c2, c3, c4]
 have hsA := bxw_sz w1 #[c0, c1, c2, c3, c4]
 generalize hwe : bxw w1 #[c0, c1, c2, c3, c4] = wA at *
 rw [show (w1.alloc (.cells #[.int .i64 0, .int .i64 0, .string ⟨#[]⟩, .slice none 0 0, .slice none 0 0] 28)).setRow w1.heap.size #[c0, c1, c2, c3, c4] = wA from hwe]
 clear hwe
 have BA := hide1 (b1.trans (hlA.mono b1.size))
 rcases hc with ⟨t, ht, hv⟩ | ⟨ht, hz⟩
 ·obtain ⟨hl4, hh, hg, hs⟩ := prs_ok ht
  have hsh : shT 9 t := by
   have h' := ht
   unfold prsV at h'
   rw [if_neg (by omega)] at h'
   cases hpv : pv 8 l with
   | none => rw [hpv] at h'; cases h'
   | some x =>
    rw [hpv] at h'
    obtain ⟨t', r⟩ := x
    simp only at h'
    split at h'
    ·cases h'; exact pv_sht 8 l t r hpv hl4 9
    ·cases h'
  have hvA := hv.frame (w' := wA) (G := fun k => w.heap.size ≤ k ∧ k < w1.heap.size) (fun j h hj => hlA.block j hj) (fun _ h hk => ⟨h, hk⟩)
  have hbA := hide1 (hb.out.below BA.out)
  obtain ⟨Z, hZ⟩ : ∃ Z, Hid (Z = ct t) := ⟨_, hide1 rfl⟩
  have htx : ∀ wa, Below wA.heap.size wA wa → Calls Tryz.prog 39 #[.agg #[c0, c1, c2, c3, c4]] wa (AnN wa Z) := fun wa hwa => by
   rw [hZ.out, ← rz_ct hg]
   exact rtext_d 8 9 (c := [c0, c1, c2, c3, c4]) hg hh hsh (hvA.frame (w' := wa) (G := fun _ => True) (fun j h hj => hwa.block j hj) (fun _ _ _ => trivial)) (by rw [rz_ct hg]; exact hlen t ht)
  have hld : ∀ wa, Below wA.heap.size wA wa → (Instr.loadAt 28 (.pointer (some ⟨w1.heap.size, 0, none⟩))).run Tryz.prog wa = .ok (.agg #[c0, c1, c2, c3, c4]) wa := fun wa hwa => ld_mV (fun j u hj => by
   have hx := (hwa.block w1.heap.size (by omega)).trans haA
   simp only [World.cell?, hx]
   rw [Nat.zero_add]
   simpa using hj)
  have hcv : ∀ wa, Below wA.heap.size wA wa → (convert 22 9 (.slice sa N cap)).run Tryz.prog wa = .ok (.string (st l)) wa := fun wa hwa => conv_b (hbA.out.below hwa)
  obtain ⟨R, hR⟩ : ∃ R, Hid (R = decide (Z = l)) := ⟨_, hide1 rfl⟩
  have hes : ∀ w, (binOp .eql 9 (.string (st Z)) (.string (st l))).run Tryz.prog w = .ok (.bool R) w := fun w => by rw [hR.out]; exact st_eql w
  have hi : Hid (isR l = R) := hide1 (by unfold isR; rw [ht, hR.out, hZ.out])
  have e0 : (if (prsV l).isSome = true then 0 else prsE l) = 0 := by rw [ht]; rfl
  rw [e0]
  clear hv hvA hlA haA b1 ht hg hh hs hsh hlen e0 hco h5 hb
  refine wp_flowG 9 _ _ (by kernel_rfl) (by kernel_rfl) (by kernel_rfl) rfl (fun j v _ => v = ([(.int .i64 0), (.bool true), (.bool true), (.agg #[c0, c1, c2, c3, c4]), (.string (st Z)), (.slice sa N cap), (.string (st l)), (.bool R), (.bool R), (.bool R)] : List Value).getD j undef) (fun _ _ _ _ h _ => h) ?_ ?_
  ·intro j op hop hj a wa hwa hsz hsl hdep K hK
   match j, hop with
   | 0, hop =>
    obtain rfl := Option.some.inj hop
    have p4 : a.tmps.getD 4 undef = (.int .i64 0) := hsl 4 rfl
    exact .plain rfl (wp_val (w' := wa) (v := (.int .i64 0)) (by simp only [execOp, Act.eval]; rw [show a.tmps.getD 4 undef = _ from p4]; rfl) (hK _ _ (Below.refl _ _) rfl))
   | 1, hop =>
    obtain rfl := Option.some.inj hop
    have t0 : a.tmps.getD 10 undef = (.int .i64 0) := hdep 0 _ 10 rfl rfl ⟨⟨0, .data⟩, by simp, rfl, rfl⟩
    exact .plain rfl (wp_val (w' := wa) (v := (.bool true)) (by simp only [execOp, Act.eval]; rw [show a.tmps.getD 10 undef = _ from t0]; kernel_rfl) (hK _ _ (Below.refl _ _) rfl))
   | 2, hop =>
    obtain rfl := Option.some.inj hop
    have t1 : a.tmps.getD 11 undef = (.bool true) := hdep 1 _ 11 rfl rfl ⟨⟨1, .data⟩, by simp, rfl, rfl⟩
    exact .plain rfl (wp_val (w' := wa) (v := (.bool true)) (by simp only [execOp, Act.eval]; rw [show a.tmps.getD 11 undef = _ from t1]; rfl) (hK _ _ (Below.refl _ _) rfl))
   | 3, hop =>
    obtain rfl := Option.some.inj hop
    have gg : a.tmps.getD 12 undef = (.bool true) := hdep 2 _ 12 rfl rfl ⟨⟨2, .guard⟩, by simp, rfl, rfl⟩
    have p3 : a.tmps.getD 3 undef = (.pointer (some ⟨w1.heap.size, 0, none⟩)) := hsl 3 rfl
    exact .want rfl rfl (by rw [hsz]; simp) gg (wp_val (w' := wa) (v := (.agg #[c0, c1, c2, c3, c4])) (by simp only [execOp, Act.eval]; rw [show a.tmps.getD 3 undef = _ from p3]; simp only [Sem.run_bind, hld _ hwa, Result.andThen_ok, Sem.run_pure]) (hK _ _ (Below.refl _ _) rfl))
   | 4, hop =>
    obtain rfl := Option.some.inj hop
    have gg : a.tmps.getD 12 undef = (.bool true) := hdep 2 _ 12 rfl rfl ⟨⟨2, .guard⟩, by simp, rfl, rfl⟩
    have t3 : a.tmps.getD 13 undef = (.agg #[c0, c1, c2, c3, c4]) := hdep 3 _ 13 rfl rfl ⟨⟨3, .data⟩, by simp, rfl, rfl⟩
    refine .want rfl rfl (by rw [hsz]; simp) gg (oper_any (J := fun r w' => r = (.string (st Z)) ∧ Below wa.heap.size wa w') 39 #[.tmp 13] _ rfl #[(.agg #[c0, c1, c2, c3, c4])] (by simp only [List.map_toArray, List.map_cons, List.map_nil, Act.eval]; rw [show a.tmps.getD 13 undef = _ from t3]) (fun w => by kernel_rfl) ((htx _ hwa).mono fun e w' h => ⟨_, h.1, rfl, h.2⟩) ?_)
    rintro r w' ⟨rfl, hb⟩
    exact hK _ _ hb rfl
   | 5, hop =>
    obtain rfl := Option.some.inj hop
    have gg : a.tmps.getD 12 undef = (.bool true) := hdep 2 _ 12 rfl rfl ⟨⟨2, .guard⟩, by simp, rfl, rfl⟩
    have p0 : a.tmps.getD 0 undef = (.slice sa N cap) := hsl 0 rfl
    exact .want rfl rfl (by rw [hsz]; simp) gg (wp_val (w' := wa) (v := (.slice sa N cap)) (by simp only [execOp, Act.eval]; rw [show a.tmps.getD 0 undef = _ from p0]; rfl) (hK _ _ (Below.refl _ _) rfl))
   | 6, hop =>
    obtain rfl := Option.some.inj hop
    have gg : a.tmps.getD 12 undef = (.bool true) := hdep 2 _ 12 rfl rfl ⟨⟨2, .guard⟩, by simp, rfl, rfl⟩
    have t5 : a.tmps.getD 15 undef = (.slice sa N cap) := hdep 5 _ 15 rfl rfl ⟨⟨5, .data⟩, by simp, rfl, rfl⟩
    exact .want rfl rfl (by rw [hsz]; simp) gg (wp_val (w' := wa) (v := (.string (st l))) (by simp only [execOp, Act.eval]; rw [show a.tmps.getD 15 undef = _ from t5]; simp only [Sem.run_bind, hcv _ hwa, Result.andThen_ok, Sem.run_pure]) (hK _ _ (Below.refl _ _) rfl))
   | 7, hop =>
    obtain rfl := Option.some.inj hop
    have gg : a.tmps.getD 12 undef = (.bool true) := hdep 2 _ 12 rfl rfl ⟨⟨2, .guard⟩, by simp, rfl, rfl⟩
    have t4 : a.tmps.getD 14 undef = (.string (st Z)) := hdep 4 _ 14 rfl rfl ⟨⟨4, .data⟩, by simp, rfl, rfl⟩
    have t6 : a.tmps.getD 16 undef = (.string (st l)) := hdep 6 _ 16 rfl rfl ⟨⟨6, .data⟩, by simp, rfl, rfl⟩
    exact .want rfl rfl (by rw [hsz]; simp) gg (wp_val (w' := wa) (v := (.bool R)) (by simp only [execOp, Act.eval]; rw [show a.tmps.getD 14 undef = _ from t4, show a.tmps.getD 16 undef = _ from t6]; simp only [Sem.run_bind, eqg_es, hes, Result.andThen_ok, Sem.run_pure]) (hK _ _ (Below.refl _ _) rfl))
   | 8, hop =>
    obtain rfl := Option.some.inj hop
    have t2 : a.tmps.getD 12 undef = (.bool true) := hdep 2 _ 12 rfl rfl ⟨⟨2, .data⟩, by simp, rfl, rfl⟩
    have t7 : a.tmps.getD 17 undef = (.bool R) := hdep 7 _ 17 rfl rfl ⟨⟨7, .data⟩, by simp, rfl, rfl⟩
    exact .plain rfl (wp_val (w' := wa) (v := (.bool R)) (by simp only [execOp, Act.eval]; rw [show a.tmps.getD 12 undef = _ from t2, show a.tmps.getD 17 undef = _ from t7]; rfl) (hK _ _ (Below.refl _ _) rfl))
   | 9, _ => exact absurd rfl hj
   | _ + 10, hop => exact absurd hop (by simp)
  ·intro a wa hwa hdf hsz hsl hrr K hK
   have t8 : a.tmps.getD 18 undef = (.bool R) := hrr 8 _ 18 rfl (by decide) rfl
   refine .plain rfl (wp_val (w' := wa) (v := (.bool R)) (by simp only [execOp, Act.eval]; rw [show a.tmps.getD 18 undef = _ from t8]; rfl) ?_)
   refine hK _ wa ?_
   have hact := act_puts hdf hsz hsl
   clear hrr hsl hdf hsz hK t8
   simp only [List.filterMap_cons, List.filterMap_nil, List.foldl_cons, List.foldl_nil] at hact
   rw [hact]
   generalize a.tmps.getD 10 undef = y10
   generalize a.tmps.getD 11 undef = y11
   generalize a.tmps.getD 12 undef = y12
   generalize a.tmps.getD 13 undef = y13
   generalize a.tmps.getD 14 undef = y14
   generalize a.tmps.getD 15 undef = y15
   generalize a.tmps.getD 16 undef = y16
   generalize a.tmps.getD 17 undef = y17
   generalize a.tmps.getD 18 undef = y18
   clear hact
   simp only [Act.put, List.setIfInBounds_toArray, List.set_cons_succ, List.set_cons_zero]
   have hbn : Hid (Below w.heap.size w wa) := hide1 (BA.out.trans (hwa.mono BA.out.size))
   rw [← hi.out]
   clear hld htx hcv hes hwa BA hsA
   go_wp2
   go_ret
   exact ⟨rfl, hbn.out⟩
 ·have hi : Hid (isR l = false) := hide1 (by unfold isR; rw [ht])
  have e0 : (if (prsV l).isSome = true then 0 else prsE l) = prsE l := by rw [ht]; rfl
  have hE : prsE l = 10 ∨ prsE l = 1 := by unfold prsE; split <;> simp
  rw [e0]
  clear hlA haA b1 ht hlen e0 hco h5 hb hz
  generalize prsE l = E at *
  rcases hE with rfl | rfl
  ·skip
   refine wp_flowG 9 _ _ (by kernel_rfl) (by kernel_rfl) (by kernel_rfl) rfl (fun j v _ => v = ([(.int .i64 10), (.bool false), (.bool false), undef, undef, undef, undef, undef, (.bool false), (.bool false)] : List Value).getD j undef) (fun _ _ _ _ h _ => h) ?_ ?_
   ·intro j op hop hj a wa hwa hsz hsl hdep K hK
    match j, hop with
    | 0, hop =>
     obtain rfl := Option.some.inj hop
     have p4 : a.tmps.getD 4 undef = (.int .i64 10) := hsl 4 rfl
     exact .plain rfl (wp_val (w' := wa) (v := (.int .i64 10)) (by simp only [execOp, Act.eval]; rw [show a.tmps.getD 4 undef = _ from p4]; rfl) (hK _ _ (Below.refl _ _) rfl))
    | 1, hop =>
     obtain rfl := Option.some.inj hop
     have t0 : a.tmps.getD 10 undef = (.int .i64 10) := hdep 0 _ 10 rfl rfl ⟨⟨0, .data⟩, by simp, rfl, rfl⟩
     exact .plain rfl (wp_val (w' := wa) (v := (.bool false)) (by simp only [execOp, Act.eval]; rw [show a.tmps.getD 10 undef = _ from t0]; kernel_rfl) (hK _ _ (Below.refl _ _) rfl))
    | 2, hop =>
     obtain rfl := Option.some.inj hop
     have t1 : a.tmps.getD 11 undef = (.bool false) := hdep 1 _ 11 rfl rfl ⟨⟨1, .data⟩, by simp, rfl, rfl⟩
     exact .plain rfl (wp_val (w' := wa) (v := (.bool false)) (by simp only [execOp, Act.eval]; rw [show a.tmps.getD 11 undef = _ from t1]; rfl) (hK _ _ (Below.refl _ _) rfl))
    | 3, hop =>
     obtain rfl := Option.some.inj hop
     have gg : a.tmps.getD 12 undef = (.bool false) := hdep 2 _ 12 rfl rfl ⟨⟨2, .guard⟩, by simp, rfl, rfl⟩
     exact .skip rfl rfl (by rw [hsz]; simp) gg (hK _ _ (Below.refl _ _) rfl)
    | 4, hop =>
     obtain rfl := Option.some.inj hop
     have gg : a.tmps.getD 12 undef = (.bool false) := hdep 2 _ 12 rfl rfl ⟨⟨2, .guard⟩, by simp, rfl, rfl⟩
     exact .skip rfl rfl (by rw [hsz]; simp) gg (hK _ _ (Below.refl _ _) rfl)
    | 5, hop =>
     obtain rfl := Option.some.inj hop
     have gg : a.tmps.getD 12 undef = (.bool false) := hdep 2 _ 12 rfl rfl ⟨⟨2, .guard⟩, by simp, rfl, rfl⟩
     exact .skip rfl rfl (by rw [hsz]; simp) gg (hK _ _ (Below.refl _ _) rfl)
    | 6, hop =>
     obtain rfl := Option.some.inj hop
     have gg : a.tmps.getD 12 undef = (.bool false) := hdep 2 _ 12 rfl rfl ⟨⟨2, .guard⟩, by simp, rfl, rfl⟩
     exact .skip rfl rfl (by rw [hsz]; simp) gg (hK _ _ (Below.refl _ _) rfl)
    | 7, hop =>
     obtain rfl := Option.some.inj hop
     have gg : a.tmps.getD 12 undef = (.bool false) := hdep 2 _ 12 rfl rfl ⟨⟨2, .guard⟩, by simp, rfl, rfl⟩
     exact .skip rfl rfl (by rw [hsz]; simp) gg (hK _ _ (Below.refl _ _) rfl)
    | 8, hop =>
     obtain rfl := Option.some.inj hop
     have t2 : a.tmps.getD 12 undef = (.bool false) := hdep 2 _ 12 rfl rfl ⟨⟨2, .data⟩, by simp, rfl, rfl⟩
     have t7 : a.tmps.getD 17 undef = undef := hdep 7 _ 17 rfl rfl ⟨⟨7, .data⟩, by simp, rfl, rfl⟩
     exact .plain rfl (wp_val (w' := wa) (v := (.bool false)) (by simp only [execOp, Act.eval]; rw [show a.tmps.getD 12 undef = _ from t2, show a.tmps.getD 17 undef = _ from t7]; rfl) (hK _ _ (Below.refl _ _) rfl))
    | 9, _ => exact absurd rfl hj
    | _ + 10, hop => exact absurd hop (by simp)
   ·intro a wa hwa hdf hsz hsl hrr K hK
    have t8 : a.tmps.getD 18 undef = (.bool false) := hrr 8 _ 18 rfl (by decide) rfl
    refine .plain rfl (wp_val (w' := wa) (v := (.bool false)) (by simp only [execOp, Act.eval]; rw [show a.tmps.getD 18 undef = _ from t8]; rfl) ?_)
    refine hK _ wa ?_
    have hact := act_puts hdf hsz hsl
    clear hrr hsl hdf hsz hK t8
    simp only [List.filterMap_cons, List.filterMap_nil, List.foldl_cons, List.foldl_nil] at hact
    rw [hact]
    generalize a.tmps.getD 10 undef = y10
    generalize a.tmps.getD 11 undef = y11
    generalize a.tmps.getD 12 undef = y12
    generalize a.tmps.getD 13 undef = y13
    generalize a.tmps.getD 14 undef = y14
    generalize a.tmps.getD 15 undef = y15
    generalize a.tmps.getD 16 undef = y16
    generalize a.tmps.getD 17 undef = y17
    generalize a.tmps.getD 18 undef = y18
    clear hact
    simp only [Act.put, List.setIfInBounds_toArray, List.set_cons_succ, List.set_cons_zero]
    have hbn : Hid (Below w.heap.size w wa) := hide1 (BA.out.trans (hwa.mono BA.out.size))
    clear hwa BA hsA
    go_wp2
    go_ret
    exact ⟨by rw [hi.out]; rfl, hbn.out⟩
  ·skip
   refine wp_flowG 9 _ _ (by kernel_rfl) (by kernel_rfl) (by kernel_rfl) rfl (fun j v _ => v = ([(.int .i64 1), (.bool false), (.bool false), undef, undef, undef, undef, undef, (.bool false), (.bool false)] : List Value).getD j undef) (fun _ _ _ _ h _ => h) ?_ ?_
   ·intro j op hop hj a wa hwa hsz hsl hdep K hK
    match j, hop with
    | 0, hop =>
     obtain rfl := Option.some.inj hop
     have p4 : a.tmps.getD 4 undef = (.int .i64 1) := hsl 4 rfl
     exact .plain rfl (wp_val (w' := wa) (v := (.int .i64 1)) (by simp only [execOp, Act.eval]; rw [show a.tmps.getD 4 undef = _ from p4]; rfl) (hK _ _ (Below.refl _ _) rfl))
    | 1, hop =>
     obtain rfl := Option.some.inj hop
     have t0 : a.tmps.getD 10 undef = (.int .i64 1) := hdep 0 _ 10 rfl rfl ⟨⟨0, .data⟩, by simp, rfl, rfl⟩
     exact .plain rfl (wp_val (w' := wa) (v := (.bool false)) (by simp only [execOp, Act.eval]; rw [show a.tmps.getD 10 undef = _ from t0]; kernel_rfl) (hK _ _ (Below.refl _ _) rfl))
    | 2, hop =>
     obtain rfl := Option.some.inj hop
     have t1 : a.tmps.getD 11 undef = (.bool false) := hdep 1 _ 11 rfl rfl ⟨⟨1, .data⟩, by simp, rfl, rfl⟩
     exact .plain rfl (wp_val (w' := wa) (v := (.bool false)) (by simp only [execOp, Act.eval]; rw [show a.tmps.getD 11 undef = _ from t1]; rfl) (hK _ _ (Below.refl _ _) rfl))
    | 3, hop =>
     obtain rfl := Option.some.inj hop
     have gg : a.tmps.getD 12 undef = (.bool false) := hdep 2 _ 12 rfl rfl ⟨⟨2, .guard⟩, by simp, rfl, rfl⟩
     exact .skip rfl rfl (by rw [hsz]; simp) gg (hK _ _ (Below.refl _ _) rfl)
    | 4, hop =>
     obtain rfl := Option.some.inj hop
     have gg : a.tmps.getD 12 undef = (.bool false) := hdep 2 _ 12 rfl rfl ⟨⟨2, .guard⟩, by simp, rfl, rfl⟩
     exact .skip rfl rfl (by rw [hsz]; simp) gg (hK _ _ (Below.refl _ _) rfl)
    | 5, hop =>
     obtain rfl := Option.some.inj hop
     have gg : a.tmps.getD 12 undef = (.bool false) := hdep 2 _ 12 rfl rfl ⟨⟨2, .guard⟩, by simp, rfl, rfl⟩
     exact .skip rfl rfl (by rw [hsz]; simp) gg (hK _ _ (Below.refl _ _) rfl)
    | 6, hop =>
     obtain rfl := Option.some.inj hop
     have gg : a.tmps.getD 12 undef = (.bool false) := hdep 2 _ 12 rfl rfl ⟨⟨2, .guard⟩, by simp, rfl, rfl⟩
     exact .skip rfl rfl (by rw [hsz]; simp) gg (hK _ _ (Below.refl _ _) rfl)
    | 7, hop =>
     obtain rfl := Option.some.inj hop
     have gg : a.tmps.getD 12 undef = (.bool false) := hdep 2 _ 12 rfl rfl ⟨⟨2, .guard⟩, by simp, rfl, rfl⟩
     exact .skip rfl rfl (by rw [hsz]; simp) gg (hK _ _ (Below.refl _ _) rfl)
    | 8, hop =>
     obtain rfl := Option.some.inj hop
     have t2 : a.tmps.getD 12 undef = (.bool false) := hdep 2 _ 12 rfl rfl ⟨⟨2, .data⟩, by simp, rfl, rfl⟩
     have t7 : a.tmps.getD 17 undef = undef := hdep 7 _ 17 rfl rfl ⟨⟨7, .data⟩, by simp, rfl, rfl⟩
     exact .plain rfl (wp_val (w' := wa) (v := (.bool false)) (by simp only [execOp, Act.eval]; rw [show a.tmps.getD 12 undef = _ from t2, show a.tmps.getD 17 undef = _ from t7]; rfl) (hK _ _ (Below.refl _ _) rfl))
    | 9, _ => exact absurd rfl hj
    | _ + 10, hop => exact absurd hop (by simp)
   ·intro a wa hwa hdf hsz hsl hrr K hK
    have t8 : a.tmps.getD 18 undef = (.bool false) := hrr 8 _ 18 rfl (by decide) rfl
    refine .plain rfl (wp_val (w' := wa) (v := (.bool false)) (by simp only [execOp, Act.eval]; rw [show a.tmps.getD 18 undef = _ from t8]; rfl) ?_)
    refine hK _ wa ?_
    have hact := act_puts hdf hsz hsl
    clear hrr hsl hdf hsz hK t8
    simp only [List.filterMap_cons, List.filterMap_nil, List.foldl_cons, List.foldl_nil] at hact
    rw [hact]
    generalize a.tmps.getD 10 undef = y10
    generalize a.tmps.getD 11 undef = y11
    generalize a.tmps.getD 12 undef = y12
    generalize a.tmps.getD 13 undef = y13
    generalize a.tmps.getD 14 undef = y14
    generalize a.tmps.getD 15 undef = y15
    generalize a.tmps.getD 16 undef = y16
    generalize a.tmps.getD 17 undef = y17
    generalize a.tmps.getD 18 undef = y18
    clear hact
    simp only [Act.put, List.setIfInBounds_toArray, List.set_cons_succ, List.set_cons_zero]
    have hbn : Hid (Below w.heap.size w wa) := hide1 (BA.out.trans (hwa.mono BA.out.size))
    clear hwa BA hsA
    go_wp2
    go_ret
    exact ⟨by rw [hi.out]; rfl, hbn.out⟩
end Go.Proofs.YtbemaloaobeblaaGreatDoor

namespace Go.Proofs.YtbemaloaobeblaaGreatDoor
open Go.RowKit

theorem cj_sum : ∀ (L : List (List UInt8)), (cj L).length ≤ (L.map fun x => x.length + 1).sum
 | [] => by simp [cj]
 | x :: r => by
  have : ∀ r : List (List UInt8), (r.flatMap fun y => 44 :: y).length = (r.map fun x => x.length + 1).sum := by
   intro r
   induction r with
   | nil => rfl
   | cons y r ih => rw [List.flatMap_cons, List.length_append, ih, List.map_cons, List.sum_cons]; simp
  show (x ++ r.flatMap fun y => 44 :: y).length ≤ _
  rw [List.length_append, this, List.map_cons, List.sum_cons]
  omega
theorem itoa_len {i : Int} (h : -9007199254740991 ≤ i ∧ i ≤ 9007199254740991) : (Lib.itoa i).length ≤ 21 := by
 unfold Lib.itoa
 split
 ·have := dec_len20 (u := i.natAbs) (by omega)
  simp; omega
 ·have := dec_len20 (u := i.toNat) (by omega)
  omega
theorem ql_l5 : ∀ (n : Nat) {out l s r : List UInt8}, ql n out l = some (s, r) → s.length + 4 * r.length ≤ out.length + 4 * l.length
 | n, out, l, s, r, h => by
  cases hh : hp [34] l with
  | true => rw [ql_end hh] at h; cases h; have := tk_le [34] l; omega
  | false =>
   cases hl : ltr l with
   | none => rw [ql_non hh hl] at h; cases h
   | some x =>
    obtain ⟨c, q⟩ := x
    cases n with
    | zero => rw [ql, if_neg (by simp [hh]), hl] at h; cases h
    | succ n =>
     rw [ql_go hh hl] at h
     have h1 := ql_l5 n h
     have h2 := ltr_lt hl
     have h3 := enc_le4 (ltr_ok hl)
     rw [List.length_append] at h1
     omega
theorem qt_l5 {l s r : List UInt8} (h : qt l = some (s, r)) : (qu s).length + 9 + 40 * r.length ≤ 40 * l.length := by
 unfold qt at h
 split at h
 ·rename_i h0
  have h1 := ql_l5 _ h
  have h2 := tk_lt h0
  have h3 := (qb_len s).2
  simp only [List.length_nil] at h1
  have e : (qu s).length = (qb s).length + 2 := by unfold qu; simp
  omega
 ·cases h
theorem nm_l5 {l r : List UInt8} {i : Int} (h : nm l = some (i, r)) : (Lib.itoa i).length + 9 + 40 * r.length ≤ 40 * l.length := by
 have h1 := nm_rng h
 have h2 := itoa_len (i := i) (by simpa [inR] using h1)
 have h3 : r.length < l.length := by
  unfold nm at h
  cases hq : nmO (hp [45] l) ((tk [45] l).takeWhile dg) with
  | none => rw [hq] at h; cases h
  | some k =>
   rw [hq] at h
   cases h
   have e : (tk [45] l).takeWhile dg ≠ [] := fun e => by
    rw [e] at hq
    unfold nmO at hq
    rw [if_pos (.inl rfl)] at hq
    cases hq
   have h4 := congrArg List.length (List.takeWhile_append_dropWhile (p := dg) (l := tk [45] l))
   rw [List.length_append] at h4
   have h5 : 0 < ((tk [45] l).takeWhile dg).length := List.length_pos_iff.2 e
   have h6 := tk_le [45] l
   omega
 omega
section
variable {α : Type} {one : List UInt8 → Option (α × List UInt8)} {e : UInt8} {g : α → Nat}
theorem its_l5 (ho : ∀ l x r, one l = some (x, r) → g x + 9 + 40 * r.length ≤ 40 * l.length) : ∀ (n : Nat) {xs ys : List α} {l r : List UInt8}, its one e n xs l = some (ys, r) → (ys.map fun x => g x + 1).sum + 40 * r.length ≤ (xs.map fun x => g x + 1).sum + 40 * l.length
 | n, xs, ys, l, r, h => by
  cases h1 : one l with
  | none => rw [its_non h1] at h; cases h
  | some y =>
   obtain ⟨x, q⟩ := y
   have a := ho _ _ _ h1
   have b := sk_le q
   cases he : hp [e] (sk q) with
   | true =>
    rw [its_end h1 he] at h; cases h
    have := tk_le [e] (sk q)
    rw [List.map_append, List.sum_append]
    simp
    omega
   | false =>
    cases hc : hp [44] (sk q) with
    | false => rw [its_bad h1 he hc] at h; cases h
    | true =>
     cases n with
     | zero => rw [its, h1] at h; simp [he, hc] at h
     | succ n =>
      rw [its_go h1 he hc] at h
      have c := its_l5 ho n h
      have := tk_le [44] (sk q)
      rw [List.map_append, List.sum_append] at c
      simp at c
      omega
theorem rw_l5 {b : UInt8} (ho : ∀ l x r, one l = some (x, r) → g x + 9 + 40 * r.length ≤ 40 * l.length) {ys : List α} {l r : List UInt8} (h : rw' one b e l = some (ys, r)) : (ys.map fun x => g x + 1).sum + 40 + 40 * r.length ≤ 40 * l.length := by
 unfold rw' at h
 have a := sk_le l
 have f := sk_le (tk [b] (sk l))
 split at h
 ·rename_i h0
  have c := tk_lt h0
  split at h
  ·cases h
   have := tk_le [e] (sk (tk [b] (sk l)))
   simp
   omega
  ·have := its_l5 ho _ h
   simp at this
   omega
 ·cases h
end
theorem pr_l5 {one : List UInt8 → Option (T × List UInt8)} {g : T → Nat} (ho : ∀ l x r, one l = some (x, r) → g x + 9 + 40 * r.length ≤ 40 * l.length) {l r : List UInt8} {x : List UInt8 × T} (h : pr one l = some (x, r)) : ((qu x.1).length + (g x.2 + 1)) + 9 + 40 * r.length ≤ 40 * l.length := by
 unfold pr at h
 have a := sk_le l
 split at h
 ·cases h
 ·rename_i s q hq
  have b := qt_l5 hq
  have c := sk_le q
  split at h
  ·rename_i h0
   have d := tk_le [58] (sk q)
   split at h
   ·cases h
   ·rename_i v t hv
    cases h
    have := ho _ _ _ hv
    simp only
    omega
  ·cases h
theorem pv_l5 : ∀ (n : Nat) (l : List UInt8) (x : T) (r : List UInt8), pv n l = some (x, r) → (rz (n + 1) x).length + 9 + 40 * r.length ≤ 40 * l.length
 | n, l, x, r, h => by
  have a := sk_le l
  unfold pv at h
  generalize sk l = m at *
  cases m with
  | nil => cases h
  | cons b m =>
   simp only at h
   split at h
   ·split at h
    ·rename_i h0
     cases h
     have h1 := tk_lt h0
     have e : (rz (n + 1) (.mk 0 0 [] [] [])).length = 4 := rfl
     rw [e]; omega
    ·cases h
   ·split at h
    ·split at h
     ·rename_i h0
      cases h
      have h1 := tk_lt h0
      have e : (rz (n + 1) (.mk 1 1 [] [] [])).length = 4 := rfl
      rw [e]; omega
     ·cases h
    ·split at h
     ·split at h
      ·rename_i h0
       cases h
       have h1 := tk_lt h0
       have e : (rz (n + 1) (.mk 1 0 [] [] [])).length = 5 := rfl
       rw [e]; omega
      ·cases h
     ·split at h
      ·split at h
       ·cases h
       ·rename_i hq
        cases h
        have h1 := qt_l5 hq
        show (qu _).length + 9 + _ ≤ _
        omega
      ·split at h
       ·cases n with
        | zero => cases h
        | succ n =>
         simp only at h
         split at h
         ·cases h
         ·rename_i xs _ hq
          cases h
          have h1 := rw_l5 (g := fun x => (rz (n + 1) x).length) (fun l x r h => pv_l5 n l x r h) hq
          have hc := cj_sum (xs.map (rz (n + 1)))
          rw [List.map_map] at hc
          have e : (rz (n + 1 + 1) (.mk 4 0 [] xs [])).length = (cj (xs.map (rz (n + 1)))).length + 2 := by show (91 :: (cj (xs.map (rz (n + 1))) ++ [93])).length = _; simp
          rw [e]
          have hc' : (cj (xs.map (rz (n + 1)))).length ≤ (xs.map fun x => (rz (n + 1) x).length + 1).sum := hc
          omega
       ·split at h
        ·cases n with
         | zero => cases h
         | succ n =>
          simp only at h
          split at h
          ·cases h
          ·rename_i ps _ hq
           split at h
           ·cases h
            have h1 := rw_l5 (g := fun q : List UInt8 × T => (qu q.1).length + ((rz (n + 1) q.2).length + 1)) (fun l x r h => pr_l5 (fun l x r h => pv_l5 n l x r h) h) hq
            have hc := cj_sum ((ss ltT ps).map fun q => qu q.1 ++ 58 :: rz (n + 1) q.2)
            have hpm : (((ss ltT ps).map fun q => qu q.1 ++ 58 :: rz (n + 1) q.2).map fun x => x.length + 1).sum = ((ps.map fun q => qu q.1 ++ 58 :: rz (n + 1) q.2).map fun x => x.length + 1).sum := (((ss_perm (lt := ltT) ps).map _).map _).sum_nat
            have he : ((ps.map fun q => qu q.1 ++ 58 :: rz (n + 1) q.2).map fun x => x.length + 1).sum = (ps.map fun q => ((qu q.1).length + ((rz (n + 1) q.2).length + 1)) + 1).sum := by
             rw [List.map_map]
             congr 1
             refine List.map_congr_left fun q _ => ?_
             simp only [Function.comp, List.length_append, List.length_cons]
            have e : (rz (n + 1 + 1) (.mk 5 0 [] [] ps)).length = (cj ((ss ltT ps).map fun q => qu q.1 ++ 58 :: rz (n + 1) q.2)).length + 2 := by show (123 :: (cj ((ss ltT ps).map fun q => qu q.1 ++ 58 :: rz (n + 1) q.2) ++ [125])).length = _; simp
            rw [e]
            omega
           ·cases h
        ·split at h
         ·cases h
         ·rename_i hq
          cases h
          have h1 := nm_l5 hq
          show (Lib.itoa _).length + 9 + _ ≤ _
          omega
theorem prs_ct {l : List UInt8} {t : T} (h : prsV l = some t) : (ct t).length ≤ 1000000000000 := by
 have hl : l.length ≤ 4096 := by
  unfold prsV at h
  split at h
  ·cases h
  ·omega
 obtain ⟨r, hp⟩ : ∃ r, pv 8 l = some (t, r) := by
  unfold prsV at h
  rw [if_neg (by omega)] at h
  cases hpv : pv 8 l with
  | none => rw [hpv] at h; cases h
  | some x =>
   rw [hpv] at h
   obtain ⟨t', r⟩ := x
   simp only at h
   split at h
   ·cases h; exact ⟨r, rfl⟩
   ·cases h
 have hg := pv_gd 8 l t r hp hl
 have h1 := pv_l5 8 l t r hp
 rw [rz_cz 8 t hg] at h1
 replace h1 : (cz 9 (so 8 t)).length + 9 + 40 * r.length ≤ 40 * l.length := h1
 show (cz 9 (so 8 t)).length ≤ _
 omega
end Go.Proofs.YtbemaloaobeblaaGreatDoor

namespace Go.Proofs.YtbemaloaobeblaaGreatDoor
open Go.RowKit Go.Shelf

theorem is_cr (l : List UInt8) : isC l = isR l := by
 unfold isC isR
 cases h : prsV l with
 | none => rfl
 | some t =>
  have hl := (prs_ok h).1
  show (decide ((ct t).length ≤ 4096) && decide (ct t = l)) = decide (ct t = l)
  by_cases e : ct t = l
  ·rw [decide_eq_true e, decide_eq_true (by rw [e]; exact hl)]; rfl
  ·rw [decide_eq_false e, Bool.and_false]
set_option maxHeartbeats 8000000 in
set_option maxRecDepth 100000 in
theorem is_walk {w : World} {a : Option Addr} {cap : Nat} {l : List UInt8} (hb : BsA w (.slice a l.length cap) l) (hcap : l.length ≤ cap) (hm : l.length ≤ 140737488351232) (hT : Ev w) (h8 : 8 ≤ w.heap.size) :
  Calls Tryz.prog 8 #[.slice a l.length cap] w fun e w' => e = .returned (.bool true) ∧ Below w.heap.size w w' := by
 have hal := alive_c hT h8
 replace hb := hide1 hb
 replace hT := hide1 hT
 replace hm := hide1 hm
 replace hcap := hide1 hcap
 go_enter Tryz.func8, Tryz.ntmps8
 go_wp2_with fail
 refine hal.mono ?_
 rintro e w1 ⟨rfl, b1⟩
 have hb1 := hide1 (hb.out.below b1)
 have hcp := copy_a hb1.out hm.out
 replace b1 := hide1 b1
 clear hal
 go_wp2_with fail
 refine hcp.mono ?_
 rintro e w2 ⟨g, c2, rfl, hg, hk2, b2⟩
 have B2 := hide1 (b1.out.trans (b2.mono b1.out.size))
 have hb2 := hide1 (hb1.out.below b2)
 have hT2 := hT.out.below B2.out (by omega)
 have h82 : 8 ≤ w2.heap.size := by have := B2.out.size; omega
 have his := is_d hk2.bsa hT2 h82
 replace hk2 := hide1 hk2
 clear hcp b2 hg b1 hb1 hT2
 go_wp2_with fail
 refine his.mono ?_
 rintro e w3 ⟨rfl, b3⟩
 have B3 := hide1 (B2.out.trans (b3.mono B2.out.size))
 have hb3 := hide1 (hb2.out.below b3)
 have hk3 := hide1 (hk2.out.below b3)
 have hri := ris_d hb3.out hcap.out (fun t h => prs_ct h)
 rw [← is_cr] at hri
 clear his b3 B2 hb2 hk2
 go_wp2_with fail
 refine hri.mono ?_
 rintro e w4 ⟨rfl, b4⟩
 have B4 := hide1 (B3.out.trans (b4.mono B3.out.size))
 have hkp := kept_a (hk3.out.below b4) (hb3.out.below b4)
 generalize isC l = D at *
 clear hri b4 hb3 hk3
 cases D <;>
 ·go_wp2_with fail
  refine hkp.mono ?_
  rintro e w5 ⟨rfl, rfl⟩
  go_wp2
  go_ret
  exact ⟨rfl, B4.out⟩
end Go.Proofs.YtbemaloaobeblaaGreatDoor

namespace Go.Proofs.YtbemaloaobeblaaGreatDoor
open Go.ChangeShapes Go.WideShapes Go.ChangeAt Go.RowKit
section
variable {H : Type} {enc : TypeId × Value → H} {W : World} {held : Bool}
theorem ints_inA {k : IntKind} {t e : TypeId} {a : Option Addr} {len cap fuel : Nat} {x : DataW H × List MemPlace} (ht : Tryz.prog.underlying t = some (.slice e)) (he : Tryz.prog.underlying e = some (.int k)) (hc : Tryz.prog.cellsOf e = 1)
  (h : DataW.trod enc Tryz.prog W 0 (fun _ => true) held fuel t [.slice a len cap] = some x) : ∃ zs : List Int, zs.length = len ∧ len ≤ cap ∧ (∀ z ∈ zs, (Lit.int k z).wf = true) ∧ (zs = [] ∨ ∃ b o, a = some ⟨b, o, none⟩ ∧ b < W.heap.size ∧ ∀ (j : Nat) (z : Int), zs[j]? = some z → W.cell? ⟨b, o + j, none⟩ = some (.int k z)) := by
 rcases open_ints ht he hc h with ⟨hcs, _⟩ | ⟨x, l, c, zs, hcs, _, hl, hm, hz, _, hcell, hwz⟩
 ·cases hcs
  exact ⟨[], rfl, Nat.le_refl _, by simp, .inl rfl⟩
 ·cases hcs
  simp only [if_true] at hz
  refine ⟨zs.take len, by simp; omega, hl, fun z h => hwz z (List.mem_of_mem_take h), ?_⟩
  rcases Nat.eq_zero_or_pos len with rfl | hp
  ·left; simp
  ·right
   obtain ⟨b, off, spot⟩ := x
   have hc0 := hcell 0 (by omega)
   have hspot : spot = none := by simpa [Addr.add] using World.cell?_spot hc0
   subst hspot
   refine ⟨b, off, rfl, ?_, fun j z hj => ?_⟩
   ·rcases Nat.lt_or_ge b W.heap.size with h' | h'
    ·exact h'
    ·rw [Addr.add_lit] at hc0; simp [World.cell?, Array.getElem?_eq_none h'] at hc0
   ·rw [List.getElem?_take] at hj
    split at hj
    ·rename_i hjl
     have := hcell j (by omega)
     rw [Addr.add_lit] at this
     rw [this, List.getD_eq_getElem?_getD, hj]; rfl
    ·cases hj
theorem bytes_inA {a : Option Addr} {len cap fuel : Nat} {x : DataW H × List MemPlace} (h : DataW.trod enc Tryz.prog W 0 (fun _ => true) held fuel 22 [.slice a len cap] = some x) : ∃ l : List UInt8, len = l.length ∧ len ≤ cap ∧ BsA W (.slice a l.length cap) l := by
 obtain ⟨zs, h1, h2, h3, h4⟩ := ints_inA Tryz.underlying22 Tryz.underlying5 (by kernel_rfl) h
 have hw : ∀ z ∈ zs, ((UInt8.ofNat z.toNat).toNat : Int) = z := fun z hz => by
  have := h3 z hz
  simp only [Lit.wf, Bool.and_eq_true, decide_eq_true_eq] at this
  have e1 : IntKind.u8.min = 0 := rfl
  have e2 : IntKind.u8.max = 255 := rfl
  rw [e1, e2] at this
  have h5 : z.toNat < 256 := by omega
  have : (UInt8.ofNat z.toNat).toNat = z.toNat := by simp; omega
  omega
 refine ⟨zs.map fun z => UInt8.ofNat z.toNat, by simp [h1], h2, ?_⟩
 refine ⟨a, cap, by simp, ?_⟩
 rcases h4 with rfl | ⟨b, o, rfl, hb, hc⟩
 ·left; rfl
 ·right
  refine ⟨b, o, rfl, hb, fun j y hj => ?_⟩
  rw [List.getElem?_map] at hj
  cases hz : zs[j]? with
  | none => rw [hz] at hj; cases hj
  | some z =>
   rw [hz] at hj
   cases hj
   rw [hc j z hz, hw z (List.mem_of_getElem? hz)]
end
end Go.Proofs.YtbemaloaobeblaaGreatDoor

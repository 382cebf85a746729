/- KR1, KR2, KR3, KR4, EA1, EA2, C1, CA, CrB, CC, CD, CE, CT, CR, CP, BSh, B1, B2, B3, B4, B5, B6, B7, B8, B9, B10, B11, B12, B13, B14, B15, B16, B17, B23, B24, B25, W3, EN1, EN2, EN3, EN4, EN5, KY1, KY2, KY3, KY4, KY5, EN6, CB: laid together. -/
import Derived.BigQuiet
import Derived.Lib.ValidLaws
import Derived.Lib.ConvBytes
import Derived.Laws.BitsAllLaws
import Derived.WalkKit
import Derived.WalkSpells
import Derived.WalkLawsBesides
import Derived.Below
import Derived.Handy
import Derived.Lib.SlBytesConst
import Derived.Laws.BytesArg
import Derived.Laws.OwnMore
import Derived.OwnWalk
import Derived.Test.YtdhmonlhlfkjbaaGreatDoorProg
import Derived.Shelf.Strings.SlTrimAscii
import Derived.Shelf.Strings.Trim
import Derived.Shelf.Small.Strs
import Derived.Shelf.Small.Wraps
import Derived.Shelf.Strings.Search1
import Derived.Shelf.Strings.Prefix
import Derived.Deep.Cut
import Derived.Lib.AppendStr
import Derived.Deep.RegionHeld3
import Derived.Deep.WholeRow
import Derived.Deep.MidRow
import Derived.ChangeKeysEq
import Derived.Test.YtdhmonlhlfkjbaaGreatDoorG3
import Derived.Test.YtdhmonlhlfkjbaaGreatDoorG1
import Derived.Test.YtdhmonlhlfkjbaaGreatDoorRows
namespace Go.Proofs.YtdhmonlhlfkjbaaGreatDoor
open Go.RowKit

def bc (l : List UInt8) : Array Value := (l.map fun x => Value.int .u8 (x.toNat : Nat)).toArray
def bdc (c : Nat) : Prop := 1114111 < c ∨ (55296 ≤ c ∧ c ≤ 57343)
instance (c : Nat) : Decidable (bdc c) := by unfold bdc; infer_instance
theorem BsA.take {w : World} {a : Option Addr} {n cap : Nat} {l : List UInt8} (h : BsA w (.slice a n cap) l) {k : Nat} (hk : k ≤ l.length) (c : Nat) : BsA w (.slice a k c) (l.take k) := by
  obtain ⟨a', cap', e, h⟩ := h
  cases e
  have hkl : (l.take k).length = k := by simp; omega
  refine ⟨a, c, by rw [hkl], ?_⟩
  rcases h with rfl | ⟨b, o, rfl, hb, hc⟩
  · left; simp
  · right
    refine ⟨b, o, rfl, hb, fun j x hj => hc j x ?_⟩
    rw [List.getElem?_take] at hj
    split at hj
    · exact hj
    · cases hj
theorem BsA.bl {w w' : World} {v : Value} {l : List UInt8} (h : BsA w v l) (hb : Below w.heap.size w w') : BsA w' v l := h.below hb
theorem BsA.drop {w : World} {b o n cap : Nat} {l : List UInt8} (h : BsA w (.slice (some ⟨b, o, none⟩) n cap) l) (k c : Nat) : BsA w (.slice (some ⟨b, o + k, none⟩) (l.length - k) c) (l.drop k) := by
  obtain ⟨a', cap', e, h⟩ := h
  cases e
  refine ⟨_, c, by rw [List.length_drop], ?_⟩
  rcases h with rfl | ⟨b', o', e, hb, hc⟩
  · left; simp
  · cases e
    right
    refine ⟨b, o + k, rfl, hb, fun j x hj => ?_⟩
    rw [List.getElem?_drop] at hj
    have := hc (k + j) x hj
    rwa [← Nat.add_assoc] at this
end Go.Proofs.YtdhmonlhlfkjbaaGreatDoor

namespace Go.Proofs.YtdhmonlhlfkjbaaGreatDoor
open Go.RowKit Go.Shelf

theorem run_storeCells_lo (g o : Nat) (t : TypeId) (fz : Nat × Nat) : ∀ (vs : List Value) (i : Nat) (cur : Array Value) (w : World), w.heap[g]? = some (.cells cur t fz) → cur.size ≤ fz.1 → o + i + vs.length ≤ cur.size → (∀ v ∈ vs, v.oneCell' = true) →
    (storeCells ⟨g, o, none⟩ vs i).run Tryz.prog w = .ok () (w.setRow g (cur.toList.take (o + i) ++ vs ++ cur.toList.drop (o + i + vs.length)).toArray)
  | [], i, cur, w, hg, _, _, _ => by
    simp only [storeCells, List.append_nil, List.length_nil, Nat.add_zero, List.take_append_drop, Array.toArray_toList]
    rw [setRow_self w g cur t fz hg]
    rfl
  | v :: rest, i, cur, w, hg, hfz, hl, h1 => by
    have hi : o + i < cur.size := by simp at hl; omega
    have hcell : w.cell? ⟨g, o + i, none⟩ = some cur[o + i] := by simp [World.cell?, hg, hi]
    have hfro : w.frozen? ⟨g, o + i, none⟩ = false := by
      obtain ⟨lo, hi'⟩ := fz
      simp only [World.frozen?, hg, Bool.and_eq_false_iff, decide_eq_false_iff_not]
      left
      simp only at hfz
      omega
    have hst : (store ((⟨g, o, none⟩ : Addr).add i) v).run Tryz.prog w = .ok () (w.setRow g (cur.setIfInBounds (o + i) v)) := by
      rw [Addr.add_lit, run_store Tryz.prog w _ v _ (h1 v (by simp)), hcell]
      simp [hfro, setCell_eq_setRow w g (o + i) cur t fz v hg]
    have ih := run_storeCells_lo g o t fz rest (i + 1) (cur.setIfInBounds (o + i) v) (w.setRow g (cur.setIfInBounds (o + i) v)) (setRow_heap w g cur _ t _ hg) (by simpa using hfz) (by simp at hl ⊢; omega) (fun x hx => h1 x (by simp [hx]))
    simp only [storeCells, Sem.run_bind, hst, Result.andThen_ok, ih, setRow_setRow]
    congr 3
    have e := list_seg_step cur.toList (o + i) v rest (by simp at hl ⊢; omega)
    simpa [Array.toList_setIfInBounds, Nat.add_assoc] using e
theorem bs_nw {w : World} {g cap : Nat} {c : Array Value} {e : TypeId × (Nat × Nat)} {l : List UInt8} (hg : w.heap[g]? = some (.cells c e.1 e.2)) (ht : c.toList.take l.length = bv l) : BsA w (.slice (some ⟨g, 0, none⟩) l.length cap) l :=
  ⟨_, cap, rfl, .inr ⟨g, 0, rfl, (Array.getElem?_eq_some_iff.1 hg).1, fun j x hj => by
    simp only [World.cell?, hg]
    rw [Nat.zero_add, ← Array.getElem?_toList]
    have hjl := (List.getElem?_eq_some_iff.1 hj).1
    have e := congrArg (·[j]?) ht
    simp only [List.getElem?_take] at e
    rw [if_pos (by omega)] at e
    rw [e]
    simp [bv, hj]⟩⟩
def Cvr (w : World) (g cap : Nat) (l : List UInt8) : Prop := l.length ≤ cap ∧ ∃ cur : Array Value, w.heap[g]? = some (.cells cur 5 (cur.size, cur.size + 1)) ∧ cur.size = cap ∧ cur.toList.take l.length = bv l
theorem Cvr.bs {w : World} {g cap : Nat} {l : List UInt8} (h : Cvr w g cap l) : BsA w (.slice (some ⟨g, 0, none⟩) l.length cap) l := by
  obtain ⟨_, cur, hg, _, ht⟩ := h
  exact bs_nw (e := (_, _)) hg ht
theorem cvb_r (w : World) (l : List UInt8) : ∃ w1 cap, (convert 9 22 (.string (st l))).run Tryz.prog w = .ok (.slice (some ⟨w.heap.size, 0, none⟩) l.length cap) w1 ∧ Cvr w1 w.heap.size cap l ∧ Below w.heap.size w w1 := by
  refine ⟨Lib.bytesWorld w 5 (st l), grownCap w (st l).size 0 5, Lib.run_convert_string_bytes (P := Tryz.prog) w 9 22 5 (st l) (u := .string) Tryz.underlying9 Tryz.underlying22 Tryz.underlying5, ⟨?_, _, Lib.bytesWorld_at_new _ _ _, ?_, ?_⟩, ⟨rfl, rfl, rfl, by rw [Lib.bytesWorld_size]; omega, fun k hk => Lib.bytesWorld_at_old w _ _ k hk⟩⟩
  · have := grownCap_ge w (st l).size 0 5
    rw [st_size] at this
    exact this
  · have := grownCap_ge w (st l).size 0 5
    have h2 : (st l).data.size = (st l).size := rfl
    simp only [Lib.bytesCells, Array.size_append, Array.size_map, Array.size_replicate]
    omega
  · have e : (Lib.bytesCells w 5 (st l)).toList = bv l ++ List.replicate (grownCap w (st l).size 0 5 - (st l).size) (.int .u8 0) := by
      simp only [Lib.bytesCells, Array.toList_append, Array.toList_map, Array.toList_replicate]
      rw [st_data]
      rfl
    rw [e]
    have := bv_len l
    rw [← this]
    exact List.take_left
set_option maxHeartbeats 1000000 in
set_option maxRecDepth 100000 in
theorem wpList_apcv {w : World} {ops : Array Oper} {rest : List Oper} {o : Oper} {a : Act} {Q : Exit → Act → World → Prop} (hgd : o.guard = none) (s x : Operand)
    (ho : o.op = .call { callee := .builtin .append, args := #[s, x], argTypes := #[22, 22] }) {B g cap : Nat} (hgB : B ≤ g) {l m : List UInt8} (hs : a.eval s = .slice (some ⟨g, 0, none⟩) l.length cap) (hcv : Cvr w g cap l)
    {u : Value} (hx : a.eval x = u) (hb : BsA w u m) (hn : l.length + m.length ≤ 1000000000000)
    (h : ∀ b c w', BsA w' (.slice (some ⟨b, 0, none⟩) (l ++ m).length c) (l ++ m) → (l ++ m).length ≤ c → B ≤ b → Below B w w' → wpList Tryz.prog ops Q rest (a.put o.dst (.slice (some ⟨b, 0, none⟩) (l ++ m).length c)) w') : wpList Tryz.prog ops Q (o :: rest) a w := by
  refine wpList_plain hgd fun K hK => ?_
  obtain ⟨i0, hi, he⟩ := Option.map_eq_some_iff.1 info_u8
  simp only [Prod.mk.injEq] at he
  obtain ⟨hz0, hz1, hz2⟩ := he
  obtain ⟨hlc, cur, hg, hcs, ht⟩ := hcv
  have hgl := (Array.getElem?_eq_some_iff.1 hg).1
  have hll : (l ++ m).length = l.length + m.length := List.length_append
  obtain ⟨b, c, w', hr, h2, h3, h4, h5⟩ : ∃ b c w', (Builtin.append_ #[22, 22] o.type #[.slice (some ⟨g, 0, none⟩) l.length cap, u]).run Tryz.prog w = .ok (.slice (some ⟨b, 0, none⟩) (l ++ m).length c) w' ∧ BsA w' (.slice (some ⟨b, 0, none⟩) (l ++ m).length c) (l ++ m) ∧ (l ++ m).length ≤ c ∧ B ≤ b ∧ Below B w w' := by
    obtain ⟨ad, c, rfl, hm⟩ := hb
    cases ad with
    | none =>
      obtain rfl : m = [] := by
        rcases hm with h | ⟨_, _, e, _⟩
        · exact h
        · cases e
      refine ⟨g, cap, w, ?_, by simpa using bs_nw (e := (_, _)) hg ht, by simpa using hlc, hgB, Below.refl _ _⟩
      simp [Builtin.append_, run_underlying Tryz.underlying22, sizeOf, typeInfo, hi, Builtin.lenOf, Builtin.firstCells, hlc, storeCells]
    | some ad =>
      have hnews : ∀ j u, (bv m)[j]? = some u → w.cell? (ad.add j) = some u := by
        intro j u hj
        rcases hm with rfl | ⟨b, off, e, hbl, hc⟩
        · simp [bv] at hj
        · cases e
          cases hmj : m[j]? with
          | none => rw [bv, List.getElem?_map, hmj] at hj; cases hj
          | some y =>
            rw [bv, List.getElem?_map, hmj] at hj
            cases hj
            rw [Addr.add_lit]
            exact hc j y hmj
      have h1 : ∀ u ∈ bv m, u.oneCell' = true := by intro u hu; simp [bv] at hu; obtain ⟨z, _, rfl⟩ := hu; rfl
      by_cases hroom : l.length + m.length ≤ cap
      · have hf := run_firstCells_some (P := Tryz.prog) w i0.size m.length ad m.length c (bv m) (by rw [hz1, Nat.mul_one, bv_len]) hnews
        have hst := run_storeCells_lo g l.length 5 _ (bv m) 0 cur w hg (Nat.le_refl _) (by rw [bv_len]; omega) h1
        simp only [Nat.add_zero] at hst
        have hg' := setRow_heap w g cur (cur.toList.take l.length ++ bv m ++ cur.toList.drop (l.length + (bv m).length)).toArray _ _ hg
        refine ⟨g, cap, w.setRow g (cur.toList.take l.length ++ bv m ++ cur.toList.drop (l.length + (bv m).length)).toArray, ?_, bs_nw (e := (_, _)) hg' ?_, by omega, hgB, blw_own (Below.refl _ _) hgB _⟩
        · rw [hz1] at hf
          simp [Builtin.append_, run_underlying Tryz.underlying22, sizeOf, typeInfo, hi, hz1, Builtin.lenOf, hroom, hf, Addr.add_lit, hst, List.length_append]
        · show List.take (l ++ m).length (cur.toList.take l.length ++ bv m ++ cur.toList.drop (l.length + (bv m).length)) = bv (l ++ m)
          rw [ht, bv_app, ← bv_len (l ++ m), bv_app]
          exact List.take_left
      · have holds : ∀ j u, (bv l)[j]? = some u → w.cell? ((⟨g, 0, none⟩ : Addr).add j) = some u := by
          intro j u hj
          rw [Addr.add_lit, Nat.zero_add]
          simp only [World.cell?, hg]
          have hjl := (List.getElem?_eq_some_iff.1 hj).1
          rw [bv_len] at hjl
          have e := congrArg (·[j]?) ht
          simp only [List.getElem?_take] at e
          rw [if_pos hjl] at e
          rw [← Array.getElem?_toList, e, hj]
          rfl
        have hr := run_append_grow (P := Tryz.prog) w 22 o.type 5 i0 (.int .u8 0) Tryz.underlying22 hi hz0 ⟨g, 0, none⟩ l.length cap (bv l) (by rw [hz1, Nat.mul_one, bv_len]) holds ad m.length c (bv m) (by rw [hz1, Nat.mul_one, bv_len]) hnews (by omega) (by omega)
          (growslice_fits (by omega) (by rw [hz2]; omega))
        have hge := grownCap_ge w (l.length + m.length) cap 5
        have hnw : (w.drew.alloc (.cells ((bv l).toArray ++ (bv m).toArray ++ Builtin.zeroCells (Value.int IntKind.u8 0).cells (grownCap w (l.length + m.length) cap 5 - (l.length + m.length))) 5)).heap[w.heap.size]? = some (.cells ((bv l).toArray ++ (bv m).toArray ++ Builtin.zeroCells (Value.int IntKind.u8 0).cells (grownCap w (l.length + m.length) cap 5 - (l.length + m.length))) 5 (0, 0)) := heap_alloc_new w.drew _
        refine ⟨w.heap.size, grownCap w (l.length + m.length) cap 5, w.drew.alloc (.cells ((bv l).toArray ++ (bv m).toArray ++ Builtin.zeroCells (Value.int IntKind.u8 0).cells (grownCap w (l.length + m.length) cap 5 - (l.length + m.length))) 5), ?_, bs_nw (e := (_, _)) hnw ?_, by omega, by omega, ((Below.refl _ _).drew).alloc (by show B ≤ w.heap.size; omega) _⟩
        · rw [hr, hll]
        · rw [bv_app, ← bv_len (l ++ m), bv_app]
          simp only [Array.toList_append, List.append_assoc]
          rw [← List.append_assoc]
          exact List.take_left
  unfold Oper.wp execOp
  simp only [ho, resolve, invoke, builtin, Sem.run_bind, Sem.run_pure, Result.andThen_ok, List.map_toArray, List.map_cons, List.map_nil, hs, hx, hr]
  exact hK _ _ (h b c w' h2 h3 h4 h5)
theorem st_apE (a b : List UInt8) : st a ++ st b = st (a ++ b) := by
  apply ByteArray.ext
  apply Array.ext'
  rw [ByteArray.data_append]
  simp [st]
theorem st_catE {a b : List UInt8} (h : a.length + b.length ≤ 9000000000000000000) (w : World) : (binOp .add 9 (.string (st a)) (.string (st b))).run Tryz.prog w = .ok (.string (st (a ++ b))) w := by
  have hno : (((st a).size : Nat) : Int) + (((st b).size : Nat) : Int) ≤ 9223372036854775807 := by rw [st_size, st_size]; omega
  simp [binOp, go_sem, Op.stringOp, hno, st_apE]
theorem egadE {x u : Operand} (a b : ByteArray) (w : World) : (eqGuard .add 9 x u (.string a) (.string b)).run Tryz.prog w = .ok () w := by simp [eqGuard, go_sem]
theorem wpList_catE {w : World} {ops : Array Oper} {rest : List Oper} {oo : Oper} {a : Act} {Q : Exit → Act → World → Prop} (hgd : oo.guard = none) (x y : Operand) (l m : List UInt8) (ho : oo.op = .binOp .add 9 x y 9) (hx : a.eval x = .string (st l)) (hy : a.eval y = .string (st m))
    (hs : l.length + m.length ≤ 9000000000000000000) (h : wpList Tryz.prog ops Q rest (a.put oo.dst (.string (st (l ++ m)))) w) : wpList Tryz.prog ops Q (oo :: rest) a w := by
  refine wpList_plain hgd fun K hK => ?_
  unfold Oper.wp execOp
  simp only [ho, hx, hy, Sem.run_bind, egadE, st_catE hs, Result.andThen_ok, Sem.run_pure]
  exact hK _ _ h
theorem dd_len : ∀ (n u : Nat), u ≤ n → (Lib.decDigits u).length ≤ u + 1
  | n, u, hn => by
    by_cases hu : u < 10
    · rw [dec_small hu]; simp
    · rw [dec_big hu]
      cases n with
      | zero => omega
      | succ n =>
        have := dd_len n (u / 10) (by omega)
        simp; omega
theorem itoa_nat (n : Nat) : Lib.itoa (n : Int) = Lib.decDigits n := by
  unfold Lib.itoa
  rw [if_neg (by omega)]
  congr 1
theorem stopAtE {p : Prop} (h : Hid p) : p := h.out
set_option maxHeartbeats 4000000 in
set_option maxRecDepth 100000 in
theorem auth_e {w : World} {k p : List UInt8} {v : Value} (hp : BsA w v p) (hk : k.length ≤ 10000000) (hpl : p.length ≤ 10000000) (hT : Ev w) (h8 : 8 ≤ w.heap.size) :
    Calls Tryz.prog 10 #[.string (st k), v] w fun e w' => ∃ b c, e = .returned (.slice (some ⟨b, 0, none⟩) (auT k p).length c) ∧ BsA w' (.slice (some ⟨b, 0, none⟩) (auT k p).length c) (auT k p) ∧ (auT k p).length ≤ c ∧ w.heap.size ≤ b ∧ Below w.heap.size w w' := by
  obtain ⟨va, vc, rfl, hbb⟩ := hp
  have hp : BsA w (.slice va p.length vc) p := ⟨va, vc, rfl, hbb⟩
  clear hbb
  have hks := st_size k
  have i1 := itoa_nat k.length
  have i2 := itoa_nat p.length
  have d1 := dd_len _ k.length (Nat.le_refl _)
  have d2 := dd_len _ p.length (Nat.le_refl _)
  have hi1 := strconv_Itoa (((st k).size : Nat) : Int) (by omega) (by omega) w hT.pw
  have hi2 : ∀ w', Below w.heap.size w w' → _ := fun w' hb => strconv_Itoa ((p.length : Nat) : Int) (by omega) (by omega) w' (hT.below hb (by omega)).pw
  rw [hks, i1] at hi1
  obtain ⟨D1, hD1⟩ : ∃ D, D = Lib.decDigits k.length := ⟨_, rfl⟩
  obtain ⟨D2, hD2⟩ : ∃ D, D = Lib.decDigits p.length := ⟨_, rfl⟩
  rw [i2] at hi2
  rw [← hD1] at hi1 d1
  rw [← hD2] at hi2 d2
  obtain ⟨L1, e1⟩ : ∃ L, L = [68, 83, 83, 69, 118, 49, 32] ++ D1 := ⟨_, rfl⟩
  obtain ⟨L2, e2⟩ : ∃ L, L = L1 ++ [32] := ⟨_, rfl⟩
  obtain ⟨L3, e3⟩ : ∃ L, L = L2 ++ k := ⟨_, rfl⟩
  obtain ⟨L4, e4⟩ : ∃ L, L = L3 ++ [32] := ⟨_, rfl⟩
  obtain ⟨L5, e5⟩ : ∃ L, L = L4 ++ D2 := ⟨_, rfl⟩
  obtain ⟨L6, e6⟩ : ∃ L, L = L5 ++ [32] := ⟨_, rfl⟩
  have n1 : L1.length ≤ 20000000 := by rw [e1]; simp; omega
  have n2 : L2.length ≤ 30000000 := by rw [e2]; simp; omega
  have n3 : L3.length ≤ 40000000 := by rw [e3]; simp; omega
  have n4 : L4.length ≤ 50000000 := by rw [e4]; simp; omega
  have n5 : L5.length ≤ 70000000 := by rw [e5]; simp; omega
  have n6 : L6.length ≤ 80000000 := by rw [e6]; simp; omega
  have f1 : 7 + D1.length ≤ 9000000000000000000 := by omega
  have f2 : L1.length + 1 ≤ 9000000000000000000 := by omega
  have f3 : L2.length + k.length ≤ 9000000000000000000 := by omega
  have f4 : L3.length + 1 ≤ 9000000000000000000 := by omega
  have f5 : L4.length + D2.length ≤ 9000000000000000000 := by omega
  have f6 : L5.length + 1 ≤ 9000000000000000000 := by omega
  have hau : Hid (auT k p = L6 ++ p) := hide1 (by unfold auT auH; rw [e6, e5, e4, e3, e2, e1, hD1, hD2])
  have hlen : L6.length + p.length ≤ 1000000000000 := by omega
  replace hp := hide1 hp
  replace hlen := hide1 hlen
  replace e1 := hide1 e1
  replace e2 := hide1 e2
  replace e3 := hide1 e3
  replace e4 := hide1 e4
  replace e5 := hide1 e5
  replace e6 := hide1 e6
  clear hD1 hD2 n1 n2 n3 n4 n5 n6 d1 d2 i1 i2 hk hT
  rw [hau.out]
  rw [← hks] at hi1
  replace hks := hide1 hks
  go_enter Tryz.func10, Tryz.ntmps10
  go_wp2_with fail
  refine hi1.mono ?_
  rintro e w1 ⟨rfl, nk, os, hw1⟩
  have b1 := below_grow ⟨nk, os, hw1⟩
  have hi3 := hi2 w1 b1
  clear hw1 hi1 hi2
  replace b1 := hide1 b1
  go_wp2_with (first
    | (refine wpList_catE rfl (.const (.string ⟨#[68, 83, 83, 69, 118, 49, 32]⟩)) (.tmp 8) [68, 83, 83, 69, 118, 49, 32] D1 rfl rfl rfl f1 ?_; rw [← e1.out])
    | (refine wpList_catE rfl (.tmp 9) (.const (.string ⟨#[32]⟩)) L1 [32] rfl rfl rfl f2 ?_; rw [← e2.out])
    | (refine wpList_catE rfl (.tmp 10) (.tmp 11) L2 k rfl rfl rfl f3 ?_; rw [← e3.out])
    | (refine wpList_catE rfl (.tmp 12) (.const (.string ⟨#[32]⟩)) L3 [32] rfl rfl rfl f4 ?_; rw [← e4.out])
    | fail)
  refine hi3.mono ?_
  rintro e w2 ⟨rfl, nk, os, hw2⟩
  have b2 := hide1 (b1.out.trans ((below_grow ⟨nk, os, hw2⟩).mono b1.out.size))
  clear hw2 hi3 b1
  obtain ⟨w3, cap, hcv, hcr, hb3⟩ := cvb_r w2 L6
  have b3 := hide1 (b2.out.trans (hb3.mono b2.out.size))
  have hp3 := hide1 (hp.out.below b3.out)
  have hgB := hide1 b2.out.size
  replace hcr := hide1 hcr
  clear hb3 b2 hp
  go_wp2_with (first
    | (refine wpList_catE rfl (.tmp 13) (.tmp 16) L4 D2 rfl rfl rfl f5 ?_; rw [← e5.out])
    | (refine wpList_catE rfl (.tmp 17) (.const (.string ⟨#[32]⟩)) L5 [32] rfl rfl rfl f6 ?_; rw [← e6.out])
    | at_builtin; refine wpList_apcv rfl (.tmp 20) (.tmp 21) rfl hgB.out (l := L6) (m := p) rfl hcr.out rfl hp3.out hlen.out ?_; intro b c w4 hb4 hc4 hB4 hw4; refine stopAtE ?_)
  have b4 := b3.out.trans hw4
  replace hb4 := hide1 hb4
  replace b4 := hide1 b4
  clear hcv hcr hp3 b3 hw4 f1 f2 f3 f4 f5 f6 e1 e2 e3 e4 e5 e6
  refine hide1 ?_
  go_wp2
  go_ret
  exact ⟨b, c, by rw [List.length_append]; rfl, hb4.out, hc4, hB4, b4.out⟩
end Go.Proofs.YtdhmonlhlfkjbaaGreatDoor

namespace Go.Proofs.YtdhmonlhlfkjbaaGreatDoor

end Go.Proofs.YtdhmonlhlfkjbaaGreatDoor

namespace Go.Proofs.YtdhmonlhlfkjbaaGreatDoor
open Go.RowKit

def Bs (w : World) (a : Option Addr) (len : Nat) (zs : List Int) : Prop :=
  zs.length = len ∧ (∀ z ∈ zs, 0 ≤ z ∧ z < 256) ∧ (0 < len → ∃ b off, a = some ⟨b, off, none⟩ ∧ ∀ i, i < len → w.cell? ⟨b, off + i, none⟩ = some (.int .u8 (zs.getD i 0)))

theorem take_snoc (l : List Int) (k : Nat) (h : k < l.length) : l.take (k + 1) = l.take k ++ [l.getD k 0] := by
  rw [List.take_succ_eq_append_getElem h]; simp [h]

theorem getD_mem {l : List Int} {k : Nat} (h : k < l.length) : l.getD k 0 ∈ l := by
  simp [List.getD_eq_getElem?_getD, h]

theorem Bs.later {w w' : World} {a : Option Addr} {len : Nat} {zs : List Int} (h : Bs w a len zs) (hb : Below w.heap.size w w') : Bs w' a len zs := by
  obtain ⟨h1, h2, h3⟩ := h
  refine ⟨h1, h2, fun hp => ?_⟩
  obtain ⟨b, off, e, hc⟩ := h3 hp
  exact ⟨b, off, e, fun i hi => cell_later hb (hc i hi)⟩

def Parts (w : World) (a : Option Addr) (n : Nat) (ps : List (List Int)) : Prop :=
  ps.length = n ∧ (0 < n → ∃ b off, a = some ⟨b, off, none⟩ ∧ ∀ i, i < n → ∃ a' len cap, w.cell? ⟨b, off + i, none⟩ = some (.slice a' len cap) ∧ len ≤ maxLen ∧ Bs w a' len (ps.getD i []))

theorem Parts.later {w w' : World} {a : Option Addr} {n : Nat} {ps : List (List Int)} (h : Parts w a n ps) (hb : Below w.heap.size w w') : Parts w' a n ps := by
  obtain ⟨h1, h2⟩ := h
  refine ⟨h1, fun hp => ?_⟩
  obtain ⟨b, off, e, hc⟩ := h2 hp
  refine ⟨b, off, e, fun i hi => ?_⟩
  obtain ⟨a', len, cap, hc1, hm, hbs⟩ := hc i hi
  exact ⟨a', len, cap, cell_later hb hc1, hm, hbs.later hb⟩

theorem bs_new (w : World) (zs : List Int) (fr : Nat × Nat) (hz : ∀ z ∈ zs, 0 ≤ z ∧ z < 256) : Bs (w.alloc (.cells (zs.map (Value.int .u8)).toArray 5 fr)) (some ⟨w.heap.size, 0, none⟩) zs.length zs := by
  refine ⟨rfl, hz, fun _ => ⟨_, _, rfl, fun i hi => ?_⟩⟩
  rw [World.cell?_alloc_mark]
  simp [hi]

theorem conv_bs {w : World} {a : Option Addr} {len : Nat} {zs : List Int} (h : Bs w a len zs) (cap : Nat) :
    (convert 22 9 (.slice a len cap)).run Tryz.prog w = .ok (.string (strOfNums zs)) w := by
  obtain ⟨h1, h2, h3⟩ := h
  rcases Nat.eq_zero_or_pos len with rfl | hp
  · obtain rfl : zs = [] := List.length_eq_zero_iff.1 h1
    cases a with
    | none => exact run_convert_bytes_nil w 22 5 Tryz.underlying22 Tryz.underlying5 0 cap 9 Tryz.underlying9
    | some x =>
      rw [run_convert_bytes_string w 22 9 5 _ 0 cap Tryz.underlying22 Tryz.underlying5 Tryz.underlying9, run_bytesToString w x 0 cap [] (run_loadCells_list (P := Tryz.prog) w x [] (fun j v hj => by simp at hj))]
      rfl
  · obtain ⟨b, off, rfl, hc⟩ := h3 hp
    exact run_convert_bytes_arg w 22 5 Tryz.underlying22 Tryz.underlying5 b off len cap zs h1 hc 9 Tryz.underlying9

theorem strOfNums_inj {x y : List Int} (hx : ∀ z ∈ x, 0 ≤ z ∧ z < 256) (hy : ∀ z ∈ y, 0 ≤ z ∧ z < 256) (h : (strOfNums x).toList = (strOfNums y).toList) : x = y := by
  have h1 : x.map (fun n => UInt8.ofNat n.toNat) = y.map (fun n => UInt8.ofNat n.toNat) := by
    rw [← strOfNums_data, ← strOfNums_data, ← ByteArray.toList_eq, ← ByteArray.toList_eq, h]
  have h2 : ∀ l : List Int, (∀ z ∈ l, 0 ≤ z ∧ z < 256) → (l.map (fun n => UInt8.ofNat n.toNat)).map (fun u => ((u.toNat : Nat) : Int)) = l := by
    intro l hl
    rw [List.map_map]
    conv => rhs; rw [← List.map_id l]
    apply List.map_congr_left
    intro z hz
    have := hl z hz
    simp
    omega
  rw [← h2 x hx, ← h2 y hy, h1]

theorem str_beq {x y : List Int} (hx : ∀ z ∈ x, 0 ≤ z ∧ z < 256) (hy : ∀ z ∈ y, 0 ≤ z ∧ z < 256) : ((strOfNums x).toList == (strOfNums y).toList) = decide (x = y) := by
  by_cases h : x = y
  · subst h; simp
  · rw [decide_eq_false h]
    exact beq_eq_false_iff_ne.2 (fun e => h (strOfNums_inj hx hy e))

theorem info5 : (Tryz.prog.info? 5).map (fun i => (i.zero, i.size, i.bytes)) = some (some (.int .u8 0), 1, 1) := by kernel_rfl

def byteVals (zs : List Int) : List Value := zs.map (Value.int .u8)

theorem bs_owned {w : World} {base : Nat} {v : Value} {n : Nat} {zs : List Int} (h : w.ownsRow base 5 1 v n (byteVals zs)) (hz : ∀ z ∈ zs, 0 ≤ z ∧ z < 256) :
    ∃ a cap, v = .slice a n cap ∧ Bs w a n zs ∧ n ≤ cap ∧ n ≤ maxLen := by
  have hl : zs.length = n := by have := h.1; simpa [byteVals] using this
  rcases h.2 with ⟨rfl, rfl⟩ | ⟨g, cap, cur, rfl, hb, hg, hnc, hcm, hcs, ht⟩
  · exact ⟨none, 0, rfl, ⟨hl, hz, fun h => absurd h (by omega)⟩, Nat.le_refl _, Nat.zero_le _⟩
  · refine ⟨_, cap, rfl, ⟨hl, hz, fun _ => ⟨g, 0, rfl, fun i hi => ?_⟩⟩, hnc, by omega⟩
    have := h.cellAt i (by omega)
    rw [Nat.zero_add, this]
    simp [byteVals, show i < zs.length by omega]

theorem run_append_bs (w : World) (base ty : Nat) (v : Value) (n : Nat) (xs : List Value) (hown : w.ownsRow base 5 1 v n xs) (a : Option Addr) (m c : Nat) (zs : List Int) (hb : Bs w a m zs)
    (hbytes : n + m ≤ 140737488355328) (hbase : base ≤ w.heap.size) :
    ∃ v' w', (Builtin.append_ #[22, 22] ty #[v, .slice a m c]).run Tryz.prog w = .ok v' w' ∧ w'.ownsRow base 5 1 v' (n + m) (xs ++ byteVals zs) ∧ w.grownBy w' v.ownBlock := by
  obtain ⟨i0, hi, hz0, hz1, hz2⟩ := info_parts info5
  obtain ⟨h1, h2, h3⟩ := hb
  cases a with
  | none =>
    obtain rfl : m = 0 := by
      rcases Nat.eq_zero_or_pos m with h | h
      · exact h
      · obtain ⟨_, _, e, _⟩ := h3 h; cases e
    obtain rfl : zs = [] := List.length_eq_zero_iff.1 h1
    refine ⟨v, w, ?_, by simpa [byteVals] using hown, ⟨rfl, rfl, rfl, Nat.le_refl _, fun _ _ _ => rfl⟩⟩
    rcases hown.2 with ⟨rfl, rfl⟩ | ⟨g, cap, cur, rfl, _, _, hnc, _⟩
    · simp [Builtin.append_, run_underlying Tryz.underlying22, sizeOf, typeInfo, hi, Builtin.lenOf, Builtin.firstCells]
    · simp [Builtin.append_, run_underlying Tryz.underlying22, sizeOf, typeInfo, hi, Builtin.lenOf, Builtin.firstCells, hnc, storeCells]
  | some ad =>
    have hnews : ∀ j u, (byteVals zs)[j]? = some u → w.cell? (ad.add j) = some u := by
      intro j u hj
      have hjl : j < zs.length := by
        rcases Nat.lt_or_ge j zs.length with h | h
        · exact h
        · rw [List.getElem?_eq_none (by simpa [byteVals] using h)] at hj; cases hj
      obtain ⟨b, off, e, hc⟩ := h3 (by omega)
      cases e
      have := hc j (by omega)
      rw [Addr.add_lit, this]
      simp [byteVals, hjl] at hj
      simp [hjl, hj]
    obtain ⟨v', w', hr, h4, h5, _⟩ := run_append_own (P := Tryz.prog) w base 22 ty 5 i0 (.int .u8 0) 1 1 Tryz.underlying22 hi hz0 hz1 hz2 rfl (by decide) v n xs hown ad m c (byteVals zs) (by simp [byteVals, h1]) hnews
      (by intro u hu; simp [byteVals] at hu; obtain ⟨z, _, rfl⟩ := hu; rfl) (by unfold maxLen; omega) (by omega) hbase
    exact ⟨v', w', hr, h4, h5⟩

theorem wpList_append_bs {w : World} {ops : Array Oper} {rest : List Oper} {o : Oper} {a : Act} {Q : Exit → Act → World → Prop} (hgd : o.guard = none) (s x : Operand)
    (ho : o.op = .call { callee := .builtin .append, args := #[s, x], argTypes := #[22, 22] }) (base : Nat)
    (v : Value) (n : Nat) (xs : List Value) (hs : a.eval s = v) (hown : w.ownsRow base 5 1 v n xs) (ad : Option Addr) (m c : Nat) (zs : List Int) (hx : a.eval x = .slice ad m c) (hb : Bs w ad m zs)
    (hbytes : n + m ≤ 140737488355328) (hbase : base ≤ w.heap.size)
    (h : ∀ v' w', w'.ownsRow base 5 1 v' (n + m) (xs ++ byteVals zs) → w.grownBy w' v.ownBlock → wpList Tryz.prog ops Q rest (a.put o.dst v') w') : wpList Tryz.prog ops Q (o :: rest) a w := by
  refine wpList_plain hgd fun K hK => ?_
  obtain ⟨v', w', hr, h2, h3⟩ := run_append_bs w base o.type v n xs hown ad m c zs hb hbytes hbase
  unfold Oper.wp execOp
  simp only [ho, resolve, invoke, builtin, Sem.run_bind, Sem.run_pure, Result.andThen_ok, List.map_toArray, List.map_cons, List.map_nil, hs, hx, hr]
  exact hK _ _ (h v' w' h2 h3)

theorem below_one (w : World) (o : Obj) : Below w.heap.size w (w.alloc o) := (Below.refl _ _).alloc (Nat.le_refl _) _

theorem bs_one (w : World) (z : Int) (hz : 0 ≤ z ∧ z < 256) : Bs (w.alloc (.cells #[.int .u8 z] 5)) (some ⟨w.heap.size, 0, none⟩) 1 [z] := bs_new w [z] (0, 0) (by simpa using hz)

theorem below_app {B : Nat} {w wr w' : World} {v : Value} {n : Nat} {xs : List Value} {o : Obj} (hb : Below B w wr) (hB : B ≤ w.heap.size) (hown : wr.ownsRow B 5 1 v n xs) (hg : (wr.alloc o).grownBy w' v.ownBlock) : Below B w w' :=
  (hb.alloc (Nat.le_trans hB hb.size) o).grown hg (by have := hb.size; simp; omega) (fun k e => (hown.lt k e).1)

theorem owned_form {w : World} {base : Nat} {v : Value} {n : Nat} {zs : List Int} (h : w.ownsRow base 5 1 v n (byteVals zs)) (hn : 0 < n) :
    ∃ g cap, v = .slice (some ⟨g, 0, none⟩) n cap ∧ base ≤ g ∧ n ≤ cap ∧ cap ≤ maxLen ∧ ∀ j, j < n → w.cell? ⟨g, j, none⟩ = some (.int .u8 (zs.getD j 0)) := by
  have hl : zs.length = n := by have := h.1; simpa [byteVals] using this
  rcases h.2 with ⟨rfl, rfl⟩ | ⟨g, cap, cur, rfl, hb, hg, hnc, hcm, hcs, ht⟩
  · omega
  · refine ⟨g, cap, rfl, hb, hnc, hcm, fun j hj => ?_⟩
    have := h.cellAt j (by omega)
    rw [this]
    simp [byteVals, show j < zs.length by omega]

def Kpt (w : World) (g len cap : Nat) (zs : List Int) : Prop :=
  zs.length = len ∧ (∀ z ∈ zs, 0 ≤ z ∧ z < 256) ∧ len + 2 ≤ cap ∧ cap ≤ maxLen ∧ ∀ j, j < len + 2 → w.cell? ⟨g, j, none⟩ = some (.int .u8 ((zs ++ [165, 90]).getD j 0))

theorem Kpt.later {w w' : World} {g len cap : Nat} {zs : List Int} (h : Kpt w g len cap zs) (hb : Below w.heap.size w w') : Kpt w' g len cap zs :=
  ⟨h.1, h.2.1, h.2.2.1, h.2.2.2.1, fun j hj => cell_later hb (h.2.2.2.2 j hj)⟩

theorem Kpt.bs {w : World} {g len cap : Nat} {zs : List Int} (h : Kpt w g len cap zs) : Bs w (some ⟨g, 0, none⟩) len zs := by
  obtain ⟨h1, h2, _, _, h5⟩ := h
  refine ⟨h1, h2, fun _ => ⟨g, 0, rfl, fun i hi => ?_⟩⟩
  rw [Nat.zero_add, h5 i (by omega)]
  simp [List.getD_eq_getElem?_getD, List.getElem?_append, show i < zs.length by omega]

end Go.Proofs.YtdhmonlhlfkjbaaGreatDoor

namespace Go.Proofs.YtdhmonlhlfkjbaaGreatDoor
open Go.Shelf
def lays160_ren : Go.Shelf.Ren := ⟨fun | 160 => 126 | 232 => 164 | 231 => 144 | 227 => 145 | 234 => 165 | 233 => 146 | 236 => 166 | 235 => 147 | 228 => 183 | 271 => 197 | 151 => 185 | 197 => 184 | 120 => 212 | 152 => 203 | 260 => 202 | 137 => 163 | 119 => 214 | 224 => 215 | 225 => 216 | 217 => 196 | 266 => 211 | n => n, fun | 9 => 9 | 4 => 4 | 3 => 3 | 5 => 5 | 117 => 192 | 116 => 191 | 0 => 0 | 124 => 195 | 21 => 21 | 105 => 219 | 46 => 79 | 119 => 171 | 139 => 174 | 138 => 173 | n => n, fun | 3 => 1 | 4 => 2 | n => n⟩
theorem lays160 : Go.Proofs.Lays.n160 Tryz.prog lays160_ren := {
  mixed := by kernel_rfl
  f119 := Tryz.func214.trans (congrArg some (by kernel_rfl))
  f120 := Tryz.func212.trans (congrArg some (by kernel_rfl))
  f137 := Tryz.func163.trans (congrArg some (by kernel_rfl))
  f151 := Tryz.func185.trans (congrArg some (by kernel_rfl))
  f152 := Tryz.func203.trans (congrArg some (by kernel_rfl))
  f160 := Tryz.func126.trans (congrArg some (by kernel_rfl))
  f197 := Tryz.func184.trans (congrArg some (by kernel_rfl))
  f217 := Tryz.func196.trans (congrArg some (by kernel_rfl))
  f224 := Tryz.func215.trans (congrArg some (by kernel_rfl))
  f225 := Tryz.func216.trans (congrArg some (by kernel_rfl))
  f227 := Tryz.func145.trans (congrArg some (by kernel_rfl))
  f228 := Tryz.func183.trans (congrArg some (by kernel_rfl))
  f231 := Tryz.func144.trans (congrArg some (by kernel_rfl))
  f232 := Tryz.func164.trans (congrArg some (by kernel_rfl))
  f233 := Tryz.func146.trans (congrArg some (by kernel_rfl))
  f234 := Tryz.func165.trans (congrArg some (by kernel_rfl))
  f235 := Tryz.func147.trans (congrArg some (by kernel_rfl))
  f236 := Tryz.func166.trans (congrArg some (by kernel_rfl))
  f260 := Tryz.func202.trans (congrArg some (by kernel_rfl))
  f266 := Tryz.func211.trans (congrArg some (by kernel_rfl))
  f271 := Tryz.func197.trans (congrArg some (by kernel_rfl))
  t0 := Tryz.underlying0
  a0 := Tryz.isAgg0
  z0 := Tryz.sizeOf0
  v0 := Tryz.zeroValue0
  t3 := Tryz.underlying3
  a3 := Tryz.isAgg3
  z3 := Tryz.sizeOf3
  v3 := Tryz.zeroValue3
  t4 := Tryz.underlying4
  a4 := Tryz.isAgg4
  z4 := Tryz.sizeOf4
  v4 := Tryz.zeroValue4
  t5 := Tryz.underlying5
  a5 := Tryz.isAgg5
  z5 := Tryz.sizeOf5
  v5 := Tryz.zeroValue5
  t9 := Tryz.underlying9
  a9 := Tryz.isAgg9
  z9 := Tryz.sizeOf9
  v9 := Tryz.zeroValue9
  t21 := Tryz.underlying21
  a21 := Tryz.isAgg21
  z21 := Tryz.sizeOf21
  v21 := Tryz.zeroValue21
  t46 := Tryz.underlying79
  a46 := Tryz.isAgg79
  z46 := Tryz.sizeOf79
  v46 := Tryz.zeroValue79
  t105 := Tryz.underlying219
  a105 := Tryz.isAgg219
  z105 := Tryz.sizeOf219
  v105 := Tryz.zeroValue219
  t116 := Tryz.underlying191
  a116 := Tryz.isAgg191
  z116 := Tryz.sizeOf191
  t117 := Tryz.underlying192
  a117 := Tryz.isAgg192
  z117 := Tryz.sizeOf192
  v117 := Tryz.zeroValue192
  t119 := Tryz.underlying171
  a119 := Tryz.isAgg171
  z119 := Tryz.sizeOf171
  t124 := Tryz.underlying195
  a124 := Tryz.isAgg195
  z124 := Tryz.sizeOf195
  v124 := Tryz.zeroValue195
  t138 := Tryz.underlying173
  a138 := Tryz.isAgg173
  z138 := Tryz.sizeOf173
  v138 := Tryz.zeroValue173
  t139 := Tryz.underlying174
  a139 := Tryz.isAgg174
  z139 := Tryz.sizeOf174
  v139 := Tryz.zeroValue174
  g3 := by kernel_rfl
  g4 := by kernel_rfl }
def lays137_ren : Go.Shelf.Ren := ⟨fun | 137 => 163 | 217 => 196 | 266 => 211 | n => n, fun | 9 => 9 | 5 => 5 | 3 => 3 | n => n, fun | n => n⟩
theorem lays137 : Go.Proofs.Lays.n137 Tryz.prog lays137_ren := {
  mixed := by kernel_rfl
  f137 := Tryz.func163.trans (congrArg some (by kernel_rfl))
  f217 := Tryz.func196.trans (congrArg some (by kernel_rfl))
  f266 := Tryz.func211.trans (congrArg some (by kernel_rfl))
  t3 := Tryz.underlying3
  a3 := Tryz.isAgg3
  z3 := Tryz.sizeOf3
  v3 := Tryz.zeroValue3
  t5 := Tryz.underlying5
  a5 := Tryz.isAgg5
  z5 := Tryz.sizeOf5
  v5 := Tryz.zeroValue5
  t9 := Tryz.underlying9
  a9 := Tryz.isAgg9
  z9 := Tryz.sizeOf9
  v9 := Tryz.zeroValue9 }
open Go.RowKit in
theorem strings_IndexByte (s : ByteArray) (c : Int) (w : World) :
    Calls Tryz.prog 163 #[.string s, .int .u8 c] w fun e w' => e = .returned (.int .i64 (Lib.indexByte s.data.toList c.toNat.toUInt8)) ∧ w' = w := Any.strings_IndexByte lays137 s c w
open Go.RowKit Go.Lib in
theorem strings_Trim_set (s cutset : ByteArray) (w : World) (hs : s.size ≤ 9223372036854775807) (hcs : cutset.size < 4294967281) (hascii : ∀ (j : Nat) b, cutset.data.toList[j]? = some b → b.toNat < 128) :
    Calls Tryz.prog 126 #[.string s, .string cutset] w fun e w' => e = .returned (.string ⟨(Lib.trimS s.data.toList cutset.data.toList).toArray⟩) ∧ Below w.heap.size w w' := Any.strings_Trim_laid lays160 (by kernel_rfl) s cutset w hs hcs hascii
end Go.Proofs.YtdhmonlhlfkjbaaGreatDoor

namespace Go.Proofs.YtdhmonlhlfkjbaaGreatDoor
open Go.RowKit

def Byt (l : List Int) : Prop := ∀ z ∈ l, 0 ≤ z ∧ z < 256

def hxS (n : Int) : Int := if n < 10 then 48 + n else 87 + n
def sxS (n : Int) : Int := if n < 26 then 65 + n else if n < 52 then 71 + n else if n < 62 then n - 4 else if n = 62 then 43 else 47

def hexC : ByteArray := ⟨#[48, 49, 50, 51, 52, 53, 54, 55, 56, 57, 97, 98, 99, 100, 101, 102]⟩
def sixC : ByteArray := ⟨#[65, 66, 67, 68, 69, 70, 71, 72, 73, 74, 75, 76, 77, 78, 79, 80, 81, 82, 83, 84, 85, 86, 87, 88, 89, 90, 97, 98, 99, 100, 101, 102, 103, 104, 105, 106, 107, 108, 109, 110, 111, 112, 113, 114, 115, 116, 117, 118, 119, 120, 121, 122, 48, 49, 50, 51, 52, 53, 54, 55, 56, 57, 43, 47]⟩

def hexE : List Int → List Int
  | [] => []
  | c :: r => hxS (c / 16) :: hxS (c % 16) :: hexE r

inductive Hv where | z | two (h : Int) | four (h : Int)
def sp6 : Hv → List Int → List Int
  | .z, [] => []
  | .two h, [] => [sxS (h * 16)]
  | .four h, [] => [sxS (h * 4)]
  | .z, c :: r => sxS (c / 4) :: sp6 (.two (c % 4)) r
  | .two h, c :: r => sxS ((h * 256 + c) / 16) :: sp6 (.four (c % 16)) r
  | .four h, c :: r => sxS ((h * 256 + c) / 64) :: sxS (c % 64) :: sp6 .z r

theorem hxS_byte {n : Int} (h : 0 ≤ n) (h1 : n < 16) : 0 ≤ hxS n ∧ hxS n < 256 := by unfold hxS; split <;> omega
theorem sxS_byte {n : Int} (h : 0 ≤ n) (h1 : n < 64) : 0 ≤ sxS n ∧ sxS n < 256 := by unfold sxS; split <;> (try split) <;> (try split) <;> (try split) <;> omega

theorem wrap_small (n : Nat) (h : n < 9223372036854775808) : IntKind.i64.wrap (n : Int) = (n : Int) := by
  have e : (n : Int) % 2 ^ 64 = n := Int.emod_eq_of_lt (by omega) (by omega)
  simp only [IntKind.wrap, IntKind.bits, IntKind.signed, e]
  rw [if_neg]
  simp
  omega
theorem ofInt_nat (i : Nat) (h : i < 18446744073709551616) : (BitVec.ofInt 64 (i : Int)).toNat = i := by
  simp only [BitVec.toNat_ofInt]; omega
theorem or_i (a b k : Nat) (h : b < 2 ^ k) (hs : a * 2 ^ k + b < 9223372036854775808) : bits .or .i64 ((a * 2 ^ k : Nat) : Int) (b : Int) = ((a * 2 ^ k + b : Nat) : Int) := by
  show IntKind.i64.wrap ((BitVec.ofInt 64 ((a * 2 ^ k : Nat) : Int) ||| BitVec.ofInt 64 (b : Int)).toNat : Int) = _
  rw [BitVec.toNat_or, ofInt_nat _ (by omega), ofInt_nat _ (by omega), Nat.mul_comm a, ← Nat.two_pow_add_eq_or_of_lt h, Nat.mul_comm]
  exact wrap_small _ hs
theorem and_i (a k : Nat) (ha : a < 9223372036854775808) (hk : 2 ^ k ≤ 9223372036854775808) : bits .and .i64 (a : Int) ((2 ^ k - 1 : Nat) : Int) = ((a % 2 ^ k : Nat) : Int) := by
  show IntKind.i64.wrap ((BitVec.ofInt 64 (a : Int) &&& BitVec.ofInt 64 ((2 ^ k - 1 : Nat) : Int)).toNat : Int) = _
  rw [BitVec.toNat_and, ofInt_nat _ (by omega), ofInt_nat _ (by omega), Nat.and_two_pow_sub_one_eq_mod]
  exact wrap_small _ (Nat.lt_of_le_of_lt (Nat.mod_le _ _) ha)

theorem stopAt {p : Prop} (h : Hid p) : p := h.out
theorem hexC_at (n : Nat) (h : n < hexC.size) : (((hexC[n]'h).toNat : Nat) : Int) = hxS n := by
  have : ∀ n : Fin 16, ((hexC[n.1]'n.2).toNat : Int) = hxS n.1 := by decide
  exact this ⟨n, h⟩
theorem sixC_at (n : Nat) (h : n < sixC.size) : (((sixC[n]'h).toNat : Nat) : Int) = sxS n := by
  have : ∀ n : Fin 64, ((sixC[n.1]'n.2).toNat : Int) = sxS n.1 := by decide
  exact this ⟨n, h⟩
theorem hexC_z : hexC.size = 16 := by decide
theorem sixC_z : sixC.size = 64 := by decide
theorem u8b (u : UInt8) : (0 : Int) ≤ ((u.toNat : Nat) : Int) ∧ ((u.toNat : Nat) : Int) < 256 := by have := u.toNat_lt; omega
theorem byteVals_app (a b : List Int) : byteVals a ++ byteVals b = byteVals (a ++ b) := by simp [byteVals]

def slN : Value → Nat
  | .slice _ n _ => n
  | _ => 0
theorem own_slN {w : World} {B u : Nat} {v : Value} {n : Nat} {xs : List Value} (h : w.ownsRow B u 1 v n xs) : slN v = n := by
  rcases h.2 with ⟨rfl, rfl⟩ | ⟨g, cap, cur, rfl, _⟩ <;> rfl

theorem hexE_len : ∀ l, (hexE l).length = 2 * l.length
  | [] => rfl
  | c :: r => by simp [hexE, hexE_len r]; omega
theorem hexE_byt : ∀ l, Byt l → Byt (hexE l)
  | [], _ => by intro z hz; simp [hexE] at hz
  | c :: r, h => by
    intro z hz
    have hc := h c (by simp)
    simp only [hexE, List.mem_cons] at hz
    rcases hz with rfl | rfl | hz
    · exact hxS_byte (by omega) (by omega)
    · exact hxS_byte (by omega) (by omega)
    · exact hexE_byt r (fun z hz => h z (by simp [hz])) z hz
theorem hexE_app : ∀ a b, hexE (a ++ b) = hexE a ++ hexE b
  | [], b => rfl
  | c :: r, b => by simp [hexE, hexE_app r b]
set_option maxHeartbeats 1000000 in
set_option maxRecDepth 100000 in
theorem spread4 (a : Option Addr) (len cap : Nat) (zs : List Int) (w : World) (hb : Bs w a len zs) (hm : len ≤ 1000000) :
    Calls Tryz.prog 24 #[.slice a len cap, .int .i64 4, .string hexC] w fun e w' => ∃ v, e = .returned v ∧ w'.ownsRow w.heap.size 5 1 v (2 * len) (byteVals (hexE zs)) ∧ Below w.heap.size w w' := by
  obtain ⟨hz, hby, hc⟩ := hb
  go_enter Tryz.func24, Tryz.ntmps24
  go_wp2
  go_loopw [7, 8, 9, 14] (fun v h k i wr => ∃ j : Nat, j ≤ len ∧ i = .int .i64 j ∧ h = .int .i64 0 ∧ k = .int .i64 0 ∧ wr.ownsRow w.heap.size 5 1 v (2 * j) (byteVals (hexE (zs.take j))) ∧ Below w.heap.size w wr) (fun _ _ _ i _ => len - (intOf i).toNat)
  case atStart => exact ⟨0, by omega, rfl, rfl, rfl, ⟨rfl, .inl ⟨rfl, rfl⟩⟩, Below.refl _ _⟩
  case round =>
    obtain ⟨j, hj, rfl, rfl, rfl, ho, hw⟩ := hrel
    by_cases hlt : j < len
    · obtain ⟨b', off, rfl, hcell⟩ := hc (by omega)
      have hck := cell_later hw (hcell j hlt)
      have hbk := hby _ (getD_mem (l := zs) (k := j) (by omega))
      have hts := hide1 (take_snoc zs j (by omega))
      generalize hcc : zs.getD j 0 = c at *
      obtain ⟨c, rfl⟩ := Int.eq_ofNat_of_zero_le hbk.1
      have hc256 : c < 256 := by omega
      clear hcc hc hcell hbk
      have Hor := hide1 (or_i 0 c 8 (by omega) (by omega))
      go_wp2_with fail
      have H1 : bits .or .i64 0 (c : Int) = (c : Int) := by have := Hor.out; simpa using this
      rw [H1]
      refine wp_loop_rounds 3 ?_
      rw [rounds_succ]
      have Han := hide1 (and_i c 4 (by omega) (by omega))
      have hZ := hexC_z
      have Hg := hide1 (hexC_at (c / 16) (by rw [hexC_z]; omega))
      go_wp2_with (at_builtin; refine wpList_append_bs rfl (.tmp 31) (.tmp 37) rfl w.heap.size _ _ _ rfl (ho.alloc _) _ 1 1 _ rfl (bs_one _ _ (u8b _)) (by omega) (by have := hw.size; simp; omega) ?_; intro v1 w1 ho1 hg1; have hw1 := below_app hw (Nat.le_refl _) ho hg1; refine stopAt ?_)
      refine hide1 ?_
      rw [Hg.out] at ho1
      clear ho hg1 hck
      go_wp2_with fail
      have H2 : bits .and .i64 (c : Int) 15 = ((c % 16 : Nat) : Int) := Han.out
      rw [H2, rounds_succ]
      have hd16 : c % 16 < 16 := Nat.mod_lt _ (by decide)
      have Hdc : Hid (((c % 16 : Nat) : Int) = (c : Int) % 16) := hide1 (by omega)
      have H3 : bits .and .i64 ((c % 16 : Nat) : Int) 0 = 0 := by have := and_i (c % 16) 0 (by omega) (by omega); rw [Nat.pow_zero, Nat.mod_one] at this; exact this
      clear H2 Han
      generalize c % 16 = d at *
      have Hg2 := hide1 (hexC_at d (by rw [hexC_z]; omega))

      go_wp2_with (at_builtin; refine wpList_append_bs rfl (.tmp 31) (.tmp 37) rfl w.heap.size _ _ _ rfl (ho1.alloc _) _ 1 1 _ rfl (bs_one _ _ (u8b _)) (by omega) (by have := hw1.size; simp; omega) ?_; intro v2 w2 ho2 hg2; have hw2 := below_app hw1 (Nat.le_refl _) ho1 hg2; refine stopAt ?_)
      refine hide1 ?_
      rw [Hg2.out] at ho2
      clear ho1 hg2 hw1
      go_wp2_with fail
      rw [rounds_succ]
      go_wp2_with fail
      go_roundw
      case rel =>
        refine ⟨j + 1, by omega, by go_num, rfl, rfl, ?_, hw2⟩
        rw [hts.out, hexE_app]
        rw [byteVals_app, byteVals_app, List.append_assoc] at ho2
        simp only [hexE]
        rw [← Hdc.out]
        exact ho2
      case measure => simp [intOf]; omega
    · go_wp2
      go_ret
      refine ⟨_, rfl, ?_, hw⟩
      obtain rfl : j = len := by omega
      rwa [List.take_of_length_le (by omega)] at ho
def HvI : Hv → Value → Value → Prop
  | .z, h, k => h = .int .i64 0 ∧ k = .int .i64 0
  | .two x, h, k => ∃ y : Nat, x = y ∧ y < 4 ∧ h = .int .i64 y ∧ k = .int .i64 2
  | .four x, h, k => ∃ y : Nat, x = y ∧ y < 16 ∧ h = .int .i64 y ∧ k = .int .i64 4
theorem drop_cons (l : List Int) (k : Nat) (h : k < l.length) : l.drop k = l.getD k 0 :: l.drop (k + 1) := by
  rw [List.drop_eq_getElem_cons h]; simp [List.getD_eq_getElem?_getD, h]

set_option maxHeartbeats 4000000 in
set_option maxRecDepth 100000 in
theorem spread6 (a : Option Addr) (len cap : Nat) (zs : List Int) (w : World) (hb : Bs w a len zs) (hm : len ≤ 1000000) :
    Calls Tryz.prog 24 #[.slice a len cap, .int .i64 6, .string sixC] w fun e w' => ∃ v, e = .returned v ∧ w'.ownsRow w.heap.size 5 1 v (sp6 .z zs).length (byteVals (sp6 .z zs)) ∧ Below w.heap.size w w' := by
  obtain ⟨hz, hby, hc⟩ := hb
  have hZ := sixC_z
  go_enter Tryz.func24, Tryz.ntmps24
  go_wp2
  go_loopw [7, 8, 9, 14] (fun v h k i wr => ∃ j : Nat, j ≤ len ∧ i = .int .i64 j ∧ ∃ st out n, HvI st h k ∧ sp6 .z zs = out ++ sp6 st (zs.drop j) ∧ n = out.length ∧ n ≤ 2 * j ∧ wr.ownsRow w.heap.size 5 1 v n (byteVals out) ∧ Below w.heap.size w wr) (fun _ _ _ i _ => len - (intOf i).toNat)
  case atStart => exact ⟨0, by omega, rfl, .z, [], 0, ⟨rfl, rfl⟩, by simp, rfl, by omega, ⟨rfl, .inl ⟨rfl, rfl⟩⟩, Below.refl _ _⟩
  case round =>
    obtain ⟨j, hj, rfl, st, out, n, hI, hS, hn, hn2, ho, hw⟩ := hrel
    by_cases hlt : j < len
    · obtain ⟨b', off, rfl, hcell⟩ := hc (by omega)
      have hck := cell_later hw (hcell j hlt)
      have hbk := hby _ (getD_mem (l := zs) (k := j) (by omega))
      rw [drop_cons zs j (by omega)] at hS
      generalize hcc : zs.getD j 0 = c at *
      obtain ⟨c, rfl⟩ := Int.eq_ofNat_of_zero_le hbk.1
      have hc256 : c < 256 := by omega
      clear hcc hc hcell hbk
      have hS := hide1 hS
      have hn := hide1 hn
      rcases st with _ | x | x
      · obtain ⟨rfl, rfl⟩ := hI
        have Hor := hide1 (or_i 0 c 8 (by omega) (by omega))
        go_wp2_with fail
        have H1 : bits .or .i64 0 (c : Int) = (c : Int) := by have := Hor.out; simpa using this
        rw [H1]
        clear H1 Hor
        refine wp_loop_rounds 3 ?_
        rw [rounds_succ]
        have Han : Hid (bits .and .i64 (c : Int) 3 = ((c % 4 : Nat) : Int)) := hide1 (and_i c 2 (by omega) (by omega))
        have Hg1 := hide1 (sixC_at (c / 4) (by rw [sixC_z]; omega))
        go_wp2_with (at_builtin; refine wpList_append_bs rfl (.tmp 31) (.tmp 37) rfl w.heap.size _ _ _ rfl (ho.alloc _) _ 1 1 _ rfl (bs_one _ _ (u8b _)) (by omega) (by have := hw.size; simp; omega) ?_; intro v1 w1 ho1 hg1; have hw1 := below_app hw (Nat.le_refl _) ho hg1; refine stopAt ?_)
        refine hide1 ?_
        rw [Hg1.out, byteVals_app] at ho1
        clear hck ho hg1
        go_wp2_with fail
        rw [Han.out, rounds_succ]
        go_wp2_with fail
        go_roundw
        case rel =>
          refine ⟨j + 1, by omega, by go_num, .two (c % 4), out ++ [sxS ((c / 4 : Nat) : Int)], _, ⟨c % 4, by omega, by omega, rfl, rfl⟩, ?_, by simp [hn.out], ?_, ho1, hw1⟩
          · rw [hS.out]; simp [sp6]
          · omega
        case measure => simp [intOf]; omega
      · obtain ⟨y, rfl, hy, rfl, rfl⟩ := hI
        have Hor := hide1 (or_i y c 8 (by omega) (by omega))
        go_wp2_with fail
        have H1 : bits .or .i64 ((y : Int) * 256) (c : Int) = ((y * 256 + c : Nat) : Int) := by have := Hor.out; simpa using this
        rw [H1]
        clear H1 Hor
        have HX : Hid (((y * 256 + c : Nat) : Int) = (y : Int) * 256 + c ∧ (y * 256 + c) % 16 = c % 16) := hide1 ⟨by omega, by omega⟩
        have hX : y * 256 + c < 1024 := by omega
        generalize y * 256 + c = X at *
        refine wp_loop_rounds 3 ?_
        rw [rounds_succ]
        have Han : Hid (bits .and .i64 (X : Int) 15 = ((X % 16 : Nat) : Int)) := hide1 (and_i X 4 (by omega) (by omega))
        have Hg1 := hide1 (sixC_at (X / 16) (by rw [sixC_z]; omega))
        go_wp2_with (at_builtin; refine wpList_append_bs rfl (.tmp 31) (.tmp 37) rfl w.heap.size _ _ _ rfl (ho.alloc _) _ 1 1 _ rfl (bs_one _ _ (u8b _)) (by omega) (by have := hw.size; simp; omega) ?_; intro v1 w1 ho1 hg1; have hw1 := below_app hw (Nat.le_refl _) ho hg1; refine stopAt ?_)
        refine hide1 ?_
        rw [Hg1.out, byteVals_app] at ho1
        clear hck ho hg1
        go_wp2_with fail
        rw [Han.out, HX.out.2, rounds_succ]
        go_wp2_with fail
        go_roundw
        case rel =>
          refine ⟨j + 1, by omega, by go_num, .four (c % 16), out ++ [sxS ((X / 16 : Nat) : Int)], _, ⟨c % 16, by omega, by omega, rfl, rfl⟩, ?_, by simp [hn.out], ?_, ho1, hw1⟩
          · rw [hS.out]; simp [sp6]; rw [← HX.out.1]
          · omega
        case measure => simp [intOf]; omega
      · obtain ⟨y, rfl, hy, rfl, rfl⟩ := hI
        have Hor := hide1 (or_i y c 8 (by omega) (by omega))
        go_wp2_with fail
        have H1 : bits .or .i64 ((y : Int) * 256) (c : Int) = ((y * 256 + c : Nat) : Int) := by have := Hor.out; simpa using this
        rw [H1]
        clear H1 Hor
        have HX : Hid (((y * 256 + c : Nat) : Int) = (y : Int) * 256 + c ∧ (y * 256 + c) % 64 = c % 64) := hide1 ⟨by omega, by omega⟩
        have hX : y * 256 + c < 4096 := by omega
        generalize y * 256 + c = X at *
        refine wp_loop_rounds 3 ?_
        rw [rounds_succ]
        have Han : Hid (bits .and .i64 (X : Int) 63 = ((X % 64 : Nat) : Int)) := hide1 (and_i X 6 (by omega) (by omega))
        have Hg1 := hide1 (sixC_at (X / 64) (by rw [sixC_z]; omega))
        go_wp2_with (at_builtin; refine wpList_append_bs rfl (.tmp 31) (.tmp 37) rfl w.heap.size _ _ _ rfl (ho.alloc _) _ 1 1 _ rfl (bs_one _ _ (u8b _)) (by omega) (by have := hw.size; simp; omega) ?_; intro v1 w1 ho1 hg1; have hw1 := below_app hw (Nat.le_refl _) ho hg1; refine stopAt ?_)
        refine hide1 ?_
        rw [Hg1.out, byteVals_app] at ho1
        clear hck ho hg1
        go_wp2_with fail
        rw [Han.out, HX.out.2, rounds_succ]
        have hd : c % 64 < 64 := Nat.mod_lt _ (by decide)
        have Hdc : Hid (((c % 64 : Nat) : Int) = (c : Int) % 64) := hide1 (by omega)
        clear Han
        have HX1 := hide1 HX.out.1
        clear HX
        generalize c % 64 = d at *
        have H3 : bits .and .i64 (d : Int) 0 = 0 := by have := and_i d 0 (by omega) (by omega); rw [Nat.pow_zero, Nat.mod_one] at this; exact this
        have Hg2 := hide1 (sixC_at d (by rw [sixC_z]; omega))
        go_wp2_with (at_builtin; refine wpList_append_bs rfl (.tmp 31) (.tmp 37) rfl w.heap.size _ _ _ rfl (ho1.alloc _) _ 1 1 _ rfl (bs_one _ _ (u8b _)) (by omega) (by have := hw1.size; simp; omega) ?_; intro v2 w2 ho2 hg2; have hw2 := below_app hw1 (Nat.le_refl _) ho1 hg2; refine stopAt ?_)
        refine hide1 ?_
        rw [Hg2.out, byteVals_app] at ho2
        clear hw ho1 hg2
        go_wp2_with fail
        rw [rounds_succ]
        go_wp2_with fail
        go_roundw
        case rel =>
          refine ⟨j + 1, by omega, by go_num, .z, out ++ [sxS ((X / 64 : Nat) : Int)] ++ [sxS (d : Int)], _, ⟨rfl, rfl⟩, ?_, by simp [hn.out], ?_, ho2, hw2⟩
          · rw [hS.out]; simp [sp6]; rw [← HX1.out, ← Hdc.out]; simp
          · omega
        case measure => simp [intOf]; omega
    · obtain rfl : j = len := by omega
      rw [List.drop_of_length_le (by omega)] at hS
      have hS := hide1 hS
      have hn := hide1 hn
      rcases st with _ | x | x
      · obtain ⟨rfl, rfl⟩ := hI
        go_wp2
        go_ret
        refine ⟨_, rfl, ?_, hw⟩
        rw [hS.out]; simp only [sp6, List.append_nil]; rw [← hn.out]; exact ho
      · obtain ⟨y, rfl, hy, rfl, rfl⟩ := hI
        have Hg1 := hide1 (sixC_at (y * 16) (by rw [sixC_z]; omega))
        go_wp2_with (at_builtin; refine wpList_append_bs rfl (.tmp 47) (.tmp 55) rfl w.heap.size _ _ _ rfl (ho.alloc _) _ 1 1 _ rfl (bs_one _ _ (u8b _)) (by omega) (by have := hw.size; simp; omega) ?_; intro v1 w1 ho1 hg1; have hw1 := below_app hw (Nat.le_refl _) ho hg1; refine stopAt ?_)
        refine hide1 ?_
        rw [Hg1.out, byteVals_app] at ho1
        clear hc ho hg1
        go_wp2_with fail
        go_ret
        refine ⟨_, rfl, ?_, hw1⟩
        rw [hS.out]; simp only [sp6, List.length_append, List.length_cons, List.length_nil]; rw [← hn.out]; simpa using ho1
      · obtain ⟨y, rfl, hy, rfl, rfl⟩ := hI
        have Hg1 := hide1 (sixC_at (y * 4) (by rw [sixC_z]; omega))
        go_wp2_with (at_builtin; refine wpList_append_bs rfl (.tmp 47) (.tmp 55) rfl w.heap.size _ _ _ rfl (ho.alloc _) _ 1 1 _ rfl (bs_one _ _ (u8b _)) (by omega) (by have := hw.size; simp; omega) ?_; intro v1 w1 ho1 hg1; have hw1 := below_app hw (Nat.le_refl _) ho hg1; refine stopAt ?_)
        refine hide1 ?_
        rw [Hg1.out, byteVals_app] at ho1
        clear hc ho hg1
        go_wp2_with fail
        go_ret
        refine ⟨_, rfl, ?_, hw1⟩
        rw [hS.out]; simp only [sp6, List.length_append, List.length_cons, List.length_nil]; rw [← hn.out]; simpa using ho1
theorem wpList_fill {w : World} {ops : Array Oper} {rest : List Oper} {o : Oper} {a : Act} {Q : Exit → Act → World → Prop} (hgd : o.guard = none) (s : Operand)
    (ho : o.op = .call { callee := .builtin .append, args := #[s, .const (.string ⟨#[61]⟩)], argTypes := #[22, 9] }) (base : Nat)
    (v : Value) (n : Nat) (xs : List Value) (hs : a.eval s = v) (hown : w.ownsRow base 5 1 v n xs)
    (hbytes : n + 1 ≤ 140737488355328) (hbase : base ≤ w.heap.size)
    (h : ∀ v' w', w'.ownsRow base 5 1 v' (n + 1) (xs ++ byteVals [61]) → w.grownBy w' v.ownBlock → wpList Tryz.prog ops Q rest (a.put o.dst v') w') : wpList Tryz.prog ops Q (o :: rest) a w := by
  refine wpList_plain hgd fun K hK => ?_
  obtain ⟨i0, hi, hz0, hz1, hz2⟩ := info_parts info5
  obtain ⟨v', w', hr, h2, h3, _⟩ := Go.Lib.run_append_own_string (P := Tryz.prog) w base 22 9 o.type 5 i0 Tryz.underlying22 Tryz.underlying9 hi hz0 hz1 hz2 v n xs hown ⟨#[61]⟩ (by unfold maxLen; show n + 1 ≤ _; omega) hbytes hbase
  unfold Oper.wp execOp
  have hc : a.eval (.const (.string ⟨#[61]⟩)) = .string ⟨#[61]⟩ := rfl
  simp only [ho, resolve, invoke, builtin, Sem.run_bind, Sem.run_pure, Result.andThen_ok, List.map_toArray, List.map_cons, List.map_nil, hs, hc, hr]
  exact hK _ _ (h v' w' h2 h3)

theorem sp6_byt : ∀ (l : List Int) (st : Hv), Byt l → (match st with | .z => True | .two h => 0 ≤ h ∧ h < 4 | .four h => 0 ≤ h ∧ h < 16) → Byt (sp6 st l)
  | [], .z, _, _ => by intro z hz; simp [sp6] at hz
  | [], .two h, _, hh => by intro z hz; simp only [sp6, List.mem_singleton] at hz; subst hz; exact sxS_byte (by have := hh.1; omega) (by have := hh.2; omega)
  | [], .four h, _, hh => by intro z hz; simp only [sp6, List.mem_singleton] at hz; subst hz; exact sxS_byte (by have := hh.1; omega) (by have := hh.2; omega)
  | c :: r, .z, h, _ => by
    have hc := h c (by simp)
    intro z hz
    simp only [sp6, List.mem_cons] at hz
    rcases hz with rfl | hz
    · exact sxS_byte (by omega) (by omega)
    · exact sp6_byt r (.two (c % 4)) (fun z hz => h z (by simp [hz])) ⟨by omega, by omega⟩ z hz
  | c :: r, .two x, h, hh => by
    have hc := h c (by simp)
    have hh : 0 ≤ x ∧ x < 4 := hh
    intro z hz
    simp only [sp6, List.mem_cons] at hz
    rcases hz with rfl | hz
    · exact sxS_byte (by omega) (by omega)
    · exact sp6_byt r (.four (c % 16)) (fun z hz => h z (by simp [hz])) ⟨by omega, by omega⟩ z hz
  | c :: r, .four x, h, hh => by
    have hc := h c (by simp)
    have hh : 0 ≤ x ∧ x < 16 := hh
    intro z hz
    simp only [sp6, List.mem_cons] at hz
    rcases hz with rfl | rfl | hz
    · exact sxS_byte (by omega) (by omega)
    · exact sxS_byte (by omega) (by omega)
    · exact sp6_byt r .z (fun z hz => h z (by simp [hz])) trivial z hz
theorem sp6_len : ∀ (l : List Int) (st : Hv), (sp6 st l).length ≤ 2 * l.length + 1
  | [], .z => by simp [sp6]
  | [], .two h => by simp [sp6]
  | [], .four h => by simp [sp6]
  | c :: r, .z => by have := sp6_len r (.two (c % 4)); simp [sp6]; omega
  | c :: r, .two x => by have := sp6_len r (.four (c % 16)); simp [sp6]; omega
  | c :: r, .four x => by have := sp6_len r .z; simp [sp6]; omega

def fil : Nat → List Int
  | 1 => [61, 61, 61]
  | 2 => [61, 61]
  | 3 => [61]
  | _ => []
def b64E (l : List Int) : List Int := sp6 .z l ++ fil ((sp6 .z l).length % 4)
theorem fil_byt (n : Nat) : Byt (fil n) := by
  intro z hz
  unfold fil at hz
  split at hz <;> simp at hz <;> omega
theorem b64E_byt (l : List Int) (h : Byt l) : Byt (b64E l) := by
  intro z hz
  rcases List.mem_append.1 hz with h1 | h1
  · exact sp6_byt l .z h trivial z h1
  · exact fil_byt _ z h1
theorem fil_step {k : Nat} (h : k % 4 ≠ 0) : [61] ++ fil ((k + 1) % 4) = fil (k % 4) := by
  rcases (show k % 4 = 1 ∨ k % 4 = 2 ∨ k % 4 = 3 by omega) with e | e | e
  · rw [e, show (k + 1) % 4 = 2 by omega]; rfl
  · rw [e, show (k + 1) % 4 = 3 by omega]; rfl
  · rw [e, show (k + 1) % 4 = 0 by omega]; rfl

set_option maxHeartbeats 400000 in
set_option maxRecDepth 100000 in
theorem hex_d (a : Option Addr) (len cap : Nat) (zs : List Int) (w : World) (hb : Bs w a len zs) (hm : len ≤ 1000000) :
    Calls Tryz.prog 15 #[.slice a len cap] w fun e w' => e = .returned (.string (strOfNums (hexE zs))) ∧ Below w.heap.size w w' := by
  have hby := hexE_byt zs hb.2.1
  go_enter Tryz.func15, Tryz.ntmps15
  go_wp2_with fail
  refine (spread4 a len cap zs w hb hm).mono ?_
  rintro e w1 ⟨v, rfl, ho, hw⟩
  obtain ⟨a1, c1, rfl, hb1, _⟩ := bs_owned ho hby
  have k1 := conv_bs hb1 c1
  go_wp2
  go_ret
  exact ⟨rfl, hw⟩

set_option maxHeartbeats 400000 in
set_option maxRecDepth 100000 in
theorem base64_d (a : Option Addr) (len cap : Nat) (zs : List Int) (w : World) (hb : Bs w a len zs) (hm : len ≤ 1000000) :
    Calls Tryz.prog 42 #[.slice a len cap] w fun e w' => e = .returned (.string (strOfNums (b64E zs))) ∧ Below w.heap.size w w' := by
  have hby := b64E_byt zs hb.2.1
  have hl := sp6_len zs .z
  rw [hb.1] at hl
  obtain ⟨B, hB⟩ : ∃ B, Hid (B = b64E zs) := ⟨_, hide1 rfl⟩
  rw [← hB.out] at hby ⊢
  go_enter Tryz.func42, Tryz.ntmps42
  go_wp2_with fail
  refine (spread6 a len cap zs w hb hm).mono ?_
  rintro e w1 ⟨v, rfl, ho, hw⟩
  go_wp2_with fail
  have hE : sp6 .z zs ++ fil ((sp6 .z zs).length % 4) = B := hB.out.symm
  generalize sp6 .z zs = P at *
  generalize hn : P.length = n at *
  go_loopw [3] (fun v wr => ∃ (n : Nat) (P : List Int), P.length = n ∧ Hid (P ++ fil (n % 4) = B) ∧ n ≤ 2 * len + 4 ∧ n ≤ 2 * len + 1 + (n + 3) % 4 ∧ wr.ownsRow w.heap.size 5 1 v n (byteVals P) ∧ Below w.heap.size w wr) (fun v _ => 2 * len + 8 - slN v)
  case atStart => exact ⟨n, P, hn, hide1 hE, by omega, by omega, ho, hw⟩
  case round =>
    clear hE hn hl ho hw
    obtain ⟨n, P, hn, hE, hl, hl2, ho, hw⟩ := hrel
    by_cases h0 : n % 4 = 0
    · rw [h0] at hE
      have hP : P = B := by have := hE.out; simpa [fil] using this
      subst hP
      obtain ⟨a1, c1, rfl, hb1, _⟩ := bs_owned ho hby
      have k1 := conv_bs hb1 c1
      go_wp2
      go_ret
      exact ⟨rfl, hw⟩
    · have hBy : Byt P := fun z hz => hby z (by rw [← hE.out]; simp [hz])
      obtain ⟨a1, c1, rfl, hb1, _⟩ := bs_owned ho hBy
      clear hb1
      go_wp2_with (at_builtin; refine wpList_fill rfl (.tmp 10) rfl w.heap.size _ _ _ rfl ho (by omega) hw.size ?_; intro v1 w1 ho1 hg1; have hw1 := hw.grown hg1 hw.size (fun j e => (ho.lt j e).1); refine stopAt ?_)
      refine hide1 ?_
      rw [byteVals_app] at ho1
      clear ho hg1
      go_wp2_with fail
      go_roundw
      case rel => exact ⟨n + 1, P ++ [61], by simp [hn], hide1 (by rw [List.append_assoc, fil_step h0]; exact hE.out), by omega, by omega, ho1, hw1⟩
      case measure =>
        rw [own_slN ho1]
        show _ < 2 * len + 8 - n
        omega
def n4 (c : Int) : Int := Go.Lib.indexByte hexC.data.toList c.toNat.toUInt8
def n6 (c : Int) : Int := Go.Lib.indexByte sixC.data.toList c.toNat.toUInt8
set_option maxRecDepth 100000 in
theorem n4_all : ∀ c : Fin 256, (n4 c.1 < 0 ∧ n4 c.1 = -1) ∨ (0 ≤ n4 c.1 ∧ n4 c.1 < 16 ∧ hxS (n4 c.1) = c.1) := by decide +kernel
set_option maxRecDepth 100000 in
theorem n6_all : ∀ c : Fin 256, (n6 c.1 < 0 ∧ n6 c.1 = -1) ∨ (0 ≤ n6 c.1 ∧ n6 c.1 < 64 ∧ sxS (n6 c.1) = c.1) := by decide +kernel
theorem n4_b {c : Int} (h : 0 ≤ c ∧ c < 256) : (n4 c < 0 ∧ n4 c = -1) ∨ (0 ≤ n4 c ∧ n4 c < 16 ∧ hxS (n4 c) = c) := by
  obtain ⟨k, rfl⟩ := Int.eq_ofNat_of_zero_le h.1
  exact n4_all ⟨k, by omega⟩
theorem n6_b {c : Int} (h : 0 ≤ c ∧ c < 256) : (n6 c < 0 ∧ n6 c = -1) ∨ (0 ≤ n6 c ∧ n6 c < 64 ∧ sxS (n6 c) = c) := by
  obtain ⟨k, rfl⟩ := Int.eq_ofNat_of_zero_le h.1
  exact n6_all ⟨k, by omega⟩
inductive Gv where | z | two (h : Int) | four (h : Int) | six (h : Int)
def ga4 : Gv → List Int → Option (List Int)
  | .z, [] => some []
  | _, [] => none
  | .z, c :: r => if n4 c < 0 then none else ga4 (.four (n4 c)) r
  | .four h, c :: r => if n4 c < 0 then none else (ga4 .z r).map ((h * 16 + n4 c) :: ·)
  | _, _ => none
def ga6 : Gv → List Int → Option (List Int)
  | .z, [] => some []
  | .two h, [] => if h = 0 then some [] else none
  | .four h, [] => if h = 0 then some [] else none
  | .six _, [] => none
  | .z, c :: r => if n6 c < 0 then none else ga6 (.six (n6 c)) r
  | .six h, c :: r => if n6 c < 0 then none else (ga6 (.four ((h * 64 + n6 c) % 16)) r).map ((h * 64 + n6 c) / 16 :: ·)
  | .four h, c :: r => if n6 c < 0 then none else (ga6 (.two ((h * 64 + n6 c) % 4)) r).map ((h * 64 + n6 c) / 4 :: ·)
  | .two h, c :: r => if n6 c < 0 then none else (ga6 .z r).map ((h * 64 + n6 c) :: ·)

def AnGb (o : Option (List Int)) (B : Nat) (e : Ending) (w : World) : Prop :=
  match o with
  | none => e = .returned (.tuple #[.slice none 0 0, .iface 64 (.int .i64 1)])
  | some l => ∃ v, e = .returned (.tuple #[v, .nilIface]) ∧ w.ownsRow B 5 1 v l.length (byteVals l)

theorem idx4 (c : Int) (w : World) : Calls Tryz.prog 163 #[.string hexC, .int .u8 c] w fun e w' => e = .returned (.int .i64 (n4 c)) ∧ w' = w := strings_IndexByte hexC c w
theorem idx6 (c : Int) (w : World) : Calls Tryz.prog 163 #[.string sixC, .int .u8 c] w fun e w' => e = .returned (.int .i64 (n6 c)) ∧ w' = w := strings_IndexByte sixC c w

theorem str_size (zs : List Int) : (strOfNums zs).size = zs.length := by
  have h := strOfNums_data zs
  show (strOfNums zs).data.size = _
  rw [← Array.length_toList, h]; simp
theorem str_at (zs : List Int) (hz : Byt zs) (j : Nat) (h : j < (strOfNums zs).size) : ((((strOfNums zs)[j]'h).toNat : Nat) : Int) = zs.getD j 0 := by
  have hj : j < zs.length := by rw [← str_size]; exact h
  have hd := strOfNums_data zs
  have h1 : (strOfNums zs)[j]'h = (strOfNums zs).data.toList[j]'(by rw [hd]; simpa using hj) := by
    rw [Array.getElem_toList]; rfl
  rw [h1]
  have h2 : ∀ (l : List UInt8) (e : (strOfNums zs).data.toList = l) (hl : j < l.length), (strOfNums zs).data.toList[j]'(by rw [e]; exact hl) = l[j] := by intro l e hl; subst e; rfl
  rw [h2 _ hd (by simpa using hj)]
  have hb := hz _ (getD_mem (l := zs) (k := j) hj)
  simp only [List.getElem_map]
  have : zs[j] = zs.getD j 0 := by simp [List.getD_eq_getElem?_getD, hj]
  rw [this]
  generalize zs.getD j 0 = z at *
  obtain ⟨k, rfl⟩ := Int.eq_ofNat_of_zero_le hb.1
  simp
  omega
theorem map_app {o : Option (List Int)} {x : Int} (out : List Int) : (o.map (x :: ·)).map (out ++ ·) = o.map ((out ++ [x]) ++ ·) := by cases o <;> simp
def GvI : Gv → Value → Value → Prop
  | .z, h, k => h = .int .i64 0 ∧ k = .int .i64 0
  | .two x, h, k => ∃ y : Nat, x = y ∧ y < 4 ∧ h = .int .i64 y ∧ k = .int .i64 2
  | .four x, h, k => ∃ y : Nat, x = y ∧ y < 16 ∧ h = .int .i64 y ∧ k = .int .i64 4
  | .six x, h, k => ∃ y : Nat, x = y ∧ y < 64 ∧ h = .int .i64 y ∧ k = .int .i64 6
def nx4 (st : Gv) (d : Int) (r out : List Int) : Option (List Int) := match st with
  | .z => (ga4 (.four d) r).map (out ++ ·)
  | .four h => (ga4 .z r).map ((out ++ [h * 16 + d]) ++ ·)
  | _ => none
def nx6 (st : Gv) (d : Int) (r out : List Int) : Option (List Int) := match st with
  | .z => (ga6 (.six d) r).map (out ++ ·)
  | .six h => (ga6 (.four ((h * 64 + d) % 16)) r).map ((out ++ [(h * 64 + d) / 16]) ++ ·)
  | .four h => (ga6 (.two ((h * 64 + d) % 4)) r).map ((out ++ [(h * 64 + d) / 4]) ++ ·)
  | .two h => (ga6 .z r).map ((out ++ [h * 64 + d]) ++ ·)
theorem nx4_eq {st : Gv} {c : Int} {r out : List Int} (h : ¬ n4 c < 0) : (ga4 st (c :: r)).map (out ++ ·) = nx4 st (n4 c) r out := by
  rcases st with _ | x | x | x <;> simp only [ga4, nx4, h, if_false, map_app, Option.map_none]
theorem nx6_eq {st : Gv} {c : Int} {r out : List Int} (h : ¬ n6 c < 0) : (ga6 st (c :: r)).map (out ++ ·) = nx6 st (n6 c) r out := by
  rcases st with _ | x | x | x <;> simp only [ga6, nx6, h, if_false, map_app]
set_option maxHeartbeats 4000000 in
set_option maxRecDepth 100000 in
theorem gather4 (zs : List Int) (hz : Byt zs) (hm : zs.length ≤ 1000000) (w : World) :
    Calls Tryz.prog 125 #[.string (strOfNums zs), .int .i64 4, .string hexC] w fun e w' => AnGb (ga4 .z zs) w.heap.size e w' ∧ Below w.heap.size w w' := by
  have hsz := str_size zs
  obtain ⟨S, hS⟩ : ∃ S, Hid (S = strOfNums zs) := ⟨_, hide1 rfl⟩
  have hat : ∀ j (h : j < S.size), (((S[j]'h).toNat : Nat) : Int) = zs.getD j 0 := by rw [hS.out]; exact str_at zs hz
  rw [← hS.out] at hsz ⊢
  generalize hL : zs.length = len at *
  obtain ⟨A, hA⟩ : ∃ A, Hid (A = ga4 .z zs) := ⟨_, hide1 rfl⟩
  rw [← hA.out]
  go_enter Tryz.func125, Tryz.ntmps125
  go_wp2_with fail
  go_loopw [8, 9, 10, 15] (fun v h k i wr => ∃ j : Nat, j ≤ len ∧ i = .int .i64 j ∧ ∃ st out n, GvI st h k ∧ Hid (A = (ga4 st (zs.drop j)).map (out ++ ·)) ∧ Hid (n = out.length) ∧ n ≤ j ∧ wr.ownsRow w.heap.size 5 1 v n (byteVals out) ∧ Below w.heap.size w wr ∧ (st = .z ∨ ∃ h, st = .four h)) (fun _ _ _ i _ => len - (intOf i).toNat)
  case atStart => exact ⟨0, by omega, rfl, .z, [], 0, ⟨rfl, rfl⟩, hide1 (by rw [hA.out]; simp), hide1 rfl, by omega, ⟨rfl, .inl ⟨rfl, rfl⟩⟩, Below.refl _ _, .inl rfl⟩
  case round =>
    obtain ⟨j, hj, rfl, st, out, n, hI, hE, hn, hn2, ho, hw, hst⟩ := hrel
    by_cases hlt : j < len
    · have hb := hz _ (getD_mem (l := zs) (k := j) (by omega))
      have hj2 : j < S.size := by omega
      have hx := hat j hj2
      have hE := hE.out
      rw [drop_cons zs j (by omega)] at hE
      generalize zs.getD j 0 = c at *
      have hc := n4_b hb
      have hE := hide1 hE
      clear hat hA hb
      go_wp2_with fail
      refine (idx4 _ _).mono ?_
      rintro e w1 ⟨rfl, rfl⟩

      rcases hc with ⟨hc, hc1⟩ | ⟨hc0, hc1, -⟩
      · have hE : A = none := by
          have h1 := hE.out
          rw [h1]
          rcases st with _ | x | x | x <;> simp [ga4, hc]
        rw [hc1]
        clear hc1 hc
        go_wp2_with fail
        go_ret2
        refine ⟨?_, hw⟩
        rw [hE]; rfl
      have hE : Hid (A = nx4 st (n4 c) (zs.drop (j + 1)) out) := hide1 (by rw [hE.out, nx4_eq (by omega)])
      clear hx
      generalize n4 c = d at *
      obtain ⟨d, rfl⟩ := Int.eq_ofNat_of_zero_le hc0
      have hd : d < 16 := by omega
      clear hc0 hc1
      rcases hst with rfl | ⟨x, rfl⟩
      · obtain ⟨rfl, rfl⟩ := hI
        have Hor := hide1 (or_i 0 d 4 (by omega) (by omega))
        have H1 : bits .or .i64 0 (d : Int) = (d : Int) := by have := Hor.out; simpa using this
        clear Hor
        go_wp2_with fail
        go_roundw
        case rel => exact ⟨j + 1, by omega, by go_num, .four d, out, n, ⟨d, rfl, hd, rfl, rfl⟩, hE, hn, by omega, ho, hw, .inr ⟨_, rfl⟩⟩
        case measure => simp [intOf]; omega
      · obtain ⟨y, rfl, hy, rfl, rfl⟩ := hI
        have Hor := hide1 (or_i y d 4 (by omega) (by omega))
        have H1 : bits .or .i64 ((y : Int) * 16) (d : Int) = ((y * 16 + d : Nat) : Int) := by have := Hor.out; simpa using this
        clear Hor
        have HX : Hid (((y * 16 + d : Nat) : Int) = (y : Int) * 16 + d) := hide1 (by omega)
        have hX : y * 16 + d < 256 := by omega
        generalize y * 16 + d = X at *
        have Han : bits .and .i64 (X : Int) 0 = 0 := (by have := and_i X 0 (by omega) (by omega); rw [Nat.pow_zero, Nat.mod_one] at this; exact this)
        go_wp2_with (at_builtin; refine wpList_append_bs rfl (.tmp 38) (.tmp 43) rfl w.heap.size _ _ _ rfl (ho.alloc _) _ 1 1 [(X : Int)] rfl (bs_one _ ((X : Int)) (by omega)) (by omega) (by have := hw.size; simp; omega) ?_; intro v1 w1 ho1 hg1; have hw1 := below_app hw (Nat.le_refl _) ho hg1; refine stopAt ?_)
        refine hide1 ?_
        rw [byteVals_app] at ho1
        clear ho hg1
        go_wp2_with fail
        go_roundw
        case rel =>
          refine ⟨j + 1, by omega, by go_num, .z, out ++ [(X : Int)], n + 1, ⟨rfl, rfl⟩, hide1 ?_, hide1 (by simp [hn.out]), by omega, ho1, hw1, .inl rfl⟩
          have h1 := hE.out
          simp only [nx4, ← HX.out] at h1
          exact h1
        case measure => simp [intOf]; omega
    · obtain rfl : j = len := by omega
      have hE := hE.out
      rw [List.drop_of_length_le (by omega)] at hE
      have hE := hide1 hE
      rcases hst with rfl | ⟨x, rfl⟩
      · obtain ⟨rfl, rfl⟩ := hI
        go_wp2_with fail
        go_ret2
        refine ⟨?_, hw⟩
        have h1 := hE.out
        rw [h1]
        simp only [ga4, Option.map_some, List.append_nil]
        exact ⟨_, rfl, by rw [← hn.out]; exact ho⟩
      · obtain ⟨y, rfl, hy, rfl, rfl⟩ := hI
        go_wp2_with fail
        go_ret2
        refine ⟨?_, hw⟩
        have h1 := hE.out
        rw [h1]
        simp only [ga4, Option.map_none]
        rfl
set_option maxHeartbeats 4000000 in
set_option maxRecDepth 100000 in
theorem gather6 (zs : List Int) (hz : Byt zs) (hm : zs.length ≤ 1000000) (w : World) :
    Calls Tryz.prog 125 #[.string (strOfNums zs), .int .i64 6, .string sixC] w fun e w' => AnGb (ga6 .z zs) w.heap.size e w' ∧ Below w.heap.size w w' := by
  have hsz := str_size zs
  obtain ⟨S, hS⟩ : ∃ S, Hid (S = strOfNums zs) := ⟨_, hide1 rfl⟩
  have hat : ∀ j (h : j < S.size), (((S[j]'h).toNat : Nat) : Int) = zs.getD j 0 := by rw [hS.out]; exact str_at zs hz
  rw [← hS.out] at hsz ⊢
  generalize hL : zs.length = len at *
  obtain ⟨A, hA⟩ : ∃ A, Hid (A = ga6 .z zs) := ⟨_, hide1 rfl⟩
  rw [← hA.out]
  go_enter Tryz.func125, Tryz.ntmps125
  go_wp2_with fail
  go_loopw [8, 9, 10, 15] (fun v h k i wr => ∃ j : Nat, j ≤ len ∧ i = .int .i64 j ∧ ∃ st out n, GvI st h k ∧ Hid (A = (ga6 st (zs.drop j)).map (out ++ ·)) ∧ Hid (n = out.length) ∧ n ≤ j ∧ wr.ownsRow w.heap.size 5 1 v n (byteVals out) ∧ Below w.heap.size w wr) (fun _ _ _ i _ => len - (intOf i).toNat)
  case atStart => exact ⟨0, by omega, rfl, .z, [], 0, ⟨rfl, rfl⟩, hide1 (by rw [hA.out]; simp), hide1 rfl, by omega, ⟨rfl, .inl ⟨rfl, rfl⟩⟩, Below.refl _ _⟩
  case round =>
    obtain ⟨j, hj, rfl, st, out, n, hI, hE, hn, hn2, ho, hw⟩ := hrel
    by_cases hlt : j < len
    · have hb := hz _ (getD_mem (l := zs) (k := j) (by omega))
      have hj2 : j < S.size := by omega
      have hx := hat j hj2
      have hE := hE.out
      rw [drop_cons zs j (by omega)] at hE
      generalize zs.getD j 0 = c at *
      have hc := n6_b hb
      have hE := hide1 hE
      clear hat hA hb
      go_wp2_with fail
      refine (idx6 _ _).mono ?_
      rintro e w1 ⟨rfl, rfl⟩

      rcases hc with ⟨hc, hc1⟩ | ⟨hc0, hc1, -⟩
      · have hE : A = none := by
          have h1 := hE.out
          rw [h1]
          rcases st with _ | x | x | x <;> simp [ga6, hc]
        rw [hc1]
        clear hc1 hc
        go_wp2_with fail
        go_ret2
        refine ⟨?_, hw⟩
        rw [hE]; rfl
      have hE : Hid (A = nx6 st (n6 c) (zs.drop (j + 1)) out) := hide1 (by rw [hE.out, nx6_eq (by omega)])
      clear hx
      generalize n6 c = d at *
      obtain ⟨d, rfl⟩ := Int.eq_ofNat_of_zero_le hc0
      have hd : d < 64 := by omega
      clear hc0 hc1
      rcases st with _ | x | x | x
      · obtain ⟨rfl, rfl⟩ := hI
        have Hor := hide1 (or_i 0 d 6 (by omega) (by omega))
        have H1 : bits .or .i64 0 (d : Int) = (d : Int) := by have := Hor.out; simpa using this
        clear Hor
        go_wp2_with fail
        go_roundw
        case rel => exact ⟨j + 1, by omega, by go_num, .six d, out, n, ⟨d, rfl, hd, rfl, rfl⟩, hE, hn, by omega, ho, hw⟩
        case measure => simp [intOf]; omega
      · obtain ⟨y, rfl, hy, rfl, rfl⟩ := hI
        have Hor := hide1 (or_i y d 6 (by omega) (by omega))
        have H1 : bits .or .i64 ((y : Int) * 64) (d : Int) = ((y * 64 + d : Nat) : Int) := by have := Hor.out; simpa using this
        clear Hor
        have HX : Hid (((y * 64 + d : Nat) : Int) = (y : Int) * 64 + d) := hide1 (by omega)
        have hX : y * 64 + d < 256 := by omega
        generalize y * 64 + d = X at *
        have Han : bits .and .i64 (X : Int) 0 = 0 := (by have := and_i X 0 (by omega) (by omega); rw [Nat.pow_zero, Nat.mod_one] at this; exact this)
        go_wp2_with (at_builtin; refine wpList_append_bs rfl (.tmp 38) (.tmp 43) rfl w.heap.size _ _ _ rfl (ho.alloc _) _ 1 1 [(X : Int)] rfl (bs_one _ ((X : Int)) (by omega)) (by omega) (by have := hw.size; simp; omega) ?_; intro v1 w1 ho1 hg1; have hw1 := below_app hw (Nat.le_refl _) ho hg1; refine stopAt ?_)
        refine hide1 ?_
        rw [byteVals_app] at ho1
        clear ho hg1
        go_wp2_with fail
        go_roundw
        case rel =>
          refine ⟨j + 1, by omega, by go_num, .z, out ++ [(X : Int)], n + 1, ⟨rfl, rfl⟩, hide1 ?_, hide1 (by simp [hn.out]), by omega, ho1, hw1⟩
          have h1 := hE.out
          simp only [nx6, ← HX.out] at h1
          exact h1
        case measure => simp [intOf]; omega
      · obtain ⟨y, rfl, hy, rfl, rfl⟩ := hI
        have Hor := hide1 (or_i y d 6 (by omega) (by omega))
        have H1 : bits .or .i64 ((y : Int) * 64) (d : Int) = ((y * 64 + d : Nat) : Int) := by have := Hor.out; simpa using this
        clear Hor
        have HX : Hid (((y * 64 + d : Nat) : Int) = (y : Int) * 64 + d) := hide1 (by omega)
        have hX : y * 64 + d < 1024 := by omega
        generalize y * 64 + d = X at *
        have Han : bits .and .i64 (X : Int) 3 = ((X % 4 : Nat) : Int) := (and_i X 2 (by omega) (by omega))
        go_wp2_with (at_builtin; refine wpList_append_bs rfl (.tmp 38) (.tmp 43) rfl w.heap.size _ _ _ rfl (ho.alloc _) _ 1 1 [(X : Int) / 4] rfl (bs_one _ ((X : Int) / 4) (by omega)) (by omega) (by have := hw.size; simp; omega) ?_; intro v1 w1 ho1 hg1; have hw1 := below_app hw (Nat.le_refl _) ho hg1; refine stopAt ?_)
        refine hide1 ?_
        rw [byteVals_app] at ho1
        clear ho hg1
        go_wp2_with fail
        go_roundw
        case rel =>
          refine ⟨j + 1, by omega, by go_num, .two ((X % 4 : Nat) : Int), out ++ [(X : Int) / 4], n + 1, ⟨X % 4, rfl, by omega, rfl, rfl⟩, hide1 ?_, hide1 (by simp [hn.out]), by omega, ho1, hw1⟩
          have h1 := hE.out
          simp only [nx6, ← HX.out] at h1
          exact h1
        case measure => simp [intOf]; omega
      · obtain ⟨y, rfl, hy, rfl, rfl⟩ := hI
        have Hor := hide1 (or_i y d 6 (by omega) (by omega))
        have H1 : bits .or .i64 ((y : Int) * 64) (d : Int) = ((y * 64 + d : Nat) : Int) := by have := Hor.out; simpa using this
        clear Hor
        have HX : Hid (((y * 64 + d : Nat) : Int) = (y : Int) * 64 + d) := hide1 (by omega)
        have hX : y * 64 + d < 4096 := by omega
        generalize y * 64 + d = X at *
        have Han : bits .and .i64 (X : Int) 15 = ((X % 16 : Nat) : Int) := (and_i X 4 (by omega) (by omega))
        go_wp2_with (at_builtin; refine wpList_append_bs rfl (.tmp 38) (.tmp 43) rfl w.heap.size _ _ _ rfl (ho.alloc _) _ 1 1 [(X : Int) / 16] rfl (bs_one _ ((X : Int) / 16) (by omega)) (by omega) (by have := hw.size; simp; omega) ?_; intro v1 w1 ho1 hg1; have hw1 := below_app hw (Nat.le_refl _) ho hg1; refine stopAt ?_)
        refine hide1 ?_
        rw [byteVals_app] at ho1
        clear ho hg1
        go_wp2_with fail
        go_roundw
        case rel =>
          refine ⟨j + 1, by omega, by go_num, .four ((X % 16 : Nat) : Int), out ++ [(X : Int) / 16], n + 1, ⟨X % 16, rfl, by omega, rfl, rfl⟩, hide1 ?_, hide1 (by simp [hn.out]), by omega, ho1, hw1⟩
          have h1 := hE.out
          simp only [nx6, ← HX.out] at h1
          exact h1
        case measure => simp [intOf]; omega
    · obtain rfl : j = len := by omega
      have hE := hE.out
      rw [List.drop_of_length_le (by omega)] at hE
      have hE := hide1 hE
      rcases st with _ | x | x | x
      · obtain ⟨rfl, rfl⟩ := hI
        go_wp2_with fail
        go_ret2
        refine ⟨?_, hw⟩
        have h1 := hE.out
        rw [h1]
        simp only [ga6, Option.map_some, List.append_nil]
        exact ⟨_, rfl, by rw [← hn.out]; exact ho⟩
      · obtain ⟨y, rfl, hy, rfl, rfl⟩ := hI
        by_cases h0 : y = 0
        · subst h0
          go_wp2_with fail
          go_ret2
          refine ⟨?_, hw⟩
          have h1 := hE.out
          rw [h1]
          simp only [ga6, Int.natCast_zero, if_true, Option.map_some, List.append_nil]
          exact ⟨_, rfl, by rw [← hn.out]; exact ho⟩

        · go_wp2_with fail
          go_ret2
          refine ⟨?_, hw⟩
          have h1 := hE.out
          rw [h1]
          simp only [ga6, show ¬ ((y : Int) = 0) by omega, if_false, Option.map_none]
          rfl
      · obtain ⟨y, rfl, hy, rfl, rfl⟩ := hI
        by_cases h0 : y = 0
        · subst h0
          go_wp2_with fail
          go_ret2
          refine ⟨?_, hw⟩
          have h1 := hE.out
          rw [h1]
          simp only [ga6, Int.natCast_zero, if_true, Option.map_some, List.append_nil]
          exact ⟨_, rfl, by rw [← hn.out]; exact ho⟩

        · go_wp2_with fail
          go_ret2
          refine ⟨?_, hw⟩
          have h1 := hE.out
          rw [h1]
          simp only [ga6, show ¬ ((y : Int) = 0) by omega, if_false, Option.map_none]
          rfl
      · obtain ⟨y, rfl, hy, rfl, rfl⟩ := hI
        go_wp2_with fail
        go_ret2
        refine ⟨?_, hw⟩
        have h1 := hE.out
        rw [h1]
        simp only [ga6, Option.map_none]
        rfl
set_option maxHeartbeats 400000 in
set_option maxRecDepth 100000 in
theorem unhex_d (zs : List Int) (hz : Byt zs) (hm : zs.length ≤ 1000000) (w : World) :
    Calls Tryz.prog 116 #[.string (strOfNums zs)] w fun e w' => AnGb (ga4 .z zs) w.heap.size e w' ∧ Below w.heap.size w w' := by
  have H := gather4 zs hz hm w
  generalize ga4 .z zs = A at *
  go_enter Tryz.func116, Tryz.ntmps116
  go_wp2_with fail
  refine H.mono ?_
  rintro e w1 ⟨h1, hw⟩
  cases A with
  | none =>
    obtain rfl := h1
    go_wp2_with fail
    go_ret2
    exact ⟨rfl, hw⟩
  | some l =>
    obtain ⟨v, rfl, ho⟩ := h1
    go_wp2_with fail
    go_ret2
    exact ⟨⟨_, rfl, ho⟩, hw⟩

def tr1 (l : List Int) : List Int := if l.getLast? = some 61 then l.dropLast else l
theorem tr1_snoc (l : List Int) (c : Int) : tr1 (l ++ [c]) = if c = 61 then l else l ++ [c] := by simp [tr1]
theorem snoc_cases (l : List Int) : l = [] ∨ ∃ r c, l = r ++ [c] := by
  rcases List.eq_nil_or_concat l with h | ⟨r, c, h⟩
  · exact .inl h
  · exact .inr ⟨r, c, by simpa using h⟩
theorem tr1_byt {l : List Int} (h : Byt l) : Byt (tr1 l) := by
  unfold tr1
  split
  · exact fun z hz => h z ((List.dropLast_sublist l).subset hz)
  · exact h
theorem tr1_len (l : List Int) : (tr1 l).length ≤ l.length := by unfold tr1; split <;> simp
theorem trim_str (zs : List Int) (hz : Byt zs) : (⟨(Go.Lib.trimSuffix (strOfNums zs).data.toList [61]).toArray⟩ : ByteArray) = strOfNums (tr1 zs) := by
  have hext : ∀ (l : List UInt8) (m : List Int), l = m.map (fun n => UInt8.ofNat n.toNat) → (⟨l.toArray⟩ : ByteArray) = strOfNums m := by
    intro l m h
    apply ByteArray.ext
    apply Array.ext'
    rw [strOfNums_data, h]
  apply hext
  rw [strOfNums_data]
  rcases snoc_cases zs with rfl | ⟨r, c, rfl⟩
  · rfl
  · rw [tr1_snoc]
    have hc := hz c (by simp)
    have hs : Go.Lib.hasSuffix (List.map (fun n : Int => UInt8.ofNat n.toNat) (r ++ [c])) [61] = decide (c = 61) := by
      unfold Go.Lib.hasSuffix
      obtain ⟨k, rfl⟩ := Int.eq_ofNat_of_zero_le hc.1
      have hk : k < 256 := by omega
      simp only [List.map_append, List.map_cons, List.map_nil, List.isSuffixOf, List.reverse_append, List.reverse_cons, List.reverse_nil, List.nil_append, List.cons_append, List.isPrefixOf, Bool.and_true, Int.toNat_natCast]
      by_cases e : k = 61
      · subst e; rfl
      · rw [decide_eq_false (by omega)]
        refine beq_eq_false_iff_ne.2 (fun h => e ?_)
        have := congrArg UInt8.toNat h
        simp at this
        omega
    unfold Go.Lib.trimSuffix
    rw [hs]
    by_cases e : c = 61
    · simp [e]
    · simp [e]

def d64 (zs : List Int) : Option (List Int) := if zs.length % 4 = 0 then ga6 .z (tr1 (tr1 zs)) else none

set_option maxHeartbeats 400000 in
set_option maxRecDepth 100000 in
theorem unbase64_d (zs : List Int) (hz : Byt zs) (hm : zs.length ≤ 1000000) (w : World) :
    Calls Tryz.prog 69 #[.string (strOfNums zs)] w fun e w' => AnGb (d64 zs) w.heap.size e w' ∧ Below w.heap.size w w' := by
  have H := gather6 (tr1 (tr1 zs)) (tr1_byt (tr1_byt hz)) (Nat.le_trans (tr1_len _) (Nat.le_trans (tr1_len _) hm)) w
  have T1 := trim_str zs hz
  have T2 := trim_str (tr1 zs) (tr1_byt hz)
  have hsz := str_size zs
  have hs1 := str_size (tr1 zs)
  have hl := tr1_len zs
  have C1 := strings_TrimSuffix (strOfNums zs) ⟨#[61]⟩ w (by omega)
  have C2 := strings_TrimSuffix (strOfNums (tr1 zs)) ⟨#[61]⟩ w (by omega)
  have C1 : Calls Tryz.prog 124 #[.string (strOfNums zs), .string ⟨#[61]⟩] w fun e w' => e = .returned (.string (strOfNums (tr1 zs))) ∧ w' = w := by rw [← T1]; exact C1
  have C2 : Calls Tryz.prog 124 #[.string (strOfNums (tr1 zs)), .string ⟨#[61]⟩] w fun e w' => e = .returned (.string (strOfNums (tr1 (tr1 zs)))) ∧ w' = w := by rw [← T2]; exact C2
  clear T1 T2 hs1 hl
  obtain ⟨A, hA⟩ : ∃ A, Hid (A = d64 zs) := ⟨_, hide1 rfl⟩
  rw [← hA.out]
  have hA1 := hA.out
  unfold d64 at hA1
  generalize hS : strOfNums zs = S at *
  generalize strOfNums (tr1 zs) = S1 at *
  generalize strOfNums (tr1 (tr1 zs)) = S2 at *
  generalize ga6 .z (tr1 (tr1 zs)) = A2 at *
  generalize zs.length = len at *
  by_cases h0 : len % 4 = 0
  · rw [if_pos h0] at hA1
    subst hA1
    clear hA
    go_enter Tryz.func69, Tryz.ntmps69
    go_wp2_with fail
    refine C1.mono ?_
    rintro e w1 ⟨rfl, rfl⟩
    go_wp2_with fail
    refine C2.mono ?_
    rintro e w1 ⟨rfl, rfl⟩
    go_wp2_with fail
    refine H.mono ?_
    rintro e w1 ⟨h1, hw⟩
    cases A with
    | none =>
      obtain rfl := h1
      go_wp2_with fail
      go_ret2
      exact ⟨rfl, hw⟩
    | some l =>
      obtain ⟨v, rfl, ho⟩ := h1
      go_wp2_with fail
      go_ret2
      exact ⟨⟨_, rfl, ho⟩, hw⟩
  · rw [if_neg h0] at hA1
    subst hA1
    clear hA H C1 C2
    go_enter Tryz.func69, Tryz.ntmps69
    go_wp2_with fail
    go_ret2
    exact ⟨rfl, Below.refl _ _⟩
theorem Byt.tail {c : Int} {r : List Int} (h : Byt (c :: r)) : Byt r := fun z hz => h z (by simp [hz])
theorem Byt.head {c : Int} {r : List Int} (h : Byt (c :: r)) : 0 ≤ c ∧ c < 256 := h c (by simp)
theorem Byt.cons {c : Int} {r : List Int} (h : 0 ≤ c ∧ c < 256) (hr : Byt r) : Byt (c :: r) := by
  intro z hz
  rcases List.mem_cons.1 hz with rfl | hz
  · exact h
  · exact hr z hz
theorem Byt.nil : Byt [] := by intro z hz; simp at hz
theorem Byt.app {a b : List Int} (ha : Byt a) (hb : Byt b) : Byt (a ++ b) := by
  intro z hz
  rcases List.mem_append.1 hz with h | h
  · exact ha z h
  · exact hb z h

theorem hexE_ga4 : ∀ s l, Byt s → ga4 .z s = some l → hexE l = s ∧ Byt l
  | [], l, _, h => by simp only [ga4, Option.some.injEq] at h; subst h; exact ⟨rfl, Byt.nil⟩
  | [c], l, _, h => by simp only [ga4] at h; split at h <;> simp at h
  | c :: d :: r, l, hs, h => by
    have hc := n4_b hs.head
    have hd := n4_b hs.tail.head
    simp only [ga4] at h
    rcases hc with ⟨hc, _⟩ | ⟨c0, c1, c2⟩
    · simp [hc] at h
    rw [if_neg (by omega)] at h
    rcases hd with ⟨hd, _⟩ | ⟨d0, d1, d2⟩
    · simp [hd] at h
    rw [if_neg (by omega)] at h
    obtain ⟨m, hm, rfl⟩ := Option.map_eq_some_iff.1 h
    obtain ⟨h1, h2⟩ := hexE_ga4 r m hs.tail.tail hm
    refine ⟨?_, Byt.cons (by omega) h2⟩
    simp only [hexE, h1]
    rw [show (n4 c * 16 + n4 d) / 16 = n4 c by omega, show (n4 c * 16 + n4 d) % 16 = n4 d by omega, c2, d2]

def f4b (a b c : Int) : List Int := [sxS (a / 4), sxS ((a % 4 * 256 + b) / 16), sxS ((b % 16 * 256 + c) / 64), sxS (c % 64)]
theorem sp6_three (a b c : Int) (r : List Int) : sp6 .z (a :: b :: c :: r) = f4b a b c ++ sp6 .z r := rfl
theorem sp6_ga6 : ∀ s l, Byt s → ga6 .z s = some l → sp6 .z l = s ∧ Byt l
  | [], l, _, h => by simp only [ga6, Option.some.injEq] at h; subst h; exact ⟨rfl, Byt.nil⟩
  | [a], l, _, h => by simp only [ga6] at h; split at h <;> simp at h
  | [a, b], l, hs, h => by
    simp only [ga6] at h
    rcases n6_b hs.head with ⟨q, _⟩ | ⟨a0, a1, a2⟩
    · simp [q] at h
    rcases n6_b hs.tail.head with ⟨q, _⟩ | ⟨b0, b1, b2⟩
    · simp [q] at h
    rw [if_neg (by omega), if_neg (by omega)] at h
    by_cases e : (n6 a * 64 + n6 b) % 16 = 0
    · rw [if_pos e, Option.map_some, Option.some.injEq] at h
      subst h
      refine ⟨?_, Byt.cons (by omega) Byt.nil⟩
      simp only [sp6]
      rw [show (n6 a * 64 + n6 b) / 16 / 4 = n6 a by omega, show (n6 a * 64 + n6 b) / 16 % 4 * 16 = n6 b by omega, a2, b2]
    · simp [e] at h
  | [a, b, c], l, hs, h => by
    simp only [ga6] at h
    rcases n6_b hs.head with ⟨q, _⟩ | ⟨a0, a1, a2⟩
    · simp [q] at h
    rcases n6_b hs.tail.head with ⟨q, _⟩ | ⟨b0, b1, b2⟩
    · simp [q] at h
    rcases n6_b hs.tail.tail.head with ⟨q, _⟩ | ⟨c0, c1, c2⟩
    · simp [q] at h
    rw [if_neg (by omega), if_neg (by omega), if_neg (by omega)] at h
    by_cases e : ((n6 a * 64 + n6 b) % 16 * 64 + n6 c) % 4 = 0
    · rw [if_pos e, Option.map_some, Option.map_some, Option.some.injEq] at h
      subst h
      refine ⟨?_, Byt.cons (by omega) (Byt.cons (by omega) Byt.nil)⟩
      simp only [sp6]
      rw [show (n6 a * 64 + n6 b) / 16 / 4 = n6 a by omega, show ((n6 a * 64 + n6 b) / 16 % 4 * 256 + ((n6 a * 64 + n6 b) % 16 * 64 + n6 c) / 4) / 16 = n6 b by omega, show ((n6 a * 64 + n6 b) % 16 * 64 + n6 c) / 4 % 16 * 4 = n6 c by omega, a2, b2, c2]
    · simp [e] at h
  | a :: b :: c :: d :: r, l, hs, h => by
    simp only [ga6] at h
    rcases n6_b hs.head with ⟨q, _⟩ | ⟨a0, a1, a2⟩
    · simp [q] at h
    rcases n6_b hs.tail.head with ⟨q, _⟩ | ⟨b0, b1, b2⟩
    · simp [q] at h
    rcases n6_b hs.tail.tail.head with ⟨q, _⟩ | ⟨c0, c1, c2⟩
    · simp [q] at h
    rcases n6_b hs.tail.tail.tail.head with ⟨q, _⟩ | ⟨d0, d1, d2⟩
    · simp [q] at h
    rw [if_neg (by omega), if_neg (by omega), if_neg (by omega), if_neg (by omega)] at h
    obtain ⟨l1, h1, rfl⟩ := Option.map_eq_some_iff.1 h
    obtain ⟨l2, h2, rfl⟩ := Option.map_eq_some_iff.1 h1
    obtain ⟨l3, h3, rfl⟩ := Option.map_eq_some_iff.1 h2
    obtain ⟨e1, e2⟩ := sp6_ga6 r l3 hs.tail.tail.tail.tail h3
    refine ⟨?_, Byt.cons (by omega) (Byt.cons (by omega) (Byt.cons (by omega) e2))⟩
    rw [sp6_three, e1]
    simp only [f4b, List.cons_append, List.nil_append]
    rw [show (n6 a * 64 + n6 b) / 16 / 4 = n6 a by omega, show ((n6 a * 64 + n6 b) / 16 % 4 * 256 + ((n6 a * 64 + n6 b) % 16 * 64 + n6 c) / 4) / 16 = n6 b by omega,
      show (((n6 a * 64 + n6 b) % 16 * 64 + n6 c) / 4 % 16 * 256 + (((n6 a * 64 + n6 b) % 16 * 64 + n6 c) % 4 * 64 + n6 d)) / 64 = n6 c by omega,
      show (((n6 a * 64 + n6 b) % 16 * 64 + n6 c) % 4 * 64 + n6 d) % 64 = n6 d by omega, a2, b2, c2, d2]
theorem b64E_d64 (s l : List Int) (hs : Byt s) (h : d64 s = some l) : b64E l = s ∧ Byt l := by
  unfold d64 at h
  by_cases h0 : s.length % 4 = 0
  · rw [if_pos h0] at h
    obtain ⟨h1, h2⟩ := sp6_ga6 _ l (tr1_byt (tr1_byt hs)) h
    refine ⟨?_, h2⟩
    unfold b64E
    rw [h1]
    rcases snoc_cases s with rfl | ⟨r, c, rfl⟩
    · rfl
    · rw [tr1_snoc]
      by_cases hc : c = 61
      · rw [if_pos hc]
        rcases snoc_cases r with rfl | ⟨q, d, rfl⟩
        · simp at h0
        · rw [tr1_snoc]
          simp only [List.length_append, List.length_cons, List.length_nil] at h0
          by_cases hd : d = 61
          · rw [if_pos hd, show q.length % 4 = 2 by omega, hc, hd]; simp [fil]
          · rw [if_neg hd, show (q ++ [d]).length % 4 = 3 by simp; omega, hc]; simp [fil]
      · rw [if_neg hc, tr1_snoc, if_neg hc, h0]; simp [fil]
  · rw [if_neg h0] at h; cases h

def s4 (n : Int) : List Int := [sxS (n / 262144), sxS (n / 4096 % 64), sxS (n / 64 % 64), sxS (n % 64)]
end Go.Proofs.YtdhmonlhlfkjbaaGreatDoor

namespace Go.Proofs.YtdhmonlhlfkjbaaGreatDoor
open Go.RowKit Go.Maps

theorem bl2 {w w1 w2 : World} (h : Below w.heap.size w w1) (k : Below w1.heap.size w1 w2) : Below w.heap.size w w2 := h.trans (k.mono h.size)

theorem str_app (a b : List Int) : strOfNums a ++ strOfNums b = strOfNums (a ++ b) := by
  apply ByteArray.ext
  apply Array.ext'
  rw [ByteArray.data_append, Array.toList_append, strOfNums_data, strOfNums_data, strOfNums_data, List.map_append]
theorem Bs.take {w : World} {a : Option Addr} {len : Nat} {zs : List Int} (h : Bs w a len zs) {k : Nat} (hk : k ≤ len) : Bs w a k (zs.take k) := by
  obtain ⟨h1, h2, h3⟩ := h
  refine ⟨by simp; omega, fun z hz => h2 z (List.mem_of_mem_take hz), fun hp => ?_⟩
  obtain ⟨b, off, rfl, hc⟩ := h3 (by omega)
  refine ⟨b, off, rfl, fun i hi => ?_⟩
  rw [hc i (by omega)]
  simp [List.getD_eq_getElem?_getD, hi]

end Go.Proofs.YtdhmonlhlfkjbaaGreatDoor

namespace Go.Proofs.YtdhmonlhlfkjbaaGreatDoor
open Go.RowKit

theorem step_append_bs {w : World} {ops : Array Oper} {o : Oper} {a : Act} {K : Act → World → Prop} {Q : Exit → Act → World → Prop} {E : Prop} (hgd : o.guard = none) (s x : Operand)
    (ho : o.op = .call { callee := .builtin .append, args := #[s, x], argTypes := #[22, 22] }) (base : Nat)
    (v : Value) (n : Nat) (xs : List Value) (hs : a.eval s = v) (hown : w.ownsRow base 5 1 v n xs) (ad : Option Addr) (m c : Nat) (zs : List Int) (hx : a.eval x = .slice ad m c) (hb : Bs w ad m zs)
    (hbytes : n + m ≤ 140737488355328) (hbase : base ≤ w.heap.size)
    (h : ∀ v' w', w'.ownsRow base 5 1 v' (n + m) (xs ++ byteVals zs) → w.grownBy w' v.ownBlock → K (a.put o.dst v') w') : if Region.wanted o (yielded ops a.tmps) = true then Oper.wp Tryz.prog o a w K Q else E := by
  have hw : Region.wanted o (yielded ops a.tmps) = true := by simp [Region.wanted, hgd]
  rw [if_pos hw]
  obtain ⟨v', w', hr, h2, h3⟩ := run_append_bs w base o.type v n xs hown ad m c zs hb hbytes hbase
  unfold Oper.wp execOp
  simp only [ho, resolve, invoke, builtin, Sem.run_bind, Sem.run_pure, Result.andThen_ok, List.map_toArray, List.map_cons, List.map_nil, hs, hx, hr]
  exact h v' w' h2 h3

theorem wrap_u8 (n : Nat) (h : n < 256) : IntKind.u8.wrap (n : Int) = (n : Int) := by
  have e : (n : Int) % 2 ^ 8 = n := Int.emod_eq_of_lt (by omega) (by omega)
  simp only [IntKind.wrap, IntKind.bits, IntKind.signed, e]
  simp
theorem bs_two' (w : World) (x y : Int) (hx : 0 ≤ x ∧ x < 256) (hy : 0 ≤ y ∧ y < 256) : Bs (w.alloc (.cells #[.int .u8 x, .int .u8 y] 5)) (some ⟨w.heap.size, 0, none⟩) 2 [x, y] := bs_new w [x, y] (0, 0) (by simp; omega)

set_option maxHeartbeats 4000000 in
set_option maxRecDepth 100000 in
theorem refHex_d (a : Option Addr) (len cap : Nat) (zs : List Int) (w : World) (hb : Bs w a len zs) (hm : len ≤ 1000000) :
    Calls Tryz.prog 16 #[.slice a len cap] w fun e w' => e = .returned (.string (strOfNums (hexE zs))) ∧ Below w.heap.size w w' := by
  have hbyE := hexE_byt zs hb.2.1
  obtain ⟨hz, hby, hc⟩ := hb
  go_enter Tryz.func16, Tryz.ntmps16
  go_wp2_with fail
  go_loopw [4, 5] (fun v i wr => ∃ j : Nat, j ≤ len ∧ i = .int .i64 j ∧ wr.ownsRow w.heap.size 5 1 v (2 * j) (byteVals (hexE (zs.take j))) ∧ Below w.heap.size w wr) (fun _ i _ => len - (intOf i).toNat)
  case atStart => exact ⟨0, by omega, rfl, ⟨rfl, .inl ⟨rfl, rfl⟩⟩, Below.refl _ _⟩
  case round =>
    obtain ⟨j, hj, rfl, ho, hw⟩ := hrel
    by_cases hlt : j < len
    · obtain ⟨b', off, rfl, hcell⟩ := hc (by omega)
      have hck := cell_later hw (hcell j hlt)
      have hbk := hby _ (getD_mem (l := zs) (k := j) (by omega))
      have hts := hide1 (take_snoc zs j (by omega))
      generalize hcc : zs.getD j 0 = c at *
      obtain ⟨c, rfl⟩ := Int.eq_ofNat_of_zero_le hbk.1
      have hc256 : c < 256 := by omega
      clear hcc hc hcell hbk
      have hZ := hexC_z
      obtain ⟨d1, hd1⟩ : ∃ d, Hid (d = c / 16) := ⟨_, hide1 rfl⟩
      obtain ⟨d2, hd2⟩ : ∃ d, Hid (d = c % 16) := ⟨_, hide1 rfl⟩
      have q1 : IntKind.u8.wrap ((c : Int) / 16) = (d1 : Int) := by rw [hd1.out, ← wrap_u8 (c / 16) (by omega)]; congr 1
      have q2 : (c : Int).tmod 16 = (d2 : Int) := by rw [hd2.out]; rfl
      have r1 : (d1 : Int) < 16 := by rw [hd1.out]; omega
      have r2 : (d2 : Int) < 16 := by rw [hd2.out]; omega
      have Hg := hexC_at d1 (by rw [hexC_z]; omega)
      have Hg2 := hexC_at d2 (by rw [hexC_z]; omega)
      go_wp2_with fail
      rw [show (⟨#[48, 49, 50, 51, 52, 53, 54, 55, 56, 57, 97, 98, 99, 100, 101, 102]⟩ : ByteArray) = hexC from rfl]
      have hoD : wr.drew.ownsRow w.heap.size 5 1 u4 (2 * j) (byteVals (hexE (zs.take j))) := ho
      have hwD : Below w.heap.size w wr.drew := hw.drew
      go_region_law (refine step_append_bs rfl (.tmp 12) (.tmp 27) rfl w.heap.size u4 (2 * j) (byteVals (hexE (zs.take j))) (by first | (simp [Act.eval]; done) | (simp [Act.eval, Act.put]; done) | rfl) (hoD.alloc _) (some ⟨wr.heap.size, 0, none⟩) 2 2 [hxS (d1 : Int), hxS (d2 : Int)] (by first | (simp [Act.eval]; done) | (simp [Act.eval, Act.put]; done) | rfl) (bs_two' wr.drew _ _ (hxS_byte (by omega) (by omega)) (hxS_byte (by omega) (by omega))) (by omega) (by have := hw.size; simp; omega) ?_; intro v1 w1 ho1 hg1; have hw1 := below_app hwD (Nat.le_refl _) hoD hg1)
      all_goals
        rw [byteVals_app] at ho1
        simp only [Act.put, List.setIfInBounds_toArray]
        rw [show hexC = (⟨#[48, 49, 50, 51, 52, 53, 54, 55, 56, 57, 97, 98, 99, 100, 101, 102]⟩ : ByteArray) from rfl]
        clear hck Hg Hg2 q1 q2 ho hoD hg1
        go_wp2_with fail
        go_roundw
        case rel =>
          refine ⟨j + 1, by omega, by go_num, ?_, hw1⟩
          rw [hts.out, hexE_app]
          simp only [hexE]
          rw [show (c : Int) / 16 = (d1 : Int) by rw [hd1.out]; omega, show (c : Int) % 16 = (d2 : Int) by rw [hd2.out]; omega]
          exact ho1
        case measure => simp [intOf]; omega
    · obtain rfl : j = len := by omega
      rw [List.take_of_length_le (by omega)] at ho
      obtain ⟨a1, c1, rfl, hb1, _⟩ := bs_owned ho hbyE
      have k1 := conv_bs hb1 c1
      go_wp2
      go_ret
      exact ⟨rfl, hw⟩
end Go.Proofs.YtdhmonlhlfkjbaaGreatDoor

namespace Go.Proofs.YtdhmonlhlfkjbaaGreatDoor
open Go.RowKit Go.Maps

structure Pl (w u : World) (g : Nat) (cs : Array Value) (t : TypeId) (v : Value) (n : Nat) (out : List Int) : Prop where
  row : u.heap[g]? = some (.cells cs t (0, 0))
  lo : w.heap.size ≤ g
  own : u.ownsRow w.heap.size 5 1 v n (byteVals out)
  ne : ∀ q, v.ownBlock = some q → q ≠ g
  bel : Below w.heap.size w u
theorem Pl.new {w u : World} {v : Value} {n : Nat} {out : List Int} (ho : u.ownsRow w.heap.size 5 1 v n (byteVals out)) (hw : Below w.heap.size w u) (cs : Array Value) (t : TypeId) : Pl w (u.alloc (.cells cs t)) u.heap.size cs t v n out :=
  ⟨(MapKept.heap_alloc u _).1, hw.size, ho.alloc _, fun q hq => by have := (ho.lt q hq).2; omega, hw.alloc hw.size _⟩
theorem own_ne {w u : World} {v : Value} {n : Nat} {xs : List Value} {B e : Nat} (h : w.ownsRow B e 1 v n xs) (hk : ∀ q, v.ownBlock = some q → u.heap[q]? = w.heap[q]?) : u.ownsRow B e 1 v n xs := by
  refine ⟨h.1, ?_⟩
  rcases h.2 with e | ⟨q, cap, cur, rfl, hb, hg, r⟩
  · exact .inl e
  · exact .inr ⟨q, cap, cur, rfl, hb, (hk q rfl).trans hg, r⟩
theorem Pl.set {w u : World} {g : Nat} {cs : Array Value} {t : TypeId} {v : Value} {n : Nat} {out : List Int} (h : Pl w u g cs t v n out) (i : Nat) (x : Value) : Pl w (u.setCell ⟨g, i, none⟩ x) g (cs.setIfInBounds i x) t v n out :=
  ⟨by simp [World.setCell, h.row, Array.getElem?_modify], h.lo, own_ne h.own fun q hq => Below.heap_setCell _ _ _ _ (by simpa using h.ne q hq), h.ne, h.bel.setCell h.lo _⟩
theorem Pl.cell {w u : World} {g : Nat} {cs : Array Value} {t : TypeId} {v : Value} {n : Nat} {out : List Int} (h : Pl w u g cs t v n out) (i : Nat) : u.cell? ⟨g, i, none⟩ = cs[i]? := by simp [World.cell?, h.row]
theorem Pl.bs {w u : World} {g : Nat} {zs : List Int} {v : Value} {n : Nat} {out : List Int} (h : Pl w u g (zs.map (Value.int .u8)).toArray 5 v n out) (hz : Byt zs) : Bs u (some ⟨g, 0, none⟩) zs.length zs := by
  refine ⟨rfl, hz, fun _ => ⟨g, 0, rfl, fun i hi => ?_⟩⟩
  rw [Nat.zero_add, h.cell]
  simp [hi]
end Go.Proofs.YtdhmonlhlfkjbaaGreatDoor

namespace Go.Proofs.YtdhmonlhlfkjbaaGreatDoor
open Go.RowKit

def numsOf (s : ByteArray) : List Int := s.data.toList.map fun b => ((b.toNat : Nat) : Int)
theorem numsOf_byt (s : ByteArray) : Byt (numsOf s) := by
  intro z hz
  obtain ⟨b, _, rfl⟩ := List.mem_map.1 hz
  exact u8b b
theorem numsOf_str (s : ByteArray) : strOfNums (numsOf s) = s := by
  apply ByteArray.ext
  apply Array.ext'
  rw [strOfNums_data]
  unfold numsOf
  rw [List.map_map]
  conv => rhs; rw [← List.map_id s.data.toList]
  apply List.map_congr_left
  intro b _
  simp
end Go.Proofs.YtdhmonlhlfkjbaaGreatDoor

namespace Go.Proofs.YtdhmonlhlfkjbaaGreatDoor
open Go.RowKit Go.Maps

def bA (l : List Int) : Array Value := (l.map (Value.int .u8)).toArray
theorem bA_size (l : List Int) : (bA l).size = l.length := by simp [bA]
theorem bA_one (l : List Int) : ∀ v ∈ (bA l).toList, v.oneCell' = true := by
  intro v hv
  simp only [bA, List.mem_map] at hv
  obtain ⟨z, _, rfl⟩ := hv
  rfl
def zL (n : Nat) : List Int := List.replicate n 0
theorem st_bA {w : World} {b : Nat} {c : Array Value} {t0 : TypeId} {l : List Int} (hr : w.heap[b]? = some (.cells c t0 (0, 0))) (hs : c.size = l.length) : (storeCells ⟨b, 0, none⟩ (bA l).toList).run Tryz.prog w = .ok () (w.setRow b (bA l)) := by
  have := run_storeCells_from (P := Tryz.prog) b t0 (bA l).toList 0 c w hr (by simp [bA_size, hs]) (bA_one l)
  simpa using this
theorem rng_bA {w : World} {b : Nat} {l : List Int} {n : Nat} (hn : l.length = n) (hc : ∀ i, i < n → w.cell? ⟨b, i, none⟩ = some (.int .u8 (l.getD i 0))) : w.rangeAt b 0 (l.map (Value.int .u8)) := by
  intro j v hj
  have hjl : j < l.length := by
    rcases Nat.lt_or_ge j l.length with h | h
    · exact h
    · rw [List.getElem?_eq_none (by simpa using h)] at hj; cases hj
  rw [Nat.zero_add, hc j (by omega)]
  simp [hjl] at hj
  simp [hjl, hj]
theorem row_set {w : World} {b : Nat} {c c' : Array Value} {t : TypeId} (h : w.heap[b]? = some (.cells c t (0, 0))) : (w.setRow b c').heap[b]? = some (.cells c' t (0, 0)) := setRow_heap _ _ _ _ _ _ h
theorem bel_set {B : Nat} {w u : World} {b : Nat} {c' : Array Value} (h : Below B w u) (hb : B ≤ b) : Below B w (u.setRow b c') :=
  ⟨h.os, h.tape, h.output, by simpa [World.setRow] using h.size, fun k hk => (setRow_other u b k c' (by omega)).trans (h.block k hk)⟩
def fx (n : Nat) (o : Option (List Int)) : Option (List Int) := match o with
  | none => none
  | some l => if l.length = n then some l else none
def AnFb (n : Nat) (o : Option (List Int)) (e : Ending) : Prop := match o with
  | none => e = .returned (.tuple #[.agg (bA (zL n)), .iface 64 (.int .i64 1)])
  | some l => e = .returned (.tuple #[.agg (bA l), .nilIface])

theorem results_ct {fn : Func} {p q : Tmp} {ty : TypeId} {u : World} {b : Nat} {c : Array Value} {t0 : TypeId} {n : Nat} {e : TypeId} {x : Value} (h : fn.results = #[.cell p ty, .tmp q]) (tmps : Array Value) (ht : tmps.getD p undef = .pointer (some ⟨b, 0, none⟩)) (hq : tmps.getD q undef = x)
    (hu : Tryz.prog.underlying ty = some (.array n e)) (hi : (Tryz.prog.info? ty).map (·.size) = some c.size) (hrow : u.heap[b]? = some (.cells c t0 (0, 0))) : (results fn tmps).run Tryz.prog u = .ok (.tuple #[.agg c, x]) u := by
  have hr := run_loadVar_row (P := Tryz.prog) u b t0 ty c (0, 0) _ hrow hu rfl hi
  have ht2 : tmps[p]?.getD undef = .pointer (some ⟨b, 0, none⟩) := by simpa using ht
  have hq2 : tmps[q]?.getD undef = x := by simpa using hq
  simp [results, h, ht2, hq2, asAddr, hr, Result.andThen]
theorem fx_no {n : Nat} {l : List Int} (h : l.length ≠ n) : fx n (some l) = none := if_neg h
theorem fx_yes {n : Nat} {l : List Int} (h : l.length = n) : fx n (some l) = some l := if_pos h

set_option maxHeartbeats 4000000 in
set_option maxRecDepth 100000 in
theorem sum_d (zs : List Int) (hz : Byt zs) (hm : zs.length ≤ 1000000) (w : World) :
    Calls Tryz.prog 62 #[.string (strOfNums zs)] w fun e w' => AnFb 32 (fx 32 (ga4 .z zs)) e ∧ Below w.heap.size w w' := by
  have H := fun w => unhex_d zs hz hm w
  have hY : ∀ l, ga4 .z zs = some l → Byt l := fun l h => (hexE_ga4 zs l hz h).2
  generalize ga4 .z zs = A at *
  generalize strOfNums zs = S at *
  clear hz
  have hzs : ∀ w : World, (zeroValue 42).run Tryz.prog w = .ok (.agg (bA (zL 32))) w := fun w => by kernel_rfl
  obtain ⟨Z, hZ⟩ : ∃ Z, Hid (Z = bA (zL 32)) := ⟨_, hide1 rfl⟩
  rw [← hZ.out] at hzs
  have P0 := (MapKept.heap_alloc w (.cells Z 42)).1
  have Pw := below_one w (.cells Z 42)
  have hsz : Z.size = 32 := by rw [hZ.out]; rfl
  obtain ⟨u, hu⟩ : ∃ u, Hid (u = w.alloc (.cells Z 42)) := ⟨_, hide1 rfl⟩
  rw [← hu.out] at P0 Pw
  rcases A with _ | l
  · go_enter Tryz.func62, Tryz.ntmps62
    go_wp2_with fail
    rw [← hu.out]
    refine (H _).mono ?_
    rintro e w1 ⟨h, hw1⟩
    obtain rfl := h
    have r1 := (hw1.block w.heap.size (Array.getElem?_eq_some_iff.1 P0).1).trans P0
    have hst : (storeCells ⟨w.heap.size, 0, none⟩ Z.toList).run Tryz.prog w1 = .ok () (w1.setRow w.heap.size Z) := by
      have := st_bA (l := zL 32) r1 hsz
      rw [← hZ.out] at this; exact this
    have r2 := hide1 (row_set (c' := Z) r1)
    clear r1
    go_wp2_with fail
    exact bodyPost_ret (results_ct rfl _ rfl rfl Tryz.underlying42 (by rw [hsz]; kernel_rfl) r2.out) rfl ⟨by rw [hZ.out]; rfl, bel_set (bl2 Pw hw1) (Nat.le_refl _)⟩
  · have hYl := hY l rfl
    clear hY
    go_enter Tryz.func62, Tryz.ntmps62
    go_wp2_with fail
    rw [← hu.out]
    refine (H _).mono ?_
    rintro e w1 ⟨h, hw1⟩
    obtain ⟨v, rfl, ho⟩ := h
    by_cases hl : l.length = 32
    · rw [hl] at ho
      obtain ⟨g, cp, rfl, -, -, hcm, hcl⟩ := owned_form ho (by omega)
      have hcm : cp ≤ 9223372036854775807 := by unfold maxLen at hcm; exact hcm
      have hl' := hide1 hl
      clear hl
      have r1 := (hw1.block w.heap.size (Array.getElem?_eq_some_iff.1 P0).1).trans P0
      have hrng : w1.rangeAt g 0 (l.map (Value.int .u8)) := rng_bA hl'.out hcl
      have hst : (storeCells ⟨w.heap.size, 0, none⟩ (bA l).toList).run Tryz.prog w1 = .ok () (w1.setRow w.heap.size (bA l)) := st_bA r1 (hsz.trans hl'.out.symm)
      have r2 := hide1 (row_set (c' := bA l) r1)
      have zl : (bA l).size = 32 := by rw [bA_size, hl'.out]
      clear r1 hcl ho
      obtain ⟨Y, hYY⟩ : ∃ Y, Hid (Y = bA l) := ⟨_, hide1 rfl⟩
      rw [← hYY.out] at hst r2 zl
      have har : (Instr.arrayAt 42 (.slice (some ⟨g, 0, none⟩) 32 cp)).run Tryz.prog w1 = .ok (.pointer (some ⟨g, 0, none⟩)) w1 := by kernel_rfl
      go_wp2_with (refine wpList_load_mid rfl 42 (.tmp 21) rfl g 0 rfl (l.map (Value.int .u8)) _ hrng Tryz.underlying42 rfl (by rw [List.length_map, hl'.out]; kernel_rfl) ?_; rw [show (l.map (Value.int .u8)).toArray = Y from hYY.out.symm])
      exact bodyPost_ret (results_ct rfl _ rfl rfl Tryz.underlying42 (by rw [zl]; kernel_rfl) r2.out) rfl ⟨by rw [fx_yes hl'.out, hYY.out]; rfl, bel_set (bl2 Pw hw1) (Nat.le_refl _)⟩
    · obtain ⟨a1, c1, rfl, -, -⟩ := bs_owned ho hYl
      clear ho
      have r1 := (hw1.block w.heap.size (Array.getElem?_eq_some_iff.1 P0).1).trans P0
      have hst : (storeCells ⟨w.heap.size, 0, none⟩ Z.toList).run Tryz.prog w1 = .ok () (w1.setRow w.heap.size Z) := by
        have := st_bA (l := zL 32) r1 hsz
        rw [← hZ.out] at this; exact this
      have r2 := hide1 (row_set (c' := Z) r1)
      clear r1
      go_wp2_with fail
      exact bodyPost_ret (results_ct rfl _ rfl rfl Tryz.underlying42 (by rw [hsz]; kernel_rfl) r2.out) rfl ⟨by rw [hZ.out]; rw [fx_no hl]; rfl, bel_set (bl2 Pw hw1) (Nat.le_refl _)⟩
set_option maxHeartbeats 4000000 in
set_option maxRecDepth 100000 in
theorem wide_d (zs : List Int) (hz : Byt zs) (hm : zs.length ≤ 1000000) (w : World) :
    Calls Tryz.prog 114 #[.string (strOfNums zs)] w fun e w' => AnFb 64 (fx 64 (d64 zs)) e ∧ Below w.heap.size w w' := by
  have H := fun w => unbase64_d zs hz hm w
  have hY : ∀ l, d64 zs = some l → Byt l := fun l h => (b64E_d64 zs l hz h).2
  generalize d64 zs = A at *
  generalize strOfNums zs = S at *
  clear hz
  have hzs : ∀ w : World, (zeroValue 30).run Tryz.prog w = .ok (.agg (bA (zL 64))) w := fun w => by kernel_rfl
  obtain ⟨Z, hZ⟩ : ∃ Z, Hid (Z = bA (zL 64)) := ⟨_, hide1 rfl⟩
  rw [← hZ.out] at hzs
  have P0 := (MapKept.heap_alloc w (.cells Z 30)).1
  have Pw := below_one w (.cells Z 30)
  have hsz : Z.size = 64 := by rw [hZ.out]; rfl
  obtain ⟨u, hu⟩ : ∃ u, Hid (u = w.alloc (.cells Z 30)) := ⟨_, hide1 rfl⟩
  rw [← hu.out] at P0 Pw
  rcases A with _ | l
  · go_enter Tryz.func114, Tryz.ntmps114
    go_wp2_with fail
    rw [← hu.out]
    refine (H _).mono ?_
    rintro e w1 ⟨h, hw1⟩
    obtain rfl := h
    have r1 := (hw1.block w.heap.size (Array.getElem?_eq_some_iff.1 P0).1).trans P0
    have hst : (storeCells ⟨w.heap.size, 0, none⟩ Z.toList).run Tryz.prog w1 = .ok () (w1.setRow w.heap.size Z) := by
      have := st_bA (l := zL 64) r1 hsz
      rw [← hZ.out] at this; exact this
    have r2 := hide1 (row_set (c' := Z) r1)
    clear r1
    go_wp2_with fail
    exact bodyPost_ret (results_ct rfl _ rfl rfl Tryz.underlying30 (by rw [hsz]; kernel_rfl) r2.out) rfl ⟨by rw [hZ.out]; rfl, bel_set (bl2 Pw hw1) (Nat.le_refl _)⟩
  · have hYl := hY l rfl
    clear hY
    go_enter Tryz.func114, Tryz.ntmps114
    go_wp2_with fail
    rw [← hu.out]
    refine (H _).mono ?_
    rintro e w1 ⟨h, hw1⟩
    obtain ⟨v, rfl, ho⟩ := h
    by_cases hl : l.length = 64
    · rw [hl] at ho
      obtain ⟨g, cp, rfl, -, -, hcm, hcl⟩ := owned_form ho (by omega)
      have hcm : cp ≤ 9223372036854775807 := by unfold maxLen at hcm; exact hcm
      have hl' := hide1 hl
      clear hl
      have r1 := (hw1.block w.heap.size (Array.getElem?_eq_some_iff.1 P0).1).trans P0
      have hrng : w1.rangeAt g 0 (l.map (Value.int .u8)) := rng_bA hl'.out hcl
      have hst : (storeCells ⟨w.heap.size, 0, none⟩ (bA l).toList).run Tryz.prog w1 = .ok () (w1.setRow w.heap.size (bA l)) := st_bA r1 (hsz.trans hl'.out.symm)
      have r2 := hide1 (row_set (c' := bA l) r1)
      have zl : (bA l).size = 64 := by rw [bA_size, hl'.out]
      clear r1 hcl ho
      obtain ⟨Y, hYY⟩ : ∃ Y, Hid (Y = bA l) := ⟨_, hide1 rfl⟩
      rw [← hYY.out] at hst r2 zl
      have har : (Instr.arrayAt 30 (.slice (some ⟨g, 0, none⟩) 64 cp)).run Tryz.prog w1 = .ok (.pointer (some ⟨g, 0, none⟩)) w1 := by kernel_rfl
      go_wp2_with (refine wpList_load_mid rfl 30 (.tmp 21) rfl g 0 rfl (l.map (Value.int .u8)) _ hrng Tryz.underlying30 rfl (by rw [List.length_map, hl'.out]; kernel_rfl) ?_; rw [show (l.map (Value.int .u8)).toArray = Y from hYY.out.symm])
      exact bodyPost_ret (results_ct rfl _ rfl rfl Tryz.underlying30 (by rw [zl]; kernel_rfl) r2.out) rfl ⟨by rw [fx_yes hl'.out, hYY.out]; rfl, bel_set (bl2 Pw hw1) (Nat.le_refl _)⟩
    · obtain ⟨a1, c1, rfl, -, -⟩ := bs_owned ho hYl
      clear ho
      have r1 := (hw1.block w.heap.size (Array.getElem?_eq_some_iff.1 P0).1).trans P0
      have hst : (storeCells ⟨w.heap.size, 0, none⟩ Z.toList).run Tryz.prog w1 = .ok () (w1.setRow w.heap.size Z) := by
        have := st_bA (l := zL 64) r1 hsz
        rw [← hZ.out] at this; exact this
      have r2 := hide1 (row_set (c' := Z) r1)
      clear r1
      go_wp2_with fail
      exact bodyPost_ret (results_ct rfl _ rfl rfl Tryz.underlying30 (by rw [hsz]; kernel_rfl) r2.out) rfl ⟨by rw [hZ.out]; rw [fx_no hl]; rfl, bel_set (bl2 Pw hw1) (Nat.le_refl _)⟩
end Go.Proofs.YtdhmonlhlfkjbaaGreatDoor

namespace Go.Proofs.YtdhmonlhlfkjbaaGreatDoor
open Go.RowKit

theorem dw_nil {p : UInt8 → Bool} : ∀ {l : List UInt8}, l.dropWhile p = [] ↔ ∀ b ∈ l, p b = true
  | [] => by simp
  | x :: l => by
    rw [List.dropWhile_cons]
    cases h : p x with
    | true => simp only [if_true]; rw [dw_nil]; simp [h]
    | false => simp [h]
theorem dw_head {p : UInt8 → Bool} : ∀ {l : List UInt8} {x : UInt8} {r : List UInt8}, l.dropWhile p = x :: r → p x = false
  | [], _, _, h => by simp at h
  | y :: l, x, r, h => by
    rw [List.dropWhile_cons] at h
    cases hy : p y with
    | true => rw [hy, if_pos rfl] at h; exact dw_head h
    | false => rw [hy, if_neg (by decide)] at h; cases h; exact hy
theorem trim_nil {l cs : List UInt8} : Lib.trimS l cs = [] ↔ ∀ b ∈ l, cs.contains b = true := by
  unfold Lib.trimS Lib.trimLeftS Lib.trimRightS
  generalize hr : (l.reverse.dropWhile (cs.contains ·)) = r
  rw [dw_nil]
  constructor
  · intro h
    cases r with
    | nil =>
      rw [dw_nil] at hr
      intro b hb
      exact hr b (by simpa using hb)
    | cons x r =>
      have h1 := h x (by simp)
      have h2 := dw_head hr
      rw [h1] at h2; cases h2
  · intro h
    have : r = [] := by
      rw [← hr, dw_nil]
      intro b hb
      exact h b (by simpa using hb)
    subst this
    simp
def sgs : List UInt8 := [97, 98, 99, 100, 101, 102, 103, 104, 105, 106, 107, 108, 109, 110, 111, 112, 113, 114, 115, 116, 117, 118, 119, 120, 121, 122, 48, 49, 50, 51, 52, 53, 54, 55, 56, 57, 46, 45, 95, 64]
def nmE (z : Int) : Bool := decide (97 ≤ z ∧ z ≤ 122) || decide (48 ≤ z ∧ z ≤ 57) || decide (z = 46) || decide (z = 45) || decide (z = 95) || decide (z = 64)
def nmd (zs : List Int) : Bool := decide (1 ≤ zs.length) && decide (zs.length ≤ 64) && zs.all nmE
theorem sgs_b : ∀ n : Fin 256, sgs.contains (UInt8.ofNat n.val) = nmE (n.val : Int) := by decide +kernel
theorem sgs_z {z : Int} (h : 0 ≤ z ∧ z < 256) : sgs.contains (UInt8.ofNat z.toNat) = nmE z := by
  have := sgs_b ⟨z.toNat, by omega⟩
  simp only at this
  rw [this]
  congr 1; omega
theorem trim_all {zs : List Int} (h : ∀ z ∈ zs, 0 ≤ z ∧ z < 256) : Lib.trimS (strOfNums zs).data.toList sgs = [] ↔ zs.all nmE = true := by
  rw [trim_nil, List.all_eq_true]
  have e : (strOfNums zs).data.toList = zs.map fun n => UInt8.ofNat n.toNat := by unfold strOfNums; simp
  rw [e]
  constructor
  · intro g z hz
    rw [← sgs_z (h z hz)]
    exact g _ (List.mem_map_of_mem hz)
  · intro g b hb
    obtain ⟨z, hz, rfl⟩ := List.mem_map.1 hb
    rw [sgs_z (h z hz)]
    exact g z hz
theorem nil_emp {zs : List Int} (hz : Byt zs) : (strOfNums zs).toList.isEmpty = decide (zs = []) := by
  have hn : ((strOfNums zs).toList == (strOfNums []).toList) = decide (zs = []) := str_beq hz (by simp)
  rw [show (strOfNums []).toList = [] by rw [ByteArray.toList_eq]; rfl] at hn
  rw [← hn]
  cases (strOfNums zs).toList <;> rfl
theorem short_d (zs : List Int) (hz : Byt zs) (w : World) : Calls Tryz.prog 120 #[.string (strOfNums zs)] w fun e w' => e = .returned (.bool (decide (1 ≤ zs.length) && decide (zs.length ≤ 64))) ∧ w' = w := by
  have hsz := str_size zs
  have hn := nil_emp hz
  by_cases h0 : zs = []
  · subst h0
    go_enter Tryz.func120, Tryz.ntmps120
    go_wp2
    go_ret
    exact ⟨rfl, rfl⟩
  · rw [decide_eq_false h0] at hn
    have hl : 1 ≤ zs.length := List.length_pos_iff.2 h0
    rw [decide_eq_true hl]
    clear h0
    generalize strOfNums zs = S at *
    generalize zs.length = N at *
    have h64 : decide ((N : Int) ≤ 64) = decide (N ≤ 64) := by
      by_cases h : N ≤ 64
      · rw [decide_eq_true h, decide_eq_true (by omega)]
      · rw [decide_eq_false h, decide_eq_false (by omega)]
    have hf : decide ((N : Int) ≤ 64) = (true && decide (N ≤ 64)) := by rw [h64]; rfl
    replace hf := hide1 hf
    clear h64
    go_enter Tryz.func120, Tryz.ntmps120
    go_wp2
    all_goals
      go_ret
      refine ⟨?_, rfl⟩
      first | rfl | (rw [← hf.out]; rfl)
theorem name_d (zs : List Int) (hz : Byt zs) (hm : zs.length ≤ 1000000) (w : World) : Calls Tryz.prog 70 #[.string (strOfNums zs)] w fun e w' => e = .returned (.bool (nmd zs)) ∧ Below w.heap.size w w' := by
  have hsz := str_size zs
  have hsh := short_d zs hz w
  have htr := strings_Trim_set (strOfNums zs) ⟨#[97, 98, 99, 100, 101, 102, 103, 104, 105, 106, 107, 108, 109, 110, 111, 112, 113, 114, 115, 116, 117, 118, 119, 120, 121, 122, 48, 49, 50, 51, 52, 53, 54, 55, 56, 57, 46, 45, 95, 64]⟩ w (by omega) (by decide) (by
    have : ∀ b ∈ sgs, b.toNat < 128 := by decide
    intro j b h
    exact this b (List.mem_of_getElem? h))
  have hall : decide (Lib.trimS (strOfNums zs).data.toList sgs = []) = zs.all nmE := by
    by_cases h : zs.all nmE = true
    · rw [h, decide_eq_true (trim_all hz |>.2 h)]
    · rw [decide_eq_false (fun e => h (trim_all hz |>.1 e))]; simp at h; simp [h]
  have hne : (Lib.trimS (strOfNums zs).data.toList sgs).isEmpty = zs.all nmE := by
    rw [← hall]
    cases Lib.trimS (strOfNums zs).data.toList sgs <;> rfl
  change Calls Tryz.prog _ _ w fun e w' => e = .returned (.string ⟨(Lib.trimS (strOfNums zs).data.toList sgs).toArray⟩) ∧ _ at htr
  generalize Lib.trimS (strOfNums zs).data.toList sgs = X at *
  unfold nmd
  generalize (decide (1 ≤ zs.length) && decide (zs.length ≤ 64)) = D at *
  generalize zs.all nmE = A at *
  generalize strOfNums zs = S at *
  clear hsz hall hm hz
  go_enter Tryz.func70, Tryz.ntmps70
  go_wp2_with fail
  refine hsh.mono ?_
  rintro e w1 ⟨rfl, rfl⟩
  cases D with
  | false =>
    go_wp2
    go_ret
    exact ⟨rfl, Below.refl _ _⟩
  | true =>
    go_wp2_with fail
    refine htr.mono ?_
    rintro e w2 ⟨rfl, b2⟩
    cases A <;>
    · go_wp2
      go_ret
      exact ⟨by first | rfl | (rw [hne]; rfl), b2⟩
theorem cell_of {w : World} {b : Nat} {t : TypeId} {c : Array Value} {v : Value} (o : Nat) (h : w.heap[b]? = some (.cells c t (0, 0))) (hc : c[o]? = some v) : w.cell? ⟨b, o, none⟩ = some v := by
  simp only [World.cell?, h]; exact hc
theorem rng_of {w : World} {b : Nat} {t : TypeId} {c : Array Value} (o : Nat) (cs : List Value) (h : w.heap[b]? = some (.cells c t (0, 0))) (hc : (c.toList.drop o).take cs.length = cs) : w.rangeAt b o cs := by
  intro j v hj
  have hjl : j < cs.length := by
    rcases Nat.lt_or_ge j cs.length with h' | h'
    · exact h'
    · rw [List.getElem?_eq_none h'] at hj; cases hj
  refine cell_of (o + j) h ?_
  rw [← hc, List.getElem?_take, if_pos hjl, List.getElem?_drop] at hj
  simpa using hj
theorem load_w {ops : Array Oper} {rest : List Oper} {op : Oper} {a : Act} {w : World} {Q : Exit → Act → World → Prop} (hgd : Region.wanted op (yielded ops a.tmps) = true) (ty : TypeId) (x : Operand) (ho : op.op = .load ty x)
    (b o : Nat) (hx : a.eval x = .pointer (some ⟨b, o, none⟩)) (cs : List Value) (d : TypeDesc) (hc : w.rangeAt b o cs)
    (hu : Tryz.prog.underlying ty = some d) (hd : d.isRow = true) (hi : (Tryz.prog.info? ty).map (·.size) = some cs.length)
    (h : wpList Tryz.prog ops Q rest (a.put op.dst (.agg cs.toArray)) w) : wpList Tryz.prog ops Q (op :: rest) a w := by
  refine wpList_step fun K hK => ?_
  rw [if_pos hgd]
  exact wp_load_mid ty x ho b o hx cs d hc hu hd hi (hK _ _ h)
def zC (n : Nat) : List Value := List.replicate n (.int .u8 0)
def sgC (s : List Int) : List Value := .string (strOfNums s) :: zC 96
def entC (k op : Int) (s : List Int) (sl : Value) : List Value := .int .i64 k :: (zC 32 ++ (.string ⟨#[]⟩ :: .slice none 0 0 :: .int .i64 op :: .string (strOfNums s) :: (zC 32 ++ [sl])))
theorem eq_z {w : World} : (Op.equalIn 10000 28 (.agg (zC 32).toArray) (.agg (zC 32).toArray)).run Tryz.prog w = .ok true w := by kernel_rfl
theorem eq_zl {w : World} : (Op.equalIn 10000 28 (.agg (zC 32).toArray) (.agg #[.int .u8 0, .int .u8 0, .int .u8 0, .int .u8 0, .int .u8 0, .int .u8 0, .int .u8 0, .int .u8 0, .int .u8 0, .int .u8 0, .int .u8 0, .int .u8 0, .int .u8 0, .int .u8 0, .int .u8 0, .int .u8 0, .int .u8 0, .int .u8 0, .int .u8 0, .int .u8 0, .int .u8 0, .int .u8 0, .int .u8 0, .int .u8 0, .int .u8 0, .int .u8 0, .int .u8 0, .int .u8 0, .int .u8 0, .int .u8 0, .int .u8 0, .int .u8 0])).run Tryz.prog w = .ok true w := by kernel_rfl
theorem eq_zs {w : World} : (Op.equalIn 10000 42 (.agg (zC 32).toArray) (.agg (zC 32).toArray)).run Tryz.prog w = .ok true w := by kernel_rfl
theorem below_na {w : World} (o : Obj) : Below w.heap.size w (w.alloc o) := (Below.refl _ _).alloc (Nat.le_refl _) _
theorem heap_na (w : World) (c : Array Value) (t : TypeId) : (w.alloc (.cells c t)).heap[w.heap.size]? = some (.cells c t (0, 0)) := by
  show (w.heap.push _)[w.heap.size]? = _
  rw [Array.getElem?_push, if_pos rfl]
set_option maxHeartbeats 4000000 in
set_option maxRecDepth 100000 in
theorem signer_h (s : List Int) (hz : Byt s) (hm : s.length ≤ 1000000) (w : World) : Calls Tryz.prog 81 #[.agg (sgC s).toArray] w fun e w' => e = .returned (.bool (decide (s = []) || nmd s)) ∧ Below w.heap.size w w' := by
  have hn := nil_emp hz
  have hb := heap_na w (sgC s).toArray 32
  have bb := below_na (w := w) (.cells (sgC s).toArray 32)
  have hnm := name_d s hz hm
  obtain ⟨wb, hwb⟩ : ∃ wb, wb = w.alloc (.cells (sgC s).toArray 32) := ⟨_, rfl⟩
  rw [← hwb] at hb bb
  have c0 : wb.cell? ⟨w.heap.size, 0, none⟩ = some (.string (strOfNums s)) := cell_of 0 hb rfl
  generalize decide (s = []) = D at *
  replace hnm := hide1 (hnm wb)
  generalize nmd s = X at *
  generalize strOfNums s = S at *
  replace bb := hide1 bb
  go_enter Tryz.func81, Tryz.ntmps81
  go_upto_region 1 with fail
  rw [← hwb]
  clear hwb
  cases D with
  | true =>
    clear hnm
    go_wp2
    go_ret
    exact ⟨rfl, bb.out⟩
  | false =>
    replace hnm := hnm.out
    go_wp2_with fail
    refine hnm.mono ?_
    rintro e w1 ⟨rfl, b1⟩
    have B1 := hide1 (bb.out.trans (b1.mono bb.out.size))
    have hb1 := (b1.block w.heap.size (Array.getElem?_eq_some_iff.1 hb).1).trans hb
    cases X with
    | false =>
      clear hb1 b1 hb
      go_wp2
      go_ret
      exact ⟨rfl, B1.out⟩
    | true =>
      have r1 := hide1 (rng_of 1 (zC 32) hb1 rfl)
      clear hb1 b1 hb
      have hE := fun w => @eq_zl w
      go_wp2_with (first | (refine load_w (by first | rfl | (simp [Region.wanted, yielded]; done)) 28 (.tmp 11) rfl w.heap.size 1 rfl (zC 32) _ r1.out Tryz.underlying28 rfl (by kernel_rfl) ?_) | fail)
      go_ret
      exact ⟨rfl, B1.out⟩
def setL (c : Array Value) (o : Nat) : List Value → Array Value
  | [] => c
  | v :: r => setL (c.setIfInBounds o v) (o + 1) r
theorem setCells_row {b : Nat} {t : TypeId} : ∀ (vs : List Value) (o : Nat) (w : World) (c : Array Value), w.heap[b]? = some (.cells c t (0, 0)) → vs ≠ [] → w.setCells b o vs = w.setRow b (setL c o vs)
  | [], _, _, _, _, h => absurd rfl h
  | [v], o, w, c, h, _ => by
    show w.setCell ⟨b, o, none⟩ v = _
    rw [setCell_eq_setRow w b o c t (0, 0) v h]; rfl
  | v :: u :: r, o, w, c, h, _ => by
    show (w.setCell ⟨b, o, none⟩ v).setCells b (o + 1) (u :: r) = _
    rw [setCell_eq_setRow w b o c t (0, 0) v h, setCells_row (u :: r) (o + 1) _ _ (setRow_heap _ _ _ _ _ _ h) (by simp), setRow_setRow]; rfl
theorem there_of {w : World} {b : Nat} {t : TypeId} {c : Array Value} {o n : Nat} (h : w.heap[b]? = some (.cells c t (0, 0))) (hs : o + n ≤ c.size) : w.there b o n := fun j hj => by
  simp only [World.cell?, h]
  rw [Array.getElem?_eq_getElem (by omega)]
  exact ⟨rfl, by simp [World.frozen?, h]⟩
theorem results_e {fn : Func} {p : Tmp} {u : World} {b : Nat} {c : Array Value} {t0 : TypeId} (h : fn.results = #[.cell p 45]) (tmps : Array Value) (ht : tmps.getD p undef = .pointer (some ⟨b, 0, none⟩))
    (hi : c.size = 70) (hrow : u.heap[b]? = some (.cells c t0 (0, 0))) : (results fn tmps).run Tryz.prog u = .ok (.agg c) u := by
  have hr := run_loadVar_row (P := Tryz.prog) u b t0 45 c (0, 0) _ hrow Tryz.underlying45 (by rfl) (by rw [hi]; kernel_rfl)
  have ht2 : tmps[p]?.getD undef = .pointer (some ⟨b, 0, none⟩) := by simpa using ht
  simp [results, h, ht2, asAddr, hr]
def entA (k op : Int) (s : List Int) (sl : Value) : Array Value := (entC k op s sl).toArray
theorem body_1 (sl : Value) (w : World) : Calls Tryz.prog 38 #[.agg (entA 1 0 [] sl)] w fun e w' => e = .returned (.bool true) ∧ Below w.heap.size w w' := by
  have hb := heap_na w (entA 1 0 [] sl) 45
  have bb := below_na (w := w) (.cells (entA 1 0 [] sl) 45)
  obtain ⟨wb, hwb⟩ : ∃ wb, wb = w.alloc (.cells (entA 1 0 [] sl) 45) := ⟨_, rfl⟩
  rw [← hwb] at hb bb
  have c0 : wb.cell? ⟨w.heap.size, 0, none⟩ = some (.int .i64 1) := cell_of 0 hb rfl
  replace bb := hide1 bb
  clear hb
  go_enter Tryz.func38, Tryz.ntmps38
  go_upto_region 1 with fail
  rw [← hwb]
  clear hwb
  go_wp2
  go_ret
  exact ⟨rfl, bb.out⟩
set_option maxHeartbeats 2000000 in
set_option maxRecDepth 100000 in
theorem own_1 (sa : Option Addr) (sn sc : Nat) (w : World) : Calls Tryz.prog 37 #[.agg (entA 1 0 [] (.slice sa sn sc))] w fun e w' => e = .returned (.agg (entA 1 0 [] (.slice sa sn sc))) ∧ Below w.heap.size w w' := by
  obtain ⟨wb, hwb⟩ : ∃ wb, wb = (w.alloc (.cells (entA 1 0 [] (.slice sa sn sc)) 45)).alloc (.cells Tryz.zeroCells45 45) := ⟨_, rfl⟩
  have bb : Below w.heap.size w wb := by rw [hwb]; exact (below_na _).alloc (by simp) _
  have hb : wb.heap[w.heap.size]? = some (.cells (entA 1 0 [] (.slice sa sn sc)) 45 (0, 0)) := by
    rw [hwb]
    show ((w.heap.push _).push _)[w.heap.size]? = _
    rw [Array.getElem?_push, if_neg (by simp), Array.getElem?_push, if_pos rfl]
  have hr : wb.heap[w.heap.size + 1]? = some (.cells Tryz.zeroCells45 45 (0, 0)) := by
    rw [hwb]
    show ((w.heap.push _).push _)[w.heap.size + 1]? = _
    rw [Array.getElem?_push, if_pos (by simp)]
  have hs : wb.heap.size = w.heap.size + 2 := by rw [hwb]; simp
  have c0 : wb.cell? ⟨w.heap.size, 0, none⟩ = some (.int .i64 1) := cell_of 0 hb rfl
  have c7 : wb.cell? ⟨w.heap.size, 69, none⟩ = some (.slice sa sn sc) := cell_of 69 hb rfl
  have ha := heap_na wb Tryz.zeroCells45 45
  have hone : (entA 1 0 [] (.slice sa sn sc)).all (·.oneCell') = true := by kernel_rfl
  replace bb := hide1 bb
  replace hs := hide1 hs
  go_enter Tryz.func37, Tryz.ntmps37
  go_upto_region 1 with fail
  rw [← hwb]
  clear hwb
  go_upto_region 2 with (first | (refine wpList_store_row rfl 45 (.tmp 3) (.tmp 8) rfl wb.heap.size (entA 1 0 [] (.slice sa sn sc)) rfl (by kernel_rfl) 45 _ ha (by kernel_rfl) (by kernel_rfl) hone ?_) | fail)
  obtain ⟨w1, hw1⟩ : ∃ w1, w1 = (wb.alloc (.cells Tryz.zeroCells45 45)).setRow wb.heap.size (entA 1 0 [] (.slice sa sn sc)) := ⟨_, rfl⟩
  rw [← hw1]
  have h1 : w1.heap[wb.heap.size]? = some (.cells (entA 1 0 [] (.slice sa sn sc)) 45 (0, 0)) := by rw [hw1]; exact setRow_heap _ _ _ _ _ _ ha
  have b1 : Below wb.heap.size wb w1 := by rw [hw1]; exact bel_set (below_na _) (Nat.le_refl _)
  have hz := hs.out
  have c0' : w1.cell? ⟨w.heap.size, 0, none⟩ = some (.int .i64 1) := cell_of 0 ((b1.block _ (by omega)).trans hb) rfl
  have r1 := hide1 (rng_of 1 (zC 32) ((b1.block _ (by omega)).trans hb) rfl)
  have hr1 := (b1.block (w.heap.size + 1) (by omega)).trans hr
  have ht : w1.there wb.heap.size 1 (zC 32).toArray.size := there_of h1 (show 33 ≤ 70 by decide)
  have hsc := setCells_row (zC 32) 1 w1 _ h1 (by decide)
  rw [show setL (entA 1 0 [] (.slice sa sn sc)) 1 (zC 32) = entA 1 0 [] (.slice sa sn sc) by kernel_rfl] at hsc
  replace hr := hide1 hr
  clear hw1 ha hb c0 c7 hz
  go_upto_region 13 with (first | (refine load_w rfl 42 (.tmp 13) rfl w.heap.size 1 rfl (zC 32) _ r1.out Tryz.underlying42 rfl (by kernel_rfl) ?_) | (refine wpList_store_mid rfl 42 (.tmp 15) (.tmp 14) rfl wb.heap.size 1 (zC 32).toArray rfl rfl ht (by kernel_rfl) (by kernel_rfl) ?_) | fail)
  rw [show w1.setCells wb.heap.size 1 (zC 32) = w1.setRow wb.heap.size (entA 1 0 [] (.slice sa sn sc)) from hsc]
  obtain ⟨w2, hw2⟩ : ∃ w2, w2 = w1.setRow wb.heap.size (entA 1 0 [] (.slice sa sn sc)) := ⟨_, rfl⟩
  rw [← hw2]
  have h2 : w2.heap[wb.heap.size]? = some (.cells (entA 1 0 [] (.slice sa sn sc)) 45 (0, 0)) := by rw [hw2]; exact setRow_heap _ _ _ _ _ _ h1
  have b2 : Below wb.heap.size wb w2 := by rw [hw2]; exact bel_set b1 (Nat.le_refl _)
  have r2 := hide1 (rng_of 0 (entC 1 0 [] (.slice sa sn sc)) h2 rfl)
  have hr2 := (b2.block (w.heap.size + 1) (by have := hs.out; omega)).trans hr.out
  have hfin := hide1 (bel_set (c' := entA 1 0 [] (.slice sa sn sc)) (bb.out.trans (b2.mono bb.out.size)) (show w.heap.size ≤ w.heap.size + 1 by omega))
  have hz := hide1 (setRow_heap w2 (w.heap.size + 1) _ (entA 1 0 [] (.slice sa sn sc)) _ _ hr2)
  clear hw2 hsc r1 h1 b1 c0' ht hr1
  go_wp2_with (first | (refine load_w rfl 45 (.tmp 3) rfl wb.heap.size 0 rfl (entC 1 0 [] (.slice sa sn sc)) _ r2.out Tryz.underlying45 rfl (by kernel_rfl) ?_) | (refine wpList_store_row rfl 45 (.tmp 2) (.tmp 43) rfl (w.heap.size + 1) (entA 1 0 [] (.slice sa sn sc)) rfl rfl 45 _ hr2 (by kernel_rfl) (by kernel_rfl) hone ?_) | fail)
  exact bodyPost_ret (results_e rfl _ rfl rfl hz.out) rfl ⟨rfl, hfin.out⟩
def Sg1 (w : World) (g : Nat) (s : List Int) : Prop := w.rangeAt g 0 (sgC s)
theorem Sg1.of {w : World} {g : Nat} {s : List Int} (h : w.heap[g]? = some (.cells (sgC s).toArray 32 (0, 0))) : Sg1 w g s := rng_of 0 (sgC s) h rfl
theorem Sg1.lt {w : World} {g : Nat} {s : List Int} (h : Sg1 w g s) : g < w.heap.size := by
  have h0 := h 0 _ rfl
  rcases Nat.lt_or_ge g w.heap.size with h' | h'
  · exact h'
  · simp [World.cell?, Array.getElem?_eq_none h'] at h0
theorem Sg1.keep {w w' : World} {g : Nat} {s : List Int} (h : Sg1 w g s) (hk : w'.heap[g]? = w.heap[g]?) : Sg1 w' g s := fun j v hj => (World.cell?_of_block hk).trans (h j v hj)
theorem Sg1.below {w w' : World} {g : Nat} {s : List Int} (h : Sg1 w g s) (hb : Below w.heap.size w w') : Sg1 w' g s := h.keep (hb.block g h.lt)
theorem ldSg {w : World} {g : Nat} {s : List Int} (h : Sg1 w g s) : (Instr.loadAt 32 (.pointer (some ⟨g, 0, none⟩))).run Tryz.prog w = .ok (.agg (sgC s).toArray) w :=
  run_loadAt_mid w g 0 32 (sgC s) _ h Tryz.underlying32 rfl (by kernel_rfl)
def alc : List Int := [97, 108, 105, 99, 101]
def Tld (s : List Int) : Prop := ∀ w : World, (binOp .neq 32 (.agg (sgC s).toArray) (.agg (sgC s).toArray)).run Tryz.prog w = .ok (.bool false) w
theorem tld_a : Tld alc := fun w => by kernel_rfl
theorem eg_sg {x u : Operand} (s : List Int) (w : World) : (eqGuard .neq 32 x u (.agg (sgC s).toArray) (.agg (sgC s).toArray)).run Tryz.prog w = .ok () w := by
  simp [eqGuard, go_sem]
set_option maxHeartbeats 4000000 in
set_option maxRecDepth 100000 in
theorem sigs_eq {g g2 c c2 : Nat} {s : List Int} (hq : Tld s) {w : World} (h : Sg1 w g s) (h2 : Sg1 w g2 s) : Calls Tryz.prog 23 #[.slice (some ⟨g, 0, none⟩) 1 c, .slice (some ⟨g2, 0, none⟩) 1 c2] w fun e w' => e = .returned (.bool true) ∧ Below w.heap.size w w' := by
  replace h := hide1 h
  replace h2 := hide1 h2
  go_enter Tryz.func23, Tryz.ntmps23
  go_wp2_with fail
  refine wp_loop_rounds 2 ?_
  rw [rounds_succ]
  go_upto_region 6 with fail
  refine wp_flowG 8 _ _ (by kernel_rfl) (by kernel_rfl) (by kernel_rfl) rfl (fun j v_ _ => v_ = ([(.slice (some ⟨g, 0, none⟩) 1 c), (.int .i64 0), (.pointer (some ⟨g, 0, none⟩)), (.agg (sgC s).toArray), (.slice (some ⟨g2, 0, none⟩) 1 c2), (.int .i64 0), (.pointer (some ⟨g2, 0, none⟩)), (.agg (sgC s).toArray), (.bool false)] : List Value).getD j undef) (fun _ _ _ _ h _ => h) ?_ ?_
  · intro j op hop hj a wa hwa hsz hsl hdep K hK
    match j, hop with
    | 0, hop =>
      obtain rfl := Option.some.inj hop
      have p0 : a.tmps.getD 0 undef = (.slice (some ⟨g, 0, none⟩) 1 c) := hsl 0 rfl
      exact .plain rfl (wp_val (w' := wa) (v := (.slice (some ⟨g, 0, none⟩) 1 c)) (by simp only [execOp, Act.eval]; rw [show a.tmps.getD 0 undef = _ from p0]; rfl) (hK _ _ (Below.refl _ _) rfl))
    | 1, hop =>
      obtain rfl := Option.some.inj hop
      have p5 : a.tmps.getD 5 undef = (.int .i64 0) := hsl 5 rfl
      exact .plain rfl (wp_val (w' := wa) (v := (.int .i64 0)) (by simp only [execOp, Act.eval]; rw [show a.tmps.getD 5 undef = _ from p5]; rfl) (hK _ _ (Below.refl _ _) rfl))
    | 2, hop =>
      obtain rfl := Option.some.inj hop
      have t0 : a.tmps.getD 16 undef = (.slice (some ⟨g, 0, none⟩) 1 c) := hdep 0 _ 16 rfl rfl ⟨⟨0, .data⟩, by simp, rfl, rfl⟩
      have t1 : a.tmps.getD 17 undef = (.int .i64 0) := hdep 1 _ 17 rfl rfl ⟨⟨1, .data⟩, by simp, rfl, rfl⟩
      exact .plain rfl (wp_val (w' := wa) (v := (.pointer (some ⟨g, 0, none⟩))) (by simp only [execOp, Act.eval]; rw [show a.tmps.getD 16 undef = _ from t0, show a.tmps.getD 17 undef = _ from t1]; kernel_rfl) (hK _ _ (Below.refl _ _) rfl))
    | 3, hop =>
      obtain rfl := Option.some.inj hop
      have t2 : a.tmps.getD 18 undef = (.pointer (some ⟨g, 0, none⟩)) := hdep 2 _ 18 rfl rfl ⟨⟨2, .data⟩, by simp, rfl, rfl⟩
      exact .plain rfl (wp_val (w' := wa) (v := (.agg (sgC s).toArray)) (by simp only [execOp, Act.eval]; rw [show a.tmps.getD 18 undef = _ from t2]; simp only [Sem.run_bind, ldSg (h.out.below hwa), Result.andThen_ok, Sem.run_pure]) (hK _ _ (Below.refl _ _) rfl))
    | 4, hop =>
      obtain rfl := Option.some.inj hop
      have p1 : a.tmps.getD 1 undef = (.slice (some ⟨g2, 0, none⟩) 1 c2) := hsl 1 rfl
      exact .plain rfl (wp_val (w' := wa) (v := (.slice (some ⟨g2, 0, none⟩) 1 c2)) (by simp only [execOp, Act.eval]; rw [show a.tmps.getD 1 undef = _ from p1]; rfl) (hK _ _ (Below.refl _ _) rfl))
    | 5, hop =>
      obtain rfl := Option.some.inj hop
      have p5 : a.tmps.getD 5 undef = (.int .i64 0) := hsl 5 rfl
      exact .plain rfl (wp_val (w' := wa) (v := (.int .i64 0)) (by simp only [execOp, Act.eval]; rw [show a.tmps.getD 5 undef = _ from p5]; rfl) (hK _ _ (Below.refl _ _) rfl))
    | 6, hop =>
      obtain rfl := Option.some.inj hop
      have t4 : a.tmps.getD 20 undef = (.slice (some ⟨g2, 0, none⟩) 1 c2) := hdep 4 _ 20 rfl rfl ⟨⟨4, .data⟩, by simp, rfl, rfl⟩
      have t5 : a.tmps.getD 21 undef = (.int .i64 0) := hdep 5 _ 21 rfl rfl ⟨⟨5, .data⟩, by simp, rfl, rfl⟩
      exact .plain rfl (wp_val (w' := wa) (v := (.pointer (some ⟨g2, 0, none⟩))) (by simp only [execOp, Act.eval]; rw [show a.tmps.getD 20 undef = _ from t4, show a.tmps.getD 21 undef = _ from t5]; kernel_rfl) (hK _ _ (Below.refl _ _) rfl))
    | 7, hop =>
      obtain rfl := Option.some.inj hop
      have t6 : a.tmps.getD 22 undef = (.pointer (some ⟨g2, 0, none⟩)) := hdep 6 _ 22 rfl rfl ⟨⟨6, .data⟩, by simp, rfl, rfl⟩
      exact .plain rfl (wp_val (w' := wa) (v := (.agg (sgC s).toArray)) (by simp only [execOp, Act.eval]; rw [show a.tmps.getD 22 undef = _ from t6]; simp only [Sem.run_bind, ldSg (h2.out.below hwa), Result.andThen_ok, Sem.run_pure]) (hK _ _ (Below.refl _ _) rfl))
    | 8, _ => exact absurd rfl hj
    | _ + 9, hop => exact absurd hop (by simp)
  · intro a wa hwa hdf hsz hsl hrr K hK
    have t3 : a.tmps.getD 19 undef = (.agg (sgC s).toArray) := hrr 3 _ 19 rfl (by decide) rfl
    have t7 : a.tmps.getD 23 undef = (.agg (sgC s).toArray) := hrr 7 _ 23 rfl (by decide) rfl
    refine .plain rfl (wp_val (w' := wa) (v := (.bool false)) (by simp only [execOp, Act.eval]; rw [show a.tmps.getD 19 undef = _ from t3, show a.tmps.getD 23 undef = _ from t7]; simp only [Sem.run_bind, eg_sg, hq wa, Result.andThen_ok, Sem.run_pure]) ?_)
    refine hK _ wa ?_
    have hact := act_puts hdf hsz hsl
    clear hrr hsl hdf hsz hK t3 t7
    simp only [List.filterMap_cons, List.filterMap_nil, List.foldl_cons, List.foldl_nil] at hact
    rw [hact]
    generalize a.tmps.getD 16 undef = y16
    generalize a.tmps.getD 17 undef = y17
    generalize a.tmps.getD 18 undef = y18
    generalize a.tmps.getD 19 undef = y19
    generalize a.tmps.getD 20 undef = y20
    generalize a.tmps.getD 21 undef = y21
    generalize a.tmps.getD 22 undef = y22
    generalize a.tmps.getD 23 undef = y23
    clear hact
    simp only [Act.put, List.setIfInBounds_toArray, List.set_cons_succ, List.set_cons_zero]
    have hfin := hide1 hwa
    clear hwa
    go_wp2
    rw [rounds_succ]
    go_wp2
    go_ret
    exact ⟨rfl, hfin.out⟩
theorem conv_nil (w : World) : (convert 22 9 (.slice none 0 0)).run Tryz.prog w = .ok (.string ⟨#[]⟩) w := run_convert_bytes_nil w 22 5 Tryz.underlying22 Tryz.underlying5 0 0 9 Tryz.underlying9
theorem bytes_eq (w : World) : Calls Tryz.prog 22 #[.slice none 0 0, .slice none 0 0] w fun e w' => e = .returned (.bool true) ∧ w' = w := by
  have hc := conv_nil w
  go_enter Tryz.func22, Tryz.ntmps22
  go_wp2
  go_ret
  exact ⟨rfl, rfl⟩
set_option maxHeartbeats 8000000 in
set_option maxRecDepth 100000 in
theorem equal_e {k op : Int} {t s : List Int} {g g2 c c2 : Nat} (hq : Tld t) {w : World} (h : Sg1 w g t) (h2 : Sg1 w g2 t) : Calls Tryz.prog 14 #[.agg (entA k op s (.slice (some ⟨g, 0, none⟩) 1 c)), .agg (entA k op s (.slice (some ⟨g2, 0, none⟩) 1 c2))] w fun e w' => e = .returned (.bool true) ∧ Below w.heap.size w w' := by
  obtain ⟨E, hE⟩ : ∃ E, E = entA k op s (.slice (some ⟨g, 0, none⟩) 1 c) := ⟨_, rfl⟩
  obtain ⟨E2, hE2⟩ : ∃ E, E = entA k op s (.slice (some ⟨g2, 0, none⟩) 1 c2) := ⟨_, rfl⟩
  obtain ⟨wb, hwb⟩ : ∃ wb, wb = (w.alloc (.cells E 45)).alloc (.cells E2 45) := ⟨_, rfl⟩
  have bb : Below w.heap.size w wb := by rw [hwb]; exact (below_na _).alloc (by simp) _
  have hb : wb.heap[w.heap.size]? = some (.cells E 45 (0, 0)) := by
    rw [hwb]
    show ((w.heap.push _).push _)[w.heap.size]? = _
    rw [Array.getElem?_push, if_neg (by simp), Array.getElem?_push, if_pos rfl]
  have hr : wb.heap[w.heap.size + 1]? = some (.cells E2 45 (0, 0)) := by
    rw [hwb]
    show ((w.heap.push _).push _)[w.heap.size + 1]? = _
    rw [Array.getElem?_push, if_pos (by simp)]
  rw [← hE, ← hE2]
  have hs1 := sigs_eq (c := c) (c2 := c2) hq (h.below bb) (h2.below bb)
  have hf : Hid (∀ wa, Below wb.heap.size wb wa → Below w.heap.size w wa) := hide1 fun wa hb => bb.trans (hb.mono bb.size)
  have hb0 := hb; have hr0 := hr
  rw [hE] at hb0
  rw [hE2] at hr0
  have a0 : wb.cell? ⟨w.heap.size, 0, none⟩ = some (.int .i64 k) := cell_of 0 hb0 rfl
  have a1 : wb.cell? ⟨w.heap.size, 33, none⟩ = some (.string ⟨#[]⟩) := cell_of 33 hb0 rfl
  have a2 : wb.cell? ⟨w.heap.size, 34, none⟩ = some (.slice none 0 0) := cell_of 34 hb0 rfl
  have a3 : wb.cell? ⟨w.heap.size, 35, none⟩ = some (.int .i64 op) := cell_of 35 hb0 rfl
  have a4 : wb.cell? ⟨w.heap.size, 36, none⟩ = some (.string (strOfNums s)) := cell_of 36 hb0 rfl
  have a5 : wb.cell? ⟨w.heap.size, 69, none⟩ = some (.slice (some ⟨g, 0, none⟩) 1 c) := cell_of 69 hb0 rfl
  have b0 : wb.cell? ⟨w.heap.size + 1, 0, none⟩ = some (.int .i64 k) := cell_of 0 hr0 rfl
  have b1 : wb.cell? ⟨w.heap.size + 1, 33, none⟩ = some (.string ⟨#[]⟩) := cell_of 33 hr0 rfl
  have b2 : wb.cell? ⟨w.heap.size + 1, 34, none⟩ = some (.slice none 0 0) := cell_of 34 hr0 rfl
  have b3 : wb.cell? ⟨w.heap.size + 1, 35, none⟩ = some (.int .i64 op) := cell_of 35 hr0 rfl
  have b4 : wb.cell? ⟨w.heap.size + 1, 36, none⟩ = some (.string (strOfNums s)) := cell_of 36 hr0 rfl
  have b5 : wb.cell? ⟨w.heap.size + 1, 69, none⟩ = some (.slice (some ⟨g2, 0, none⟩) 1 c2) := cell_of 69 hr0 rfl
  have ra := hide1 (rng_of 1 (zC 32) hb0 rfl)
  have rb := hide1 (rng_of 1 (zC 32) hr0 rfl)
  have ka := hide1 (rng_of 37 (zC 32) hb0 rfl)
  have kb := hide1 (rng_of 37 (zC 32) hr0 rfl)
  have e23 := fun w => @eq_zs w
  have e25 := fun w => @eq_z w
  have hbe := bytes_eq wb
  generalize strOfNums s = S at *
  clear hb hr hb0 hr0 hE hE2 bb h h2
  go_enter Tryz.func14, Tryz.ntmps14
  go_upto_region 1 with fail
  rw [← hwb]
  clear hwb
  go_wp2_with (first
    | (refine load_w (by first | rfl | (simp [Region.wanted, yielded]; done)) 42 (.tmp 11) rfl w.heap.size 1 rfl (zC 32) _ ra.out Tryz.underlying42 rfl (by kernel_rfl) ?_)
    | (refine load_w (by first | rfl | (simp [Region.wanted, yielded]; done)) 42 (.tmp 13) rfl (w.heap.size + 1) 1 rfl (zC 32) _ rb.out Tryz.underlying42 rfl (by kernel_rfl) ?_)
    | fail)
  refine hbe.mono ?_
  rintro e w1 ⟨rfl, rfl⟩
  go_wp2_with (first
    | (refine load_w (by first | rfl | (simp [Region.wanted, yielded]; done)) 28 (.tmp 46) rfl w.heap.size 37 rfl (zC 32) _ ka.out Tryz.underlying28 rfl (by kernel_rfl) ?_)
    | (refine load_w (by first | rfl | (simp [Region.wanted, yielded]; done)) 28 (.tmp 48) rfl (w.heap.size + 1) 37 rfl (zC 32) _ kb.out Tryz.underlying28 rfl (by kernel_rfl) ?_)
    | fail)
  refine hs1.mono ?_
  rintro e w2 ⟨rfl, b9⟩
  go_wp2
  go_ret
  exact ⟨rfl, hf.out _ b9⟩
set_option maxHeartbeats 8000000 in
set_option maxRecDepth 100000 in
theorem sigs_are {g c : Nat} {s : List Int} (hz : Byt s) (hm : s.length ≤ 1000000) (hh : (decide (s = []) || nmd s) = true) {w : World} (h : Sg1 w g s) : Calls Tryz.prog 39 #[.slice (some ⟨g, 0, none⟩) 1 c] w fun e w' => e = .returned (.bool true) ∧ Below w.heap.size w w' := by
  have r0 := hide1 h
  have ha := heap_na w Tryz.zeroCells32 32
  have hone : (sgC s).toArray.all (·.oneCell') = true := by kernel_rfl
  replace hh := hide1 hh
  replace hz := hide1 hz
  go_enter Tryz.func39, Tryz.ntmps39
  go_wp2_with fail
  refine wp_loop_rounds 2 ?_
  rw [rounds_succ]
  go_upto_region 6 with (first
    | (refine load_w rfl 32 (.tmp 18) rfl g 0 rfl (sgC s) _ r0.out Tryz.underlying32 rfl (by kernel_rfl) ?_)
    | (refine wpList_store_row rfl 32 (.tmp 4) (.tmp 19) rfl w.heap.size (sgC s).toArray rfl rfl 32 _ ha (by kernel_rfl) (by kernel_rfl) hone ?_)
    | fail)
  obtain ⟨w1, hw1⟩ : ∃ w1, w1 = (w.alloc (.cells Tryz.zeroCells32 32)).setRow w.heap.size (sgC s).toArray := ⟨_, rfl⟩
  rw [← hw1]
  simp only [Act.put]
  have hx : Sg1 w1 w.heap.size s := .of (by rw [hw1]; exact setRow_heap _ _ _ _ _ _ ha)
  have b1 : Below w.heap.size w w1 := by rw [hw1]; exact bel_set (below_na _) (Nat.le_refl _)
  replace hx := hide1 hx
  replace b1 := hide1 b1
  replace hz := hz.out
  clear hw1 ha r0 h
  refine wp_flowG 17 _ _ (by kernel_rfl) (by kernel_rfl) (by kernel_rfl) rfl (fun j v_ _ => v_ = ([(.agg (sgC s).toArray), (.bool true), (.bool false), (.bool false), (.int .i64 0), (.bool false), (.bool false), undef, undef, undef, undef, undef, undef, undef, undef, undef, (.bool false), (.bool false)] : List Value).getD j undef) (fun _ _ _ _ h _ => h) ?_ ?_
  · intro j op hop hj a wa hwa hsz hsl hdep K hK
    match j, hop with
    | 0, hop =>
      obtain rfl := Option.some.inj hop
      have p4 : a.tmps.getD 4 undef = (.pointer (some ⟨w.heap.size, 0, none⟩)) := hsl 4 rfl
      exact .plain rfl (wp_val (w' := wa) (v := (.agg (sgC s).toArray)) (by simp only [execOp, Act.eval]; rw [show a.tmps.getD 4 undef = _ from p4]; simp only [Sem.run_bind, ldSg (hx.out.below hwa), Result.andThen_ok, Sem.run_pure]) (hK _ _ (Below.refl _ _) rfl))
    | 1, hop =>
      obtain rfl := Option.some.inj hop
      have t0 : a.tmps.getD 20 undef = (.agg (sgC s).toArray) := hdep 0 _ 20 rfl rfl ⟨⟨0, .data⟩, by simp, rfl, rfl⟩
      refine .plain rfl (oper_any (J := fun r w' => r = (.bool true) ∧ Below wa.heap.size wa w') 81 #[.tmp 20] _ rfl #[(.agg (sgC s).toArray)] (by simp only [List.map_toArray, List.map_cons, List.map_nil, Act.eval]; rw [show a.tmps.getD 20 undef = _ from t0]) (fun w => by kernel_rfl) ((signer_h s hz hm wa).mono fun e w' h => ⟨_, h.1, by rw [hh.out], h.2⟩) ?_)
      rintro r w' ⟨rfl, hb⟩
      exact hK _ _ hb rfl
    | 2, hop =>
      obtain rfl := Option.some.inj hop
      have t1 : a.tmps.getD 21 undef = (.bool true) := hdep 1 _ 21 rfl rfl ⟨⟨1, .data⟩, by simp, rfl, rfl⟩
      exact .plain rfl (wp_val (w' := wa) (v := (.bool false)) (by simp only [execOp, Act.eval]; rw [show a.tmps.getD 21 undef = _ from t1]; kernel_rfl) (hK _ _ (Below.refl _ _) rfl))
    | 3, hop =>
      obtain rfl := Option.some.inj hop
      have t2 : a.tmps.getD 22 undef = (.bool false) := hdep 2 _ 22 rfl rfl ⟨⟨2, .data⟩, by simp, rfl, rfl⟩
      exact .plain rfl (wp_val (w' := wa) (v := (.bool false)) (by simp only [execOp, Act.eval]; rw [show a.tmps.getD 22 undef = _ from t2]; rfl) (hK _ _ (Below.refl _ _) rfl))
    | 4, hop =>
      obtain rfl := Option.some.inj hop
      have gg : a.tmps.getD 23 undef = (.bool false) := hdep 3 _ 23 rfl rfl ⟨⟨3, .guard⟩, by simp, rfl, rfl⟩
      have p3 : a.tmps.getD 3 undef = (.int .i64 0) := hsl 3 rfl
      exact .want rfl rfl (by rw [hsz]; simp) gg (wp_val (w' := wa) (v := (.int .i64 0)) (by simp only [execOp, Act.eval]; rw [show a.tmps.getD 3 undef = _ from p3]; rfl) (hK _ _ (Below.refl _ _) rfl))
    | 5, hop =>
      obtain rfl := Option.some.inj hop
      have gg : a.tmps.getD 23 undef = (.bool false) := hdep 3 _ 23 rfl rfl ⟨⟨3, .guard⟩, by simp, rfl, rfl⟩
      have t4 : a.tmps.getD 24 undef = (.int .i64 0) := hdep 4 _ 24 rfl rfl ⟨⟨4, .data⟩, by simp, rfl, rfl⟩
      exact .want rfl rfl (by rw [hsz]; simp) gg (wp_val (w' := wa) (v := (.bool false)) (by simp only [execOp, Act.eval]; rw [show a.tmps.getD 24 undef = _ from t4]; kernel_rfl) (hK _ _ (Below.refl _ _) rfl))
    | 6, hop =>
      obtain rfl := Option.some.inj hop
      have gg : a.tmps.getD 23 undef = (.bool false) := hdep 3 _ 23 rfl rfl ⟨⟨3, .guard⟩, by simp, rfl, rfl⟩
      have t5 : a.tmps.getD 25 undef = (.bool false) := hdep 5 _ 25 rfl rfl ⟨⟨5, .data⟩, by simp, rfl, rfl⟩
      exact .want rfl rfl (by rw [hsz]; simp) gg (wp_val (w' := wa) (v := (.bool false)) (by simp only [execOp, Act.eval]; rw [show a.tmps.getD 25 undef = _ from t5]; rfl) (hK _ _ (Below.refl _ _) rfl))
    | 7, hop =>
      obtain rfl := Option.some.inj hop
      have gg : a.tmps.getD 26 undef = (.bool false) := hdep 6 _ 26 rfl rfl ⟨⟨6, .guard⟩, by simp, rfl, rfl⟩
      exact .skip rfl rfl (by rw [hsz]; simp) gg (hK _ _ (Below.refl _ _) rfl)
    | 8, hop =>
      obtain rfl := Option.some.inj hop
      have gg : a.tmps.getD 26 undef = (.bool false) := hdep 6 _ 26 rfl rfl ⟨⟨6, .guard⟩, by simp, rfl, rfl⟩
      exact .skip rfl rfl (by rw [hsz]; simp) gg (hK _ _ (Below.refl _ _) rfl)
    | 9, hop =>
      obtain rfl := Option.some.inj hop
      have gg : a.tmps.getD 26 undef = (.bool false) := hdep 6 _ 26 rfl rfl ⟨⟨6, .guard⟩, by simp, rfl, rfl⟩
      exact .skip rfl rfl (by rw [hsz]; simp) gg (hK _ _ (Below.refl _ _) rfl)
    | 10, hop =>
      obtain rfl := Option.some.inj hop
      have gg : a.tmps.getD 26 undef = (.bool false) := hdep 6 _ 26 rfl rfl ⟨⟨6, .guard⟩, by simp, rfl, rfl⟩
      exact .skip rfl rfl (by rw [hsz]; simp) gg (hK _ _ (Below.refl _ _) rfl)
    | 11, hop =>
      obtain rfl := Option.some.inj hop
      have gg : a.tmps.getD 26 undef = (.bool false) := hdep 6 _ 26 rfl rfl ⟨⟨6, .guard⟩, by simp, rfl, rfl⟩
      exact .skip rfl rfl (by rw [hsz]; simp) gg (hK _ _ (Below.refl _ _) rfl)
    | 12, hop =>
      obtain rfl := Option.some.inj hop
      have gg : a.tmps.getD 26 undef = (.bool false) := hdep 6 _ 26 rfl rfl ⟨⟨6, .guard⟩, by simp, rfl, rfl⟩
      exact .skip rfl rfl (by rw [hsz]; simp) gg (hK _ _ (Below.refl _ _) rfl)
    | 13, hop =>
      obtain rfl := Option.some.inj hop
      have gg : a.tmps.getD 26 undef = (.bool false) := hdep 6 _ 26 rfl rfl ⟨⟨6, .guard⟩, by simp, rfl, rfl⟩
      exact .skip rfl rfl (by rw [hsz]; simp) gg (hK _ _ (Below.refl _ _) rfl)
    | 14, hop =>
      obtain rfl := Option.some.inj hop
      have gg : a.tmps.getD 26 undef = (.bool false) := hdep 6 _ 26 rfl rfl ⟨⟨6, .guard⟩, by simp, rfl, rfl⟩
      exact .skip rfl rfl (by rw [hsz]; simp) gg (hK _ _ (Below.refl _ _) rfl)
    | 15, hop =>
      obtain rfl := Option.some.inj hop
      have gg : a.tmps.getD 26 undef = (.bool false) := hdep 6 _ 26 rfl rfl ⟨⟨6, .guard⟩, by simp, rfl, rfl⟩
      exact .skip rfl rfl (by rw [hsz]; simp) gg (hK _ _ (Below.refl _ _) rfl)
    | 16, hop =>
      obtain rfl := Option.some.inj hop
      have gg : a.tmps.getD 23 undef = (.bool false) := hdep 3 _ 23 rfl rfl ⟨⟨3, .guard⟩, by simp, rfl, rfl⟩
      have t6 : a.tmps.getD 26 undef = (.bool false) := hdep 6 _ 26 rfl rfl ⟨⟨6, .data⟩, by simp, rfl, rfl⟩
      have t15 : a.tmps.getD 35 undef = undef := hdep 15 _ 35 rfl rfl ⟨⟨15, .data⟩, by simp, rfl, rfl⟩
      exact .want rfl rfl (by rw [hsz]; simp) gg (wp_val (w' := wa) (v := (.bool false)) (by simp only [execOp, Act.eval]; rw [show a.tmps.getD 26 undef = _ from t6, show a.tmps.getD 35 undef = _ from t15]; rfl) (hK _ _ (Below.refl _ _) rfl))
    | 17, _ => exact absurd rfl hj
    | _ + 18, hop => exact absurd hop (by simp)
  · intro a wa hwa hdf hsz hsl hrr K hK
    have t3 : a.tmps.getD 23 undef = (.bool false) := hrr 3 _ 23 rfl (by decide) rfl
    have t16 : a.tmps.getD 36 undef = (.bool false) := hrr 16 _ 36 rfl (by decide) rfl
    refine .plain rfl (wp_val (w' := wa) (v := (.bool false)) (by simp only [execOp, Act.eval]; rw [show a.tmps.getD 23 undef = _ from t3, show a.tmps.getD 36 undef = _ from t16]; rfl) ?_)
    refine hK _ wa ?_
    have hact := act_puts hdf hsz hsl
    clear hrr hsl hdf hsz hK t16 t3
    simp only [List.filterMap_cons, List.filterMap_nil, List.foldl_cons, List.foldl_nil] at hact
    rw [hact]
    generalize a.tmps.getD 20 undef = y20
    generalize a.tmps.getD 21 undef = y21
    generalize a.tmps.getD 22 undef = y22
    generalize a.tmps.getD 23 undef = y23
    generalize a.tmps.getD 24 undef = y24
    generalize a.tmps.getD 25 undef = y25
    generalize a.tmps.getD 26 undef = y26
    generalize a.tmps.getD 27 undef = y27
    generalize a.tmps.getD 28 undef = y28
    generalize a.tmps.getD 29 undef = y29
    generalize a.tmps.getD 30 undef = y30
    generalize a.tmps.getD 31 undef = y31
    generalize a.tmps.getD 32 undef = y32
    generalize a.tmps.getD 33 undef = y33
    generalize a.tmps.getD 34 undef = y34
    generalize a.tmps.getD 35 undef = y35
    generalize a.tmps.getD 36 undef = y36
    clear hact
    simp only [Act.put, List.setIfInBounds_toArray, List.set_cons_succ, List.set_cons_zero]
    have hfin := hide1 (b1.out.trans (hwa.mono b1.out.size))
    clear hwa hx
    go_wp2
    rw [rounds_succ]
    go_wp2
    go_ret
    exact ⟨rfl, hfin.out⟩
def En1 (w : World) (q : Nat) (E : Array Value) : Prop := w.heap[q]? = some (.cells E 45 (0, 0)) ∧ E.size = 70
theorem En1.below {w w' : World} {g : Nat} {E : Array Value} (h : En1 w g E) (hb : Below w.heap.size w w') : En1 w' g E := ⟨(hb.block g (Array.getElem?_eq_some_iff.1 h.1).1).trans h.1, h.2⟩
theorem ldEn {w : World} {g : Nat} {E : Array Value} (h : En1 w g E) : (Instr.loadAt 45 (.pointer (some ⟨g, 0, none⟩))).run Tryz.prog w = .ok (.agg E) w := by
  have hl := run_loadVar_row (P := Tryz.prog) w g 45 45 E (0, 0) _ h.1 Tryz.underlying45 (by rfl) (by rw [h.2]; kernel_rfl)
  simp [Instr.loadAt, Instr.sureAddr, hl]
theorem ldSl {w : World} {b o : Nat} {v : Value} (h1 : w.cell? ⟨b, o, none⟩ = some v) : (Instr.loadAt 43 (.pointer (some ⟨b, o, none⟩))).run Tryz.prog w = .ok v w := by
  simp [Instr.loadAt, Instr.sureAddr, go_sem, h1]
set_option maxHeartbeats 8000000 in
set_option maxRecDepth 100000 in
theorem check_y {E : Array Value} (hE : E.size = 70) {g c : Nat} {t : List Int} (h69 : E[69]? = some (.slice (some ⟨g, 0, none⟩) 1 c)) (hown : ∀ w, Calls Tryz.prog 37 #[.agg E] w fun e w' => e = .returned (.agg E) ∧ Below w.heap.size w w')
    (heq : ∀ w, Sg1 w g t → Calls Tryz.prog 14 #[.agg E, .agg E] w fun e w' => e = .returned (.bool true) ∧ Below w.heap.size w w')
    (hbody : ∀ w, Calls Tryz.prog 38 #[.agg E] w fun e w' => e = .returned (.bool true) ∧ Below w.heap.size w w')
    (hare : ∀ w, Sg1 w g t → Calls Tryz.prog 39 #[(.slice (some ⟨g, 0, none⟩) 1 c)] w fun e w' => e = .returned (.bool true) ∧ Below w.heap.size w w') {w : World} (hg : Sg1 w g t) :
    Calls Tryz.prog 26 #[.agg E] w fun e w' => e = .returned (.nilIface) ∧ Below w.heap.size w w' := by
  obtain ⟨wb, hwb⟩ : ∃ wb, wb = w.alloc (.cells E 45) := ⟨_, rfl⟩
  have bb : Below w.heap.size w wb := by rw [hwb]; exact below_na _
  have hb := heap_na w E 45
  rw [← hwb] at hb
  replace hg := hide1 (hg.below bb)
  have hx : Hid (En1 wb w.heap.size E) := hide1 ⟨hb, hE⟩
  have hl : Hid (∀ wa, Below wb.heap.size wb wa → wa.cell? ⟨w.heap.size, 69, none⟩ = some (.slice (some ⟨g, 0, none⟩) 1 c)) := hide1 fun wa hwa => cell_of 69 ((hwa.block _ (Array.getElem?_eq_some_iff.1 hb).1).trans hb) h69
  replace bb := hide1 bb
  replace hown := hide1 hown
  replace heq := hide1 heq
  replace hbody := hide1 hbody
  replace hare := hide1 hare
  clear hb h69 hE
  go_enter Tryz.func26, Tryz.ntmps26
  go_upto_region 1 with fail
  rw [← hwb]
  clear hwb
  refine wp_flowG 15 _ _ (by kernel_rfl) (by kernel_rfl) (by kernel_rfl) rfl (fun j v_ _ => v_ = ([(.agg E), (.agg E), (.agg E), (.bool true), (.bool false), (.bool false), (.agg E), (.bool true), (.bool false), (.bool false), (.bool false), (.pointer (some ⟨w.heap.size, 69, none⟩)), (.slice (some ⟨g, 0, none⟩) 1 c), (.bool true), (.bool false), (.bool false)] : List Value).getD j undef) (fun _ _ _ _ h _ => h) ?_ ?_
  · intro j op hop hj a wa hwa hsz hsl hdep K hK
    match j, hop with
    | 0, hop =>
      obtain rfl := Option.some.inj hop
      have p1 : a.tmps.getD 1 undef = (.pointer (some ⟨w.heap.size, 0, none⟩)) := hsl 1 rfl
      exact .plain rfl (wp_val (w' := wa) (v := (.agg E)) (by simp only [execOp, Act.eval]; rw [show a.tmps.getD 1 undef = _ from p1]; simp only [Sem.run_bind, ldEn (hx.out.below hwa), Result.andThen_ok, Sem.run_pure]) (hK _ _ (Below.refl _ _) rfl))
    | 1, hop =>
      obtain rfl := Option.some.inj hop
      have p1 : a.tmps.getD 1 undef = (.pointer (some ⟨w.heap.size, 0, none⟩)) := hsl 1 rfl
      exact .plain rfl (wp_val (w' := wa) (v := (.agg E)) (by simp only [execOp, Act.eval]; rw [show a.tmps.getD 1 undef = _ from p1]; simp only [Sem.run_bind, ldEn (hx.out.below hwa), Result.andThen_ok, Sem.run_pure]) (hK _ _ (Below.refl _ _) rfl))
    | 2, hop =>
      obtain rfl := Option.some.inj hop
      have t1 : a.tmps.getD 4 undef = (.agg E) := hdep 1 _ 4 rfl rfl ⟨⟨1, .data⟩, by simp, rfl, rfl⟩
      refine .plain rfl (oper_any (J := fun r w' => r = (.agg E) ∧ Below wa.heap.size wa w') 37 #[.tmp 4] _ rfl #[(.agg E)] (by simp only [List.map_toArray, List.map_cons, List.map_nil, Act.eval]; rw [show a.tmps.getD 4 undef = _ from t1]) (fun w => by kernel_rfl) ((hown.out wa).mono fun e w' h => ⟨_, h.1, rfl, h.2⟩) ?_)
      rintro r w' ⟨rfl, hb⟩
      exact hK _ _ hb rfl
    | 3, hop =>
      obtain rfl := Option.some.inj hop
      have t0 : a.tmps.getD 3 undef = (.agg E) := hdep 0 _ 3 rfl rfl ⟨⟨0, .data⟩, by simp, rfl, rfl⟩
      have t2 : a.tmps.getD 5 undef = (.agg E) := hdep 2 _ 5 rfl rfl ⟨⟨2, .data⟩, by simp, rfl, rfl⟩
      refine .plain rfl (oper_any (J := fun r w' => r = (.bool true) ∧ Below wa.heap.size wa w') 14 #[.tmp 3, .tmp 5] _ rfl #[(.agg E), (.agg E)] (by simp only [List.map_toArray, List.map_cons, List.map_nil, Act.eval]; rw [show a.tmps.getD 3 undef = _ from t0, show a.tmps.getD 5 undef = _ from t2]) (fun w => by kernel_rfl) ((heq.out wa (hg.out.below hwa)).mono fun e w' h => ⟨_, h.1, rfl, h.2⟩) ?_)
      rintro r w' ⟨rfl, hb⟩
      exact hK _ _ hb rfl
    | 4, hop =>
      obtain rfl := Option.some.inj hop
      have t3 : a.tmps.getD 6 undef = (.bool true) := hdep 3 _ 6 rfl rfl ⟨⟨3, .data⟩, by simp, rfl, rfl⟩
      exact .plain rfl (wp_val (w' := wa) (v := (.bool false)) (by simp only [execOp, Act.eval]; rw [show a.tmps.getD 6 undef = _ from t3]; kernel_rfl) (hK _ _ (Below.refl _ _) rfl))
    | 5, hop =>
      obtain rfl := Option.some.inj hop
      have t4 : a.tmps.getD 7 undef = (.bool false) := hdep 4 _ 7 rfl rfl ⟨⟨4, .data⟩, by simp, rfl, rfl⟩
      exact .plain rfl (wp_val (w' := wa) (v := (.bool false)) (by simp only [execOp, Act.eval]; rw [show a.tmps.getD 7 undef = _ from t4]; rfl) (hK _ _ (Below.refl _ _) rfl))
    | 6, hop =>
      obtain rfl := Option.some.inj hop
      have gg : a.tmps.getD 8 undef = (.bool false) := hdep 5 _ 8 rfl rfl ⟨⟨5, .guard⟩, by simp, rfl, rfl⟩
      have p1 : a.tmps.getD 1 undef = (.pointer (some ⟨w.heap.size, 0, none⟩)) := hsl 1 rfl
      exact .want rfl rfl (by rw [hsz]; simp) gg (wp_val (w' := wa) (v := (.agg E)) (by simp only [execOp, Act.eval]; rw [show a.tmps.getD 1 undef = _ from p1]; simp only [Sem.run_bind, ldEn (hx.out.below hwa), Result.andThen_ok, Sem.run_pure]) (hK _ _ (Below.refl _ _) rfl))
    | 7, hop =>
      obtain rfl := Option.some.inj hop
      have gg : a.tmps.getD 8 undef = (.bool false) := hdep 5 _ 8 rfl rfl ⟨⟨5, .guard⟩, by simp, rfl, rfl⟩
      have t6 : a.tmps.getD 9 undef = (.agg E) := hdep 6 _ 9 rfl rfl ⟨⟨6, .data⟩, by simp, rfl, rfl⟩
      refine .want rfl rfl (by rw [hsz]; simp) gg (oper_any (J := fun r w' => r = (.bool true) ∧ Below wa.heap.size wa w') 38 #[.tmp 9] _ rfl #[(.agg E)] (by simp only [List.map_toArray, List.map_cons, List.map_nil, Act.eval]; rw [show a.tmps.getD 9 undef = _ from t6]) (fun w => by kernel_rfl) ((hbody.out wa).mono fun e w' h => ⟨_, h.1, rfl, h.2⟩) ?_)
      rintro r w' ⟨rfl, hb⟩
      exact hK _ _ hb rfl
    | 8, hop =>
      obtain rfl := Option.some.inj hop
      have gg : a.tmps.getD 8 undef = (.bool false) := hdep 5 _ 8 rfl rfl ⟨⟨5, .guard⟩, by simp, rfl, rfl⟩
      have t7 : a.tmps.getD 10 undef = (.bool true) := hdep 7 _ 10 rfl rfl ⟨⟨7, .data⟩, by simp, rfl, rfl⟩
      exact .want rfl rfl (by rw [hsz]; simp) gg (wp_val (w' := wa) (v := (.bool false)) (by simp only [execOp, Act.eval]; rw [show a.tmps.getD 10 undef = _ from t7]; kernel_rfl) (hK _ _ (Below.refl _ _) rfl))
    | 9, hop =>
      obtain rfl := Option.some.inj hop
      have t5 : a.tmps.getD 8 undef = (.bool false) := hdep 5 _ 8 rfl rfl ⟨⟨5, .data⟩, by simp, rfl, rfl⟩
      have t8 : a.tmps.getD 11 undef = (.bool false) := hdep 8 _ 11 rfl rfl ⟨⟨8, .data⟩, by simp, rfl, rfl⟩
      exact .plain rfl (wp_val (w' := wa) (v := (.bool false)) (by simp only [execOp, Act.eval]; rw [show a.tmps.getD 8 undef = _ from t5, show a.tmps.getD 11 undef = _ from t8]; rfl) (hK _ _ (Below.refl _ _) rfl))
    | 10, hop =>
      obtain rfl := Option.some.inj hop
      have t9 : a.tmps.getD 12 undef = (.bool false) := hdep 9 _ 12 rfl rfl ⟨⟨9, .data⟩, by simp, rfl, rfl⟩
      exact .plain rfl (wp_val (w' := wa) (v := (.bool false)) (by simp only [execOp, Act.eval]; rw [show a.tmps.getD 12 undef = _ from t9]; rfl) (hK _ _ (Below.refl _ _) rfl))
    | 11, hop =>
      obtain rfl := Option.some.inj hop
      have gg : a.tmps.getD 13 undef = (.bool false) := hdep 10 _ 13 rfl rfl ⟨⟨10, .guard⟩, by simp, rfl, rfl⟩
      have p1 : a.tmps.getD 1 undef = (.pointer (some ⟨w.heap.size, 0, none⟩)) := hsl 1 rfl
      exact .want rfl rfl (by rw [hsz]; simp) gg (wp_val (w' := wa) (v := (.pointer (some ⟨w.heap.size, 69, none⟩))) (by simp only [execOp, Act.eval]; rw [show a.tmps.getD 1 undef = _ from p1]; kernel_rfl) (hK _ _ (Below.refl _ _) rfl))
    | 12, hop =>
      obtain rfl := Option.some.inj hop
      have gg : a.tmps.getD 13 undef = (.bool false) := hdep 10 _ 13 rfl rfl ⟨⟨10, .guard⟩, by simp, rfl, rfl⟩
      have t11 : a.tmps.getD 14 undef = (.pointer (some ⟨w.heap.size, 69, none⟩)) := hdep 11 _ 14 rfl rfl ⟨⟨11, .data⟩, by simp, rfl, rfl⟩
      exact .want rfl rfl (by rw [hsz]; simp) gg (wp_val (w' := wa) (v := (.slice (some ⟨g, 0, none⟩) 1 c)) (by simp only [execOp, Act.eval]; rw [show a.tmps.getD 14 undef = _ from t11]; simp only [Sem.run_bind, ldSl (hl.out wa hwa), Result.andThen_ok, Sem.run_pure]) (hK _ _ (Below.refl _ _) rfl))
    | 13, hop =>
      obtain rfl := Option.some.inj hop
      have gg : a.tmps.getD 13 undef = (.bool false) := hdep 10 _ 13 rfl rfl ⟨⟨10, .guard⟩, by simp, rfl, rfl⟩
      have t12 : a.tmps.getD 15 undef = (.slice (some ⟨g, 0, none⟩) 1 c) := hdep 12 _ 15 rfl rfl ⟨⟨12, .data⟩, by simp, rfl, rfl⟩
      refine .want rfl rfl (by rw [hsz]; simp) gg (oper_any (J := fun r w' => r = (.bool true) ∧ Below wa.heap.size wa w') 39 #[.tmp 15] _ rfl #[(.slice (some ⟨g, 0, none⟩) 1 c)] (by simp only [List.map_toArray, List.map_cons, List.map_nil, Act.eval]; rw [show a.tmps.getD 15 undef = _ from t12]) (fun w => by kernel_rfl) ((hare.out wa (hg.out.below hwa)).mono fun e w' h => ⟨_, h.1, rfl, h.2⟩) ?_)
      rintro r w' ⟨rfl, hb⟩
      exact hK _ _ hb rfl
    | 14, hop =>
      obtain rfl := Option.some.inj hop
      have gg : a.tmps.getD 13 undef = (.bool false) := hdep 10 _ 13 rfl rfl ⟨⟨10, .guard⟩, by simp, rfl, rfl⟩
      have t13 : a.tmps.getD 16 undef = (.bool true) := hdep 13 _ 16 rfl rfl ⟨⟨13, .data⟩, by simp, rfl, rfl⟩
      exact .want rfl rfl (by rw [hsz]; simp) gg (wp_val (w' := wa) (v := (.bool false)) (by simp only [execOp, Act.eval]; rw [show a.tmps.getD 16 undef = _ from t13]; kernel_rfl) (hK _ _ (Below.refl _ _) rfl))
    | 15, _ => exact absurd rfl hj
    | _ + 16, hop => exact absurd hop (by simp)
  · intro a wa hwa hdf hsz hsl hrr K hK
    have t10 : a.tmps.getD 13 undef = (.bool false) := hrr 10 _ 13 rfl (by decide) rfl
    have t14 : a.tmps.getD 17 undef = (.bool false) := hrr 14 _ 17 rfl (by decide) rfl
    refine .plain rfl (wp_val (w' := wa) (v := (.bool false)) (by simp only [execOp, Act.eval]; rw [show a.tmps.getD 13 undef = _ from t10, show a.tmps.getD 17 undef = _ from t14]; rfl) ?_)
    refine hK _ wa ?_
    have hact := act_puts hdf hsz hsl
    clear hrr hsl hdf hsz hK t10 t14
    simp only [List.filterMap_cons, List.filterMap_nil, List.foldl_cons, List.foldl_nil] at hact
    rw [hact]
    generalize a.tmps.getD 3 undef = y3
    generalize a.tmps.getD 4 undef = y4
    generalize a.tmps.getD 5 undef = y5
    generalize a.tmps.getD 6 undef = y6
    generalize a.tmps.getD 7 undef = y7
    generalize a.tmps.getD 8 undef = y8
    generalize a.tmps.getD 9 undef = y9
    generalize a.tmps.getD 10 undef = y10
    generalize a.tmps.getD 11 undef = y11
    generalize a.tmps.getD 12 undef = y12
    generalize a.tmps.getD 13 undef = y13
    generalize a.tmps.getD 14 undef = y14
    generalize a.tmps.getD 15 undef = y15
    generalize a.tmps.getD 16 undef = y16
    generalize a.tmps.getD 17 undef = y17
    clear hact
    simp only [Act.put, List.setIfInBounds_toArray, List.set_cons_succ, List.set_cons_zero]
    have hfin := hide1 (bb.out.trans (hwa.mono bb.out.size))
    clear hwa hx hl hown heq hbody hare
    go_wp2
    go_ret
    exact ⟨rfl, hfin.out⟩
theorem check_1 {g c : Nat} {w : World} (hg : Sg1 w g alc) : Calls Tryz.prog 26 #[.agg (entA 1 0 [] (.slice (some ⟨g, 0, none⟩) 1 c))] w fun e w' => e = .returned .nilIface ∧ Below w.heap.size w w' :=
  check_y rfl rfl (own_1 _ _ _) (fun _ h => equal_e tld_a h h) (body_1 _) (fun _ h => sigs_are (by unfold Byt alc; decide) (by decide) (by decide) h) hg
def kyP : List Int := [107, 101, 121, 58]
theorem hexE_size {D : List Int} (hn : D.length = 32) : (strOfNums (hexE D)).size = 64 := by
  rw [str_size, hexE_len, hn]
def u8C (l : List Int) : List Value := l.map (Value.int .u8)
def sgG (s K b : List Int) : List Value := .string (strOfNums s) :: (u8C K ++ u8C b)
structure SgO (s K b : List Int) : Prop where
  hs : Byt s
  hK : Byt K
  hb : Byt b
  sl : s.length ≤ 1000000
  Kl : K.length = 32
  bl : b.length = 64
theorem SgO.len {s K b : List Int} (h : SgO s K b) : (sgG s K b).length = 97 := by
  have h1 := h.Kl
  have h2 := h.bl
  simp [sgG, u8C]; omega
theorem u8C_len (l : List Int) : (u8C l).length = l.length := by simp [u8C]
theorem sgG_key (s K b : List Int) : ((sgG s K b).toArray.toList.drop 1).take (u8C K).length = u8C K := by
  show ((u8C K ++ u8C b)).take _ = _
  rw [List.take_left]
def sgrT (s K : List Int) : List Int := if s = [] then kyP ++ hexE K else s
set_option maxHeartbeats 4000000 in
set_option maxRecDepth 100000 in
theorem signer_g {s K b : List Int} (ho : SgO s K b) (w : World) : Calls Tryz.prog 7 #[.agg (sgG s K b).toArray] w fun e w' => e = .returned (.string (strOfNums (sgrT s K))) ∧ Below w.heap.size w w' := by
  have hn := nil_emp ho.hs
  have hb := heap_na w (sgG s K b).toArray 32
  have bb := below_na (w := w) (.cells (sgG s K b).toArray 32)
  obtain ⟨wb, hwb⟩ : ∃ wb, wb = w.alloc (.cells (sgG s K b).toArray 32) := ⟨_, rfl⟩
  rw [← hwb] at hb bb
  have c0 : wb.cell? ⟨w.heap.size, 0, none⟩ = some (.string (strOfNums s)) := cell_of 0 hb rfl
  have hK : Bs wb (some ⟨w.heap.size, 1, none⟩) 32 K := by
    refine ⟨ho.Kl, ho.hK, fun _ => ⟨w.heap.size, 1, rfl, fun i hi => ?_⟩⟩
    have h9 : i < K.length := by have := ho.Kl; omega
    exact rng_of 1 (u8C K) hb (sgG_key s K b) i _ (by simp [u8C, h9])
  have hx := hex_d (some ⟨w.heap.size, 1, none⟩) 32 32 K wb hK (by omega)
  have hs : (⟨#[107, 101, 121, 58]⟩ : ByteArray) ++ strOfNums (hexE K) = strOfNums (kyP ++ hexE K) := by rw [← str_app]; rfl
  have hz := hexE_size ho.Kl
  replace bb := hide1 bb
  by_cases h0 : s = []
  · rw [decide_eq_true h0] at hn
    have e : sgrT s K = kyP ++ hexE K := by unfold sgrT; rw [if_pos h0]
    rw [e, ← hs]
    generalize strOfNums (hexE K) = H at *
    generalize strOfNums s = S at *
    clear hb hs hK h0 e
    go_enter Tryz.func7, Tryz.ntmps7
    go_upto_region 1 with fail
    rw [← hwb]
    clear hwb
    go_wp2_with fail
    refine hx.mono ?_
    rintro e w1 ⟨rfl, b1⟩
    go_wp2
    go_ret
    exact ⟨rfl, bb.out.trans (b1.mono bb.out.size)⟩
  · rw [decide_eq_false h0] at hn
    have e : sgrT s K = s := by unfold sgrT; rw [if_neg h0]
    rw [e]
    generalize strOfNums s = S at *
    clear hb hs hK h0 e hx hz
    go_enter Tryz.func7, Tryz.ntmps7
    go_upto_region 1 with fail
    rw [← hwb]
    clear hwb
    go_wp2
    go_ret
    exact ⟨rfl, bb.out⟩
end Go.Proofs.YtdhmonlhlfkjbaaGreatDoor

namespace Go.Proofs.YtdhmonlhlfkjbaaGreatDoor
open Go.Shelf Go.RowKit
def lays166_ren : Go.Shelf.Ren := ⟨fun | 166 => 178 | 240 => 177 | 276 => 200 | n => n, fun | 0 => 0 | 3 => 3 | 4 => 4 | 5 => 5 | 9 => 9 | 20 => 20 | 37 => 22 | 70 => 182 | 72 => 184 | 75 => 39 | 80 => 187 | 164 => 228 | n => n, fun | n => n⟩
theorem lays166 : Go.Proofs.Lays.n166 Tryz.prog lays166_ren := {
  mixed := by kernel_rfl
  f166 := Tryz.func178.trans (congrArg some (by kernel_rfl))
  f240 := Tryz.func177.trans (congrArg some (by kernel_rfl))
  f276 := Tryz.func200.trans (congrArg some (by kernel_rfl))
  t0 := Tryz.underlying0
  a0 := Tryz.isAgg0
  z0 := Tryz.sizeOf0
  v0 := Tryz.zeroValue0
  t3 := Tryz.underlying3
  a3 := Tryz.isAgg3
  z3 := Tryz.sizeOf3
  v3 := Tryz.zeroValue3
  t4 := Tryz.underlying4
  a4 := Tryz.isAgg4
  z4 := Tryz.sizeOf4
  v4 := Tryz.zeroValue4
  t9 := Tryz.underlying9
  a9 := Tryz.isAgg9
  z9 := Tryz.sizeOf9
  v9 := Tryz.zeroValue9
  t20 := by kernel_rfl
  a20 := fun w => by kernel_rfl
  z20 := fun w => by kernel_rfl
  v20 := fun w => by kernel_rfl
  t37 := Tryz.underlying22
  a37 := Tryz.isAgg22
  z37 := Tryz.sizeOf22
  v37 := Tryz.zeroValue22
  t70 := Tryz.underlying182
  a70 := Tryz.isAgg182
  z70 := Tryz.sizeOf182
  v70 := Tryz.zeroValue182
  t72 := Tryz.underlying184
  a72 := Tryz.isAgg184
  z72 := Tryz.sizeOf184
  v72 := Tryz.zeroValue184
  t75 := Tryz.underlying39
  a75 := Tryz.isAgg39
  z75 := Tryz.sizeOf39
  v75 := Tryz.zeroValue39
  t164 := Tryz.underlying228
  a164 := Tryz.isAgg228
  z164 := Tryz.sizeOf228
  v164 := Tryz.zeroValue228 }
theorem Builder_Extra_166 : Builder.Extra Tryz.prog lays166_ren := {
  sizeBuilder := by kernel_rfl
  liesBuilder := by kernel_rfl
  t5 := Tryz.underlying5
  a5 := Tryz.isAgg5
  z5 := Tryz.sizeOf5
  v5 := Tryz.zeroValue5
  infoByte := by kernel_rfl
  cellsByte := by kernel_rfl
  sizeByte := by kernel_rfl
  neB5 := by decide }
def lays167_ren : Go.Shelf.Ren := ⟨fun | 167 => 139 | 240 => 177 | 276 => 200 | n => n, fun | 0 => 0 | 3 => 3 | 4 => 4 | 5 => 5 | 9 => 9 | 20 => 20 | 37 => 22 | 70 => 182 | 72 => 184 | 75 => 39 | 80 => 187 | 164 => 228 | n => n, fun | n => n⟩
theorem lays167 : Go.Proofs.Lays.n167 Tryz.prog lays167_ren := {
  mixed := by kernel_rfl
  f167 := Tryz.func139.trans (congrArg some (by kernel_rfl))
  f240 := Tryz.func177.trans (congrArg some (by kernel_rfl))
  f276 := Tryz.func200.trans (congrArg some (by kernel_rfl))
  t0 := Tryz.underlying0
  a0 := Tryz.isAgg0
  z0 := Tryz.sizeOf0
  v0 := Tryz.zeroValue0
  t4 := Tryz.underlying4
  a4 := Tryz.isAgg4
  z4 := Tryz.sizeOf4
  v4 := Tryz.zeroValue4
  t5 := Tryz.underlying5
  a5 := Tryz.isAgg5
  z5 := Tryz.sizeOf5
  v5 := Tryz.zeroValue5
  t9 := Tryz.underlying9
  a9 := Tryz.isAgg9
  z9 := Tryz.sizeOf9
  v9 := Tryz.zeroValue9
  t20 := by kernel_rfl
  a20 := fun w => by kernel_rfl
  z20 := fun w => by kernel_rfl
  v20 := fun w => by kernel_rfl
  t37 := Tryz.underlying22
  a37 := Tryz.isAgg22
  z37 := Tryz.sizeOf22
  v37 := Tryz.zeroValue22
  t70 := Tryz.underlying182
  a70 := Tryz.isAgg182
  z70 := Tryz.sizeOf182
  v70 := Tryz.zeroValue182
  t72 := Tryz.underlying184
  a72 := Tryz.isAgg184
  z72 := Tryz.sizeOf184
  v72 := Tryz.zeroValue184
  t75 := Tryz.underlying39
  a75 := Tryz.isAgg39
  z75 := Tryz.sizeOf39
  v75 := Tryz.zeroValue39
  t164 := Tryz.underlying228
  a164 := Tryz.isAgg228
  z164 := Tryz.sizeOf228
  v164 := Tryz.zeroValue228 }
theorem Builder_Extra_167 : Builder.Extra Tryz.prog lays167_ren := {
  sizeBuilder := by kernel_rfl
  liesBuilder := by kernel_rfl
  t5 := Tryz.underlying5
  a5 := Tryz.isAgg5
  z5 := Tryz.sizeOf5
  v5 := Tryz.zeroValue5
  infoByte := by kernel_rfl
  cellsByte := by kernel_rfl
  sizeByte := by kernel_rfl
  neB5 := by decide }
theorem Builder_WriteByte (B b : Nat) (bs : List Value) (c : Int) (w : World) (h : Lib.IsBuilder 184 5 B b bs w) (hlen : bs.length + 1 ≤ 140737488355328) (hBw : B ≤ w.heap.size) :
    Calls Tryz.prog 139 #[.pointer (some ⟨b, 0, none⟩), .int .u8 c] w fun e w' => e = .returned .nilIface ∧ (Lib.BuilderAt 184 5 B b (.pointer (some ⟨b, 0, none⟩)) (bs ++ [.int .u8 c]) w' ∧ Below B w w') := Any.Builder_WriteByte lays167 Builder_Extra_167 B b bs c w h hlen hBw
theorem Builder_WriteString (B b : Nat) (bs : List Value) (s : ByteArray) (w : World) (h : Lib.IsBuilder 184 5 B b bs w) (hlen : bs.length + s.size ≤ 140737488355328) (hBw : B ≤ w.heap.size) :
    Calls Tryz.prog 178 #[.pointer (some ⟨b, 0, none⟩), .string s] w fun e w' => e = .returned (.tuple #[.int .i64 s.size, .nilIface]) ∧ (Lib.BuilderAt 184 5 B b (.pointer (some ⟨b, 0, none⟩)) (bs ++ Lib.strCells s) w' ∧ Below B w w') := Any.Builder_WriteString lays166 Builder_Extra_166 B b bs s w h hlen hBw
end Go.Proofs.YtdhmonlhlfkjbaaGreatDoor

/- C1, CA, CrB, CC, CD, CE, CT, CR, CP, BSh, B1, B2, B3, B4, B5, B6, B7, B8, B9, B10, B11, B12, B13, B14, B15, B16, B17, B23, B24, B25, W3, EN1, EN2, EN3, W, JR, JF, JF2, EN4, EN5, KY1, KY2: laid together. -/
import Derived.Laws.BitsAllLaws
import Derived.WalkKit
import Derived.WalkSpells
import Derived.WalkLawsBesides
import Derived.Below
import Derived.Handy
import Derived.Lib.SlBytesConst
import Derived.Laws.BytesArg
import Derived.Laws.OwnMore
import Derived.OwnWalk
import Derived.BigQuiet
import Derived.Test.YtlmbahedgjfjgaaGreatDoorProg
import Derived.Shelf.Strings.SlTrimAscii
import Derived.Shelf.Strings.Trim
import Derived.Shelf.Small.Strs
import Derived.Shelf.Small.Wraps
import Derived.Shelf.Strings.Search1
import Derived.Shelf.Strings.Prefix
import Derived.Shelf.Slices.CompactS
import Derived.Shelf.Slices.Cells
import Derived.Deep.Cut
import Derived.Lib.AppendStr
import Derived.Deep.RegionHeld3
import Derived.Deep.WholeRow
import Derived.Deep.MidRow
import Derived.ChangeKeysEq
import Derived.Sort.Grow
import Derived.Orders
import Derived.Test.YtlmbahedgjfjgaaGreatDoorRows
namespace Go.Proofs.YtlmbahedgjfjgaaGreatDoor

end Go.Proofs.YtlmbahedgjfjgaaGreatDoor

namespace Go.Proofs.YtlmbahedgjfjgaaGreatDoor
open Go.RowKit

theorem ret_int {k : IntKind} {a b : Int} (h : a = b) : Ending.returned (.int k a) = .returned (.int k b) := by rw [h]

def Bs (w : World) (a : Option Addr) (len : Nat) (zs : List Int) : Prop :=
  zs.length = len ∧ (∀ z ∈ zs, 0 ≤ z ∧ z < 256) ∧ (0 < len → ∃ b off, a = some ⟨b, off, none⟩ ∧ ∀ i, i < len → w.cell? ⟨b, off + i, none⟩ = some (.int .u8 (zs.getD i 0)))

theorem take_snoc (l : List Int) (k : Nat) (h : k < l.length) : l.take (k + 1) = l.take k ++ [l.getD k 0] := by
  rw [List.take_succ_eq_append_getElem h]; simp [h]

theorem getD_mem {l : List Int} {k : Nat} (h : k < l.length) : l.getD k 0 ∈ l := by
  simp [List.getD_eq_getElem?_getD, h]

theorem bs_new (w : World) (zs : List Int) (fr : Nat × Nat) (hz : ∀ z ∈ zs, 0 ≤ z ∧ z < 256) : Bs (w.alloc (.cells (zs.map (Value.int .u8)).toArray 5 fr)) (some ⟨w.heap.size, 0, none⟩) zs.length zs := by
  refine ⟨rfl, hz, fun _ => ⟨_, _, rfl, fun i hi => ?_⟩⟩
  rw [World.cell?_alloc_mark]
  simp [hi]

theorem conv_bs {w : World} {a : Option Addr} {len : Nat} {zs : List Int} (h : Bs w a len zs) (cap : Nat) :
    (convert 24 9 (.slice a len cap)).run Tryz.prog w = .ok (.string (strOfNums zs)) w := by
  obtain ⟨h1, h2, h3⟩ := h
  rcases Nat.eq_zero_or_pos len with rfl | hp
  · obtain rfl : zs = [] := List.length_eq_zero_iff.1 h1
    cases a with
    | none => exact run_convert_bytes_nil w 24 5 Tryz.underlying24 Tryz.underlying5 0 cap 9 Tryz.underlying9
    | some x =>
      rw [run_convert_bytes_string w 24 9 5 _ 0 cap Tryz.underlying24 Tryz.underlying5 Tryz.underlying9, run_bytesToString w x 0 cap [] (run_loadCells_list (P := Tryz.prog) w x [] (fun j v hj => by simp at hj))]
      rfl
  · obtain ⟨b, off, rfl, hc⟩ := h3 hp
    exact run_convert_bytes_arg w 24 5 Tryz.underlying24 Tryz.underlying5 b off len cap zs h1 hc 9 Tryz.underlying9

theorem strOfNums_inj {x y : List Int} (hx : ∀ z ∈ x, 0 ≤ z ∧ z < 256) (hy : ∀ z ∈ y, 0 ≤ z ∧ z < 256) (h : (strOfNums x).toList = (strOfNums y).toList) : x = y := by
  have h1 : x.map (fun n => UInt8.ofNat n.toNat) = y.map (fun n => UInt8.ofNat n.toNat) := by
    rw [← strOfNums_data, ← strOfNums_data, ← ByteArray.toList_eq, ← ByteArray.toList_eq, h]
  have h2 : ∀ l : List Int, (∀ z ∈ l, 0 ≤ z ∧ z < 256) → (l.map (fun n => UInt8.ofNat n.toNat)).map (fun u => ((u.toNat : Nat) : Int)) = l := by
    intro l hl
    rw [List.map_map]
    conv => rhs; rw [← List.map_id l]
    apply List.map_congr_left
    intro z hz
    have := hl z hz
    simp
    omega
  rw [← h2 x hx, ← h2 y hy, h1]

theorem str_beq {x y : List Int} (hx : ∀ z ∈ x, 0 ≤ z ∧ z < 256) (hy : ∀ z ∈ y, 0 ≤ z ∧ z < 256) : ((strOfNums x).toList == (strOfNums y).toList) = decide (x = y) := by
  by_cases h : x = y
  · subst h; simp
  · rw [decide_eq_false h]
    exact beq_eq_false_iff_ne.2 (fun e => h (strOfNums_inj hx hy e))

theorem info5 : (Tryz.prog.info? 5).map (fun i => (i.zero, i.size, i.bytes)) = some (some (.int .u8 0), 1, 1) := by kernel_rfl

def byteVals (zs : List Int) : List Value := zs.map (Value.int .u8)

theorem bs_owned {w : World} {base : Nat} {v : Value} {n : Nat} {zs : List Int} (h : w.ownsRow base 5 1 v n (byteVals zs)) (hz : ∀ z ∈ zs, 0 ≤ z ∧ z < 256) :
    ∃ a cap, v = .slice a n cap ∧ Bs w a n zs ∧ n ≤ cap ∧ n ≤ maxLen := by
  have hl : zs.length = n := by have := h.1; simpa [byteVals] using this
  rcases h.2 with ⟨rfl, rfl⟩ | ⟨g, cap, cur, rfl, hb, hg, hnc, hcm, hcs, ht⟩
  · exact ⟨none, 0, rfl, ⟨hl, hz, fun h => absurd h (by omega)⟩, Nat.le_refl _, Nat.zero_le _⟩
  · refine ⟨_, cap, rfl, ⟨hl, hz, fun _ => ⟨g, 0, rfl, fun i hi => ?_⟩⟩, hnc, by omega⟩
    have := h.cellAt i (by omega)
    rw [Nat.zero_add, this]
    simp [byteVals, show i < zs.length by omega]

theorem run_append_bs (w : World) (base ty : Nat) (v : Value) (n : Nat) (xs : List Value) (hown : w.ownsRow base 5 1 v n xs) (a : Option Addr) (m c : Nat) (zs : List Int) (hb : Bs w a m zs)
    (hbytes : n + m ≤ 140737488355328) (hbase : base ≤ w.heap.size) :
    ∃ v' w', (Builtin.append_ #[24, 24] ty #[v, .slice a m c]).run Tryz.prog w = .ok v' w' ∧ w'.ownsRow base 5 1 v' (n + m) (xs ++ byteVals zs) ∧ w.grownBy w' v.ownBlock := by
  obtain ⟨i0, hi, hz0, hz1, hz2⟩ := info_parts info5
  obtain ⟨h1, h2, h3⟩ := hb
  cases a with
  | none =>
    obtain rfl : m = 0 := by
      rcases Nat.eq_zero_or_pos m with h | h
      · exact h
      · obtain ⟨_, _, e, _⟩ := h3 h; cases e
    obtain rfl : zs = [] := List.length_eq_zero_iff.1 h1
    refine ⟨v, w, ?_, by simpa [byteVals] using hown, ⟨rfl, rfl, rfl, Nat.le_refl _, fun _ _ _ => rfl⟩⟩
    rcases hown.2 with ⟨rfl, rfl⟩ | ⟨g, cap, cur, rfl, _, _, hnc, _⟩
    · simp [Builtin.append_, run_underlying Tryz.underlying24, sizeOf, typeInfo, hi, Builtin.lenOf, Builtin.firstCells]
    · simp [Builtin.append_, run_underlying Tryz.underlying24, sizeOf, typeInfo, hi, Builtin.lenOf, Builtin.firstCells, hnc, storeCells]
  | some ad =>
    have hnews : ∀ j u, (byteVals zs)[j]? = some u → w.cell? (ad.add j) = some u := by
      intro j u hj
      have hjl : j < zs.length := by
        rcases Nat.lt_or_ge j zs.length with h | h
        · exact h
        · rw [List.getElem?_eq_none (by simpa [byteVals] using h)] at hj; cases hj
      obtain ⟨b, off, e, hc⟩ := h3 (by omega)
      cases e
      have := hc j (by omega)
      rw [Addr.add_lit, this]
      simp [byteVals, hjl] at hj
      simp [hjl, hj]
    obtain ⟨v', w', hr, h4, h5, _⟩ := run_append_own (P := Tryz.prog) w base 24 ty 5 i0 (.int .u8 0) 1 1 Tryz.underlying24 hi hz0 hz1 hz2 rfl (by decide) v n xs hown ad m c (byteVals zs) (by simp [byteVals, h1]) hnews
      (by intro u hu; simp [byteVals] at hu; obtain ⟨z, _, rfl⟩ := hu; rfl) (by unfold maxLen; omega) (by omega) hbase
    exact ⟨v', w', hr, h4, h5⟩

theorem wpList_append_bs {w : World} {ops : Array Oper} {rest : List Oper} {o : Oper} {a : Act} {Q : Exit → Act → World → Prop} (hgd : o.guard = none) (s x : Operand)
    (ho : o.op = .call { callee := .builtin .append, args := #[s, x], argTypes := #[24, 24] }) (base : Nat)
    (v : Value) (n : Nat) (xs : List Value) (hs : a.eval s = v) (hown : w.ownsRow base 5 1 v n xs) (ad : Option Addr) (m c : Nat) (zs : List Int) (hx : a.eval x = .slice ad m c) (hb : Bs w ad m zs)
    (hbytes : n + m ≤ 140737488355328) (hbase : base ≤ w.heap.size)
    (h : ∀ v' w', w'.ownsRow base 5 1 v' (n + m) (xs ++ byteVals zs) → w.grownBy w' v.ownBlock → wpList Tryz.prog ops Q rest (a.put o.dst v') w') : wpList Tryz.prog ops Q (o :: rest) a w := by
  refine wpList_plain hgd fun K hK => ?_
  obtain ⟨v', w', hr, h2, h3⟩ := run_append_bs w base o.type v n xs hown ad m c zs hb hbytes hbase
  unfold Oper.wp execOp
  simp only [ho, resolve, invoke, builtin, Sem.run_bind, Sem.run_pure, Result.andThen_ok, List.map_toArray, List.map_cons, List.map_nil, hs, hx, hr]
  exact hK _ _ (h v' w' h2 h3)

theorem hide1 {p : Prop} (h : p) : Hid p := h

theorem below_one (w : World) (o : Obj) : Below w.heap.size w (w.alloc o) := (Below.refl _ _).alloc (Nat.le_refl _) _

theorem bs_one (w : World) (z : Int) (hz : 0 ≤ z ∧ z < 256) : Bs (w.alloc (.cells #[.int .u8 z] 5)) (some ⟨w.heap.size, 0, none⟩) 1 [z] := bs_new w [z] (0, 0) (by simpa using hz)

theorem below_app {B : Nat} {w wr w' : World} {v : Value} {n : Nat} {xs : List Value} {o : Obj} (hb : Below B w wr) (hB : B ≤ w.heap.size) (hown : wr.ownsRow B 5 1 v n xs) (hg : (wr.alloc o).grownBy w' v.ownBlock) : Below B w w' :=
  (hb.alloc (Nat.le_trans hB hb.size) o).grown hg (by have := hb.size; simp; omega) (fun k e => (hown.lt k e).1)

theorem owned_form {w : World} {base : Nat} {v : Value} {n : Nat} {zs : List Int} (h : w.ownsRow base 5 1 v n (byteVals zs)) (hn : 0 < n) :
    ∃ g cap, v = .slice (some ⟨g, 0, none⟩) n cap ∧ base ≤ g ∧ n ≤ cap ∧ cap ≤ maxLen ∧ ∀ j, j < n → w.cell? ⟨g, j, none⟩ = some (.int .u8 (zs.getD j 0)) := by
  have hl : zs.length = n := by have := h.1; simpa [byteVals] using this
  rcases h.2 with ⟨rfl, rfl⟩ | ⟨g, cap, cur, rfl, hb, hg, hnc, hcm, hcs, ht⟩
  · omega
  · refine ⟨g, cap, rfl, hb, hnc, hcm, fun j hj => ?_⟩
    have := h.cellAt j (by omega)
    rw [this]
    simp [byteVals, show j < zs.length by omega]

end Go.Proofs.YtlmbahedgjfjgaaGreatDoor

namespace Go.Proofs.YtlmbahedgjfjgaaGreatDoor
open Go.Shelf
def lays160_ren : Go.Shelf.Ren := ⟨fun | 160 => 111 | 232 => 163 | 231 => 162 | 227 => 164 | 234 => 166 | 233 => 165 | 236 => 168 | 235 => 167 | 228 => 209 | 271 => 212 | 151 => 211 | 197 => 210 | 120 => 241 | 152 => 240 | 260 => 239 | 137 => 199 | 119 => 265 | 224 => 266 | 225 => 267 | 217 => 228 | 266 => 254 | n => n, fun | 9 => 9 | 4 => 4 | 3 => 3 | 5 => 5 | 117 => 205 | 116 => 204 | 0 => 0 | 124 => 208 | 21 => 21 | 105 => 243 | 46 => 106 | 119 => 250 | 139 => 253 | 138 => 252 | n => n, fun | 3 => 2 | 4 => 3 | n => n⟩
theorem lays160 : Go.Proofs.Lays.n160 Tryz.prog lays160_ren := {
  mixed := by kernel_rfl
  f119 := Tryz.func265.trans (congrArg some (by kernel_rfl))
  f120 := Tryz.func241.trans (congrArg some (by kernel_rfl))
  f137 := Tryz.func199.trans (congrArg some (by kernel_rfl))
  f151 := Tryz.func211.trans (congrArg some (by kernel_rfl))
  f152 := Tryz.func240.trans (congrArg some (by kernel_rfl))
  f160 := Tryz.func111.trans (congrArg some (by kernel_rfl))
  f197 := Tryz.func210.trans (congrArg some (by kernel_rfl))
  f217 := Tryz.func228.trans (congrArg some (by kernel_rfl))
  f224 := Tryz.func266.trans (congrArg some (by kernel_rfl))
  f225 := Tryz.func267.trans (congrArg some (by kernel_rfl))
  f227 := Tryz.func164.trans (congrArg some (by kernel_rfl))
  f228 := Tryz.func209.trans (congrArg some (by kernel_rfl))
  f231 := Tryz.func162.trans (congrArg some (by kernel_rfl))
  f232 := Tryz.func163.trans (congrArg some (by kernel_rfl))
  f233 := Tryz.func165.trans (congrArg some (by kernel_rfl))
  f234 := Tryz.func166.trans (congrArg some (by kernel_rfl))
  f235 := Tryz.func167.trans (congrArg some (by kernel_rfl))
  f236 := Tryz.func168.trans (congrArg some (by kernel_rfl))
  f260 := Tryz.func239.trans (congrArg some (by kernel_rfl))
  f266 := Tryz.func254.trans (congrArg some (by kernel_rfl))
  f271 := Tryz.func212.trans (congrArg some (by kernel_rfl))
  t0 := Tryz.underlying0
  a0 := Tryz.isAgg0
  z0 := Tryz.sizeOf0
  v0 := Tryz.zeroValue0
  t3 := Tryz.underlying3
  a3 := Tryz.isAgg3
  z3 := Tryz.sizeOf3
  v3 := Tryz.zeroValue3
  t4 := Tryz.underlying4
  a4 := Tryz.isAgg4
  z4 := Tryz.sizeOf4
  v4 := Tryz.zeroValue4
  t5 := Tryz.underlying5
  a5 := Tryz.isAgg5
  z5 := Tryz.sizeOf5
  v5 := Tryz.zeroValue5
  t9 := Tryz.underlying9
  a9 := Tryz.isAgg9
  z9 := Tryz.sizeOf9
  v9 := Tryz.zeroValue9
  t21 := Tryz.underlying21
  a21 := Tryz.isAgg21
  z21 := Tryz.sizeOf21
  v21 := Tryz.zeroValue21
  t46 := Tryz.underlying106
  a46 := Tryz.isAgg106
  z46 := Tryz.sizeOf106
  v46 := Tryz.zeroValue106
  t105 := Tryz.underlying243
  a105 := Tryz.isAgg243
  z105 := Tryz.sizeOf243
  v105 := Tryz.zeroValue243
  t116 := Tryz.underlying204
  a116 := Tryz.isAgg204
  z116 := Tryz.sizeOf204
  t117 := Tryz.underlying205
  a117 := Tryz.isAgg205
  z117 := Tryz.sizeOf205
  v117 := Tryz.zeroValue205
  t119 := Tryz.underlying250
  a119 := Tryz.isAgg250
  z119 := Tryz.sizeOf250
  t124 := Tryz.underlying208
  a124 := Tryz.isAgg208
  z124 := Tryz.sizeOf208
  v124 := Tryz.zeroValue208
  t138 := Tryz.underlying252
  a138 := Tryz.isAgg252
  z138 := Tryz.sizeOf252
  v138 := Tryz.zeroValue252
  t139 := Tryz.underlying253
  a139 := Tryz.isAgg253
  z139 := Tryz.sizeOf253
  v139 := Tryz.zeroValue253
  g3 := by kernel_rfl
  g4 := by kernel_rfl }
def lays137_ren : Go.Shelf.Ren := ⟨fun | 137 => 199 | 217 => 228 | 266 => 254 | n => n, fun | 9 => 9 | 5 => 5 | 3 => 3 | n => n, fun | n => n⟩
theorem lays137 : Go.Proofs.Lays.n137 Tryz.prog lays137_ren := {
  mixed := by kernel_rfl
  f137 := Tryz.func199.trans (congrArg some (by kernel_rfl))
  f217 := Tryz.func228.trans (congrArg some (by kernel_rfl))
  f266 := Tryz.func254.trans (congrArg some (by kernel_rfl))
  t3 := Tryz.underlying3
  a3 := Tryz.isAgg3
  z3 := Tryz.sizeOf3
  v3 := Tryz.zeroValue3
  t5 := Tryz.underlying5
  a5 := Tryz.isAgg5
  z5 := Tryz.sizeOf5
  v5 := Tryz.zeroValue5
  t9 := Tryz.underlying9
  a9 := Tryz.isAgg9
  z9 := Tryz.sizeOf9
  v9 := Tryz.zeroValue9 }
def lays103_ren : Go.Shelf.Ren := ⟨fun | 103 => 40 | 210 => 69 | 206 => 102 | n => n, fun | 9 => 9 | 4 => 4 | 24 => 74 | 3 => 3 | n => n, fun | n => n⟩
theorem lays103 : Go.Proofs.Lays.n103 Tryz.prog lays103_ren := {
  mixed := by kernel_rfl
  f103 := Tryz.func40.trans (congrArg some (by kernel_rfl))
  f206 := Tryz.func102.trans (congrArg some (by kernel_rfl))
  f210 := Tryz.func69.trans (congrArg some (by kernel_rfl))
  t3 := Tryz.underlying3
  a3 := Tryz.isAgg3
  z3 := Tryz.sizeOf3
  v3 := Tryz.zeroValue3
  t4 := Tryz.underlying4
  a4 := Tryz.isAgg4
  z4 := Tryz.sizeOf4
  v4 := Tryz.zeroValue4
  t9 := Tryz.underlying9
  a9 := Tryz.isAgg9
  z9 := Tryz.sizeOf9
  v9 := Tryz.zeroValue9
  t24 := Tryz.underlying74
  a24 := Tryz.isAgg74
  z24 := Tryz.sizeOf74
  v24 := Tryz.zeroValue74 }
open Go.RowKit in
theorem strings_IndexByte (s : ByteArray) (c : Int) (w : World) :
    Calls Tryz.prog 199 #[.string s, .int .u8 c] w fun e w' => e = .returned (.int .i64 (Lib.indexByte s.data.toList c.toNat.toUInt8)) ∧ w' = w := Any.strings_IndexByte lays137 s c w
open Go.RowKit in
theorem strings_CutPrefix (s p : ByteArray) (w : World) :
    Calls Tryz.prog 40 #[.string s, .string p] w fun e w' => e = .returned (.tuple #[.string ⟨(Lib.trimPrefix s.data.toList p.data.toList).toArray⟩, .bool (Lib.hasPrefix s.data.toList p.data.toList)]) ∧ w' = w := Any.strings_CutPrefix lays103 s p w
open Go.RowKit Go.Lib in
theorem strings_Trim_set (s cutset : ByteArray) (w : World) (hs : s.size ≤ 9223372036854775807) (hcs : cutset.size < 4294967281) (hascii : ∀ (j : Nat) b, cutset.data.toList[j]? = some b → b.toNat < 128) :
    Calls Tryz.prog 111 #[.string s, .string cutset] w fun e w' => e = .returned (.string ⟨(Lib.trimS s.data.toList cutset.data.toList).toArray⟩) ∧ Below w.heap.size w w' := Any.strings_Trim_laid lays160 (by kernel_rfl) s cutset w hs hcs hascii
end Go.Proofs.YtlmbahedgjfjgaaGreatDoor

namespace Go.Proofs.YtlmbahedgjfjgaaGreatDoor
open Go.RowKit

def Byt (l : List Int) : Prop := ∀ z ∈ l, 0 ≤ z ∧ z < 256

def hxS (n : Int) : Int := if n < 10 then 48 + n else 87 + n
def sxS (n : Int) : Int := if n < 26 then 65 + n else if n < 52 then 71 + n else if n < 62 then n - 4 else if n = 62 then 43 else 47

def hexC : ByteArray := ⟨#[48, 49, 50, 51, 52, 53, 54, 55, 56, 57, 97, 98, 99, 100, 101, 102]⟩
def hexE : List Int → List Int
  | [] => []
  | c :: r => hxS (c / 16) :: hxS (c % 16) :: hexE r

theorem hxS_byte {n : Int} (h : 0 ≤ n) (h1 : n < 16) : 0 ≤ hxS n ∧ hxS n < 256 := by unfold hxS; split <;> omega
theorem wrap_small (n : Nat) (h : n < 9223372036854775808) : IntKind.i64.wrap (n : Int) = (n : Int) := by
  have e : (n : Int) % 2 ^ 64 = n := Int.emod_eq_of_lt (by omega) (by omega)
  simp only [IntKind.wrap, IntKind.bits, IntKind.signed, e]
  rw [if_neg]
  simp
  omega
theorem ofInt_nat (i : Nat) (h : i < 18446744073709551616) : (BitVec.ofInt 64 (i : Int)).toNat = i := by
  simp only [BitVec.toNat_ofInt]; omega
theorem or_i (a b k : Nat) (h : b < 2 ^ k) (hs : a * 2 ^ k + b < 9223372036854775808) : bits .or .i64 ((a * 2 ^ k : Nat) : Int) (b : Int) = ((a * 2 ^ k + b : Nat) : Int) := by
  show IntKind.i64.wrap ((BitVec.ofInt 64 ((a * 2 ^ k : Nat) : Int) ||| BitVec.ofInt 64 (b : Int)).toNat : Int) = _
  rw [BitVec.toNat_or, ofInt_nat _ (by omega), ofInt_nat _ (by omega), Nat.mul_comm a, ← Nat.two_pow_add_eq_or_of_lt h, Nat.mul_comm]
  exact wrap_small _ hs
theorem and_i (a k : Nat) (ha : a < 9223372036854775808) (hk : 2 ^ k ≤ 9223372036854775808) : bits .and .i64 (a : Int) ((2 ^ k - 1 : Nat) : Int) = ((a % 2 ^ k : Nat) : Int) := by
  show IntKind.i64.wrap ((BitVec.ofInt 64 (a : Int) &&& BitVec.ofInt 64 ((2 ^ k - 1 : Nat) : Int)).toNat : Int) = _
  rw [BitVec.toNat_and, ofInt_nat _ (by omega), ofInt_nat _ (by omega), Nat.and_two_pow_sub_one_eq_mod]
  exact wrap_small _ (Nat.lt_of_le_of_lt (Nat.mod_le _ _) ha)

theorem stopAt {p : Prop} (h : Hid p) : p := h.out
theorem hexC_at (n : Nat) (h : n < hexC.size) : (((hexC[n]'h).toNat : Nat) : Int) = hxS n := by
  have : ∀ n : Fin 16, ((hexC[n.1]'n.2).toNat : Int) = hxS n.1 := by decide
  exact this ⟨n, h⟩
theorem hexC_z : hexC.size = 16 := by decide
theorem u8b (u : UInt8) : (0 : Int) ≤ ((u.toNat : Nat) : Int) ∧ ((u.toNat : Nat) : Int) < 256 := by have := u.toNat_lt; omega
theorem byteVals_app (a b : List Int) : byteVals a ++ byteVals b = byteVals (a ++ b) := by simp [byteVals]

theorem hexE_len : ∀ l, (hexE l).length = 2 * l.length
  | [] => rfl
  | c :: r => by simp [hexE, hexE_len r]; omega
theorem hexE_byt : ∀ l, Byt l → Byt (hexE l)
  | [], _ => by intro z hz; simp [hexE] at hz
  | c :: r, h => by
    intro z hz
    have hc := h c (by simp)
    simp only [hexE, List.mem_cons] at hz
    rcases hz with rfl | rfl | hz
    · exact hxS_byte (by omega) (by omega)
    · exact hxS_byte (by omega) (by omega)
    · exact hexE_byt r (fun z hz => h z (by simp [hz])) z hz
theorem hexE_app : ∀ a b, hexE (a ++ b) = hexE a ++ hexE b
  | [], b => rfl
  | c :: r, b => by simp [hexE, hexE_app r b]
set_option maxHeartbeats 1000000 in
set_option maxRecDepth 100000 in
theorem spread4 (a : Option Addr) (len cap : Nat) (zs : List Int) (w : World) (hb : Bs w a len zs) (hm : len ≤ 1000000) :
    Calls Tryz.prog 72 #[.slice a len cap, .int .i64 4, .string hexC] w fun e w' => ∃ v, e = .returned v ∧ w'.ownsRow w.heap.size 5 1 v (2 * len) (byteVals (hexE zs)) ∧ Below w.heap.size w w' := by
  obtain ⟨hz, hby, hc⟩ := hb
  go_enter Tryz.func72, Tryz.ntmps72
  go_wp2
  go_loopw [7, 8, 9, 14] (fun v h k i wr => ∃ j : Nat, j ≤ len ∧ i = .int .i64 j ∧ h = .int .i64 0 ∧ k = .int .i64 0 ∧ wr.ownsRow w.heap.size 5 1 v (2 * j) (byteVals (hexE (zs.take j))) ∧ Below w.heap.size w wr) (fun _ _ _ i _ => len - (intOf i).toNat)
  case atStart => exact ⟨0, by omega, rfl, rfl, rfl, ⟨rfl, .inl ⟨rfl, rfl⟩⟩, Below.refl _ _⟩
  case round =>
    obtain ⟨j, hj, rfl, rfl, rfl, ho, hw⟩ := hrel
    by_cases hlt : j < len
    · obtain ⟨b', off, rfl, hcell⟩ := hc (by omega)
      have hck := cell_later hw (hcell j hlt)
      have hbk := hby _ (getD_mem (l := zs) (k := j) (by omega))
      have hts := hide1 (take_snoc zs j (by omega))
      generalize hcc : zs.getD j 0 = c at *
      obtain ⟨c, rfl⟩ := Int.eq_ofNat_of_zero_le hbk.1
      have hc256 : c < 256 := by omega
      clear hcc hc hcell hbk
      have Hor := hide1 (or_i 0 c 8 (by omega) (by omega))
      go_wp2_with fail
      have H1 : bits .or .i64 0 (c : Int) = (c : Int) := by have := Hor.out; simpa using this
      rw [H1]
      refine wp_loop_rounds 3 ?_
      rw [rounds_succ]
      have Han := hide1 (and_i c 4 (by omega) (by omega))
      have hZ := hexC_z
      have Hg := hide1 (hexC_at (c / 16) (by rw [hexC_z]; omega))
      go_wp2_with (at_builtin; refine wpList_append_bs rfl (.tmp 31) (.tmp 37) rfl w.heap.size _ _ _ rfl (ho.alloc _) _ 1 1 _ rfl (bs_one _ _ (u8b _)) (by omega) (by have := hw.size; simp; omega) ?_; intro v1 w1 ho1 hg1; have hw1 := below_app hw (Nat.le_refl _) ho hg1; refine stopAt ?_)
      refine hide1 ?_
      rw [Hg.out] at ho1
      clear ho hg1 hck
      go_wp2_with fail
      have H2 : bits .and .i64 (c : Int) 15 = ((c % 16 : Nat) : Int) := Han.out
      rw [H2, rounds_succ]
      have hd16 : c % 16 < 16 := Nat.mod_lt _ (by decide)
      have Hdc : Hid (((c % 16 : Nat) : Int) = (c : Int) % 16) := hide1 (by omega)
      have H3 : bits .and .i64 ((c % 16 : Nat) : Int) 0 = 0 := by have := and_i (c % 16) 0 (by omega) (by omega); rw [Nat.pow_zero, Nat.mod_one] at this; exact this
      clear H2 Han
      generalize c % 16 = d at *
      have Hg2 := hide1 (hexC_at d (by rw [hexC_z]; omega))

      go_wp2_with (at_builtin; refine wpList_append_bs rfl (.tmp 31) (.tmp 37) rfl w.heap.size _ _ _ rfl (ho1.alloc _) _ 1 1 _ rfl (bs_one _ _ (u8b _)) (by omega) (by have := hw1.size; simp; omega) ?_; intro v2 w2 ho2 hg2; have hw2 := below_app hw1 (Nat.le_refl _) ho1 hg2; refine stopAt ?_)
      refine hide1 ?_
      rw [Hg2.out] at ho2
      clear ho1 hg2 hw1
      go_wp2_with fail
      rw [rounds_succ]
      go_wp2_with fail
      go_roundw
      case rel =>
        refine ⟨j + 1, by omega, by go_num, rfl, rfl, ?_, hw2⟩
        rw [hts.out, hexE_app]
        rw [byteVals_app, byteVals_app, List.append_assoc] at ho2
        simp only [hexE]
        rw [← Hdc.out]
        exact ho2
      case measure => simp [intOf]; omega
    · go_wp2
      go_ret
      refine ⟨_, rfl, ?_, hw⟩
      obtain rfl : j = len := by omega
      rwa [List.take_of_length_le (by omega)] at ho
theorem drop_cons (l : List Int) (k : Nat) (h : k < l.length) : l.drop k = l.getD k 0 :: l.drop (k + 1) := by
  rw [List.drop_eq_getElem_cons h]; simp [List.getD_eq_getElem?_getD, h]

set_option maxHeartbeats 400000 in
set_option maxRecDepth 100000 in
theorem hex_d (a : Option Addr) (len cap : Nat) (zs : List Int) (w : World) (hb : Bs w a len zs) (hm : len ≤ 1000000) :
    Calls Tryz.prog 44 #[.slice a len cap] w fun e w' => e = .returned (.string (strOfNums (hexE zs))) ∧ Below w.heap.size w w' := by
  have hby := hexE_byt zs hb.2.1
  go_enter Tryz.func44, Tryz.ntmps44
  go_wp2_with fail
  refine (spread4 a len cap zs w hb hm).mono ?_
  rintro e w1 ⟨v, rfl, ho, hw⟩
  obtain ⟨a1, c1, rfl, hb1, _⟩ := bs_owned ho hby
  have k1 := conv_bs hb1 c1
  go_wp2
  go_ret
  exact ⟨rfl, hw⟩

def n4 (c : Int) : Int := Go.Lib.indexByte hexC.data.toList c.toNat.toUInt8
set_option maxRecDepth 100000 in
theorem n4_all : ∀ c : Fin 256, (n4 c.1 < 0 ∧ n4 c.1 = -1) ∨ (0 ≤ n4 c.1 ∧ n4 c.1 < 16 ∧ hxS (n4 c.1) = c.1) := by decide +kernel
set_option maxRecDepth 100000 in
theorem n4_hx' : ∀ c : Fin 16, n4 (hxS c.1) = c.1 := by decide +kernel
theorem n4_b {c : Int} (h : 0 ≤ c ∧ c < 256) : (n4 c < 0 ∧ n4 c = -1) ∨ (0 ≤ n4 c ∧ n4 c < 16 ∧ hxS (n4 c) = c) := by
  obtain ⟨k, rfl⟩ := Int.eq_ofNat_of_zero_le h.1
  exact n4_all ⟨k, by omega⟩
theorem n4_hx {n : Int} (h : 0 ≤ n) (h1 : n < 16) : n4 (hxS n) = n := by
  obtain ⟨k, rfl⟩ := Int.eq_ofNat_of_zero_le h
  exact n4_hx' ⟨k, by omega⟩
inductive Gv where | z | two (h : Int) | four (h : Int) | six (h : Int)
def ga4 : Gv → List Int → Option (List Int)
  | .z, [] => some []
  | _, [] => none
  | .z, c :: r => if n4 c < 0 then none else ga4 (.four (n4 c)) r
  | .four h, c :: r => if n4 c < 0 then none else (ga4 .z r).map ((h * 16 + n4 c) :: ·)
  | _, _ => none
def AnG (o : Option (List Int)) (B : Nat) (e : Ending) (w : World) : Prop :=
  match o with
  | none => e = .returned (.tuple #[.slice none 0 0, .iface 42 (.int .i64 1)])
  | some l => ∃ v, e = .returned (.tuple #[v, .nilIface]) ∧ w.ownsRow B 5 1 v l.length (byteVals l)

theorem idx4 (c : Int) (w : World) : Calls Tryz.prog 199 #[.string hexC, .int .u8 c] w fun e w' => e = .returned (.int .i64 (n4 c)) ∧ w' = w := strings_IndexByte hexC c w
theorem str_size (zs : List Int) : (strOfNums zs).size = zs.length := by
  have h := strOfNums_data zs
  show (strOfNums zs).data.size = _
  rw [← Array.length_toList, h]; simp
theorem str_at (zs : List Int) (hz : Byt zs) (j : Nat) (h : j < (strOfNums zs).size) : ((((strOfNums zs)[j]'h).toNat : Nat) : Int) = zs.getD j 0 := by
  have hj : j < zs.length := by rw [← str_size]; exact h
  have hd := strOfNums_data zs
  have h1 : (strOfNums zs)[j]'h = (strOfNums zs).data.toList[j]'(by rw [hd]; simpa using hj) := by
    rw [Array.getElem_toList]; rfl
  rw [h1]
  have h2 : ∀ (l : List UInt8) (e : (strOfNums zs).data.toList = l) (hl : j < l.length), (strOfNums zs).data.toList[j]'(by rw [e]; exact hl) = l[j] := by intro l e hl; subst e; rfl
  rw [h2 _ hd (by simpa using hj)]
  have hb := hz _ (getD_mem (l := zs) (k := j) hj)
  simp only [List.getElem_map]
  have : zs[j] = zs.getD j 0 := by simp [List.getD_eq_getElem?_getD, hj]
  rw [this]
  generalize zs.getD j 0 = z at *
  obtain ⟨k, rfl⟩ := Int.eq_ofNat_of_zero_le hb.1
  simp
  omega
theorem map_app {o : Option (List Int)} {x : Int} (out : List Int) : (o.map (x :: ·)).map (out ++ ·) = o.map ((out ++ [x]) ++ ·) := by cases o <;> simp
def GvI : Gv → Value → Value → Prop
  | .z, h, k => h = .int .i64 0 ∧ k = .int .i64 0
  | .two x, h, k => ∃ y : Nat, x = y ∧ y < 4 ∧ h = .int .i64 y ∧ k = .int .i64 2
  | .four x, h, k => ∃ y : Nat, x = y ∧ y < 16 ∧ h = .int .i64 y ∧ k = .int .i64 4
  | .six x, h, k => ∃ y : Nat, x = y ∧ y < 64 ∧ h = .int .i64 y ∧ k = .int .i64 6
def nx4 (st : Gv) (d : Int) (r out : List Int) : Option (List Int) := match st with
  | .z => (ga4 (.four d) r).map (out ++ ·)
  | .four h => (ga4 .z r).map ((out ++ [h * 16 + d]) ++ ·)
  | _ => none
theorem nx4_eq {st : Gv} {c : Int} {r out : List Int} (h : ¬ n4 c < 0) : (ga4 st (c :: r)).map (out ++ ·) = nx4 st (n4 c) r out := by
  rcases st with _ | x | x | x <;> simp only [ga4, nx4, h, if_false, map_app, Option.map_none]
set_option maxHeartbeats 4000000 in
set_option maxRecDepth 100000 in
theorem gather4 (zs : List Int) (hz : Byt zs) (hm : zs.length ≤ 1000000) (w : World) :
    Calls Tryz.prog 148 #[.string (strOfNums zs), .int .i64 4, .string hexC] w fun e w' => AnG (ga4 .z zs) w.heap.size e w' ∧ Below w.heap.size w w' := by
  have hsz := str_size zs
  obtain ⟨S, hS⟩ : ∃ S, Hid (S = strOfNums zs) := ⟨_, hide1 rfl⟩
  have hat : ∀ j (h : j < S.size), (((S[j]'h).toNat : Nat) : Int) = zs.getD j 0 := by rw [hS.out]; exact str_at zs hz
  rw [← hS.out] at hsz ⊢
  generalize hL : zs.length = len at *
  obtain ⟨A, hA⟩ : ∃ A, Hid (A = ga4 .z zs) := ⟨_, hide1 rfl⟩
  rw [← hA.out]
  go_enter Tryz.func148, Tryz.ntmps148
  go_wp2_with fail
  go_loopw [8, 9, 10, 15] (fun v h k i wr => ∃ j : Nat, j ≤ len ∧ i = .int .i64 j ∧ ∃ st out n, GvI st h k ∧ Hid (A = (ga4 st (zs.drop j)).map (out ++ ·)) ∧ Hid (n = out.length) ∧ n ≤ j ∧ wr.ownsRow w.heap.size 5 1 v n (byteVals out) ∧ Below w.heap.size w wr ∧ (st = .z ∨ ∃ h, st = .four h)) (fun _ _ _ i _ => len - (intOf i).toNat)
  case atStart => exact ⟨0, by omega, rfl, .z, [], 0, ⟨rfl, rfl⟩, hide1 (by rw [hA.out]; simp), hide1 rfl, by omega, ⟨rfl, .inl ⟨rfl, rfl⟩⟩, Below.refl _ _, .inl rfl⟩
  case round =>
    obtain ⟨j, hj, rfl, st, out, n, hI, hE, hn, hn2, ho, hw, hst⟩ := hrel
    by_cases hlt : j < len
    · have hb := hz _ (getD_mem (l := zs) (k := j) (by omega))
      have hj2 : j < S.size := by omega
      have hx := hat j hj2
      have hE := hE.out
      rw [drop_cons zs j (by omega)] at hE
      generalize zs.getD j 0 = c at *
      have hc := n4_b hb
      have hE := hide1 hE
      clear hat hA hb
      go_wp2_with fail
      refine (idx4 _ _).mono ?_
      rintro e w1 ⟨rfl, rfl⟩

      rcases hc with ⟨hc, hc1⟩ | ⟨hc0, hc1, -⟩
      · have hE : A = none := by
          have h1 := hE.out
          rw [h1]
          rcases st with _ | x | x | x <;> simp [ga4, hc]
        rw [hc1]
        clear hc1 hc
        go_wp2_with fail
        go_ret2
        refine ⟨?_, hw⟩
        rw [hE]; rfl
      have hE : Hid (A = nx4 st (n4 c) (zs.drop (j + 1)) out) := hide1 (by rw [hE.out, nx4_eq (by omega)])
      clear hx
      generalize n4 c = d at *
      obtain ⟨d, rfl⟩ := Int.eq_ofNat_of_zero_le hc0
      have hd : d < 16 := by omega
      clear hc0 hc1
      rcases hst with rfl | ⟨x, rfl⟩
      · obtain ⟨rfl, rfl⟩ := hI
        have Hor := hide1 (or_i 0 d 4 (by omega) (by omega))
        have H1 : bits .or .i64 0 (d : Int) = (d : Int) := by have := Hor.out; simpa using this
        clear Hor
        go_wp2_with fail
        go_roundw
        case rel => exact ⟨j + 1, by omega, by go_num, .four d, out, n, ⟨d, rfl, hd, rfl, rfl⟩, hE, hn, by omega, ho, hw, .inr ⟨_, rfl⟩⟩
        case measure => simp [intOf]; omega
      · obtain ⟨y, rfl, hy, rfl, rfl⟩ := hI
        have Hor := hide1 (or_i y d 4 (by omega) (by omega))
        have H1 : bits .or .i64 ((y : Int) * 16) (d : Int) = ((y * 16 + d : Nat) : Int) := by have := Hor.out; simpa using this
        clear Hor
        have HX : Hid (((y * 16 + d : Nat) : Int) = (y : Int) * 16 + d) := hide1 (by omega)
        have hX : y * 16 + d < 256 := by omega
        generalize y * 16 + d = X at *
        have Han : bits .and .i64 (X : Int) 0 = 0 := (by have := and_i X 0 (by omega) (by omega); rw [Nat.pow_zero, Nat.mod_one] at this; exact this)
        go_wp2_with (at_builtin; refine wpList_append_bs rfl (.tmp 38) (.tmp 43) rfl w.heap.size _ _ _ rfl (ho.alloc _) _ 1 1 [(X : Int)] rfl (bs_one _ ((X : Int)) (by omega)) (by omega) (by have := hw.size; simp; omega) ?_; intro v1 w1 ho1 hg1; have hw1 := below_app hw (Nat.le_refl _) ho hg1; refine stopAt ?_)
        refine hide1 ?_
        rw [byteVals_app] at ho1
        clear ho hg1
        go_wp2_with fail
        go_roundw
        case rel =>
          refine ⟨j + 1, by omega, by go_num, .z, out ++ [(X : Int)], n + 1, ⟨rfl, rfl⟩, hide1 ?_, hide1 (by simp [hn.out]), by omega, ho1, hw1, .inl rfl⟩
          have h1 := hE.out
          simp only [nx4, ← HX.out] at h1
          exact h1
        case measure => simp [intOf]; omega
    · obtain rfl : j = len := by omega
      have hE := hE.out
      rw [List.drop_of_length_le (by omega)] at hE
      have hE := hide1 hE
      rcases hst with rfl | ⟨x, rfl⟩
      · obtain ⟨rfl, rfl⟩ := hI
        go_wp2_with fail
        go_ret2
        refine ⟨?_, hw⟩
        have h1 := hE.out
        rw [h1]
        simp only [ga4, Option.map_some, List.append_nil]
        exact ⟨_, rfl, by rw [← hn.out]; exact ho⟩
      · obtain ⟨y, rfl, hy, rfl, rfl⟩ := hI
        go_wp2_with fail
        go_ret2
        refine ⟨?_, hw⟩
        have h1 := hE.out
        rw [h1]
        simp only [ga4, Option.map_none]
        rfl
set_option maxHeartbeats 400000 in
set_option maxRecDepth 100000 in
theorem unhex_d (zs : List Int) (hz : Byt zs) (hm : zs.length ≤ 1000000) (w : World) :
    Calls Tryz.prog 103 #[.string (strOfNums zs)] w fun e w' => AnG (ga4 .z zs) w.heap.size e w' ∧ Below w.heap.size w w' := by
  have H := gather4 zs hz hm w
  generalize ga4 .z zs = A at *
  go_enter Tryz.func103, Tryz.ntmps103
  go_wp2_with fail
  refine H.mono ?_
  rintro e w1 ⟨h1, hw⟩
  cases A with
  | none =>
    obtain rfl := h1
    go_wp2_with fail
    go_ret2
    exact ⟨rfl, hw⟩
  | some l =>
    obtain ⟨v, rfl, ho⟩ := h1
    go_wp2_with fail
    go_ret2
    exact ⟨⟨_, rfl, ho⟩, hw⟩

theorem Byt.tail {c : Int} {r : List Int} (h : Byt (c :: r)) : Byt r := fun z hz => h z (by simp [hz])
theorem Byt.head {c : Int} {r : List Int} (h : Byt (c :: r)) : 0 ≤ c ∧ c < 256 := h c (by simp)
theorem Byt.cons {c : Int} {r : List Int} (h : 0 ≤ c ∧ c < 256) (hr : Byt r) : Byt (c :: r) := by
  intro z hz
  rcases List.mem_cons.1 hz with rfl | hz
  · exact h
  · exact hr z hz
theorem Byt.nil : Byt [] := by intro z hz; simp at hz
theorem ga4_hexE : ∀ l, Byt l → ga4 .z (hexE l) = some l
  | [], _ => rfl
  | c :: r, h => by
    have hc := h.head
    have h1 := n4_hx (n := c / 16) (by omega) (by omega)
    have h2 := n4_hx (n := c % 16) (by omega) (by omega)
    simp only [hexE, ga4, h1, h2, ga4_hexE r h.tail, show ¬ (c / 16 < 0) by omega, show ¬ (c % 16 < 0) by omega, if_false, Option.map_some]
    rw [show c / 16 * 16 + c % 16 = c by omega]
theorem hexE_ga4 : ∀ s l, Byt s → ga4 .z s = some l → hexE l = s ∧ Byt l
  | [], l, _, h => by simp only [ga4, Option.some.injEq] at h; subst h; exact ⟨rfl, Byt.nil⟩
  | [c], l, _, h => by simp only [ga4] at h; split at h <;> simp at h
  | c :: d :: r, l, hs, h => by
    have hc := n4_b hs.head
    have hd := n4_b hs.tail.head
    simp only [ga4] at h
    rcases hc with ⟨hc, _⟩ | ⟨c0, c1, c2⟩
    · simp [hc] at h
    rw [if_neg (by omega)] at h
    rcases hd with ⟨hd, _⟩ | ⟨d0, d1, d2⟩
    · simp [hd] at h
    rw [if_neg (by omega)] at h
    obtain ⟨m, hm, rfl⟩ := Option.map_eq_some_iff.1 h
    obtain ⟨h1, h2⟩ := hexE_ga4 r m hs.tail.tail hm
    refine ⟨?_, Byt.cons (by omega) h2⟩
    simp only [hexE, h1]
    rw [show (n4 c * 16 + n4 d) / 16 = n4 c by omega, show (n4 c * 16 + n4 d) % 16 = n4 d by omega, c2, d2]

def rd4 : List Int → List Int
  | c :: d :: r => (16 * n4 c + n4 d) % 256 :: rd4 r
  | _ => []
theorem rd4_hexE : ∀ l, Byt l → rd4 (hexE l) = l
  | [], _ => rfl
  | c :: r, h => by
    have hc := h.head
    have h1 := n4_hx (n := c / 16) (by omega) (by omega)
    have h2 := n4_hx (n := c % 16) (by omega) (by omega)
    simp only [hexE, rd4, h1, h2, rd4_hexE r h.tail]
    rw [show (16 * (c / 16) + c % 16) % 256 = c by omega]
theorem rd4_byt : ∀ l, Byt (rd4 l)
  | [] => Byt.nil
  | [_] => Byt.nil
  | c :: d :: r => by simp only [rd4]; exact Byt.cons (by omega) (rd4_byt r)
theorem rd4_len : ∀ l, (rd4 l).length = l.length / 2
  | [] => rfl
  | [_] => by simp [rd4]
  | c :: d :: r => by simp only [rd4, List.length_cons, rd4_len r]; omega
theorem ref4_eq (s : List Int) (hs : Byt s) : (if hexE (rd4 s) = s then some (rd4 s) else none) = ga4 .z s := by
  cases h : ga4 .z s with
  | none =>
    rw [if_neg]
    intro e
    rw [← e, ga4_hexE _ (rd4_byt s)] at h
    cases h
  | some l =>
    obtain ⟨h1, h2⟩ := hexE_ga4 s l hs h
    have h3 : rd4 s = l := by rw [← h1]; exact rd4_hexE l h2
    rw [h3, if_pos h1]

def s4 (n : Int) : List Int := [sxS (n / 262144), sxS (n / 4096 % 64), sxS (n / 64 % 64), sxS (n % 64)]
end Go.Proofs.YtlmbahedgjfjgaaGreatDoor

namespace Go.Proofs.YtlmbahedgjfjgaaGreatDoor
open Go.RowKit Go.Maps

theorem bl2 {w w1 w2 : World} (h : Below w.heap.size w w1) (k : Below w1.heap.size w1 w2) : Below w.heap.size w w2 := h.trans (k.mono h.size)

theorem str_app (a b : List Int) : strOfNums a ++ strOfNums b = strOfNums (a ++ b) := by
  apply ByteArray.ext
  apply Array.ext'
  rw [ByteArray.data_append, Array.toList_append, strOfNums_data, strOfNums_data, strOfNums_data, List.map_append]
theorem str_eq {a b : List Int} (h : a = b) : ((strOfNums a).toList == (strOfNums b).toList) = true := by subst h; simp

theorem Bs.take {w : World} {a : Option Addr} {len : Nat} {zs : List Int} (h : Bs w a len zs) {k : Nat} (hk : k ≤ len) : Bs w a k (zs.take k) := by
  obtain ⟨h1, h2, h3⟩ := h
  refine ⟨by simp; omega, fun z hz => h2 z (List.mem_of_mem_take hz), fun hp => ?_⟩
  obtain ⟨b, off, rfl, hc⟩ := h3 (by omega)
  refine ⟨b, off, rfl, fun i hi => ?_⟩
  rw [hc i (by omega)]
  simp [List.getD_eq_getElem?_getD, hi]

end Go.Proofs.YtlmbahedgjfjgaaGreatDoor

namespace Go.Proofs.YtlmbahedgjfjgaaGreatDoor
open Go.RowKit

theorem step_append_bs {w : World} {ops : Array Oper} {o : Oper} {a : Act} {K : Act → World → Prop} {Q : Exit → Act → World → Prop} {E : Prop} (hgd : o.guard = none) (s x : Operand)
    (ho : o.op = .call { callee := .builtin .append, args := #[s, x], argTypes := #[24, 24] }) (base : Nat)
    (v : Value) (n : Nat) (xs : List Value) (hs : a.eval s = v) (hown : w.ownsRow base 5 1 v n xs) (ad : Option Addr) (m c : Nat) (zs : List Int) (hx : a.eval x = .slice ad m c) (hb : Bs w ad m zs)
    (hbytes : n + m ≤ 140737488355328) (hbase : base ≤ w.heap.size)
    (h : ∀ v' w', w'.ownsRow base 5 1 v' (n + m) (xs ++ byteVals zs) → w.grownBy w' v.ownBlock → K (a.put o.dst v') w') : if Region.wanted o (yielded ops a.tmps) = true then Oper.wp Tryz.prog o a w K Q else E := by
  have hw : Region.wanted o (yielded ops a.tmps) = true := by simp [Region.wanted, hgd]
  rw [if_pos hw]
  obtain ⟨v', w', hr, h2, h3⟩ := run_append_bs w base o.type v n xs hown ad m c zs hb hbytes hbase
  unfold Oper.wp execOp
  simp only [ho, resolve, invoke, builtin, Sem.run_bind, Sem.run_pure, Result.andThen_ok, List.map_toArray, List.map_cons, List.map_nil, hs, hx, hr]
  exact h v' w' h2 h3

theorem wrap_u8 (n : Nat) (h : n < 256) : IntKind.u8.wrap (n : Int) = (n : Int) := by
  have e : (n : Int) % 2 ^ 8 = n := Int.emod_eq_of_lt (by omega) (by omega)
  simp only [IntKind.wrap, IntKind.bits, IntKind.signed, e]
  simp
theorem bs_two' (w : World) (x y : Int) (hx : 0 ≤ x ∧ x < 256) (hy : 0 ≤ y ∧ y < 256) : Bs (w.alloc (.cells #[.int .u8 x, .int .u8 y] 5)) (some ⟨w.heap.size, 0, none⟩) 2 [x, y] := bs_new w [x, y] (0, 0) (by simp; omega)

set_option maxHeartbeats 4000000 in
set_option maxRecDepth 100000 in
theorem refHex_d (a : Option Addr) (len cap : Nat) (zs : List Int) (w : World) (hb : Bs w a len zs) (hm : len ≤ 1000000) :
    Calls Tryz.prog 45 #[.slice a len cap] w fun e w' => e = .returned (.string (strOfNums (hexE zs))) ∧ Below w.heap.size w w' := by
  have hbyE := hexE_byt zs hb.2.1
  obtain ⟨hz, hby, hc⟩ := hb
  go_enter Tryz.func45, Tryz.ntmps45
  go_wp2_with fail
  go_loopw [4, 5] (fun v i wr => ∃ j : Nat, j ≤ len ∧ i = .int .i64 j ∧ wr.ownsRow w.heap.size 5 1 v (2 * j) (byteVals (hexE (zs.take j))) ∧ Below w.heap.size w wr) (fun _ i _ => len - (intOf i).toNat)
  case atStart => exact ⟨0, by omega, rfl, ⟨rfl, .inl ⟨rfl, rfl⟩⟩, Below.refl _ _⟩
  case round =>
    obtain ⟨j, hj, rfl, ho, hw⟩ := hrel
    by_cases hlt : j < len
    · obtain ⟨b', off, rfl, hcell⟩ := hc (by omega)
      have hck := cell_later hw (hcell j hlt)
      have hbk := hby _ (getD_mem (l := zs) (k := j) (by omega))
      have hts := hide1 (take_snoc zs j (by omega))
      generalize hcc : zs.getD j 0 = c at *
      obtain ⟨c, rfl⟩ := Int.eq_ofNat_of_zero_le hbk.1
      have hc256 : c < 256 := by omega
      clear hcc hc hcell hbk
      have hZ := hexC_z
      obtain ⟨d1, hd1⟩ : ∃ d, Hid (d = c / 16) := ⟨_, hide1 rfl⟩
      obtain ⟨d2, hd2⟩ : ∃ d, Hid (d = c % 16) := ⟨_, hide1 rfl⟩
      have q1 : IntKind.u8.wrap ((c : Int) / 16) = (d1 : Int) := by rw [hd1.out, ← wrap_u8 (c / 16) (by omega)]; congr 1
      have q2 : (c : Int).tmod 16 = (d2 : Int) := by rw [hd2.out]; rfl
      have r1 : (d1 : Int) < 16 := by rw [hd1.out]; omega
      have r2 : (d2 : Int) < 16 := by rw [hd2.out]; omega
      have Hg := hexC_at d1 (by rw [hexC_z]; omega)
      have Hg2 := hexC_at d2 (by rw [hexC_z]; omega)
      go_wp2_with fail
      rw [show (⟨#[48, 49, 50, 51, 52, 53, 54, 55, 56, 57, 97, 98, 99, 100, 101, 102]⟩ : ByteArray) = hexC from rfl]
      have hoD : wr.drew.ownsRow w.heap.size 5 1 u4 (2 * j) (byteVals (hexE (zs.take j))) := ho
      have hwD : Below w.heap.size w wr.drew := hw.drew
      go_region_law (refine step_append_bs rfl (.tmp 12) (.tmp 27) rfl w.heap.size u4 (2 * j) (byteVals (hexE (zs.take j))) (by first | (simp [Act.eval]; done) | (simp [Act.eval, Act.put]; done) | rfl) (hoD.alloc _) (some ⟨wr.heap.size, 0, none⟩) 2 2 [hxS (d1 : Int), hxS (d2 : Int)] (by first | (simp [Act.eval]; done) | (simp [Act.eval, Act.put]; done) | rfl) (bs_two' wr.drew _ _ (hxS_byte (by omega) (by omega)) (hxS_byte (by omega) (by omega))) (by omega) (by have := hw.size; simp; omega) ?_; intro v1 w1 ho1 hg1; have hw1 := below_app hwD (Nat.le_refl _) hoD hg1)
      all_goals
        rw [byteVals_app] at ho1
        simp only [Act.put, List.setIfInBounds_toArray]
        rw [show hexC = (⟨#[48, 49, 50, 51, 52, 53, 54, 55, 56, 57, 97, 98, 99, 100, 101, 102]⟩ : ByteArray) from rfl]
        clear hck Hg Hg2 q1 q2 ho hoD hg1
        go_wp2_with fail
        go_roundw
        case rel =>
          refine ⟨j + 1, by omega, by go_num, ?_, hw1⟩
          rw [hts.out, hexE_app]
          simp only [hexE]
          rw [show (c : Int) / 16 = (d1 : Int) by rw [hd1.out]; omega, show (c : Int) % 16 = (d2 : Int) by rw [hd2.out]; omega]
          exact ho1
        case measure => simp [intOf]; omega
    · obtain rfl : j = len := by omega
      rw [List.take_of_length_le (by omega)] at ho
      obtain ⟨a1, c1, rfl, hb1, _⟩ := bs_owned ho hbyE
      have k1 := conv_bs hb1 c1
      go_wp2
      go_ret
      exact ⟨rfl, hw⟩
set_option maxHeartbeats 1000000 in
set_option maxRecDepth 100000 in
theorem place4 (c : Int) (hc : 0 ≤ c ∧ c < 256) (w : World) : Calls Tryz.prog 104 #[.int .u8 c, .int .i64 4] w fun e w' => e = .returned (.int .i64 (n4 c)) ∧ w' = w := by
  go_enter Tryz.func104, Tryz.ntmps104
  go_wp2_with fail
  go_loop [5] (fun i => ∃ k : Nat, k ≤ 64 ∧ i = .int .i64 k ∧ ∀ m : Nat, m < k → m < 16 → hxS m ≠ c) (fun i => 64 - (intOf i).toNat)
  case atStart => exact ⟨0, by omega, rfl, fun m hm => absurd hm (by omega)⟩
  case round =>
    obtain ⟨k, hk, rfl, hno⟩ := hrel
    by_cases hlt : k < 64
    · by_cases h16 : k < 16
      · have hZ := hexC_z
        have Hk : k < (⟨#[48, 49, 50, 51, 52, 53, 54, 55, 56, 57, 97, 98, 99, 100, 101, 102]⟩ : ByteArray).size := by rw [show (⟨#[48, 49, 50, 51, 52, 53, 54, 55, 56, 57, 97, 98, 99, 100, 101, 102]⟩ : ByteArray).size = 16 from rfl]; omega
        have Hg : ((((⟨#[48, 49, 50, 51, 52, 53, 54, 55, 56, 57, 97, 98, 99, 100, 101, 102]⟩ : ByteArray)[k]'Hk).toNat : Nat) : Int) = hxS k := hexC_at k Hk
        by_cases he : hxS k = c
        · have hn : n4 c = k := by rw [← he]; exact n4_hx (by omega) (by omega)
          have hb : (hxS k == c) = true := by simp [he]
          clear hno
          go_wp2_with fail
          go_ret
          first | exact ⟨rfl, rfl⟩ | exact ⟨ret_int hn.symm, rfl⟩
        · have hb : (hxS k == c) = false := by simp [he]
          go_wp2_with fail
          go_roundw
          case rel =>
            refine ⟨k + 1, by omega, by go_num, fun m hm hm2 => ?_⟩
            rcases (show m < k ∨ m = k by omega) with h | rfl
            · exact hno m h hm2
            · exact he
          case measure => simp [intOf]; omega
      · go_wp2_with fail
        go_roundw
        case rel =>
          refine ⟨k + 1, by omega, by go_num, fun m hm hm2 => ?_⟩
          exact hno m (by omega) hm2
        case measure => simp [intOf]; omega
    · have hn : n4 c = -1 := by
        rcases n4_b hc with ⟨_, h⟩ | ⟨h0, h1, h2⟩
        · exact h
        · exfalso
          refine hno (n4 c).toNat (by omega) (by omega) ?_
          rw [Int.toNat_of_nonneg h0, h2]
      clear hno
      go_wp2_with fail
      go_ret
      first | exact ⟨rfl, rfl⟩ | exact ⟨ret_int hn.symm, rfl⟩
end Go.Proofs.YtlmbahedgjfjgaaGreatDoor

namespace Go.Proofs.YtlmbahedgjfjgaaGreatDoor
open Go.RowKit Go.Maps

structure Pl (w u : World) (g : Nat) (cs : Array Value) (t : TypeId) (v : Value) (n : Nat) (out : List Int) : Prop where
  row : u.heap[g]? = some (.cells cs t (0, 0))
  lo : w.heap.size ≤ g
  own : u.ownsRow w.heap.size 5 1 v n (byteVals out)
  ne : ∀ q, v.ownBlock = some q → q ≠ g
  bel : Below w.heap.size w u
theorem own_ne {w u : World} {v : Value} {n : Nat} {xs : List Value} {B e : Nat} (h : w.ownsRow B e 1 v n xs) (hk : ∀ q, v.ownBlock = some q → u.heap[q]? = w.heap[q]?) : u.ownsRow B e 1 v n xs := by
  refine ⟨h.1, ?_⟩
  rcases h.2 with e | ⟨q, cap, cur, rfl, hb, hg, r⟩
  · exact .inl e
  · exact .inr ⟨q, cap, cur, rfl, hb, (hk q rfl).trans hg, r⟩
theorem Pl.set {w u : World} {g : Nat} {cs : Array Value} {t : TypeId} {v : Value} {n : Nat} {out : List Int} (h : Pl w u g cs t v n out) (i : Nat) (x : Value) : Pl w (u.setCell ⟨g, i, none⟩ x) g (cs.setIfInBounds i x) t v n out :=
  ⟨by simp [World.setCell, h.row, Array.getElem?_modify], h.lo, own_ne h.own fun q hq => Below.heap_setCell _ _ _ _ (by simpa using h.ne q hq), h.ne, h.bel.setCell h.lo _⟩
theorem Pl.cell {w u : World} {g : Nat} {cs : Array Value} {t : TypeId} {v : Value} {n : Nat} {out : List Int} (h : Pl w u g cs t v n out) (i : Nat) : u.cell? ⟨g, i, none⟩ = cs[i]? := by simp [World.cell?, h.row]
end Go.Proofs.YtlmbahedgjfjgaaGreatDoor

namespace Go.Proofs.YtlmbahedgjfjgaaGreatDoor
open Go.RowKit

theorem oper_same {o : Oper} {a : Act} {w : World} {K : Act → World → Prop} {Q : Exit → Act → World → Prop} (f : FuncId) (xs : Array Operand) (tys : Array TypeId) (ho : o.op = .call { callee := .value (.func f), args := xs, argTypes := tys }) (vs : Array Value) (hv : xs.map a.eval = vs) (he : ∀ w, (callFunc f vs).run Tryz.prog w = .ok (.enter f vs) w) {R : Value}
    (hc : Calls Tryz.prog f vs w fun e w' => e = .returned R ∧ w' = w) (h : K (a.put o.dst R) w) : o.wp Tryz.prog a w K Q := by
  have hev : a.eval (.func f) = .func (.func f) #[] #[] := rfl
  unfold Oper.wp execOp
  simp only [ho, resolve, invoke, Sem.run_bind, hv, hev, Deferred.ofValue, Sem.run_pure, Result.andThen_ok, Array.append_empty, Array.empty_append, he, Oper.upon_enter]
  exact hc.mono (by rintro e w' ⟨rfl, rfl⟩; exact h)
theorem step_place {w : World} {ops : Array Oper} {o : Oper} {a : Act} {K : Act → World → Prop} {Q : Exit → Act → World → Prop} {E : Prop} (hgd : o.guard = none) (x : Operand)
    (ho : o.op = .call { callee := .value (.func 104), args := #[x, .const (.int .i64 4)], argTypes := #[5, 3] }) (c : Int) (hc : 0 ≤ c ∧ c < 256) (hx : a.eval x = .int .u8 c)
    (h : K (a.put o.dst (.int .i64 (n4 c))) w) : if Region.wanted o (yielded ops a.tmps) = true then Oper.wp Tryz.prog o a w K Q else E := by
  have hw : Region.wanted o (yielded ops a.tmps) = true := by simp [Region.wanted, hgd]
  rw [if_pos hw]
  exact oper_same _ _ _ ho #[.int .u8 c, .int .i64 4] (by simp [hx, show a.eval (.const (.int .i64 4)) = .int .i64 4 from rfl]) (fun w => by kernel_rfl) (place4 c hc w) h

theorem wrap_int (z : Int) (h : -9223372036854775808 ≤ z) (h1 : z < 9223372036854775808) : IntKind.i64.wrap z = z := by
  simp only [IntKind.wrap, IntKind.bits, IntKind.signed]
  simp
  omega
theorem wrap_b (z : Int) : IntKind.u8.wrap z = z % 256 := by
  simp only [IntKind.wrap, IntKind.bits, IntKind.signed]
  simp
def AnR (o : Option (List Int)) (B : Nat) (e : Ending) (w : World) : Prop :=
  match o with
  | none => e = .returned (.tuple #[.slice none 0 0, .bool false])
  | some l => ∃ v, e = .returned (.tuple #[v, .bool true]) ∧ w.ownsRow B 5 1 v l.length (byteVals l)

theorem n4_lo {c : Int} (h : 0 ≤ c ∧ c < 256) : -1 ≤ n4 c ∧ n4 c < 16 := by rcases n4_b h with ⟨_, h⟩ | ⟨h, h1, _⟩ <;> omega
theorem str_ne {a b : List Int} (ha : Byt a) (hb : Byt b) (h : a ≠ b) : ((strOfNums a).toList == (strOfNums b).toList) = false := by rw [str_beq ha hb]; exact decide_eq_false h

set_option maxHeartbeats 4000000 in
set_option maxRecDepth 100000 in
theorem refUnhex_d (zs : List Int) (hz : Byt zs) (hm : zs.length ≤ 100000) (w : World) :
    Calls Tryz.prog 71 #[.string (strOfNums zs)] w fun e w' => AnR (ga4 .z zs) w.heap.size e w' ∧ Below w.heap.size w w' := by
  have hsz := str_size zs
  have hR := hide1 (ref4_eq zs hz)
  have hD := hide1 (rd4_byt zs)
  have hDl := rd4_len zs
  obtain ⟨S, hS⟩ : ∃ S, Hid (S = strOfNums zs) := ⟨_, hide1 rfl⟩
  have hat : ∀ j (h : j < S.size), (((S[j]'h).toNat : Nat) : Int) = zs.getD j 0 := by rw [hS.out]; exact str_at zs hz
  rw [← hS.out] at hsz ⊢
  generalize hL : zs.length = len at *
  go_enter Tryz.func71, Tryz.ntmps71
  go_wp2_with fail
  go_loopw [4, 5] (fun v i wr => ∃ j : Nat, j ≤ len + 1 ∧ i = .int .i64 j ∧ ∃ out n, Hid (rd4 zs = out ++ rd4 (zs.drop j)) ∧ Hid (n = out.length) ∧ n ≤ j ∧ wr.ownsRow w.heap.size 5 1 v n (byteVals out) ∧ Below w.heap.size w wr) (fun _ i _ => len + 3 - (intOf i).toNat)
  case atStart => exact ⟨0, by omega, rfl, [], 0, hide1 (by simp), hide1 rfl, by omega, ⟨rfl, .inl ⟨rfl, rfl⟩⟩, Below.refl _ _⟩
  case round =>
    obtain ⟨j, hj, rfl, out, n, hE, hn, hn2, ho, hw⟩ := hrel
    by_cases hlt : j + 1 < len
    · have g0 := hz _ (getD_mem (l := zs) (k := j) (by omega))
      have g1 := hz _ (getD_mem (l := zs) (k := j + 1) (by omega))
      have hj2 : j < S.size := by omega
      have hj3 : j + 1 < S.size := by omega
      have hx := hat j hj2
      have hy := hat (j + 1) hj3
      have hE := hE.out
      rw [drop_cons zs j (by omega), drop_cons zs (j + 1) (by omega)] at hE
      have hE := hide1 hE
      generalize zs.getD j 0 = c at *
      generalize zs.getD (j + 1) 0 = d at *
      have l0 := n4_lo g0
      have l1 := n4_lo g1
      clear hat hR hD
      have hjl : j < len := by omega
      have hj0 : (0 : Int) ≤ (j : Int) + 1 := by omega
      have q1 : IntKind.i64.wrap ((j : Int) + 1) = ((j + 1 : Nat) : Int) := by rw [wrap_int _ (by omega) (by omega)]; rfl
      have q2 := wrap_int (16 * n4 c) (by omega) (by omega)
      have q3 := wrap_int (16 * n4 c + n4 d) (by omega) (by omega)
      have q4 := wrap_b (16 * n4 c + n4 d)
      go_wp2_with fail
      have hoD : wr.drew.ownsRow w.heap.size 5 1 u4 n (byteVals out) := ho
      have hwD : Below w.heap.size w wr.drew := hw.drew
      go_region_law (first
        | (refine step_place rfl (.tmp 16) rfl c g0 (by first | (simp [Act.eval]; done) | (simp [Act.eval, Act.put]; done) | rfl) ?_)
        | (refine step_place rfl (.tmp 22) rfl d g1 (by first | (simp [Act.eval]; done) | (simp [Act.eval, Act.put]; done) | rfl) ?_)
        | (refine step_append_bs rfl (.tmp 13) (.tmp 26) rfl w.heap.size u4 n (byteVals out) (by first | (simp [Act.eval]; done) | (simp [Act.eval, Act.put]; done) | rfl) (hoD.alloc _) (some ⟨wr.heap.size, 0, none⟩) 1 1 [(16 * n4 c + n4 d) % 256] (by first | (simp [Act.eval]; done) | (simp [Act.eval, Act.put]; done) | rfl) (bs_one wr.drew _ (by omega)) (by omega) (by have := hw.size; simp; omega) ?_; intro v1 w1 ho1 hg1; have hw1 := below_app hwD (Nat.le_refl _) hoD hg1))
      all_goals
        rw [byteVals_app] at ho1
        simp only [Act.put, List.setIfInBounds_toArray]
        clear ho hoD hg1 q1 q2 q3 q4 hx hy
        go_wp2_with fail
        go_roundw
        case rel =>
          refine ⟨j + 2, by omega, by go_num, out ++ [(16 * n4 c + n4 d) % 256], n + 1, hide1 ?_, hide1 (by simp [hn.out]), by omega, ho1, hw1⟩
          rw [hE.out, List.append_assoc]; rfl
        case measure => simp [intOf]; omega
    · have hO : out = rd4 zs := by
        have h1 := hE.out
        have h2 : rd4 (zs.drop j) = [] := by
          rcases (show len ≤ j ∨ j + 1 = len by omega) with h | h
          · rw [List.drop_of_length_le (by omega)]; rfl
          · rw [drop_cons zs j (by omega), List.drop_of_length_le (by omega)]; simp [rd4]
        rw [h2, List.append_nil] at h1
        exact h1.symm
      subst hO
      obtain ⟨a1, c1, rfl, hb1, _⟩ := bs_owned ho hD.out
      have hw' := hw.size
      go_wp2_with fail
      refine (refHex_d _ _ _ _ _ hb1 (by omega)).mono ?_
      rintro e w1 ⟨rfl, hw1⟩
      have hwT := bl2 hw hw1
      by_cases he : hexE (rd4 zs) = zs
      · have hb : ((strOfNums (hexE (rd4 zs))).toList == S.toList) = true := by rw [hS.out]; exact str_eq he
        have hRR := hR.out
        rw [if_pos he] at hRR
        clear he hR
        have hRR := hide1 hRR
        generalize strOfNums (hexE (rd4 zs)) = X at *
        go_wp2_with fail
        go_ret2
        refine ⟨?_, hwT⟩
        rw [← hRR.out]
        refine ⟨_, rfl, ?_⟩
        rw [← hn.out]
        exact own_ne ho fun q hq => hw1.block q (ho.lt q hq).2
      · have hb : ((strOfNums (hexE (rd4 zs))).toList == S.toList) = false := by rw [hS.out]; exact str_ne (hexE_byt _ hD.out) hz he
        have hRR := hR.out
        rw [if_neg he] at hRR
        clear he hR
        have hRR := hide1 hRR
        generalize strOfNums (hexE (rd4 zs)) = X at *
        go_wp2_with fail
        go_ret2
        refine ⟨?_, hwT⟩
        rw [← hRR.out]
        rfl
def numsOf (s : ByteArray) : List Int := s.data.toList.map fun b => ((b.toNat : Nat) : Int)
theorem numsOf_byt (s : ByteArray) : Byt (numsOf s) := by
  intro z hz
  obtain ⟨b, _, rfl⟩ := List.mem_map.1 hz
  exact u8b b
theorem numsOf_str (s : ByteArray) : strOfNums (numsOf s) = s := by
  apply ByteArray.ext
  apply Array.ext'
  rw [strOfNums_data]
  unfold numsOf
  rw [List.map_map]
  conv => rhs; rw [← List.map_id s.data.toList]
  apply List.map_congr_left
  intro b _
  simp
end Go.Proofs.YtlmbahedgjfjgaaGreatDoor

namespace Go.Proofs.YtlmbahedgjfjgaaGreatDoor
open Go.RowKit Go.Maps

def bA (l : List Int) : Array Value := (l.map (Value.int .u8)).toArray
theorem bA_size (l : List Int) : (bA l).size = l.length := by simp [bA]
theorem bA_one (l : List Int) : ∀ v ∈ (bA l).toList, v.oneCell' = true := by
  intro v hv
  simp only [bA, List.mem_map] at hv
  obtain ⟨z, _, rfl⟩ := hv
  rfl
def zL (n : Nat) : List Int := List.replicate n 0
theorem st_bA {w : World} {b : Nat} {c : Array Value} {t0 : TypeId} {l : List Int} (hr : w.heap[b]? = some (.cells c t0 (0, 0))) (hs : c.size = l.length) : (storeCells ⟨b, 0, none⟩ (bA l).toList).run Tryz.prog w = .ok () (w.setRow b (bA l)) := by
  have := run_storeCells_from (P := Tryz.prog) b t0 (bA l).toList 0 c w hr (by simp [bA_size, hs]) (bA_one l)
  simpa using this
theorem rng_bA {w : World} {b : Nat} {l : List Int} {n : Nat} (hn : l.length = n) (hc : ∀ i, i < n → w.cell? ⟨b, i, none⟩ = some (.int .u8 (l.getD i 0))) : w.rangeAt b 0 (l.map (Value.int .u8)) := by
  intro j v hj
  have hjl : j < l.length := by
    rcases Nat.lt_or_ge j l.length with h | h
    · exact h
    · rw [List.getElem?_eq_none (by simpa using h)] at hj; cases hj
  rw [Nat.zero_add, hc j (by omega)]
  simp [hjl] at hj
  simp [hjl, hj]
theorem row_set {w : World} {b : Nat} {c c' : Array Value} {t : TypeId} (h : w.heap[b]? = some (.cells c t (0, 0))) : (w.setRow b c').heap[b]? = some (.cells c' t (0, 0)) := setRow_heap _ _ _ _ _ _ h
theorem bel_set {B : Nat} {w u : World} {b : Nat} {c' : Array Value} (h : Below B w u) (hb : B ≤ b) : Below B w (u.setRow b c') :=
  ⟨h.os, h.tape, h.output, by simpa [World.setRow] using h.size, fun k hk => (setRow_other u b k c' (by omega)).trans (h.block k hk)⟩
def fx (n : Nat) (o : Option (List Int)) : Option (List Int) := match o with
  | none => none
  | some l => if l.length = n then some l else none
def AnF (n : Nat) (o : Option (List Int)) (e : Ending) : Prop := match o with
  | none => e = .returned (.tuple #[.agg (bA (zL n)), .iface 42 (.int .i64 1)])
  | some l => e = .returned (.tuple #[.agg (bA l), .nilIface])

theorem results_ct {fn : Func} {p q : Tmp} {ty : TypeId} {u : World} {b : Nat} {c : Array Value} {t0 : TypeId} {n : Nat} {e : TypeId} {x : Value} (h : fn.results = #[.cell p ty, .tmp q]) (tmps : Array Value) (ht : tmps.getD p undef = .pointer (some ⟨b, 0, none⟩)) (hq : tmps.getD q undef = x)
    (hu : Tryz.prog.underlying ty = some (.array n e)) (hi : (Tryz.prog.info? ty).map (·.size) = some c.size) (hrow : u.heap[b]? = some (.cells c t0 (0, 0))) : (results fn tmps).run Tryz.prog u = .ok (.tuple #[.agg c, x]) u := by
  have hr := run_loadVar_row (P := Tryz.prog) u b t0 ty c (0, 0) _ hrow hu rfl hi
  have ht2 : tmps[p]?.getD undef = .pointer (some ⟨b, 0, none⟩) := by simpa using ht
  have hq2 : tmps[q]?.getD undef = x := by simpa using hq
  simp [results, h, ht2, hq2, asAddr, hr, Result.andThen]
theorem fx_no {n : Nat} {l : List Int} (h : l.length ≠ n) : fx n (some l) = none := if_neg h
theorem fx_yes {n : Nat} {l : List Int} (h : l.length = n) : fx n (some l) = some l := if_pos h

set_option maxHeartbeats 4000000 in
set_option maxRecDepth 100000 in
theorem sum_d (zs : List Int) (hz : Byt zs) (hm : zs.length ≤ 1000000) (w : World) :
    Calls Tryz.prog 70 #[.string (strOfNums zs)] w fun e w' => AnF 32 (fx 32 (ga4 .z zs)) e ∧ Below w.heap.size w w' := by
  have H := fun w => unhex_d zs hz hm w
  have hY : ∀ l, ga4 .z zs = some l → Byt l := fun l h => (hexE_ga4 zs l hz h).2
  generalize ga4 .z zs = A at *
  generalize strOfNums zs = S at *
  clear hz
  have hzs : ∀ w : World, (zeroValue 23).run Tryz.prog w = .ok (.agg (bA (zL 32))) w := fun w => by kernel_rfl
  obtain ⟨Z, hZ⟩ : ∃ Z, Hid (Z = bA (zL 32)) := ⟨_, hide1 rfl⟩
  rw [← hZ.out] at hzs
  have P0 := (MapKept.heap_alloc w (.cells Z 23)).1
  have Pw := below_one w (.cells Z 23)
  have hsz : Z.size = 32 := by rw [hZ.out]; rfl
  obtain ⟨u, hu⟩ : ∃ u, Hid (u = w.alloc (.cells Z 23)) := ⟨_, hide1 rfl⟩
  rw [← hu.out] at P0 Pw
  rcases A with _ | l
  · go_enter Tryz.func70, Tryz.ntmps70
    go_wp2_with fail
    rw [← hu.out]
    refine (H _).mono ?_
    rintro e w1 ⟨h, hw1⟩
    obtain rfl := h
    have r1 := (hw1.block w.heap.size (Array.getElem?_eq_some_iff.1 P0).1).trans P0
    have hst : (storeCells ⟨w.heap.size, 0, none⟩ Z.toList).run Tryz.prog w1 = .ok () (w1.setRow w.heap.size Z) := by
      have := st_bA (l := zL 32) r1 hsz
      rw [← hZ.out] at this; exact this
    have r2 := hide1 (row_set (c' := Z) r1)
    clear r1
    go_wp2_with fail
    exact bodyPost_ret (results_ct rfl _ rfl rfl Tryz.underlying23 (by rw [hsz]; kernel_rfl) r2.out) rfl ⟨by rw [hZ.out]; rfl, bel_set (bl2 Pw hw1) (Nat.le_refl _)⟩
  · have hYl := hY l rfl
    clear hY
    go_enter Tryz.func70, Tryz.ntmps70
    go_wp2_with fail
    rw [← hu.out]
    refine (H _).mono ?_
    rintro e w1 ⟨h, hw1⟩
    obtain ⟨v, rfl, ho⟩ := h
    by_cases hl : l.length = 32
    · rw [hl] at ho
      obtain ⟨g, cp, rfl, -, -, hcm, hcl⟩ := owned_form ho (by omega)
      have hcm : cp ≤ 9223372036854775807 := by unfold maxLen at hcm; exact hcm
      have hl' := hide1 hl
      clear hl
      have r1 := (hw1.block w.heap.size (Array.getElem?_eq_some_iff.1 P0).1).trans P0
      have hrng : w1.rangeAt g 0 (l.map (Value.int .u8)) := rng_bA hl'.out hcl
      have hst : (storeCells ⟨w.heap.size, 0, none⟩ (bA l).toList).run Tryz.prog w1 = .ok () (w1.setRow w.heap.size (bA l)) := st_bA r1 (hsz.trans hl'.out.symm)
      have r2 := hide1 (row_set (c' := bA l) r1)
      have zl : (bA l).size = 32 := by rw [bA_size, hl'.out]
      clear r1 hcl ho
      obtain ⟨Y, hYY⟩ : ∃ Y, Hid (Y = bA l) := ⟨_, hide1 rfl⟩
      rw [← hYY.out] at hst r2 zl
      have har : (Instr.arrayAt 23 (.slice (some ⟨g, 0, none⟩) 32 cp)).run Tryz.prog w1 = .ok (.pointer (some ⟨g, 0, none⟩)) w1 := by kernel_rfl
      go_wp2_with (refine wpList_load_mid rfl 23 (.tmp 21) rfl g 0 rfl (l.map (Value.int .u8)) _ hrng Tryz.underlying23 rfl (by rw [List.length_map, hl'.out]; kernel_rfl) ?_; rw [show (l.map (Value.int .u8)).toArray = Y from hYY.out.symm])
      exact bodyPost_ret (results_ct rfl _ rfl rfl Tryz.underlying23 (by rw [zl]; kernel_rfl) r2.out) rfl ⟨by rw [fx_yes hl'.out, hYY.out]; rfl, bel_set (bl2 Pw hw1) (Nat.le_refl _)⟩
    · obtain ⟨a1, c1, rfl, -, -⟩ := bs_owned ho hYl
      clear ho
      have r1 := (hw1.block w.heap.size (Array.getElem?_eq_some_iff.1 P0).1).trans P0
      have hst : (storeCells ⟨w.heap.size, 0, none⟩ Z.toList).run Tryz.prog w1 = .ok () (w1.setRow w.heap.size Z) := by
        have := st_bA (l := zL 32) r1 hsz
        rw [← hZ.out] at this; exact this
      have r2 := hide1 (row_set (c' := Z) r1)
      clear r1
      go_wp2_with fail
      exact bodyPost_ret (results_ct rfl _ rfl rfl Tryz.underlying23 (by rw [hsz]; kernel_rfl) r2.out) rfl ⟨by rw [hZ.out]; rw [fx_no hl]; rfl, bel_set (bl2 Pw hw1) (Nat.le_refl _)⟩
def AnH (n : Nat) (o : Option (List Int)) (e : Ending) : Prop := match o with
  | none => e = .returned (.tuple #[.agg (bA (zL n)), .bool false])
  | some l => e = .returned (.tuple #[.agg (bA l), .bool true])
def pz (l : List Int) (k : Nat) : List Int := l.take k ++ zL (l.length - k)
theorem pz_0 (l : List Int) : pz l 0 = zL l.length := by simp [pz]
theorem pz_all (l : List Int) {n : Nat} (h : l.length = n) : pz l n = l := by subst h; simp [pz, zL]
theorem pz_len (l : List Int) {k : Nat} (h : k ≤ l.length) : (pz l k).length = l.length := by simp [pz, zL]; omega
theorem pz_s (l : List Int) {k : Nat} (h : k < l.length) : (bA (pz l k)).setIfInBounds k (.int .u8 (l.getD k 0)) = bA (pz l (k + 1)) := by
  have e1 : zL (l.length - k) = 0 :: zL (l.length - (k + 1)) := by
    unfold zL
    rw [show l.length - k = (l.length - (k + 1)) + 1 by omega, List.replicate_succ]
  have e2 : pz l (k + 1) = l.take k ++ (l.getD k 0 :: zL (l.length - (k + 1))) := by unfold pz; rw [take_snoc l k h]; simp
  have e3 : pz l k = l.take k ++ (0 :: zL (l.length - (k + 1))) := by unfold pz; rw [e1]
  rw [e2, e3]
  unfold bA
  rw [List.setIfInBounds_toArray]
  congr 1
  rw [List.map_append, List.map_append, List.set_append]
  simp [Nat.min_eq_left (Nat.le_of_lt h)]

set_option maxHeartbeats 4000000 in
set_option maxRecDepth 100000 in
theorem rsum_d (zs : List Int) (hz : Byt zs) (hm : zs.length ≤ 100000) (w : World) :
    Calls Tryz.prog 43 #[.string (strOfNums zs)] w fun e w' => AnH 32 (fx 32 (ga4 .z zs)) e ∧ Below w.heap.size w w' := by
  have H := fun w => refUnhex_d zs hz hm w
  have hY : ∀ l, ga4 .z zs = some l → Byt l := fun l h => (hexE_ga4 zs l hz h).2
  generalize ga4 .z zs = A at *
  generalize strOfNums zs = S at *
  clear hz
  have hzs : ∀ w : World, (zeroValue 23).run Tryz.prog w = .ok (.agg (bA (zL 32))) w := fun w => by kernel_rfl
  obtain ⟨Z, hZ⟩ : ∃ Z, Hid (Z = bA (zL 32)) := ⟨_, hide1 rfl⟩
  rw [← hZ.out] at hzs
  have hsz : Z.size = 32 := by rw [hZ.out]; rfl
  obtain ⟨u, hu⟩ : ∃ u, Hid (u = (w.alloc (.cells Z 23)).alloc (.cells Z 23)) := ⟨_, hide1 rfl⟩
  have hus : u.heap.size = w.heap.size + 2 := by rw [hu.out]; simp
  have P0 : u.heap[w.heap.size]? = some (.cells Z 23 (0, 0)) := by rw [hu.out, Below.heap_alloc _ _ _ (by simp)]; exact (MapKept.heap_alloc w _).1
  have P1 : u.heap[w.heap.size + 1]? = some (.cells Z 23 (0, 0)) := by
    rw [hu.out]
    have := (MapKept.heap_alloc (w.alloc (.cells Z 23)) (.cells Z 23)).1
    rwa [show (w.alloc (.cells Z 23)).heap.size = w.heap.size + 1 by simp] at this
  have Pw : Below w.heap.size w u := by rw [hu.out]; exact (below_one w _).alloc (by simp) _
  go_enter Tryz.func43, Tryz.ntmps43
  go_wp2_with fail
  rw [← hu.out]
  refine (H _).mono ?_
  rintro e w1 ⟨h, hw1⟩
  have r1 := (hw1.block w.heap.size (by omega)).trans P0
  have r4 := (hw1.block (w.heap.size + 1) (by omega)).trans P1
  have q1 := hide1 (rng_bA (w := w1) (b := w.heap.size + 1) (l := zL 32) (n := 32) rfl (fun i hi => by rw [hZ.out] at r4; simp [World.cell?, r4, bA, show i < (zL 32).length from hi]))
  have hsw1 : w.heap.size + 2 ≤ w1.heap.size := by have := hw1.size; omega
  clear P0 P1
  rcases A with _ | l
  · obtain rfl := h
    have hst : (storeCells ⟨w.heap.size, 0, none⟩ Z.toList).run Tryz.prog w1 = .ok () (w1.setRow w.heap.size Z) := by
      have := st_bA (l := zL 32) r1 hsz
      rw [← hZ.out] at this; exact this
    have r2 := hide1 (row_set (c' := Z) r1)
    clear r1
    go_wp2_with (refine wpList_load_mid rfl 23 (.tmp 4) rfl (w.heap.size + 1) 0 rfl ((zL 32).map (Value.int .u8)) _ q1.out Tryz.underlying23 rfl (by rw [List.length_map]; kernel_rfl) ?_; rw [show ((zL 32).map (Value.int .u8)).toArray = Z from hZ.out.symm])
    exact bodyPost_ret (results_ct rfl _ rfl rfl Tryz.underlying23 (by rw [hsz]; kernel_rfl) r2.out) rfl ⟨by rw [hZ.out]; rfl, bel_set (bl2 Pw hw1) (Nat.le_refl _)⟩
  · have hYl := hY l rfl
    clear hY
    obtain ⟨v, rfl, ho⟩ := h
    by_cases hl : l.length = 32
    · rw [hl] at ho
      obtain ⟨g, cp, rfl, hgb, -, hcm, hcl⟩ := owned_form ho (by omega)
      have hcm : cp ≤ 9223372036854775807 := by unfold maxLen at hcm; exact hcm
      have hl' := hide1 hl
      clear hl ho q1
      rw [hus] at hgb
      rw [show Z = bA (pz l 0) by rw [hZ.out, pz_0, hl'.out]] at r4
      have hwT := bl2 Pw hw1
      go_wp2_with fail
      go_loopw [7] (fun i wr => ∃ k : Nat, k ≤ 32 ∧ i = .int .i64 k ∧ wr.heap[w.heap.size + 1]? = some (.cells (bA (pz l k)) 23 (0, 0)) ∧ wr.heap[w.heap.size]? = some (.cells Z 23 (0, 0)) ∧ (∀ i, i < 32 → wr.cell? ⟨g, i, none⟩ = some (.int .u8 (l.getD i 0))) ∧ Below w.heap.size w wr) (fun i _ => 32 - (intOf i).toNat)
      case atStart => exact ⟨0, by omega, rfl, r4, r1, hcl, hwT⟩
      case round =>
        clear r4 r1 hcl hwT
        obtain ⟨k, hk, rfl, r4, r1, hcl, hwT⟩ := hrel
        by_cases hlt : k < 32
        · have c1 := hcl k hlt
          have c2 : wr.cell? ⟨w.heap.size + 1, k, none⟩ = some (.int .u8 ((pz l k).getD k 0)) := by
            have : k < (pz l k).length := by rw [pz_len l (by rw [hl'.out]; omega), hl'.out]; exact hlt
            simp [World.cell?, r4, bA, this]
          have f2 : wr.frozen? ⟨w.heap.size + 1, k, none⟩ = false := by simp [World.frozen?, r4]
          have r4' : (wr.setCell ⟨w.heap.size + 1, k, none⟩ (.int .u8 (l.getD k 0))).heap[w.heap.size + 1]? = some (.cells (bA (pz l (k + 1))) 23 (0, 0)) := by
            rw [← pz_s l (by rw [hl'.out]; exact hlt)]
            simp [World.setCell, r4, Array.getElem?_modify]
          have r1' : (wr.setCell ⟨w.heap.size + 1, k, none⟩ (.int .u8 (l.getD k 0))).heap[w.heap.size]? = some (.cells Z 23 (0, 0)) := by
            rw [Below.heap_setCell _ _ _ _ (by simp)]; exact r1
          have hcl' : ∀ i, i < 32 → (wr.setCell ⟨w.heap.size + 1, k, none⟩ (.int .u8 (l.getD k 0))).cell? ⟨g, i, none⟩ = some (.int .u8 (l.getD i 0)) := fun i hi => by
            rw [World.cell?_of_block (Below.heap_setCell _ _ _ _ (by simp; omega))]; exact hcl i hi
          have hwT' : Below w.heap.size w (wr.setCell ⟨w.heap.size + 1, k, none⟩ (.int .u8 (l.getD k 0))) := hwT.setCell (by simp) _
          replace r4' := hide1 r4'
          replace r1' := hide1 r1'
          replace hcl' := hide1 hcl'
          replace hwT' := hide1 hwT'
          clear r4 r1 hcl
          generalize l.getD k 0 = x at *
          generalize (pz l k).getD k 0 = y at *
          go_wp2_with fail
          go_roundw
          case rel => exact ⟨k + 1, by omega, by go_num, r4'.out, r1'.out, hcl'.out, hwT'.out⟩
          case measure => simp [intOf]; omega
        · obtain rfl : k = 32 := by omega
          rw [pz_all l hl'.out] at r4
          rw [show ((32 : Nat) : Int) = 32 from rfl]
          have q4 := hide1 (rng_bA (w := wr) (b := w.heap.size + 1) (l := l) (n := 32) hl'.out (fun i hi => by simp [World.cell?, r4, bA, show i < l.length by rw [hl'.out]; exact hi]))
          have hst : (storeCells ⟨w.heap.size, 0, none⟩ (bA l).toList).run Tryz.prog wr = .ok () (wr.setRow w.heap.size (bA l)) := st_bA r1 (hsz.trans hl'.out.symm)
          have r2 := hide1 (row_set (c' := bA l) r1)
          have zl : (bA l).size = 32 := by rw [bA_size, hl'.out]
          clear r1 r4 hcl
          obtain ⟨Y, hYY⟩ : ∃ Y, Hid (Y = bA l) := ⟨_, hide1 rfl⟩
          rw [← hYY.out] at hst r2 zl
          go_wp2_with (refine wpList_load_mid rfl 23 (.tmp 4) rfl (w.heap.size + 1) 0 rfl (l.map (Value.int .u8)) _ q4.out Tryz.underlying23 rfl (by rw [List.length_map, hl'.out]; kernel_rfl) ?_; rw [show (l.map (Value.int .u8)).toArray = Y from hYY.out.symm])
          exact bodyPost_ret (results_ct rfl _ rfl rfl Tryz.underlying23 (by rw [zl]; kernel_rfl) r2.out) rfl ⟨by rw [fx_yes hl'.out, hYY.out]; rfl, bel_set hwT (Nat.le_refl _)⟩
    · obtain ⟨a1, c1, rfl, -, -⟩ := bs_owned ho hYl
      clear ho
      have hst : (storeCells ⟨w.heap.size, 0, none⟩ Z.toList).run Tryz.prog w1 = .ok () (w1.setRow w.heap.size Z) := by
        have := st_bA (l := zL 32) r1 hsz
        rw [← hZ.out] at this; exact this
      have r2 := hide1 (row_set (c' := Z) r1)
      clear r1
      go_wp2_with (refine wpList_load_mid rfl 23 (.tmp 4) rfl (w.heap.size + 1) 0 rfl ((zL 32).map (Value.int .u8)) _ q1.out Tryz.underlying23 rfl (by rw [List.length_map]; kernel_rfl) ?_; rw [show ((zL 32).map (Value.int .u8)).toArray = Z from hZ.out.symm])
      exact bodyPost_ret (results_ct rfl _ rfl rfl Tryz.underlying23 (by rw [hsz]; kernel_rfl) r2.out) rfl ⟨by rw [hZ.out]; rw [fx_no hl]; rfl, bel_set (bl2 Pw hw1) (Nat.le_refl _)⟩
end Go.Proofs.YtlmbahedgjfjgaaGreatDoor

namespace Go.Proofs.YtlmbahedgjfjgaaGreatDoor
open Go.RowKit

theorem dw_nil {p : UInt8 → Bool} : ∀ {l : List UInt8}, l.dropWhile p = [] ↔ ∀ b ∈ l, p b = true
  | [] => by simp
  | x :: l => by
    rw [List.dropWhile_cons]
    cases h : p x with
    | true => simp only [if_true]; rw [dw_nil]; simp [h]
    | false => simp [h]
theorem dw_head {p : UInt8 → Bool} : ∀ {l : List UInt8} {x : UInt8} {r : List UInt8}, l.dropWhile p = x :: r → p x = false
  | [], _, _, h => by simp at h
  | y :: l, x, r, h => by
    rw [List.dropWhile_cons] at h
    cases hy : p y with
    | true => rw [hy, if_pos rfl] at h; exact dw_head h
    | false => rw [hy, if_neg (by decide)] at h; cases h; exact hy
theorem trim_nil {l cs : List UInt8} : Lib.trimS l cs = [] ↔ ∀ b ∈ l, cs.contains b = true := by
  unfold Lib.trimS Lib.trimLeftS Lib.trimRightS
  generalize hr : (l.reverse.dropWhile (cs.contains ·)) = r
  rw [dw_nil]
  constructor
  · intro h
    cases r with
    | nil =>
      rw [dw_nil] at hr
      intro b hb
      exact hr b (by simpa using hb)
    | cons x r =>
      have h1 := h x (by simp)
      have h2 := dw_head hr
      rw [h1] at h2; cases h2
  · intro h
    have : r = [] := by
      rw [← hr, dw_nil]
      intro b hb
      exact h b (by simpa using hb)
    subst this
    simp
def sgs : List UInt8 := [97, 98, 99, 100, 101, 102, 103, 104, 105, 106, 107, 108, 109, 110, 111, 112, 113, 114, 115, 116, 117, 118, 119, 120, 121, 122, 48, 49, 50, 51, 52, 53, 54, 55, 56, 57, 46, 45, 95, 64]
def nmB (z : Int) : Bool := decide (97 ≤ z ∧ z ≤ 122) || decide (48 ≤ z ∧ z ≤ 57) || decide (z = 46) || decide (z = 45) || decide (z = 95) || decide (z = 64)
def nmd (zs : List Int) : Bool := decide (1 ≤ zs.length) && decide (zs.length ≤ 64) && zs.all nmB
theorem sgs_b : ∀ n : Fin 256, sgs.contains (UInt8.ofNat n.val) = nmB (n.val : Int) := by decide +kernel
theorem sgs_z {z : Int} (h : 0 ≤ z ∧ z < 256) : sgs.contains (UInt8.ofNat z.toNat) = nmB z := by
  have := sgs_b ⟨z.toNat, by omega⟩
  simp only at this
  rw [this]
  congr 1; omega
theorem trim_all {zs : List Int} (h : ∀ z ∈ zs, 0 ≤ z ∧ z < 256) : Lib.trimS (strOfNums zs).data.toList sgs = [] ↔ zs.all nmB = true := by
  rw [trim_nil, List.all_eq_true]
  have e : (strOfNums zs).data.toList = zs.map fun n => UInt8.ofNat n.toNat := by unfold strOfNums; simp
  rw [e]
  constructor
  · intro g z hz
    rw [← sgs_z (h z hz)]
    exact g _ (List.mem_map_of_mem hz)
  · intro g b hb
    obtain ⟨z, hz, rfl⟩ := List.mem_map.1 hb
    rw [sgs_z (h z hz)]
    exact g z hz
theorem nil_emp {zs : List Int} (hz : Byt zs) : (strOfNums zs).toList.isEmpty = decide (zs = []) := by
  have hn : ((strOfNums zs).toList == (strOfNums []).toList) = decide (zs = []) := str_beq hz (by simp)
  rw [show (strOfNums []).toList = [] by rw [ByteArray.toList_eq]; rfl] at hn
  rw [← hn]
  cases (strOfNums zs).toList <;> rfl
theorem short_d (zs : List Int) (hz : Byt zs) (w : World) : Calls Tryz.prog 106 #[.string (strOfNums zs)] w fun e w' => e = .returned (.bool (decide (1 ≤ zs.length) && decide (zs.length ≤ 64))) ∧ w' = w := by
  have hsz := str_size zs
  have hn := nil_emp hz
  by_cases h0 : zs = []
  · subst h0
    go_enter Tryz.func106, Tryz.ntmps106
    go_wp2
    go_ret
    exact ⟨rfl, rfl⟩
  · rw [decide_eq_false h0] at hn
    have hl : 1 ≤ zs.length := List.length_pos_iff.2 h0
    rw [decide_eq_true hl]
    clear h0
    generalize strOfNums zs = S at *
    generalize zs.length = N at *
    have h64 : decide ((N : Int) ≤ 64) = decide (N ≤ 64) := by
      by_cases h : N ≤ 64
      · rw [decide_eq_true h, decide_eq_true (by omega)]
      · rw [decide_eq_false h, decide_eq_false (by omega)]
    have hf : decide ((N : Int) ≤ 64) = (true && decide (N ≤ 64)) := by rw [h64]; rfl
    replace hf := hide1 hf
    clear h64
    go_enter Tryz.func106, Tryz.ntmps106
    go_wp2
    all_goals
      go_ret
      refine ⟨?_, rfl⟩
      first | rfl | (rw [← hf.out]; rfl)
theorem name_d (zs : List Int) (hz : Byt zs) (hm : zs.length ≤ 1000000) (w : World) : Calls Tryz.prog 79 #[.string (strOfNums zs)] w fun e w' => e = .returned (.bool (nmd zs)) ∧ Below w.heap.size w w' := by
  have hsz := str_size zs
  have hsh := short_d zs hz w
  have htr := strings_Trim_set (strOfNums zs) ⟨#[97, 98, 99, 100, 101, 102, 103, 104, 105, 106, 107, 108, 109, 110, 111, 112, 113, 114, 115, 116, 117, 118, 119, 120, 121, 122, 48, 49, 50, 51, 52, 53, 54, 55, 56, 57, 46, 45, 95, 64]⟩ w (by omega) (by decide) (by
    have : ∀ b ∈ sgs, b.toNat < 128 := by decide
    intro j b h
    exact this b (List.mem_of_getElem? h))
  have hall : decide (Lib.trimS (strOfNums zs).data.toList sgs = []) = zs.all nmB := by
    by_cases h : zs.all nmB = true
    · rw [h, decide_eq_true (trim_all hz |>.2 h)]
    · rw [decide_eq_false (fun e => h (trim_all hz |>.1 e))]; simp at h; simp [h]
  have hne : (Lib.trimS (strOfNums zs).data.toList sgs).isEmpty = zs.all nmB := by
    rw [← hall]
    cases Lib.trimS (strOfNums zs).data.toList sgs <;> rfl
  change Calls Tryz.prog _ _ w fun e w' => e = .returned (.string ⟨(Lib.trimS (strOfNums zs).data.toList sgs).toArray⟩) ∧ _ at htr
  generalize Lib.trimS (strOfNums zs).data.toList sgs = X at *
  unfold nmd
  generalize (decide (1 ≤ zs.length) && decide (zs.length ≤ 64)) = D at *
  generalize zs.all nmB = A at *
  generalize strOfNums zs = S at *
  clear hsz hall hm hz
  go_enter Tryz.func79, Tryz.ntmps79
  go_wp2_with fail
  refine hsh.mono ?_
  rintro e w1 ⟨rfl, rfl⟩
  cases D with
  | false =>
    go_wp2
    go_ret
    exact ⟨rfl, Below.refl _ _⟩
  | true =>
    go_wp2_with fail
    refine htr.mono ?_
    rintro e w2 ⟨rfl, b2⟩
    cases A <;>
    · go_wp2
      go_ret
      exact ⟨by first | rfl | (rw [hne]; rfl), b2⟩
theorem cell_of {w : World} {b : Nat} {t : TypeId} {c : Array Value} {v : Value} (o : Nat) (h : w.heap[b]? = some (.cells c t (0, 0))) (hc : c[o]? = some v) : w.cell? ⟨b, o, none⟩ = some v := by
  simp only [World.cell?, h]; exact hc
theorem rng_of {w : World} {b : Nat} {t : TypeId} {c : Array Value} (o : Nat) (cs : List Value) (h : w.heap[b]? = some (.cells c t (0, 0))) (hc : (c.toList.drop o).take cs.length = cs) : w.rangeAt b o cs := by
  intro j v hj
  have hjl : j < cs.length := by
    rcases Nat.lt_or_ge j cs.length with h' | h'
    · exact h'
    · rw [List.getElem?_eq_none h'] at hj; cases hj
  refine cell_of (o + j) h ?_
  rw [← hc, List.getElem?_take, if_pos hjl, List.getElem?_drop] at hj
  simpa using hj
theorem load_w {ops : Array Oper} {rest : List Oper} {op : Oper} {a : Act} {w : World} {Q : Exit → Act → World → Prop} (hgd : Region.wanted op (yielded ops a.tmps) = true) (ty : TypeId) (x : Operand) (ho : op.op = .load ty x)
    (b o : Nat) (hx : a.eval x = .pointer (some ⟨b, o, none⟩)) (cs : List Value) (d : TypeDesc) (hc : w.rangeAt b o cs)
    (hu : Tryz.prog.underlying ty = some d) (hd : d.isRow = true) (hi : (Tryz.prog.info? ty).map (·.size) = some cs.length)
    (h : wpList Tryz.prog ops Q rest (a.put op.dst (.agg cs.toArray)) w) : wpList Tryz.prog ops Q (op :: rest) a w := by
  refine wpList_step fun K hK => ?_
  rw [if_pos hgd]
  exact wp_load_mid ty x ho b o hx cs d hc hu hd hi (hK _ _ h)
def zC (n : Nat) : List Value := List.replicate n (.int .u8 0)
def sgC (s : List Int) : List Value := .string (strOfNums s) :: zC 96
def entC (k op : Int) (s : List Int) (sl : Value) : List Value := .int .i64 k :: (zC 32 ++ (.string ⟨#[]⟩ :: .slice none 0 0 :: .int .i64 op :: .string (strOfNums s) :: (zC 32 ++ [sl])))
theorem eq_z {w : World} : (Op.equalIn 10000 25 (.agg (zC 32).toArray) (.agg (zC 32).toArray)).run Tryz.prog w = .ok true w := by kernel_rfl
theorem eq_zl {w : World} : (Op.equalIn 10000 25 (.agg (zC 32).toArray) (.agg #[.int .u8 0, .int .u8 0, .int .u8 0, .int .u8 0, .int .u8 0, .int .u8 0, .int .u8 0, .int .u8 0, .int .u8 0, .int .u8 0, .int .u8 0, .int .u8 0, .int .u8 0, .int .u8 0, .int .u8 0, .int .u8 0, .int .u8 0, .int .u8 0, .int .u8 0, .int .u8 0, .int .u8 0, .int .u8 0, .int .u8 0, .int .u8 0, .int .u8 0, .int .u8 0, .int .u8 0, .int .u8 0, .int .u8 0, .int .u8 0, .int .u8 0, .int .u8 0])).run Tryz.prog w = .ok true w := by kernel_rfl
theorem eq_zs {w : World} : (Op.equalIn 10000 23 (.agg (zC 32).toArray) (.agg (zC 32).toArray)).run Tryz.prog w = .ok true w := by kernel_rfl
theorem below_na {w : World} (o : Obj) : Below w.heap.size w (w.alloc o) := (Below.refl _ _).alloc (Nat.le_refl _) _
theorem heap_na (w : World) (c : Array Value) (t : TypeId) : (w.alloc (.cells c t)).heap[w.heap.size]? = some (.cells c t (0, 0)) := by
  show (w.heap.push _)[w.heap.size]? = _
  rw [Array.getElem?_push, if_pos rfl]
set_option maxHeartbeats 4000000 in
set_option maxRecDepth 100000 in
theorem signer_h (s : List Int) (hz : Byt s) (hm : s.length ≤ 1000000) (w : World) : Calls Tryz.prog 80 #[.agg (sgC s).toArray] w fun e w' => e = .returned (.bool (decide (s = []) || nmd s)) ∧ Below w.heap.size w w' := by
  have hn := nil_emp hz
  have hb := heap_na w (sgC s).toArray 53
  have bb := below_na (w := w) (.cells (sgC s).toArray 53)
  have hnm := name_d s hz hm
  obtain ⟨wb, hwb⟩ : ∃ wb, wb = w.alloc (.cells (sgC s).toArray 53) := ⟨_, rfl⟩
  rw [← hwb] at hb bb
  have c0 : wb.cell? ⟨w.heap.size, 0, none⟩ = some (.string (strOfNums s)) := cell_of 0 hb rfl
  generalize decide (s = []) = D at *
  replace hnm := hide1 (hnm wb)
  generalize nmd s = X at *
  generalize strOfNums s = S at *
  replace bb := hide1 bb
  go_enter Tryz.func80, Tryz.ntmps80
  go_upto_region 1 with fail
  rw [← hwb]
  clear hwb
  cases D with
  | true =>
    clear hnm
    go_wp2
    go_ret
    exact ⟨rfl, bb.out⟩
  | false =>
    replace hnm := hnm.out
    go_wp2_with fail
    refine hnm.mono ?_
    rintro e w1 ⟨rfl, b1⟩
    have B1 := hide1 (bb.out.trans (b1.mono bb.out.size))
    have hb1 := (b1.block w.heap.size (Array.getElem?_eq_some_iff.1 hb).1).trans hb
    cases X with
    | false =>
      clear hb1 b1 hb
      go_wp2
      go_ret
      exact ⟨rfl, B1.out⟩
    | true =>
      have r1 := hide1 (rng_of 1 (zC 32) hb1 rfl)
      clear hb1 b1 hb
      have hE := fun w => @eq_zl w
      go_wp2_with (first | (refine load_w (by first | rfl | (simp [Region.wanted, yielded]; done)) 25 (.tmp 11) rfl w.heap.size 1 rfl (zC 32) _ r1.out Tryz.underlying25 rfl (by kernel_rfl) ?_) | fail)
      go_ret
      exact ⟨rfl, B1.out⟩
def setL (c : Array Value) (o : Nat) : List Value → Array Value
  | [] => c
  | v :: r => setL (c.setIfInBounds o v) (o + 1) r
theorem setCells_row {b : Nat} {t : TypeId} : ∀ (vs : List Value) (o : Nat) (w : World) (c : Array Value), w.heap[b]? = some (.cells c t (0, 0)) → vs ≠ [] → w.setCells b o vs = w.setRow b (setL c o vs)
  | [], _, _, _, _, h => absurd rfl h
  | [v], o, w, c, h, _ => by
    show w.setCell ⟨b, o, none⟩ v = _
    rw [setCell_eq_setRow w b o c t (0, 0) v h]; rfl
  | v :: u :: r, o, w, c, h, _ => by
    show (w.setCell ⟨b, o, none⟩ v).setCells b (o + 1) (u :: r) = _
    rw [setCell_eq_setRow w b o c t (0, 0) v h, setCells_row (u :: r) (o + 1) _ _ (setRow_heap _ _ _ _ _ _ h) (by simp), setRow_setRow]; rfl
theorem there_of {w : World} {b : Nat} {t : TypeId} {c : Array Value} {o n : Nat} (h : w.heap[b]? = some (.cells c t (0, 0))) (hs : o + n ≤ c.size) : w.there b o n := fun j hj => by
  simp only [World.cell?, h]
  rw [Array.getElem?_eq_getElem (by omega)]
  exact ⟨rfl, by simp [World.frozen?, h]⟩
theorem results_e {fn : Func} {p : Tmp} {u : World} {b : Nat} {c : Array Value} {t0 : TypeId} (h : fn.results = #[.cell p 28]) (tmps : Array Value) (ht : tmps.getD p undef = .pointer (some ⟨b, 0, none⟩))
    (hi : c.size = 70) (hrow : u.heap[b]? = some (.cells c t0 (0, 0))) : (results fn tmps).run Tryz.prog u = .ok (.agg c) u := by
  have hr := run_loadVar_row (P := Tryz.prog) u b t0 28 c (0, 0) _ hrow Tryz.underlying28 (by rfl) (by rw [hi]; kernel_rfl)
  have ht2 : tmps[p]?.getD undef = .pointer (some ⟨b, 0, none⟩) := by simpa using ht
  simp [results, h, ht2, asAddr, hr]
def entA (k op : Int) (s : List Int) (sl : Value) : Array Value := (entC k op s sl).toArray
theorem body_1 (sl : Value) (w : World) : Calls Tryz.prog 51 #[.agg (entA 1 0 [] sl)] w fun e w' => e = .returned (.bool true) ∧ Below w.heap.size w w' := by
  have hb := heap_na w (entA 1 0 [] sl) 28
  have bb := below_na (w := w) (.cells (entA 1 0 [] sl) 28)
  obtain ⟨wb, hwb⟩ : ∃ wb, wb = w.alloc (.cells (entA 1 0 [] sl) 28) := ⟨_, rfl⟩
  rw [← hwb] at hb bb
  have c0 : wb.cell? ⟨w.heap.size, 0, none⟩ = some (.int .i64 1) := cell_of 0 hb rfl
  replace bb := hide1 bb
  clear hb
  go_enter Tryz.func51, Tryz.ntmps51
  go_upto_region 1 with fail
  rw [← hwb]
  clear hwb
  go_wp2
  go_ret
  exact ⟨rfl, bb.out⟩
set_option maxHeartbeats 1000000 in
set_option maxRecDepth 100000 in
theorem body_4 (s : List Int) (hz : Byt s) (hm : s.length ≤ 1000000) (sl : Value) (w : World) : Calls Tryz.prog 51 #[.agg (entA 4 3 s sl)] w fun e w' => e = .returned (.bool (nmd s)) ∧ Below w.heap.size w w' := by
  have hb := heap_na w (entA 4 3 s sl) 28
  have bb := below_na (w := w) (.cells (entA 4 3 s sl) 28)
  obtain ⟨wb, hwb⟩ : ∃ wb, wb = w.alloc (.cells (entA 4 3 s sl) 28) := ⟨_, rfl⟩
  rw [← hwb] at hb bb
  have c0 : wb.cell? ⟨w.heap.size, 0, none⟩ = some (.int .i64 4) := cell_of 0 hb rfl
  have c1 : wb.cell? ⟨w.heap.size, 35, none⟩ = some (.int .i64 3) := cell_of 35 hb rfl
  have c2 : wb.cell? ⟨w.heap.size, 36, none⟩ = some (.string (strOfNums s)) := cell_of 36 hb rfl
  have hnm := name_d s hz hm wb
  generalize nmd s = X at *
  generalize hS : strOfNums s = S at *
  replace bb := hide1 bb
  clear hb
  go_enter Tryz.func51, Tryz.ntmps51
  go_upto_region 1 with fail
  rw [← hwb]
  clear hwb
  go_wp2_with fail
  refine hnm.mono ?_
  rintro e w1 ⟨rfl, b1⟩
  go_wp2
  go_ret
  exact ⟨rfl, bb.out.trans (b1.mono bb.out.size)⟩
set_option maxHeartbeats 2000000 in
set_option maxRecDepth 100000 in
theorem own_1 (sa : Option Addr) (sn sc : Nat) (w : World) : Calls Tryz.prog 50 #[.agg (entA 1 0 [] (.slice sa sn sc))] w fun e w' => e = .returned (.agg (entA 1 0 [] (.slice sa sn sc))) ∧ Below w.heap.size w w' := by
  obtain ⟨wb, hwb⟩ : ∃ wb, wb = (w.alloc (.cells (entA 1 0 [] (.slice sa sn sc)) 28)).alloc (.cells Tryz.zeroCells28 28) := ⟨_, rfl⟩
  have bb : Below w.heap.size w wb := by rw [hwb]; exact (below_na _).alloc (by simp) _
  have hb : wb.heap[w.heap.size]? = some (.cells (entA 1 0 [] (.slice sa sn sc)) 28 (0, 0)) := by
    rw [hwb]
    show ((w.heap.push _).push _)[w.heap.size]? = _
    rw [Array.getElem?_push, if_neg (by simp), Array.getElem?_push, if_pos rfl]
  have hr : wb.heap[w.heap.size + 1]? = some (.cells Tryz.zeroCells28 28 (0, 0)) := by
    rw [hwb]
    show ((w.heap.push _).push _)[w.heap.size + 1]? = _
    rw [Array.getElem?_push, if_pos (by simp)]
  have hs : wb.heap.size = w.heap.size + 2 := by rw [hwb]; simp
  have c0 : wb.cell? ⟨w.heap.size, 0, none⟩ = some (.int .i64 1) := cell_of 0 hb rfl
  have c7 : wb.cell? ⟨w.heap.size, 69, none⟩ = some (.slice sa sn sc) := cell_of 69 hb rfl
  have ha := heap_na wb Tryz.zeroCells28 28
  have hone : (entA 1 0 [] (.slice sa sn sc)).all (·.oneCell') = true := by kernel_rfl
  replace bb := hide1 bb
  replace hs := hide1 hs
  go_enter Tryz.func50, Tryz.ntmps50
  go_upto_region 1 with fail
  rw [← hwb]
  clear hwb
  go_upto_region 2 with (first | (refine wpList_store_row rfl 28 (.tmp 3) (.tmp 8) rfl wb.heap.size (entA 1 0 [] (.slice sa sn sc)) rfl (by kernel_rfl) 28 _ ha (by kernel_rfl) (by kernel_rfl) hone ?_) | fail)
  obtain ⟨w1, hw1⟩ : ∃ w1, w1 = (wb.alloc (.cells Tryz.zeroCells28 28)).setRow wb.heap.size (entA 1 0 [] (.slice sa sn sc)) := ⟨_, rfl⟩
  rw [← hw1]
  have h1 : w1.heap[wb.heap.size]? = some (.cells (entA 1 0 [] (.slice sa sn sc)) 28 (0, 0)) := by rw [hw1]; exact setRow_heap _ _ _ _ _ _ ha
  have b1 : Below wb.heap.size wb w1 := by rw [hw1]; exact bel_set (below_na _) (Nat.le_refl _)
  have hz := hs.out
  have c0' : w1.cell? ⟨w.heap.size, 0, none⟩ = some (.int .i64 1) := cell_of 0 ((b1.block _ (by omega)).trans hb) rfl
  have r1 := hide1 (rng_of 1 (zC 32) ((b1.block _ (by omega)).trans hb) rfl)
  have hr1 := (b1.block (w.heap.size + 1) (by omega)).trans hr
  have ht : w1.there wb.heap.size 1 (zC 32).toArray.size := there_of h1 (show 33 ≤ 70 by decide)
  have hsc := setCells_row (zC 32) 1 w1 _ h1 (by decide)
  rw [show setL (entA 1 0 [] (.slice sa sn sc)) 1 (zC 32) = entA 1 0 [] (.slice sa sn sc) by kernel_rfl] at hsc
  replace hr := hide1 hr
  clear hw1 ha hb c0 c7 hz
  go_upto_region 13 with (first | (refine load_w rfl 23 (.tmp 13) rfl w.heap.size 1 rfl (zC 32) _ r1.out Tryz.underlying23 rfl (by kernel_rfl) ?_) | (refine wpList_store_mid rfl 23 (.tmp 15) (.tmp 14) rfl wb.heap.size 1 (zC 32).toArray rfl rfl ht (by kernel_rfl) (by kernel_rfl) ?_) | fail)
  rw [show w1.setCells wb.heap.size 1 (zC 32) = w1.setRow wb.heap.size (entA 1 0 [] (.slice sa sn sc)) from hsc]
  obtain ⟨w2, hw2⟩ : ∃ w2, w2 = w1.setRow wb.heap.size (entA 1 0 [] (.slice sa sn sc)) := ⟨_, rfl⟩
  rw [← hw2]
  have h2 : w2.heap[wb.heap.size]? = some (.cells (entA 1 0 [] (.slice sa sn sc)) 28 (0, 0)) := by rw [hw2]; exact setRow_heap _ _ _ _ _ _ h1
  have b2 : Below wb.heap.size wb w2 := by rw [hw2]; exact bel_set b1 (Nat.le_refl _)
  have r2 := hide1 (rng_of 0 (entC 1 0 [] (.slice sa sn sc)) h2 rfl)
  have hr2 := (b2.block (w.heap.size + 1) (by have := hs.out; omega)).trans hr.out
  have hfin := hide1 (bel_set (c' := entA 1 0 [] (.slice sa sn sc)) (bb.out.trans (b2.mono bb.out.size)) (show w.heap.size ≤ w.heap.size + 1 by omega))
  have hz := hide1 (setRow_heap w2 (w.heap.size + 1) _ (entA 1 0 [] (.slice sa sn sc)) _ _ hr2)
  clear hw2 hsc r1 h1 b1 c0' ht hr1
  go_wp2_with (first | (refine load_w rfl 28 (.tmp 3) rfl wb.heap.size 0 rfl (entC 1 0 [] (.slice sa sn sc)) _ r2.out Tryz.underlying28 rfl (by kernel_rfl) ?_) | (refine wpList_store_row rfl 28 (.tmp 2) (.tmp 43) rfl (w.heap.size + 1) (entA 1 0 [] (.slice sa sn sc)) rfl rfl 28 _ hr2 (by kernel_rfl) (by kernel_rfl) hone ?_) | fail)
  exact bodyPost_ret (results_e rfl _ rfl rfl hz.out) rfl ⟨rfl, hfin.out⟩
set_option maxHeartbeats 2000000 in
set_option maxRecDepth 100000 in
theorem own_4 (s : List Int) (sa : Option Addr) (sn sc : Nat) (w : World) : Calls Tryz.prog 50 #[.agg (entA 4 3 s (.slice sa sn sc))] w fun e w' => e = .returned (.agg (entA 4 3 s (.slice sa sn sc))) ∧ Below w.heap.size w w' := by
  obtain ⟨wb, hwb⟩ : ∃ wb, wb = (w.alloc (.cells (entA 4 3 s (.slice sa sn sc)) 28)).alloc (.cells Tryz.zeroCells28 28) := ⟨_, rfl⟩
  have bb : Below w.heap.size w wb := by rw [hwb]; exact (below_na _).alloc (by simp) _
  have hb : wb.heap[w.heap.size]? = some (.cells (entA 4 3 s (.slice sa sn sc)) 28 (0, 0)) := by
    rw [hwb]
    show ((w.heap.push _).push _)[w.heap.size]? = _
    rw [Array.getElem?_push, if_neg (by simp), Array.getElem?_push, if_pos rfl]
  have hr : wb.heap[w.heap.size + 1]? = some (.cells Tryz.zeroCells28 28 (0, 0)) := by
    rw [hwb]
    show ((w.heap.push _).push _)[w.heap.size + 1]? = _
    rw [Array.getElem?_push, if_pos (by simp)]
  have hs : wb.heap.size = w.heap.size + 2 := by rw [hwb]; simp
  have c0 : wb.cell? ⟨w.heap.size, 0, none⟩ = some (.int .i64 4) := cell_of 0 hb rfl
  have c7 : wb.cell? ⟨w.heap.size, 69, none⟩ = some (.slice sa sn sc) := cell_of 69 hb rfl
  have ha := heap_na wb Tryz.zeroCells28 28
  have hone : (entA 4 3 s (.slice sa sn sc)).all (·.oneCell') = true := by kernel_rfl
  replace bb := hide1 bb
  replace hs := hide1 hs
  go_enter Tryz.func50, Tryz.ntmps50
  go_upto_region 1 with fail
  rw [← hwb]
  clear hwb
  have hone0 : (entA 4 0 [] (.slice sa sn sc)).all (·.oneCell') = true := by kernel_rfl
  have c1 : wb.cell? ⟨w.heap.size, 35, none⟩ = some (.int .i64 3) := cell_of 35 hb rfl
  have c2 : wb.cell? ⟨w.heap.size, 36, none⟩ = some (.string (strOfNums s)) := cell_of 36 hb rfl
  go_upto_region 2 with (first | (refine wpList_store_row rfl 28 (.tmp 3) (.tmp 8) rfl wb.heap.size (entA 4 0 [] (.slice sa sn sc)) rfl (by kernel_rfl) 28 _ ha (by kernel_rfl) (by kernel_rfl) hone0 ?_) | fail)
  obtain ⟨w1, hw1⟩ : ∃ w1, w1 = (wb.alloc (.cells Tryz.zeroCells28 28)).setRow wb.heap.size (entA 4 0 [] (.slice sa sn sc)) := ⟨_, rfl⟩
  rw [← hw1]
  have h1 : w1.heap[wb.heap.size]? = some (.cells (entA 4 0 [] (.slice sa sn sc)) 28 (0, 0)) := by rw [hw1]; exact setRow_heap _ _ _ _ _ _ ha
  have b1 : Below wb.heap.size wb w1 := by rw [hw1]; exact bel_set (below_na _) (Nat.le_refl _)
  have hz := hs.out
  have c0' : w1.cell? ⟨w.heap.size, 0, none⟩ = some (.int .i64 4) := cell_of 0 ((b1.block _ (by omega)).trans hb) rfl
  have c1' : w1.cell? ⟨w.heap.size, 35, none⟩ = some (.int .i64 3) := cell_of 35 ((b1.block _ (by omega)).trans hb) rfl
  have c2' : w1.cell? ⟨w.heap.size, 36, none⟩ = some (.string (strOfNums s)) := cell_of 36 ((b1.block _ (by omega)).trans hb) rfl
  replace hr := hide1 hr
  clear hw1 ha c0 c7 c1 c2 hz
  have d1 : w1.cell? ⟨wb.heap.size, 35, none⟩ = some (.int .i64 0) := cell_of 35 h1 rfl
  have d2 : w1.cell? ⟨wb.heap.size, 36, none⟩ = some (.string ⟨#[]⟩) := cell_of 36 h1 rfl
  have f1 : w1.frozen? ⟨wb.heap.size, 35, none⟩ = false := by simp [World.frozen?, h1]
  have f2 : w1.frozen? ⟨wb.heap.size, 36, none⟩ = false := by simp [World.frozen?, h1]
  have hxy : (w1.setCell ⟨wb.heap.size, 35, none⟩ (.int .i64 3)).setCell ⟨wb.heap.size, 36, none⟩ (.string (strOfNums s)) = w1.setRow wb.heap.size (entA 4 3 s (.slice sa sn sc)) := by
    rw [setCell_eq_setRow w1 _ 35 _ _ (0, 0) _ h1, setCell_eq_setRow _ _ 36 _ _ (0, 0) _ (setRow_heap _ _ _ _ _ _ h1), setRow_setRow]; rfl
  have hyx : (w1.setCell ⟨wb.heap.size, 36, none⟩ (.string (strOfNums s))).setCell ⟨wb.heap.size, 35, none⟩ (.int .i64 3) = w1.setRow wb.heap.size (entA 4 3 s (.slice sa sn sc)) := by
    rw [setCell_eq_setRow w1 _ 36 _ _ (0, 0) _ h1, setCell_eq_setRow _ _ 35 _ _ (0, 0) _ (setRow_heap _ _ _ _ _ _ h1), setRow_setRow]; rfl
  generalize strOfNums s = S at c2' hxy hyx ⊢
  go_upto_region 10 with fail
  go_region_with (fail)
  all_goals
    obtain ⟨w2, hw2⟩ : ∃ w2, w2 = (w1.setRow wb.heap.size (entA 4 3 s (.slice sa sn sc))).drew := ⟨_, rfl⟩
    rw [← hw2]
    have h2 : w2.heap[wb.heap.size]? = some (.cells (entA 4 3 s (.slice sa sn sc)) 28 (0, 0)) := by rw [hw2]; exact setRow_heap _ _ _ _ _ _ h1
    have b2 : Below wb.heap.size wb w2 := by rw [hw2]; exact (bel_set b1 (Nat.le_refl _)).drew
    have r2 := hide1 (rng_of 0 (entC 4 3 s (.slice sa sn sc)) h2 rfl)
    have hr2 := (b2.block (w.heap.size + 1) (by have := hs.out; omega)).trans hr.out
    have c1'' : w2.cell? ⟨w.heap.size, 35, none⟩ = some (.int .i64 3) := cell_of 35 ((b2.block _ (by have := hs.out; omega)).trans hb) rfl
    have hfin := hide1 (bel_set (c' := entA 4 3 s (.slice sa sn sc)) (bb.out.trans (b2.mono bb.out.size)) (show w.heap.size ≤ w.heap.size + 1 by omega))
    have hz := hide1 (setRow_heap w2 (w.heap.size + 1) _ (entA 4 3 s (.slice sa sn sc)) _ _ hr2)
    clear hw2 h1 b1 c0' c1' c2' d1 d2 f1 f2 hxy hyx
    go_wp2_with (first | (refine load_w rfl 28 (.tmp 3) rfl wb.heap.size 0 rfl (entC 4 3 s (.slice sa sn sc)) _ r2.out Tryz.underlying28 rfl (by kernel_rfl) ?_) | (refine wpList_store_row rfl 28 (.tmp 2) (.tmp 43) rfl (w.heap.size + 1) (entA 4 3 s (.slice sa sn sc)) rfl rfl 28 _ hr2 (by kernel_rfl) (by kernel_rfl) hone ?_) | fail)
    exact bodyPost_ret (results_e rfl _ rfl rfl hz.out) rfl ⟨rfl, hfin.out⟩
section
variable {P : Program} {ops : Array Oper} {Q : Exit → Act → World → Prop}
theorem left_set : ∀ (l : List Bool) (j : Nat), l[j]? = some false → ((l.set j true).filter (!·)).length + 1 = (l.filter (!·)).length
  | [], j, h => by simp at h
  | b :: l, 0, h => by
    simp only [List.getElem?_cons_zero, Option.some.injEq] at h
    subst h
    simp
  | b :: l, j + 1, h => by
    simp only [List.getElem?_cons_succ] at h
    have := left_set l j h
    cases b <;> simp at this ⊢ <;> omega

theorem all_listed {l : Array Bool} (hsz : l.size = ops.size) (hacyc : ∀ i o, ops[i]? = some o → ∀ e ∈ o.after, Region.binds .any e = true → e.on < i) (hr : Region.ready .any ops l = []) : ∀ i, i < ops.size → l.getD i false = true := by
  intro i
  induction i using Nat.strongRecOn with
  | _ i ih =>
    intro hi
    by_cases h : l.getD i false = true
    · exact h
    · exfalso
      have hm : i ∈ Region.ready .any ops l := by
        rw [mem_ready]
        refine ⟨?_, ops[i], by simp [hi], fun e he hb => ?_⟩
        · have hl : i < l.size := by omega
          simp [Array.getD, hl] at h ⊢
          exact h
        · have := hacyc i ops[i] (by simp [hi]) e he hb
          exact ih e.on this (by omega)
      rw [hr] at hm
      simp at hm

def acycB (ops : Array Oper) : Bool := (List.range ops.size).all fun i => match ops[i]? with
  | none => true
  | some o => o.after.all fun e => !Region.binds .any e || decide (e.on < i)
theorem acyc_of (h : acycB ops = true) : ∀ i o, ops[i]? = some o → ∀ e ∈ o.after, Region.binds .any e = true → e.on < i := by
  intro i o ho e he hb
  have hi : i < ops.size := (Array.getElem?_eq_some_iff.1 ho).1
  have h1 := List.all_eq_true.1 h i (by simp [hi])
  simp only [ho] at h1
  have h2 := Array.all_eq_true_iff_forall_mem.1 h1 e he
  simpa [hb] using h2
def add1 (D : Nat → Bool) (i : Nat) : Nat → Bool := fun j => if j = i then true else D j

theorem wpAny_sym (hacyc : ∀ i o, ops[i]? = some o → ∀ e ∈ o.after, Region.binds .any e = true → e.on < i) (I : (Nat → Bool) → Act → World → Prop)
    (hstep : ∀ D a w, I D a w → ∀ i o, ops[i]? = some o → D i = false → (∀ e ∈ o.after, Region.binds .any e = true → D e.on = true) → ∀ K : Act → World → Prop,
      (∀ a' w', I (add1 D i) a' w' → K a' w') → (Region.wanted o (yielded ops a.tmps) = true ∧ o.wp P a w K Q) ∨ (Region.wanted o (yielded ops a.tmps) = false ∧ K (a.put o.dst undef) w))
    (hend : ∀ D a w, I D a w → (∀ i, i < ops.size → D i = true) → Q .normal a w) :
    ∀ (fuel : Nat) (l : Array Bool) (a : Act) (w : World), l.size = ops.size → (l.toList.filter (!·)).length ≤ fuel → I (fun i => l.getD i false) a w → wpAny P .any ops Q fuel l a w
  | 0, l, a, w, hsz, hf, hi => by
    have hr : Region.ready .any ops l = [] := by
      rw [List.eq_nil_iff_forall_not_mem]
      intro j hj
      obtain ⟨h1, o, ho, _⟩ := mem_ready.1 hj
      have hjl : j < l.size := by rw [hsz]; exact (Array.getElem?_eq_some_iff.1 ho).1
      have h2 : l.toList[j]? = some false := by simp [Array.getD, hjl] at h1 ⊢; exact h1
      have := left_set l.toList j h2
      omega
    exact ⟨hr, hend _ _ _ hi (all_listed hsz hacyc hr)⟩
  | fuel + 1, l, a, w, hsz, hf, hi => by
    refine ⟨fun hr => hend _ _ _ hi (all_listed hsz hacyc hr), fun j hj => ?_⟩
    obtain ⟨h1, o, ho, hdep⟩ := mem_ready.1 hj
    have hjl : j < l.size := by rw [hsz]; exact (Array.getElem?_eq_some_iff.1 ho).1
    have h2 : l.toList[j]? = some false := by simp [Array.getD, hjl] at h1 ⊢; exact h1
    have h3 : l.getD j false = false := by simp [Array.getD, hjl] at h1 ⊢; exact h1
    have h4 := left_set l.toList j h2
    have hk := hstep _ a w hi j o ho h3 hdep (wpAny P .any ops Q fuel (l.setIfInBounds j true)) (fun a' w' h => by
      refine wpAny_sym hacyc I hstep hend fuel (l.setIfInBounds j true) a' w' (by simp [hsz]) (by simp; omega) ?_
      have e : (fun i => (l.setIfInBounds j true).getD i false) = add1 (fun i => l.getD i false) j := by
        funext i
        unfold add1
        by_cases h : i = j
        · subst h; simp [Array.getD, hjl]
        · have h' : ¬ j = i := fun x => h x.symm
          by_cases hil : i < l.size
          · simp [Array.getD, hil, h, h']
          · simp [Array.getD, hil, h]
      rw [e]; exact h)
    unfold wpOp
    simp only [ho]
    rcases hk with ⟨hw, hk⟩ | ⟨hw, hk⟩
    · simp only [hw, if_true]; exact Or.inl hk
    · simp only [hw, Bool.false_eq_true, if_false]; exact hk

theorem add1_ne {D : Nat → Bool} {i j : Nat} (h : j ≠ i) : add1 D i j = D j := by unfold add1; rw [if_neg h]
theorem add1_eq {D : Nat → Bool} {i : Nat} : add1 D i i = true := by unfold add1; rw [if_pos rfl]
theorem putg_ {a : Act} {d t : Nat} {v : Value} (hd : d < a.tmps.size) : (a.put (some d) v).tmps.getD t undef = if t = d then v else a.tmps.getD t undef := by
  unfold Act.put
  simp only [Array.getD_eq_getD_getElem?, Array.getElem?_setIfInBounds]
  by_cases e : d = t
  · subst e; simp [hd]
  · rw [if_neg e, if_neg (fun h => e h.symm)]
theorem wp_val {o : Oper} {a : Act} {w w' : World} {K : Act → World → Prop} {v : Value} (h : (execOp a.eval o).run P w = .ok (.value v) w') (hk : K (a.put o.dst v) w') : o.wp P a w K Q := by
  unfold Oper.wp; rw [h]; exact hk
theorem put_of {a : Act} {d t : Nat} {v : Value} (hd : d < a.tmps.size) (h : t ≠ d) : (a.put (some d) v).tmps.getD t undef = a.tmps.getD t undef := by rw [putg_ hd, if_neg h]
theorem put_at {a : Act} {d : Nat} {v : Value} (hd : d < a.tmps.size) : (a.put (some d) v).tmps.getD d undef = v := by rw [putg_ hd, if_pos rfl]
theorem put_sz (a : Act) (dst : Option Tmp) (v : Value) : (a.put dst v).tmps.size = a.tmps.size := by cases dst <;> simp [Act.put]
theorem put_df (a : Act) (dst : Option Tmp) (v : Value) : (a.put dst v).defers = a.defers := by cases dst <;> rfl
end
section
variable {P : Program} {Q : Exit → Act → World → Prop}
def wrB (l : List Oper) (t : Nat) : Bool := l.any fun o => o.dst == some t
theorem add1_mono {D : Nat → Bool} {i k : Nat} (h : D k = true) : add1 D i k = true := by unfold add1; split <;> simp_all
theorem put_fold (a : Act) : ∀ (ds : List Nat) (s : Act) (t : Nat), s.tmps.size = a.tmps.size → (ds.foldl (fun s d => s.put (some d) (a.tmps.getD d undef)) s).tmps.getD t undef = if t ∈ ds then a.tmps.getD t undef else s.tmps.getD t undef
  | [], s, t, _ => by simp
  | d :: r, s, t, hs => by
    rw [List.foldl_cons, put_fold a r _ t (by rw [put_sz]; exact hs)]
    by_cases h1 : t ∈ r
    · simp [h1]
    · rw [if_neg h1]
      by_cases h2 : t = d
      · subst h2
        rw [if_pos (by simp)]
        by_cases h3 : t < s.tmps.size
        · rw [put_at h3]
        · have e1 : (s.put (some t) (a.tmps.getD t undef)).tmps.getD t undef = undef := by
            rw [Array.getD_eq_getD_getElem?, Array.getElem?_eq_none (by rw [put_sz]; omega)]; rfl
          have e2 : a.tmps.getD t undef = undef := by
            rw [Array.getD_eq_getD_getElem?, Array.getElem?_eq_none (by omega)]; rfl
          rw [e1, e2]
      · rw [if_neg (by simp [h1, h2])]
        by_cases h3 : d < s.tmps.size
        · exact put_of h3 h2
        · unfold Act.put
          simp only
          rw [Array.setIfInBounds_eq_of_size_le (by omega)]
theorem fold_sz (a : Act) : ∀ (ds : List Nat) (s : Act), (ds.foldl (fun s d => s.put (some d) (a.tmps.getD d undef)) s).tmps.size = s.tmps.size ∧ (ds.foldl (fun s d => s.put (some d) (a.tmps.getD d undef)) s).defers = s.defers
  | [], s => ⟨rfl, rfl⟩
  | d :: r, s => by
    obtain ⟨h1, h2⟩ := fold_sz a r (s.put (some d) (a.tmps.getD d undef))
    rw [List.foldl_cons]
    exact ⟨h1.trans (put_sz _ _ _), h2.trans (put_df _ _ _)⟩
theorem act_puts {l : List Oper} {a a0 : Act} (hd : a.defers = a0.defers) (hs : a.tmps.size = a0.tmps.size) (h : ∀ t, wrB l t = false → a.tmps.getD t undef = a0.tmps.getD t undef) : a = (l.filterMap (·.dst)).foldl (fun s d => s.put (some d) (a.tmps.getD d undef)) a0 := by
  obtain ⟨h1, h2⟩ := fold_sz a (l.filterMap (·.dst)) a0
  have hg : ∀ t, a.tmps.getD t undef = ((l.filterMap (·.dst)).foldl (fun s d => s.put (some d) (a.tmps.getD d undef)) a0).tmps.getD t undef := fun t => by
    rw [put_fold a _ a0 t hs.symm]
    split
    · rfl
    · rename_i hn
      refine h t ?_
      unfold wrB
      rw [List.any_eq_false]
      intro o ho e
      exact hn (List.mem_filterMap.2 ⟨o, ho, by simpa using e⟩)
  generalize (l.filterMap (·.dst)).foldl (fun s d => s.put (some d) (a.tmps.getD d undef)) a0 = b at *
  obtain ⟨ta, da⟩ := a
  obtain ⟨tb, db⟩ := b
  have e1 : da = db := hd.trans h2.symm
  have e2 : ta.size = tb.size := hs.trans h1.symm
  have e3 : ta = tb := by
    apply Array.ext
    · exact e2
    · intro i hi1 hi2
      have := hg i
      simpa [Array.getD, hi1, hi2] using this
  rw [e1, e3]
theorem oper_any {o : Oper} {a : Act} {w : World} {K : Act → World → Prop} (f : FuncId) (xs : Array Operand) (tys : Array TypeId) (ho : o.op = .call { callee := .value (.func f), args := xs, argTypes := tys }) (vs : Array Value) (hv : xs.map a.eval = vs) (he : ∀ w, (callFunc f vs).run P w = .ok (.enter f vs) w) {J : Value → World → Prop}
    (hc : Calls P f vs w fun e w' => ∃ r, e = .returned r ∧ J r w') (h : ∀ r w', J r w' → K (a.put o.dst r) w') : o.wp P a w K Q := by
  have hev : a.eval (.func f) = .func (.func f) #[] #[] := rfl
  unfold Oper.wp execOp
  simp only [ho, resolve, invoke, Sem.run_bind, hv, hev, Deferred.ofValue, Sem.run_pure, Result.andThen_ok, Array.append_empty, Array.empty_append, he, Oper.upon_enter]
  exact hc.mono (by rintro e w' ⟨r, rfl, hJ⟩; exact h r w' hJ)
end
section
variable {P : Program} {Q : Exit → Act → World → Prop}
def rch (l : List Oper) : Nat → Nat → Nat → Bool
  | 0, _, _ => false
  | k + 1, j, i => match l[j]? with
    | some o => o.after.any fun e => Region.binds .any e && (e.on == i || rch l k e.on i)
    | none => false
theorem rch_of {l : List Oper} {D : Nat → Bool} (hcl : ∀ j oj, l[j]? = some oj → D j = true → ∀ e ∈ oj.after, Region.binds .any e = true → D e.on = true) : ∀ (k j i : Nat), rch l k j i = true → D j = true → D i = true
  | 0, _, _, h, _ => by cases h
  | k + 1, j, i, h, hD => by
    unfold rch at h
    cases hj : l[j]? with
    | none => rw [hj] at h; cases h
    | some o =>
      rw [hj] at h
      obtain ⟨e, he, h1⟩ := Array.any_eq_true'.1 h
      simp only [Bool.and_eq_true, Bool.or_eq_true, beq_iff_eq] at h1
      have hDe := hcl j o hj hD e he h1.1
      rcases h1.2 with h2 | h2
      · rw [← h2]; exact hDe
      · exact rch_of hcl k e.on i h2 hDe
def finC (l : List Oper) (fin n : Nat) : Bool := (List.range l.length).all fun i => i == fin || (rch l l.length fin i && (match (l[i]?).bind (·.dst) with
    | some d => decide (d < n) && (List.range l.length).all fun j => j == i || ((l[j]?).bind (·.dst)) != some d
    | none => false))
theorem finC_at {l : List Oper} {fin n : Nat} (h : finC l fin n = true) {i : Nat} {o : Oper} (ho : l[i]? = some o) (hi : i ≠ fin) :
    rch l l.length fin i = true ∧ ∃ d, o.dst = some d ∧ d < n ∧ ∀ j oj, l[j]? = some oj → j ≠ i → oj.dst ≠ some d := by
  have hil := (List.getElem?_eq_some_iff.1 ho).1
  have h1 := List.all_eq_true.1 h i (by simp [hil])
  simp only [ho, Option.bind_some, Bool.or_eq_true, beq_iff_eq, hi, false_or, Bool.and_eq_true] at h1
  refine ⟨h1.1, ?_⟩
  have h3 := h1.2
  cases hd : o.dst with
  | none => rw [hd] at h3; cases h3
  | some d =>
    rw [hd] at h3
    simp only [Bool.and_eq_true, decide_eq_true_eq] at h3
    refine ⟨d, rfl, h3.1, fun j oj hj hne e => ?_⟩
    have h5 := List.all_eq_true.1 h3.2 j (by simp [(List.getElem?_eq_some_iff.1 hj).1])
    simp [hj, hne, e] at h5
def OpG (P : Program) (l : List Oper) (Q : Exit → Act → World → Prop) (o : Oper) (a : Act) (w : World) (K : Act → World → Prop) : Prop :=
  (Region.wanted o (yielded l.toArray a.tmps) = true ∧ o.wp P a w K Q) ∨ (Region.wanted o (yielded l.toArray a.tmps) = false ∧ K (a.put o.dst undef) w)
theorem OpG.plain {l : List Oper} {o : Oper} {a : Act} {w : World} {K : Act → World → Prop} (hg : o.guard = none) (h : o.wp P a w K Q) : OpG P l Q o a w K := .inl ⟨by unfold Region.wanted; rw [hg], h⟩
theorem OpG.want {l : List Oper} {o : Oper} {a : Act} {w : World} {K : Act → World → Prop} {j d : Nat} {b : Bool} (hg : o.guard = some (j, b)) (hd : (l[j]?).bind (·.dst) = some d) (hs : d < a.tmps.size) (hv : a.tmps.getD d undef = .bool b) (h : o.wp P a w K Q) : OpG P l Q o a w K := by
  refine .inl ⟨?_, h⟩
  have ht : a.tmps[d]? = some (.bool b) := by
    rw [Array.getElem?_eq_getElem hs]
    simpa [Array.getD, hs] using hv
  unfold Region.wanted yielded
  rw [hg]
  simp [hd, ht]
theorem OpG.skip {l : List Oper} {o : Oper} {a : Act} {w : World} {K : Act → World → Prop} {j d : Nat} {b : Bool} (hg : o.guard = some (j, b)) (hd : (l[j]?).bind (·.dst) = some d) (hs : d < a.tmps.size) (hv : a.tmps.getD d undef = .bool (!b)) (h : K (a.put o.dst undef) w) : OpG P l Q o a w K := by
  refine .inr ⟨?_, h⟩
  have ht : a.tmps[d]? = some (.bool (!b)) := by
    rw [Array.getElem?_eq_getElem hs]
    simpa [Array.getD, hs] using hv
  unfold Region.wanted yielded
  rw [hg]
  cases b <;> simp [hd, ht]
theorem wp_flowG {l : List Oper} {id : Nat} (fin : Nat) (a0 : Act) (w0 : World) (hm : P.follows .mixedOrders = true) (hac : acycB l.toArray = true) (hfin : finC l fin a0.tmps.size = true) {f : Oper} (hf : l[fin]? = some f)
    (Rr : Nat → Value → World → Prop) (hmono : ∀ i v w w', Rr i v w → Below w.heap.size w w' → Rr i v w')
    (hop : ∀ i o, l[i]? = some o → i ≠ fin → ∀ a w, Below w0.heap.size w0 w → a.tmps.size = a0.tmps.size → (∀ t, wrB l t = false → a.tmps.getD t undef = a0.tmps.getD t undef) → (∀ j oj d, l[j]? = some oj → oj.dst = some d → (∃ e ∈ o.after, Region.binds .any e = true ∧ e.on = j) → Rr j (a.tmps.getD d undef) w) →
      ∀ K : Act → World → Prop, (∀ v w', Below w.heap.size w w' → Rr i v w' → K (a.put o.dst v) w') → OpG P l Q o a w K)
    (hlast : ∀ a w, Below w0.heap.size w0 w → a.defers = a0.defers → a.tmps.size = a0.tmps.size → (∀ t, wrB l t = false → a.tmps.getD t undef = a0.tmps.getD t undef) → (∀ j oj d, l[j]? = some oj → j ≠ fin → oj.dst = some d → Rr j (a.tmps.getD d undef) w) →
      ∀ K : Act → World → Prop, (∀ a' w', Q .normal a' w' → K a' w') → OpG P l Q f a w K) : (Code.region id l.toArray true).wp P Q a0 w0 := by
  have hacyc := acyc_of (ops := l.toArray) hac
  refine wp_region_any hm (wpAny_sym hacyc (fun D a w => ((∀ j, j < l.length → D j = true) ∧ Q .normal a w) ∨ (D fin = false ∧ a.defers = a0.defers ∧ a.tmps.size = a0.tmps.size ∧ Below w0.heap.size w0 w ∧ (∀ t, wrB l t = false → a.tmps.getD t undef = a0.tmps.getD t undef) ∧ (∀ j oj, l[j]? = some oj → D j = true → ∀ e ∈ oj.after, Region.binds .any e = true → D e.on = true) ∧ ∀ j oj d, l[j]? = some oj → D j = true → oj.dst = some d → Rr j (a.tmps.getD d undef) w)) ?_ ?_ _ _ _ _ (by simp) ?_ ?_)
  · intro D a w hI i o ho hD hdep K hK
    have ho : l[i]? = some o := by simpa using ho
    rcases hI with ⟨h1, _⟩ | ⟨h1, hdf, hsz, hb, hsl, hcl, hr⟩
    · rw [h1 i (List.getElem?_eq_some_iff.1 ho).1] at hD; cases hD
    · by_cases hi : i = fin
      · subst hi
        rw [hf] at ho
        cases ho
        have hall : ∀ j, j < l.length → j ≠ i → D j = true := fun j hj hne => by
          obtain ⟨h3, _⟩ := finC_at hfin (List.getElem?_eq_getElem hj) hne
          cases hk : l.length with
          | zero => omega
          | succ k =>
            rw [hk] at h3
            unfold rch at h3
            rw [hf] at h3
            obtain ⟨e, he, h4⟩ := Array.any_eq_true'.1 h3
            simp only [Bool.and_eq_true, Bool.or_eq_true, beq_iff_eq] at h4
            rcases h4.2 with h5 | h5
            · rw [← h5]; exact hdep e he h4.1
            · exact rch_of hcl k e.on j h5 (hdep e he h4.1)
        refine hlast a w hb hdf hsz hsl (fun j oj d hj hne hd => hr j oj d hj (hall j (List.getElem?_eq_some_iff.1 hj).1 hne) hd) K (fun a' w' hq => hK a' w' (.inl ⟨fun j hj => ?_, hq⟩))
        by_cases hji : j = i
        · rw [hji]; exact add1_eq
        · rw [add1_ne hji]; exact hall j hj hji
      · obtain ⟨_, d, hd, hdn, hap⟩ := finC_at hfin ho hi
        have hds : d < a.tmps.size := by rw [hsz]; exact hdn
        refine hop i o ho hi a w hb hsz hsl (fun j oj d' hj hd' ⟨e, he, h3, h4⟩ => hr j oj d' hj (by rw [← h4]; exact hdep e he h3) hd') K (fun v w' hb' hR => hK _ _ (.inr ⟨?_, ?_, ?_, ?_, ?_, ?_, ?_⟩))
        · rw [add1_ne (fun e => hi e.symm)]; exact h1
        · rw [put_df]; exact hdf
        · rw [put_sz]; exact hsz
        · exact hb.trans (hb'.mono hb.size)
        · intro t ht
          rw [hd, put_of hds (fun e => by
            subst e
            have : wrB l t = true := List.any_eq_true.2 ⟨o, List.mem_of_getElem? ho, by simp [hd]⟩
            rw [this] at ht; cases ht)]
          exact hsl t ht
        · intro j oj hj hDj e he h3
          by_cases hji : j = i
          · subst hji
            rw [ho] at hj
            cases hj
            exact add1_mono (hdep e he h3)
          · rw [add1_ne hji] at hDj
            exact add1_mono (hcl j oj hj hDj e he h3)
        · intro j oj d' hj hDj hd'
          by_cases hji : j = i
          · subst hji
            rw [ho] at hj
            cases hj
            rw [hd] at hd'
            cases hd'
            rw [hd, put_at hds]
            exact hR
          · rw [add1_ne hji] at hDj
            rw [hd, put_of hds (fun e => hap j oj hj hji (by rw [hd', e]))]
            exact hmono _ _ _ _ (hr j oj d' hj hDj hd') hb'
  · intro D a w hI hall
    rcases hI with ⟨_, h⟩ | ⟨h1, _⟩
    · exact h
    · rw [hall fin (by simpa using (List.getElem?_eq_some_iff.1 hf).1)] at h1; cases h1
  · exact Nat.le_trans (List.length_filter_le _ _) (by simp)
  · have e : (fun i => (Array.replicate l.toArray.size false).getD i false) = fun _ => false := by
      funext i
      by_cases h : i < l.toArray.size <;> simp [Array.getD]
    rw [e]
    exact .inr ⟨rfl, rfl, rfl, (Below.refl _ _).drew, fun _ _ => rfl, (fun _ _ _ h => absurd h (by simp)), (fun _ _ _ _ h => absurd h (by simp))⟩
end
def Sg1 (w : World) (g : Nat) (s : List Int) : Prop := w.heap[g]? = some (.cells (sgC s).toArray 53 (0, 0))
theorem Sg1.below {w w' : World} {g : Nat} {s : List Int} (h : Sg1 w g s) (hb : Below w.heap.size w w') : Sg1 w' g s := (hb.block g (Array.getElem?_eq_some_iff.1 h).1).trans h
theorem ldSg {w : World} {g : Nat} {s : List Int} (h : Sg1 w g s) : (Instr.loadAt 53 (.pointer (some ⟨g, 0, none⟩))).run Tryz.prog w = .ok (.agg (sgC s).toArray) w := by
  have := run_loadVar_row (P := Tryz.prog) w g 53 53 (sgC s).toArray (0, 0) _ h Tryz.underlying53 (by rfl) (by kernel_rfl)
  simp [Instr.loadAt, Instr.sureAddr, this]
def alc : List Int := [97, 108, 105, 99, 101]
def Tld (s : List Int) : Prop := ∀ w : World, (binOp .neq 53 (.agg (sgC s).toArray) (.agg (sgC s).toArray)).run Tryz.prog w = .ok (.bool false) w
theorem tld_a : Tld alc := fun w => by kernel_rfl
theorem tld_n : Tld [] := fun w => by kernel_rfl
theorem eg_sg {x u : Operand} (s : List Int) (w : World) : (eqGuard .neq 53 x u (.agg (sgC s).toArray) (.agg (sgC s).toArray)).run Tryz.prog w = .ok () w := by
  simp [eqGuard, go_sem]
set_option maxHeartbeats 4000000 in
set_option maxRecDepth 100000 in
theorem sigs_eq {g : Nat} {s : List Int} (hq : Tld s) {w : World} (h : Sg1 w g s) : Calls Tryz.prog 76 #[.slice (some ⟨g, 0, none⟩) 1 1, .slice (some ⟨g, 0, none⟩) 1 1] w fun e w' => e = .returned (.bool true) ∧ Below w.heap.size w w' := by
  replace h := hide1 h
  go_enter Tryz.func76, Tryz.ntmps76
  go_wp2_with fail
  refine wp_loop_rounds 2 ?_
  rw [rounds_succ]
  go_upto_region 6 with fail
  refine wp_flowG 8 _ _ (by kernel_rfl) (by kernel_rfl) (by kernel_rfl) rfl (fun j v _ => v = ([(.slice (some ⟨g, 0, none⟩) 1 1), (.int .i64 0), (.pointer (some ⟨g, 0, none⟩)), (.agg (sgC s).toArray), (.slice (some ⟨g, 0, none⟩) 1 1), (.int .i64 0), (.pointer (some ⟨g, 0, none⟩)), (.agg (sgC s).toArray), (.bool false)] : List Value).getD j undef) (fun _ _ _ _ h _ => h) ?_ ?_
  · intro j op hop hj a wa hwa hsz hsl hdep K hK
    match j, hop with
    | 0, hop =>
      obtain rfl := Option.some.inj hop
      have p0 : a.tmps.getD 0 undef = (.slice (some ⟨g, 0, none⟩) 1 1) := hsl 0 rfl
      exact .plain rfl (wp_val (w' := wa) (v := (.slice (some ⟨g, 0, none⟩) 1 1)) (by simp only [execOp, Act.eval]; rw [show a.tmps.getD 0 undef = _ from p0]; rfl) (hK _ _ (Below.refl _ _) rfl))
    | 1, hop =>
      obtain rfl := Option.some.inj hop
      have p5 : a.tmps.getD 5 undef = (.int .i64 0) := hsl 5 rfl
      exact .plain rfl (wp_val (w' := wa) (v := (.int .i64 0)) (by simp only [execOp, Act.eval]; rw [show a.tmps.getD 5 undef = _ from p5]; rfl) (hK _ _ (Below.refl _ _) rfl))
    | 2, hop =>
      obtain rfl := Option.some.inj hop
      have t0 : a.tmps.getD 16 undef = (.slice (some ⟨g, 0, none⟩) 1 1) := hdep 0 _ 16 rfl rfl ⟨⟨0, .data⟩, by simp, rfl, rfl⟩
      have t1 : a.tmps.getD 17 undef = (.int .i64 0) := hdep 1 _ 17 rfl rfl ⟨⟨1, .data⟩, by simp, rfl, rfl⟩
      exact .plain rfl (wp_val (w' := wa) (v := (.pointer (some ⟨g, 0, none⟩))) (by simp only [execOp, Act.eval]; rw [show a.tmps.getD 16 undef = _ from t0, show a.tmps.getD 17 undef = _ from t1]; kernel_rfl) (hK _ _ (Below.refl _ _) rfl))
    | 3, hop =>
      obtain rfl := Option.some.inj hop
      have t2 : a.tmps.getD 18 undef = (.pointer (some ⟨g, 0, none⟩)) := hdep 2 _ 18 rfl rfl ⟨⟨2, .data⟩, by simp, rfl, rfl⟩
      exact .plain rfl (wp_val (w' := wa) (v := (.agg (sgC s).toArray)) (by simp only [execOp, Act.eval]; rw [show a.tmps.getD 18 undef = _ from t2]; simp only [Sem.run_bind, ldSg (h.out.below hwa), Result.andThen_ok, Sem.run_pure]) (hK _ _ (Below.refl _ _) rfl))
    | 4, hop =>
      obtain rfl := Option.some.inj hop
      have p1 : a.tmps.getD 1 undef = (.slice (some ⟨g, 0, none⟩) 1 1) := hsl 1 rfl
      exact .plain rfl (wp_val (w' := wa) (v := (.slice (some ⟨g, 0, none⟩) 1 1)) (by simp only [execOp, Act.eval]; rw [show a.tmps.getD 1 undef = _ from p1]; rfl) (hK _ _ (Below.refl _ _) rfl))
    | 5, hop =>
      obtain rfl := Option.some.inj hop
      have p5 : a.tmps.getD 5 undef = (.int .i64 0) := hsl 5 rfl
      exact .plain rfl (wp_val (w' := wa) (v := (.int .i64 0)) (by simp only [execOp, Act.eval]; rw [show a.tmps.getD 5 undef = _ from p5]; rfl) (hK _ _ (Below.refl _ _) rfl))
    | 6, hop =>
      obtain rfl := Option.some.inj hop
      have t4 : a.tmps.getD 20 undef = (.slice (some ⟨g, 0, none⟩) 1 1) := hdep 4 _ 20 rfl rfl ⟨⟨4, .data⟩, by simp, rfl, rfl⟩
      have t5 : a.tmps.getD 21 undef = (.int .i64 0) := hdep 5 _ 21 rfl rfl ⟨⟨5, .data⟩, by simp, rfl, rfl⟩
      exact .plain rfl (wp_val (w' := wa) (v := (.pointer (some ⟨g, 0, none⟩))) (by simp only [execOp, Act.eval]; rw [show a.tmps.getD 20 undef = _ from t4, show a.tmps.getD 21 undef = _ from t5]; kernel_rfl) (hK _ _ (Below.refl _ _) rfl))
    | 7, hop =>
      obtain rfl := Option.some.inj hop
      have t6 : a.tmps.getD 22 undef = (.pointer (some ⟨g, 0, none⟩)) := hdep 6 _ 22 rfl rfl ⟨⟨6, .data⟩, by simp, rfl, rfl⟩
      exact .plain rfl (wp_val (w' := wa) (v := (.agg (sgC s).toArray)) (by simp only [execOp, Act.eval]; rw [show a.tmps.getD 22 undef = _ from t6]; simp only [Sem.run_bind, ldSg (h.out.below hwa), Result.andThen_ok, Sem.run_pure]) (hK _ _ (Below.refl _ _) rfl))
    | 8, _ => exact absurd rfl hj
    | _ + 9, hop => exact absurd hop (by simp)
  · intro a wa hwa hdf hsz hsl hrr K hK
    have t3 : a.tmps.getD 19 undef = (.agg (sgC s).toArray) := hrr 3 _ 19 rfl (by decide) rfl
    have t7 : a.tmps.getD 23 undef = (.agg (sgC s).toArray) := hrr 7 _ 23 rfl (by decide) rfl
    refine .plain rfl (wp_val (w' := wa) (v := (.bool false)) (by simp only [execOp, Act.eval]; rw [show a.tmps.getD 19 undef = _ from t3, show a.tmps.getD 23 undef = _ from t7]; simp only [Sem.run_bind, eg_sg, hq wa, Result.andThen_ok, Sem.run_pure]) ?_)
    refine hK _ wa ?_
    have hact := act_puts hdf hsz hsl
    clear hrr hsl hdf hsz hK t3 t7
    simp only [List.filterMap_cons, List.filterMap_nil, List.foldl_cons, List.foldl_nil] at hact
    rw [hact]
    generalize a.tmps.getD 16 undef = y16
    generalize a.tmps.getD 17 undef = y17
    generalize a.tmps.getD 18 undef = y18
    generalize a.tmps.getD 19 undef = y19
    generalize a.tmps.getD 20 undef = y20
    generalize a.tmps.getD 21 undef = y21
    generalize a.tmps.getD 22 undef = y22
    generalize a.tmps.getD 23 undef = y23
    clear hact
    simp only [Act.put, List.setIfInBounds_toArray, List.set_cons_succ, List.set_cons_zero]
    have hfin := hide1 hwa
    clear hwa
    go_wp2
    rw [rounds_succ]
    go_wp2
    go_ret
    exact ⟨rfl, hfin.out⟩
theorem conv_nil (w : World) : (convert 24 9 (.slice none 0 0)).run Tryz.prog w = .ok (.string ⟨#[]⟩) w := run_convert_bytes_nil w 24 5 Tryz.underlying24 Tryz.underlying5 0 0 9 Tryz.underlying9
theorem bytes_eq (w : World) : Calls Tryz.prog 75 #[.slice none 0 0, .slice none 0 0] w fun e w' => e = .returned (.bool true) ∧ w' = w := by
  have hc := conv_nil w
  go_enter Tryz.func75, Tryz.ntmps75
  go_wp2
  go_ret
  exact ⟨rfl, rfl⟩
set_option maxHeartbeats 8000000 in
set_option maxRecDepth 100000 in
theorem equal_e {k op : Int} {t s : List Int} {g : Nat} (hq : Tld t) {w : World} (h : Sg1 w g t) : Calls Tryz.prog 49 #[.agg (entA k op s (.slice (some ⟨g, 0, none⟩) 1 1)), .agg (entA k op s (.slice (some ⟨g, 0, none⟩) 1 1))] w fun e w' => e = .returned (.bool true) ∧ Below w.heap.size w w' := by
  obtain ⟨E, hE⟩ : ∃ E, E = entA k op s (.slice (some ⟨g, 0, none⟩) 1 1) := ⟨_, rfl⟩
  obtain ⟨wb, hwb⟩ : ∃ wb, wb = (w.alloc (.cells E 28)).alloc (.cells E 28) := ⟨_, rfl⟩
  have bb : Below w.heap.size w wb := by rw [hwb]; exact (below_na _).alloc (by simp) _
  have hb : wb.heap[w.heap.size]? = some (.cells E 28 (0, 0)) := by
    rw [hwb]
    show ((w.heap.push _).push _)[w.heap.size]? = _
    rw [Array.getElem?_push, if_neg (by simp), Array.getElem?_push, if_pos rfl]
  have hr : wb.heap[w.heap.size + 1]? = some (.cells E 28 (0, 0)) := by
    rw [hwb]
    show ((w.heap.push _).push _)[w.heap.size + 1]? = _
    rw [Array.getElem?_push, if_pos (by simp)]
  rw [← hE]
  have hs1 := sigs_eq hq (h.below bb)
  have hf : Hid (∀ wa, Below wb.heap.size wb wa → Below w.heap.size w wa) := hide1 fun wa hb => bb.trans (hb.mono bb.size)
  have hb0 := hb; have hr0 := hr
  rw [hE] at hb0 hr0
  have a0 : wb.cell? ⟨w.heap.size, 0, none⟩ = some (.int .i64 k) := cell_of 0 hb0 rfl
  have a1 : wb.cell? ⟨w.heap.size, 33, none⟩ = some (.string ⟨#[]⟩) := cell_of 33 hb0 rfl
  have a2 : wb.cell? ⟨w.heap.size, 34, none⟩ = some (.slice none 0 0) := cell_of 34 hb0 rfl
  have a3 : wb.cell? ⟨w.heap.size, 35, none⟩ = some (.int .i64 op) := cell_of 35 hb0 rfl
  have a4 : wb.cell? ⟨w.heap.size, 36, none⟩ = some (.string (strOfNums s)) := cell_of 36 hb0 rfl
  have a5 : wb.cell? ⟨w.heap.size, 69, none⟩ = some (.slice (some ⟨g, 0, none⟩) 1 1) := cell_of 69 hb0 rfl
  have b0 : wb.cell? ⟨w.heap.size + 1, 0, none⟩ = some (.int .i64 k) := cell_of 0 hr0 rfl
  have b1 : wb.cell? ⟨w.heap.size + 1, 33, none⟩ = some (.string ⟨#[]⟩) := cell_of 33 hr0 rfl
  have b2 : wb.cell? ⟨w.heap.size + 1, 34, none⟩ = some (.slice none 0 0) := cell_of 34 hr0 rfl
  have b3 : wb.cell? ⟨w.heap.size + 1, 35, none⟩ = some (.int .i64 op) := cell_of 35 hr0 rfl
  have b4 : wb.cell? ⟨w.heap.size + 1, 36, none⟩ = some (.string (strOfNums s)) := cell_of 36 hr0 rfl
  have b5 : wb.cell? ⟨w.heap.size + 1, 69, none⟩ = some (.slice (some ⟨g, 0, none⟩) 1 1) := cell_of 69 hr0 rfl
  have ra := hide1 (rng_of 1 (zC 32) hb0 rfl)
  have rb := hide1 (rng_of 1 (zC 32) hr0 rfl)
  have ka := hide1 (rng_of 37 (zC 32) hb0 rfl)
  have kb := hide1 (rng_of 37 (zC 32) hr0 rfl)
  have e23 := fun w => @eq_zs w
  have e25 := fun w => @eq_z w
  have hbe := bytes_eq wb
  generalize strOfNums s = S at *
  clear hb hr hb0 hr0 hE bb h
  go_enter Tryz.func49, Tryz.ntmps49
  go_upto_region 1 with fail
  rw [← hwb]
  clear hwb
  go_wp2_with (first
    | (refine load_w (by first | rfl | (simp [Region.wanted, yielded]; done)) 23 (.tmp 11) rfl w.heap.size 1 rfl (zC 32) _ ra.out Tryz.underlying23 rfl (by kernel_rfl) ?_)
    | (refine load_w (by first | rfl | (simp [Region.wanted, yielded]; done)) 23 (.tmp 13) rfl (w.heap.size + 1) 1 rfl (zC 32) _ rb.out Tryz.underlying23 rfl (by kernel_rfl) ?_)
    | fail)
  refine hbe.mono ?_
  rintro e w1 ⟨rfl, rfl⟩
  go_wp2_with (first
    | (refine load_w (by first | rfl | (simp [Region.wanted, yielded]; done)) 25 (.tmp 46) rfl w.heap.size 37 rfl (zC 32) _ ka.out Tryz.underlying25 rfl (by kernel_rfl) ?_)
    | (refine load_w (by first | rfl | (simp [Region.wanted, yielded]; done)) 25 (.tmp 48) rfl (w.heap.size + 1) 37 rfl (zC 32) _ kb.out Tryz.underlying25 rfl (by kernel_rfl) ?_)
    | fail)
  refine hs1.mono ?_
  rintro e w2 ⟨rfl, b9⟩
  go_wp2
  go_ret
  exact ⟨rfl, hf.out _ b9⟩
set_option maxHeartbeats 8000000 in
set_option maxRecDepth 100000 in
theorem sigs_are {g : Nat} {s : List Int} (hz : Byt s) (hm : s.length ≤ 1000000) (hh : (decide (s = []) || nmd s) = true) {w : World} (h : Sg1 w g s) : Calls Tryz.prog 52 #[.slice (some ⟨g, 0, none⟩) 1 1] w fun e w' => e = .returned (.bool true) ∧ Below w.heap.size w w' := by
  have r0 := hide1 (rng_of 0 (sgC s) h rfl)
  have ha := heap_na w Tryz.zeroCells53 53
  have hone : (sgC s).toArray.all (·.oneCell') = true := by kernel_rfl
  replace hh := hide1 hh
  replace hz := hide1 hz
  go_enter Tryz.func52, Tryz.ntmps52
  go_wp2_with fail
  refine wp_loop_rounds 2 ?_
  rw [rounds_succ]
  go_upto_region 6 with (first
    | (refine load_w rfl 53 (.tmp 18) rfl g 0 rfl (sgC s) _ r0.out Tryz.underlying53 rfl (by kernel_rfl) ?_)
    | (refine wpList_store_row rfl 53 (.tmp 4) (.tmp 19) rfl w.heap.size (sgC s).toArray rfl rfl 53 _ ha (by kernel_rfl) (by kernel_rfl) hone ?_)
    | fail)
  obtain ⟨w1, hw1⟩ : ∃ w1, w1 = (w.alloc (.cells Tryz.zeroCells53 53)).setRow w.heap.size (sgC s).toArray := ⟨_, rfl⟩
  rw [← hw1]
  simp only [Act.put]
  have hx : Sg1 w1 w.heap.size s := by rw [hw1]; exact setRow_heap _ _ _ _ _ _ ha
  have b1 : Below w.heap.size w w1 := by rw [hw1]; exact bel_set (below_na _) (Nat.le_refl _)
  replace hx := hide1 hx
  replace b1 := hide1 b1
  replace hz := hz.out
  clear hw1 ha r0 h
  refine wp_flowG 17 _ _ (by kernel_rfl) (by kernel_rfl) (by kernel_rfl) rfl (fun j v _ => v = ([(.agg (sgC s).toArray), (.bool true), (.bool false), (.bool false), (.int .i64 0), (.bool false), (.bool false), undef, undef, undef, undef, undef, undef, undef, undef, undef, (.bool false), (.bool false)] : List Value).getD j undef) (fun _ _ _ _ h _ => h) ?_ ?_
  · intro j op hop hj a wa hwa hsz hsl hdep K hK
    match j, hop with
    | 0, hop =>
      obtain rfl := Option.some.inj hop
      have p4 : a.tmps.getD 4 undef = (.pointer (some ⟨w.heap.size, 0, none⟩)) := hsl 4 rfl
      exact .plain rfl (wp_val (w' := wa) (v := (.agg (sgC s).toArray)) (by simp only [execOp, Act.eval]; rw [show a.tmps.getD 4 undef = _ from p4]; simp only [Sem.run_bind, ldSg (hx.out.below hwa), Result.andThen_ok, Sem.run_pure]) (hK _ _ (Below.refl _ _) rfl))
    | 1, hop =>
      obtain rfl := Option.some.inj hop
      have t0 : a.tmps.getD 20 undef = (.agg (sgC s).toArray) := hdep 0 _ 20 rfl rfl ⟨⟨0, .data⟩, by simp, rfl, rfl⟩
      refine .plain rfl (oper_any (J := fun r w' => r = (.bool true) ∧ Below wa.heap.size wa w') 80 #[.tmp 20] _ rfl #[(.agg (sgC s).toArray)] (by simp only [List.map_toArray, List.map_cons, List.map_nil, Act.eval]; rw [show a.tmps.getD 20 undef = _ from t0]) (fun w => by kernel_rfl) ((signer_h s hz hm wa).mono fun e w' h => ⟨_, h.1, by rw [hh.out], h.2⟩) ?_)
      rintro r w' ⟨rfl, hb⟩
      exact hK _ _ hb rfl
    | 2, hop =>
      obtain rfl := Option.some.inj hop
      have t1 : a.tmps.getD 21 undef = (.bool true) := hdep 1 _ 21 rfl rfl ⟨⟨1, .data⟩, by simp, rfl, rfl⟩
      exact .plain rfl (wp_val (w' := wa) (v := (.bool false)) (by simp only [execOp, Act.eval]; rw [show a.tmps.getD 21 undef = _ from t1]; kernel_rfl) (hK _ _ (Below.refl _ _) rfl))
    | 3, hop =>
      obtain rfl := Option.some.inj hop
      have t2 : a.tmps.getD 22 undef = (.bool false) := hdep 2 _ 22 rfl rfl ⟨⟨2, .data⟩, by simp, rfl, rfl⟩
      exact .plain rfl (wp_val (w' := wa) (v := (.bool false)) (by simp only [execOp, Act.eval]; rw [show a.tmps.getD 22 undef = _ from t2]; rfl) (hK _ _ (Below.refl _ _) rfl))
    | 4, hop =>
      obtain rfl := Option.some.inj hop
      have gg : a.tmps.getD 23 undef = (.bool false) := hdep 3 _ 23 rfl rfl ⟨⟨3, .guard⟩, by simp, rfl, rfl⟩
      have p3 : a.tmps.getD 3 undef = (.int .i64 0) := hsl 3 rfl
      exact .want rfl rfl (by rw [hsz]; simp) gg (wp_val (w' := wa) (v := (.int .i64 0)) (by simp only [execOp, Act.eval]; rw [show a.tmps.getD 3 undef = _ from p3]; rfl) (hK _ _ (Below.refl _ _) rfl))
    | 5, hop =>
      obtain rfl := Option.some.inj hop
      have gg : a.tmps.getD 23 undef = (.bool false) := hdep 3 _ 23 rfl rfl ⟨⟨3, .guard⟩, by simp, rfl, rfl⟩
      have t4 : a.tmps.getD 24 undef = (.int .i64 0) := hdep 4 _ 24 rfl rfl ⟨⟨4, .data⟩, by simp, rfl, rfl⟩
      exact .want rfl rfl (by rw [hsz]; simp) gg (wp_val (w' := wa) (v := (.bool false)) (by simp only [execOp, Act.eval]; rw [show a.tmps.getD 24 undef = _ from t4]; kernel_rfl) (hK _ _ (Below.refl _ _) rfl))
    | 6, hop =>
      obtain rfl := Option.some.inj hop
      have gg : a.tmps.getD 23 undef = (.bool false) := hdep 3 _ 23 rfl rfl ⟨⟨3, .guard⟩, by simp, rfl, rfl⟩
      have t5 : a.tmps.getD 25 undef = (.bool false) := hdep 5 _ 25 rfl rfl ⟨⟨5, .data⟩, by simp, rfl, rfl⟩
      exact .want rfl rfl (by rw [hsz]; simp) gg (wp_val (w' := wa) (v := (.bool false)) (by simp only [execOp, Act.eval]; rw [show a.tmps.getD 25 undef = _ from t5]; rfl) (hK _ _ (Below.refl _ _) rfl))
    | 7, hop =>
      obtain rfl := Option.some.inj hop
      have gg : a.tmps.getD 26 undef = (.bool false) := hdep 6 _ 26 rfl rfl ⟨⟨6, .guard⟩, by simp, rfl, rfl⟩
      exact .skip rfl rfl (by rw [hsz]; simp) gg (hK _ _ (Below.refl _ _) rfl)
    | 8, hop =>
      obtain rfl := Option.some.inj hop
      have gg : a.tmps.getD 26 undef = (.bool false) := hdep 6 _ 26 rfl rfl ⟨⟨6, .guard⟩, by simp, rfl, rfl⟩
      exact .skip rfl rfl (by rw [hsz]; simp) gg (hK _ _ (Below.refl _ _) rfl)
    | 9, hop =>
      obtain rfl := Option.some.inj hop
      have gg : a.tmps.getD 26 undef = (.bool false) := hdep 6 _ 26 rfl rfl ⟨⟨6, .guard⟩, by simp, rfl, rfl⟩
      exact .skip rfl rfl (by rw [hsz]; simp) gg (hK _ _ (Below.refl _ _) rfl)
    | 10, hop =>
      obtain rfl := Option.some.inj hop
      have gg : a.tmps.getD 26 undef = (.bool false) := hdep 6 _ 26 rfl rfl ⟨⟨6, .guard⟩, by simp, rfl, rfl⟩
      exact .skip rfl rfl (by rw [hsz]; simp) gg (hK _ _ (Below.refl _ _) rfl)
    | 11, hop =>
      obtain rfl := Option.some.inj hop
      have gg : a.tmps.getD 26 undef = (.bool false) := hdep 6 _ 26 rfl rfl ⟨⟨6, .guard⟩, by simp, rfl, rfl⟩
      exact .skip rfl rfl (by rw [hsz]; simp) gg (hK _ _ (Below.refl _ _) rfl)
    | 12, hop =>
      obtain rfl := Option.some.inj hop
      have gg : a.tmps.getD 26 undef = (.bool false) := hdep 6 _ 26 rfl rfl ⟨⟨6, .guard⟩, by simp, rfl, rfl⟩
      exact .skip rfl rfl (by rw [hsz]; simp) gg (hK _ _ (Below.refl _ _) rfl)
    | 13, hop =>
      obtain rfl := Option.some.inj hop
      have gg : a.tmps.getD 26 undef = (.bool false) := hdep 6 _ 26 rfl rfl ⟨⟨6, .guard⟩, by simp, rfl, rfl⟩
      exact .skip rfl rfl (by rw [hsz]; simp) gg (hK _ _ (Below.refl _ _) rfl)
    | 14, hop =>
      obtain rfl := Option.some.inj hop
      have gg : a.tmps.getD 26 undef = (.bool false) := hdep 6 _ 26 rfl rfl ⟨⟨6, .guard⟩, by simp, rfl, rfl⟩
      exact .skip rfl rfl (by rw [hsz]; simp) gg (hK _ _ (Below.refl _ _) rfl)
    | 15, hop =>
      obtain rfl := Option.some.inj hop
      have gg : a.tmps.getD 26 undef = (.bool false) := hdep 6 _ 26 rfl rfl ⟨⟨6, .guard⟩, by simp, rfl, rfl⟩
      exact .skip rfl rfl (by rw [hsz]; simp) gg (hK _ _ (Below.refl _ _) rfl)
    | 16, hop =>
      obtain rfl := Option.some.inj hop
      have gg : a.tmps.getD 23 undef = (.bool false) := hdep 3 _ 23 rfl rfl ⟨⟨3, .guard⟩, by simp, rfl, rfl⟩
      have t6 : a.tmps.getD 26 undef = (.bool false) := hdep 6 _ 26 rfl rfl ⟨⟨6, .data⟩, by simp, rfl, rfl⟩
      have t15 : a.tmps.getD 35 undef = undef := hdep 15 _ 35 rfl rfl ⟨⟨15, .data⟩, by simp, rfl, rfl⟩
      exact .want rfl rfl (by rw [hsz]; simp) gg (wp_val (w' := wa) (v := (.bool false)) (by simp only [execOp, Act.eval]; rw [show a.tmps.getD 26 undef = _ from t6, show a.tmps.getD 35 undef = _ from t15]; rfl) (hK _ _ (Below.refl _ _) rfl))
    | 17, _ => exact absurd rfl hj
    | _ + 18, hop => exact absurd hop (by simp)
  · intro a wa hwa hdf hsz hsl hrr K hK
    have t3 : a.tmps.getD 23 undef = (.bool false) := hrr 3 _ 23 rfl (by decide) rfl
    have t16 : a.tmps.getD 36 undef = (.bool false) := hrr 16 _ 36 rfl (by decide) rfl
    refine .plain rfl (wp_val (w' := wa) (v := (.bool false)) (by simp only [execOp, Act.eval]; rw [show a.tmps.getD 23 undef = _ from t3, show a.tmps.getD 36 undef = _ from t16]; rfl) ?_)
    refine hK _ wa ?_
    have hact := act_puts hdf hsz hsl
    clear hrr hsl hdf hsz hK t16 t3
    simp only [List.filterMap_cons, List.filterMap_nil, List.foldl_cons, List.foldl_nil] at hact
    rw [hact]
    generalize a.tmps.getD 20 undef = y20
    generalize a.tmps.getD 21 undef = y21
    generalize a.tmps.getD 22 undef = y22
    generalize a.tmps.getD 23 undef = y23
    generalize a.tmps.getD 24 undef = y24
    generalize a.tmps.getD 25 undef = y25
    generalize a.tmps.getD 26 undef = y26
    generalize a.tmps.getD 27 undef = y27
    generalize a.tmps.getD 28 undef = y28
    generalize a.tmps.getD 29 undef = y29
    generalize a.tmps.getD 30 undef = y30
    generalize a.tmps.getD 31 undef = y31
    generalize a.tmps.getD 32 undef = y32
    generalize a.tmps.getD 33 undef = y33
    generalize a.tmps.getD 34 undef = y34
    generalize a.tmps.getD 35 undef = y35
    generalize a.tmps.getD 36 undef = y36
    clear hact
    simp only [Act.put, List.setIfInBounds_toArray, List.set_cons_succ, List.set_cons_zero]
    have hfin := hide1 (b1.out.trans (hwa.mono b1.out.size))
    clear hwa hx
    go_wp2
    rw [rounds_succ]
    go_wp2
    go_ret
    exact ⟨rfl, hfin.out⟩
def En1 (w : World) (q : Nat) (E : Array Value) : Prop := w.heap[q]? = some (.cells E 28 (0, 0)) ∧ E.size = 70
theorem En1.below {w w' : World} {g : Nat} {E : Array Value} (h : En1 w g E) (hb : Below w.heap.size w w') : En1 w' g E := ⟨(hb.block g (Array.getElem?_eq_some_iff.1 h.1).1).trans h.1, h.2⟩
theorem ldEn {w : World} {g : Nat} {E : Array Value} (h : En1 w g E) : (Instr.loadAt 28 (.pointer (some ⟨g, 0, none⟩))).run Tryz.prog w = .ok (.agg E) w := by
  have hl := run_loadVar_row (P := Tryz.prog) w g 28 28 E (0, 0) _ h.1 Tryz.underlying28 (by rfl) (by rw [h.2]; kernel_rfl)
  simp [Instr.loadAt, Instr.sureAddr, hl]
theorem ldSl {w : World} {b o : Nat} {v : Value} (h1 : w.cell? ⟨b, o, none⟩ = some v) : (Instr.loadAt 26 (.pointer (some ⟨b, o, none⟩))).run Tryz.prog w = .ok v w := by
  simp [Instr.loadAt, Instr.sureAddr, go_sem, h1]
set_option maxHeartbeats 8000000 in
set_option maxRecDepth 100000 in
theorem check_y {E : Array Value} (hE : E.size = 70) {g : Nat} {t : List Int} (h69 : E[69]? = some (.slice (some ⟨g, 0, none⟩) 1 1)) (hown : ∀ w, Calls Tryz.prog 50 #[.agg E] w fun e w' => e = .returned (.agg E) ∧ Below w.heap.size w w')
    (heq : ∀ w, Sg1 w g t → Calls Tryz.prog 49 #[.agg E, .agg E] w fun e w' => e = .returned (.bool true) ∧ Below w.heap.size w w')
    (hbody : ∀ w, Calls Tryz.prog 51 #[.agg E] w fun e w' => e = .returned (.bool true) ∧ Below w.heap.size w w')
    (hare : ∀ w, Sg1 w g t → Calls Tryz.prog 52 #[(.slice (some ⟨g, 0, none⟩) 1 1)] w fun e w' => e = .returned (.bool true) ∧ Below w.heap.size w w') {w : World} (hg : Sg1 w g t) :
    Calls Tryz.prog 27 #[.agg E] w fun e w' => e = .returned (.nilIface) ∧ Below w.heap.size w w' := by
  obtain ⟨wb, hwb⟩ : ∃ wb, wb = w.alloc (.cells E 28) := ⟨_, rfl⟩
  have bb : Below w.heap.size w wb := by rw [hwb]; exact below_na _
  have hb := heap_na w E 28
  rw [← hwb] at hb
  replace hg := hide1 (hg.below bb)
  have hx : Hid (En1 wb w.heap.size E) := hide1 ⟨hb, hE⟩
  have hl : Hid (∀ wa, Below wb.heap.size wb wa → wa.cell? ⟨w.heap.size, 69, none⟩ = some (.slice (some ⟨g, 0, none⟩) 1 1)) := hide1 fun wa hwa => cell_of 69 ((hwa.block _ (Array.getElem?_eq_some_iff.1 hb).1).trans hb) h69
  replace bb := hide1 bb
  replace hown := hide1 hown
  replace heq := hide1 heq
  replace hbody := hide1 hbody
  replace hare := hide1 hare
  clear hb h69 hE
  go_enter Tryz.func27, Tryz.ntmps27
  go_upto_region 1 with fail
  rw [← hwb]
  clear hwb
  refine wp_flowG 15 _ _ (by kernel_rfl) (by kernel_rfl) (by kernel_rfl) rfl (fun j v _ => v = ([(.agg E), (.agg E), (.agg E), (.bool true), (.bool false), (.bool false), (.agg E), (.bool true), (.bool false), (.bool false), (.bool false), (.pointer (some ⟨w.heap.size, 69, none⟩)), (.slice (some ⟨g, 0, none⟩) 1 1), (.bool true), (.bool false), (.bool false)] : List Value).getD j undef) (fun _ _ _ _ h _ => h) ?_ ?_
  · intro j op hop hj a wa hwa hsz hsl hdep K hK
    match j, hop with
    | 0, hop =>
      obtain rfl := Option.some.inj hop
      have p1 : a.tmps.getD 1 undef = (.pointer (some ⟨w.heap.size, 0, none⟩)) := hsl 1 rfl
      exact .plain rfl (wp_val (w' := wa) (v := (.agg E)) (by simp only [execOp, Act.eval]; rw [show a.tmps.getD 1 undef = _ from p1]; simp only [Sem.run_bind, ldEn (hx.out.below hwa), Result.andThen_ok, Sem.run_pure]) (hK _ _ (Below.refl _ _) rfl))
    | 1, hop =>
      obtain rfl := Option.some.inj hop
      have p1 : a.tmps.getD 1 undef = (.pointer (some ⟨w.heap.size, 0, none⟩)) := hsl 1 rfl
      exact .plain rfl (wp_val (w' := wa) (v := (.agg E)) (by simp only [execOp, Act.eval]; rw [show a.tmps.getD 1 undef = _ from p1]; simp only [Sem.run_bind, ldEn (hx.out.below hwa), Result.andThen_ok, Sem.run_pure]) (hK _ _ (Below.refl _ _) rfl))
    | 2, hop =>
      obtain rfl := Option.some.inj hop
      have t1 : a.tmps.getD 4 undef = (.agg E) := hdep 1 _ 4 rfl rfl ⟨⟨1, .data⟩, by simp, rfl, rfl⟩
      refine .plain rfl (oper_any (J := fun r w' => r = (.agg E) ∧ Below wa.heap.size wa w') 50 #[.tmp 4] _ rfl #[(.agg E)] (by simp only [List.map_toArray, List.map_cons, List.map_nil, Act.eval]; rw [show a.tmps.getD 4 undef = _ from t1]) (fun w => by kernel_rfl) ((hown.out wa).mono fun e w' h => ⟨_, h.1, rfl, h.2⟩) ?_)
      rintro r w' ⟨rfl, hb⟩
      exact hK _ _ hb rfl
    | 3, hop =>
      obtain rfl := Option.some.inj hop
      have t0 : a.tmps.getD 3 undef = (.agg E) := hdep 0 _ 3 rfl rfl ⟨⟨0, .data⟩, by simp, rfl, rfl⟩
      have t2 : a.tmps.getD 5 undef = (.agg E) := hdep 2 _ 5 rfl rfl ⟨⟨2, .data⟩, by simp, rfl, rfl⟩
      refine .plain rfl (oper_any (J := fun r w' => r = (.bool true) ∧ Below wa.heap.size wa w') 49 #[.tmp 3, .tmp 5] _ rfl #[(.agg E), (.agg E)] (by simp only [List.map_toArray, List.map_cons, List.map_nil, Act.eval]; rw [show a.tmps.getD 3 undef = _ from t0, show a.tmps.getD 5 undef = _ from t2]) (fun w => by kernel_rfl) ((heq.out wa (hg.out.below hwa)).mono fun e w' h => ⟨_, h.1, rfl, h.2⟩) ?_)
      rintro r w' ⟨rfl, hb⟩
      exact hK _ _ hb rfl
    | 4, hop =>
      obtain rfl := Option.some.inj hop
      have t3 : a.tmps.getD 6 undef = (.bool true) := hdep 3 _ 6 rfl rfl ⟨⟨3, .data⟩, by simp, rfl, rfl⟩
      exact .plain rfl (wp_val (w' := wa) (v := (.bool false)) (by simp only [execOp, Act.eval]; rw [show a.tmps.getD 6 undef = _ from t3]; kernel_rfl) (hK _ _ (Below.refl _ _) rfl))
    | 5, hop =>
      obtain rfl := Option.some.inj hop
      have t4 : a.tmps.getD 7 undef = (.bool false) := hdep 4 _ 7 rfl rfl ⟨⟨4, .data⟩, by simp, rfl, rfl⟩
      exact .plain rfl (wp_val (w' := wa) (v := (.bool false)) (by simp only [execOp, Act.eval]; rw [show a.tmps.getD 7 undef = _ from t4]; rfl) (hK _ _ (Below.refl _ _) rfl))
    | 6, hop =>
      obtain rfl := Option.some.inj hop
      have gg : a.tmps.getD 8 undef = (.bool false) := hdep 5 _ 8 rfl rfl ⟨⟨5, .guard⟩, by simp, rfl, rfl⟩
      have p1 : a.tmps.getD 1 undef = (.pointer (some ⟨w.heap.size, 0, none⟩)) := hsl 1 rfl
      exact .want rfl rfl (by rw [hsz]; simp) gg (wp_val (w' := wa) (v := (.agg E)) (by simp only [execOp, Act.eval]; rw [show a.tmps.getD 1 undef = _ from p1]; simp only [Sem.run_bind, ldEn (hx.out.below hwa), Result.andThen_ok, Sem.run_pure]) (hK _ _ (Below.refl _ _) rfl))
    | 7, hop =>
      obtain rfl := Option.some.inj hop
      have gg : a.tmps.getD 8 undef = (.bool false) := hdep 5 _ 8 rfl rfl ⟨⟨5, .guard⟩, by simp, rfl, rfl⟩
      have t6 : a.tmps.getD 9 undef = (.agg E) := hdep 6 _ 9 rfl rfl ⟨⟨6, .data⟩, by simp, rfl, rfl⟩
      refine .want rfl rfl (by rw [hsz]; simp) gg (oper_any (J := fun r w' => r = (.bool true) ∧ Below wa.heap.size wa w') 51 #[.tmp 9] _ rfl #[(.agg E)] (by simp only [List.map_toArray, List.map_cons, List.map_nil, Act.eval]; rw [show a.tmps.getD 9 undef = _ from t6]) (fun w => by kernel_rfl) ((hbody.out wa).mono fun e w' h => ⟨_, h.1, rfl, h.2⟩) ?_)
      rintro r w' ⟨rfl, hb⟩
      exact hK _ _ hb rfl
    | 8, hop =>
      obtain rfl := Option.some.inj hop
      have gg : a.tmps.getD 8 undef = (.bool false) := hdep 5 _ 8 rfl rfl ⟨⟨5, .guard⟩, by simp, rfl, rfl⟩
      have t7 : a.tmps.getD 10 undef = (.bool true) := hdep 7 _ 10 rfl rfl ⟨⟨7, .data⟩, by simp, rfl, rfl⟩
      exact .want rfl rfl (by rw [hsz]; simp) gg (wp_val (w' := wa) (v := (.bool false)) (by simp only [execOp, Act.eval]; rw [show a.tmps.getD 10 undef = _ from t7]; kernel_rfl) (hK _ _ (Below.refl _ _) rfl))
    | 9, hop =>
      obtain rfl := Option.some.inj hop
      have t5 : a.tmps.getD 8 undef = (.bool false) := hdep 5 _ 8 rfl rfl ⟨⟨5, .data⟩, by simp, rfl, rfl⟩
      have t8 : a.tmps.getD 11 undef = (.bool false) := hdep 8 _ 11 rfl rfl ⟨⟨8, .data⟩, by simp, rfl, rfl⟩
      exact .plain rfl (wp_val (w' := wa) (v := (.bool false)) (by simp only [execOp, Act.eval]; rw [show a.tmps.getD 8 undef = _ from t5, show a.tmps.getD 11 undef = _ from t8]; rfl) (hK _ _ (Below.refl _ _) rfl))
    | 10, hop =>
      obtain rfl := Option.some.inj hop
      have t9 : a.tmps.getD 12 undef = (.bool false) := hdep 9 _ 12 rfl rfl ⟨⟨9, .data⟩, by simp, rfl, rfl⟩
      exact .plain rfl (wp_val (w' := wa) (v := (.bool false)) (by simp only [execOp, Act.eval]; rw [show a.tmps.getD 12 undef = _ from t9]; rfl) (hK _ _ (Below.refl _ _) rfl))
    | 11, hop =>
      obtain rfl := Option.some.inj hop
      have gg : a.tmps.getD 13 undef = (.bool false) := hdep 10 _ 13 rfl rfl ⟨⟨10, .guard⟩, by simp, rfl, rfl⟩
      have p1 : a.tmps.getD 1 undef = (.pointer (some ⟨w.heap.size, 0, none⟩)) := hsl 1 rfl
      exact .want rfl rfl (by rw [hsz]; simp) gg (wp_val (w' := wa) (v := (.pointer (some ⟨w.heap.size, 69, none⟩))) (by simp only [execOp, Act.eval]; rw [show a.tmps.getD 1 undef = _ from p1]; kernel_rfl) (hK _ _ (Below.refl _ _) rfl))
    | 12, hop =>
      obtain rfl := Option.some.inj hop
      have gg : a.tmps.getD 13 undef = (.bool false) := hdep 10 _ 13 rfl rfl ⟨⟨10, .guard⟩, by simp, rfl, rfl⟩
      have t11 : a.tmps.getD 14 undef = (.pointer (some ⟨w.heap.size, 69, none⟩)) := hdep 11 _ 14 rfl rfl ⟨⟨11, .data⟩, by simp, rfl, rfl⟩
      exact .want rfl rfl (by rw [hsz]; simp) gg (wp_val (w' := wa) (v := (.slice (some ⟨g, 0, none⟩) 1 1)) (by simp only [execOp, Act.eval]; rw [show a.tmps.getD 14 undef = _ from t11]; simp only [Sem.run_bind, ldSl (hl.out wa hwa), Result.andThen_ok, Sem.run_pure]) (hK _ _ (Below.refl _ _) rfl))
    | 13, hop =>
      obtain rfl := Option.some.inj hop
      have gg : a.tmps.getD 13 undef = (.bool false) := hdep 10 _ 13 rfl rfl ⟨⟨10, .guard⟩, by simp, rfl, rfl⟩
      have t12 : a.tmps.getD 15 undef = (.slice (some ⟨g, 0, none⟩) 1 1) := hdep 12 _ 15 rfl rfl ⟨⟨12, .data⟩, by simp, rfl, rfl⟩
      refine .want rfl rfl (by rw [hsz]; simp) gg (oper_any (J := fun r w' => r = (.bool true) ∧ Below wa.heap.size wa w') 52 #[.tmp 15] _ rfl #[(.slice (some ⟨g, 0, none⟩) 1 1)] (by simp only [List.map_toArray, List.map_cons, List.map_nil, Act.eval]; rw [show a.tmps.getD 15 undef = _ from t12]) (fun w => by kernel_rfl) ((hare.out wa (hg.out.below hwa)).mono fun e w' h => ⟨_, h.1, rfl, h.2⟩) ?_)
      rintro r w' ⟨rfl, hb⟩
      exact hK _ _ hb rfl
    | 14, hop =>
      obtain rfl := Option.some.inj hop
      have gg : a.tmps.getD 13 undef = (.bool false) := hdep 10 _ 13 rfl rfl ⟨⟨10, .guard⟩, by simp, rfl, rfl⟩
      have t13 : a.tmps.getD 16 undef = (.bool true) := hdep 13 _ 16 rfl rfl ⟨⟨13, .data⟩, by simp, rfl, rfl⟩
      exact .want rfl rfl (by rw [hsz]; simp) gg (wp_val (w' := wa) (v := (.bool false)) (by simp only [execOp, Act.eval]; rw [show a.tmps.getD 16 undef = _ from t13]; kernel_rfl) (hK _ _ (Below.refl _ _) rfl))
    | 15, _ => exact absurd rfl hj
    | _ + 16, hop => exact absurd hop (by simp)
  · intro a wa hwa hdf hsz hsl hrr K hK
    have t10 : a.tmps.getD 13 undef = (.bool false) := hrr 10 _ 13 rfl (by decide) rfl
    have t14 : a.tmps.getD 17 undef = (.bool false) := hrr 14 _ 17 rfl (by decide) rfl
    refine .plain rfl (wp_val (w' := wa) (v := (.bool false)) (by simp only [execOp, Act.eval]; rw [show a.tmps.getD 13 undef = _ from t10, show a.tmps.getD 17 undef = _ from t14]; rfl) ?_)
    refine hK _ wa ?_
    have hact := act_puts hdf hsz hsl
    clear hrr hsl hdf hsz hK t10 t14
    simp only [List.filterMap_cons, List.filterMap_nil, List.foldl_cons, List.foldl_nil] at hact
    rw [hact]
    generalize a.tmps.getD 3 undef = y3
    generalize a.tmps.getD 4 undef = y4
    generalize a.tmps.getD 5 undef = y5
    generalize a.tmps.getD 6 undef = y6
    generalize a.tmps.getD 7 undef = y7
    generalize a.tmps.getD 8 undef = y8
    generalize a.tmps.getD 9 undef = y9
    generalize a.tmps.getD 10 undef = y10
    generalize a.tmps.getD 11 undef = y11
    generalize a.tmps.getD 12 undef = y12
    generalize a.tmps.getD 13 undef = y13
    generalize a.tmps.getD 14 undef = y14
    generalize a.tmps.getD 15 undef = y15
    generalize a.tmps.getD 16 undef = y16
    generalize a.tmps.getD 17 undef = y17
    clear hact
    simp only [Act.put, List.setIfInBounds_toArray, List.set_cons_succ, List.set_cons_zero]
    have hfin := hide1 (bb.out.trans (hwa.mono bb.out.size))
    clear hwa hx hl hown heq hbody hare
    go_wp2
    go_ret
    exact ⟨rfl, hfin.out⟩
set_option maxHeartbeats 8000000 in
set_option maxRecDepth 100000 in
theorem check_n {E : Array Value} (hE : E.size = 70) {g : Nat} {t : List Int} (h69 : E[69]? = some (.slice (some ⟨g, 0, none⟩) 1 1)) (hown : ∀ w, Calls Tryz.prog 50 #[.agg E] w fun e w' => e = .returned (.agg E) ∧ Below w.heap.size w w')
    (heq : ∀ w, Sg1 w g t → Calls Tryz.prog 49 #[.agg E, .agg E] w fun e w' => e = .returned (.bool true) ∧ Below w.heap.size w w')
    (hbody : ∀ w, Calls Tryz.prog 51 #[.agg E] w fun e w' => e = .returned (.bool false) ∧ Below w.heap.size w w')
    (hare : ∀ w, Sg1 w g t → Calls Tryz.prog 52 #[(.slice (some ⟨g, 0, none⟩) 1 1)] w fun e w' => e = .returned (.bool true) ∧ Below w.heap.size w w') {w : World} (hg : Sg1 w g t) :
    Calls Tryz.prog 27 #[.agg E] w fun e w' => e = .returned (.iface 42 (.int .i64 11)) ∧ Below w.heap.size w w' := by
  obtain ⟨wb, hwb⟩ : ∃ wb, wb = w.alloc (.cells E 28) := ⟨_, rfl⟩
  have bb : Below w.heap.size w wb := by rw [hwb]; exact below_na _
  have hb := heap_na w E 28
  rw [← hwb] at hb
  replace hg := hide1 (hg.below bb)
  have hx : Hid (En1 wb w.heap.size E) := hide1 ⟨hb, hE⟩
  have hl : Hid (∀ wa, Below wb.heap.size wb wa → wa.cell? ⟨w.heap.size, 69, none⟩ = some (.slice (some ⟨g, 0, none⟩) 1 1)) := hide1 fun wa hwa => cell_of 69 ((hwa.block _ (Array.getElem?_eq_some_iff.1 hb).1).trans hb) h69
  replace bb := hide1 bb
  replace hown := hide1 hown
  replace heq := hide1 heq
  replace hbody := hide1 hbody
  replace hare := hide1 hare
  clear hb h69 hE
  go_enter Tryz.func27, Tryz.ntmps27
  go_upto_region 1 with fail
  rw [← hwb]
  clear hwb
  refine wp_flowG 15 _ _ (by kernel_rfl) (by kernel_rfl) (by kernel_rfl) rfl (fun j v _ => v = ([(.agg E), (.agg E), (.agg E), (.bool true), (.bool false), (.bool false), (.agg E), (.bool false), (.bool true), (.bool true), (.bool true), undef, undef, undef, undef, (.bool true)] : List Value).getD j undef) (fun _ _ _ _ h _ => h) ?_ ?_
  · intro j op hop hj a wa hwa hsz hsl hdep K hK
    match j, hop with
    | 0, hop =>
      obtain rfl := Option.some.inj hop
      have p1 : a.tmps.getD 1 undef = (.pointer (some ⟨w.heap.size, 0, none⟩)) := hsl 1 rfl
      exact .plain rfl (wp_val (w' := wa) (v := (.agg E)) (by simp only [execOp, Act.eval]; rw [show a.tmps.getD 1 undef = _ from p1]; simp only [Sem.run_bind, ldEn (hx.out.below hwa), Result.andThen_ok, Sem.run_pure]) (hK _ _ (Below.refl _ _) rfl))
    | 1, hop =>
      obtain rfl := Option.some.inj hop
      have p1 : a.tmps.getD 1 undef = (.pointer (some ⟨w.heap.size, 0, none⟩)) := hsl 1 rfl
      exact .plain rfl (wp_val (w' := wa) (v := (.agg E)) (by simp only [execOp, Act.eval]; rw [show a.tmps.getD 1 undef = _ from p1]; simp only [Sem.run_bind, ldEn (hx.out.below hwa), Result.andThen_ok, Sem.run_pure]) (hK _ _ (Below.refl _ _) rfl))
    | 2, hop =>
      obtain rfl := Option.some.inj hop
      have t1 : a.tmps.getD 4 undef = (.agg E) := hdep 1 _ 4 rfl rfl ⟨⟨1, .data⟩, by simp, rfl, rfl⟩
      refine .plain rfl (oper_any (J := fun r w' => r = (.agg E) ∧ Below wa.heap.size wa w') 50 #[.tmp 4] _ rfl #[(.agg E)] (by simp only [List.map_toArray, List.map_cons, List.map_nil, Act.eval]; rw [show a.tmps.getD 4 undef = _ from t1]) (fun w => by kernel_rfl) ((hown.out wa).mono fun e w' h => ⟨_, h.1, rfl, h.2⟩) ?_)
      rintro r w' ⟨rfl, hb⟩
      exact hK _ _ hb rfl
    | 3, hop =>
      obtain rfl := Option.some.inj hop
      have t0 : a.tmps.getD 3 undef = (.agg E) := hdep 0 _ 3 rfl rfl ⟨⟨0, .data⟩, by simp, rfl, rfl⟩
      have t2 : a.tmps.getD 5 undef = (.agg E) := hdep 2 _ 5 rfl rfl ⟨⟨2, .data⟩, by simp, rfl, rfl⟩
      refine .plain rfl (oper_any (J := fun r w' => r = (.bool true) ∧ Below wa.heap.size wa w') 49 #[.tmp 3, .tmp 5] _ rfl #[(.agg E), (.agg E)] (by simp only [List.map_toArray, List.map_cons, List.map_nil, Act.eval]; rw [show a.tmps.getD 3 undef = _ from t0, show a.tmps.getD 5 undef = _ from t2]) (fun w => by kernel_rfl) ((heq.out wa (hg.out.below hwa)).mono fun e w' h => ⟨_, h.1, rfl, h.2⟩) ?_)
      rintro r w' ⟨rfl, hb⟩
      exact hK _ _ hb rfl
    | 4, hop =>
      obtain rfl := Option.some.inj hop
      have t3 : a.tmps.getD 6 undef = (.bool true) := hdep 3 _ 6 rfl rfl ⟨⟨3, .data⟩, by simp, rfl, rfl⟩
      exact .plain rfl (wp_val (w' := wa) (v := (.bool false)) (by simp only [execOp, Act.eval]; rw [show a.tmps.getD 6 undef = _ from t3]; kernel_rfl) (hK _ _ (Below.refl _ _) rfl))
    | 5, hop =>
      obtain rfl := Option.some.inj hop
      have t4 : a.tmps.getD 7 undef = (.bool false) := hdep 4 _ 7 rfl rfl ⟨⟨4, .data⟩, by simp, rfl, rfl⟩
      exact .plain rfl (wp_val (w' := wa) (v := (.bool false)) (by simp only [execOp, Act.eval]; rw [show a.tmps.getD 7 undef = _ from t4]; rfl) (hK _ _ (Below.refl _ _) rfl))
    | 6, hop =>
      obtain rfl := Option.some.inj hop
      have gg : a.tmps.getD 8 undef = (.bool false) := hdep 5 _ 8 rfl rfl ⟨⟨5, .guard⟩, by simp, rfl, rfl⟩
      have p1 : a.tmps.getD 1 undef = (.pointer (some ⟨w.heap.size, 0, none⟩)) := hsl 1 rfl
      exact .want rfl rfl (by rw [hsz]; simp) gg (wp_val (w' := wa) (v := (.agg E)) (by simp only [execOp, Act.eval]; rw [show a.tmps.getD 1 undef = _ from p1]; simp only [Sem.run_bind, ldEn (hx.out.below hwa), Result.andThen_ok, Sem.run_pure]) (hK _ _ (Below.refl _ _) rfl))
    | 7, hop =>
      obtain rfl := Option.some.inj hop
      have gg : a.tmps.getD 8 undef = (.bool false) := hdep 5 _ 8 rfl rfl ⟨⟨5, .guard⟩, by simp, rfl, rfl⟩
      have t6 : a.tmps.getD 9 undef = (.agg E) := hdep 6 _ 9 rfl rfl ⟨⟨6, .data⟩, by simp, rfl, rfl⟩
      refine .want rfl rfl (by rw [hsz]; simp) gg (oper_any (J := fun r w' => r = (.bool false) ∧ Below wa.heap.size wa w') 51 #[.tmp 9] _ rfl #[(.agg E)] (by simp only [List.map_toArray, List.map_cons, List.map_nil, Act.eval]; rw [show a.tmps.getD 9 undef = _ from t6]) (fun w => by kernel_rfl) ((hbody.out wa).mono fun e w' h => ⟨_, h.1, rfl, h.2⟩) ?_)
      rintro r w' ⟨rfl, hb⟩
      exact hK _ _ hb rfl
    | 8, hop =>
      obtain rfl := Option.some.inj hop
      have gg : a.tmps.getD 8 undef = (.bool false) := hdep 5 _ 8 rfl rfl ⟨⟨5, .guard⟩, by simp, rfl, rfl⟩
      have t7 : a.tmps.getD 10 undef = (.bool false) := hdep 7 _ 10 rfl rfl ⟨⟨7, .data⟩, by simp, rfl, rfl⟩
      exact .want rfl rfl (by rw [hsz]; simp) gg (wp_val (w' := wa) (v := (.bool true)) (by simp only [execOp, Act.eval]; rw [show a.tmps.getD 10 undef = _ from t7]; kernel_rfl) (hK _ _ (Below.refl _ _) rfl))
    | 9, hop =>
      obtain rfl := Option.some.inj hop
      have t5 : a.tmps.getD 8 undef = (.bool false) := hdep 5 _ 8 rfl rfl ⟨⟨5, .data⟩, by simp, rfl, rfl⟩
      have t8 : a.tmps.getD 11 undef = (.bool true) := hdep 8 _ 11 rfl rfl ⟨⟨8, .data⟩, by simp, rfl, rfl⟩
      exact .plain rfl (wp_val (w' := wa) (v := (.bool true)) (by simp only [execOp, Act.eval]; rw [show a.tmps.getD 8 undef = _ from t5, show a.tmps.getD 11 undef = _ from t8]; rfl) (hK _ _ (Below.refl _ _) rfl))
    | 10, hop =>
      obtain rfl := Option.some.inj hop
      have t9 : a.tmps.getD 12 undef = (.bool true) := hdep 9 _ 12 rfl rfl ⟨⟨9, .data⟩, by simp, rfl, rfl⟩
      exact .plain rfl (wp_val (w' := wa) (v := (.bool true)) (by simp only [execOp, Act.eval]; rw [show a.tmps.getD 12 undef = _ from t9]; rfl) (hK _ _ (Below.refl _ _) rfl))
    | 11, hop =>
      obtain rfl := Option.some.inj hop
      have gg : a.tmps.getD 13 undef = (.bool true) := hdep 10 _ 13 rfl rfl ⟨⟨10, .guard⟩, by simp, rfl, rfl⟩
      exact .skip rfl rfl (by rw [hsz]; simp) gg (hK _ _ (Below.refl _ _) rfl)
    | 12, hop =>
      obtain rfl := Option.some.inj hop
      have gg : a.tmps.getD 13 undef = (.bool true) := hdep 10 _ 13 rfl rfl ⟨⟨10, .guard⟩, by simp, rfl, rfl⟩
      exact .skip rfl rfl (by rw [hsz]; simp) gg (hK _ _ (Below.refl _ _) rfl)
    | 13, hop =>
      obtain rfl := Option.some.inj hop
      have gg : a.tmps.getD 13 undef = (.bool true) := hdep 10 _ 13 rfl rfl ⟨⟨10, .guard⟩, by simp, rfl, rfl⟩
      exact .skip rfl rfl (by rw [hsz]; simp) gg (hK _ _ (Below.refl _ _) rfl)
    | 14, hop =>
      obtain rfl := Option.some.inj hop
      have gg : a.tmps.getD 13 undef = (.bool true) := hdep 10 _ 13 rfl rfl ⟨⟨10, .guard⟩, by simp, rfl, rfl⟩
      exact .skip rfl rfl (by rw [hsz]; simp) gg (hK _ _ (Below.refl _ _) rfl)
    | 15, _ => exact absurd rfl hj
    | _ + 16, hop => exact absurd hop (by simp)
  · intro a wa hwa hdf hsz hsl hrr K hK
    have t10 : a.tmps.getD 13 undef = (.bool true) := hrr 10 _ 13 rfl (by decide) rfl
    have t14 : a.tmps.getD 17 undef = undef := hrr 14 _ 17 rfl (by decide) rfl
    refine .plain rfl (wp_val (w' := wa) (v := (.bool true)) (by simp only [execOp, Act.eval]; rw [show a.tmps.getD 13 undef = _ from t10, show a.tmps.getD 17 undef = _ from t14]; rfl) ?_)
    refine hK _ wa ?_
    have hact := act_puts hdf hsz hsl
    clear hrr hsl hdf hsz hK t10 t14
    simp only [List.filterMap_cons, List.filterMap_nil, List.foldl_cons, List.foldl_nil] at hact
    rw [hact]
    generalize a.tmps.getD 3 undef = y3
    generalize a.tmps.getD 4 undef = y4
    generalize a.tmps.getD 5 undef = y5
    generalize a.tmps.getD 6 undef = y6
    generalize a.tmps.getD 7 undef = y7
    generalize a.tmps.getD 8 undef = y8
    generalize a.tmps.getD 9 undef = y9
    generalize a.tmps.getD 10 undef = y10
    generalize a.tmps.getD 11 undef = y11
    generalize a.tmps.getD 12 undef = y12
    generalize a.tmps.getD 13 undef = y13
    generalize a.tmps.getD 14 undef = y14
    generalize a.tmps.getD 15 undef = y15
    generalize a.tmps.getD 16 undef = y16
    generalize a.tmps.getD 17 undef = y17
    clear hact
    simp only [Act.put, List.setIfInBounds_toArray, List.set_cons_succ, List.set_cons_zero]
    have hfin := hide1 (bb.out.trans (hwa.mono bb.out.size))
    clear hwa hx hl hown heq hbody hare
    go_wp2
    go_ret
    exact ⟨rfl, hfin.out⟩
theorem check_1 {g : Nat} {w : World} (hg : Sg1 w g alc) : Calls Tryz.prog 27 #[.agg (entA 1 0 [] (.slice (some ⟨g, 0, none⟩) 1 1))] w fun e w' => e = .returned .nilIface ∧ Below w.heap.size w w' :=
  check_y rfl rfl (own_1 _ _ _) (fun _ h => equal_e tld_a h) (body_1 _) (fun _ h => sigs_are (by unfold Byt alc; decide) (by decide) (by decide) h) hg
theorem check_4 {g : Nat} {s : List Int} (hz : Byt s) (hm : s.length ≤ 1000000) {w : World} (hg : Sg1 w g []) : Calls Tryz.prog 27 #[.agg (entA 4 3 s (.slice (some ⟨g, 0, none⟩) 1 1))] w fun e w' => e = .returned (if nmd s then .nilIface else .iface 42 (.int .i64 11)) ∧ Below w.heap.size w w' := by
  have hb := fun w => body_4 s hz hm (.slice (some ⟨g, 0, none⟩) 1 1) w
  cases h : nmd s with
  | true =>
    rw [h] at hb
    exact check_y rfl rfl (own_4 _ _ _ _) (fun _ h => equal_e tld_n h) hb (fun _ h => sigs_are (by simp [Byt]) (by simp) (by decide) h) hg
  | false =>
    rw [h] at hb
    exact check_n rfl rfl (own_4 _ _ _ _) (fun _ h => equal_e tld_n h) hb (fun _ h => sigs_are (by simp [Byt]) (by simp) (by decide) h) hg
theorem calls_as {P : Program} {n : Nat} {a a' : Array Value} {w w' : World} {Q : Ending → World → Prop} (ha : a = a') (hw : w = w') (h : Calls P n a' w' Q) : Calls P n a w Q := by subst ha; subst hw; exact h
set_option maxHeartbeats 4000000 in
set_option maxRecDepth 100000 in
theorem isName_k {s : List Int} (hz : Byt s) (hm : s.length ≤ 1000000) (w : World) : Calls Tryz.prog 41 #[.string (strOfNums s)] w fun e w' => e = .returned (.bool (nmd s)) ∧ Below w.heap.size w w' := by
  have hg : Sg1 (w.alloc (.cells (sgC []).toArray 53)) w.heap.size [] := heap_na _ _ _
  have hb : Below w.heap.size w (w.alloc (.cells (sgC []).toArray 53)) := below_na _
  have hck := check_4 hz hm hg
  generalize hX : nmd s = X at *
  generalize hS : strOfNums s = S at *
  go_enter Tryz.func41, Tryz.ntmps41
  go_wp2_with fail
  refine calls_as (a' := #[.agg (entA 4 3 s (.slice (some ⟨w.heap.size, 0, none⟩) 1 1))]) (w' := w.alloc (.cells (sgC []).toArray 53)) (by rw [← hS]; kernel_rfl) (by kernel_rfl) ?_
  refine hck.mono ?_
  generalize w.alloc (.cells (sgC []).toArray 53) = w1 at *
  rintro e w2 ⟨rfl, b2⟩
  cases X <;>
  · go_wp2
    go_ret
    exact ⟨rfl, hb.trans (b2.mono hb.size)⟩
def idP : List Int := [105, 100, 58]
def shP : List Int := [115, 104, 97, 50, 53, 54, 58]
def kyP : List Int := [107, 101, 121, 58]
def fgs (zs : List Int) : Bool := (fx 32 (ga4 .z zs)).isSome
def kIs (zs : List Int) : Bool := if idP.isPrefixOf zs then nmd (zs.drop 3) else if shP.isPrefixOf zs then fgs (zs.drop 7) else kyP.isPrefixOf zs && fgs (zs.drop 4)
theorem u8_inj {a b : Int} (ha : 0 ≤ a ∧ a < 256) (hb : 0 ≤ b ∧ b < 256) (h : UInt8.ofNat a.toNat = UInt8.ofNat b.toNat) : a = b := by
  have := congrArg UInt8.toNat h
  simp only [UInt8.toNat_ofNat'] at this
  omega
theorem pre_map : ∀ {p zs : List Int}, Byt p → Byt zs → (p.map fun n => UInt8.ofNat n.toNat).isPrefixOf (zs.map fun n => UInt8.ofNat n.toNat) = p.isPrefixOf zs
  | [], _, _, _ => by simp
  | _ :: _, [], _, _ => rfl
  | a :: p, b :: zs, hp, hz => by
    have ih := pre_map (p := p) (zs := zs) (fun z h => hp z (by simp [h])) (fun z h => hz z (by simp [h]))
    have e : (UInt8.ofNat a.toNat == UInt8.ofNat b.toNat) = (a == b) := by
      by_cases e : a = b
      · subst e; rw [beq_self_eq_true, beq_self_eq_true]
      · have : UInt8.ofNat a.toNat ≠ UInt8.ofNat b.toNat := fun h => e (u8_inj (hp a (by simp)) (hz b (by simp)) h)
        rw [beq_eq_false_iff_ne.2 this, beq_eq_false_iff_ne.2 e]
    show ((UInt8.ofNat a.toNat == UInt8.ofNat b.toNat) && (p.map fun n => UInt8.ofNat n.toNat).isPrefixOf (zs.map fun n => UInt8.ofNat n.toNat)) = ((a == b) && p.isPrefixOf zs)
    rw [e, ih]
theorem str_of_map {l : List UInt8} {m : List Int} (h : l = m.map (fun n => UInt8.ofNat n.toNat)) : (⟨l.toArray⟩ : ByteArray) = strOfNums m := by
  apply ByteArray.ext
  apply Array.ext'
  rw [strOfNums_data, h]
theorem cut_d {p zs : List Int} (hp : Byt p) (hz : Byt zs) (w : World) : Calls Tryz.prog 40 #[.string (strOfNums zs), .string (strOfNums p)] w fun e w' => e = .returned (.tuple #[.string (strOfNums (if p.isPrefixOf zs then zs.drop p.length else zs)), .bool (p.isPrefixOf zs)]) ∧ w' = w := by
  have h := strings_CutPrefix (strOfNums zs) (strOfNums p) w
  have h1 : Lib.hasPrefix (strOfNums zs).data.toList (strOfNums p).data.toList = p.isPrefixOf zs := by
    unfold Lib.hasPrefix
    rw [strOfNums_data, strOfNums_data, pre_map hp hz]
  have h2 : (⟨(Lib.trimPrefix (strOfNums zs).data.toList (strOfNums p).data.toList).toArray⟩ : ByteArray) = strOfNums (if p.isPrefixOf zs then zs.drop p.length else zs) := by
    apply str_of_map
    unfold Lib.trimPrefix
    rw [h1, strOfNums_data, strOfNums_data, List.length_map]
    split
    · rw [List.map_drop]
    · rfl
  rw [h1, h2] at h
  exact h
theorem fx_len2 {n : Nat} {o : Option (List Int)} {l : List Int} (h : fx n o = some l) : l.length = n := by
  rcases o with _ | m
  · cases h
  · unfold fx at h
    simp only at h
    split at h
    · rename_i e; cases h; exact e
    · cases h
theorem byt_drop {zs : List Int} (h : Byt zs) (k : Nat) : Byt (zs.drop k) := fun z hz => h z (List.mem_of_mem_drop hz)
set_option maxHeartbeats 4000000 in
set_option maxRecDepth 100000 in
theorem isFig_k {zs : List Int} (hz : Byt zs) (hm : zs.length ≤ 1000000) (w : World) : Calls Tryz.prog 42 #[.string (strOfNums zs)] w fun e w' => e = .returned (.bool (fgs zs)) ∧ Below w.heap.size w w' := by
  have H := sum_d zs hz hm w
  obtain ⟨l, ev, hl, he, hv⟩ : ∃ (l : List Int) (ev : Value), l.length = 32 ∧ (∀ e, AnF 32 (fx 32 (ga4 .z zs)) e → e = .returned (.tuple #[.agg (bA l), ev])) ∧ ((ev = .nilIface ∧ fgs zs = true) ∨ (ev = .iface 42 (.int .i64 1) ∧ fgs zs = false)) := by
    unfold fgs
    cases h : fx 32 (ga4 .z zs) with
    | none => exact ⟨zL 32, _, by simp [zL], fun e h => h, .inr ⟨rfl, rfl⟩⟩
    | some l => exact ⟨l, _, fx_len2 h, fun e h => h, .inl ⟨rfl, rfl⟩⟩
  have hone : (bA l).all (·.oneCell') = true := by
    rw [Array.all_eq_true_iff_forall_mem]
    intro v hv
    exact bA_one l v (by simpa using hv)
  have hsz : (bA l).size = 32 := by rw [bA_size, hl]
  generalize fgs zs = X at *
  generalize strOfNums zs = S at *
  generalize bA l = A at *
  clear hl hz hm
  go_enter Tryz.func42, Tryz.ntmps42
  go_wp2_with fail
  refine H.mono ?_
  rintro e w1 ⟨h, b1⟩
  obtain rfl := he e h
  have ha := heap_na w1 (zC 32).toArray 23
  have hf := hide1 (bel_set (c' := A) (b1.trans ((below_na (w := w1) (.cells (zC 32).toArray 23)).mono b1.size)) b1.size)
  clear H he h b1
  rcases hv with ⟨rfl, rfl⟩ | ⟨rfl, rfl⟩
  all_goals
    go_wp2_with (first | (refine wpList_store_row rfl 23 (.tmp 3) (.tmp 8) rfl w1.heap.size A rfl rfl 23 _ ha (by rw [hsz]; kernel_rfl) (by rw [hsz]; rfl) hone ?_) | fail)
    go_ret
    exact ⟨rfl, hf.out⟩
set_option maxHeartbeats 4000000 in
set_option maxRecDepth 100000 in
theorem is_k {zs : List Int} (hz : Byt zs) (hm : zs.length ≤ 1000000) (w : World) : Calls Tryz.prog 17 #[.string (strOfNums zs)] w fun e w' => e = .returned (.bool (kIs zs)) ∧ Below w.heap.size w w' := by
  have h1 := cut_d (p := idP) (zs := zs) (by unfold Byt idP; decide) hz w
  have h2 := cut_d (p := shP) (zs := zs) (by unfold Byt shP; decide) hz w
  have h3 := cut_d (p := kyP) (zs := zs) (by unfold Byt kyP; decide) hz w
  have n1 := isName_k (byt_drop hz 3) (by rw [List.length_drop]; omega) w
  have n2 := isFig_k (byt_drop hz 7) (by rw [List.length_drop]; omega) w
  have n3 := isFig_k (byt_drop hz 4) (by rw [List.length_drop]; omega) w
  rw [show idP.length = 3 from rfl, show strOfNums idP = ⟨#[105, 100, 58]⟩ from rfl] at h1
  rw [show shP.length = 7 from rfl, show strOfNums shP = ⟨#[115, 104, 97, 50, 53, 54, 58]⟩ from rfl] at h2
  rw [show kyP.length = 4 from rfl, show strOfNums kyP = ⟨#[107, 101, 121, 58]⟩ from rfl] at h3
  unfold kIs
  generalize idP.isPrefixOf zs = a1 at *
  generalize shP.isPrefixOf zs = a2 at *
  generalize kyP.isPrefixOf zs = a3 at *
  generalize nmd (zs.drop 3) = X1 at *
  generalize fgs (zs.drop 7) = X2 at *
  generalize fgs (zs.drop 4) = X3 at *
  clear hz hm
  go_enter Tryz.func17, Tryz.ntmps17
  go_wp2_with fail
  refine h1.mono ?_
  rintro e w1 ⟨rfl, rfl⟩
  cases a1 with
  | true =>
    simp only [if_true]
    go_wp2_with fail
    refine n1.mono ?_
    rintro e w2 ⟨rfl, b2⟩
    go_wp2
    go_ret
    exact ⟨rfl, b2⟩
  | false =>
    simp only [Bool.false_eq_true, if_false]
    go_wp2_with fail
    refine h2.mono ?_
    rintro e w2 ⟨rfl, rfl⟩
    cases a2 with
    | true =>
      simp only [if_true]
      go_wp2_with fail
      refine n2.mono ?_
      rintro e w3 ⟨rfl, b3⟩
      go_wp2
      go_ret
      exact ⟨rfl, b3⟩
    | false =>
      simp only [Bool.false_eq_true, if_false]
      go_wp2_with fail
      refine h3.mono ?_
      rintro e w3 ⟨rfl, rfl⟩
      cases a3 with
      | true =>
        simp only [if_true]
        go_wp2_with fail
        refine n3.mono ?_
        rintro e w4 ⟨rfl, b4⟩
        go_wp2
        go_ret
        exact ⟨rfl, b4⟩
      | false =>
        simp only [Bool.false_eq_true, if_false]
        go_wp2
        go_ret
        exact ⟨rfl, Below.refl _ _⟩
end Go.Proofs.YtlmbahedgjfjgaaGreatDoor

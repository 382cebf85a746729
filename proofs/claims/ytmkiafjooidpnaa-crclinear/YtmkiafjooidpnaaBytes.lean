/- Bytes side by side: conversion to text, comparison, growing rows of the call's own. -/
import Derived.Test.YtmkiafjooidpnaaWalkD
import Derived.Laws.BytesArg
import Derived.Laws.OwnMore
import Derived.OwnWalk
namespace Go.Proofs.Ytmkiafjooidpnaa
open Go.RowKit

theorem conv_bs {w : World} {a : Option Addr} {len : Nat} {zs : List Int} (h : Bs w a len zs) (cap : Nat) :
    (convert 22 9 (.slice a len cap)).run Try.prog w = .ok (.string (strOfNums zs)) w := by
  obtain ⟨h1, h2, h3⟩ := h
  rcases Nat.eq_zero_or_pos len with rfl | hp
  · obtain rfl : zs = [] := List.length_eq_zero_iff.1 h1
    cases a with
    | none => exact run_convert_bytes_nil w 22 5 Try.underlying22 Try.underlying5 0 cap 9 Try.underlying9
    | some x =>
      rw [run_convert_bytes_string w 22 9 5 _ 0 cap Try.underlying22 Try.underlying5 Try.underlying9, run_bytesToString w x 0 cap [] (run_loadCells_list (P := Try.prog) w x [] (fun j v hj => by simp at hj))]
      rfl
  · obtain ⟨b, off, rfl, hc⟩ := h3 hp
    exact run_convert_bytes_arg w 22 5 Try.underlying22 Try.underlying5 b off len cap zs h1 hc 9 Try.underlying9

theorem strOfNums_inj {x y : List Int} (hx : ∀ z ∈ x, 0 ≤ z ∧ z < 256) (hy : ∀ z ∈ y, 0 ≤ z ∧ z < 256) (h : (strOfNums x).toList = (strOfNums y).toList) : x = y := by
  have h1 : x.map (fun n => UInt8.ofNat n.toNat) = y.map (fun n => UInt8.ofNat n.toNat) := by
    rw [← strOfNums_data, ← strOfNums_data, ← ByteArray.toList_eq, ← ByteArray.toList_eq, h]
  have h2 : ∀ l : List Int, (∀ z ∈ l, 0 ≤ z ∧ z < 256) → (l.map (fun n => UInt8.ofNat n.toNat)).map (fun u => ((u.toNat : Nat) : Int)) = l := by
    intro l hl
    rw [List.map_map]
    conv => rhs; rw [← List.map_id l]
    apply List.map_congr_left
    intro z hz
    have := hl z hz
    simp
    omega
  rw [← h2 x hx, ← h2 y hy, h1]

theorem str_beq {x y : List Int} (hx : ∀ z ∈ x, 0 ≤ z ∧ z < 256) (hy : ∀ z ∈ y, 0 ≤ z ∧ z < 256) : ((strOfNums x).toList == (strOfNums y).toList) = decide (x = y) := by
  by_cases h : x = y
  · subst h; simp
  · rw [decide_eq_false h]
    exact beq_eq_false_iff_ne.2 (fun e => h (strOfNums_inj hx hy e))

set_option maxHeartbeats 400000 in
theorem same_any {w : World} {a b : Option Addr} {la ca lb cb : Nat} {x y : List Int} (hx : Bs w a la x) (hy : Bs w b lb y) :
    Calls Try.prog 15 #[.slice a la ca, .slice b lb cb] w fun e w' => e = .returned (.bool (decide (x = y))) ∧ w' = w := by
  have k1 := conv_bs hx ca
  have k2 := conv_bs hy cb
  go_enter Try.func15, Try.ntmps15
  go_wp2
  rw [str_beq hx.2.1 hy.2.1]
  go_ret
  exact ⟨rfl, rfl⟩

theorem info5 : (Try.prog.info? 5).map (fun i => (i.zero, i.size, i.bytes)) = some (some (.int .u8 0), 1, 1) := by kernel_rfl

/-- The cells of a row of bytes. -/
def byteVals (zs : List Int) : List Value := zs.map (Value.int .u8)

/-- An owned row of bytes reads as a slice. -/
theorem bs_owned {w : World} {base : Nat} {v : Value} {n : Nat} {zs : List Int} (h : w.ownsRow base 5 1 v n (byteVals zs)) (hz : ∀ z ∈ zs, 0 ≤ z ∧ z < 256) :
    ∃ a cap, v = .slice a n cap ∧ Bs w a n zs ∧ n ≤ cap ∧ n ≤ maxLen := by
  have hl : zs.length = n := by have := h.1; simpa [byteVals] using this
  rcases h.2 with ⟨rfl, rfl⟩ | ⟨g, cap, cur, rfl, hb, hg, hnc, hcm, hcs, ht⟩
  · exact ⟨none, 0, rfl, ⟨hl, hz, fun h => absurd h (by omega)⟩, Nat.le_refl _, Nat.zero_le _⟩
  · refine ⟨_, cap, rfl, ⟨hl, hz, fun _ => ⟨g, 0, rfl, fun i hi => ?_⟩⟩, hnc, by omega⟩
    have := h.cellAt i (by omega)
    rw [Nat.zero_add, this]
    simp [byteVals, show i < zs.length by omega]

/-- Bytes are put behind a row of the call's own. -/
theorem run_append_bs (w : World) (base ty : Nat) (v : Value) (n : Nat) (xs : List Value) (hown : w.ownsRow base 5 1 v n xs) (a : Option Addr) (m c : Nat) (zs : List Int) (hb : Bs w a m zs)
    (hbytes : n + m ≤ 140737488355328) (hbase : base ≤ w.heap.size) :
    ∃ v' w', (Builtin.append_ #[22, 22] ty #[v, .slice a m c]).run Try.prog w = .ok v' w' ∧ w'.ownsRow base 5 1 v' (n + m) (xs ++ byteVals zs) ∧ w.grownBy w' v.ownBlock := by
  obtain ⟨i0, hi, hz0, hz1, hz2⟩ := info_parts info5
  obtain ⟨h1, h2, h3⟩ := hb
  cases a with
  | none =>
    obtain rfl : m = 0 := by
      rcases Nat.eq_zero_or_pos m with h | h
      · exact h
      · obtain ⟨_, _, e, _⟩ := h3 h; cases e
    obtain rfl : zs = [] := List.length_eq_zero_iff.1 h1
    refine ⟨v, w, ?_, by simpa [byteVals] using hown, ⟨rfl, rfl, rfl, Nat.le_refl _, fun _ _ _ => rfl⟩⟩
    rcases hown.2 with ⟨rfl, rfl⟩ | ⟨g, cap, cur, rfl, _, _, hnc, _⟩
    · simp [Builtin.append_, run_underlying Try.underlying22, sizeOf, typeInfo, hi, Builtin.lenOf, Builtin.firstCells]
    · simp [Builtin.append_, run_underlying Try.underlying22, sizeOf, typeInfo, hi, Builtin.lenOf, Builtin.firstCells, hnc, storeCells]
  | some ad =>
    have hnews : ∀ j u, (byteVals zs)[j]? = some u → w.cell? (ad.add j) = some u := by
      intro j u hj
      have hjl : j < zs.length := by
        rcases Nat.lt_or_ge j zs.length with h | h
        · exact h
        · rw [List.getElem?_eq_none (by simpa [byteVals] using h)] at hj; cases hj
      obtain ⟨b, off, e, hc⟩ := h3 (by omega)
      cases e
      have := hc j (by omega)
      rw [Addr.add_lit, this]
      simp [byteVals, hjl] at hj
      simp [hjl, hj]
    obtain ⟨v', w', hr, h4, h5, _⟩ := run_append_own (P := Try.prog) w base 22 ty 5 i0 (.int .u8 0) 1 1 Try.underlying22 hi hz0 hz1 hz2 rfl (by decide) v n xs hown ad m c (byteVals zs) (by simp [byteVals, h1]) hnews
      (by intro u hu; simp [byteVals] at hu; obtain ⟨z, _, rfl⟩ := hu; rfl) (by unfold maxLen; omega) (by omega) hbase
    exact ⟨v', w', hr, h4, h5⟩

theorem wpList_append_bs {w : World} {ops : Array Oper} {rest : List Oper} {o : Oper} {a : Act} {Q : Exit → Act → World → Prop} (hgd : o.guard = none) (s x : Operand)
    (ho : o.op = .call { callee := .builtin .append, args := #[s, x], argTypes := #[22, 22] }) (base : Nat)
    (v : Value) (n : Nat) (xs : List Value) (hs : a.eval s = v) (hown : w.ownsRow base 5 1 v n xs) (ad : Option Addr) (m c : Nat) (zs : List Int) (hx : a.eval x = .slice ad m c) (hb : Bs w ad m zs)
    (hbytes : n + m ≤ 140737488355328) (hbase : base ≤ w.heap.size)
    (h : ∀ v' w', w'.ownsRow base 5 1 v' (n + m) (xs ++ byteVals zs) → w.grownBy w' v.ownBlock → wpList Try.prog ops Q rest (a.put o.dst v') w') : wpList Try.prog ops Q (o :: rest) a w := by
  refine wpList_plain hgd fun K hK => ?_
  obtain ⟨v', w', hr, h2, h3⟩ := run_append_bs w base o.type v n xs hown ad m c zs hb hbytes hbase
  unfold Oper.wp execOp
  simp only [ho, resolve, invoke, builtin, Sem.run_bind, Sem.run_pure, Result.andThen_ok, List.map_toArray, List.map_cons, List.map_nil, hs, hx, hr]
  exact hK _ _ (h v' w' h2 h3)

theorem hide1 {p : Prop} (h : p) : Hid p := h

/-- The four bytes of a sum, the lowest first. -/
def bytesOf (s : Nat) : List Int := [((s % 256 : Nat) : Int), ((s / 256 % 256 : Nat) : Int), ((s / 65536 % 256 : Nat) : Int), ((s / 16777216 % 256 : Nat) : Int)]

theorem bytesOf_bytes (s : Nat) : ∀ z ∈ bytesOf s, 0 ≤ z ∧ z < 256 := by
  intro z hz
  simp only [bytesOf, List.mem_cons, List.not_mem_nil, or_false] at hz
  omega

theorem below_one (w : World) (o : Obj) : Below w.heap.size w (w.alloc o) := (Below.refl _ _).alloc (Nat.le_refl _) _

theorem bs_one (w : World) (z : Int) (hz : 0 ≤ z ∧ z < 256) : Bs (w.alloc (.cells #[.int .u8 z] 5)) (some ⟨w.heap.size, 0, none⟩) 1 [z] := bs_new w [z] (0, 0) (by simpa using hz)

theorem below_app {B : Nat} {w wr w' : World} {v : Value} {n : Nat} {xs : List Value} {o : Obj} (hb : Below B w wr) (hB : B ≤ w.heap.size) (hown : wr.ownsRow B 5 1 v n xs) (hg : (wr.alloc o).grownBy w' v.ownBlock) : Below B w w' :=
  (hb.alloc (Nat.le_trans hB hb.size) o).grown hg (by have := hb.size; simp; omega) (fun k e => (hown.lt k e).1)

set_option maxHeartbeats 400000 in
theorem bytes_any (s : Nat) (hs : s < 4294967296) (w : World) :
    Calls Try.prog 14 #[.int .u32 (s : Int)] w fun e w' => e = .returned (.slice (some ⟨w.heap.size, 0, none⟩) 4 4) ∧ Bs w' (some ⟨w.heap.size, 0, none⟩) 4 (bytesOf s) ∧ Below w.heap.size w w' := by
  have hn := bs_new w (bytesOf s) (0, 0) (bytesOf_bytes s)
  have e4 : (bytesOf s).map (Value.int .u8) = [.int .u8 ((s : Int) % 256), .int .u8 ((s : Int) / 256 % 256), .int .u8 ((s : Int) / 65536 % 256), .int .u8 ((s : Int) / 16777216)] := by
    have : s / 16777216 % 256 = s / 16777216 := by omega
    simp [bytesOf, this]
  rw [e4] at hn
  have HN := hide1 hn
  clear hn e4
  go_enter Try.func14, Try.ntmps14
  go_wp2
  go_ret
  exact ⟨rfl, HN.out, below_one _ _⟩

set_option maxHeartbeats 400000 in
theorem refBytes_any (s : Nat) (hs : s < 4294967296) (w : World) :
    Calls Try.prog 16 #[.int .u32 (s : Int)] w fun e w' => ∃ a cap, e = .returned (.slice a 4 cap) ∧ Bs w' a 4 (bytesOf s) ∧ Below w.heap.size w w' := by
  have hown0 := World.ownsRow_nil w w.heap.size 5 1
  go_enter Try.func16, Try.ntmps16
  go_wp2
  refine wp_loop_rounds 5 ?_
  rw [rounds_succ]
  go_wp2_with (at_builtin; refine wpList_append_bs rfl (.tmp 9) (.tmp 13) rfl w.heap.size _ 0 [] rfl (hown0.alloc _) _ 1 1 [(s : Int) % 256] rfl (bs_one _ _ (by omega)) (by omega) (by simp) ?_; intro v1 w1 hown1 hg1)
  have hb1 := below_app (Below.refl w.heap.size w) (Nat.le_refl _) hown0 hg1
  clear hown0 hg1
  rw [rounds_succ]
  go_wp2_with (at_builtin; refine wpList_append_bs rfl (.tmp 9) (.tmp 13) rfl w.heap.size _ (0 + 1) _ rfl (hown1.alloc _) _ 1 1 [(s : Int) / 256 % 256] rfl (bs_one _ _ (by omega)) (by omega) (by have := hb1.size; simp; omega) ?_; intro v2 w2 hown2 hg2)
  have hb2 := below_app hb1 (Nat.le_refl _) hown1 hg2
  clear hown1 hg2
  rw [rounds_succ]
  go_wp2_with (at_builtin; refine wpList_append_bs rfl (.tmp 9) (.tmp 13) rfl w.heap.size _ (0 + 1 + 1) _ rfl (hown2.alloc _) _ 1 1 [_] rfl (bs_one _ _ (by omega)) (by omega) (by have := hb2.size; simp; omega) ?_; intro v3 w3 hown3 hg3)
  have hb3 := below_app hb2 (Nat.le_refl _) hown2 hg3
  clear hown2 hg3
  rw [rounds_succ]
  go_wp2_with (at_builtin; refine wpList_append_bs rfl (.tmp 9) (.tmp 13) rfl w.heap.size _ (0 + 1 + 1 + 1) _ rfl (hown3.alloc _) _ 1 1 [_] rfl (bs_one _ _ (by omega)) (by omega) (by have := hb3.size; simp; omega) ?_; intro v4 w4 hown4 hg4)
  have hb4 := below_app hb3 (Nat.le_refl _) hown3 hg4
  clear hown3 hg4
  rw [rounds_succ]
  go_wp2
  go_ret
  have e4 : ([] ++ byteVals [(s : Int) % 256] ++ byteVals [(s : Int) / 256 % 256] ++ byteVals [(s : Int) / 256 / 256 % 256] ++ byteVals [(s : Int) / 256 / 256 / 256 % 256]) = byteVals (bytesOf s) := by
    have h3 : (s : Int) / 256 / 256 % 256 = (s : Int) / 65536 % 256 := by omega
    have h4 : (s : Int) / 256 / 256 / 256 % 256 = (s : Int) / 16777216 % 256 := by omega
    simp [byteVals, bytesOf, h3, h4]
  rw [e4] at hown4
  obtain ⟨a, cap, hv, hbs, _, _⟩ := bs_owned hown4 (bytesOf_bytes s)
  exact ⟨a, cap, by rw [← hv]; rfl, hbs, hb4⟩
end Go.Proofs.Ytmkiafjooidpnaa

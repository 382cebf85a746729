/- B18, B19, B20, B21, B22: laid together. -/
import Derived.Deep.DeepAppendRoom
import Derived.RangeFuncOwn
import Derived.RangeFuncBox
import Derived.BigQuiet
import Derived.Test.YtmbjdegfgidadaaG1
namespace Go.Proofs.Ytmbjdegfgidadaa
open Go.RowKit

theorem run_append_keep (w : World) (base ty g n cap : Nat) (xs : List Value) (hown : w.ownsRow base 5 1 (.slice (some ⟨g, 0, none⟩) n cap) n xs) (ad : Addr) (m c : Nat) (zs : List Int) (hb : Bs w (some ad) m zs)
    (hbytes : n + m ≤ 140737488355328) (hbase : base ≤ w.heap.size) :
    ∃ v' w', (Builtin.append_ #[22, 22] ty #[.slice (some ⟨g, 0, none⟩) n cap, .slice (some ad) m c]).run Try.prog w = .ok v' w' ∧ w'.ownsRow base 5 1 v' (n + m) (xs ++ byteVals zs) ∧ w.grownBy w' (some g) ∧ ∀ j, j < n → w'.cell? ⟨g, j, none⟩ = w.cell? ⟨g, j, none⟩ := by
  obtain ⟨v', w', hr, h1, h2⟩ := run_append_bs w base ty _ n xs hown (some ad) m c zs hb hbytes hbase
  refine ⟨v', w', hr, h1, h2, fun j hj => ?_⟩
  obtain ⟨i0, hi, hz0, hz1, hz2⟩ := info_parts info5
  have hl : xs.length = n := by have := hown.1; omega
  have hnews : ∀ j u, (byteVals zs)[j]? = some u → w.cell? (ad.add j) = some u := by
    intro j u hj
    have hjl : j < zs.length := by
      rcases Nat.lt_or_ge j zs.length with h | h
      · exact h
      · rw [List.getElem?_eq_none (by simpa [byteVals] using h)] at hj; cases hj
    obtain ⟨b, off, e, hc⟩ := hb.2.2 (by have := hb.1; omega)
    cases e
    have := hc j (by have := hb.1; omega)
    rw [Addr.add_lit, this]
    simp [byteVals, hjl] at hj
    simp [hjl, hj]
  by_cases hroom : n + m ≤ cap
  · obtain ⟨w2, hr2, _, _⟩ := run_append_own_spare (P := Try.prog) w base 22 ty 5 i0 1 Try.underlying22 hi hz1 g n cap xs hown ad m c (byteVals zs) (by simp [byteVals, hb.1]) hnews
      (by intro u hu; simp [byteVals] at hu; obtain ⟨z, _, rfl⟩ := hu; rfl) hroom
    rw [hr] at hr2
    cases hr2
    rw [h1.cellAt j (by omega), hown.cellAt j (by omega), List.getElem?_append_left (by omega)]
  · have hr2 := run_append_grow (P := Try.prog) w 22 ty 5 i0 (.int .u8 0) Try.underlying22 hi hz0 ⟨g, 0, none⟩ n cap xs (by rw [hz1]; omega) (hown.cells rfl) ad m c (byteVals zs) (by rw [hz1]; simp [byteVals, hb.1]) hnews (by omega) (by omega) (growslice_fits (by omega) (by rw [hz2]; omega))
    rw [hr] at hr2
    cases hr2
    have hlt := (hown.lt g rfl).2
    exact World.cell?_of_block (Below.heap_alloc w.drew _ g hlt)

theorem own_type {w : World} {base base' : Nat} {e e' : TypeId} {v v' : Value} {n n' : Nat} {xs xs' : List Value} (h : w.ownsRow base e 1 v n xs) (h' : w.ownsRow base' e' 1 v' n' xs') (hne : e ≠ e') : v.ownBlock = none ∨ v.ownBlock ≠ v'.ownBlock := by
  rcases h.2 with ⟨rfl, _⟩ | ⟨g, cap, cur, rfl, _, hg, _⟩
  · exact .inl rfl
  · right
    rcases h'.2 with ⟨rfl, _⟩ | ⟨g', cap', cur', rfl, _, hg', _⟩
    · simp [Value.ownBlock]
    · intro e1
      simp only [Value.ownBlock, Option.some.injEq] at e1
      subst e1
      rw [hg] at hg'
      simp only [Option.some.injEq, Obj.cells.injEq] at hg'
      exact hne hg'.2.1
theorem owns_pre {W : World} {B g n cap k : Nat} {xs : List Value} (h : W.ownsRow B 5 1 (.slice (some ⟨g, 0, none⟩) n cap) n xs) (hk : k ≤ n) : W.ownsRow B 5 1 (.slice (some ⟨g, 0, none⟩) k cap) k (xs.take k) := by
  obtain ⟨h1, h2⟩ := h
  rcases h2 with ⟨e, _⟩ | ⟨g', cap', cur, e, hb, hg, hn, hm, hs, ht⟩
  · cases e
  · cases e
    refine ⟨by simp; omega, .inr ⟨g, cap, cur, rfl, hb, hg, by omega, hm, hs, ?_⟩⟩
    rw [← ht, List.take_take, Nat.mul_one, Nat.mul_one, Nat.min_eq_left hk]

set_option maxHeartbeats 400000 in
theorem copy_o (a : Option Addr) (len cap : Nat) (zs : List Int) (w : World) (hb : Bs w a len zs) (hm : len ≤ 140737488351232) :
    Calls Try.prog 8 #[.slice a len cap] w fun e w' => ∃ g cap', e = .returned (.slice (some ⟨g, 0, none⟩) len cap') ∧ Kpt w' g len cap' zs ∧ w'.ownsRow w.heap.size 5 1 (.slice (some ⟨g, 0, none⟩) len cap') len (byteVals zs) ∧ Below w.heap.size w w' := by
  obtain ⟨i0, hi, hz0, hz1, hz2⟩ := info_parts info5
  obtain ⟨w1, hmk, hown0, hg0⟩ := run_make_own (P := Try.prog) w w.heap.size 22 5 i0 (.int .u8 0) 1 Try.underlying22 hi hz0 hz1 .i64 .i64 (len + 2) (by rw [hz2]; omega) (by unfold maxLen; omega) (Nat.le_refl _)
  have ec : ((len + 2 : Nat) : Int) = (len : Int) + 2 := by omega
  rw [ec] at hmk
  have hb1 : Below w.heap.size w w1 := (Below.refl _ _).grown hg0 (Nat.le_refl _) (fun k e => by cases e)
  have hbs1 := hb.later hb1
  clear ec hi hz0 hz1 hz2 hg0
  go_enter Try.func8, Try.ntmps8
  go_wp2_with (first
    | (at_builtin; refine wpList_append_bs rfl (.tmp 6) (.tmp 7) rfl w.heap.size (.slice (some ⟨w.heap.size, 0, none⟩) 0 (len + 2)) 0 [] rfl hown0 a len cap zs rfl hbs1 (by omega) hb1.size ?_; intro v2 w2 hown2 hg2; have hb2 := hb1.grown hg2 hb1.size (fun k e => (hown0.lt k e).1); clear hown0 hg2)
    | (at_builtin; refine wpList_append_bs rfl (.tmp 8) (.tmp 9) rfl w.heap.size v2 (0 + len) ([] ++ byteVals zs) rfl (hown2.alloc _) _ 2 2 [165, 90] rfl (bs_two _) (by omega) (by have := hb2.size; simp; omega) ?_; intro v3 w3 hown3 hg3; have hb3 := below_app hb2 (Nat.le_refl _) hown2 hg3; have hx3 := copy_end hown3; obtain ⟨g, cap3, hv3, hcap3, hm3, hc3⟩ := hx3; have HO := hide1 hown3; clear hown2 hg3 hown3))
  go_ret
  refine ⟨g, cap3, rfl, ⟨hb.1, hb.2.1, hcap3, hm3, hc3⟩, ?_, hb3⟩
  have h := HO.out
  rw [hv3, show 0 + len + 2 = len + 2 by omega] at h
  have h2 := owns_pre h (show len ≤ len + 2 by omega)
  rwa [List.nil_append, List.take_left' (by simp [byteVals, hb.1])] at h2

theorem grown_of {w w' : World} (h : Below w.heap.size w w') : w.grownBy w' none := ⟨h.os, h.tape, h.output, h.size, fun k hk _ => h.block k hk⟩
theorem owns_later {w w' : World} {base : Nat} {v : Value} {n : Nat} {xs : List Value} (h : w.ownsRow base 5 1 v n xs) (hb : Below w.heap.size w w') : w'.ownsRow base 5 1 v n xs :=
  h.kept (grown_of hb) (by cases v.ownBlock with | none => exact .inl rfl | some k => exact .inr (by simp))

theorem owns_laterE {w w' : World} {base : Nat} {e : TypeId} {v : Value} {n : Nat} {xs : List Value} (h : w.ownsRow base e 1 v n xs) (hb : Below w.heap.size w w') : w'.ownsRow base e 1 v n xs :=
  h.kept (grown_of hb) (by cases v.ownBlock with | none => exact .inl rfl | some k => exact .inr (by simp))
theorem keeps_below {W W' : World} (h : Below W.heap.size W W') : KeepsOthers W W' := KeepsOthers.of_grownBy (grown_of h) (fun _ _ e => by cases e)
end Go.Proofs.Ytmbjdegfgidadaa

namespace Go.Proofs.Ytmbjdegfgidadaa
open Go.RowKit

/-- Mark number j of list number i. -/
def mk1 (i j : Nat) : Value := .int .u8 (((31 * i + 3 * j + 1) % 256 : Nat) : Int)
def mks (i n : Nat) : List Value := (List.range n).map (mk1 i)
theorem mks_length (i n : Nat) : (mks i n).length = n := by simp [mks]
theorem mks_succ (i n : Nat) : mks i (n + 1) = mks i n ++ [mk1 i n] := by simp [mks, List.range_succ]
theorem mks_get (i n j : Nat) (h : j < n) : (mks i n)[j]? = some (mk1 i j) := by simp [mks, h]

/-- The blocks of two values differ. -/
def Ne2 (u v : Value) : Prop := u.ownBlock = none ∨ u.ownBlock ≠ v.ownBlock
theorem Ne2.symm {u v : Value} (h : Ne2 u v) : Ne2 v u := by
  rcases h with h | h
  · cases hv : v.ownBlock with
    | none => exact .inl hv
    | some g => exact .inr (by rw [hv, h]; simp)
  · cases hv : v.ownBlock with
    | none => exact .inl hv
    | some g => exact .inr (fun e => h e.symm)

/-- n lists, each a row of bytes of its own, apart; the block of the list of lists. -/
structure Lists (B n Lb : Nat) (O : Nat → Value) (Lo : Nat → Nat) (W : World) : Prop where
  own : ∀ i, i < n → ∃ xs, W.ownsRow B 5 1 (O i) (Lo i) xs
  sep : ∀ i j, i < n → j < n → i ≠ j → Ne2 (O i) (O j)
  row : ∃ cs fr, W.heap[Lb]? = some (.cells cs 22 fr) ∧ ∀ i, i < n → cs[i]? = some (O i)
  big : ∀ i, i < n → Lo i ≤ 140737488351232
  few : n ≤ 1000

theorem box_type' {w : World} {base : Nat} {e t : TypeId} {v : Value} {n : Nat} {xs : List Value} {E : Nat} {cs : Array Value} {fr : Nat × Nat} (h : w.ownsRow base e 1 v n xs) (hE : w.heap[E]? = some (.cells cs t fr)) (hne : e ≠ t) : some E ≠ v.ownBlock := by
  rcases h.2 with ⟨rfl, _⟩ | ⟨g, cap, cur, rfl, _, hg, _⟩
  · simp [Value.ownBlock]
  · intro e1
    simp only [Value.ownBlock, Option.some.injEq] at e1
    subst e1
    rw [hg] at hE
    simp only [Option.some.injEq, Obj.cells.injEq] at hE
    exact hne hE.2.1

theorem Lists.cell {B n Lb : Nat} {O : Nat → Value} {Lo : Nat → Nat} {W : World} (h : Lists B n Lb O Lo W) {i : Nat} (hi : i < n) : W.cell? ⟨Lb, i, none⟩ = some (O i) := by
  obtain ⟨cs, fr, hc, hg⟩ := h.row
  simp [World.cell?, hc, hg i hi]

/-- A list is a slice. -/
theorem Lists.form {B n Lb : Nat} {O : Nat → Value} {Lo : Nat → Nat} {W : World} (h : Lists B n Lb O Lo W) {i : Nat} (hi : i < n) : ∃ a c, O i = .slice a (Lo i) c ∧ (0 < Lo i → ∃ g, a = some ⟨g, 0, none⟩) ∧ c ≤ 9223372036854775807 := by
  obtain ⟨xs, hx⟩ := h.own i hi
  have hc := hx.2
  rcases hc with ⟨e, h0⟩ | ⟨g, cap, cur, e, _, _, _, hcm, _⟩
  · exact ⟨none, 0, by rw [e, h0], fun hp => absurd hp (by omega), by omega⟩
  · exact ⟨_, cap, e, fun _ => ⟨g, rfl⟩, by unfold maxLen at hcm; omega⟩

/-- The state of the first loop: the first k lists are marked, and so are the first m of list k. -/
structure Mk (B n Lb : Nat) (O : Nat → Value) (Lo : Nat → Nat) (w : World) (k m : Nat) (W : World) : Prop where
  ls : Lists B n Lb O Lo W
  done : ∀ i, i < k → W.ownsRow B 5 1 (O i) (Lo i) (mks i (Lo i))
  now : k < n → ∃ xs, W.ownsRow B 5 1 (O k) (Lo k) xs ∧ xs.take m = mks k m
  bel : Below B w W
  ko : KeepsOthers w W

theorem Mk.store {B n Lb : Nat} {O : Nat → Value} {Lo : Nat → Nat} {w : World} {k m : Nat} {W : World} {g c : Nat} (h : Mk B n Lb O Lo w k m W) (hk : k < n) (hm : m < Lo k) (hO : O k = .slice (some ⟨g, 0, none⟩) (Lo k) c) : Mk B n Lb O Lo w k (m + 1) (W.setCell ⟨g, m, none⟩ (mk1 k m)) := by
  obtain ⟨xs, hx, ht⟩ := h.now hk
  have hx' := hx
  rw [hO] at hx'
  have hst := (hx'.stored m (mk1 k m)).1
  rw [← hO] at hst
  have hl : xs.length = Lo k := by have := hx.1; omega
  have hkeep : ∀ {e : TypeId} {v : Value} {l : Nat} {ys : List Value}, W.ownsRow B e 1 v l ys → Ne2 v (O k) → (W.setCell ⟨g, m, none⟩ (mk1 k m)).ownsRow B e 1 v l ys := by
    intro e v l ys hv hne
    refine ownsRow_setCell_other hv ?_ _
    rcases hne with h1 | h1
    · rw [h1]; simp
    · rw [hO] at h1; exact h1
  refine ⟨⟨?_, h.ls.sep, ?_, h.ls.big, h.ls.few⟩, ?_, ?_, ?_, h.ko.trans (KeepsOthers.setCell _ _ _)⟩
  · intro i hi
    by_cases e : i = k
    · subst e; exact ⟨_, hst⟩
    · obtain ⟨ys, hy⟩ := h.ls.own i hi
      exact ⟨ys, hkeep hy (h.ls.sep i k hi hk e)⟩
  · obtain ⟨cs, fr, hc, hg⟩ := h.ls.row
    refine ⟨cs, fr, ?_, hg⟩
    rw [Below.heap_setCell W ⟨g, m, none⟩ (mk1 k m) Lb (fun e => (box_type' hx' hc (by decide)) (by rw [e]; rfl)), hc]
  · intro i hi
    exact hkeep (h.done i hi) (h.ls.sep i k (by omega) hk (by omega))
  · intro _
    refine ⟨_, hst, ?_⟩
    rw [mks_succ, ← ht, List.take_add_one, List.take_set_of_le (Nat.le_refl m)]
    simp [hl, hm]
  · exact h.bel.setCell (p := ⟨g, m, none⟩) ((hx'.lt g rfl).1) _

theorem Mk.next {B n Lb : Nat} {O : Nat → Value} {Lo : Nat → Nat} {w : World} {k : Nat} {W : World} (h : Mk B n Lb O Lo w k (Lo k) W) (hk : k < n) : Mk B n Lb O Lo w (k + 1) 0 W := by
  obtain ⟨xs, hx, ht⟩ := h.now hk
  have hl : xs.length = Lo k := by have := hx.1; omega
  rw [List.take_of_length_le (by omega)] at ht
  refine ⟨h.ls, ?_, ?_, h.bel, h.ko⟩
  · intro i hi
    by_cases e : i = k
    · subst e; rw [← ht]; exact hx
    · exact h.done i (by omega)
  · intro hk1
    obtain ⟨ys, hy⟩ := h.ls.own (k + 1) hk1
    exact ⟨ys, hy, rfl⟩
end Go.Proofs.Ytmbjdegfgidadaa

namespace Go.Proofs.Ytmbjdegfgidadaa
open Go.RowKit

/-- One byte more behind a row of the call's own. -/
theorem run_append_one (w : World) (base ty : Nat) (x : Value) (n : Nat) (xs : List Value) (hown : w.ownsRow base 5 1 x n xs) (ad : Addr) (c : Nat) (z : Int) (hb : Bs w (some ad) 1 [z]) (hbytes : n + 1 ≤ 140737488355328) (hbase : base ≤ w.heap.size) :
    ∃ v' w', (Builtin.append_ #[22, 22] ty #[x, .slice (some ad) 1 c]).run Try.prog w = .ok v' w' ∧ w'.ownsRow base 5 1 v' (n + 1) (xs ++ [.int .u8 z]) ∧ w.grownBy w' x.ownBlock ∧ (∀ g, x.ownBlock = some g → ∀ j, j < n → w'.cell? ⟨g, j, none⟩ = w.cell? ⟨g, j, none⟩) ∧
      (v'.ownBlock = x.ownBlock ∨ ∃ g', v'.ownBlock = some g' ∧ w.heap.size ≤ g') := by
  obtain ⟨i0, hi, hz0, hz1, hz2⟩ := info_parts info5
  have hnews : ∀ j u, (byteVals [z])[j]? = some u → w.cell? (ad.add j) = some u := by
    intro j u hj
    obtain ⟨b, off, e, hc⟩ := hb.2.2 (by omega)
    cases e
    cases j with
    | zero =>
      have := hc 0 (by omega)
      rw [Addr.add_lit, this]
      simp [byteVals] at hj
      simp [hj]
    | succ j => simp [byteVals] at hj
  obtain ⟨v', w', hr, h1, h2⟩ := run_append_bs w base ty x n xs hown (some ad) 1 c [z] hb hbytes hbase
  refine ⟨v', w', hr, h1, h2, ?_, ?_⟩
  · intro g hg j hj
    rcases hown.2 with ⟨rfl, _⟩ | ⟨g', cap, cur, rfl, _⟩
    · cases hg
    · cases hg
      obtain ⟨v2, w2, hr2, _, _, hk⟩ := run_append_keep w base ty g' n cap xs hown ad 1 c [z] hb hbytes hbase
      rw [hr] at hr2
      cases hr2
      exact hk j hj
  · rcases hown.2 with ⟨rfl, rfl⟩ | ⟨g, cap, cur, rfl, _⟩
    · have hr2 := run_append_nil (P := Try.prog) w 22 ty 5 i0 (.int .u8 0) Try.underlying22 hi hz0 ad 1 c (byteVals [z]) (by rw [hz1]; rfl) hnews (by omega) (by omega) (by rw [hz2]; omega)
      rw [hr] at hr2
      cases hr2
      exact .inr ⟨_, rfl, Nat.le_refl _⟩
    · by_cases hroom : n + 1 ≤ cap
      · obtain ⟨w2, hr2, _, _⟩ := run_append_own_spare (P := Try.prog) w base 22 ty 5 i0 1 Try.underlying22 hi hz1 g n cap xs hown ad 1 c (byteVals [z]) rfl hnews (by intro u hu; simp [byteVals] at hu; subst hu; rfl) hroom
        rw [hr] at hr2
        cases hr2
        exact .inl rfl
      · have hr2 := run_append_grow (P := Try.prog) w 22 ty 5 i0 (.int .u8 0) Try.underlying22 hi hz0 ⟨g, 0, none⟩ n cap xs (by rw [hz1]; have := hown.1; omega) (hown.cells rfl) ad 1 c (byteVals [z]) (by rw [hz1]; rfl) hnews (by omega) (by omega) (growslice_fits (by omega) (by rw [hz2]; omega))
        rw [hr] at hr2
        cases hr2
        exact .inr ⟨_, rfl, Nat.le_refl _⟩

theorem wpList_append_one {w : World} {ops : Array Oper} {rest : List Oper} {o : Oper} {a : Act} {Q : Exit → Act → World → Prop} (hgd : o.guard = none) (s y : Operand)
    (ho : o.op = .call { callee := .builtin .append, args := #[s, y], argTypes := #[22, 22] }) (base : Nat) (x : Value) (n : Nat) (xs : List Value) (hs : a.eval s = x) (hown : w.ownsRow base 5 1 x n xs) (ad : Addr) (c : Nat) (z : Int) (hy : a.eval y = .slice (some ad) 1 c) (hb : Bs w (some ad) 1 [z])
    (hbytes : n + 1 ≤ 140737488355328) (hbase : base ≤ w.heap.size)
    (h : ∀ v' w', w'.ownsRow base 5 1 v' (n + 1) (xs ++ [.int .u8 z]) → w.grownBy w' x.ownBlock → (∀ g, x.ownBlock = some g → ∀ j, j < n → w'.cell? ⟨g, j, none⟩ = w.cell? ⟨g, j, none⟩) → (v'.ownBlock = x.ownBlock ∨ ∃ g', v'.ownBlock = some g' ∧ w.heap.size ≤ g') → wpList Try.prog ops Q rest (a.put o.dst v') w') : wpList Try.prog ops Q (o :: rest) a w := by
  refine wpList_plain hgd fun K hK => ?_
  obtain ⟨v', w', hr, h2, h3, h4, h5⟩ := run_append_one w base o.type x n xs hown ad c z hb hbytes hbase
  unfold Oper.wp execOp
  simp only [ho, resolve, invoke, builtin, Sem.run_bind, Sem.run_pure, Result.andThen_ok, List.map_toArray, List.map_cons, List.map_nil, hs, hy, hr]
  exact hK _ _ (h v' w' h2 h3 h4 h5)

theorem mk1_byte (i j : Nat) : 0 ≤ (((31 * i + 3 * j + 1) % 256 : Nat) : Int) ∧ (((31 * i + 3 * j + 1) % 256 : Nat) : Int) < 256 := by omega

/-- What the second loop has of all lists but the one at hand: the first k are grown (V), those behind k are marked. -/
structure Gw (B n Lb : Nat) (O V : Nat → Value) (Lo : Nat → Nat) (w : World) (k k' : Nat) (vg : Value) (W : World) : Prop where
  row : ∃ cs fr, W.heap[Lb]? = some (.cells cs 22 fr) ∧ ∀ i, i < n → cs[i]? = some (O i)
  own : ∀ i, i < n → k' ≤ i → W.ownsRow B 5 1 (O i) (Lo i) (mks i (Lo i))
  grn : ∀ i, i < k → W.ownsRow B 5 1 (V i) (Lo i + 10) (mks i (Lo i + 10))
  old : ∀ i, i < k → ∀ g, (O i).ownBlock = some g → ∀ j, j < Lo i → W.cell? ⟨g, j, none⟩ = some (mk1 i j)
  sepV : ∀ i j, i < k → j < n → i ≠ j → Ne2 (V i) (O j)
  gro : W.ownsRow w.heap.size 22 1 vg k ((List.range k).map V)
  bel : Below B w W
  ko : KeepsOthers w W

/-- An own row's block holds cells. -/
theorem own_cells {W : World} {B : Nat} {e : TypeId} {v : Value} {n : Nat} {xs : List Value} (h : W.ownsRow B e 1 v n xs) (j : Nat) (o : Obj) (hj : v.ownBlock = some j) (ho : W.heap[j]? = some o) : o.isCells = true := by
  rcases h.2 with ⟨rfl, _⟩ | ⟨g, cap, cur, rfl, _, hg, _⟩
  · simp [Value.ownBlock] at hj
  · simp only [Value.ownBlock, Option.some.injEq] at hj
    subst hj
    rw [hg] at ho
    cases ho
    rfl

/-- The list at hand, with m bytes more. -/
structure Cu (B n : Nat) (O V : Nat → Value) (Lo : Nat → Nat) (k m : Nat) (x : Value) (W : World) : Prop where
  cur : W.ownsRow B 5 1 x (Lo k + m) (mks k (Lo k + m))
  oldk : ∀ g, (O k).ownBlock = some g → ∀ j, j < Lo k → W.cell? ⟨g, j, none⟩ = some (mk1 k j)
  sepO : ∀ i, i < n → i ≠ k → Ne2 (O i) x
  sepV : ∀ i, i < k → Ne2 (V i) x
  same : x.ownBlock = (O k).ownBlock ∨ ∃ g, x.ownBlock = some g ∧ ∀ g', (O k).ownBlock = some g' → g' ≠ g

theorem ne2_new {u v x : Value} {S : Nat} (h : Ne2 u x) (hu : ∀ g, u.ownBlock = some g → g < S) (hv : v.ownBlock = x.ownBlock ∨ ∃ g', v.ownBlock = some g' ∧ S ≤ g') : Ne2 u v := by
  rcases hv with e | ⟨g', e, hg⟩
  · unfold Ne2; rw [e]; exact h
  · cases hu' : u.ownBlock with
    | none => exact .inl hu'
    | some g => exact .inr (by rw [e, hu']; intro e2; have := hu g hu'; have := Option.some.inj e2; omega)
theorem kept_ne {w w' : World} {B : Nat} {e : TypeId} {u x : Value} {n : Nat} {xs : List Value} (h : w.ownsRow B e 1 u n xs) (hg : w.grownBy w' x.ownBlock) (hn : Ne2 u x) : w'.ownsRow B e 1 u n xs := h.kept hg hn
theorem cells_ne {w w' : World} {x u : Value} {g : Nat} (hg : w.grownBy w' x.ownBlock) (hu : u.ownBlock = some g) (hn : Ne2 u x) (hlt : g < w.heap.size) (j : Nat) : w'.cell? ⟨g, j, none⟩ = w.cell? ⟨g, j, none⟩ := by
  refine World.cell?_of_block (hg.block g hlt (fun e => ?_))
  rcases hn with h | h
  · rw [hu] at h; cases h
  · exact h (by rw [hu, e])

/-- One byte more behind the list at hand. -/
theorem gw_step {B n Lb : Nat} {O V : Nat → Value} {Lo : Nat → Nat} {w w' W : World} {k m : Nat} {vg x v : Value} (hB : B ≤ w.heap.size) (hOw : ∀ i, i < n → ∀ g, (O i).ownBlock = some g → g < w.heap.size) (h : Gw B n Lb O V Lo w k (k + 1) vg W) (c : Cu B n O V Lo k m x W) (hk : k < n)
    (ho : w'.ownsRow B 5 1 v (Lo k + m + 1) (mks k (Lo k + m) ++ [mk1 k (Lo k + m)])) {o : Obj} (hg : (W.alloc o).grownBy w' x.ownBlock) (hkeep : ∀ g, x.ownBlock = some g → ∀ j, j < Lo k + m → w'.cell? ⟨g, j, none⟩ = (W.alloc o).cell? ⟨g, j, none⟩)
    (hnew : v.ownBlock = x.ownBlock ∨ ∃ g', v.ownBlock = some g' ∧ (W.alloc o).heap.size ≤ g') : Gw B n Lb O V Lo w k (k + 1) vg w' ∧ Cu B n O V Lo k (m + 1) v w' := by
  have hsz : W.heap.size ≤ w'.heap.size := by have := hg.size; simp at this; omega
  have hlt : ∀ {e : TypeId} {u : Value} {l : Nat} {ys : List Value}, W.ownsRow B e 1 u l ys → ∀ g, u.ownBlock = some g → g < (W.alloc o).heap.size := by
    intro e u l ys hu g hg'
    have := (hu.lt g hg').2
    simp; omega
  have hcl : ∀ {u : Value} {g : Nat}, u.ownBlock = some g → Ne2 u x → g < W.heap.size → ∀ j, w'.cell? ⟨g, j, none⟩ = W.cell? ⟨g, j, none⟩ := by
    intro u g hu hn hl j
    rw [cells_ne hg hu hn (by simp; omega) j]
    exact World.cell?_of_block (Below.heap_alloc W o g hl)
  have hOlt : ∀ i, i < n → ∀ g, (O i).ownBlock = some g → g < (W.alloc o).heap.size := by
    intro i hi g hgi
    have := hOw i hi g hgi
    have := h.bel.size
    simp; omega
  refine ⟨⟨?_, ?_, ?_, ?_, h.sepV, ?_, ?_, (h.ko.trans (KeepsOthers.alloc _ _)).trans (KeepsOthers.of_grownBy hg (own_cells (c.cur.alloc o)))⟩, ⟨?_, ?_, ?_, ?_, ?_⟩⟩
  · obtain ⟨cs, fr, hc, hgt⟩ := h.row
    refine ⟨cs, fr, ?_, hgt⟩
    have hl := (Array.getElem?_eq_some_iff.1 hc).1
    rw [hg.block Lb (by simp; omega) (box_type' c.cur hc (by decide)), Below.heap_alloc W o Lb hl, hc]
  · intro i hi hki
    exact kept_ne ((h.own i hi hki).alloc o) hg (c.sepO i hi (by omega))
  · intro i hi
    exact kept_ne ((h.grn i hi).alloc o) hg (c.sepV i hi)
  · intro i hi g hgi
    intro j hj
    rw [hcl hgi (c.sepO i (by omega) (by omega)) (Nat.lt_of_lt_of_le (hOw i (by omega) g hgi) h.bel.size) j]
    exact h.old i hi g hgi j hj
  · exact (h.gro.alloc o).kept hg (own_type h.gro c.cur (by decide))
  · exact (h.bel.alloc (Nat.le_trans hB h.bel.size) o).grown hg (by have := h.bel.size; simp; omega) (fun j e => (c.cur.lt j e).1)
  · have e1 : Lo k + (m + 1) = Lo k + m + 1 := by omega
    rw [e1, mks_succ]
    exact ho
  · intro g hgk
    intro j hj
    have h1 := Nat.lt_of_lt_of_le (hOw k hk g hgk) h.bel.size
    rw [← c.oldk g hgk j hj]
    rcases c.same with e | ⟨g2, e, hne⟩
    · rw [hkeep g (by rw [e]; exact hgk) j (by omega)]
      exact World.cell?_of_block (Below.heap_alloc W o g h1)
    · exact hcl hgk (.inr (by rw [e, hgk]; intro e2; exact hne g hgk (Option.some.inj e2))) h1 j
  · intro i hi hne
    exact ne2_new (c.sepO i hi hne) (hOlt i hi) hnew
  · intro i hi
    exact ne2_new (c.sepV i hi) (hlt (h.grn i hi)) hnew
  · rcases hnew with e | ⟨g', e, hl⟩
    · rw [e]; exact c.same
    · refine .inr ⟨g', e, fun g2 hg2 => ?_⟩
      have := hOw k hk g2 hg2
      have := h.bel.size
      simp at hl
      omega

theorem gw_begin {B n Lb : Nat} {O V : Nat → Value} {Lo : Nat → Nat} {w W : World} {k : Nat} {vg : Value} (hs : ∀ i j, i < n → j < n → i ≠ j → Ne2 (O i) (O j)) (h : Gw B n Lb O V Lo w k k vg W) (hk : k < n) : Gw B n Lb O V Lo w k (k + 1) vg W ∧ Cu B n O V Lo k 0 (O k) W := by
  refine ⟨⟨h.row, fun i hi hk' => h.own i hi (by omega), h.grn, h.old, h.sepV, h.gro, h.bel, h.ko⟩, ⟨h.own k hk (Nat.le_refl _), ?_, fun i hi hne => hs i k hi hk hne, fun i hi => h.sepV i k hi hk (by omega), .inl rfl⟩⟩
  intro g hg
  have ho := h.own k hk (Nat.le_refl _)
  intro j hj
  have := ho.cells hg j (mk1 k j) (mks_get k _ j hj)
  rwa [Addr.add_lit, Nat.zero_add] at this

/-- The list at hand is grown: it stands among the grown ones. -/
theorem gw_end {B n Lb : Nat} {O V : Nat → Value} {Lo : Nat → Nat} {w W w' : World} {k : Nat} {vg x v : Value} {o : Obj} (hB : B ≤ w.heap.size) (hOw : ∀ i, i < n → ∀ g, (O i).ownBlock = some g → g < w.heap.size) (hL : Lb < w.heap.size) (h : Gw B n Lb O V Lo w k (k + 1) vg W) (c : Cu B n O V Lo k 10 x W) (hk : k < n)
    (ho : w'.ownsRow w.heap.size 22 1 v (k + 1) ((List.range k).map V ++ [x])) (hg : (W.alloc o).grownBy w' vg.ownBlock) : Gw B n Lb O (fun i => if i = k then x else V i) Lo w (k + 1) (k + 1) v w' := by
  have hsz : W.heap.size ≤ w'.heap.size := by have := hg.size; simp at this; omega
  have hkeep : ∀ {u : Value} {l : Nat} {ys : List Value}, W.ownsRow B 5 1 u l ys → w'.ownsRow B 5 1 u l ys := fun hu => (hu.alloc o).kept hg (own_type hu h.gro (by decide))
  have hcl : ∀ i, i < n → ∀ g, (O i).ownBlock = some g → ∀ j, w'.cell? ⟨g, j, none⟩ = W.cell? ⟨g, j, none⟩ := by
    intro i hi g hgi j
    have hl := hOw i hi g hgi
    have := h.bel.size
    refine (World.cell?_of_block (hg.block g (by simp; omega) (fun e => ?_))).trans (World.cell?_of_block (Below.heap_alloc W o g (by omega)))
    have := (h.gro.lt g e.symm).1
    omega
  refine ⟨?_, ?_, ?_, ?_, ?_, ?_, ?_, (h.ko.trans (KeepsOthers.alloc _ _)).trans (KeepsOthers.of_grownBy hg (own_cells (h.gro.alloc o)))⟩
  · obtain ⟨cs, fr, hc, hgt⟩ := h.row
    refine ⟨cs, fr, ?_, hgt⟩
    have hl := (Array.getElem?_eq_some_iff.1 hc).1
    rw [hg.block Lb (by simp; omega) (fun e => by have := (h.gro.lt Lb e.symm).1; omega), Below.heap_alloc W o Lb hl, hc]
  · intro i hi hki
    exact hkeep (h.own i hi hki)
  · intro i hi
    by_cases e : i = k
    · subst e; rw [if_pos rfl]; exact hkeep c.cur
    · rw [if_neg e]; exact hkeep (h.grn i (by omega))
  · intro i hi g hgi
    by_cases e : i = k
    · subst e
      exact fun j hj => (hcl i hk g hgi j).trans (c.oldk g hgi j hj)
    · exact fun j hj => (hcl i (by omega) g hgi j).trans (h.old i (by omega) g hgi j hj)
  · intro i j hi hj hne
    by_cases e : i = k
    · subst e; rw [if_pos rfl]; exact (c.sepO j hj (by omega)).symm
    · rw [if_neg e]; exact h.sepV i j (by omega) hj hne
  · have e1 : (List.range (k + 1)).map (fun i => if i = k then x else V i) = (List.range k).map V ++ [x] := by
      rw [List.range_succ, List.map_append]
      congr 1
      · apply List.map_congr_left
        intro i hi
        rw [if_neg (by have := List.mem_range.1 hi; omega)]
      · simp
    rw [e1]; exact ho
  · exact (h.bel.alloc (Nat.le_trans hB h.bel.size) o).grown hg (by have := h.bel.size; simp; omega) (fun j e => Nat.le_trans hB (h.gro.lt j e).1)
end Go.Proofs.Ytmbjdegfgidadaa

namespace Go.Proofs.Ytmbjdegfgidadaa
open Go.RowKit

theorem mk_zero {B n Lb : Nat} {O : Nat → Value} {Lo : Nat → Nat} {w : World} (h : Lists B n Lb O Lo w) : Mk B n Lb O Lo w 0 0 w :=
  ⟨h, fun i hi => absurd hi (by omega), fun h0 => by obtain ⟨xs, hx⟩ := h.own 0 h0; exact ⟨xs, hx, rfl⟩, Below.refl _ _, KeepsOthers.refl _⟩

theorem info22 : (Try.prog.info? 22).map (fun i => (i.zero, i.size, i.bytes)) = some (some (.slice none 0 0), 1, 24) := by kernel_rfl
theorem row22 {W : World} {base : Nat} {v : Value} {n : Nat} {xs : List Value} (h : W.ownsRow base 22 1 v n xs) : ∃ a c, v = .slice a n c ∧ (0 < n → ∃ g, a = some ⟨g, 0, none⟩) ∧ c ≤ 9223372036854775807 := by
  rcases h.2 with ⟨e, h0⟩ | ⟨g, cap, cur, e, _, _, _, hcm, _⟩
  · exact ⟨none, 0, by rw [e, h0], fun hp => absurd hp (by omega), by omega⟩
  · exact ⟨_, cap, e, fun _ => ⟨g, rfl⟩, by unfold maxLen at hcm; omega⟩
def lenV : Value → Nat
  | .slice _ l _ => l
  | _ => 0
theorem gw_zero {B n Lb : Nat} {O : Nat → Value} {Lo : Nat → Nat} {w W : World} (h : Mk B n Lb O Lo w n 0 W) (hB : B ≤ w.heap.size) : Gw B n Lb O (fun _ => undef) Lo w 0 0 (.slice (some ⟨W.heap.size, 0, none⟩) 0 0) (W.alloc (.cells #[] 22)) := by
  refine ⟨?_, fun i hi _ => (h.done i hi).alloc _, fun i hi => absurd hi (by omega), fun i hi => absurd hi (by omega), fun i j hi => absurd hi (by omega), World.ownsRow_lit W #[] 0 h.bel.size (Nat.zero_le _) rfl, ?_, h.ko.trans (KeepsOthers.alloc _ _)⟩
  · obtain ⟨cs, fr, hc, hg⟩ := h.ls.row
    exact ⟨cs, fr, (Below.heap_alloc W _ Lb (Array.getElem?_eq_some_iff.1 hc).1).trans hc, hg⟩
  · exact h.bel.trans ((below_one W _).mono (Nat.le_trans hB h.bel.size))
theorem gw_later {B n Lb : Nat} {O V : Nat → Value} {Lo : Nat → Nat} {w W W' : World} {k k' : Nat} {vg : Value} (hB : B ≤ w.heap.size) (h : Gw B n Lb O V Lo w k k' vg W) (hb : Below W.heap.size W W') : Gw B n Lb O V Lo w k k' vg W' := by
  refine ⟨?_, fun i hi hk => owns_later (h.own i hi hk) hb, fun i hi => owns_later (h.grn i hi) hb, fun i hi g hg j hj => cell_later hb (h.old i hi g hg j hj), h.sepV, owns_laterE h.gro hb, h.bel.trans (hb.mono (Nat.le_trans hB h.bel.size)), h.ko.trans (keeps_below hb)⟩
  obtain ⟨cs, fr, hc, hg⟩ := h.row
  exact ⟨cs, fr, (hb.block Lb (Array.getElem?_eq_some_iff.1 hc).1).trans hc, hg⟩
theorem gw_cell {B n Lb : Nat} {O V : Nat → Value} {Lo : Nat → Nat} {w W : World} {k k' : Nat} {vg : Value} (h : Gw B n Lb O V Lo w k k' vg W) {i : Nat} (hi : i < n) : W.cell? ⟨Lb, i, none⟩ = some (O i) := by
  obtain ⟨cs, fr, hc, hg⟩ := h.row
  simp [World.cell?, hc, hg i hi]

set_option maxRecDepth 100000 in
set_option maxHeartbeats 4000000 in
theorem apart_k (n cap Lb B : Nat) (O : Nat → Value) (Lo : Nat → Nat) (w : World) (h : Lists B n Lb O Lo w) (hB : B ≤ w.heap.size) :
    Calls Try.prog 17 #[.slice (some ⟨Lb, 0, none⟩) n cap] w fun e w' => e = .returned (.bool true) ∧ Below B w w' ∧ KeepsOthers w w' := by
  have hn := h.few
  have hOw : ∀ i, i < n → ∀ g, (O i).ownBlock = some g → g < w.heap.size := by
    intro i hi g hg
    obtain ⟨xs, hx⟩ := h.own i hi
    exact (hx.lt g hg).2
  have hsep := h.sep
  have hbig := h.big
  have hM0 := mk_zero h
  go_enter Try.func17, Try.ntmps17
  go_wp2_with fail
  go_loopw [15] (fun i wr => ∃ k : Nat, k ≤ n ∧ i = .int .i64 k ∧ Mk B n Lb O Lo w k 0 wr) (fun i _ => n - (intOf i).toNat)
  case atStart => exact ⟨0, by omega, rfl, hM0⟩
  case round =>
    obtain ⟨k, hk, rfl, hM⟩ := hrel
    by_cases hlt : k < n
    · have hc := hM.ls.cell hlt
      obtain ⟨a, c, hO, hform, hcm⟩ := hM.ls.form hlt
      have hLo := hbig k hlt
      rw [hO] at hc
      go_wp2_with fail
      go_loopw [22] (fun j ws => ∃ m : Nat, m ≤ Lo k ∧ j = .int .i64 m ∧ Mk B n Lb O Lo w k m ws) (fun j _ => Lo k - (intOf j).toNat)
      case atStart => exact ⟨0, by omega, rfl, hM⟩
      case round =>
        obtain ⟨m, hm, rfl, hM2⟩ := hrel
        by_cases hml : m < Lo k
        · obtain ⟨g, rfl⟩ := hform (by omega)
          obtain ⟨xs, hx, _⟩ := hM2.now hlt
          have hx' := hx
          rw [hO] at hx'
          have hxl : xs.length = Lo k := by have := hx.1; omega
          have hcm1 := hx'.cellAt m (by omega)
          rw [List.getElem?_eq_getElem (by omega)] at hcm1
          have hfm := hx'.frozenAt m
          have hst := hM2.store hlt hml hO
          clear hx hx' hM
          have e1 : mk1 k m = .int .u8 ((31 * (k : Int) + 3 * (m : Int) + 1) % 256) := val_int (by omega)
          rw [e1] at hst
          go_wp2_with fail
          exact ⟨⟨m + 1, by omega, by go_num, hst⟩, by simp [intOf]; omega⟩
        · obtain rfl : m = Lo k := by omega
          have hnx := hM2.next hlt
          clear hM hM2
          go_wp2_with fail
          exact ⟨⟨k + 1, by omega, by go_num, hnx⟩, by simp [intOf]; omega⟩
    · obtain rfl : k = n := by omega
      have hG0 := gw_zero hM hB
      clear hM hM0
      go_wp2_with fail
      generalize wr.alloc (.cells #[] 22) = Wg at hG0 ⊢
      obtain ⟨i0, hi, hz0, hz1, hz2⟩ := info_parts info22
      go_loopw [6, 40] (fun vg i ws => ∃ (q : Nat) (V : Nat → Value), q ≤ k ∧ i = .int .i64 q ∧ Gw B k Lb O V Lo w q q vg ws) (fun _ i _ => k - (intOf i).toNat)
      case atStart => exact ⟨0, fun _ => undef, by omega, rfl, hG0⟩
      case round =>
        obtain ⟨q, V, hq, rfl, hG⟩ := hrel
        by_cases hqk : q < k
        · obtain ⟨hG1, hC1⟩ := gw_begin hsep hG hqk
          have hc := gw_cell hG hqk
          obtain ⟨a, c, hO, hform, hcm⟩ := h.form hqk
          have hLo := hbig q hqk
          rw [hO] at hc hC1
          clear hG hG0
          go_wp2_with fail
          go_loopw [8] (fun x wt => ∃ (m : Nat) (ax : Option Addr) (cx : Nat), m ≤ 10 ∧ x = .slice ax (Lo q + m) cx ∧ Gw B k Lb O V Lo w q (q + 1) u6 wt ∧ Cu B k O V Lo q m x wt) (fun x _ => Lo q + 10 - lenV x)
          case atStart => exact ⟨0, a, c, by omega, rfl, hG1, hC1⟩
          case round =>
            obtain ⟨m, ax, cx, hm, rfl, hG2, hC2⟩ := hrel
            have hlv : Hid (lenV (.slice ax (Lo q + m) cx) = Lo q + m) := hide1 rfl
            clear hG1 hC1 hc
            by_cases hm10 : m < 10
            · have hz : (((31 * q + 3 * (Lo q + m) + 1) % 256 : Nat) : Int) = (31 * (q : Int) + 3 * ((Lo q : Int) + (m : Int)) + 1) % 256 := by omega
              have hzb := mk1_byte q (Lo q + m)
              rw [hz] at hzb
              have hbw := Nat.le_trans hB hG2.bel.size
              go_wp2_with (at_builtin; refine wpList_append_one rfl (.tmp 52) (.tmp 61) rfl B _ _ _ rfl (hC2.cur.alloc _) ⟨wr.heap.size, 0, none⟩ 1 _ rfl (bs_one _ _ hzb) (by omega) (by simp; omega) ?_; intro v5 w5 h5a h5b h5c h5d; refine stopAt ?_)
              refine hide1 ?_
              have h5a' : w5.ownsRow B 5 1 v5 (Lo q + m + 1) (mks q (Lo q + m) ++ [mk1 q (Lo q + m)]) := by
                unfold mk1; rw [hz]; exact h5a
              obtain ⟨hG3, hC3⟩ := gw_step hB hOw hG2 hC2 hqk h5a' h5b h5c h5d
              obtain ⟨g5, c5, rfl⟩ := ownsRow_succ h5a
              clear h5a h5a' h5b h5c h5d hG2 hC2
              go_wp2_with fail
              exact ⟨⟨m + 1, _, _, by omega, rfl, hG3, hC3⟩, by simp only [lenV]; omega⟩
            · obtain rfl : m = 10 := by omega
              have hLb : Lb < w.heap.size := by obtain ⟨cs, fr, hc, _⟩ := h.row; exact (Array.getElem?_eq_some_iff.1 hc).1
              have hgs : w.heap.size ≤ wr.heap.size := hG2.bel.size
              have hgl := hG2.gro
              go_wp2_with (at_builtin; refine wpList_append_own _ rfl (.tmp 63) (.tmp 65) 32 rfl w.heap.size 22 i0 (.slice none 0 0) 1 24 Try.underlying32 hi hz0 hz1 hz2 rfl (by decide) _ q _ rfl (hgl.alloc _) ⟨wr.heap.size, 0, none⟩ 1 1 [_] rfl rfl (cell_one_new _ _ _) (by simp [Value.oneCell']) (by unfold maxLen; omega) (by omega) (by simp; omega) ?_; intro v5 w5 h5a h5b _; refine stopAt ?_)
              refine hide1 ?_
              have hG3 := gw_end hB hOw hLb hG2 hC2 hqk h5a h5b
              clear h5a h5b hG2 hC2 hgl
              go_wp2_with fail
              exact ⟨⟨q + 1, _, by omega, by go_num, hG3⟩, by simp [intOf]; omega⟩
        · obtain rfl : q = k := by omega
          clear hG0
          obtain ⟨ag, cg, rfl, hgf, hgm⟩ := row22 hG.gro
          go_wp2_with fail
          go_loopw [70] (fun i ws => ∃ r : Nat, r ≤ q ∧ i = .int .i64 r ∧ Gw B q Lb O V Lo w q q (.slice ag q cg) ws) (fun i _ => q - (intOf i).toNat)
          case atStart => exact ⟨0, by omega, rfl, hG⟩
          case round =>
            clear hG
            obtain ⟨r, hr, rfl, hG⟩ := hrel
            by_cases hrq : r < q
            · obtain ⟨gg, rfl⟩ := hgf (by omega)
              have hcg := hG.gro.cellAt r (by omega)
              rw [List.getElem?_map, List.getElem?_range hrq] at hcg
              have hgr := hG.grn r hrq
              have e10 : Lo r + 10 = Lo r + 9 + 1 := by omega
              rw [e10] at hgr
              obtain ⟨gv, cv, hV⟩ := ownsRow_succ hgr
              rw [← e10] at hV
              have hLo := hbig r hrq
              simp only [Option.map_some, hV] at hcg
              go_wp2_with fail
              go_loopw [77] (fun i ws => ∃ j : Nat, j ≤ Lo r + 10 ∧ i = .int .i64 j ∧ Gw B q Lb O V Lo w q q (.slice (some ⟨gg, 0, none⟩) q cg) ws) (fun i _ => Lo r + 10 - (intOf i).toNat)
              case atStart => exact ⟨0, by omega, rfl, hG⟩
              case round =>
                clear hG hcg hgr
                obtain ⟨j, hj, rfl, hG⟩ := hrel
                by_cases hjl : j < Lo r + 10
                · have hcl := gw_cell hG hrq
                  obtain ⟨a, c, hO, hform, hcm⟩ := h.form hrq
                  have e1 : mk1 r j = .int .u8 ((31 * (r : Int) + 3 * (j : Int) + 1) % 256) := val_int (by omega)
                  have hgr2 := hG.grn r hrq
                  rw [hV] at hgr2
                  have hcv := hgr2.cellAt j (by omega)
                  rw [mks_get r _ j hjl, e1] at hcv
                  have hne : (((31 * (r : Int) + 3 * (j : Int) + 1) % 256) != ((31 * (r : Int) + 3 * (j : Int) + 1) % 256)) = false := by simp
                  rw [hO] at hcl
                  by_cases hjo : j < Lo r
                  · obtain ⟨go, rfl⟩ := hform (by omega)
                    have hco := hG.old r hrq go (by rw [hO]; rfl) j hjo
                    rw [e1] at hco
                    have hd : decide ((j : Int) < (Lo r : Int)) = true := decide_eq_true (by omega)
                    clear hgr2
                    go_wp2
                    go_quiet (fail)
                    go_wp2
                    exact ⟨⟨j + 1, by omega, by go_num, gw_later hB hG (below_drewN (Below.refl _ _) nq)⟩, by simp [intOf]; omega⟩
                  · have hd : decide ((j : Int) < (Lo r : Int)) = false := decide_eq_false (by omega)
                    clear hgr2
                    go_wp2
                    go_quiet (fail)
                    go_wp2
                    exact ⟨⟨j + 1, by omega, by go_num, gw_later hB hG (below_drewN (Below.refl _ _) nq)⟩, by simp [intOf]; omega⟩
                · go_wp2
                  exact ⟨⟨r + 1, by omega, by go_num, hG⟩, by simp [intOf]; omega⟩
            · go_wp2
              go_ret
              exact ⟨rfl, hG.bel, hG.ko⟩

theorem apart_d (n cap Lb B : Nat) (O : Nat → Value) (Lo : Nat → Nat) (w : World) (h : Lists B n Lb O Lo w) (hB : B ≤ w.heap.size) :
    Calls Try.prog 17 #[.slice (some ⟨Lb, 0, none⟩) n cap] w fun e w' => e = .returned (.bool true) ∧ Below B w w' :=
  (apart_k n cap Lb B O Lo w h hB).mono fun _ _ h => ⟨h.1, h.2.1⟩
end Go.Proofs.Ytmbjdegfgidadaa

namespace Go.Proofs.Ytmbjdegfgidadaa
open Go.RowKit

/-- Three lists. -/
def thr {α : Type} (x y z : α) (i : Nat) : α := if i = 0 then x else if i = 1 then y else z
theorem lists3 {W : World} {B lu lv lz : Nat} {u v z : Value} {xs ys zs : List Value} (hu : W.ownsRow B 5 1 u lu xs) (hv : W.ownsRow B 5 1 v lv ys) (hz : W.ownsRow B 5 1 z lz zs) (h1 : Ne2 u v) (h2 : Ne2 u z) (h3 : Ne2 v z) (b1 : lu ≤ 140737488351232) (b2 : lv ≤ 140737488351232) (b3 : lz ≤ 140737488351232) : Lists B 3 W.heap.size (thr u v z) (thr lu lv lz) (W.alloc (.cells #[u, v, z] 22)) := by
  refine ⟨?_, ?_, ⟨#[u, v, z], (0, 0), World.alloc_heap_new W _, ?_⟩, ?_, by omega⟩
  · intro i hi
    rcases (show i = 0 ∨ i = 1 ∨ i = 2 by omega) with rfl | rfl | rfl
    · exact ⟨xs, hu.alloc _⟩
    · exact ⟨ys, hv.alloc _⟩
    · exact ⟨zs, hz.alloc _⟩
  · intro i j hi hj hij
    rcases (show i = 0 ∨ i = 1 ∨ i = 2 by omega) with rfl | rfl | rfl <;> rcases (show j = 0 ∨ j = 1 ∨ j = 2 by omega) with rfl | rfl | rfl
    · exact absurd rfl hij
    · exact h1
    · exact h2
    · exact h1.symm
    · exact absurd rfl hij
    · exact h3
    · exact h2.symm
    · exact h3.symm
    · exact absurd rfl hij
  · intro i hi
    rcases (show i = 0 ∨ i = 1 ∨ i = 2 by omega) with rfl | rfl | rfl <;> rfl
  · intro i hi
    rcases (show i = 0 ∨ i = 1 ∨ i = 2 by omega) with rfl | rfl | rfl
    · exact b1
    · exact b2
    · exact b3
/-- A row of a later call's own lies apart from an earlier one. -/
theorem ne2_later {w w' : World} {B e e' : Nat} {u v : Value} {n m : Nat} {xs ys : List Value} (hu : w.ownsRow B e 1 u n xs) (hv : w'.ownsRow w.heap.size e' 1 v m ys) : Ne2 v u := by
  cases hb : v.ownBlock with
  | none => exact .inl hb
  | some g => exact .inr (fun e => by
      have h1 := (hv.lt g hb).1
      have h2 := (hu.lt g (by rw [← e]; exact hb)).2
      omega)
theorem own_mono {W : World} {B B' e : Nat} {v : Value} {n : Nat} {xs : List Value} (h : W.ownsRow B' e 1 v n xs) (hB : B ≤ B') : W.ownsRow B e 1 v n xs := by
  refine ⟨h.1, ?_⟩
  rcases h.2 with e | ⟨q, cap, cur, rfl, hb, r⟩
  · exact .inl e
  · exact .inr ⟨q, cap, cur, rfl, Nat.le_trans hB hb, r⟩

set_option maxHeartbeats 8000000 in
set_option maxRecDepth 100000 in
theorem codes_walk (a : Option Addr) (len cap : Nat) (zs : List Int) (w : World) (hb : Bs w a len zs) :
    Calls Try.prog 3 #[.slice a len cap] w fun e w' => e = .returned (.bool true) ∧ Below w.heap.size w w' := by
  have hz : Byt zs := hb.2.1
  go_enter Try.func3, Try.ntmps3
  go_wp2_with fail
  refine (alive_t _).mono ?_
  rintro e w1 ⟨rfl, hw1⟩
  by_cases hL : 5000 < len
  · go_wp2_with fail
    go_ret
    exact ⟨rfl, hw1⟩
  have hL' : len ≤ 5000 := by omega
  have hlz := hb.1
  have hs1 := hw1.size
  go_wp2_with fail
  refine (copy_o _ _ _ _ _ (hb.later hw1) (by omega)).mono ?_
  rintro e w2 ⟨g, cp, rfl, hk, hoc, hw2⟩
  go_wp2_with fail
  refine (hex_d _ _ _ _ _ hk.bs (by omega)).mono ?_
  rintro e w3 ⟨rfl, hw3⟩
  have hk3 := hk.later hw3
  have hoc3 := owns_later hoc hw3
  have hwc := bl2 hw2 hw3
  clear hw2 hw3 hk hoc
  go_wp2_with fail
  refine (base64_d _ _ _ _ _ hk3.bs (by omega)).mono ?_
  rintro e w4 ⟨rfl, hw4⟩
  have hk4 := hk3.later hw4
  have hoc4 := owns_later hoc3 hw4
  have hwc4 := bl2 hwc hw4
  clear hwc hw4 hk3 hoc3
  have hle : (hexE zs).length ≤ 1000000 := by rw [hexE_len]; omega
  have hlb : (b64E zs).length ≤ 1000000 := by have := b64E_len zs; omega
  have U1 := unhex_d (hexE zs) (hexE_byt zs hz) hle w4
  rw [ga4_hexE zs hz] at U1
  obtain ⟨SH, hSH⟩ : ∃ S, Hid (S = strOfNums (hexE zs)) := ⟨_, hide1 rfl⟩
  obtain ⟨SB, hSB⟩ : ∃ S, Hid (S = strOfNums (b64E zs)) := ⟨_, hide1 rfl⟩
  rw [← hSH.out] at U1 ⊢
  rw [← hSB.out]
  go_wp2_with fail
  refine U1.mono ?_
  rintro e w5 ⟨⟨v5, rfl, ho5⟩, hw5⟩
  clear U1
  have n5 := ne2_later hoc4 ho5
  have hk5 := hk4.later hw5
  have hoc5 := owns_later hoc4 hw5
  have hwc5 := bl2 hwc4 hw5
  have ho5' := own_mono ho5 (show w1.heap.size ≤ w4.heap.size from hwc4.size)
  clear hwc4 hk4 hoc4 hw5
  have U2 := unbase64_d (b64E zs) (b64E_byt zs hz) hlb w5
  rw [d64_b64E zs hz, ← hSB.out] at U2
  go_wp2_with fail
  refine U2.mono ?_
  rintro e w6 ⟨⟨v6, rfl, ho6⟩, hw6⟩
  clear U2
  have n6' := ne2_later hoc5 ho6
  have m6 := ne2_later ho5 ho6
  have hk6 := hk5.later hw6
  have hoc6 := owns_later hoc5 hw6
  have ho56 := owns_later ho5' hw6
  have ho6' := own_mono ho6 (show w1.heap.size ≤ w5.heap.size from hwc5.size)
  have hwc6 := bl2 hwc5 hw6
  clear hwc5 hk5 hoc5 hw6 ho5 ho5' ho6
  rw [hlz] at ho56 ho6'
  obtain ⟨a5, c5, rfl, hb5, _⟩ := bs_owned ho56 hz
  obtain ⟨a6, c6, rfl, hb6, _⟩ := bs_owned ho6' hz
  have hb6w := hb.later (bl2 hw1 hwc6)
  go_wp2_with fail
  refine (refHex_d _ _ _ _ _ hb6w (by omega)).mono ?_
  rintro e w7 ⟨rfl, hw7⟩
  rw [← hSH.out]
  have hk7 := hk6.later hw7
  have hoc7 := owns_later hoc6 hw7
  have hx7 := owns_later ho56 hw7
  have hy7 := owns_later ho6' hw7
  have hwc7 := bl2 hwc6 hw7
  have hb7 := hb6w.later hw7
  clear hk6 hoc6 ho56 ho6' hwc6 hb6w hw7 hb5 hb6
  go_wp2_with fail
  refine (refBase64_d _ _ _ _ _ hb7 (by omega)).mono ?_
  rintro e w8 ⟨rfl, hw8⟩
  rw [← hSB.out]
  have hk8 := hk7.later hw8
  have hoc8 := owns_later hoc7 hw8
  have hx8 := owns_later hx7 hw8
  have hy8 := owns_later hy7 hw8
  have hwc8 := bl2 hwc7 hw8
  have hb8 := hb7.later hw8
  clear hk7 hoc7 hx7 hy7 hwc7 hb7 hw8
  obtain ⟨_, _, e5, hb5, _⟩ := bs_owned hx8 hz
  cases e5
  obtain ⟨_, _, e6, hb6, _⟩ := bs_owned hy8 hz
  cases e6
  go_wp2_with fail
  refine (same_eq hb5 hb8).mono ?_
  rintro e w9 ⟨rfl, rfl⟩
  go_wp2_with fail
  refine (same_eq hb6 hb8).mono ?_
  rintro e w9 ⟨rfl, rfl⟩
  go_wp2_with fail
  refine (kept_any _ _ _ _ _ _ _ hk8 hb8).mono ?_
  rintro e w9 ⟨rfl, rfl⟩
  go_wp2_with fail
  have hB := hwc8.size
  refine (apart_d 3 3 w9.heap.size w1.heap.size _ _ _ (lists3 hx8 hy8 hoc8 m6.symm n5 n6' (by omega) (by omega) (by omega)) (by simp; omega)).mono ?_
  rintro e w10 ⟨rfl, hw10⟩
  have hwT : Below w1.heap.size w1 w10 := (hwc8.alloc hB _).trans hw10
  go_wp2_with fail
  go_ret
  exact ⟨rfl, bl2 hw1 hwT⟩
end Go.Proofs.Ytmbjdegfgidadaa

/- J20, J21, J9, J22, J24, J25, J26, J27, J28, J29: laid together. -/
import Derived.BigQuiet
import Derived.Sort.AtCall
import Derived.Test.YtfmjknknckjdiaaG1
namespace Go.Proofs.Ytfmjknknckjdiaa
open Go.RowKit

/-- One byte more behind a row of the call's own. -/
theorem run_append_one (w : World) (base ty : Nat) (x : Value) (n : Nat) (xs : List Value) (hown : w.ownsRow base 5 1 x n xs) (ad : Addr) (c : Nat) (z : Int) (hb : Bs w (some ad) 1 [z]) (hbytes : n + 1 ≤ 140737488355328) (hbase : base ≤ w.heap.size) :
    ∃ v' w', (Builtin.append_ #[22, 22] ty #[x, .slice (some ad) 1 c]).run Try.prog w = .ok v' w' ∧ w'.ownsRow base 5 1 v' (n + 1) (xs ++ [.int .u8 z]) ∧ w.grownBy w' x.ownBlock ∧ (∀ g, x.ownBlock = some g → ∀ j, j < n → w'.cell? ⟨g, j, none⟩ = w.cell? ⟨g, j, none⟩) ∧
      (v'.ownBlock = x.ownBlock ∨ ∃ g', v'.ownBlock = some g' ∧ w.heap.size ≤ g') := by
  obtain ⟨i0, hi, hz0, hz1, hz2⟩ := info_parts info5
  have hnews : ∀ j u, (byteVals [z])[j]? = some u → w.cell? (ad.add j) = some u := by
    intro j u hj
    obtain ⟨b, off, e, hc⟩ := hb.2.2 (by omega)
    cases e
    cases j with
    | zero =>
      have := hc 0 (by omega)
      rw [Addr.add_lit, this]
      simp [byteVals] at hj
      simp [hj]
    | succ j => simp [byteVals] at hj
  obtain ⟨v', w', hr, h1, h2⟩ := run_append_bs w base ty x n xs hown (some ad) 1 c [z] hb hbytes hbase
  refine ⟨v', w', hr, h1, h2, ?_, ?_⟩
  · intro g hg j hj
    rcases hown.2 with ⟨rfl, _⟩ | ⟨g', cap, cur, rfl, _⟩
    · cases hg
    · cases hg
      obtain ⟨v2, w2, hr2, _, _, hk⟩ := run_append_keep w base ty g' n cap xs hown ad 1 c [z] hb hbytes hbase
      rw [hr] at hr2
      cases hr2
      exact hk j hj
  · rcases hown.2 with ⟨rfl, rfl⟩ | ⟨g, cap, cur, rfl, _⟩
    · have hr2 := run_append_nil (P := Try.prog) w 22 ty 5 i0 (.int .u8 0) Try.underlying22 hi hz0 ad 1 c (byteVals [z]) (by rw [hz1]; rfl) hnews (by omega) (by omega) (by rw [hz2]; omega)
      rw [hr] at hr2
      cases hr2
      exact .inr ⟨_, rfl, Nat.le_refl _⟩
    · by_cases hroom : n + 1 ≤ cap
      · obtain ⟨w2, hr2, _, _⟩ := run_append_own_spare (P := Try.prog) w base 22 ty 5 i0 1 Try.underlying22 hi hz1 g n cap xs hown ad 1 c (byteVals [z]) rfl hnews (by intro u hu; simp [byteVals] at hu; subst hu; rfl) hroom
        rw [hr] at hr2
        cases hr2
        exact .inl rfl
      · have hr2 := run_append_grow (P := Try.prog) w 22 ty 5 i0 (.int .u8 0) Try.underlying22 hi hz0 ⟨g, 0, none⟩ n cap xs (by rw [hz1]; have := hown.1; omega) (hown.cells rfl) ad 1 c (byteVals [z]) (by rw [hz1]; rfl) hnews (by omega) (by omega) (growslice_fits (by omega) (by rw [hz2]; omega))
        rw [hr] at hr2
        cases hr2
        exact .inr ⟨_, rfl, Nat.le_refl _⟩

theorem wpList_append_one {w : World} {ops : Array Oper} {rest : List Oper} {o : Oper} {a : Act} {Q : Exit → Act → World → Prop} (hgd : o.guard = none) (s y : Operand)
    (ho : o.op = .call { callee := .builtin .append, args := #[s, y], argTypes := #[22, 22] }) (base : Nat) (x : Value) (n : Nat) (xs : List Value) (hs : a.eval s = x) (hown : w.ownsRow base 5 1 x n xs) (ad : Addr) (c : Nat) (z : Int) (hy : a.eval y = .slice (some ad) 1 c) (hb : Bs w (some ad) 1 [z])
    (hbytes : n + 1 ≤ 140737488355328) (hbase : base ≤ w.heap.size)
    (h : ∀ v' w', w'.ownsRow base 5 1 v' (n + 1) (xs ++ [.int .u8 z]) → w.grownBy w' x.ownBlock → (∀ g, x.ownBlock = some g → ∀ j, j < n → w'.cell? ⟨g, j, none⟩ = w.cell? ⟨g, j, none⟩) → (v'.ownBlock = x.ownBlock ∨ ∃ g', v'.ownBlock = some g' ∧ w.heap.size ≤ g') → wpList Try.prog ops Q rest (a.put o.dst v') w') : wpList Try.prog ops Q (o :: rest) a w := by
  refine wpList_plain hgd fun K hK => ?_
  obtain ⟨v', w', hr, h2, h3, h4, h5⟩ := run_append_one w base o.type x n xs hown ad c z hb hbytes hbase
  unfold Oper.wp execOp
  simp only [ho, resolve, invoke, builtin, Sem.run_bind, Sem.run_pure, Result.andThen_ok, List.map_toArray, List.map_cons, List.map_nil, hs, hy, hr]
  exact hK _ _ (h v' w' h2 h3 h4 h5)

theorem mk1_byte (i j : Nat) : 0 ≤ (((31 * i + 3 * j + 1) % 256 : Nat) : Int) ∧ (((31 * i + 3 * j + 1) % 256 : Nat) : Int) < 256 := by omega

/-- What the second loop has of all lists but the one at hand: the first k are grown (V), those behind k are marked. -/
structure Gw (B n Lb : Nat) (O V : Nat → Value) (Lo : Nat → Nat) (w : World) (k k' : Nat) (vg : Value) (W : World) : Prop where
  row : ∃ cs fr, W.heap[Lb]? = some (.cells cs 22 fr) ∧ ∀ i, i < n → cs[i]? = some (O i)
  own : ∀ i, i < n → k' ≤ i → W.ownsRow B 5 1 (O i) (Lo i) (mks i (Lo i))
  grn : ∀ i, i < k → W.ownsRow B 5 1 (V i) (Lo i + 10) (mks i (Lo i + 10))
  old : ∀ i, i < k → ∀ g, (O i).ownBlock = some g → ∀ j, j < Lo i → W.cell? ⟨g, j, none⟩ = some (mk1 i j)
  sepV : ∀ i j, i < k → j < n → i ≠ j → Ne2 (V i) (O j)
  gro : W.ownsRow w.heap.size 22 1 vg k ((List.range k).map V)
  bel : Below B w W
  ko : KeepsOthers w W

/-- An own row's block holds cells. -/
theorem own_cells {W : World} {B : Nat} {e : TypeId} {v : Value} {n : Nat} {xs : List Value} (h : W.ownsRow B e 1 v n xs) (j : Nat) (o : Obj) (hj : v.ownBlock = some j) (ho : W.heap[j]? = some o) : o.isCells = true := by
  rcases h.2 with ⟨rfl, _⟩ | ⟨g, cap, cur, rfl, _, hg, _⟩
  · simp [Value.ownBlock] at hj
  · simp only [Value.ownBlock, Option.some.injEq] at hj
    subst hj
    rw [hg] at ho
    cases ho
    rfl

/-- The list at hand, with m bytes more. -/
structure Cu (B n : Nat) (O V : Nat → Value) (Lo : Nat → Nat) (k m : Nat) (x : Value) (W : World) : Prop where
  cur : W.ownsRow B 5 1 x (Lo k + m) (mks k (Lo k + m))
  oldk : ∀ g, (O k).ownBlock = some g → ∀ j, j < Lo k → W.cell? ⟨g, j, none⟩ = some (mk1 k j)
  sepO : ∀ i, i < n → i ≠ k → Ne2 (O i) x
  sepV : ∀ i, i < k → Ne2 (V i) x
  same : x.ownBlock = (O k).ownBlock ∨ ∃ g, x.ownBlock = some g ∧ ∀ g', (O k).ownBlock = some g' → g' ≠ g

theorem ne2_new {u v x : Value} {S : Nat} (h : Ne2 u x) (hu : ∀ g, u.ownBlock = some g → g < S) (hv : v.ownBlock = x.ownBlock ∨ ∃ g', v.ownBlock = some g' ∧ S ≤ g') : Ne2 u v := by
  rcases hv with e | ⟨g', e, hg⟩
  · unfold Ne2; rw [e]; exact h
  · cases hu' : u.ownBlock with
    | none => exact .inl hu'
    | some g => exact .inr (by rw [e, hu']; intro e2; have := hu g hu'; have := Option.some.inj e2; omega)
theorem kept_ne {w w' : World} {B : Nat} {e : TypeId} {u x : Value} {n : Nat} {xs : List Value} (h : w.ownsRow B e 1 u n xs) (hg : w.grownBy w' x.ownBlock) (hn : Ne2 u x) : w'.ownsRow B e 1 u n xs := h.kept hg hn
theorem cells_ne {w w' : World} {x u : Value} {g : Nat} (hg : w.grownBy w' x.ownBlock) (hu : u.ownBlock = some g) (hn : Ne2 u x) (hlt : g < w.heap.size) (j : Nat) : w'.cell? ⟨g, j, none⟩ = w.cell? ⟨g, j, none⟩ := by
  refine World.cell?_of_block (hg.block g hlt (fun e => ?_))
  rcases hn with h | h
  · rw [hu] at h; cases h
  · exact h (by rw [hu, e])

/-- One byte more behind the list at hand. -/
theorem gw_step {B n Lb : Nat} {O V : Nat → Value} {Lo : Nat → Nat} {w w' W : World} {k m : Nat} {vg x v : Value} (hB : B ≤ w.heap.size) (hOw : ∀ i, i < n → ∀ g, (O i).ownBlock = some g → g < w.heap.size) (h : Gw B n Lb O V Lo w k (k + 1) vg W) (c : Cu B n O V Lo k m x W) (hk : k < n)
    (ho : w'.ownsRow B 5 1 v (Lo k + m + 1) (mks k (Lo k + m) ++ [mk1 k (Lo k + m)])) {o : Obj} (hg : (W.alloc o).grownBy w' x.ownBlock) (hkeep : ∀ g, x.ownBlock = some g → ∀ j, j < Lo k + m → w'.cell? ⟨g, j, none⟩ = (W.alloc o).cell? ⟨g, j, none⟩)
    (hnew : v.ownBlock = x.ownBlock ∨ ∃ g', v.ownBlock = some g' ∧ (W.alloc o).heap.size ≤ g') : Gw B n Lb O V Lo w k (k + 1) vg w' ∧ Cu B n O V Lo k (m + 1) v w' := by
  have hsz : W.heap.size ≤ w'.heap.size := by have := hg.size; simp at this; omega
  have hlt : ∀ {e : TypeId} {u : Value} {l : Nat} {ys : List Value}, W.ownsRow B e 1 u l ys → ∀ g, u.ownBlock = some g → g < (W.alloc o).heap.size := by
    intro e u l ys hu g hg'
    have := (hu.lt g hg').2
    simp; omega
  have hcl : ∀ {u : Value} {g : Nat}, u.ownBlock = some g → Ne2 u x → g < W.heap.size → ∀ j, w'.cell? ⟨g, j, none⟩ = W.cell? ⟨g, j, none⟩ := by
    intro u g hu hn hl j
    rw [cells_ne hg hu hn (by simp; omega) j]
    exact World.cell?_of_block (Below.heap_alloc W o g hl)
  have hOlt : ∀ i, i < n → ∀ g, (O i).ownBlock = some g → g < (W.alloc o).heap.size := by
    intro i hi g hgi
    have := hOw i hi g hgi
    have := h.bel.size
    simp; omega
  refine ⟨⟨?_, ?_, ?_, ?_, h.sepV, ?_, ?_, (h.ko.trans (KeepsOthers.alloc _ _)).trans (KeepsOthers.of_grownBy hg (own_cells (c.cur.alloc o)))⟩, ⟨?_, ?_, ?_, ?_, ?_⟩⟩
  · obtain ⟨cs, fr, hc, hgt⟩ := h.row
    refine ⟨cs, fr, ?_, hgt⟩
    have hl := (Array.getElem?_eq_some_iff.1 hc).1
    rw [hg.block Lb (by simp; omega) (box_type' c.cur hc (by decide)), Below.heap_alloc W o Lb hl, hc]
  · intro i hi hki
    exact kept_ne ((h.own i hi hki).alloc o) hg (c.sepO i hi (by omega))
  · intro i hi
    exact kept_ne ((h.grn i hi).alloc o) hg (c.sepV i hi)
  · intro i hi g hgi
    intro j hj
    rw [hcl hgi (c.sepO i (by omega) (by omega)) (Nat.lt_of_lt_of_le (hOw i (by omega) g hgi) h.bel.size) j]
    exact h.old i hi g hgi j hj
  · exact (h.gro.alloc o).kept hg (own_type h.gro c.cur (by decide))
  · exact (h.bel.alloc (Nat.le_trans hB h.bel.size) o).grown hg (by have := h.bel.size; simp; omega) (fun j e => (c.cur.lt j e).1)
  · have e1 : Lo k + (m + 1) = Lo k + m + 1 := by omega
    rw [e1, mks_succ]
    exact ho
  · intro g hgk
    intro j hj
    have h1 := Nat.lt_of_lt_of_le (hOw k hk g hgk) h.bel.size
    rw [← c.oldk g hgk j hj]
    rcases c.same with e | ⟨g2, e, hne⟩
    · rw [hkeep g (by rw [e]; exact hgk) j (by omega)]
      exact World.cell?_of_block (Below.heap_alloc W o g h1)
    · exact hcl hgk (.inr (by rw [e, hgk]; intro e2; exact hne g hgk (Option.some.inj e2))) h1 j
  · intro i hi hne
    exact ne2_new (c.sepO i hi hne) (hOlt i hi) hnew
  · intro i hi
    exact ne2_new (c.sepV i hi) (hlt (h.grn i hi)) hnew
  · rcases hnew with e | ⟨g', e, hl⟩
    · rw [e]; exact c.same
    · refine .inr ⟨g', e, fun g2 hg2 => ?_⟩
      have := hOw k hk g2 hg2
      have := h.bel.size
      simp at hl
      omega

theorem gw_begin {B n Lb : Nat} {O V : Nat → Value} {Lo : Nat → Nat} {w W : World} {k : Nat} {vg : Value} (hs : ∀ i j, i < n → j < n → i ≠ j → Ne2 (O i) (O j)) (h : Gw B n Lb O V Lo w k k vg W) (hk : k < n) : Gw B n Lb O V Lo w k (k + 1) vg W ∧ Cu B n O V Lo k 0 (O k) W := by
  refine ⟨⟨h.row, fun i hi hk' => h.own i hi (by omega), h.grn, h.old, h.sepV, h.gro, h.bel, h.ko⟩, ⟨h.own k hk (Nat.le_refl _), ?_, fun i hi hne => hs i k hi hk hne, fun i hi => h.sepV i k hi hk (by omega), .inl rfl⟩⟩
  intro g hg
  have ho := h.own k hk (Nat.le_refl _)
  intro j hj
  have := ho.cells hg j (mk1 k j) (mks_get k _ j hj)
  rwa [Addr.add_lit, Nat.zero_add] at this

/-- The list at hand is grown: it stands among the grown ones. -/
theorem gw_end {B n Lb : Nat} {O V : Nat → Value} {Lo : Nat → Nat} {w W w' : World} {k : Nat} {vg x v : Value} {o : Obj} (hB : B ≤ w.heap.size) (hOw : ∀ i, i < n → ∀ g, (O i).ownBlock = some g → g < w.heap.size) (hL : Lb < w.heap.size) (h : Gw B n Lb O V Lo w k (k + 1) vg W) (c : Cu B n O V Lo k 10 x W) (hk : k < n)
    (ho : w'.ownsRow w.heap.size 22 1 v (k + 1) ((List.range k).map V ++ [x])) (hg : (W.alloc o).grownBy w' vg.ownBlock) : Gw B n Lb O (fun i => if i = k then x else V i) Lo w (k + 1) (k + 1) v w' := by
  have hsz : W.heap.size ≤ w'.heap.size := by have := hg.size; simp at this; omega
  have hkeep : ∀ {u : Value} {l : Nat} {ys : List Value}, W.ownsRow B 5 1 u l ys → w'.ownsRow B 5 1 u l ys := fun hu => (hu.alloc o).kept hg (own_type hu h.gro (by decide))
  have hcl : ∀ i, i < n → ∀ g, (O i).ownBlock = some g → ∀ j, w'.cell? ⟨g, j, none⟩ = W.cell? ⟨g, j, none⟩ := by
    intro i hi g hgi j
    have hl := hOw i hi g hgi
    have := h.bel.size
    refine (World.cell?_of_block (hg.block g (by simp; omega) (fun e => ?_))).trans (World.cell?_of_block (Below.heap_alloc W o g (by omega)))
    have := (h.gro.lt g e.symm).1
    omega
  refine ⟨?_, ?_, ?_, ?_, ?_, ?_, ?_, (h.ko.trans (KeepsOthers.alloc _ _)).trans (KeepsOthers.of_grownBy hg (own_cells (h.gro.alloc o)))⟩
  · obtain ⟨cs, fr, hc, hgt⟩ := h.row
    refine ⟨cs, fr, ?_, hgt⟩
    have hl := (Array.getElem?_eq_some_iff.1 hc).1
    rw [hg.block Lb (by simp; omega) (fun e => by have := (h.gro.lt Lb e.symm).1; omega), Below.heap_alloc W o Lb hl, hc]
  · intro i hi hki
    exact hkeep (h.own i hi hki)
  · intro i hi
    by_cases e : i = k
    · subst e; rw [if_pos rfl]; exact hkeep c.cur
    · rw [if_neg e]; exact hkeep (h.grn i (by omega))
  · intro i hi g hgi
    by_cases e : i = k
    · subst e
      exact fun j hj => (hcl i hk g hgi j).trans (c.oldk g hgi j hj)
    · exact fun j hj => (hcl i (by omega) g hgi j).trans (h.old i (by omega) g hgi j hj)
  · intro i j hi hj hne
    by_cases e : i = k
    · subst e; rw [if_pos rfl]; exact (c.sepO j hj (by omega)).symm
    · rw [if_neg e]; exact h.sepV i j (by omega) hj hne
  · have e1 : (List.range (k + 1)).map (fun i => if i = k then x else V i) = (List.range k).map V ++ [x] := by
      rw [List.range_succ, List.map_append]
      congr 1
      · apply List.map_congr_left
        intro i hi
        rw [if_neg (by have := List.mem_range.1 hi; omega)]
      · simp
    rw [e1]; exact ho
  · exact (h.bel.alloc (Nat.le_trans hB h.bel.size) o).grown hg (by have := h.bel.size; simp; omega) (fun j e => Nat.le_trans hB (h.gro.lt j e).1)
end Go.Proofs.Ytfmjknknckjdiaa

namespace Go.Proofs.Ytfmjknknckjdiaa
open Go.RowKit

theorem mk_zero {B n Lb : Nat} {O : Nat → Value} {Lo : Nat → Nat} {w : World} (h : Lists B n Lb O Lo w) : Mk B n Lb O Lo w 0 0 w :=
  ⟨h, fun i hi => absurd hi (by omega), fun h0 => by obtain ⟨xs, hx⟩ := h.own 0 h0; exact ⟨xs, hx, rfl⟩, Below.refl _ _, KeepsOthers.refl _⟩

theorem info22 : (Try.prog.info? 22).map (fun i => (i.zero, i.size, i.bytes)) = some (some (.slice none 0 0), 1, 24) := by kernel_rfl
theorem row22 {W : World} {base : Nat} {v : Value} {n : Nat} {xs : List Value} (h : W.ownsRow base 22 1 v n xs) : ∃ a c, v = .slice a n c ∧ (0 < n → ∃ g, a = some ⟨g, 0, none⟩) ∧ c ≤ 9223372036854775807 := by
  rcases h.2 with ⟨e, h0⟩ | ⟨g, cap, cur, e, _, _, _, hcm, _⟩
  · exact ⟨none, 0, by rw [e, h0], fun hp => absurd hp (by omega), by omega⟩
  · exact ⟨_, cap, e, fun _ => ⟨g, rfl⟩, by unfold maxLen at hcm; omega⟩
def lenV : Value → Nat
  | .slice _ l _ => l
  | _ => 0
theorem gw_zero {B n Lb : Nat} {O : Nat → Value} {Lo : Nat → Nat} {w W : World} (h : Mk B n Lb O Lo w n 0 W) (hB : B ≤ w.heap.size) : Gw B n Lb O (fun _ => undef) Lo w 0 0 (.slice (some ⟨W.heap.size, 0, none⟩) 0 0) (W.alloc (.cells #[] 22)) := by
  refine ⟨?_, fun i hi _ => (h.done i hi).alloc _, fun i hi => absurd hi (by omega), fun i hi => absurd hi (by omega), fun i j hi => absurd hi (by omega), World.ownsRow_lit W #[] 0 h.bel.size (Nat.zero_le _) rfl, ?_, h.ko.trans (KeepsOthers.alloc _ _)⟩
  · obtain ⟨cs, fr, hc, hg⟩ := h.ls.row
    exact ⟨cs, fr, (Below.heap_alloc W _ Lb (Array.getElem?_eq_some_iff.1 hc).1).trans hc, hg⟩
  · exact h.bel.trans ((below_one W _).mono (Nat.le_trans hB h.bel.size))
theorem gw_later {B n Lb : Nat} {O V : Nat → Value} {Lo : Nat → Nat} {w W W' : World} {k k' : Nat} {vg : Value} (hB : B ≤ w.heap.size) (h : Gw B n Lb O V Lo w k k' vg W) (hb : Below W.heap.size W W') : Gw B n Lb O V Lo w k k' vg W' := by
  refine ⟨?_, fun i hi hk => owns_later (h.own i hi hk) hb, fun i hi => owns_later (h.grn i hi) hb, fun i hi g hg j hj => cell_later hb (h.old i hi g hg j hj), h.sepV, owns_laterE h.gro hb, h.bel.trans (hb.mono (Nat.le_trans hB h.bel.size)), h.ko.trans (keeps_below hb)⟩
  obtain ⟨cs, fr, hc, hg⟩ := h.row
  exact ⟨cs, fr, (hb.block Lb (Array.getElem?_eq_some_iff.1 hc).1).trans hc, hg⟩
theorem gw_cell {B n Lb : Nat} {O V : Nat → Value} {Lo : Nat → Nat} {w W : World} {k k' : Nat} {vg : Value} (h : Gw B n Lb O V Lo w k k' vg W) {i : Nat} (hi : i < n) : W.cell? ⟨Lb, i, none⟩ = some (O i) := by
  obtain ⟨cs, fr, hc, hg⟩ := h.row
  simp [World.cell?, hc, hg i hi]

set_option maxRecDepth 100000 in
set_option maxHeartbeats 4000000 in
theorem apart_k (n cap Lb B : Nat) (O : Nat → Value) (Lo : Nat → Nat) (w : World) (h : Lists B n Lb O Lo w) (hB : B ≤ w.heap.size) :
    Calls Try.prog 16 #[.slice (some ⟨Lb, 0, none⟩) n cap] w fun e w' => e = .returned (.bool true) ∧ Below B w w' ∧ KeepsOthers w w' := by
  have hn := h.few
  have hOw : ∀ i, i < n → ∀ g, (O i).ownBlock = some g → g < w.heap.size := by
    intro i hi g hg
    obtain ⟨xs, hx⟩ := h.own i hi
    exact (hx.lt g hg).2
  have hsep := h.sep
  have hbig := h.big
  have hM0 := mk_zero h
  go_enter Try.func16, Try.ntmps16
  go_wp2_with fail
  go_loopw [15] (fun i wr => ∃ k : Nat, k ≤ n ∧ i = .int .i64 k ∧ Mk B n Lb O Lo w k 0 wr) (fun i _ => n - (intOf i).toNat)
  case atStart => exact ⟨0, by omega, rfl, hM0⟩
  case round =>
    obtain ⟨k, hk, rfl, hM⟩ := hrel
    by_cases hlt : k < n
    · have hc := hM.ls.cell hlt
      obtain ⟨a, c, hO, hform, hcm⟩ := hM.ls.form hlt
      have hLo := hbig k hlt
      rw [hO] at hc
      go_wp2_with fail
      go_loopw [22] (fun j ws => ∃ m : Nat, m ≤ Lo k ∧ j = .int .i64 m ∧ Mk B n Lb O Lo w k m ws) (fun j _ => Lo k - (intOf j).toNat)
      case atStart => exact ⟨0, by omega, rfl, hM⟩
      case round =>
        obtain ⟨m, hm, rfl, hM2⟩ := hrel
        by_cases hml : m < Lo k
        · obtain ⟨g, rfl⟩ := hform (by omega)
          obtain ⟨xs, hx, _⟩ := hM2.now hlt
          have hx' := hx
          rw [hO] at hx'
          have hxl : xs.length = Lo k := by have := hx.1; omega
          have hcm1 := hx'.cellAt m (by omega)
          rw [List.getElem?_eq_getElem (by omega)] at hcm1
          have hfm := hx'.frozenAt m
          have hst := hM2.store hlt hml hO
          clear hx hx' hM
          have e1 : mk1 k m = .int .u8 ((31 * (k : Int) + 3 * (m : Int) + 1) % 256) := val_int (by omega)
          rw [e1] at hst
          go_wp2_with fail
          exact ⟨⟨m + 1, by omega, by go_num, hst⟩, by simp [intOf]; omega⟩
        · obtain rfl : m = Lo k := by omega
          have hnx := hM2.next hlt
          clear hM hM2
          go_wp2_with fail
          exact ⟨⟨k + 1, by omega, by go_num, hnx⟩, by simp [intOf]; omega⟩
    · obtain rfl : k = n := by omega
      have hG0 := gw_zero hM hB
      clear hM hM0
      go_wp2_with fail
      generalize wr.alloc (.cells #[] 22) = Wg at hG0 ⊢
      obtain ⟨i0, hi, hz0, hz1, hz2⟩ := info_parts info22
      go_loopw [6, 40] (fun vg i ws => ∃ (q : Nat) (V : Nat → Value), q ≤ k ∧ i = .int .i64 q ∧ Gw B k Lb O V Lo w q q vg ws) (fun _ i _ => k - (intOf i).toNat)
      case atStart => exact ⟨0, fun _ => undef, by omega, rfl, hG0⟩
      case round =>
        obtain ⟨q, V, hq, rfl, hG⟩ := hrel
        by_cases hqk : q < k
        · obtain ⟨hG1, hC1⟩ := gw_begin hsep hG hqk
          have hc := gw_cell hG hqk
          obtain ⟨a, c, hO, hform, hcm⟩ := h.form hqk
          have hLo := hbig q hqk
          rw [hO] at hc hC1
          clear hG hG0
          go_wp2_with fail
          go_loopw [8] (fun x wt => ∃ (m : Nat) (ax : Option Addr) (cx : Nat), m ≤ 10 ∧ x = .slice ax (Lo q + m) cx ∧ Gw B k Lb O V Lo w q (q + 1) u6 wt ∧ Cu B k O V Lo q m x wt) (fun x _ => Lo q + 10 - lenV x)
          case atStart => exact ⟨0, a, c, by omega, rfl, hG1, hC1⟩
          case round =>
            obtain ⟨m, ax, cx, hm, rfl, hG2, hC2⟩ := hrel
            have hlv : Hid (lenV (.slice ax (Lo q + m) cx) = Lo q + m) := hide1 rfl
            clear hG1 hC1 hc
            by_cases hm10 : m < 10
            · have hz : (((31 * q + 3 * (Lo q + m) + 1) % 256 : Nat) : Int) = (31 * (q : Int) + 3 * ((Lo q : Int) + (m : Int)) + 1) % 256 := by omega
              have hzb := mk1_byte q (Lo q + m)
              rw [hz] at hzb
              have hbw := Nat.le_trans hB hG2.bel.size
              go_wp2_with (at_builtin; refine wpList_append_one rfl (.tmp 52) (.tmp 61) rfl B _ _ _ rfl (hC2.cur.alloc _) ⟨wr.heap.size, 0, none⟩ 1 _ rfl (bs_one _ _ hzb) (by omega) (by simp; omega) ?_; intro v5 w5 h5a h5b h5c h5d; refine stopAt ?_)
              refine hide1 ?_
              have h5a' : w5.ownsRow B 5 1 v5 (Lo q + m + 1) (mks q (Lo q + m) ++ [mk1 q (Lo q + m)]) := by
                unfold mk1; rw [hz]; exact h5a
              obtain ⟨hG3, hC3⟩ := gw_step hB hOw hG2 hC2 hqk h5a' h5b h5c h5d
              obtain ⟨g5, c5, rfl⟩ := ownsRow_succ h5a
              clear h5a h5a' h5b h5c h5d hG2 hC2
              go_wp2_with fail
              exact ⟨⟨m + 1, _, _, by omega, rfl, hG3, hC3⟩, by simp only [lenV]; omega⟩
            · obtain rfl : m = 10 := by omega
              have hLb : Lb < w.heap.size := by obtain ⟨cs, fr, hc, _⟩ := h.row; exact (Array.getElem?_eq_some_iff.1 hc).1
              have hgs : w.heap.size ≤ wr.heap.size := hG2.bel.size
              have hgl := hG2.gro
              go_wp2_with (at_builtin; refine wpList_append_own _ rfl (.tmp 63) (.tmp 65) 36 rfl w.heap.size 22 i0 (.slice none 0 0) 1 24 Try.underlying36 hi hz0 hz1 hz2 rfl (by decide) _ q _ rfl (hgl.alloc _) ⟨wr.heap.size, 0, none⟩ 1 1 [_] rfl rfl (cell_one_new _ _ _) (by simp [Value.oneCell']) (by unfold maxLen; omega) (by omega) (by simp; omega) ?_; intro v5 w5 h5a h5b _; refine stopAt ?_)
              refine hide1 ?_
              have hG3 := gw_end hB hOw hLb hG2 hC2 hqk h5a h5b
              clear h5a h5b hG2 hC2 hgl
              go_wp2_with fail
              exact ⟨⟨q + 1, _, by omega, by go_num, hG3⟩, by simp [intOf]; omega⟩
        · obtain rfl : q = k := by omega
          clear hG0
          obtain ⟨ag, cg, rfl, hgf, hgm⟩ := row22 hG.gro
          go_wp2_with fail
          go_loopw [70] (fun i ws => ∃ r : Nat, r ≤ q ∧ i = .int .i64 r ∧ Gw B q Lb O V Lo w q q (.slice ag q cg) ws) (fun i _ => q - (intOf i).toNat)
          case atStart => exact ⟨0, by omega, rfl, hG⟩
          case round =>
            clear hG
            obtain ⟨r, hr, rfl, hG⟩ := hrel
            by_cases hrq : r < q
            · obtain ⟨gg, rfl⟩ := hgf (by omega)
              have hcg := hG.gro.cellAt r (by omega)
              rw [List.getElem?_map, List.getElem?_range hrq] at hcg
              have hgr := hG.grn r hrq
              have e10 : Lo r + 10 = Lo r + 9 + 1 := by omega
              rw [e10] at hgr
              obtain ⟨gv, cv, hV⟩ := ownsRow_succ hgr
              rw [← e10] at hV
              have hLo := hbig r hrq
              simp only [Option.map_some, hV] at hcg
              go_wp2_with fail
              go_loopw [77] (fun i ws => ∃ j : Nat, j ≤ Lo r + 10 ∧ i = .int .i64 j ∧ Gw B q Lb O V Lo w q q (.slice (some ⟨gg, 0, none⟩) q cg) ws) (fun i _ => Lo r + 10 - (intOf i).toNat)
              case atStart => exact ⟨0, by omega, rfl, hG⟩
              case round =>
                clear hG hcg hgr
                obtain ⟨j, hj, rfl, hG⟩ := hrel
                by_cases hjl : j < Lo r + 10
                · have hcl := gw_cell hG hrq
                  obtain ⟨a, c, hO, hform, hcm⟩ := h.form hrq
                  have e1 : mk1 r j = .int .u8 ((31 * (r : Int) + 3 * (j : Int) + 1) % 256) := val_int (by omega)
                  have hgr2 := hG.grn r hrq
                  rw [hV] at hgr2
                  have hcv := hgr2.cellAt j (by omega)
                  rw [mks_get r _ j hjl, e1] at hcv
                  have hne : (((31 * (r : Int) + 3 * (j : Int) + 1) % 256) != ((31 * (r : Int) + 3 * (j : Int) + 1) % 256)) = false := by simp
                  rw [hO] at hcl
                  by_cases hjo : j < Lo r
                  · obtain ⟨go, rfl⟩ := hform (by omega)
                    have hco := hG.old r hrq go (by rw [hO]; rfl) j hjo
                    rw [e1] at hco
                    have hd : decide ((j : Int) < (Lo r : Int)) = true := decide_eq_true (by omega)
                    clear hgr2
                    go_wp2
                    go_quiet (fail)
                    go_wp2
                    exact ⟨⟨j + 1, by omega, by go_num, gw_later hB hG (below_drewN (Below.refl _ _) nq)⟩, by simp [intOf]; omega⟩
                  · have hd : decide ((j : Int) < (Lo r : Int)) = false := decide_eq_false (by omega)
                    clear hgr2
                    go_wp2
                    go_quiet (fail)
                    go_wp2
                    exact ⟨⟨j + 1, by omega, by go_num, gw_later hB hG (below_drewN (Below.refl _ _) nq)⟩, by simp [intOf]; omega⟩
                · go_wp2
                  exact ⟨⟨r + 1, by omega, by go_num, hG⟩, by simp [intOf]; omega⟩
            · go_wp2
              go_ret
              exact ⟨rfl, hG.bel, hG.ko⟩

theorem apart_d (n cap Lb B : Nat) (O : Nat → Value) (Lo : Nat → Nat) (w : World) (h : Lists B n Lb O Lo w) (hB : B ≤ w.heap.size) :
    Calls Try.prog 16 #[.slice (some ⟨Lb, 0, none⟩) n cap] w fun e w' => e = .returned (.bool true) ∧ Below B w w' :=
  (apart_k n cap Lb B O Lo w h hB).mono fun _ _ h => ⟨h.1, h.2.1⟩
end Go.Proofs.Ytfmjknknckjdiaa

namespace Go.Proofs.Ytfmjknknckjdiaa
open Go.RowKit

set_option maxHeartbeats 800000 in
theorem refPut_no (a : Option Addr) (len cap : Nat) (w : World) (h : 65536 < len) :
    Calls Try.prog 11 #[.slice a len cap] w fun e w' => e = .returned (.tuple #[.slice none 0 0, .bool false]) ∧ w' = w := by
  go_enter Try.func11, Try.ntmps11
  go_wp2
  go_ret2
  exact ⟨rfl, rfl⟩

set_option maxHeartbeats 800000 in
theorem refPut_d (a : Option Addr) (len cap : Nat) (zs : List Int) (w : World) (hb : Bs w a len zs) (h : len ≤ 65536) :
    Calls Try.prog 11 #[.slice a len cap] w fun e w' => ∃ v, e = .returned (.tuple #[v, .bool true]) ∧ w'.ownsRow w.heap.size 5 1 v (8 + len) (byteVals (put zs)) ∧ Below w.heap.size w w' := by
  have el := hb.1
  go_enter Try.func11, Try.ntmps11
  go_wp2_with fail
  refine (refBytes_own len (by omega) _).mono ?_
  rintro e w1 ⟨v1, rfl, hown1, hb1⟩
  obtain ⟨a1, c1, rfl, hbs1, hle1, _⟩ := bs_owned hown1 (bytesOf_bytes _)
  have hown0 := ownsRow_empty w1 w1.heap.size (Nat.le_refl _)
  have hbe := below_one w1 (.cells #[] 5)
  have hbs1' := hbs1.later hbe
  go_wp2_with (at_builtin; refine stopAt ?_)
  refine hide1 ?_
  refine wpList_append_bs rfl (.tmp 13) (.tmp 14) rfl w1.heap.size _ _ _ rfl hown0 _ _ _ _ rfl hbs1' (by omega) hbe.size ?_
  intro v2 w2 hown2 hg2
  have hb2 : Below w1.heap.size w1 w2 := hbe.grown hg2 hbe.size (fun j e => (hown0.lt j e).1)
  clear hown0 hbe hbs1' hg2
  go_wp2_with (at_builtin; refine wpList_append_bs rfl (.tmp 15) (.tmp 16) rfl w1.heap.size _ _ _ rfl hown2 _ _ _ _ rfl (hb.later (bl2 hb1 hb2)) (by omega) hb2.size ?_; intro v3 w3 hown3 hg3; have hb3 := hb2.grown hg3 hb2.size (fun j e => (hown2.lt j e).1); refine stopAt ?_)
  refine hide1 ?_
  rw [List.nil_append, byteVals_app] at hown3
  obtain ⟨a3, c3, rfl, hbs3, hle3, _⟩ := bs_owned hown3 (IsB.app (bytesOf_bytes _) hb.2.1)
  clear hown2 hg3 hown3 hb2
  go_wp2_with fail
  refine (refOf_any _ _ _ _ _ hbs3 (by omega)).mono ?_
  rintro e w4 ⟨rfl, rfl⟩
  have hown1' := owns_later hown1 hb3
  have hbw := bl2 hb1 hb3
  clear hown1 hbs1 hbs3 hb3 hb1
  go_wp2_with fail
  refine (refBytes_own _ (crcSum_lt _) _).mono ?_
  rintro e w5 ⟨v5, rfl, hown5, hb5⟩
  obtain ⟨a5, c5, rfl, hbs5, hle5, _⟩ := bs_owned hown5 (bytesOf_bytes _)
  have hown6 := owns_later hown1' hb5
  have hbw5 := bl2 hbw hb5
  clear hown1' hbw hb5 hown5
  go_wp2_with (at_builtin; refine stopAt ?_)
  refine hide1 ?_
  refine wpList_append_bs rfl (.tmp 19) (.tmp 21) rfl w.heap.size _ _ _ rfl hown6 _ _ _ _ rfl hbs5 (by omega) hbw5.size ?_
  intro v7 w7 hown7 hg7
  have hb7 := hbw5.grown hg7 hbw5.size (fun j e => (hown6.lt j e).1)
  clear hown6 hg7 hbs5 hbw5
  go_wp2_with (at_builtin; refine wpList_append_bs rfl (.tmp 22) (.tmp 23) rfl w.heap.size _ _ _ rfl hown7 _ _ _ _ rfl (hb.later hb7) (by omega) hb7.size ?_; intro v8 w8 hown8 hg8; have hb8 := hb7.grown hg8 hb7.size (fun j e => (hown7.lt j e).1); refine stopAt ?_)
  refine hide1 ?_
  rw [byteVals_app, byteVals_app, show bytesOf len ++ bytesOf (crcSum (bytesOf len ++ zs)) ++ zs = put zs by unfold put; rw [el], show 4 + 4 + len = 8 + len from rfl] at hown8
  go_wp2_with fail
  go_ret2
  exact ⟨_, rfl, hown8, hb8⟩
end Go.Proofs.Ytfmjknknckjdiaa

namespace Go.Proofs.Ytfmjknknckjdiaa
open Go.RowKit

theorem owns_pre {W : World} {B g n cap k : Nat} {xs : List Value} (h : W.ownsRow B 5 1 (.slice (some ⟨g, 0, none⟩) n cap) n xs) (hk : k ≤ n) : W.ownsRow B 5 1 (.slice (some ⟨g, 0, none⟩) k cap) k (xs.take k) := by
  obtain ⟨h1, h2⟩ := h
  rcases h2 with ⟨e, _⟩ | ⟨g', cap', cur, e, hb, hg, hn, hm, hs, ht⟩
  · cases e
  · cases e
    refine ⟨by simp; omega, .inr ⟨g, cap, cur, rfl, hb, hg, by omega, hm, hs, ?_⟩⟩
    rw [← ht, List.take_take, Nat.mul_one, Nat.mul_one, Nat.min_eq_left hk]

set_option maxHeartbeats 400000 in
theorem copy_o (a : Option Addr) (len cap : Nat) (zs : List Int) (w : World) (hb : Bs w a len zs) (hm : len ≤ 140737488351232) :
    Calls Try.prog 9 #[.slice a len cap] w fun e w' => ∃ g cap', e = .returned (.slice (some ⟨g, 0, none⟩) len cap') ∧ Kpt w' g len cap' zs ∧ w'.ownsRow w.heap.size 5 1 (.slice (some ⟨g, 0, none⟩) len cap') len (byteVals zs) ∧ Below w.heap.size w w' := by
  obtain ⟨i0, hi, hz0, hz1, hz2⟩ := info_parts info5
  obtain ⟨w1, hmk, hown0, hg0⟩ := run_make_own (P := Try.prog) w w.heap.size 22 5 i0 (.int .u8 0) 1 Try.underlying22 hi hz0 hz1 .i64 .i64 (len + 2) (by rw [hz2]; omega) (by unfold maxLen; omega) (Nat.le_refl _)
  have ec : ((len + 2 : Nat) : Int) = (len : Int) + 2 := by omega
  rw [ec] at hmk
  have hb1 : Below w.heap.size w w1 := (Below.refl _ _).grown hg0 (Nat.le_refl _) (fun k e => by cases e)
  have hbs1 := hb.later hb1
  clear ec hi hz0 hz1 hz2 hg0
  go_enter Try.func9, Try.ntmps9
  go_wp2_with (first
    | (at_builtin; refine wpList_append_bs rfl (.tmp 6) (.tmp 7) rfl w.heap.size (.slice (some ⟨w.heap.size, 0, none⟩) 0 (len + 2)) 0 [] rfl hown0 a len cap zs rfl hbs1 (by omega) hb1.size ?_; intro v2 w2 hown2 hg2; have hb2 := hb1.grown hg2 hb1.size (fun k e => (hown0.lt k e).1); clear hown0 hg2)
    | (at_builtin; refine wpList_append_bs rfl (.tmp 8) (.tmp 9) rfl w.heap.size v2 (0 + len) ([] ++ byteVals zs) rfl (hown2.alloc _) _ 2 2 [165, 90] rfl (bs_two _) (by omega) (by have := hb2.size; simp; omega) ?_; intro v3 w3 hown3 hg3; have hb3 := below_app hb2 (Nat.le_refl _) hown2 hg3; have hx3 := copy_end hown3; obtain ⟨g, cap3, hv3, hcap3, hm3, hc3⟩ := hx3; have HO := hide1 hown3; clear hown2 hg3 hown3))
  go_ret
  refine ⟨g, cap3, rfl, ⟨hb.1, hb.2.1, hcap3, hm3, hc3⟩, ?_, hb3⟩
  have h := HO.out
  rw [hv3, show 0 + len + 2 = len + 2 by omega] at h
  have h2 := owns_pre h (show len ≤ len + 2 by omega)
  rwa [List.nil_append, List.take_left' (by simp [byteVals, hb.1])] at h2

theorem as_err (v : Value) (w : World) : (Instr.typeAssert (.iface 33 v) 26 33 true).run Try.prog w = .ok (.tuple #[v, .bool true]) w := by kernel_rfl
set_option maxHeartbeats 400000 in
theorem num_ten (w : World) : Calls Try.prog 28 #[.iface 33 (.int .i64 10)] w fun e w' => e = .returned (.int .i64 10) ∧ w' = w := by
  have has := as_err (.int .i64 10)
  go_enter Try.func28, Try.ntmps28
  go_wp2
  go_ret
  exact ⟨rfl, rfl⟩
set_option maxHeartbeats 400000 in
theorem is_ten (w : World) : Calls Try.prog 14 #[.iface 33 (.int .i64 10), .int .i64 10] w fun e w' => e = .returned (.bool true) ∧ w' = w := by
  go_enter Try.func14, Try.ntmps14
  go_wp2_with fail
  refine (num_ten w).mono ?_
  rintro e w' ⟨rfl, rfl⟩
  go_wp2_with fail
  go_ret
  exact ⟨rfl, rfl⟩

/-- Two lists. -/
def two {α : Type} (x y : α) (i : Nat) : α := if i = 0 then x else y
theorem lists2 {W : World} {B lu lv : Nat} {u v : Value} {xs ys : List Value} (hu : W.ownsRow B 5 1 u lu xs) (hv : W.ownsRow B 5 1 v lv ys) (hne : Ne2 u v) (b1 : lu ≤ 140737488351232) (b2 : lv ≤ 140737488351232) : Lists B 2 W.heap.size (two u v) (two lu lv) (W.alloc (.cells #[u, v] 22)) := by
  refine ⟨?_, ?_, ⟨#[u, v], (0, 0), World.alloc_heap_new W _, ?_⟩, ?_, by omega⟩
  · intro i hi
    rcases (show i = 0 ∨ i = 1 by omega) with rfl | rfl
    · exact ⟨xs, hu.alloc _⟩
    · exact ⟨ys, hv.alloc _⟩
  · intro i j hi hj hij
    rcases (show i = 0 ∧ j = 1 ∨ i = 1 ∧ j = 0 by omega) with ⟨rfl, rfl⟩ | ⟨rfl, rfl⟩
    · exact hne
    · exact hne.symm
  · intro i hi
    rcases (show i = 0 ∨ i = 1 by omega) with rfl | rfl
    · rfl
    · rfl
  · intro i hi
    rcases (show i = 0 ∨ i = 1 by omega) with rfl | rfl
    · exact b1
    · exact b2
end Go.Proofs.Ytfmjknknckjdiaa

namespace Go.Proofs.Ytfmjknknckjdiaa
open Go.RowKit

theorem info45 : (Try.prog.info? 45).map (fun i => (i.zero, i.size, i.bytes)) = some (some (.agg #[.int .i64 0, .slice none 0 0]), 2, 32) := by kernel_rfl

theorem own_typeG {w : World} {base base' : Nat} {e e' : TypeId} {m m' : Nat} {v v' : Value} {n n' : Nat} {xs xs' : List Value} (h : w.ownsRow base e m v n xs) (h' : w.ownsRow base' e' m' v' n' xs') (hne : e ≠ e') : v.ownBlock = none ∨ v.ownBlock ≠ v'.ownBlock := by
  rcases h.2 with ⟨rfl, _⟩ | ⟨g, cap, cur, rfl, _, hg, _⟩
  · exact .inl rfl
  · right
    rcases h'.2 with ⟨rfl, _⟩ | ⟨g', cap', cur', rfl, _, hg', _⟩
    · simp [Value.ownBlock]
    · intro e1
      simp only [Value.ownBlock, Option.some.injEq] at e1
      subst e1
      rw [hg] at hg'
      simp only [Option.some.injEq, Obj.cells.injEq] at hg'
      exact hne hg'.2.1

/-- The first k records, as the document's answer holds them: where each begins, and a slice. -/
def outL (zs : List Int) (vs : Nat → Value) (k : Nat) : List Value := (List.range k).flatMap fun j => [.int .i64 (((rk zs j).1 : Nat) : Int), vs j]
theorem outL_succ (zs : List Int) (vs : Nat → Value) (k : Nat) : outL zs vs (k + 1) = outL zs vs k ++ [.int .i64 (((rk zs k).1 : Nat) : Int), vs k] := by simp [outL, List.range_succ]
theorem outL_length (zs : List Int) (vs : Nat → Value) (k : Nat) : (outL zs vs k).length = 2 * k := by
  induction k with
  | zero => rfl
  | succ k ih => rw [outL_succ, List.length_append, ih]; simp; omega
theorem outL_get (zs : List Int) (vs : Nat → Value) (k j : Nat) (h : j < k) : (outL zs vs k)[2 * j]? = some (.int .i64 (((rk zs j).1 : Nat) : Int)) ∧ (outL zs vs k)[2 * j + 1]? = some (vs j) := by
  induction k with
  | zero => omega
  | succ k ih =>
    rw [outL_succ]
    by_cases hj : j = k
    · subst hj
      rw [List.getElem?_append_right (by rw [outL_length]; omega), List.getElem?_append_right (by rw [outL_length]; omega), outL_length]
      simp [show 2 * j + 1 - 2 * j = 1 by omega]
    · obtain ⟨h1, h2⟩ := ih (by omega)
      rw [List.getElem?_append_left (by rw [outL_length]; omega), List.getElem?_append_left (by rw [outL_length]; omega)]
      exact ⟨h1, h2⟩
theorem outL_congr (zs : List Int) (vs us : Nat → Value) (k : Nat) (h : ∀ j, j < k → vs j = us j) : outL zs vs k = outL zs us k := by
  induction k with
  | zero => rfl
  | succ k ih => rw [outL_succ, outL_succ, ih (fun j hj => h j (by omega)), h k (by omega)]

/-- The state of the loop: k records have been found, up to place i. -/
def RSt (w : World) (zs : List Int) (k i : Nat) (x : Value) (W : World) : Prop :=
  ∃ vs f, W.ownsRow w.heap.size 45 2 x k (outL zs vs k) ∧ (∀ j, j < k → W.ownsRow w.heap.size 5 1 (vs j) (rk zs j).2 (byteVals (pay zs j))) ∧ recs zs = (recs zs).take k ++ recsN f i (zs.drop i) ∧ zs.length < i + f ∧ i ≤ zs.length ∧ k ≤ N zs ∧ k ≤ i ∧ Below w.heap.size w W

theorem rk_at {zs : List Int} {k f i n : Nat} (h : recs zs = (recs zs).take k ++ recsN (f + 1) i (zs.drop i)) (hk : k ≤ N zs) (hr : rec1 (zs.drop i) = some n) : rk zs k = (i, n) ∧ k < N zs ∧ recs zs = (recs zs).take (k + 1) ++ recsN f (i + 8 + n) (zs.drop (i + 8 + n)) := by
  rw [recsN_some hr, List.drop_drop, show i + (8 + n) = i + 8 + n by omega] at h
  have hl : ((recs zs).take k).length = k := by rw [List.length_take]; unfold N at hk; omega
  have hlt : k < (recs zs).length := by rw [h, List.length_append, hl]; simp
  have e : (recs zs)[k]? = some (i, n) := by rw [h, List.getElem?_append_right (by omega), hl]; simp
  refine ⟨by unfold rk; simp [List.getD_eq_getElem?_getD, e], hlt, ?_⟩
  conv => lhs; rw [h]
  rw [List.take_add_one, e]
  simp

theorem rst_zero (w : World) (zs : List Int) : RSt w zs 0 0 (.slice none 0 0) w := by
  refine ⟨fun _ => undef, zs.length + 1, World.ownsRow_nil w _ 45 2, fun j hj => absurd hj (by omega), rfl, by omega, Nat.zero_le _, Nat.zero_le _, Nat.le_refl _, Below.refl _ _⟩

theorem rst_end {w : World} {zs : List Int} {k i : Nat} {x : Value} {W : World} (h : RSt w zs k i x W) (hr : rec1 (zs.drop i) = none) : k = N zs := by
  obtain ⟨vs, f, _, _, h3, _, _, h6, _, _⟩ := h
  rw [recsN_none hr, List.append_nil] at h3
  have := congrArg List.length h3
  rw [List.length_take] at this
  unfold N at *
  omega

theorem rst_later {w W W' : World} {zs : List Int} {k i : Nat} {x : Value} (h : RSt w zs k i x W) (hb : Below W.heap.size W W') : RSt w zs k i x W' := by
  obtain ⟨vs, f, h1, h2, h3, h4, h5, h6, h7, h8⟩ := h
  refine ⟨vs, f, h1.kept (grown_of hb) (by cases x.ownBlock with | none => exact .inl rfl | some k => exact .inr (by simp)), fun j hj => ?_, h3, h4, h5, h6, h7, bl2 h8 hb⟩
  exact owns_later (h2 j hj) hb

/-- One record more. -/
theorem rst_next {w W W' : World} {zs : List Int} {k i n : Nat} {x v : Value} {a : Option Addr} {c : Nat} {o : Obj} (hr : rec1 (zs.drop i) = some n) (hbp : W.ownsRow w.heap.size 5 1 (.slice a n c) n (byteVals ((zs.drop (i + 8)).take n))) (vs : Nat → Value) (f : Nat)
    (h1 : W.ownsRow w.heap.size 45 2 x k (outL zs vs k)) (h2 : ∀ j, j < k → W.ownsRow w.heap.size 5 1 (vs j) (rk zs j).2 (byteVals (pay zs j))) (h3 : recs zs = (recs zs).take k ++ recsN f i (zs.drop i)) (h4 : zs.length < i + f) (h6 : k ≤ N zs) (h7 : k ≤ i) (h8 : Below w.heap.size w W)
    (ho : W'.ownsRow w.heap.size 45 2 v (k + 1) (outL zs vs k ++ [.int .i64 (i : Int), .slice a n c])) (hg : (W.alloc o).grownBy W' x.ownBlock) : RSt w zs (k + 1) (i + 8 + n) v W' := by
  obtain ⟨h8', _, hn, hln, _⟩ := rec1_some hr
  have hll : (zs.drop i).length = zs.length - i := List.length_drop
  rw [hll] at h8' hln
  obtain ⟨f, rfl⟩ : ∃ f', f = f' + 1 := ⟨f - 1, by omega⟩
  obtain ⟨e1, e2, e3⟩ := rk_at h3 h6 hr
  have hpay : pay zs k = (zs.drop (i + 8)).take n := by unfold pay; rw [e1]
  have hkb : ∀ {u : Value} {l : Nat} {ys : List Value}, W.ownsRow w.heap.size 5 1 u l ys → W'.ownsRow w.heap.size 5 1 u l ys := fun hu => (hu.alloc o).kept hg (own_typeG hu h1 (by decide))
  refine ⟨fun j => if j = k then .slice a n c else vs j, f, ?_, ?_, e3, by omega, by omega, e2, by omega, ?_⟩
  · rw [outL_succ, if_pos rfl, e1, outL_congr zs _ vs k (fun j hj => if_neg (by omega))]
    exact ho
  · intro j hj
    dsimp only
    by_cases e : j = k
    · subst e
      rw [if_pos rfl, hpay, e1]
      exact hkb hbp
    · rw [if_neg e]
      exact hkb (h2 j (by omega))
  · exact (h8.alloc h8.size o).grown hg (by have := h8.size; simp; omega) (fun j e => (h1.lt j e).1)
end Go.Proofs.Ytfmjknknckjdiaa

namespace Go.Proofs.Ytfmjknknckjdiaa
open Go.RowKit

theorem sl_at (b off len cap q n : Nat) (h : q + 8 + n ≤ cap) (w' : World) : (Instr.slice 22 (.slice (some ⟨b, off, none⟩) len cap) (some (.int .i64 (q : Int))) (some (.int .i64 ((q : Int) + 8 + (n : Int)))) none).run Try.prog w' = .ok (.slice (some ⟨b, off + q, none⟩) (q + 8 + n - q) (cap - q)) w' := by
  have h1 : (q : Int) ≤ (q : Int) + 8 + (n : Int) := by omega
  have h2 : (q : Int) + 8 + (n : Int) ≤ (cap : Int) := by omega
  have h3 : ¬ cap = q := by omega
  have hr := run_slice_lh (P := Try.prog) (w := w') 22 (some ⟨b, off, none⟩) len cap Try.underlying22 .i64 .i64 (q : Int) ((q : Int) + 8 + (n : Int)) (by omega) h1 h2
  rw [hr]
  have e1 : ((q : Int) + 8 + (n : Int)).toNat = q + 8 + n := by omega
  have e2 : ((q : Nat) : Int).toNat = q := by omega
  have hs : (sizeOf (Try.prog.elem 22)).run Try.prog w' = .ok 1 w' := by kernel_rfl
  rw [hs, e1, e2]
  simp [Result.andThen, sliced, h3, Addr.add_lit]

/-- What the document's All answers. -/
def AOut (w : World) (zs : List Int) (e : Ending) (w' : World) : Prop := ∃ x i, e = .returned x ∧ RSt w zs (N zs) i x w'

theorem byte_nat {zs : List Int} (h : IsB zs) {j : Nat} (hj : j < zs.length) : ∃ c : Nat, zs.getD j 0 = (c : Int) ∧ c < 256 := by
  have := h _ (getD_mem hj)
  exact ⟨(zs.getD j 0).toNat, by omega, by omega⟩
theorem num_drop (zs : List Int) (q : Nat) (c0 c1 c2 c3 : Nat) (h0 : zs.getD q 0 = (c0 : Int)) (h1 : zs.getD (q + 1) 0 = (c1 : Int)) (h2 : zs.getD (q + 2) 0 = (c2 : Int)) (h3 : zs.getD (q + 3) 0 = (c3 : Int)) : numOf ((zs.drop q).take 4) = c0 + 256 * c1 + 65536 * c2 + 16777216 * c3 := by
  have e : ∀ j, j < 4 → ((zs.drop q).take 4).getD j 0 = zs.getD (q + j) 0 := fun j hj => by simp [List.getD_eq_getElem?_getD, hj]
  unfold numOf
  rw [e 0 (by omega), e 1 (by omega), e 2 (by omega), e 3 (by omega), Nat.add_zero, h0, h1, h2, h3]
  simp

set_option maxHeartbeats 800000 in
theorem refAll_short (a : Option Addr) (len cap : Nat) (zs : List Int) (w : World) (hb : Bs w a len zs) (h8 : len < 8) :
    Calls Try.prog 17 #[.slice a len cap] w (AOut w zs) := by
  have hz := rst_zero w zs
  have hr : rec1 (zs.drop 0) = none := by
    cases h : rec1 (zs.drop 0) with
    | none => rfl
    | some n => have := (rec1_some h).1; rw [List.drop_zero, hb.1] at this; omega
  have hN := rst_end hz hr
  have HZ : Hid (RSt w zs (N zs) 0 (.slice none 0 0) w) := hide1 (hN ▸ hz)
  clear hz hN
  go_enter Try.func17, Try.ntmps17
  go_wp2_with fail
  refine wp_loop_rounds 1 ?_
  rw [rounds_succ]
  go_wp2_with fail
  go_ret
  exact ⟨_, 0, rfl, HZ.out⟩

set_option maxRecDepth 100000 in
set_option maxHeartbeats 4000000 in
theorem refAll_long (b off len cap : Nat) (zs : List Int) (w : World) (hb : Bs w (some ⟨b, off, none⟩) len zs) (hc : len ≤ cap) (hm : cap ≤ 9223372036854775807) (h10 : len ≤ 10000) :
    Calls Try.prog 17 #[.slice (some ⟨b, off, none⟩) len cap] w (AOut w zs) := by
  have hz := rst_zero w zs
  have hl := hb.1
  go_enter Try.func17, Try.ntmps17
  go_wp2_with fail
  go_loopw [3, 4] (fun x i wr => ∃ k q : Nat, i = .int .i64 q ∧ RSt w zs k q x wr) (fun _ i _ => len - (intOf i).toNat)
  case atStart => exact ⟨0, 0, rfl, hz⟩
  case round =>
    obtain ⟨k, q, rfl, hS⟩ := hrel
    clear hz
    have hql : q ≤ len := by obtain ⟨_, _, _, _, _, _, h, _⟩ := hS; omega
    have hBw : Below w.heap.size w wr := by obtain ⟨_, _, _, _, _, _, _, _, _, h⟩ := hS; exact h
    by_cases h8 : q + 8 ≤ len
    · have hbw := hb.later hBw
      obtain ⟨bb, oo, e, hcell⟩ := hbw.2.2 (by omega)
      cases e
      obtain ⟨c0, e0, l0⟩ := byte_nat hb.2.1 (j := q) (by omega)
      obtain ⟨c1, e1, l1⟩ := byte_nat hb.2.1 (j := q + 1) (by omega)
      obtain ⟨c2, e2, l2⟩ := byte_nat hb.2.1 (j := q + 2) (by omega)
      obtain ⟨c3, e3, l3⟩ := byte_nat hb.2.1 (j := q + 3) (by omega)
      have hnum := num_drop zs q c0 c1 c2 c3 e0 e1 e2 e3
      have d0 := hcell q (by omega); rw [e0] at d0
      have d1 := hcell (q + 1) (by omega); rw [e1] at d1
      have d2 := hcell (q + 2) (by omega); rw [e2] at d2
      have d3 := hcell (q + 3) (by omega); rw [e3] at d3
      have HN := hide1 hnum
      clear hcell e0 e1 e2 e3 hnum
      go_wp2_with fail
      refine wp_loop_rounds 5 ?_
      rw [rounds_succ]
      go_wp2_with fail
      rw [rounds_succ]
      go_wp2_with fail
      rw [rounds_succ]
      go_wp2_with fail
      rw [rounds_succ]
      go_wp2_with fail
      rw [rounds_succ]
      have en : 256 * (256 * (256 * (c3 : Int) + (c2 : Int)) + (c1 : Int)) + (c0 : Int) = ((c0 + 256 * c1 + 65536 * c2 + 16777216 * c3 : Nat) : Int) := by omega
      rw [en, ← HN.out]
      generalize hne : numOf ((zs.drop q).take 4) = n
      have hnl : n < 4294967296 := by have := HN.out; omega
      clear d0 d1 d2 d3 HN en l0 l1 l2 l3
      have HE := hide1 hne
      clear hne
      have hno : (65536 < n ∨ len < q + 8 + n) → rec1 (zs.drop q) = none := by
        intro h
        cases h9 : rec1 (zs.drop q) with
        | none => rfl
        | some m =>
          obtain ⟨_, q2, q3, q4, _⟩ := rec1_some h9
          rw [HE.out] at q2
          rw [List.length_drop, hl] at q4
          omega
      by_cases hbig : 65536 < n
      · obtain rfl := rst_end hS (hno (.inl hbig))
        clear hno
        go_wp2_with fail
        go_ret
        exact ⟨_, q, rfl, hS⟩
      · by_cases hlong : len < q + 8 + n
        · obtain rfl := rst_end hS (hno (.inr hlong))
          clear hno
          go_wp2_with fail
          go_ret
          exact ⟨_, q, rfl, hS⟩
        · clear hno
          by_cases hqc : q + 8 = cap
          · obtain rfl : cap = q + 8 := hqc.symm
            have hsrc : Bs wr (some ⟨b, off, none⟩) n ((zs.drop (q + 8)).take n) := by
              rw [show n = 0 by omega, List.take_zero]
              exact bs_nil _
            have hown0 := owns_weak (base := w.heap.size) (ownsRow_empty wr wr.heap.size (Nat.le_refl _)) hBw.size
            have hbe := below_one wr (.cells #[] 5)
            have hbe2 := bl2 hBw hbe
            have hsrc1 := hsrc.later hbe
            go_wp2_with (at_builtin; refine stopAt ?_)
            refine hide1 ?_
            try rw [show q + 8 + n - (q + 8) = n by omega]
            refine wpList_append_bs rfl (.tmp 40) (.tmp 48) rfl w.heap.size _ _ _ rfl hown0 _ _ _ _ rfl hsrc1 (by omega) hbe2.size ?_
            intro v2 w2 hown2 hg2
            have hb2 : Below wr.heap.size wr w2 := hbe.grown hg2 (by simp) (fun j e => by cases e; exact Nat.le_refl _)
            rw [Nat.zero_add, List.nil_append] at hown2
            obtain ⟨a2, c2, rfl, hbs2, _, _⟩ := bs_owned hown2 hsrc.2.1
            have hS2 := rst_later hS hb2
            have hBw2 := bl2 hBw hb2
            clear hown0 hbe hbe2 hsrc1 hg2
            go_wp2_with fail
            refine (refPut_d a2 n c2 _ w2 hbs2 (by omega)).mono ?_
            rintro e w3 ⟨v3, rfl, hown3, hb3⟩
            obtain ⟨a3, c3, rfl, hbs3, _, _⟩ := bs_owned hown3 (put_bytes hsrc.2.1)
            have hS3 := rst_later hS2 hb3
            have hown4 := owns_later hown2 hb3
            have hBw3 := bl2 hBw2 hb3
            have hrow := (hb.later hBw3).sub q (8 + n) (by omega)
            have hcv1 : ∀ m, (convert 22 9 (.slice a3 (8 + n) c3)).run Try.prog (w3.drewN m) = .ok (.string (strOfNums (put ((zs.drop (q + 8)).take n)))) (w3.drewN m) := fun m => conv_bs (hbs3.later (below_drewN (Below.refl _ _) m)) c3
            have hx7 : ¬ q + 8 = q := by omega
            have hcv2 : ∀ m, (convert 22 9 (.slice (some ⟨b, off + q, none⟩) (q + 8 + n - q) 8)).run Try.prog (w3.drewN m) = .ok (.string (strOfNums ((zs.drop q).take (8 + n)))) (w3.drewN m) := fun m => by rw [show q + 8 + n - q = 8 + n by omega]; exact conv_bs (hrow.later (below_drewN (Below.refl _ _) m)) 8
            have hmx : Try.prog.follows .mixedOrders = true := by kernel_rfl
            have hlp : ((zs.drop (q + 8)).take n).length = n := by simp; omega
            clear hS hS2 hbs2 hown2 hown3 hb2 hb3 hbs3
            cases hr : rec1 (zs.drop q) with
            | none =>
              have hneq : ((strOfNums (put ((zs.drop (q + 8)).take n))).toList == (strOfNums ((zs.drop q).take (8 + n))).toList) = false := by
                rw [str_beq (put_bytes hsrc.2.1) hrow.2.1]
                refine decide_eq_false (fun e => ?_)
                have h9 := rec1_put ((zs.drop (q + 8)).take n) (zs.drop (q + (8 + n))) (by omega)
                rw [e, ← List.drop_drop, List.take_append_drop, hr] at h9
                cases h9
              obtain rfl := rst_end hS3 hr
              go_wp2_with fail
              go_quiet (fail)
              go_wp2
              go_ret
              exact ⟨_, q, rfl, rst_later hS3 (below_drewN (Below.refl _ _) nq)⟩
            | some n' =>
              obtain rfl : n' = n := by have := (rec1_some hr).2.1; rw [HE.out] at this; exact this
              have hneq : ((strOfNums (put ((zs.drop (q + 8)).take n'))).toList == (strOfNums ((zs.drop q).take (8 + n'))).toList) = true := by
                rw [str_beq (put_bytes hsrc.2.1) hrow.2.1]
                refine decide_eq_true ?_
                obtain ⟨h9, _⟩ := rec1_is (IsB.drop hb.2.1 q) hr
                rw [List.drop_drop] at h9
                conv => rhs; rw [h9]
                rw [List.take_left' (by rw [put_length, hlp])]
              go_wp2_with fail
              go_quiet (fail)
              obtain ⟨vs, f, g1, g2, g3, g4, g5, g6, g7, g8⟩ := rst_later hS3 (below_drewN (Below.refl _ _) nq)
              have hown5 := owns_later hown4 (below_drewN (Below.refl _ w3) nq)
              obtain ⟨i0, hi, hz0, hz1, hz2⟩ := info_parts info45
              clear hS3 hown4
              have hnews : ∀ (j : Nat) (u : Value), [.int .i64 (q : Int), .slice a2 n' c2][j]? = some u → ((w3.drewN nq).alloc (.cells #[.int .i64 (q : Int), .slice a2 n' c2] 45)).cell? ((⟨(w3.drewN nq).heap.size, 0, none⟩ : Addr).add j) = some u := by
                intro j u hj
                rw [Addr.add_lit, World.cell?_alloc_mark]
                match j, hj with
                | 0, hj => simpa using hj
                | 1, hj => simpa using hj
                | j + 2, hj => simp at hj
              have hk1 : k ≤ 10000 := by omega
              have hbs9 : w.heap.size ≤ (w3.drewN nq).heap.size := g8.size
              go_wp2_with (at_builtin; refine wpList_append_own _ rfl (.tmp 66) (.tmp 70) 39 rfl w.heap.size 45 i0 (.agg #[.int .i64 0, .slice none 0 0]) 2 32 Try.underlying39 hi hz0 hz1 hz2 rfl (by decide) _ k (outL zs vs k) rfl (g1.alloc _) ⟨(w3.drewN nq).heap.size, 0, none⟩ 1 1 [.int .i64 (q : Int), .slice a2 n' c2] rfl rfl hnews (by simp [Value.oneCell']) (by unfold maxLen; omega) (by omega) (by simp at hbs9 ⊢; omega) ?_; intro v5 w5 h5a h5b _; refine stopAt ?_)
              refine hide1 ?_
              have hnx := rst_next (c := c2) hr hown5 vs f g1 g2 g3 g4 g6 g7 g8 h5a h5b
              clear h5a h5b g1 g2 g3 hown5 hnews hcv1 hcv2
              go_wp2_with fail
              exact ⟨⟨k + 1, q + 8 + n', by congr 1, hnx⟩, by simp [intOf]; omega⟩
          · have hsrc := hbw.sub (q + 8) n (by omega)
            have hown0 := owns_weak (base := w.heap.size) (ownsRow_empty wr wr.heap.size (Nat.le_refl _)) hBw.size
            have hbe := below_one wr (.cells #[] 5)
            have hbe2 := bl2 hBw hbe
            have hsrc1 := hsrc.later hbe
            go_wp2_with (at_builtin; refine stopAt ?_)
            refine hide1 ?_
            rw [show q + 8 + n - (q + 8) = n by omega]
            refine wpList_append_bs rfl (.tmp 40) (.tmp 48) rfl w.heap.size _ _ _ rfl hown0 _ _ _ _ rfl hsrc1 (by omega) hbe2.size ?_
            intro v2 w2 hown2 hg2
            have hb2 : Below wr.heap.size wr w2 := hbe.grown hg2 (by simp) (fun j e => by cases e; exact Nat.le_refl _)
            rw [Nat.zero_add, List.nil_append] at hown2
            obtain ⟨a2, c2, rfl, hbs2, _, _⟩ := bs_owned hown2 hsrc.2.1
            have hS2 := rst_later hS hb2
            have hBw2 := bl2 hBw hb2
            clear hown0 hbe hbe2 hsrc1 hg2
            go_wp2_with fail
            refine (refPut_d a2 n c2 _ w2 hbs2 (by omega)).mono ?_
            rintro e w3 ⟨v3, rfl, hown3, hb3⟩
            obtain ⟨a3, c3, rfl, hbs3, _, _⟩ := bs_owned hown3 (put_bytes hsrc.2.1)
            have hS3 := rst_later hS2 hb3
            have hown4 := owns_later hown2 hb3
            have hBw3 := bl2 hBw2 hb3
            have hrow := (hb.later hBw3).sub q (8 + n) (by omega)
            have hcv1 : ∀ m, (convert 22 9 (.slice a3 (8 + n) c3)).run Try.prog (w3.drewN m) = .ok (.string (strOfNums (put ((zs.drop (q + 8)).take n)))) (w3.drewN m) := fun m => conv_bs (hbs3.later (below_drewN (Below.refl _ _) m)) c3
            have hx2 : q < cap := by omega
            have hx4 : ¬ q = cap := by omega
            have hx7 : ¬ cap = q := by omega
            have hcv2 : ∀ m, (convert 22 9 (.slice (some ⟨b, off + q, none⟩) (q + 8 + n - q) (cap - q))).run Try.prog (w3.drewN m) = .ok (.string (strOfNums ((zs.drop q).take (8 + n)))) (w3.drewN m) := fun m => by rw [show q + 8 + n - q = 8 + n by omega]; exact conv_bs (hrow.later (below_drewN (Below.refl _ _) m)) (cap - q)
            have hmx : Try.prog.follows .mixedOrders = true := by kernel_rfl
            have hlp : ((zs.drop (q + 8)).take n).length = n := by simp; omega
            clear hS hS2 hbs2 hown2 hown3 hb2 hb3 hbs3
            cases hr : rec1 (zs.drop q) with
            | none =>
              have hneq : ((strOfNums (put ((zs.drop (q + 8)).take n))).toList == (strOfNums ((zs.drop q).take (8 + n))).toList) = false := by
                rw [str_beq (put_bytes hsrc.2.1) hrow.2.1]
                refine decide_eq_false (fun e => ?_)
                have h9 := rec1_put ((zs.drop (q + 8)).take n) (zs.drop (q + (8 + n))) (by omega)
                rw [e, ← List.drop_drop, List.take_append_drop, hr] at h9
                cases h9
              obtain rfl := rst_end hS3 hr
              go_wp2_with fail
              go_quiet (fail)
              go_wp2
              go_ret
              exact ⟨_, q, rfl, rst_later hS3 (below_drewN (Below.refl _ _) nq)⟩
            | some n' =>
              obtain rfl : n' = n := by have := (rec1_some hr).2.1; rw [HE.out] at this; exact this
              have hneq : ((strOfNums (put ((zs.drop (q + 8)).take n'))).toList == (strOfNums ((zs.drop q).take (8 + n'))).toList) = true := by
                rw [str_beq (put_bytes hsrc.2.1) hrow.2.1]
                refine decide_eq_true ?_
                obtain ⟨h9, _⟩ := rec1_is (IsB.drop hb.2.1 q) hr
                rw [List.drop_drop] at h9
                conv => rhs; rw [h9]
                rw [List.take_left' (by rw [put_length, hlp])]
              go_wp2_with fail
              go_quiet (fail)
              obtain ⟨vs, f, g1, g2, g3, g4, g5, g6, g7, g8⟩ := rst_later hS3 (below_drewN (Below.refl _ _) nq)
              have hown5 := owns_later hown4 (below_drewN (Below.refl _ w3) nq)
              obtain ⟨i0, hi, hz0, hz1, hz2⟩ := info_parts info45
              clear hS3 hown4
              have hnews : ∀ (j : Nat) (u : Value), [.int .i64 (q : Int), .slice a2 n' c2][j]? = some u → ((w3.drewN nq).alloc (.cells #[.int .i64 (q : Int), .slice a2 n' c2] 45)).cell? ((⟨(w3.drewN nq).heap.size, 0, none⟩ : Addr).add j) = some u := by
                intro j u hj
                rw [Addr.add_lit, World.cell?_alloc_mark]
                match j, hj with
                | 0, hj => simpa using hj
                | 1, hj => simpa using hj
                | j + 2, hj => simp at hj
              have hk1 : k ≤ 10000 := by omega
              have hbs9 : w.heap.size ≤ (w3.drewN nq).heap.size := g8.size
              go_wp2_with (at_builtin; refine wpList_append_own _ rfl (.tmp 66) (.tmp 70) 39 rfl w.heap.size 45 i0 (.agg #[.int .i64 0, .slice none 0 0]) 2 32 Try.underlying39 hi hz0 hz1 hz2 rfl (by decide) _ k (outL zs vs k) rfl (g1.alloc _) ⟨(w3.drewN nq).heap.size, 0, none⟩ 1 1 [.int .i64 (q : Int), .slice a2 n' c2] rfl rfl hnews (by simp [Value.oneCell']) (by unfold maxLen; omega) (by omega) (by simp at hbs9 ⊢; omega) ?_; intro v5 w5 h5a h5b _; refine stopAt ?_)
              refine hide1 ?_
              have hnx := rst_next (c := c2) hr hown5 vs f g1 g2 g3 g4 g6 g7 g8 h5a h5b
              clear h5a h5b g1 g2 g3 hown5 hnews hcv1 hcv2
              go_wp2_with fail
              exact ⟨⟨k + 1, q + 8 + n', by congr 1, hnx⟩, by simp [intOf]; omega⟩
    · have hr : rec1 (zs.drop q) = none := by
        cases h : rec1 (zs.drop q) with
        | none => rfl
        | some n => have := (rec1_some h).1; rw [List.length_drop, hl] at this; omega
      obtain rfl := rst_end hS hr
      go_wp2_with fail
      go_ret
      exact ⟨_, q, rfl, hS⟩
end Go.Proofs.Ytfmjknknckjdiaa

namespace Go.Proofs.Ytfmjknknckjdiaa
open Go.RowKit

theorem refAll_d (a : Option Addr) (len cap : Nat) (zs : List Int) (w : World) (hb : Bs w a len zs) (hc : len ≤ cap) (hm : cap ≤ 9223372036854775807) (h10 : len ≤ 10000) :
    Calls Try.prog 17 #[.slice a len cap] w (AOut w zs) := by
  by_cases h8 : len < 8
  · exact refAll_short a len cap zs w hb h8
  · obtain ⟨b, off, rfl, _⟩ := hb.2.2 (by omega)
    exact refAll_long b off len cap zs w hb hc hm h10

/-- What the document's All answers, as its callers read it. -/
def Wn (zs : List Int) (gw : Nat) (W : World) : Prop := ∀ j, j < N zs → W.cell? ⟨gw, j * 2, none⟩ = some (.int .i64 (((rk zs j).1 : Nat) : Int)) ∧ ∃ a c, W.cell? ⟨gw, j * 2 + 1, none⟩ = some (.slice a (rk zs j).2 c) ∧ Bs W a (rk zs j).2 (pay zs j)
theorem Wn.later {zs : List Int} {gw : Nat} {W W' : World} (h : Wn zs gw W) (hb : Below W.heap.size W W') : Wn zs gw W' := fun j hj => by
  obtain ⟨h1, a, c, h2, h3⟩ := h j hj
  exact ⟨cell_later hb h1, a, c, cell_later hb h2, h3.later hb⟩
theorem pay_bytes {zs : List Int} (h : IsB zs) (k : Nat) : IsB (pay zs k) := (h.drop _).take _

theorem aout_is {w : World} {zs : List Int} (hz : IsB zs) {e : Ending} {w' : World} (h : AOut w zs e w') : ∃ ax cx, e = .returned (.slice ax (N zs) cx) ∧ (0 < N zs → ∃ gw, ax = some ⟨gw, 0, none⟩ ∧ Wn zs gw w') ∧ N zs ≤ zs.length ∧ Below w.heap.size w w' := by
  obtain ⟨x, i, rfl, vs, f, h1, h2, h3, h4, h5, h6, h7, h8⟩ := h
  rcases h1.2 with ⟨e, h0⟩ | ⟨g, cap, cur, e, _, hg, hn, _, _, ht⟩
  · exact ⟨none, 0, by rw [e, h0], fun hp => absurd hp (by omega), by omega, h8⟩
  · refine ⟨_, cap, by rw [e], fun _ => ⟨g, rfl, fun j hj => ?_⟩, by omega, h8⟩
    rw [e] at h1
    obtain ⟨q1, q2⟩ := outL_get zs vs (N zs) j hj
    have c1 := h1.cellAt (j * 2) (by omega)
    have c2 := h1.cellAt (j * 2 + 1) (by omega)
    rw [Nat.mul_comm j 2] at c1 c2 ⊢
    rw [q1] at c1
    rw [q2] at c2
    obtain ⟨a, c, e2, hbs, _, _⟩ := bs_owned (h2 j hj) (pay_bytes hz j)
    exact ⟨c1, a, c, by rw [c2, e2], hbs⟩

theorem endOf_take (zs : List Int) (k : Nat) (h : k < N zs) : endOf 0 ((recs zs).take (k + 1)) = (rk zs k).1 + 8 + (rk zs k).2 := by
  rw [List.take_add_one, rk_ok k h, Option.toList_some, endOf_snoc]

set_option maxRecDepth 100000 in
set_option maxHeartbeats 2000000 in
theorem refWhole_d (a : Option Addr) (len cap : Nat) (zs : List Int) (w : World) (hb : Bs w a len zs) (hc : len ≤ cap) (hm : cap ≤ 9223372036854775807) (h10 : len ≤ 10000) :
    Calls Try.prog 20 #[.slice a len cap] w fun e w' => e = .returned (.int .i64 ((endOf 0 (recs zs) : Nat) : Int)) ∧ Below w.heap.size w w' := by
  have hl := hb.1
  go_enter Try.func20, Try.ntmps20
  go_wp2_with fail
  refine (refAll_d a len cap zs w hb hc hm h10).mono ?_
  intro e w1 hA
  obtain ⟨ax, cx, rfl, hwn, hNl, hb1⟩ := aout_is hb.2.1 hA
  clear hA
  have HL : endOf 0 ((recs zs).take (N zs)) = endOf 0 (recs zs) := by unfold N; rw [List.take_length]
  have HH := hide1 HL
  clear HL
  go_wp2_with fail
  go_loopw [3, 5] (fun x i wr => ∃ k : Nat, k ≤ N zs ∧ i = .int .i64 k ∧ x = .int .i64 ((endOf 0 ((recs zs).take k) : Nat) : Int) ∧ Below w1.heap.size w1 wr) (fun _ i _ => N zs - (intOf i).toNat)
  case atStart => exact ⟨0, by omega, rfl, rfl, Below.refl _ _⟩
  case round =>
    obtain ⟨k, hk, rfl, rfl, hbw⟩ := hrel
    by_cases hlt : k < N zs
    · obtain ⟨gw, rfl, hW⟩ := hwn (by omega)
      obtain ⟨c1, a2, c2, c3, _⟩ := (hW.later hbw) k hlt
      obtain ⟨r1, r2⟩ := rk_le hlt
      have hen := endOf_take zs k hlt
      have HE := hide1 hen
      clear hen hW
      go_wp2
      go_quiet (fail)
      go_wp2
      exact ⟨⟨k + 1, by omega, by go_num, val_int (by rw [HE.out]; omega), hbw.trans ((below_drewN (Below.refl _ _) nq).mono hbw.size)⟩, by simp [intOf]; omega⟩
    · obtain rfl : k = N zs := by omega
      go_wp2
      go_ret
      exact ⟨ret_int (by rw [HH.out]), bl2 hb1 hbw⟩
end Go.Proofs.Ytfmjknknckjdiaa

namespace Go.Proofs.Ytfmjknknckjdiaa
open Go.RowKit Go.Shelf
attribute [local go_sem] Oper.semAt_some

set_option maxRecDepth 100000 in
set_option maxHeartbeats 4000000 in
theorem all_seq2 {p len cap : Nat} {a : Option Addr} {zs : List Int} {w : World} (hp : w.cell? ⟨p, 0, none⟩ = some (.slice a len cap)) (hb : Bs w a len zs) (hc : len ≤ cap) (hm : cap ≤ 9223372036854775807) :
    SeqC 30 #[.pointer (some ⟨p, 0, none⟩)] (fun k (v : Value) => #[.int .i64 (((rk zs k).1 : Nat) : Int), v]) (fun k v W => Rdc zs k v W ∧ w.heap.size + 4 ≤ W.heap.size) (fun j => (w.heap.size + 2 ≤ j ∧ j < w.heap.size + 4) ∨ ∃ off, a = some ⟨j, off, none⟩) (N zs) w := by
  intro l J Jx W hW hsz hJ hJx hY h0
  refine callsIn_wide.2 ((callsIn_wide (n := 5)).1 ?_)
  have HZ := hide1 hsz
  clear hsz
  have hpW := cell_later hW hp
  have hbW := hb.later hW
  refine callsIn_of_wp_marks Try.func30 rfl trivial ?_ rfl
  simp only [Try.ntmps30, List.size_toArray, List.length_cons, List.length_nil, Nat.reduceAdd, Nat.reduceSub, Array.replicate_succ, Array.replicate_zero, List.push_toArray, List.append_toArray, List.nil_append, List.cons_append]
  have hpW1 := cell_alloc_l (.cells #[.func (.yield l) #[] #[]] 60) hpW
  gi_wp2_with (refine ⟨trivial, ?_⟩; gi_at_call 31; refine (callsIn_wide.2 (records_d _ _ _ _)).mono ?_; rintro e w' ⟨rfl, rfl⟩)
  have hs := cell_new_l W (.func (.yield l) #[] #[]) 60
  have hr := cell_new_l (W.alloc (.cells #[.func (.yield l) #[] #[]] 60)) (.slice a len cap) 22
  rw [World.size_alloc] at hr
  have hB0 : Below W.heap.size W ((W.alloc (.cells #[.func (.yield l) #[] #[]] 60)).alloc (.cells #[.slice a len cap] 22)) := ((Below.refl _ W).alloc (Nat.le_refl _) _).alloc (by simp) _
  have hq0 := cell_alloc_l (.cells #[.slice a len cap] 22) hs.1
  have hz0 : ((W.alloc (.cells #[.func (.yield l) #[] #[]] 60)).alloc (.cells #[.slice a len cap] 22)).heap.size = w.heap.size + 4 := by have := HZ.out; simp; omega
  have hj0 : J 0 ((W.alloc (.cells #[.func (.yield l) #[] #[]] 60)).alloc (.cells #[.slice a len cap] 22)) := hJ.alloc _ (hJ.alloc _ h0)
  have hbW0 := hbW.later hB0
  obtain ⟨b, off, hbp, hseq⟩ := rec_seq hr.1 hbW0 hc hm
  have H0 := hide1 hz0
  clear hz0
  generalize (W.alloc (.cells #[.func (.yield l) #[] #[]] 60)).alloc (.cells #[.slice a len cap] 22) = W0 at hseq H0 hq0 hj0 hB0 hbW0 hr ⊢
  refine range_cnt (w := W0) (gf := 35) (lb := #[.pointer (some ⟨W.heap.size + 1, 0, none⟩)]) rfl (enters_of Try.func35 (by kernel_rfl) rfl) hseq (fun _ _ => rfl) ?hS (fun _ _ _ _ h _ => h)
    (fun k W1 => J k W1 ∧ W1.cell? ⟨W.heap.size, 0, none⟩ = some (.func (.yield l) #[] #[]) ∧ Bs W1 a len zs ∧ W0.heap.size ≤ W1.heap.size) (fun c k W1 => c = .ret ∧ Jx k W1) ?hI ?hIx ⟨hj0, hq0, hbW0, Nat.le_refl _⟩
    (fun k _ => { tmps := #[.func (.yield l) #[] #[], .pointer (some ⟨p, 0, none⟩), .pointer (some ⟨W.heap.size, 0, none⟩), .int .i64 (((rk zs k).1 : Nat) : Int), .slice (pad b (off + (rk zs k).1) (cap - (rk zs k).1)) (rk zs k).2 (cap - (rk zs k).1 - 8), .slice a len cap, .func (.func 35) #[] #[.pointer (some ⟨W.heap.size + 1, 0, none⟩)], .int .i64 (((rk zs k).1 : Nat) : Int), .slice (pad b (off + (rk zs k).1) (cap - (rk zs k).1)) (rk zs k).2 (cap - (rk zs k).1 - 8), undef, undef, undef, undef, undef, undef], defers := [] }) ?assign ?body ?done ?stop
  case hS =>
    have := HZ.out
    have := H0.out
    rintro (h | h)
    · omega
    · rcases hbp with ⟨_, rfl⟩ | ⟨hl, rfl⟩
      · omega
      · have := bs_lt hb hl; omega
  case hI =>
    intro s A B row hs hg hrow
    exact ⟨hJ s A B row hs.1 hg (fun r e => ⟨by have := (hrow r e).1; have := HZ.out; have := H0.out; omega, (hrow r e).2⟩), cell_kept hs.2.1 hg (fun r e => (hrow r e).2), bs_grown hs.2.2.1 hg (fun r e => (hrow r e).2), Nat.le_trans hs.2.2.2 hg.size⟩
  case hIx =>
    intro c s A B row hs hg hrow
    exact ⟨hs.1, hJx s A B row hs.2 hg (fun r e => ⟨by have := (hrow r e).1; have := HZ.out; have := H0.out; omega, (hrow r e).2⟩)⟩
  case assign =>
    intro l2 k v W1 K hK
    gi_wp2
    exact hK
  case body =>
    rintro l2 k _ W1 hk ⟨hj, hq, hbs, hws⟩ _
    obtain ⟨hr1, hr2⟩ := rk_le hk
    rw [hb.1] at hr1
    have hlen : 0 < len := by omega
    obtain ⟨hl, rfl⟩ : 0 < len ∧ a = some ⟨b, off, none⟩ := by
      rcases hbp with h | h
      · omega
      · exact h
    have hpd := bs_pad hbs hr1 hc
    obtain ⟨xp, hxp⟩ : ∃ xp, pad b (off + (rk zs k).1) (cap - (rk zs k).1) = some xp := ⟨_, rfl⟩
    rw [hxp] at hpd
    have hcl : ∀ Wx, Below W1.heap.size W1 Wx → Calls Try.prog 29 #[.slice (some xp) (rk zs k).2 (cap - (rk zs k).1 - 8)] Wx fun e W2 => ∃ g cp, e = .returned (.slice (some ⟨g, 0, none⟩) (rk zs k).2 cp) ∧ W2.heap.size = g + 1 ∧ W2.ownsRow W1.heap.size 5 1 (.slice (some ⟨g, 0, none⟩) (rk zs k).2 cp) (rk zs k).2 (byteVals (pay zs k)) ∧ Below W1.heap.size W1 W2 := by
      intro Wx hx
      refine (clone_d xp (rk zs k).2 (cap - (rk zs k).1 - 8) _ Wx (hpd.later hx) (by omega)).mono ?_
      rintro e W2 ⟨g, cp, rfl, h1, h2, h3⟩
      exact ⟨g, cp, rfl, h1, owns_weak h2 hx.size, bl2 hx h3⟩
    have hmx : Try.prog.follows .mixedOrders = true := by kernel_rfl
    rw [hxp]
    clear hseq hr hbW0 hB0 hj0 hq0
    have hYk : ∀ g cp W2, W2.heap.size = g + 1 → W2.ownsRow W1.heap.size 5 1 (.slice (some ⟨g, 0, none⟩) (rk zs k).2 cp) (rk zs k).2 (byteVals (pay zs k)) → Below W1.heap.size W1 W2 →
        YieldAt Fence.wide 3 Try.prog l #[.int .i64 (((rk zs k).1 : Nat) : Int), .slice (some ⟨g, 0, none⟩) (rk zs k).2 cp] W2 (fun e W' => ∃ bb, e = .returned (.bool bb) ∧ Hid (KeepsFrom (w.heap.size + 2) W2 W' ∧ (bb = true → J (k + 1) W' ∧ ∀ j, ((w.heap.size + 2 ≤ j ∧ j < w.heap.size + 4) ∨ ∃ off', some (⟨b, off, none⟩ : Addr) = some ⟨j, off', none⟩) → W'.heap[j]? = W2.heap[j]?) ∧ (bb = false → Jx k W'))) := fun g cp W2 h1 h2 h3 => by
      refine YieldAt.mono (hY k _ W2 hk (hJ k W1 W2 none hj (grown_of h3) (fun r e => by cases e)) ⟨⟨g, cp, rfl, h1, owns_weak h2 (Nat.zero_le _)⟩, by have := h3.size; have := H0.out; omega⟩) ?_
      rintro e W' (⟨rfl, q1, q2, q3⟩ | ⟨rfl, q1, q3⟩)
      · exact ⟨true, rfl, hide1 ⟨q3, fun _ => ⟨q1, q2⟩, fun h => by cases h⟩⟩
      · exact ⟨false, rfl, hide1 ⟨q3, (fun h => by cases h), fun _ => q1⟩⟩
    clear hY hJ hJx hj
    gi_wp2
    gi_region_with_o (first
      | (refine ⟨trivial, ?_⟩; gi_at_call 29; refine (CallsIn.inRound l2 (callsIn_wide.2 (hcl _ (by first | exact Below.refl _ _ | exact (Below.refl _ _).drew | exact (Below.refl _ _).drew.drew)))).mono ?_; rintro e W2 ⟨g, cp, rfl, hsz2, hown2, hb2⟩; obtain ⟨fn, tmps, assign, body, hy, hR⟩ := hYk g cp W2 hsz2 hown2 hb2; have hq2 := cell_later hb2 hq)
      | (refine (roundIn_any hR).mono ?_; rintro e W3 ⟨bb, rfl, hout⟩))
    all_goals
      have hk3 : KeepsFrom W0.heap.size W1 W3 := ((keeps_below hb2).from _).trans (kf_mono hout.out.1 (by have := H0.out; omega))
      cases bb with
      | false =>
        have q1 := hout.out.2.2 rfl
        gi_wp2
        exact ⟨hk3, rfl, q1⟩
      | true =>
        obtain ⟨q1, q2⟩ := hout.out.2.1 rfl
        gi_wp2
        refine ⟨hk3, fun j hj => ?_, q1, (World.cell?_of_block (q2 W.heap.size (.inl (by have := HZ.out; omega)))).trans hq2, (hbs.later hb2).kept (q2 b (.inr ⟨off, rfl⟩)), Nat.le_trans hws hk3.size⟩
        have hjl : j < W1.heap.size := by
          rcases hj with rfl | rfl
          · have := HZ.out; have := H0.out; omega
          · exact bs_lt hbs hlen
        refine (q2 j ?_).trans (hb2.block j hjl)
        rcases hj with rfl | rfl
        · exact .inl (by have := HZ.out; omega)
        · exact .inr ⟨off, rfl⟩
  case done =>
    rintro D W1 hD ⟨hj, _⟩ hK
    gi_wp2
    refine ⟨by simp, .inl ⟨_, _, rfl, run_takeDeferred hK, ?_⟩⟩
    exact ⟨_, results_none rfl _ _ _, ⟨_, rfl⟩, .inl (hJ.putObj _ hj (by have := HZ.out; have := H0.out; omega) hK rfl)⟩
  case stop =>
    rintro D c k W1 hD hk ⟨rfl, hj⟩ hK
    gi_wp2
    refine ⟨by simp, .inl ⟨_, _, rfl, run_takeDeferred hK, ?_⟩⟩
    exact ⟨_, results_none rfl _ _ _, ⟨_, rfl⟩, .inr ⟨k, hk, hJx.putObj _ hj (by have := HZ.out; have := H0.out; omega) hK rfl⟩⟩
end Go.Proofs.Ytfmjknknckjdiaa

namespace Go.Proofs.Ytfmjknknckjdiaa
open Go.RowKit Go.Shelf

/-- What the rounds hold: k items, each a row of its own, apart, and the row that lists them behind the copy. X: the box of the answers; X + 1: the count; X + 2: the first row; X + 3: the row's box. -/
structure GS (y : World) (X : Nat) (zs : List Int) (c : Value) (k : Nat) (V : Nat → Value) (vg : Value) (W : World) : Prop where
  bel : Below X y W
  want : W.heap[X]? = y.heap[X]?
  rest : ∀ j, X + 4 ≤ j → j < y.heap.size → W.heap[j]? = y.heap[j]?
  bk : W.heap[X + 1]? = some (.cells #[.int .i64 (k : Int)] 3 (0, 0))
  bg : W.heap[X + 3]? = some (.cells #[vg] 36 (0, 0))
  row : W.ownsRow X 22 1 vg (k + 1) (c :: (List.range k).map V)
  at' : vg.ownBlock = some (X + 2) ∨ ∃ g, vg.ownBlock = some g ∧ y.heap.size + 4 ≤ g
  items : ∀ i, i < k → W.ownsRow y.heap.size 5 1 (V i) (rk zs i).2 (byteVals (pay zs i))
  low : ∀ i, i < k → ∀ g, (V i).ownBlock = some g → g + 1 < W.heap.size
  sep : ∀ i j, i < k → j < k → i ≠ j → Ne2 (V i) (V j)
def GI (y : World) (X : Nat) (zs : List Int) (c : Value) (M k : Nat) (W : World) : Prop := k < M ∧ ∃ V vg, GS y X zs c k V vg W

theorem own_other {A B : World} {base : Nat} {e : TypeId} {v : Value} {n : Nat} {xs : List Value} {row : Option Nat} (h : A.ownsRow base e 1 v n xs) (hg : A.grownBy B row) (hr : ∀ r, row = some r → ∃ o : Obj, A.heap[r]? = some o ∧ o.isCells = false) : B.ownsRow base e 1 v n xs := by
  refine h.kept hg ?_
  cases hv : v.ownBlock with
  | none => exact .inl rfl
  | some g =>
    refine .inr fun e1 => ?_
    obtain ⟨o, ho, hc⟩ := hr g e1.symm
    have := own_cells h g o hv ho
    rw [this] at hc; cases hc
theorem gs_own {y : World} {X : Nat} {zs : List Int} {c : Value} {k : Nat} {V : Nat → Value} {vg : Value} {A B : World} {row : Option Nat} (hX : X + 4 ≤ y.heap.size) (h : GS y X zs c k V vg A) (hg : A.grownBy B row) (hrow : ∀ r, row = some r → y.heap.size ≤ r ∧ ∃ o : Obj, A.heap[r]? = some o ∧ o.isCells = false) : GS y X zs c k V vg B := by
  have hA := h.bel.size
  have hst : ∀ j, j < y.heap.size → B.heap[j]? = A.heap[j]? := fun j hj => hg.block j (by omega) (fun e => by have := (hrow j e.symm).1; omega)
  refine ⟨h.bel.grown hg (by omega) (fun r e => by have := (hrow r e).1; omega), (hst X (by omega)).trans h.want, fun j h1 h2 => (hst j h2).trans (h.rest j h1 h2), (hst _ (by omega)).trans h.bk, (hst _ (by omega)).trans h.bg, own_other h.row hg (fun r e => (hrow r e).2), h.at', fun i hi => own_other (h.items i hi) hg (fun r e => (hrow r e).2), fun i hi g hgi => Nat.lt_of_lt_of_le (h.low i hi g hgi) hg.size, h.sep⟩
theorem gi_own (y : World) (X : Nat) (zs : List Int) (c : Value) (M : Nat) (hX : X + 4 ≤ y.heap.size) : OwnFrom y.heap.size (fun k W => GI y X zs c M k W) := by
  intro s A B row hs hg hrow
  obtain ⟨h1, V, vg, h2⟩ := hs
  exact ⟨h1, V, vg, gs_own hX h2 hg hrow⟩

theorem gs_zero {y : World} {X : Nat} {zs : List Int} {c : Value} (h1 : y.heap[X + 1]? = some (.cells #[.int .i64 0] 3 (0, 0))) (h2 : y.heap[X + 2]? = some (.cells #[c] 22 (0, 0))) (h3 : y.heap[X + 3]? = some (.cells #[.slice (some ⟨X + 2, 0, none⟩) 1 1] 36 (0, 0))) : GS y X zs c 0 (fun _ => undef) (.slice (some ⟨X + 2, 0, none⟩) 1 1) y := by
  refine ⟨Below.refl _ _, rfl, fun _ _ _ => rfl, h1, h3, ⟨rfl, .inr ⟨X + 2, 1, #[c], rfl, by omega, h2, Nat.le_refl _, by unfold maxLen; omega, rfl, rfl⟩⟩, .inl rfl, fun i hi => absurd hi (by omega), fun i hi => absurd hi (by omega), fun i j hi => absurd hi (by omega)⟩

theorem gs_mid {y : World} {X : Nat} {zs : List Int} {c : Value} {k : Nat} {V : Nat → Value} {vg : Value} {W W5 : World} {o : Obj} (hX : X + 4 ≤ y.heap.size) (h : GS y X zs c k V vg W) (hg5 : (W.alloc o).grownBy W5 vg.ownBlock) :
    W5.heap[X + 1]? = some (.cells #[.int .i64 (k : Int)] 3 (0, 0)) ∧ W5.heap[X + 3]? = some (.cells #[vg] 36 (0, 0)) ∧ Below X W W5 := by
  have hyW := h.bel.size
  have h5 : ∀ j, j < y.heap.size → j ≠ X + 2 → W5.heap[j]? = W.heap[j]? := fun j hj hne => by
    refine (hg5.block j (by simp; omega) (fun e => ?_)).trans (Below.heap_alloc W o j (by omega))
    rcases h.at' with e1 | ⟨g1, e1, h3⟩
    · rw [e1] at e; cases e; exact hne rfl
    · rw [e1] at e; cases e; omega
  exact ⟨(h5 _ (by omega) (by omega)).trans h.bk, (h5 _ (by omega) (by omega)).trans h.bg, ((Below.refl X W).alloc (by omega) o).grown hg5 (by simp; omega) (fun j e => (h.row.lt j e).1)⟩

/-- One item more. -/
theorem gs_next {y : World} {X : Nat} {zs : List Int} {c : Value} {k : Nat} {V : Nat → Value} {vg v v5 : Value} {W W5 : World} {o : Obj} (hX : X + 4 ≤ y.heap.size) (h : GS y X zs c k V vg W) (hr : Rdc zs k v W) (h4 : y.heap.size + 4 ≤ W.heap.size)
    (hown5 : W5.ownsRow X 22 1 v5 (k + 1 + 1) ((c :: (List.range k).map V) ++ [v])) (hg5 : (W.alloc o).grownBy W5 vg.ownBlock) (hat : v5.ownBlock = vg.ownBlock ∨ v5.ownBlock = some (W.alloc o).heap.size) :
    GS y X zs c (k + 1) (fun i => if i = k then v else V i) v5 ((W5.setCell ⟨X + 3, 0, none⟩ v5).setCell ⟨X + 1, 0, none⟩ (.int .i64 ((k : Int) + 1))) ∧
    (∀ j, j < W.heap.size → j ≠ X + 1 → j ≠ X + 3 → j ≠ X + 2 → j < y.heap.size + 4 → ((W5.setCell ⟨X + 3, 0, none⟩ v5).setCell ⟨X + 1, 0, none⟩ (.int .i64 ((k : Int) + 1))).heap[j]? = W.heap[j]?) ∧
    KeepsOthers W ((W5.setCell ⟨X + 3, 0, none⟩ v5).setCell ⟨X + 1, 0, none⟩ (.int .i64 ((k : Int) + 1))) := by
  obtain ⟨g, cap, rfl, hsz, hown⟩ := hr
  have hyW := h.bel.size
  have hvg : ∀ j, j ≠ X + 2 → j < y.heap.size + 4 → some j ≠ vg.ownBlock := by
    intro j h1 h2 e
    rcases h.at' with e1 | ⟨g1, e1, h3⟩
    · rw [e1] at e; cases e; exact h1 rfl
    · rw [e1] at e; cases e; omega
  have hz1 : (W.alloc o).heap.size = W.heap.size + 1 := by simp
  have hs5 := hg5.size
  have h5 : ∀ j, j < W.heap.size → some j ≠ vg.ownBlock → W5.heap[j]? = W.heap[j]? := fun j hj hne => (hg5.block j (by omega) hne).trans (Below.heap_alloc W o j hj)
  have hset : ∀ j, j ≠ X + 1 → j ≠ X + 3 → ((W5.setCell ⟨X + 3, 0, none⟩ v5).setCell ⟨X + 1, 0, none⟩ (.int .i64 ((k : Int) + 1))).heap[j]? = W5.heap[j]? := fun j h1 h3 => (setCell_other _ _ _ h1).trans (setCell_other _ _ _ h3)
  have hst : ∀ j, j < W.heap.size → j ≠ X + 1 → j ≠ X + 3 → j ≠ X + 2 → j < y.heap.size + 4 → ((W5.setCell ⟨X + 3, 0, none⟩ v5).setCell ⟨X + 1, 0, none⟩ (.int .i64 ((k : Int) + 1))).heap[j]? = W.heap[j]? := fun j h1 h2 h3 h6 h7 => (hset j h2 h3).trans (h5 j h1 (hvg j h6 h7))
  have hg3 : W5.heap[X + 3]? = some (.cells #[vg] 36 (0, 0)) := (h5 _ (by omega) (hvg _ (by omega) (by omega))).trans h.bg
  have hg1 : W5.heap[X + 1]? = some (.cells #[.int .i64 (k : Int)] 3 (0, 0)) := (h5 _ (by omega) (hvg _ (by omega) (by omega))).trans h.bk
  have hsF : ((W5.setCell ⟨X + 3, 0, none⟩ v5).setCell ⟨X + 1, 0, none⟩ (.int .i64 ((k : Int) + 1))).heap.size = W5.heap.size := by simp
  have hb5 : Below X y W5 := (h.bel.alloc (by omega) o).grown hg5 (by omega) (fun j e => (h.row.lt j e).1)
  have hrow5 : ∀ {e : TypeId} {u : Value} {l : Nat} {ys : List Value} {B : Nat}, W5.ownsRow B e 1 u l ys → e ≠ 3 → e ≠ 36 → ((W5.setCell ⟨X + 3, 0, none⟩ v5).setCell ⟨X + 1, 0, none⟩ (.int .i64 ((k : Int) + 1))).ownsRow B e 1 u l ys := by
    intro e u l ys B hu h3 h36
    have q1 := ownsRow_setCell_other hu (a := ⟨X + 3, 0, none⟩) (box_type hu hg3 h36).symm v5
    exact ownsRow_setCell_other q1 (a := ⟨X + 1, 0, none⟩) (box_type hu hg1 h3).symm _
  have hit : ∀ {u : Value} {l : Nat} {ys : List Value} {B : Nat}, W.ownsRow B 5 1 u l ys → ((W5.setCell ⟨X + 3, 0, none⟩ v5).setCell ⟨X + 1, 0, none⟩ (.int .i64 ((k : Int) + 1))).ownsRow B 5 1 u l ys := by
    intro u l ys B hu
    exact hrow5 ((hu.alloc o).kept hg5 (own_type hu h.row (by decide))) (by decide) (by decide)
  have hne : ∀ i, i < k → Ne2 (V i) (.slice (some ⟨g, 0, none⟩) (rk zs k).2 cap) := by
    intro i hi
    refine .inr fun e => ?_
    have := h.low i hi g (by rw [e]; rfl)
    omega
  refine ⟨⟨(hb5.setCell (p := ⟨X + 3, 0, none⟩) (show X ≤ X + 3 by omega) _).setCell (p := ⟨X + 1, 0, none⟩) (show X ≤ X + 1 by omega) _, ?_, ?_, ?_, ?_, ?_, ?_, ?_, ?_, ?_⟩, hst, ?_⟩
  · exact (hst X (by omega) (by omega) (by omega) (by omega) (by omega)).trans h.want
  · intro j h1 h2
    exact (hst j (by omega) (by omega) (by omega) (by omega) (by omega)).trans (h.rest j h1 h2)
  · have := setCell_box ((setCell_other W5 (X + 3) v5 (show X + 1 ≠ X + 3 by omega)).trans hg1) (.int .i64 ((k : Int) + 1))
    rw [this]; simp
  · exact (setCell_other _ _ _ (show X + 3 ≠ X + 1 by omega)).trans (setCell_box hg3 v5)
  · have e1 : (List.range (k + 1)).map (fun i => if i = k then Value.slice (some ⟨g, 0, none⟩) (rk zs k).2 cap else V i) = (List.range k).map V ++ [.slice (some ⟨g, 0, none⟩) (rk zs k).2 cap] := by
      rw [List.range_succ, List.map_append]
      congr 1
      · apply List.map_congr_left
        intro i hi
        rw [if_neg (by have := List.mem_range.1 hi; omega)]
      · simp
    rw [e1]
    exact hrow5 hown5 (by decide) (by decide)
  · rcases hat with e | e
    · rw [e]; exact h.at'
    · exact .inr ⟨_, e, by omega⟩
  · intro i hi
    by_cases e : i = k
    · subst e
      rw [if_pos rfl]
      refine hit ?_
      obtain ⟨q1, q2⟩ := hown
      rcases q2 with ⟨q2, _⟩ | ⟨g', c', cur, q2, _, q3⟩
      · cases q2
      · cases q2
        exact ⟨q1, .inr ⟨g, cap, cur, rfl, by omega, q3⟩⟩
    · rw [if_neg e]; exact hit (h.items i (by omega))
  · intro i hi g' hg'
    rw [hsF]
    by_cases e : i = k
    · subst e
      rw [if_pos rfl] at hg'
      simp only [Value.ownBlock, Option.some.injEq] at hg'
      omega
    · rw [if_neg e] at hg'
      have := h.low i (by omega) g' hg'
      omega
  · intro i j hi hj hij
    by_cases e : i = k
    · subst e
      rw [if_pos rfl, if_neg (by omega)]
      exact (hne j (by omega)).symm
    · rw [if_neg e]
      by_cases e2 : j = k
      · subst e2; rw [if_pos rfl]; exact hne i (by omega)
      · rw [if_neg e2]; exact h.sep i j (by omega) (by omega) hij
  · exact (((KeepsOthers.alloc W o).trans (KeepsOthers.of_grownBy hg5 (own_cells (h.row.alloc o)))).trans (KeepsOthers.setCell _ _ _)).trans (KeepsOthers.setCell _ _ _)

/-- The lists at the end: the copy, and the items behind it. -/
theorem gs_lists {y : World} {X : Nat} {zs : List Int} {c : Value} {k : Nat} {V : Nat → Value} {W : World} {B len : Nat} {xs : List Value} {g cp : Nat} (h : GS y X zs c k V (.slice (some ⟨g, 0, none⟩) (k + 1) cp) W) (hB : B ≤ X) (hX : X + 4 ≤ y.heap.size) (hc : W.ownsRow B 5 1 c len xs) (hcy : ∀ g, c.ownBlock = some g → g < X) (hl : len ≤ 10000) (hk : k ≤ 900) (hL : ∀ i, i < k → (rk zs i).2 ≤ 65536) : Lists B (k + 1) g (fun i => if i = 0 then c else V (i - 1)) (fun i => if i = 0 then len else (rk zs (i - 1)).2) W := by
  refine ⟨?_, ?_, ?_, ?_, by omega⟩
  · intro i hi
    by_cases e : i = 0
    · subst e; exact ⟨xs, hc⟩
    · simp only [if_neg e]
      exact ⟨_, owns_weak (h.items (i - 1) (by omega)) (by omega)⟩
  · have hn : ∀ i, i < k → Ne2 c (V i) := by
      intro i hi
      cases hb : c.ownBlock with
      | none => exact .inl hb
      | some g1 =>
        refine .inr fun e => ?_
        have h1 := hcy g1 hb
        have h2 := ((h.items i hi).lt g1 (by rw [← e, hb])).1
        omega
    intro i j hi hj hij
    by_cases e : i = 0
    · subst e
      simp only [if_neg (show ¬ j = 0 by omega)]
      exact hn _ (by omega)
    · simp only [if_neg e]
      by_cases e2 : j = 0
      · subst e2; exact (hn _ (by omega)).symm
      · simp only [if_neg e2]; exact h.sep _ _ (by omega) (by omega) (by omega)
  · rcases h.row.2 with ⟨e, _⟩ | ⟨g1, c1, cur, e, _, hg, _, _, hs, ht⟩
    · cases e
    · cases e
      refine ⟨cur, (0, 0), hg, fun i hi => ?_⟩
      have : cur.toList[i]? = (c :: (List.range k).map V)[i]? := by
        rw [← ht, List.getElem?_take, if_pos (by omega)]
      rw [← Array.getElem?_toList, this]
      cases i with
      | zero => rfl
      | succ i => simp [show i < k by omega]
  · intro i hi
    by_cases e : i = 0
    · subst e; simp only [if_pos]; omega
    · simp only [if_neg e]; have := hL (i - 1) (by omega); omega
end Go.Proofs.Ytfmjknknckjdiaa

namespace Go.Proofs.Ytfmjknknckjdiaa
open Go.RowKit Go.Shelf
attribute [local go_sem] Oper.semAt_some

theorem place20 (a : Int) : ∃ K : Nat, wrap64 ((IntKind.u64.wrap a).tmod 20) = (K : Int) ∧ K < 20 := by
  have e : IntKind.u64.wrap a = a % 18446744073709551616 := IntKind.wrap_u64 a
  have h0 : 0 ≤ a % 18446744073709551616 := by omega
  rw [e, Int.tmod_eq_emod_of_nonneg h0]
  refine ⟨((a % 18446744073709551616) % 20).toNat, ?_, by omega⟩
  go_arith

/-- One append in a round, onto a row of slices of its own. -/
theorem in_append_at {F : Fence} {nF : Nat} {w : World} {ops : Array Oper} {rest : List Oper} {o : Oper} {a : Act} {Q : Exit → Act → World → Prop} (hgd : o.guard = none) (s x : Operand)
    (ho : o.op = .call { callee := .builtin .append, args := #[s, x], argTypes := #[36, 36] }) (base : Nat) (v : Value) (n : Nat) (xs : List Value) (hs : a.eval s = v) (hown : w.ownsRow base 22 1 v n xs)
    (ad : Addr) (c : Nat) (u : Value) (hx : a.eval x = .slice (some ad) 1 c) (hnews : ∀ j z, [u][j]? = some z → w.cell? (ad.add j) = some z) (h1 : u.oneCell' = true) (hn : n ≤ 1000) (hbase : base ≤ w.heap.size)
    (h : ∀ v' w', w'.ownsRow base 22 1 v' (n + 1) (xs ++ [u]) → w.grownBy w' v.ownBlock → (v'.ownBlock = v.ownBlock ∨ v'.ownBlock = some w.heap.size) → wpListIn F nF Try.prog ops Q rest (a.put o.dst v') w') :
    wpListIn F nF Try.prog ops Q (o :: rest) a w := by
  obtain ⟨i0, hi, hz0, hz1, hz2⟩ := info_parts info22
  refine wpListIn_plain hgd fun K hK => ?_
  obtain ⟨v', w', hr, h2, h3, _, h5⟩ := run_append_own_at (P := Try.prog) w base 36 o.type 22 i0 (.slice none 0 0) 1 24 Try.underlying36 hi hz0 hz1 hz2 rfl (by decide) v n xs hown ad 1 c [u] rfl hnews (by simpa using h1) (by unfold maxLen; omega) (by omega) hbase
  unfold Oper.wpIn
  refine ⟨by simp [Oper.about, ho, resolve, Target.leads, Sem.run_pure], ?_⟩
  rw [Oper.semAt_plain F _ _ (by rw [ho]; intro c hc'; cases hc')]
  simp [execOp, ho, resolve, invoke, builtin, hs, hx, hr, Result.andThen]
  exact hK _ _ (h v' w' h2 h3 h5)

theorem in_stop {F : Fence} {nF : Nat} {w : World} {ops : Array Oper} {rest : List Oper} {o : Oper} {a : Act} {Q : Exit → Act → World → Prop} (s x : Operand)
    (_ : o.op = .call { callee := .builtin .append, args := #[s, x], argTypes := #[36, 36] }) (h : Hid (wpListIn F nF Try.prog ops Q (o :: rest) a w)) : wpListIn F nF Try.prog ops Q (o :: rest) a w := h.out
section
variable {ps : List (List Int)} {t : List Int} (hps : ∀ p ∈ ps, p.length ≤ 65536) (ht : rec1 t = none)
include hps ht
theorem recs_app : recs (puts ps ++ t) = recs (puts ps) := by rw [recs_puts ps hps t ht, recs_p hps]
theorem N_app : N (puts ps ++ t) = N (puts ps) := by unfold N; rw [recs_app hps ht]
theorem rk_app (k : Nat) : rk (puts ps ++ t) k = rk (puts ps) k := by unfold rk; rw [recs_app hps ht]
theorem pay_app {k : Nat} (h : k < N (puts ps)) : pay (puts ps ++ t) k = pay (puts ps) k := by
  have := (rk_le h).1
  unfold pay
  rw [rk_app hps ht, List.drop_append_of_le_length (by omega), List.take_append_of_le_length (by rw [List.length_drop]; omega)]
theorem wn_app {gw : Nat} {W : World} (h : Wn (puts ps ++ t) gw W) : Wn (puts ps) gw W := by
  intro j hj
  have := h j (by rw [N_app hps ht]; exact hj)
  rwa [rk_app hps ht, pay_app hps ht hj] at this
end
theorem four_boxes (w : World) (o1 o2 o3 o4 : Obj) : ((((w.alloc o1).alloc o2).alloc o3).alloc o4).heap[w.heap.size]? = some o1 ∧ ((((w.alloc o1).alloc o2).alloc o3).alloc o4).heap[w.heap.size + 1]? = some o2 ∧ ((((w.alloc o1).alloc o2).alloc o3).alloc o4).heap[w.heap.size + 2]? = some o3 ∧
    ((((w.alloc o1).alloc o2).alloc o3).alloc o4).heap[w.heap.size + 3]? = some o4 ∧ ((((w.alloc o1).alloc o2).alloc o3).alloc o4).heap.size = w.heap.size + 4 ∧ Below w.heap.size w ((((w.alloc o1).alloc o2).alloc o3).alloc o4) := by
  have z1 : (w.alloc o1).heap.size = w.heap.size + 1 := by simp
  have z2 : ((w.alloc o1).alloc o2).heap.size = w.heap.size + 2 := by simp
  have z3 : (((w.alloc o1).alloc o2).alloc o3).heap.size = w.heap.size + 3 := by simp
  have n1 := World.alloc_heap_new w o1
  have n2 := World.alloc_heap_new (w.alloc o1) o2
  have n3 := World.alloc_heap_new ((w.alloc o1).alloc o2) o3
  have n4 := World.alloc_heap_new (((w.alloc o1).alloc o2).alloc o3) o4
  rw [z1] at n2
  rw [z2] at n3
  rw [z3] at n4
  refine ⟨?_, ?_, ?_, n4, by simp, ((((Below.refl _ w).alloc (Nat.le_refl _) _).alloc (by simp) _).alloc (by simp; omega) _).alloc (by simp; omega) _⟩
  · exact (Below.heap_alloc _ o4 _ (by omega)).trans ((Below.heap_alloc _ o3 _ (by omega)).trans ((Below.heap_alloc _ o2 _ (by omega)).trans n1))
  · exact (Below.heap_alloc _ o4 _ (by omega)).trans ((Below.heap_alloc _ o3 _ (by omega)).trans n2)
  · exact (Below.heap_alloc _ o4 _ (by omega)).trans n3

set_option maxRecDepth 100000 in
set_option maxHeartbeats 4000000 in
theorem all_long (a : Option Addr) (len cap : Nat) (most : Int) (w : World) (h10 : 10000 < len) :
    Calls Try.prog 4 #[.slice a len cap, .int .i64 most] w fun e w' => e = .returned (.bool true) ∧ Below w.heap.size w w' := by
  refine (callsIn_wide (n := 5)).1 (callsIn_of_wp_marks Try.func4 rfl trivial ?_ rfl)
  simp only [Try.ntmps4, List.size_toArray, List.length_cons, List.length_nil, Nat.reduceAdd, Nat.reduceSub, Array.replicate_succ, Array.replicate_zero, List.push_toArray, List.append_toArray, List.nil_append, List.cons_append]
  refine wpIn_wide.2 ?_
  go_wp2_with fail
  have hr0 : ((w.alloc (.cells #[.int .i64 most] 3)).alloc (.cells #[.bool false] 4)).heap[w.heap.size + 1]? = some (.cells #[.bool false] 4 (0, 0)) := by
    have := World.alloc_heap_new (w.alloc (.cells #[.int .i64 most] 3)) (.cells #[.bool false] 4)
    rwa [World.size_alloc] at this
  have hB0 : Below w.heap.size w ((w.alloc (.cells #[.int .i64 most] 3)).alloc (.cells #[.bool false] 4)) := ((Below.refl _ w).alloc (Nat.le_refl _) _).alloc (by simp) _
  generalize (w.alloc (.cells #[.int .i64 most] 3)).alloc (.cells #[.bool false] 4) = Wa at hr0 hB0 ⊢
  refine (alive_d _).mono ?_
  rintro e w1 ⟨rfl, hb1⟩
  have hr1 := (hb1.block _ (Array.getElem?_eq_some_iff.1 hr0).1).trans hr0
  have hB1 := bl2 hB0 hb1
  obtain ⟨hrc, hrf⟩ := cell_of_box_l hr1
  clear hr0 hB0 hb1
  go_wp2
  exact ret_cb rfl (g := w.heap.size + 1) rfl (World.cell?_setCell_same' _ _ _ (by rw [hrc]; rfl)) ⟨rfl, hB1.setCell (p := ⟨w.heap.size + 1, 0, none⟩) (Nat.le_succ _) _⟩

set_option maxRecDepth 100000 in
set_option maxHeartbeats 4000000 in
theorem all_short (a : Option Addr) (len cap : Nat) (zs : List Int) (most : Int) (w : World) (hb : Bs w a len zs) (hc : len ≤ cap) (hm : cap ≤ 9223372036854775807) (h10 : len ≤ 10000) :
    Calls Try.prog 4 #[.slice a len cap, .int .i64 most] w fun e w' => e = .returned (.bool true) ∧ Below w.heap.size w w' := by
  obtain ⟨K, hK, hK20⟩ := place20 most
  refine (callsIn_wide (n := 5)).1 (callsIn_of_wp_marks Try.func4 rfl trivial ?_ rfl)
  simp only [Try.ntmps4, List.size_toArray, List.length_cons, List.length_nil, Nat.reduceAdd, Nat.reduceSub, Array.replicate_succ, Array.replicate_zero, List.push_toArray, List.append_toArray, List.nil_append, List.cons_append]
  refine wpIn_wide.2 ?_
  go_wp2_with fail
  have hq0 := World.alloc_heap_new w (.cells #[.int .i64 most] 3)
  have hr0 : ((w.alloc (.cells #[.int .i64 most] 3)).alloc (.cells #[.bool false] 4)).heap[w.heap.size + 1]? = some (.cells #[.bool false] 4 (0, 0)) := by
    have := World.alloc_heap_new (w.alloc (.cells #[.int .i64 most] 3)) (.cells #[.bool false] 4)
    rwa [World.size_alloc] at this
  have hB0 : Below w.heap.size w ((w.alloc (.cells #[.int .i64 most] 3)).alloc (.cells #[.bool false] 4)) := ((Below.refl _ w).alloc (Nat.le_refl _) _).alloc (by simp) _
  replace hq0 := (Below.heap_alloc (w.alloc (.cells #[.int .i64 most] 3)) (.cells #[.bool false] 4) w.heap.size (by simp)).trans hq0
  generalize (w.alloc (.cells #[.int .i64 most] 3)).alloc (.cells #[.bool false] 4) = Wa at hq0 hr0 hB0 ⊢
  refine (alive_d _).mono ?_
  rintro e w1 ⟨rfl, hb1⟩
  have hr1 := (hb1.block _ (Array.getElem?_eq_some_iff.1 hr0).1).trans hr0
  have hq1 := (hb1.block _ (Array.getElem?_eq_some_iff.1 hq0).1).trans hq0
  have hB1 := bl2 hB0 hb1
  clear hr0 hq0 hB0 hb1
  obtain ⟨hqc, hqf⟩ := cell_of_box_l hq1
  go_wp2_with fail
  have hq2 := setCell_box hq1 (.int .i64 (1 + (K : Int)))
  have hr2 := (setCell_other w1 w.heap.size (.int .i64 (1 + (K : Int))) (show w.heap.size + 1 ≠ w.heap.size by omega)).trans hr1
  have hB2 := hB1.setCell (p := ⟨w.heap.size, 0, none⟩) (Nat.le_refl _) (.int .i64 (1 + (K : Int)))
  generalize w1.setCell ⟨w.heap.size, 0, none⟩ (.int .i64 (1 + (K : Int))) = w2 at hq2 hr2 hB2 ⊢
  clear hr1 hq1 hB1 hqc hqf
  refine (copy_o a len cap zs w2 (hb.later hB2) (by omega)).mono ?_
  rintro e w3 ⟨gc, c2, rfl, hk3, ho3, hb3⟩
  have hq3 := (hb3.block _ (Array.getElem?_eq_some_iff.1 hq2).1).trans hq2
  have hr3 := (hb3.block _ (Array.getElem?_eq_some_iff.1 hr2).1).trans hr2
  have hB3 := bl2 hB2 hb3
  have hs2 : w.heap.size + 1 < w2.heap.size := (Array.getElem?_eq_some_iff.1 hr2).1
  have HS2 := hide1 hs2
  clear hs2 hq2 hr2 hB2 hb3
  go_wp2_with fail
  refine (refAll_d a len cap zs w3 (hb.later hB3) hc hm h10).mono ?_
  intro e w4 hA
  obtain ⟨ax, cx, rfl, hwn, hNl, hb4⟩ := aout_is hb.2.1 hA
  have hq4 := (hb4.block _ (Array.getElem?_eq_some_iff.1 hq3).1).trans hq3
  have hr4 := (hb4.block _ (Array.getElem?_eq_some_iff.1 hr3).1).trans hr3
  have hB4 := bl2 hB3 hb4
  have hk4 := hk3.later hb4
  have ho4 := owns_later ho3 hb4
  clear hA hq3 hr3 hB3 hb4 hk3 ho3
  go_wp2_with fail
  obtain ⟨f0, f1, f2, f3, fz, fb⟩ := four_boxes w4 (.cells #[.slice ax (N zs) cx] 39) (.cells #[.int .i64 0] 3) (.cells #[.slice (some ⟨gc, 0, none⟩) len c2] 22) (.cells #[.slice (some ⟨w4.heap.size + 1 + 1, 0, none⟩) 1 1] 36)
  generalize ((((w4.alloc (.cells #[.slice ax (N zs) cx] 39)).alloc (.cells #[.int .i64 0] 3)).alloc (.cells #[.slice (some ⟨gc, 0, none⟩) len c2] 22)).alloc (.cells #[.slice (some ⟨w4.heap.size + 1 + 1, 0, none⟩) 1 1] 36)) = wb at f0 f1 f2 f3 fz fb ⊢
  obtain ⟨ps, t, ez, ht, hpp, _⟩ := parse zs.length zs (Nat.le_refl _) hb.2.1
  have hps : ∀ p ∈ ps, p.length ≤ 65536 := fun p hp => (hpp p hp).1
  have hbc := hk4.bs.later fb
  have hlen := hb.1
  have hzs : szs ps ≤ len := by rw [← hlen, ez, List.length_append, puts_length]; omega
  have hcc := owned_cap ho4
  have hlc : len ≤ c2 := by have := hk4.2.2.1; omega
  rw [ez] at hbc
  have hall := all_d (some ⟨gc, 0, none⟩) len c2 ps t wb hbc hlc hcc (by intro h; cases h) ht hps (by omega)
  refine hall.mono ?_
  rintro e wy ⟨p, a', c', rfl, hpc, hbs', hle', hcc', hfresh, hby⟩
  have g0 := (hby.block _ (Array.getElem?_eq_some_iff.1 f0).1).trans f0
  have g1 := (hby.block _ (Array.getElem?_eq_some_iff.1 f1).1).trans f1
  have g2 := (hby.block _ (Array.getElem?_eq_some_iff.1 f2).1).trans f2
  have g3 := (hby.block _ (Array.getElem?_eq_some_iff.1 f3).1).trans f3
  have hXy : w4.heap.size + 4 ≤ wy.heap.size := by have := hby.size; omega
  have hBy : Below w4.heap.size w4 wy := bl2 fb hby
  have hseq := all_seq2 hpc hbs' hle' hcc'
  have hfr : ∀ j off, a' = some ⟨j, off, none⟩ → w4.heap.size + 4 ≤ j ∧ j < wy.heap.size := fun j off h => by have := hfresh j off h; omega
  have hwn2 : 0 < N (puts ps) → ∃ gw, ax = some ⟨gw, 0, none⟩ ∧ Wn (puts ps) gw w4 := fun h => by
    obtain ⟨gw, e1, e2⟩ := hwn (by rw [ez, N_app hps ht]; exact h)
    exact ⟨gw, e1, wn_app hps ht (by rw [← ez]; exact e2)⟩
  have eN : N zs = N (puts ps) := by rw [ez, N_app hps ht]
  rw [eN] at g0 hNl
  have HG0 := gs_zero (zs := puts ps) g1 g2 g3
  clear hwn hfresh hby hpc hbs' hle' hcc' hall hbc f0 f1 f2 f3 fz fb g1 g2 g3
  go_wp2_with fail
  refine (wpIn_wide (n := 5)).1 ?_
  refine range_cnt2 (w := wy) (gf := 30) (lb := #[.pointer (some ⟨p, 0, none⟩)]) rfl (enters_of Try.func30 (by kernel_rfl) rfl) hseq (fun _ _ => rfl) ?hS (fun k v W o h h' => ⟨rdc_put h.1 h', by have := h.2; simpa [World.putObj] using this⟩)
    (GI wy w4.heap.size (puts ps) (.slice (some ⟨gc, 0, none⟩) len c2) (K + 1)) (fun c k W => c = .exit 0 ∧ k = K ∧ ∃ V vg, GS wy w4.heap.size (puts ps) (.slice (some ⟨gc, 0, none⟩) len c2) (k + 1) V vg W) (gi_own wy _ _ _ _ hXy)
    (fun c s A B row hs hg hrow => by obtain ⟨h1, h2, V, vg, h3⟩ := hs; exact ⟨h1, h2, V, vg, gs_own hXy h3 hg hrow⟩) ⟨by omega, _, _, HG0⟩ ?round ?done ?stop
  case hS =>
    rintro (h | ⟨off, h⟩)
    · omega
    · have := (hfr _ off h).2; omega
  case round =>
    rintro lq k0 v W Kq hk0 hKq
    gi_wp2
    rintro W2 ⟨hkM, V, vg, hG⟩ ⟨hrd, h4⟩
    have hrd' := hrd
    obtain ⟨g, cp, rfl, hsz, hown⟩ := hrd
    obtain ⟨gw, rfl, hW⟩ := hwn2 (by omega)
    have hBW : Below w4.heap.size w4 W2 := hBy.trans hG.bel
    obtain ⟨c1, a2, cap2, c3, hbs2⟩ := (hW.later hBW) k0 hk0
    have hqW := cell_of_box_l ((hBW.block _ (Array.getElem?_eq_some_iff.1 hq4).1).trans hq4)
    have hwW := cell_of_box_l (hG.want.trans g0)
    have hkW := cell_of_box_l hG.bk
    have hgW := cell_of_box_l hG.bg
    obtain ⟨_, _, e1, hbsp, _, _⟩ := bs_owned hown hbs2.2.1
    cases e1
    have hsame := same_any (ca := cp) (cb := cap2) hbsp hbs2
    rw [decide_eq_true rfl] at hsame
    have hX1 : w.heap.size < w4.heap.size := (Array.getElem?_eq_some_iff.1 hq4).1
    have HSZ := hide1 hsz
    clear hseq hown hbsp hbs2 hwn2 hsz
    gi_wp2_with (first
      | (refine ⟨trivial, ?_⟩; gi_at_call 12; refine (CallsIn.inRound lq (callsIn_wide.2 hsame)).mono ?_; rintro e w' ⟨rfl, rfl⟩)
      | (gi_at_builtin; refine in_stop (.tmp 54) (.tmp 56) rfl ?_))
    refine hide1 ?_
    refine in_append_at rfl (.tmp 54) (.tmp 56) rfl w4.heap.size vg (k0 + 1) _ rfl (hG.row.alloc _) ⟨w'.heap.size, 0, none⟩ 1 _ rfl (cell_one_new _ _ _) rfl (by omega) (by simp; omega) ?_
    intro v5 w5 h5a h5b h5c
    obtain ⟨hG5, hst5, hko5⟩ := gs_next hXy hG hrd' h4 h5a h5b h5c
    obtain ⟨hm1, hm3, hmB⟩ := gs_mid hXy hG h5b
    obtain ⟨hm1c, hm1f⟩ := cell_of_box_l hm1
    obtain ⟨hm3c, hm3f⟩ := cell_of_box_l hm3
    have hqm : w5.cell? ⟨w.heap.size, 0, none⟩ = some (.int .i64 (1 + (K : Int))) := (hmB.cell (p := ⟨w.heap.size, 0, none⟩) hX1).trans hqW.1
    obtain ⟨g5, c5, rfl⟩ := ownsRow_succ h5a
    have HK := hide1 hst5
    clear h5a h5b h5c hm1 hm3 hmB hst5 hqW hwW hkW hgW c1 c3 hsame
    have hS' : ∀ j, (wy.heap.size + 2 ≤ j ∧ j < wy.heap.size + 4 ∨ ∃ off, a' = some ⟨j, off, none⟩) → ((w5.setCell ⟨w4.heap.size + 3, 0, none⟩ (.slice (some ⟨g5, 0, none⟩) (k0 + 1 + 1) c5)).setCell ⟨w4.heap.size + 1, 0, none⟩ (.int .i64 ((k0 : Int) + 1))).heap[j]? = w'.heap[j]? := by
      rintro j (h | ⟨off, h⟩)
      · exact HK.out j (by omega) (by omega) (by omega) (by omega) (by omega)
      · have := hfr _ off h
        exact HK.out j (by omega) (by omega) (by omega) (by omega) (by omega)
    by_cases hkK : k0 = K
    · subst hkK
      gi_wp2_with fail
      exact ⟨hko5.from _, rfl, rfl, _, _, hG5⟩
    · have hne : ((k0 : Int) + 1 == 1 + (K : Int)) = false := by simp; omega
      gi_wp2_with fail
      exact ⟨hko5.from _, hS', by omega, _, _, hG5⟩
  case done =>
    rintro D W hD ⟨hNM, V, vg, hG⟩ hD0
    have hif : ((N (puts ps) : Nat) : Int) < 1 + (K : Int) := by omega
    have hmn : (if ((N (puts ps) : Nat) : Int) < 1 + (K : Int) then ((N (puts ps) : Nat) : Int) else 1 + (K : Int)) = ((N (puts ps) : Nat) : Int) := if_pos hif
    have hBW : Below w4.heap.size w4 W := hBy.trans hG.bel
    have hqW := (cell_of_box_l ((hBW.block _ (Array.getElem?_eq_some_iff.1 hq4).1).trans hq4)).1
    have hrW := (hBW.block _ (Array.getElem?_eq_some_iff.1 hr4).1).trans hr4
    have hwW := (cell_of_box_l (hG.want.trans g0)).1
    have hkW : W.cell? ⟨w4.heap.size + 1, 0, none⟩ = some (.int .i64 (((N (puts ps) : Nat) : Int))) := (cell_of_box_l hG.bk).1.trans (congrArg some (val_int (by omega)))
    obtain ⟨gL, cL, rfl⟩ := ownsRow_succ hG.row
    have hkc := hk4.later hBW
    have hbw := hb.later (bl2 hB4 hBW)
    have hWh : ∀ w', Below W.heap.size W w' → Calls Try.prog 19 #[.slice (some ⟨gc, 0, none⟩) len c2] w' fun e w'' => e = .returned (.int .i64 ((endOf 0 (recs zs) : Nat) : Int)) ∧ Below w'.heap.size w' w'' := fun w' hb' => whole_d _ len c2 _ w' (hkc.bs.later hb') hlc hcc
    have hRW : ∀ w', Below W.heap.size W w' → Calls Try.prog 20 #[.slice a len cap] w' fun e w'' => e = .returned (.int .i64 ((endOf 0 (recs zs) : Nat) : Int)) ∧ Below w'.heap.size w' w'' := fun w' hb' => refWhole_d a len cap zs w' (hbw.later hb') hc hm h10
    have hCt : ∀ w', Below W.heap.size W w' → Calls Try.prog 21 #[.slice (some ⟨gc, 0, none⟩) len c2] w' fun e w'' => e = .returned (.int .i64 ((N (puts ps) : Nat) : Int)) ∧ Below w'.heap.size w' w'' := fun w' hb' => by
      have := count_d _ len c2 _ w' (hkc.bs.later hb') hlc hcc
      rwa [show (recs zs).length = N (puts ps) from eN] at this
    have hKp : ∀ w', Below W.heap.size W w' → Calls Try.prog 13 #[.slice (some ⟨gc, 0, none⟩) len c2, .slice a len cap] w' fun e w'' => e = .returned (.bool true) ∧ Below w'.heap.size w' w'' := fun w' hb' => by
      refine (kept_any gc len c2 a cap zs w' (hkc.later hb') (hbw.later hb')).mono ?_
      rintro e w'' ⟨rfl, rfl⟩
      exact ⟨rfl, Below.refl _ _⟩
    have hmx : Try.prog.follows .mixedOrders = true := by kernel_rfl
    have hLs : ∀ i, i < N (puts ps) → (rk (puts ps) i).2 ≤ 65536 := fun i hi => (rk_le (by omega)).2
    have HGW := hide1 hG
    have HEN := hide1 eN
    have HL := hide1 hLs
    clear hG hkc hbw hLs eN hNl hzs hlen
    generalize endOf 0 (recs zs) = E0 at *
    go_wp2_with fail
    go_region_held3 (fun w' => w'.cell? ⟨w.heap.size, 0, none⟩ = some (.int .i64 (1 + (K : Int))) ∧ w'.cell? ⟨w4.heap.size, 0, none⟩ = some (.slice ax (N (puts ps)) cx) ∧ w'.cell? ⟨w4.heap.size + 1, 0, none⟩ = some (.int .i64 (((N (puts ps) : Nat) : Int))) ∧ Hid (Below W.heap.size W w'))
      (first | assumption | exact ⟨hqW, hwW, hkW, hide1 ((Below.refl _ _).drew)⟩ | exact sb_later ‹_› ‹_›)
      (first
        | (go_at_call_has 19 (Value.slice (some ⟨gc, 0, none⟩) len c2); refine (hWh _ (sb_out ‹_›)).mono ?_; rintro e wx ⟨rfl, hbx⟩)
        | (go_at_call_has 20 (Value.slice a len cap); refine (hRW _ (sb_out ‹_›)).mono ?_; rintro e wx ⟨rfl, hbx⟩)
        | (go_at_call_has 21 (Value.slice (some ⟨gc, 0, none⟩) len c2); refine (hCt _ (sb_out ‹_›)).mono ?_; rintro e wx ⟨rfl, hbx⟩)
        | (go_at_call_has 13 (Value.slice a len cap); refine (hKp _ (sb_out ‹_›)).mono ?_; rintro e wx ⟨rfl, hbx⟩))
    obtain ⟨_, _, _, hBx⟩ := (by assumption : wx.cell? ⟨w.heap.size, 0, none⟩ = some (.int .i64 (1 + (K : Int))) ∧ wx.cell? ⟨w4.heap.size, 0, none⟩ = some (.slice ax (N (puts ps)) cx) ∧ wx.cell? ⟨w4.heap.size + 1, 0, none⟩ = some (.int .i64 (((N (puts ps) : Nat) : Int))) ∧ Hid (Below W.heap.size W wx))
    have hGx := gs_own hXy HGW.out (grown_of hBx.out) (fun r e => by cases e)
    have hgx := (cell_of_box_l hGx.bg).1
    have hrx := (hBx.out.block _ (Array.getElem?_eq_some_iff.1 hrW).1).trans hrW
    have hDx := (hBx.out.block _ (Array.getElem?_eq_some_iff.1 hD0).1).trans hD0
    have hBwx := bl2 hBW hBx.out
    have hgc := ho4.lt gc rfl
    have hbig : w2.heap.size ≤ wx.heap.size := by have := hBwx.size; omega
    have hls := gs_lists (B := w2.heap.size) hGx (by omega) hXy (owns_later ho4 hBwx) (fun g h => by cases h; exact hgc.2) h10 (by omega) HL.out
    have hap := apart_k (N (puts ps) + 1) cL gL w2.heap.size _ _ wx hls hbig
    have HGC := hide1 hgc
    clear hGx hls hWh hRW hCt hKp hbx hwW hqW hkW hseq hwn2 HG0 hgc hbig hif hmn
    go_wp2_with fail
    refine hap.mono ?_
    rintro e w10 ⟨rfl, hb10, hko10⟩
    have hr10 := (hb10.block _ HS2.out).trans hrx
    obtain ⟨hrc, hrf⟩ := cell_of_box_l hr10
    have hD10 := hko10.same D _ hDx rfl
    have hK' := (KeepsOthers.setCell w10 ⟨w.heap.size + 1, 0, none⟩ (.bool true)).same D _ hD10 rfl
    have hB10 : Below w.heap.size w w10 := (bl2 hB4 hBwx).trans (hb10.mono (by have := HS2.out; omega))
    have hbD : w.heap.size ≤ wy.heap.size := by have := hB4.size; omega
    clear hap hgx
    go_wp2
    refine ⟨by simp, .inl ⟨_, _, rfl, run_takeDeferred hK', ?_⟩⟩
    exact ⟨_, results_cb rfl _ (g := w.heap.size + 1) rfl (cell_kept (World.cell?_setCell_same' w10 ⟨w.heap.size + 1, 0, none⟩ (.bool true) (by rw [hrc]; rfl)) (grownBy_putObj' _ D (.deferred none)) (fun r e => by cases e; exact ⟨_, hK', rfl⟩)), rfl, (hB10.setCell (p := ⟨w.heap.size + 1, 0, none⟩) (Nat.le_succ _) _).trans (belowK_b (w := wy) hbD _ D _ _ hD hK' rfl rfl)⟩
  case stop =>
    rintro D c k0 W hD hk0 ⟨rfl, rfl, V, vg, hG⟩ hD0
    have hif : ¬ ((N (puts ps) : Nat) : Int) < 1 + (k0 : Int) := by omega
    have hmn : (if ((N (puts ps) : Nat) : Int) < 1 + (k0 : Int) then ((N (puts ps) : Nat) : Int) else 1 + (k0 : Int)) = 1 + (k0 : Int) := if_neg hif
    gi_wp2
    have hBW : Below w4.heap.size w4 W := hBy.trans hG.bel
    have hqW := (cell_of_box_l ((hBW.block _ (Array.getElem?_eq_some_iff.1 hq4).1).trans hq4)).1
    have hrW := (hBW.block _ (Array.getElem?_eq_some_iff.1 hr4).1).trans hr4
    have hwW := (cell_of_box_l (hG.want.trans g0)).1
    have hkW : W.cell? ⟨w4.heap.size + 1, 0, none⟩ = some (.int .i64 (1 + (k0 : Int))) := (cell_of_box_l hG.bk).1.trans (congrArg some (val_int (by omega)))
    obtain ⟨gL, cL, rfl⟩ := ownsRow_succ hG.row
    have hkc := hk4.later hBW
    have hbw := hb.later (bl2 hB4 hBW)
    have hWh : ∀ w', Below W.heap.size W w' → Calls Try.prog 19 #[.slice (some ⟨gc, 0, none⟩) len c2] w' fun e w'' => e = .returned (.int .i64 ((endOf 0 (recs zs) : Nat) : Int)) ∧ Below w'.heap.size w' w'' := fun w' hb' => whole_d _ len c2 _ w' (hkc.bs.later hb') hlc hcc
    have hRW : ∀ w', Below W.heap.size W w' → Calls Try.prog 20 #[.slice a len cap] w' fun e w'' => e = .returned (.int .i64 ((endOf 0 (recs zs) : Nat) : Int)) ∧ Below w'.heap.size w' w'' := fun w' hb' => refWhole_d a len cap zs w' (hbw.later hb') hc hm h10
    have hCt : ∀ w', Below W.heap.size W w' → Calls Try.prog 21 #[.slice (some ⟨gc, 0, none⟩) len c2] w' fun e w'' => e = .returned (.int .i64 ((N (puts ps) : Nat) : Int)) ∧ Below w'.heap.size w' w'' := fun w' hb' => by
      have := count_d _ len c2 _ w' (hkc.bs.later hb') hlc hcc
      rwa [show (recs zs).length = N (puts ps) from eN] at this
    have hKp : ∀ w', Below W.heap.size W w' → Calls Try.prog 13 #[.slice (some ⟨gc, 0, none⟩) len c2, .slice a len cap] w' fun e w'' => e = .returned (.bool true) ∧ Below w'.heap.size w' w'' := fun w' hb' => by
      refine (kept_any gc len c2 a cap zs w' (hkc.later hb') (hbw.later hb')).mono ?_
      rintro e w'' ⟨rfl, rfl⟩
      exact ⟨rfl, Below.refl _ _⟩
    have hmx : Try.prog.follows .mixedOrders = true := by kernel_rfl
    have hLs : ∀ i, i < k0 + 1 → (rk (puts ps) i).2 ≤ 65536 := fun i hi => (rk_le (by omega)).2
    have HGW := hide1 hG
    have HEN := hide1 eN
    have HL := hide1 hLs
    clear hG hkc hbw hLs eN hNl hzs hlen
    generalize endOf 0 (recs zs) = E0 at *
    go_wp2_with fail
    go_region_held3 (fun w' => w'.cell? ⟨w.heap.size, 0, none⟩ = some (.int .i64 (1 + (k0 : Int))) ∧ w'.cell? ⟨w4.heap.size, 0, none⟩ = some (.slice ax (N (puts ps)) cx) ∧ w'.cell? ⟨w4.heap.size + 1, 0, none⟩ = some (.int .i64 (1 + (k0 : Int))) ∧ Hid (Below W.heap.size W w'))
      (first | assumption | exact ⟨hqW, hwW, hkW, hide1 ((Below.refl _ _).drew)⟩ | exact sb_later ‹_› ‹_›)
      (first
        | (go_at_call_has 19 (Value.slice (some ⟨gc, 0, none⟩) len c2); refine (hWh _ (sb_out ‹_›)).mono ?_; rintro e wx ⟨rfl, hbx⟩)
        | (go_at_call_has 20 (Value.slice a len cap); refine (hRW _ (sb_out ‹_›)).mono ?_; rintro e wx ⟨rfl, hbx⟩)
        | (go_at_call_has 21 (Value.slice (some ⟨gc, 0, none⟩) len c2); refine (hCt _ (sb_out ‹_›)).mono ?_; rintro e wx ⟨rfl, hbx⟩)
        | (go_at_call_has 13 (Value.slice a len cap); refine (hKp _ (sb_out ‹_›)).mono ?_; rintro e wx ⟨rfl, hbx⟩))
    obtain ⟨_, _, _, hBx⟩ := (by assumption : wx.cell? ⟨w.heap.size, 0, none⟩ = some (.int .i64 (1 + (k0 : Int))) ∧ wx.cell? ⟨w4.heap.size, 0, none⟩ = some (.slice ax (N (puts ps)) cx) ∧ wx.cell? ⟨w4.heap.size + 1, 0, none⟩ = some (.int .i64 (1 + (k0 : Int))) ∧ Hid (Below W.heap.size W wx))
    have hGx := gs_own hXy HGW.out (grown_of hBx.out) (fun r e => by cases e)
    have hgx := (cell_of_box_l hGx.bg).1
    have hrx := (hBx.out.block _ (Array.getElem?_eq_some_iff.1 hrW).1).trans hrW
    have hDx := (hBx.out.block _ (Array.getElem?_eq_some_iff.1 hD0).1).trans hD0
    have hBwx := bl2 hBW hBx.out
    have hgc := ho4.lt gc rfl
    have hbig : w2.heap.size ≤ wx.heap.size := by have := hBwx.size; omega
    have hls := gs_lists (B := w2.heap.size) hGx (by omega) hXy (owns_later ho4 hBwx) (fun g h => by cases h; exact hgc.2) h10 (by omega) HL.out
    have hap := apart_k (k0 + 1 + 1) cL gL w2.heap.size _ _ wx hls hbig
    have HGC := hide1 hgc
    clear hGx hls hWh hRW hCt hKp hbx hwW hqW hkW hseq hwn2 HG0 hgc hbig hif hmn
    go_wp2_with fail
    refine hap.mono ?_
    rintro e w10 ⟨rfl, hb10, hko10⟩
    have hr10 := (hb10.block _ HS2.out).trans hrx
    obtain ⟨hrc, hrf⟩ := cell_of_box_l hr10
    have hD10 := hko10.same D _ hDx rfl
    have hK' := (KeepsOthers.setCell w10 ⟨w.heap.size + 1, 0, none⟩ (.bool true)).same D _ hD10 rfl
    have hB10 : Below w.heap.size w w10 := (bl2 hB4 hBwx).trans (hb10.mono (by have := HS2.out; omega))
    have hbD : w.heap.size ≤ wy.heap.size := by have := hB4.size; omega
    clear hap hgx
    go_wp2
    refine ⟨by simp, .inl ⟨_, _, rfl, run_takeDeferred hK', ?_⟩⟩
    exact ⟨_, results_cb rfl _ (g := w.heap.size + 1) rfl (cell_kept (World.cell?_setCell_same' w10 ⟨w.heap.size + 1, 0, none⟩ (.bool true) (by rw [hrc]; rfl)) (grownBy_putObj' _ D (.deferred none)) (fun r e => by cases e; exact ⟨_, hK', rfl⟩)), rfl, (hB10.setCell (p := ⟨w.heap.size + 1, 0, none⟩) (Nat.le_succ _) _).trans (belowK_b (w := wy) hbD _ D _ _ hD hK' rfl rfl)⟩

theorem all_walk (a : Option Addr) (len cap : Nat) (zs : List Int) (most : Int) (w : World) (hb : Bs w a len zs) (hc : len ≤ cap) (hm : cap ≤ 9223372036854775807) :
    Calls Try.prog 4 #[.slice a len cap, .int .i64 most] w fun e w' => e = .returned (.bool true) ∧ Below w.heap.size w w' := by
  by_cases h10 : len ≤ 10000
  · exact all_short a len cap zs most w hb hc hm h10
  · exact all_long a len cap most w (by omega)
end Go.Proofs.Ytfmjknknckjdiaa

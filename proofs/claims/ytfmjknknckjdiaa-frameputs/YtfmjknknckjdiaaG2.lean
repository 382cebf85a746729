/- J20, J21, J9, J22, J23: laid together. -/
import Derived.BigQuiet
import Derived.Test.YtfmjknknckjdiaaG1
namespace Go.Proofs.Ytfmjknknckjdiaa
open Go.RowKit

/-- One byte more behind a row of the call's own. -/
theorem run_append_one (w : World) (base ty : Nat) (x : Value) (n : Nat) (xs : List Value) (hown : w.ownsRow base 5 1 x n xs) (ad : Addr) (c : Nat) (z : Int) (hb : Bs w (some ad) 1 [z]) (hbytes : n + 1 ≤ 140737488355328) (hbase : base ≤ w.heap.size) :
    ∃ v' w', (Builtin.append_ #[22, 22] ty #[x, .slice (some ad) 1 c]).run Try.prog w = .ok v' w' ∧ w'.ownsRow base 5 1 v' (n + 1) (xs ++ [.int .u8 z]) ∧ w.grownBy w' x.ownBlock ∧ (∀ g, x.ownBlock = some g → ∀ j, j < n → w'.cell? ⟨g, j, none⟩ = w.cell? ⟨g, j, none⟩) ∧
      (v'.ownBlock = x.ownBlock ∨ ∃ g', v'.ownBlock = some g' ∧ w.heap.size ≤ g') := by
  obtain ⟨i0, hi, hz0, hz1, hz2⟩ := info_parts info5
  have hnews : ∀ j u, (byteVals [z])[j]? = some u → w.cell? (ad.add j) = some u := by
    intro j u hj
    obtain ⟨b, off, e, hc⟩ := hb.2.2 (by omega)
    cases e
    cases j with
    | zero =>
      have := hc 0 (by omega)
      rw [Addr.add_lit, this]
      simp [byteVals] at hj
      simp [hj]
    | succ j => simp [byteVals] at hj
  obtain ⟨v', w', hr, h1, h2⟩ := run_append_bs w base ty x n xs hown (some ad) 1 c [z] hb hbytes hbase
  refine ⟨v', w', hr, h1, h2, ?_, ?_⟩
  · intro g hg j hj
    rcases hown.2 with ⟨rfl, _⟩ | ⟨g', cap, cur, rfl, _⟩
    · cases hg
    · cases hg
      obtain ⟨v2, w2, hr2, _, _, hk⟩ := run_append_keep w base ty g' n cap xs hown ad 1 c [z] hb hbytes hbase
      rw [hr] at hr2
      cases hr2
      exact hk j hj
  · rcases hown.2 with ⟨rfl, rfl⟩ | ⟨g, cap, cur, rfl, _⟩
    · have hr2 := run_append_nil (P := Try.prog) w 22 ty 5 i0 (.int .u8 0) Try.underlying22 hi hz0 ad 1 c (byteVals [z]) (by rw [hz1]; rfl) hnews (by omega) (by omega) (by rw [hz2]; omega)
      rw [hr] at hr2
      cases hr2
      exact .inr ⟨_, rfl, Nat.le_refl _⟩
    · by_cases hroom : n + 1 ≤ cap
      · obtain ⟨w2, hr2, _, _⟩ := run_append_own_spare (P := Try.prog) w base 22 ty 5 i0 1 Try.underlying22 hi hz1 g n cap xs hown ad 1 c (byteVals [z]) rfl hnews (by intro u hu; simp [byteVals] at hu; subst hu; rfl) hroom
        rw [hr] at hr2
        cases hr2
        exact .inl rfl
      · have hr2 := run_append_grow (P := Try.prog) w 22 ty 5 i0 (.int .u8 0) Try.underlying22 hi hz0 ⟨g, 0, none⟩ n cap xs (by rw [hz1]; have := hown.1; omega) (hown.cells rfl) ad 1 c (byteVals [z]) (by rw [hz1]; rfl) hnews (by omega) (by omega) (growslice_fits (by omega) (by rw [hz2]; omega))
        rw [hr] at hr2
        cases hr2
        exact .inr ⟨_, rfl, Nat.le_refl _⟩

theorem wpList_append_one {w : World} {ops : Array Oper} {rest : List Oper} {o : Oper} {a : Act} {Q : Exit → Act → World → Prop} (hgd : o.guard = none) (s y : Operand)
    (ho : o.op = .call { callee := .builtin .append, args := #[s, y], argTypes := #[22, 22] }) (base : Nat) (x : Value) (n : Nat) (xs : List Value) (hs : a.eval s = x) (hown : w.ownsRow base 5 1 x n xs) (ad : Addr) (c : Nat) (z : Int) (hy : a.eval y = .slice (some ad) 1 c) (hb : Bs w (some ad) 1 [z])
    (hbytes : n + 1 ≤ 140737488355328) (hbase : base ≤ w.heap.size)
    (h : ∀ v' w', w'.ownsRow base 5 1 v' (n + 1) (xs ++ [.int .u8 z]) → w.grownBy w' x.ownBlock → (∀ g, x.ownBlock = some g → ∀ j, j < n → w'.cell? ⟨g, j, none⟩ = w.cell? ⟨g, j, none⟩) → (v'.ownBlock = x.ownBlock ∨ ∃ g', v'.ownBlock = some g' ∧ w.heap.size ≤ g') → wpList Try.prog ops Q rest (a.put o.dst v') w') : wpList Try.prog ops Q (o :: rest) a w := by
  refine wpList_plain hgd fun K hK => ?_
  obtain ⟨v', w', hr, h2, h3, h4, h5⟩ := run_append_one w base o.type x n xs hown ad c z hb hbytes hbase
  unfold Oper.wp execOp
  simp only [ho, resolve, invoke, builtin, Sem.run_bind, Sem.run_pure, Result.andThen_ok, List.map_toArray, List.map_cons, List.map_nil, hs, hy, hr]
  exact hK _ _ (h v' w' h2 h3 h4 h5)

theorem mk1_byte (i j : Nat) : 0 ≤ (((31 * i + 3 * j + 1) % 256 : Nat) : Int) ∧ (((31 * i + 3 * j + 1) % 256 : Nat) : Int) < 256 := by omega

/-- What the second loop has of all lists but the one at hand: the first k are grown (V), those behind k are marked. -/
structure Gw (B n Lb : Nat) (O V : Nat → Value) (Lo : Nat → Nat) (w : World) (k k' : Nat) (vg : Value) (W : World) : Prop where
  row : ∃ cs fr, W.heap[Lb]? = some (.cells cs 22 fr) ∧ ∀ i, i < n → cs[i]? = some (O i)
  own : ∀ i, i < n → k' ≤ i → W.ownsRow B 5 1 (O i) (Lo i) (mks i (Lo i))
  grn : ∀ i, i < k → W.ownsRow B 5 1 (V i) (Lo i + 10) (mks i (Lo i + 10))
  old : ∀ i, i < k → ∀ g, (O i).ownBlock = some g → ∀ j, j < Lo i → W.cell? ⟨g, j, none⟩ = some (mk1 i j)
  sepV : ∀ i j, i < k → j < n → i ≠ j → Ne2 (V i) (O j)
  gro : W.ownsRow w.heap.size 22 1 vg k ((List.range k).map V)
  bel : Below B w W

/-- The list at hand, with m bytes more. -/
structure Cu (B n : Nat) (O V : Nat → Value) (Lo : Nat → Nat) (k m : Nat) (x : Value) (W : World) : Prop where
  cur : W.ownsRow B 5 1 x (Lo k + m) (mks k (Lo k + m))
  oldk : ∀ g, (O k).ownBlock = some g → ∀ j, j < Lo k → W.cell? ⟨g, j, none⟩ = some (mk1 k j)
  sepO : ∀ i, i < n → i ≠ k → Ne2 (O i) x
  sepV : ∀ i, i < k → Ne2 (V i) x
  same : x.ownBlock = (O k).ownBlock ∨ ∃ g, x.ownBlock = some g ∧ ∀ g', (O k).ownBlock = some g' → g' ≠ g

theorem ne2_new {u v x : Value} {S : Nat} (h : Ne2 u x) (hu : ∀ g, u.ownBlock = some g → g < S) (hv : v.ownBlock = x.ownBlock ∨ ∃ g', v.ownBlock = some g' ∧ S ≤ g') : Ne2 u v := by
  rcases hv with e | ⟨g', e, hg⟩
  · unfold Ne2; rw [e]; exact h
  · cases hu' : u.ownBlock with
    | none => exact .inl hu'
    | some g => exact .inr (by rw [e, hu']; intro e2; have := hu g hu'; have := Option.some.inj e2; omega)
theorem kept_ne {w w' : World} {B : Nat} {e : TypeId} {u x : Value} {n : Nat} {xs : List Value} (h : w.ownsRow B e 1 u n xs) (hg : w.grownBy w' x.ownBlock) (hn : Ne2 u x) : w'.ownsRow B e 1 u n xs := h.kept hg hn
theorem cells_ne {w w' : World} {x u : Value} {g : Nat} (hg : w.grownBy w' x.ownBlock) (hu : u.ownBlock = some g) (hn : Ne2 u x) (hlt : g < w.heap.size) (j : Nat) : w'.cell? ⟨g, j, none⟩ = w.cell? ⟨g, j, none⟩ := by
  refine World.cell?_of_block (hg.block g hlt (fun e => ?_))
  rcases hn with h | h
  · rw [hu] at h; cases h
  · exact h (by rw [hu, e])

/-- One byte more behind the list at hand. -/
theorem gw_step {B n Lb : Nat} {O V : Nat → Value} {Lo : Nat → Nat} {w w' W : World} {k m : Nat} {vg x v : Value} (hB : B ≤ w.heap.size) (hOw : ∀ i, i < n → ∀ g, (O i).ownBlock = some g → g < w.heap.size) (h : Gw B n Lb O V Lo w k (k + 1) vg W) (c : Cu B n O V Lo k m x W) (hk : k < n)
    (ho : w'.ownsRow B 5 1 v (Lo k + m + 1) (mks k (Lo k + m) ++ [mk1 k (Lo k + m)])) {o : Obj} (hg : (W.alloc o).grownBy w' x.ownBlock) (hkeep : ∀ g, x.ownBlock = some g → ∀ j, j < Lo k + m → w'.cell? ⟨g, j, none⟩ = (W.alloc o).cell? ⟨g, j, none⟩)
    (hnew : v.ownBlock = x.ownBlock ∨ ∃ g', v.ownBlock = some g' ∧ (W.alloc o).heap.size ≤ g') : Gw B n Lb O V Lo w k (k + 1) vg w' ∧ Cu B n O V Lo k (m + 1) v w' := by
  have hsz : W.heap.size ≤ w'.heap.size := by have := hg.size; simp at this; omega
  have hlt : ∀ {e : TypeId} {u : Value} {l : Nat} {ys : List Value}, W.ownsRow B e 1 u l ys → ∀ g, u.ownBlock = some g → g < (W.alloc o).heap.size := by
    intro e u l ys hu g hg'
    have := (hu.lt g hg').2
    simp; omega
  have hcl : ∀ {u : Value} {g : Nat}, u.ownBlock = some g → Ne2 u x → g < W.heap.size → ∀ j, w'.cell? ⟨g, j, none⟩ = W.cell? ⟨g, j, none⟩ := by
    intro u g hu hn hl j
    rw [cells_ne hg hu hn (by simp; omega) j]
    exact World.cell?_of_block (Below.heap_alloc W o g hl)
  have hOlt : ∀ i, i < n → ∀ g, (O i).ownBlock = some g → g < (W.alloc o).heap.size := by
    intro i hi g hgi
    have := hOw i hi g hgi
    have := h.bel.size
    simp; omega
  refine ⟨⟨?_, ?_, ?_, ?_, h.sepV, ?_, ?_⟩, ⟨?_, ?_, ?_, ?_, ?_⟩⟩
  · obtain ⟨cs, fr, hc, hgt⟩ := h.row
    refine ⟨cs, fr, ?_, hgt⟩
    have hl := (Array.getElem?_eq_some_iff.1 hc).1
    rw [hg.block Lb (by simp; omega) (box_type' c.cur hc (by decide)), Below.heap_alloc W o Lb hl, hc]
  · intro i hi hki
    exact kept_ne ((h.own i hi hki).alloc o) hg (c.sepO i hi (by omega))
  · intro i hi
    exact kept_ne ((h.grn i hi).alloc o) hg (c.sepV i hi)
  · intro i hi g hgi
    intro j hj
    rw [hcl hgi (c.sepO i (by omega) (by omega)) (Nat.lt_of_lt_of_le (hOw i (by omega) g hgi) h.bel.size) j]
    exact h.old i hi g hgi j hj
  · exact (h.gro.alloc o).kept hg (own_type h.gro c.cur (by decide))
  · exact (h.bel.alloc (Nat.le_trans hB h.bel.size) o).grown hg (by have := h.bel.size; simp; omega) (fun j e => (c.cur.lt j e).1)
  · have e1 : Lo k + (m + 1) = Lo k + m + 1 := by omega
    rw [e1, mks_succ]
    exact ho
  · intro g hgk
    intro j hj
    have h1 := Nat.lt_of_lt_of_le (hOw k hk g hgk) h.bel.size
    rw [← c.oldk g hgk j hj]
    rcases c.same with e | ⟨g2, e, hne⟩
    · rw [hkeep g (by rw [e]; exact hgk) j (by omega)]
      exact World.cell?_of_block (Below.heap_alloc W o g h1)
    · exact hcl hgk (.inr (by rw [e, hgk]; intro e2; exact hne g hgk (Option.some.inj e2))) h1 j
  · intro i hi hne
    exact ne2_new (c.sepO i hi hne) (hOlt i hi) hnew
  · intro i hi
    exact ne2_new (c.sepV i hi) (hlt (h.grn i hi)) hnew
  · rcases hnew with e | ⟨g', e, hl⟩
    · rw [e]; exact c.same
    · refine .inr ⟨g', e, fun g2 hg2 => ?_⟩
      have := hOw k hk g2 hg2
      have := h.bel.size
      simp at hl
      omega

theorem gw_begin {B n Lb : Nat} {O V : Nat → Value} {Lo : Nat → Nat} {w W : World} {k : Nat} {vg : Value} (hs : ∀ i j, i < n → j < n → i ≠ j → Ne2 (O i) (O j)) (h : Gw B n Lb O V Lo w k k vg W) (hk : k < n) : Gw B n Lb O V Lo w k (k + 1) vg W ∧ Cu B n O V Lo k 0 (O k) W := by
  refine ⟨⟨h.row, fun i hi hk' => h.own i hi (by omega), h.grn, h.old, h.sepV, h.gro, h.bel⟩, ⟨h.own k hk (Nat.le_refl _), ?_, fun i hi hne => hs i k hi hk hne, fun i hi => h.sepV i k hi hk (by omega), .inl rfl⟩⟩
  intro g hg
  have ho := h.own k hk (Nat.le_refl _)
  intro j hj
  have := ho.cells hg j (mk1 k j) (mks_get k _ j hj)
  rwa [Addr.add_lit, Nat.zero_add] at this

/-- The list at hand is grown: it stands among the grown ones. -/
theorem gw_end {B n Lb : Nat} {O V : Nat → Value} {Lo : Nat → Nat} {w W w' : World} {k : Nat} {vg x v : Value} {o : Obj} (hB : B ≤ w.heap.size) (hOw : ∀ i, i < n → ∀ g, (O i).ownBlock = some g → g < w.heap.size) (hL : Lb < w.heap.size) (h : Gw B n Lb O V Lo w k (k + 1) vg W) (c : Cu B n O V Lo k 10 x W) (hk : k < n)
    (ho : w'.ownsRow w.heap.size 22 1 v (k + 1) ((List.range k).map V ++ [x])) (hg : (W.alloc o).grownBy w' vg.ownBlock) : Gw B n Lb O (fun i => if i = k then x else V i) Lo w (k + 1) (k + 1) v w' := by
  have hsz : W.heap.size ≤ w'.heap.size := by have := hg.size; simp at this; omega
  have hkeep : ∀ {u : Value} {l : Nat} {ys : List Value}, W.ownsRow B 5 1 u l ys → w'.ownsRow B 5 1 u l ys := fun hu => (hu.alloc o).kept hg (own_type hu h.gro (by decide))
  have hcl : ∀ i, i < n → ∀ g, (O i).ownBlock = some g → ∀ j, w'.cell? ⟨g, j, none⟩ = W.cell? ⟨g, j, none⟩ := by
    intro i hi g hgi j
    have hl := hOw i hi g hgi
    have := h.bel.size
    refine (World.cell?_of_block (hg.block g (by simp; omega) (fun e => ?_))).trans (World.cell?_of_block (Below.heap_alloc W o g (by omega)))
    have := (h.gro.lt g e.symm).1
    omega
  refine ⟨?_, ?_, ?_, ?_, ?_, ?_, ?_⟩
  · obtain ⟨cs, fr, hc, hgt⟩ := h.row
    refine ⟨cs, fr, ?_, hgt⟩
    have hl := (Array.getElem?_eq_some_iff.1 hc).1
    rw [hg.block Lb (by simp; omega) (fun e => by have := (h.gro.lt Lb e.symm).1; omega), Below.heap_alloc W o Lb hl, hc]
  · intro i hi hki
    exact hkeep (h.own i hi hki)
  · intro i hi
    by_cases e : i = k
    · subst e; rw [if_pos rfl]; exact hkeep c.cur
    · rw [if_neg e]; exact hkeep (h.grn i (by omega))
  · intro i hi g hgi
    by_cases e : i = k
    · subst e
      exact fun j hj => (hcl i hk g hgi j).trans (c.oldk g hgi j hj)
    · exact fun j hj => (hcl i (by omega) g hgi j).trans (h.old i (by omega) g hgi j hj)
  · intro i j hi hj hne
    by_cases e : i = k
    · subst e; rw [if_pos rfl]; exact (c.sepO j hj (by omega)).symm
    · rw [if_neg e]; exact h.sepV i j (by omega) hj hne
  · have e1 : (List.range (k + 1)).map (fun i => if i = k then x else V i) = (List.range k).map V ++ [x] := by
      rw [List.range_succ, List.map_append]
      congr 1
      · apply List.map_congr_left
        intro i hi
        rw [if_neg (by have := List.mem_range.1 hi; omega)]
      · simp
    rw [e1]; exact ho
  · exact (h.bel.alloc (Nat.le_trans hB h.bel.size) o).grown hg (by have := h.bel.size; simp; omega) (fun j e => Nat.le_trans hB (h.gro.lt j e).1)
end Go.Proofs.Ytfmjknknckjdiaa

namespace Go.Proofs.Ytfmjknknckjdiaa
open Go.RowKit

theorem mk_zero {B n Lb : Nat} {O : Nat → Value} {Lo : Nat → Nat} {w : World} (h : Lists B n Lb O Lo w) : Mk B n Lb O Lo w 0 0 w :=
  ⟨h, fun i hi => absurd hi (by omega), fun h0 => by obtain ⟨xs, hx⟩ := h.own 0 h0; exact ⟨xs, hx, rfl⟩, Below.refl _ _⟩

theorem info22 : (Try.prog.info? 22).map (fun i => (i.zero, i.size, i.bytes)) = some (some (.slice none 0 0), 1, 24) := by kernel_rfl
theorem row22 {W : World} {base : Nat} {v : Value} {n : Nat} {xs : List Value} (h : W.ownsRow base 22 1 v n xs) : ∃ a c, v = .slice a n c ∧ (0 < n → ∃ g, a = some ⟨g, 0, none⟩) ∧ c ≤ 9223372036854775807 := by
  rcases h.2 with ⟨e, h0⟩ | ⟨g, cap, cur, e, _, _, _, hcm, _⟩
  · exact ⟨none, 0, by rw [e, h0], fun hp => absurd hp (by omega), by omega⟩
  · exact ⟨_, cap, e, fun _ => ⟨g, rfl⟩, by unfold maxLen at hcm; omega⟩
def lenV : Value → Nat
  | .slice _ l _ => l
  | _ => 0
theorem gw_zero {B n Lb : Nat} {O : Nat → Value} {Lo : Nat → Nat} {w W : World} (h : Mk B n Lb O Lo w n 0 W) (hB : B ≤ w.heap.size) : Gw B n Lb O (fun _ => undef) Lo w 0 0 (.slice (some ⟨W.heap.size, 0, none⟩) 0 0) (W.alloc (.cells #[] 22)) := by
  refine ⟨?_, fun i hi _ => (h.done i hi).alloc _, fun i hi => absurd hi (by omega), fun i hi => absurd hi (by omega), fun i j hi => absurd hi (by omega), World.ownsRow_lit W #[] 0 h.bel.size (Nat.zero_le _) rfl, ?_⟩
  · obtain ⟨cs, fr, hc, hg⟩ := h.ls.row
    exact ⟨cs, fr, (Below.heap_alloc W _ Lb (Array.getElem?_eq_some_iff.1 hc).1).trans hc, hg⟩
  · exact h.bel.trans ((below_one W _).mono (Nat.le_trans hB h.bel.size))
theorem gw_later {B n Lb : Nat} {O V : Nat → Value} {Lo : Nat → Nat} {w W W' : World} {k k' : Nat} {vg : Value} (hB : B ≤ w.heap.size) (h : Gw B n Lb O V Lo w k k' vg W) (hb : Below W.heap.size W W') : Gw B n Lb O V Lo w k k' vg W' := by
  refine ⟨?_, fun i hi hk => owns_later (h.own i hi hk) hb, fun i hi => owns_later (h.grn i hi) hb, fun i hi g hg j hj => cell_later hb (h.old i hi g hg j hj), h.sepV, owns_laterE h.gro hb, h.bel.trans (hb.mono (Nat.le_trans hB h.bel.size))⟩
  obtain ⟨cs, fr, hc, hg⟩ := h.row
  exact ⟨cs, fr, (hb.block Lb (Array.getElem?_eq_some_iff.1 hc).1).trans hc, hg⟩
theorem gw_cell {B n Lb : Nat} {O V : Nat → Value} {Lo : Nat → Nat} {w W : World} {k k' : Nat} {vg : Value} (h : Gw B n Lb O V Lo w k k' vg W) {i : Nat} (hi : i < n) : W.cell? ⟨Lb, i, none⟩ = some (O i) := by
  obtain ⟨cs, fr, hc, hg⟩ := h.row
  simp [World.cell?, hc, hg i hi]

set_option maxRecDepth 100000 in
set_option maxHeartbeats 4000000 in
theorem apart_d (n cap Lb B : Nat) (O : Nat → Value) (Lo : Nat → Nat) (w : World) (h : Lists B n Lb O Lo w) (hB : B ≤ w.heap.size) :
    Calls Try.prog 16 #[.slice (some ⟨Lb, 0, none⟩) n cap] w fun e w' => e = .returned (.bool true) ∧ Below B w w' := by
  have hn := h.few
  have hOw : ∀ i, i < n → ∀ g, (O i).ownBlock = some g → g < w.heap.size := by
    intro i hi g hg
    obtain ⟨xs, hx⟩ := h.own i hi
    exact (hx.lt g hg).2
  have hsep := h.sep
  have hbig := h.big
  have hM0 := mk_zero h
  go_enter Try.func16, Try.ntmps16
  go_wp2_with fail
  go_loopw [15] (fun i wr => ∃ k : Nat, k ≤ n ∧ i = .int .i64 k ∧ Mk B n Lb O Lo w k 0 wr) (fun i _ => n - (intOf i).toNat)
  case atStart => exact ⟨0, by omega, rfl, hM0⟩
  case round =>
    obtain ⟨k, hk, rfl, hM⟩ := hrel
    by_cases hlt : k < n
    · have hc := hM.ls.cell hlt
      obtain ⟨a, c, hO, hform, hcm⟩ := hM.ls.form hlt
      have hLo := hbig k hlt
      rw [hO] at hc
      go_wp2_with fail
      go_loopw [22] (fun j ws => ∃ m : Nat, m ≤ Lo k ∧ j = .int .i64 m ∧ Mk B n Lb O Lo w k m ws) (fun j _ => Lo k - (intOf j).toNat)
      case atStart => exact ⟨0, by omega, rfl, hM⟩
      case round =>
        obtain ⟨m, hm, rfl, hM2⟩ := hrel
        by_cases hml : m < Lo k
        · obtain ⟨g, rfl⟩ := hform (by omega)
          obtain ⟨xs, hx, _⟩ := hM2.now hlt
          have hx' := hx
          rw [hO] at hx'
          have hxl : xs.length = Lo k := by have := hx.1; omega
          have hcm1 := hx'.cellAt m (by omega)
          rw [List.getElem?_eq_getElem (by omega)] at hcm1
          have hfm := hx'.frozenAt m
          have hst := hM2.store hlt hml hO
          clear hx hx' hM
          have e1 : mk1 k m = .int .u8 ((31 * (k : Int) + 3 * (m : Int) + 1) % 256) := val_int (by omega)
          rw [e1] at hst
          go_wp2_with fail
          exact ⟨⟨m + 1, by omega, by go_num, hst⟩, by simp [intOf]; omega⟩
        · obtain rfl : m = Lo k := by omega
          have hnx := hM2.next hlt
          clear hM hM2
          go_wp2_with fail
          exact ⟨⟨k + 1, by omega, by go_num, hnx⟩, by simp [intOf]; omega⟩
    · obtain rfl : k = n := by omega
      have hG0 := gw_zero hM hB
      clear hM hM0
      go_wp2_with fail
      generalize wr.alloc (.cells #[] 22) = Wg at hG0 ⊢
      obtain ⟨i0, hi, hz0, hz1, hz2⟩ := info_parts info22
      go_loopw [6, 40] (fun vg i ws => ∃ (q : Nat) (V : Nat → Value), q ≤ k ∧ i = .int .i64 q ∧ Gw B k Lb O V Lo w q q vg ws) (fun _ i _ => k - (intOf i).toNat)
      case atStart => exact ⟨0, fun _ => undef, by omega, rfl, hG0⟩
      case round =>
        obtain ⟨q, V, hq, rfl, hG⟩ := hrel
        by_cases hqk : q < k
        · obtain ⟨hG1, hC1⟩ := gw_begin hsep hG hqk
          have hc := gw_cell hG hqk
          obtain ⟨a, c, hO, hform, hcm⟩ := h.form hqk
          have hLo := hbig q hqk
          rw [hO] at hc hC1
          clear hG hG0
          go_wp2_with fail
          go_loopw [8] (fun x wt => ∃ (m : Nat) (ax : Option Addr) (cx : Nat), m ≤ 10 ∧ x = .slice ax (Lo q + m) cx ∧ Gw B k Lb O V Lo w q (q + 1) u6 wt ∧ Cu B k O V Lo q m x wt) (fun x _ => Lo q + 10 - lenV x)
          case atStart => exact ⟨0, a, c, by omega, rfl, hG1, hC1⟩
          case round =>
            obtain ⟨m, ax, cx, hm, rfl, hG2, hC2⟩ := hrel
            have hlv : Hid (lenV (.slice ax (Lo q + m) cx) = Lo q + m) := hide1 rfl
            clear hG1 hC1 hc
            by_cases hm10 : m < 10
            · have hz : (((31 * q + 3 * (Lo q + m) + 1) % 256 : Nat) : Int) = (31 * (q : Int) + 3 * ((Lo q : Int) + (m : Int)) + 1) % 256 := by omega
              have hzb := mk1_byte q (Lo q + m)
              rw [hz] at hzb
              have hbw := Nat.le_trans hB hG2.bel.size
              go_wp2_with (at_builtin; refine wpList_append_one rfl (.tmp 52) (.tmp 61) rfl B _ _ _ rfl (hC2.cur.alloc _) ⟨wr.heap.size, 0, none⟩ 1 _ rfl (bs_one _ _ hzb) (by omega) (by simp; omega) ?_; intro v5 w5 h5a h5b h5c h5d; refine stopAt ?_)
              refine hide1 ?_
              have h5a' : w5.ownsRow B 5 1 v5 (Lo q + m + 1) (mks q (Lo q + m) ++ [mk1 q (Lo q + m)]) := by
                unfold mk1; rw [hz]; exact h5a
              obtain ⟨hG3, hC3⟩ := gw_step hB hOw hG2 hC2 hqk h5a' h5b h5c h5d
              obtain ⟨g5, c5, rfl⟩ := ownsRow_succ h5a
              clear h5a h5a' h5b h5c h5d hG2 hC2
              go_wp2_with fail
              exact ⟨⟨m + 1, _, _, by omega, rfl, hG3, hC3⟩, by simp only [lenV]; omega⟩
            · obtain rfl : m = 10 := by omega
              have hLb : Lb < w.heap.size := by obtain ⟨cs, fr, hc, _⟩ := h.row; exact (Array.getElem?_eq_some_iff.1 hc).1
              have hgs : w.heap.size ≤ wr.heap.size := hG2.bel.size
              have hgl := hG2.gro
              go_wp2_with (at_builtin; refine wpList_append_own _ rfl (.tmp 63) (.tmp 65) 36 rfl w.heap.size 22 i0 (.slice none 0 0) 1 24 Try.underlying36 hi hz0 hz1 hz2 rfl (by decide) _ q _ rfl (hgl.alloc _) ⟨wr.heap.size, 0, none⟩ 1 1 [_] rfl rfl (cell_one_new _ _ _) (by simp [Value.oneCell']) (by unfold maxLen; omega) (by omega) (by simp; omega) ?_; intro v5 w5 h5a h5b _; refine stopAt ?_)
              refine hide1 ?_
              have hG3 := gw_end hB hOw hLb hG2 hC2 hqk h5a h5b
              clear h5a h5b hG2 hC2 hgl
              go_wp2_with fail
              exact ⟨⟨q + 1, _, by omega, by go_num, hG3⟩, by simp [intOf]; omega⟩
        · obtain rfl : q = k := by omega
          clear hG0
          obtain ⟨ag, cg, rfl, hgf, hgm⟩ := row22 hG.gro
          go_wp2_with fail
          go_loopw [70] (fun i ws => ∃ r : Nat, r ≤ q ∧ i = .int .i64 r ∧ Gw B q Lb O V Lo w q q (.slice ag q cg) ws) (fun i _ => q - (intOf i).toNat)
          case atStart => exact ⟨0, by omega, rfl, hG⟩
          case round =>
            clear hG
            obtain ⟨r, hr, rfl, hG⟩ := hrel
            by_cases hrq : r < q
            · obtain ⟨gg, rfl⟩ := hgf (by omega)
              have hcg := hG.gro.cellAt r (by omega)
              rw [List.getElem?_map, List.getElem?_range hrq] at hcg
              have hgr := hG.grn r hrq
              have e10 : Lo r + 10 = Lo r + 9 + 1 := by omega
              rw [e10] at hgr
              obtain ⟨gv, cv, hV⟩ := ownsRow_succ hgr
              rw [← e10] at hV
              have hLo := hbig r hrq
              simp only [Option.map_some, hV] at hcg
              go_wp2_with fail
              go_loopw [77] (fun i ws => ∃ j : Nat, j ≤ Lo r + 10 ∧ i = .int .i64 j ∧ Gw B q Lb O V Lo w q q (.slice (some ⟨gg, 0, none⟩) q cg) ws) (fun i _ => Lo r + 10 - (intOf i).toNat)
              case atStart => exact ⟨0, by omega, rfl, hG⟩
              case round =>
                clear hG hcg hgr
                obtain ⟨j, hj, rfl, hG⟩ := hrel
                by_cases hjl : j < Lo r + 10
                · have hcl := gw_cell hG hrq
                  obtain ⟨a, c, hO, hform, hcm⟩ := h.form hrq
                  have e1 : mk1 r j = .int .u8 ((31 * (r : Int) + 3 * (j : Int) + 1) % 256) := val_int (by omega)
                  have hgr2 := hG.grn r hrq
                  rw [hV] at hgr2
                  have hcv := hgr2.cellAt j (by omega)
                  rw [mks_get r _ j hjl, e1] at hcv
                  have hne : (((31 * (r : Int) + 3 * (j : Int) + 1) % 256) != ((31 * (r : Int) + 3 * (j : Int) + 1) % 256)) = false := by simp
                  rw [hO] at hcl
                  by_cases hjo : j < Lo r
                  · obtain ⟨go, rfl⟩ := hform (by omega)
                    have hco := hG.old r hrq go (by rw [hO]; rfl) j hjo
                    rw [e1] at hco
                    have hd : decide ((j : Int) < (Lo r : Int)) = true := decide_eq_true (by omega)
                    clear hgr2
                    go_wp2
                    go_quiet (fail)
                    go_wp2
                    exact ⟨⟨j + 1, by omega, by go_num, gw_later hB hG (below_drewN (Below.refl _ _) nq)⟩, by simp [intOf]; omega⟩
                  · have hd : decide ((j : Int) < (Lo r : Int)) = false := decide_eq_false (by omega)
                    clear hgr2
                    go_wp2
                    go_quiet (fail)
                    go_wp2
                    exact ⟨⟨j + 1, by omega, by go_num, gw_later hB hG (below_drewN (Below.refl _ _) nq)⟩, by simp [intOf]; omega⟩
                · go_wp2
                  exact ⟨⟨r + 1, by omega, by go_num, hG⟩, by simp [intOf]; omega⟩
            · go_wp2
              go_ret
              exact ⟨rfl, hG.bel⟩
end Go.Proofs.Ytfmjknknckjdiaa

namespace Go.Proofs.Ytfmjknknckjdiaa
open Go.RowKit

set_option maxHeartbeats 800000 in
theorem refPut_no (a : Option Addr) (len cap : Nat) (w : World) (h : 65536 < len) :
    Calls Try.prog 11 #[.slice a len cap] w fun e w' => e = .returned (.tuple #[.slice none 0 0, .bool false]) ∧ w' = w := by
  go_enter Try.func11, Try.ntmps11
  go_wp2
  go_ret2
  exact ⟨rfl, rfl⟩

set_option maxHeartbeats 800000 in
theorem refPut_d (a : Option Addr) (len cap : Nat) (zs : List Int) (w : World) (hb : Bs w a len zs) (h : len ≤ 65536) :
    Calls Try.prog 11 #[.slice a len cap] w fun e w' => ∃ v, e = .returned (.tuple #[v, .bool true]) ∧ w'.ownsRow w.heap.size 5 1 v (8 + len) (byteVals (put zs)) ∧ Below w.heap.size w w' := by
  have el := hb.1
  go_enter Try.func11, Try.ntmps11
  go_wp2_with fail
  refine (refBytes_own len (by omega) _).mono ?_
  rintro e w1 ⟨v1, rfl, hown1, hb1⟩
  obtain ⟨a1, c1, rfl, hbs1, hle1, _⟩ := bs_owned hown1 (bytesOf_bytes _)
  have hown0 := ownsRow_empty w1 w1.heap.size (Nat.le_refl _)
  have hbe := below_one w1 (.cells #[] 5)
  have hbs1' := hbs1.later hbe
  go_wp2_with (at_builtin; refine stopAt ?_)
  refine hide1 ?_
  refine wpList_append_bs rfl (.tmp 13) (.tmp 14) rfl w1.heap.size _ _ _ rfl hown0 _ _ _ _ rfl hbs1' (by omega) hbe.size ?_
  intro v2 w2 hown2 hg2
  have hb2 : Below w1.heap.size w1 w2 := hbe.grown hg2 hbe.size (fun j e => (hown0.lt j e).1)
  clear hown0 hbe hbs1' hg2
  go_wp2_with (at_builtin; refine wpList_append_bs rfl (.tmp 15) (.tmp 16) rfl w1.heap.size _ _ _ rfl hown2 _ _ _ _ rfl (hb.later (bl2 hb1 hb2)) (by omega) hb2.size ?_; intro v3 w3 hown3 hg3; have hb3 := hb2.grown hg3 hb2.size (fun j e => (hown2.lt j e).1); refine stopAt ?_)
  refine hide1 ?_
  rw [List.nil_append, byteVals_app] at hown3
  obtain ⟨a3, c3, rfl, hbs3, hle3, _⟩ := bs_owned hown3 (IsB.app (bytesOf_bytes _) hb.2.1)
  clear hown2 hg3 hown3 hb2
  go_wp2_with fail
  refine (refOf_any _ _ _ _ _ hbs3 (by omega)).mono ?_
  rintro e w4 ⟨rfl, rfl⟩
  have hown1' := owns_later hown1 hb3
  have hbw := bl2 hb1 hb3
  clear hown1 hbs1 hbs3 hb3 hb1
  go_wp2_with fail
  refine (refBytes_own _ (crcSum_lt _) _).mono ?_
  rintro e w5 ⟨v5, rfl, hown5, hb5⟩
  obtain ⟨a5, c5, rfl, hbs5, hle5, _⟩ := bs_owned hown5 (bytesOf_bytes _)
  have hown6 := owns_later hown1' hb5
  have hbw5 := bl2 hbw hb5
  clear hown1' hbw hb5 hown5
  go_wp2_with (at_builtin; refine stopAt ?_)
  refine hide1 ?_
  refine wpList_append_bs rfl (.tmp 19) (.tmp 21) rfl w.heap.size _ _ _ rfl hown6 _ _ _ _ rfl hbs5 (by omega) hbw5.size ?_
  intro v7 w7 hown7 hg7
  have hb7 := hbw5.grown hg7 hbw5.size (fun j e => (hown6.lt j e).1)
  clear hown6 hg7 hbs5 hbw5
  go_wp2_with (at_builtin; refine wpList_append_bs rfl (.tmp 22) (.tmp 23) rfl w.heap.size _ _ _ rfl hown7 _ _ _ _ rfl (hb.later hb7) (by omega) hb7.size ?_; intro v8 w8 hown8 hg8; have hb8 := hb7.grown hg8 hb7.size (fun j e => (hown7.lt j e).1); refine stopAt ?_)
  refine hide1 ?_
  rw [byteVals_app, byteVals_app, show bytesOf len ++ bytesOf (crcSum (bytesOf len ++ zs)) ++ zs = put zs by unfold put; rw [el], show 4 + 4 + len = 8 + len from rfl] at hown8
  go_wp2_with fail
  go_ret2
  exact ⟨_, rfl, hown8, hb8⟩
end Go.Proofs.Ytfmjknknckjdiaa

namespace Go.Proofs.Ytfmjknknckjdiaa
open Go.RowKit

theorem owns_pre {W : World} {B g n cap k : Nat} {xs : List Value} (h : W.ownsRow B 5 1 (.slice (some ⟨g, 0, none⟩) n cap) n xs) (hk : k ≤ n) : W.ownsRow B 5 1 (.slice (some ⟨g, 0, none⟩) k cap) k (xs.take k) := by
  obtain ⟨h1, h2⟩ := h
  rcases h2 with ⟨e, _⟩ | ⟨g', cap', cur, e, hb, hg, hn, hm, hs, ht⟩
  · cases e
  · cases e
    refine ⟨by simp; omega, .inr ⟨g, cap, cur, rfl, hb, hg, by omega, hm, hs, ?_⟩⟩
    rw [← ht, List.take_take, Nat.mul_one, Nat.mul_one, Nat.min_eq_left hk]

set_option maxHeartbeats 400000 in
theorem copy_o (a : Option Addr) (len cap : Nat) (zs : List Int) (w : World) (hb : Bs w a len zs) (hm : len ≤ 140737488351232) :
    Calls Try.prog 9 #[.slice a len cap] w fun e w' => ∃ g cap', e = .returned (.slice (some ⟨g, 0, none⟩) len cap') ∧ Kpt w' g len cap' zs ∧ w'.ownsRow w.heap.size 5 1 (.slice (some ⟨g, 0, none⟩) len cap') len (byteVals zs) ∧ Below w.heap.size w w' := by
  obtain ⟨i0, hi, hz0, hz1, hz2⟩ := info_parts info5
  obtain ⟨w1, hmk, hown0, hg0⟩ := run_make_own (P := Try.prog) w w.heap.size 22 5 i0 (.int .u8 0) 1 Try.underlying22 hi hz0 hz1 .i64 .i64 (len + 2) (by rw [hz2]; omega) (by unfold maxLen; omega) (Nat.le_refl _)
  have ec : ((len + 2 : Nat) : Int) = (len : Int) + 2 := by omega
  rw [ec] at hmk
  have hb1 : Below w.heap.size w w1 := (Below.refl _ _).grown hg0 (Nat.le_refl _) (fun k e => by cases e)
  have hbs1 := hb.later hb1
  clear ec hi hz0 hz1 hz2 hg0
  go_enter Try.func9, Try.ntmps9
  go_wp2_with (first
    | (at_builtin; refine wpList_append_bs rfl (.tmp 6) (.tmp 7) rfl w.heap.size (.slice (some ⟨w.heap.size, 0, none⟩) 0 (len + 2)) 0 [] rfl hown0 a len cap zs rfl hbs1 (by omega) hb1.size ?_; intro v2 w2 hown2 hg2; have hb2 := hb1.grown hg2 hb1.size (fun k e => (hown0.lt k e).1); clear hown0 hg2)
    | (at_builtin; refine wpList_append_bs rfl (.tmp 8) (.tmp 9) rfl w.heap.size v2 (0 + len) ([] ++ byteVals zs) rfl (hown2.alloc _) _ 2 2 [165, 90] rfl (bs_two _) (by omega) (by have := hb2.size; simp; omega) ?_; intro v3 w3 hown3 hg3; have hb3 := below_app hb2 (Nat.le_refl _) hown2 hg3; have hx3 := copy_end hown3; obtain ⟨g, cap3, hv3, hcap3, hm3, hc3⟩ := hx3; have HO := hide1 hown3; clear hown2 hg3 hown3))
  go_ret
  refine ⟨g, cap3, rfl, ⟨hb.1, hb.2.1, hcap3, hm3, hc3⟩, ?_, hb3⟩
  have h := HO.out
  rw [hv3, show 0 + len + 2 = len + 2 by omega] at h
  have h2 := owns_pre h (show len ≤ len + 2 by omega)
  rwa [List.nil_append, List.take_left' (by simp [byteVals, hb.1])] at h2

theorem as_err (v : Value) (w : World) : (Instr.typeAssert (.iface 33 v) 26 33 true).run Try.prog w = .ok (.tuple #[v, .bool true]) w := by kernel_rfl
set_option maxHeartbeats 400000 in
theorem num_ten (w : World) : Calls Try.prog 28 #[.iface 33 (.int .i64 10)] w fun e w' => e = .returned (.int .i64 10) ∧ w' = w := by
  have has := as_err (.int .i64 10)
  go_enter Try.func28, Try.ntmps28
  go_wp2
  go_ret
  exact ⟨rfl, rfl⟩
set_option maxHeartbeats 400000 in
theorem is_ten (w : World) : Calls Try.prog 14 #[.iface 33 (.int .i64 10), .int .i64 10] w fun e w' => e = .returned (.bool true) ∧ w' = w := by
  go_enter Try.func14, Try.ntmps14
  go_wp2_with fail
  refine (num_ten w).mono ?_
  rintro e w' ⟨rfl, rfl⟩
  go_wp2_with fail
  go_ret
  exact ⟨rfl, rfl⟩

/-- Two lists. -/
def two {α : Type} (x y : α) (i : Nat) : α := if i = 0 then x else y
theorem lists2 {W : World} {B lu lv : Nat} {u v : Value} {xs ys : List Value} (hu : W.ownsRow B 5 1 u lu xs) (hv : W.ownsRow B 5 1 v lv ys) (hne : Ne2 u v) (b1 : lu ≤ 140737488351232) (b2 : lv ≤ 140737488351232) : Lists B 2 W.heap.size (two u v) (two lu lv) (W.alloc (.cells #[u, v] 22)) := by
  refine ⟨?_, ?_, ⟨#[u, v], (0, 0), World.alloc_heap_new W _, ?_⟩, ?_, by omega⟩
  · intro i hi
    rcases (show i = 0 ∨ i = 1 by omega) with rfl | rfl
    · exact ⟨xs, hu.alloc _⟩
    · exact ⟨ys, hv.alloc _⟩
  · intro i j hi hj hij
    rcases (show i = 0 ∧ j = 1 ∨ i = 1 ∧ j = 0 by omega) with ⟨rfl, rfl⟩ | ⟨rfl, rfl⟩
    · exact hne
    · exact hne.symm
  · intro i hi
    rcases (show i = 0 ∨ i = 1 by omega) with rfl | rfl
    · rfl
    · rfl
  · intro i hi
    rcases (show i = 0 ∨ i = 1 by omega) with rfl | rfl
    · exact b1
    · exact b2
end Go.Proofs.Ytfmjknknckjdiaa

namespace Go.Proofs.Ytfmjknknckjdiaa
open Go.RowKit

set_option maxRecDepth 100000 in
set_option maxHeartbeats 2000000 in
theorem puts_bi (a : Option Addr) (len cap : Nat) (zs : List Int) (n : Int) (w : World) (hb : Bs w a len zs) (h5 : len ≤ 5000) (hn : 0 ≤ n ∧ n ≤ 65536) :
    Calls Try.prog 3 #[.slice a len cap, .int .i64 n] w fun e w' => e = .returned (.bool true) ∧ Below w.heap.size w w' := by
  obtain ⟨m, rfl⟩ := Int.eq_ofNat_of_zero_le hn.1
  have hm : m ≤ 65536 := by omega
  have heq : (((8 + m : Nat) : Int) == (m : Int) + 8) = true := by simp; omega
  have heq2 : ((8 + (m : Int)) == (m : Int) + 8) = true := by simp; omega
  clear hn
  go_enter Try.func3, Try.ntmps3
  go_wp2_with fail
  refine (alive_d _).mono ?_
  rintro e w1 ⟨rfl, hb1⟩
  go_wp2_with fail
  refine (copy_o a len cap zs w1 (hb.later hb1) (by omega)).mono ?_
  rintro e w2 ⟨g, c2, rfl, hk2, ho2, hb2⟩
  have hoc := owns_weak (base := w.heap.size) ho2 hb1.size
  have hgc := (ho2.lt g rfl).2
  have hbw := bl2 hb1 hb2
  clear hb1 hb2 ho2
  go_wp2_with fail
  refine (put_d _ len c2 zs w2 hk2.bs (by omega)).mono ?_
  rintro e w3 ⟨vb, rfl, ho3, hb3⟩
  have e8 : 8 + len = 7 + len + 1 := by omega
  rw [e8] at ho3
  obtain ⟨gb, cb, rfl⟩ := ownsRow_succ ho3
  have hgb := (ho3.lt gb rfl).1
  clear e8
  have hne : Ne2 (.slice (some ⟨gb, 0, none⟩) (7 + len + 1) cb) (.slice (some ⟨g, 0, none⟩) len c2) := .inr (by simp [Value.ownBlock]; omega)
  have hob := owns_weak (base := w.heap.size) ho3 hbw.size
  replace hoc := owns_later hoc hb3
  replace hk2 := hk2.later hb3
  replace hbw := bl2 hbw hb3
  obtain ⟨_, _, e1, hbs3, _, _⟩ := bs_owned ho3 (put_bytes hb.2.1)
  cases e1
  clear hb3 ho3
  go_wp2_with fail
  refine (refPut_d _ len cap zs w3 (hb.later hbw) (by omega)).mono ?_
  rintro e w4 ⟨vr, rfl, ho4, hb4⟩
  obtain ⟨ar, cr, rfl, hbs4, _, _⟩ := bs_owned ho4 (put_bytes hb.2.1)
  replace hob := owns_later hob hb4
  replace hoc := owns_later hoc hb4
  replace hk2 := hk2.later hb4
  replace hbs3 := hbs3.later hb4
  replace hbw := bl2 hbw hb4
  clear hb4 ho4
  have hsm := same_any (ca := cb) (cb := cr) hbs3 hbs4
  rw [decide_eq_true rfl] at hsm
  have hkp := kept_any g len c2 a cap zs w4 hk2 (hb.later hbw)
  go_wp2_with fail
  refine hsm.mono ?_
  rintro e w5 ⟨rfl, rfl⟩
  go_wp2_with fail
  refine hkp.mono ?_
  rintro e w6 ⟨rfl, rfl⟩
  clear hsm hkp
  go_wp2_with fail
  refine (size_in m hm _).mono ?_
  rintro e w9 ⟨rfl, rfl⟩
  go_wp2_with fail
  refine (apart_d 2 2 _ w.heap.size (two (.slice (some ⟨gb, 0, none⟩) (7 + len + 1) cb) (.slice (some ⟨g, 0, none⟩) len c2)) (two (7 + len + 1) len) _ (lists2 hob hoc hne (by omega) (by omega)) (by have := hbw.size; simp; omega)).mono ?_
  rintro e w10 ⟨rfl, hb10⟩
  go_wp2_with fail
  go_ret
  exact ⟨rfl, (hbw.trans (below_one _ _ |>.mono hbw.size)).trans hb10⟩

set_option maxRecDepth 100000 in
set_option maxHeartbeats 2000000 in
theorem puts_bon (a : Option Addr) (len cap : Nat) (zs : List Int) (n : Int) (w : World) (hb : Bs w a len zs) (h5 : len ≤ 5000) (hn : n < 0) :
    Calls Try.prog 3 #[.slice a len cap, .int .i64 n] w fun e w' => e = .returned (.bool true) ∧ Below w.heap.size w w' := by
  go_enter Try.func3, Try.ntmps3
  go_wp2_with fail
  refine (alive_d _).mono ?_
  rintro e w1 ⟨rfl, hb1⟩
  go_wp2_with fail
  refine (copy_o a len cap zs w1 (hb.later hb1) (by omega)).mono ?_
  rintro e w2 ⟨g, c2, rfl, hk2, ho2, hb2⟩
  have hoc := owns_weak (base := w.heap.size) ho2 hb1.size
  have hgc := (ho2.lt g rfl).2
  have hbw := bl2 hb1 hb2
  clear hb1 hb2 ho2
  go_wp2_with fail
  refine (put_d _ len c2 zs w2 hk2.bs (by omega)).mono ?_
  rintro e w3 ⟨vb, rfl, ho3, hb3⟩
  have e8 : 8 + len = 7 + len + 1 := by omega
  rw [e8] at ho3
  obtain ⟨gb, cb, rfl⟩ := ownsRow_succ ho3
  have hgb := (ho3.lt gb rfl).1
  clear e8
  have hne : Ne2 (.slice (some ⟨gb, 0, none⟩) (7 + len + 1) cb) (.slice (some ⟨g, 0, none⟩) len c2) := .inr (by simp [Value.ownBlock]; omega)
  have hob := owns_weak (base := w.heap.size) ho3 hbw.size
  replace hoc := owns_later hoc hb3
  replace hk2 := hk2.later hb3
  replace hbw := bl2 hbw hb3
  obtain ⟨_, _, e1, hbs3, _, _⟩ := bs_owned ho3 (put_bytes hb.2.1)
  cases e1
  clear hb3 ho3
  go_wp2_with fail
  refine (refPut_d _ len cap zs w3 (hb.later hbw) (by omega)).mono ?_
  rintro e w4 ⟨vr, rfl, ho4, hb4⟩
  obtain ⟨ar, cr, rfl, hbs4, _, _⟩ := bs_owned ho4 (put_bytes hb.2.1)
  replace hob := owns_later hob hb4
  replace hoc := owns_later hoc hb4
  replace hk2 := hk2.later hb4
  replace hbs3 := hbs3.later hb4
  replace hbw := bl2 hbw hb4
  clear hb4 ho4
  have hsm := same_any (ca := cb) (cb := cr) hbs3 hbs4
  rw [decide_eq_true rfl] at hsm
  have hkp := kept_any g len c2 a cap zs w4 hk2 (hb.later hbw)
  go_wp2_with fail
  refine hsm.mono ?_
  rintro e w5 ⟨rfl, rfl⟩
  go_wp2_with fail
  refine hkp.mono ?_
  rintro e w6 ⟨rfl, rfl⟩
  clear hsm hkp
  go_wp2_with fail
  refine (size_out n (.inl hn) _).mono ?_
  rintro e w9 ⟨rfl, rfl⟩
  go_wp2_with fail
  refine (apart_d 2 2 _ w.heap.size (two (.slice (some ⟨gb, 0, none⟩) (7 + len + 1) cb) (.slice (some ⟨g, 0, none⟩) len c2)) (two (7 + len + 1) len) _ (lists2 hob hoc hne (by omega) (by omega)) (by have := hbw.size; simp; omega)).mono ?_
  rintro e w10 ⟨rfl, hb10⟩
  go_wp2_with fail
  go_ret
  exact ⟨rfl, (hbw.trans (below_one _ _ |>.mono hbw.size)).trans hb10⟩

set_option maxRecDepth 100000 in
set_option maxHeartbeats 2000000 in
theorem puts_bop (a : Option Addr) (len cap : Nat) (zs : List Int) (n : Int) (w : World) (hb : Bs w a len zs) (h5 : len ≤ 5000) (hn : 65536 < n) :
    Calls Try.prog 3 #[.slice a len cap, .int .i64 n] w fun e w' => e = .returned (.bool true) ∧ Below w.heap.size w w' := by
  go_enter Try.func3, Try.ntmps3
  go_wp2_with fail
  refine (alive_d _).mono ?_
  rintro e w1 ⟨rfl, hb1⟩
  go_wp2_with fail
  refine (copy_o a len cap zs w1 (hb.later hb1) (by omega)).mono ?_
  rintro e w2 ⟨g, c2, rfl, hk2, ho2, hb2⟩
  have hoc := owns_weak (base := w.heap.size) ho2 hb1.size
  have hgc := (ho2.lt g rfl).2
  have hbw := bl2 hb1 hb2
  clear hb1 hb2 ho2
  go_wp2_with fail
  refine (put_d _ len c2 zs w2 hk2.bs (by omega)).mono ?_
  rintro e w3 ⟨vb, rfl, ho3, hb3⟩
  have e8 : 8 + len = 7 + len + 1 := by omega
  rw [e8] at ho3
  obtain ⟨gb, cb, rfl⟩ := ownsRow_succ ho3
  have hgb := (ho3.lt gb rfl).1
  clear e8
  have hne : Ne2 (.slice (some ⟨gb, 0, none⟩) (7 + len + 1) cb) (.slice (some ⟨g, 0, none⟩) len c2) := .inr (by simp [Value.ownBlock]; omega)
  have hob := owns_weak (base := w.heap.size) ho3 hbw.size
  replace hoc := owns_later hoc hb3
  replace hk2 := hk2.later hb3
  replace hbw := bl2 hbw hb3
  obtain ⟨_, _, e1, hbs3, _, _⟩ := bs_owned ho3 (put_bytes hb.2.1)
  cases e1
  clear hb3 ho3
  go_wp2_with fail
  refine (refPut_d _ len cap zs w3 (hb.later hbw) (by omega)).mono ?_
  rintro e w4 ⟨vr, rfl, ho4, hb4⟩
  obtain ⟨ar, cr, rfl, hbs4, _, _⟩ := bs_owned ho4 (put_bytes hb.2.1)
  replace hob := owns_later hob hb4
  replace hoc := owns_later hoc hb4
  replace hk2 := hk2.later hb4
  replace hbs3 := hbs3.later hb4
  replace hbw := bl2 hbw hb4
  clear hb4 ho4
  have hsm := same_any (ca := cb) (cb := cr) hbs3 hbs4
  rw [decide_eq_true rfl] at hsm
  have hkp := kept_any g len c2 a cap zs w4 hk2 (hb.later hbw)
  go_wp2_with fail
  refine hsm.mono ?_
  rintro e w5 ⟨rfl, rfl⟩
  go_wp2_with fail
  refine hkp.mono ?_
  rintro e w6 ⟨rfl, rfl⟩
  clear hsm hkp
  go_wp2_with fail
  refine (size_out n (.inr hn) _).mono ?_
  rintro e w9 ⟨rfl, rfl⟩
  go_wp2_with fail
  refine (apart_d 2 2 _ w.heap.size (two (.slice (some ⟨gb, 0, none⟩) (7 + len + 1) cb) (.slice (some ⟨g, 0, none⟩) len c2)) (two (7 + len + 1) len) _ (lists2 hob hoc hne (by omega) (by omega)) (by have := hbw.size; simp; omega)).mono ?_
  rintro e w10 ⟨rfl, hb10⟩
  go_wp2_with fail
  go_ret
  exact ⟨rfl, (hbw.trans (below_one _ _ |>.mono hbw.size)).trans hb10⟩

set_option maxRecDepth 100000 in
set_option maxHeartbeats 2000000 in
theorem puts_ci (a : Option Addr) (len cap : Nat) (zs : List Int) (n : Int) (w : World) (hb : Bs w a len zs) (h6 : 65536 < len) (h7 : len ≤ 140737488351232) (hn : 0 ≤ n ∧ n ≤ 65536) :
    Calls Try.prog 3 #[.slice a len cap, .int .i64 n] w fun e w' => e = .returned (.bool true) ∧ Below w.heap.size w w' := by
  obtain ⟨m, rfl⟩ := Int.eq_ofNat_of_zero_le hn.1
  have hm : m ≤ 65536 := by omega
  have heq : (((8 + m : Nat) : Int) == (m : Int) + 8) = true := by simp; omega
  have heq2 : ((8 + (m : Int)) == (m : Int) + 8) = true := by simp; omega
  clear hn
  go_enter Try.func3, Try.ntmps3
  go_wp2_with fail
  refine (alive_d _).mono ?_
  rintro e w1 ⟨rfl, hb1⟩
  go_wp2_with fail
  refine (copy_o a len cap zs w1 (hb.later hb1) (by omega)).mono ?_
  rintro e w2 ⟨g, c2, rfl, hk2, ho2, hb2⟩
  have hoc := owns_weak (base := w.heap.size) ho2 hb1.size
  have hgc := (ho2.lt g rfl).2
  have hbw := bl2 hb1 hb2
  clear hb1 hb2 ho2
  go_wp2_with fail
  refine (put_no _ len c2 w2 h6).mono ?_
  rintro e w3 ⟨rfl, rfl⟩
  go_wp2_with fail
  refine (refPut_no _ len cap w3 h6).mono ?_
  rintro e w4 ⟨rfl, rfl⟩
  have hob := World.ownsRow_nil w4 w.heap.size 5 1
  have hne : Ne2 (.slice none 0 0) (.slice (some ⟨g, 0, none⟩) len c2) := .inl rfl
  have hsm := same_any (w := w4) (ca := 0) (cb := 0) (bs_nil none) (bs_nil none)
  rw [decide_eq_true rfl] at hsm
  have hkp := kept_any g len c2 a cap zs w4 hk2 (hb.later hbw)
  go_wp2_with fail
  refine hsm.mono ?_
  rintro e w5 ⟨rfl, rfl⟩
  go_wp2_with fail
  refine hkp.mono ?_
  rintro e w6 ⟨rfl, rfl⟩
  go_wp2_with fail
  refine (is_ten _).mono ?_
  rintro e w7 ⟨rfl, rfl⟩
  clear hsm hkp
  go_wp2_with fail
  refine (size_in m hm _).mono ?_
  rintro e w9 ⟨rfl, rfl⟩
  go_wp2_with fail
  refine (apart_d 2 2 _ w.heap.size (two (.slice none 0 0) (.slice (some ⟨g, 0, none⟩) len c2)) (two 0 len) _ (lists2 hob hoc hne (by omega) (by omega)) (by have := hbw.size; simp; omega)).mono ?_
  rintro e w10 ⟨rfl, hb10⟩
  go_wp2_with fail
  go_ret
  exact ⟨rfl, (hbw.trans (below_one _ _ |>.mono hbw.size)).trans hb10⟩

set_option maxRecDepth 100000 in
set_option maxHeartbeats 2000000 in
theorem puts_con (a : Option Addr) (len cap : Nat) (zs : List Int) (n : Int) (w : World) (hb : Bs w a len zs) (h6 : 65536 < len) (h7 : len ≤ 140737488351232) (hn : n < 0) :
    Calls Try.prog 3 #[.slice a len cap, .int .i64 n] w fun e w' => e = .returned (.bool true) ∧ Below w.heap.size w w' := by
  go_enter Try.func3, Try.ntmps3
  go_wp2_with fail
  refine (alive_d _).mono ?_
  rintro e w1 ⟨rfl, hb1⟩
  go_wp2_with fail
  refine (copy_o a len cap zs w1 (hb.later hb1) (by omega)).mono ?_
  rintro e w2 ⟨g, c2, rfl, hk2, ho2, hb2⟩
  have hoc := owns_weak (base := w.heap.size) ho2 hb1.size
  have hgc := (ho2.lt g rfl).2
  have hbw := bl2 hb1 hb2
  clear hb1 hb2 ho2
  go_wp2_with fail
  refine (put_no _ len c2 w2 h6).mono ?_
  rintro e w3 ⟨rfl, rfl⟩
  go_wp2_with fail
  refine (refPut_no _ len cap w3 h6).mono ?_
  rintro e w4 ⟨rfl, rfl⟩
  have hob := World.ownsRow_nil w4 w.heap.size 5 1
  have hne : Ne2 (.slice none 0 0) (.slice (some ⟨g, 0, none⟩) len c2) := .inl rfl
  have hsm := same_any (w := w4) (ca := 0) (cb := 0) (bs_nil none) (bs_nil none)
  rw [decide_eq_true rfl] at hsm
  have hkp := kept_any g len c2 a cap zs w4 hk2 (hb.later hbw)
  go_wp2_with fail
  refine hsm.mono ?_
  rintro e w5 ⟨rfl, rfl⟩
  go_wp2_with fail
  refine hkp.mono ?_
  rintro e w6 ⟨rfl, rfl⟩
  go_wp2_with fail
  refine (is_ten _).mono ?_
  rintro e w7 ⟨rfl, rfl⟩
  clear hsm hkp
  go_wp2_with fail
  refine (size_out n (.inl hn) _).mono ?_
  rintro e w9 ⟨rfl, rfl⟩
  go_wp2_with fail
  refine (apart_d 2 2 _ w.heap.size (two (.slice none 0 0) (.slice (some ⟨g, 0, none⟩) len c2)) (two 0 len) _ (lists2 hob hoc hne (by omega) (by omega)) (by have := hbw.size; simp; omega)).mono ?_
  rintro e w10 ⟨rfl, hb10⟩
  go_wp2_with fail
  go_ret
  exact ⟨rfl, (hbw.trans (below_one _ _ |>.mono hbw.size)).trans hb10⟩

set_option maxRecDepth 100000 in
set_option maxHeartbeats 2000000 in
theorem puts_cop (a : Option Addr) (len cap : Nat) (zs : List Int) (n : Int) (w : World) (hb : Bs w a len zs) (h6 : 65536 < len) (h7 : len ≤ 140737488351232) (hn : 65536 < n) :
    Calls Try.prog 3 #[.slice a len cap, .int .i64 n] w fun e w' => e = .returned (.bool true) ∧ Below w.heap.size w w' := by
  go_enter Try.func3, Try.ntmps3
  go_wp2_with fail
  refine (alive_d _).mono ?_
  rintro e w1 ⟨rfl, hb1⟩
  go_wp2_with fail
  refine (copy_o a len cap zs w1 (hb.later hb1) (by omega)).mono ?_
  rintro e w2 ⟨g, c2, rfl, hk2, ho2, hb2⟩
  have hoc := owns_weak (base := w.heap.size) ho2 hb1.size
  have hgc := (ho2.lt g rfl).2
  have hbw := bl2 hb1 hb2
  clear hb1 hb2 ho2
  go_wp2_with fail
  refine (put_no _ len c2 w2 h6).mono ?_
  rintro e w3 ⟨rfl, rfl⟩
  go_wp2_with fail
  refine (refPut_no _ len cap w3 h6).mono ?_
  rintro e w4 ⟨rfl, rfl⟩
  have hob := World.ownsRow_nil w4 w.heap.size 5 1
  have hne : Ne2 (.slice none 0 0) (.slice (some ⟨g, 0, none⟩) len c2) := .inl rfl
  have hsm := same_any (w := w4) (ca := 0) (cb := 0) (bs_nil none) (bs_nil none)
  rw [decide_eq_true rfl] at hsm
  have hkp := kept_any g len c2 a cap zs w4 hk2 (hb.later hbw)
  go_wp2_with fail
  refine hsm.mono ?_
  rintro e w5 ⟨rfl, rfl⟩
  go_wp2_with fail
  refine hkp.mono ?_
  rintro e w6 ⟨rfl, rfl⟩
  go_wp2_with fail
  refine (is_ten _).mono ?_
  rintro e w7 ⟨rfl, rfl⟩
  clear hsm hkp
  go_wp2_with fail
  refine (size_out n (.inr hn) _).mono ?_
  rintro e w9 ⟨rfl, rfl⟩
  go_wp2_with fail
  refine (apart_d 2 2 _ w.heap.size (two (.slice none 0 0) (.slice (some ⟨g, 0, none⟩) len c2)) (two 0 len) _ (lists2 hob hoc hne (by omega) (by omega)) (by have := hbw.size; simp; omega)).mono ?_
  rintro e w10 ⟨rfl, hb10⟩
  go_wp2_with fail
  go_ret
  exact ⟨rfl, (hbw.trans (below_one _ _ |>.mono hbw.size)).trans hb10⟩

set_option maxHeartbeats 800000 in
theorem puts_mid (a : Option Addr) (len cap : Nat) (n : Int) (w : World) (h5 : 5000 < len) (h6 : len ≤ 65536) :
    Calls Try.prog 3 #[.slice a len cap, .int .i64 n] w fun e w' => e = .returned (.bool true) ∧ Below w.heap.size w w' := by
  go_enter Try.func3, Try.ntmps3
  go_wp2_with fail
  refine (alive_d _).mono ?_
  rintro e w1 ⟨rfl, hb1⟩
  go_wp2_with fail
  go_ret
  exact ⟨rfl, hb1⟩

theorem puts_walk (a : Option Addr) (len cap : Nat) (zs : List Int) (n : Int) (w : World) (hb : Bs w a len zs) (h7 : len ≤ 140737488351232) :
    Calls Try.prog 3 #[.slice a len cap, .int .i64 n] w fun e w' => e = .returned (.bool true) ∧ Below w.heap.size w w' := by
  by_cases h5 : len ≤ 5000
  · by_cases hn : 0 ≤ n ∧ n ≤ 65536
    · exact puts_bi a len cap zs n w hb h5 hn
    · by_cases hm : n < 0
      · exact puts_bon a len cap zs n w hb h5 hm
      · exact puts_bop a len cap zs n w hb h5 (by omega)
  · by_cases h6 : len ≤ 65536
    · exact puts_mid a len cap n w (by omega) h6
    · by_cases hn : 0 ≤ n ∧ n ≤ 65536
      · exact puts_ci a len cap zs n w hb (by omega) h7 hn
      · by_cases hm : n < 0
        · exact puts_con a len cap zs n w hb (by omega) h7 hm
        · exact puts_cop a len cap zs n w hb (by omega) h7 (by omega)
end Go.Proofs.Ytfmjknknckjdiaa

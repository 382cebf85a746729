/- KP9, KP10, KP11, KP12, KP15, KP16, KQ1, CA9, CBA: laid together. -/
import Derived.Test.YtbemaloaobeblaaGreatDoorG7
import Derived.Test.YtbemaloaobeblaaGreatDoorG4
import Derived.Test.YtbemaloaobeblaaGreatDoorG2
import Derived.Test.YtbemaloaobeblaaGreatDoorG3
namespace Go.Proofs.YtbemaloaobeblaaGreatDoor
open Go.RowKit

def AnVr (sl : Value) (B : List UInt8) (g n : Nat) (o : Option (T × List UInt8)) (w : World) (e : Ending) (w' : World) : Prop :=
 ∃ c q, e = .returned (.agg c) ∧ c.size = 5 ∧ c.all (·.oneCell') = true ∧ Tg sl B g q o.isNone w' ∧ Kg g w w' ∧ q ≤ B.length + 2 + n ∧ ∀ t r, o = some (t, r) → VA (w.heap.size ≤ ·) w' t c.toList ∧ B.drop q = r ∧ q ≤ B.length
def Vrk (sl : Value) (B : List UInt8) (g n : Nat) : Prop := ∀ {p : Nat} {w : World}, Tg sl B g p false w → p ≤ B.length → Calls Tryz.prog 32 #[.pointer (some ⟨g, 0, none⟩), .int .i64 (8 - (n : Int))] w (AnVr sl B g n (pv n (B.drop p)) w)
structure Lx (sl : Value) (B : List UInt8) (g q : Nat) (bad : Bool) (w0 : World) (v : Value) (W : World) : Prop where
 tg : Tg sl B g q bad W
 kg : Kg g w0 W
 r4 : W.heap[w0.heap.size]? = some (.cells zV 28 (0, 0))
 r5 : W.heap[w0.heap.size + 1]? = some (.cells #[.int .i64 4, .int .i64 0, .string ⟨#[]⟩, v, .slice none 0 0] 28 (0, 0))
 sz : w0.heap.size + 2 ≤ W.heap.size
 sh : ∃ a m c, v = .slice a m c
structure Lv (sl : Value) (B : List UInt8) (g q : Nat) (bad : Bool) (w0 : World) (v : Value) (cs : List (List Value)) (xs : List T) (W : World) : Prop extends Lx sl B g q bad w0 v W where
 row : W.ownsRow (w0.heap.size + 2) 28 5 v cs.length cs.flatten
 ln : ∀ c ∈ cs, c.length = 5
 el : cs.length = xs.length
 va : ∀ (j : Nat) (t : T) (c : List Value), xs[j]? = some t → cs[j]? = some c → VA (fun k => w0.heap.size + 2 ≤ k ∧ some k ≠ v.ownBlock) W t c
section
variable {sl : Value} {B : List UInt8} {g p q q' n : Nat} {bad bad' : Bool} {w w' w0 W W' wr : World} {v v0 v' : Value} {cs : List (List Value)} {xs : List T} {o : Option (T × List UInt8)} {c : Array Value} {d : Int}
theorem Lx.step (h : Lx sl B g q bad w0 v W) (hg : g < w0.heap.size) (k : Kg g W W') (t : Tg sl B g q' bad' W') : Lx sl B g q' bad' w0 v W' := by
 have hs := h.sz
 exact ⟨t, h.kg.trans k, (k.block _ (by omega) (by omega)).trans h.r4, (k.block _ (by omega) (by omega)).trans h.r5, Nat.le_trans hs k.size, h.sh⟩
theorem Lv.step (h : Lv sl B g q bad w0 v cs xs W) (hg : g < w0.heap.size) (k : Kg g W W') (t : Tg sl B g q' bad' W') : Lv sl B g q' bad' w0 v cs xs W' :=
 ⟨h.toLx.step hg k t, own_kept h.row fun b e => k.block b (h.row.lt b e).2 (by have := (h.row.lt b e).1; omega), h.ln, h.el,
  fun j t c h1 h2 => (h.va j t c h1 h2).frame (fun k' hk hs => k.block k' hs (by have := hk.1; omega)) (fun _ hk _ => hk)⟩
def P4 (sl : Value) (B : List UInt8) (g n : Nat) (o : Option (T × List UInt8)) (wr : World) (c : Array Value) (w : World) : Prop :=
 c.size = 5 ∧ c.all (·.oneCell') = true ∧ ∃ q, Tg sl B g q o.isNone w ∧ Kg g wr w ∧ q ≤ B.length + 2 + n ∧ ∀ t r, o = some (t, r) → VA (wr.heap.size ≤ ·) w t c.toList ∧ B.drop q = r ∧ q ≤ B.length
def P6 (sl : Value) (B : List UInt8) (g n : Nat) (o : Option (T × List UInt8)) (w0 : World) (v0 : Value) (cs : List (List Value)) (xs : List T) (v : Value) (w : World) : Prop :=
 ∃ q c a m k, v = .slice a m k ∧ Lx sl B g q o.isNone w0 v0 w ∧ q ≤ B.length + 2 + n ∧ c.length = 5 ∧ w.ownsRow (w0.heap.size + 2) 28 5 v (cs.length + 1) (cs.flatten ++ c) ∧
  ∀ t r, o = some (t, r) → B.drop q = r ∧ q ≤ B.length ∧ VA (fun k => w0.heap.size + 2 ≤ k ∧ some k ≠ v.ownBlock) w t c ∧ ∀ (j : Nat) (t : T) (c : List Value), xs[j]? = some t → cs[j]? = some c → VA (fun k => w0.heap.size + 2 ≤ k ∧ some k ≠ v.ownBlock) w t c
def P8 (sl : Value) (B : List UInt8) (g n : Nat) (o : Option (T × List UInt8)) (w0 : World) (cs : List (List Value)) (xs : List T) (w : World) : Prop :=
 ∃ q v, Lx sl B g q o.isNone w0 v w ∧ q ≤ B.length + 2 + n ∧ ∀ t r, o = some (t, r) → B.drop q = r ∧ q ≤ B.length ∧ ∃ c, Lv sl B g q false w0 v (cs ++ [c]) (xs ++ [t]) w
theorem P4.later (h : P4 sl B g n o wr c w) (hb : Below w.heap.size w w') : P4 sl B g n o wr c w' := by
 obtain ⟨h1, h2, q, t, k, hq, hv⟩ := h
 exact ⟨h1, h2, q, t.later hb, k.trans (Kg.of hb), hq, fun t r e => ⟨(hv t r e).1.frame (fun j _ hj => hb.block j hj) (fun _ h _ => h), (hv t r e).2⟩⟩
theorem bs_V5 {c : Array Value} (hc : c.size = 5) (w : World) : (Instr.buildSlice 25 1 #[(0, .agg c)]).run Tryz.prog w = .ok (.slice (some ⟨w.heap.size, 0, none⟩) 1 1) (w.alloc (.cells c 28)) := by
 obtain ⟨x0, x1, x2, x3, x4, e⟩ := five_l (l := c.toList) (by simpa using hc)
 obtain rfl : c = #[x0, x1, x2, x3, x4] := by cases c; simp at e; simp [e]
 kernel_rfl
theorem app_V (tr : TypeId) {p0 : Nat} {b0 : Bool} (ht0 : Tg sl B g p0 b0 w0) (hL : Lv sl B g q' bad' w0 v0 cs xs wr) (hg : g < w0.heap.size) (h4 : P4 sl B g n o wr c w) {nb : Nat} (hnb : w.heap[nb]? = some (.cells c 28 (0, 0))) (hn : cs.length ≤ 100000) :
  ∃ v' w', (Builtin.append_ #[25, 25] tr #[v0, .slice (some ⟨nb, 0, none⟩) 1 1]).run Tryz.prog w = .ok v' w' ∧ P6 sl B g n o w0 v0 cs xs v' w' := by
 obtain ⟨h1, h2, q, t, k, hq, hv⟩ := h4
 obtain ⟨i0, hi, hz0, hz1, hz2⟩ := info_parts inf_V
 have L2 := hL.step hg k t
 have hnews : ∀ j u, c.toList[j]? = some u → w.cell? ((⟨nb, 0, none⟩ : Addr).add j) = some u := by
  intro j u hj
  rw [Addr.add_lit, Nat.zero_add]
  simp only [World.cell?, hnb]
  simpa using hj
 obtain ⟨v', w', hr, g4, g5, g5b, g6⟩ := run_append_own_at (P := Tryz.prog) w (w0.heap.size + 2) 25 tr 28 i0 _ 5 80 Tryz.underlying25 hi hz0 hz1 hz2 rfl (by decide) v0 cs.length cs.flatten L2.row ⟨nb, 0, none⟩ 1 1 c.toList (by simpa using h1) hnews
  (fun u hu => Array.all_eq_true_iff_forall_mem.1 h2 u (by simpa using hu)) (by unfold maxLen; omega) (by omega) L2.sz
 refine ⟨v', w', hr, ?_⟩
 have hown : ∀ b, v0.ownBlock = some b → w0.heap.size + 2 ≤ b := fun b e => (L2.row.lt b e).1
 have kw : Kg g w0 w' := L2.kg.grown g5 (fun r e => by have := hown r e; omega)
 have hz := L2.sz
 have tb : Tg sl B g q o.isNone w' := Tg.of ht0 kw ((g5.block g t.lt (fun e => by have := hown g e.symm; omega)).trans t.box)
 obtain ⟨gb, cap, rfl⟩ : ∃ gb cap, v' = .slice (some ⟨gb, 0, none⟩) (cs.length + 1) cap := by
  obtain ⟨_, ⟨_, h0⟩ | ⟨g, cap, cur, hv, _⟩⟩ := g4
  ·omega
  ·exact ⟨g, cap, hv⟩
 have hgb : some gb = v0.ownBlock ∨ w.heap.size ≤ gb := by
  rcases g6 with e | e
  ·exact .inl e
  ·right
   have : some gb = some w.heap.size := e
   cases this; omega
 have hne : ∀ k, k < w.heap.size → some k ≠ v0.ownBlock → some k ≠ some gb := fun k hk hn e => by
  cases e
  rcases hgb with e | e
  ·exact hn e
  ·omega
 refine ⟨q, c.toList, _, _, _, rfl, ⟨tb, kw, (g5.block _ (by omega) (fun e => by have := hown _ e.symm; omega)).trans L2.r4, (g5.block _ (by omega) (fun e => by have := hown _ e.symm; omega)).trans L2.r5, Nat.le_trans hz g5.size, L2.sh⟩, hq, by simpa using h1, g4, fun t r e => ?_⟩
 obtain ⟨e1, e2, e3⟩ := hv t r e
 refine ⟨e2, e3, ?_, fun j t c k1 k2 => ?_⟩
 ·refine e1.frame (fun j hj hs => g5.block j hs (fun e => ?_)) (fun j hj hs => ⟨?_, hne j hs (fun e => ?_)⟩)
  ·have h5 : wr.heap.size ≤ j := hj
   have := (hL.row.lt j e.symm).2
   omega
  ·have h5 : wr.heap.size ≤ j := hj
   have := hL.sz
   omega
  ·have h5 : wr.heap.size ≤ j := hj
   have := (hL.row.lt j e.symm).2
   omega
 ·exact (L2.va j t c k1 k2).frame (fun j hj hs => g5.block j hs hj.2) (fun j hj hs => ⟨hj.1, hne j hs hj.2⟩)
theorem sto_V {p0 : Nat} {b0 : Bool} (ht0 : Tg sl B g p0 b0 w0) (h : P6 sl B g n o w0 v0 cs xs v w) (hg : g < w0.heap.size) (hln : ∀ c ∈ cs, c.length = 5) (hel : cs.length = xs.length) :
  ∃ w', (Instr.storeAt 25 (.pointer (some ⟨w0.heap.size + 1, 3, none⟩)) v).run Tryz.prog w = .ok () w' ∧ P8 sl B g n o w0 cs xs w' := by
 obtain ⟨q, c, a, m, k, rfl, L, hq, hc5, hrow, hv⟩ := h
 have hc : w.cell? ⟨w0.heap.size + 1, 3, none⟩ = some v0 := by simp [World.cell?, L.r5]
 have hf : w.frozen? ⟨w0.heap.size + 1, 3, none⟩ = false := by simp [World.frozen?, L.r5]
 obtain ⟨a0, m0, k0, rfl⟩ := L.sh
 have e : w.setCell ⟨w0.heap.size + 1, 3, none⟩ (.slice a m k) = w.setRow (w0.heap.size + 1) #[.int .i64 4, .int .i64 0, .string ⟨#[]⟩, .slice a m k, .slice none 0 0] := by
  rw [setCell_eq_setRow w _ 3 _ _ (0, 0) _ L.r5]; rfl
 refine ⟨w.setRow (w0.heap.size + 1) #[.int .i64 4, .int .i64 0, .string ⟨#[]⟩, .slice a m k, .slice none 0 0], by rw [← e]; simp [Instr.storeAt, Instr.sureAddr, go_sem, hc, hf], ?_⟩
 have hother : ∀ j, j ≠ w0.heap.size + 1 → (w.setRow (w0.heap.size + 1) #[.int .i64 4, .int .i64 0, .string ⟨#[]⟩, .slice a m k, .slice none 0 0]).heap[j]? = w.heap[j]? := fun j hj => setRow_other w _ j _ hj
 have hsz : (w.setRow (w0.heap.size + 1) #[.int .i64 4, .int .i64 0, .string ⟨#[]⟩, .slice a m k, .slice none 0 0]).heap.size = w.heap.size := by simp [World.setRow]
 have hz := L.sz
 have kk : Kg g w0 (w.setRow (w0.heap.size + 1) #[.int .i64 4, .int .i64 0, .string ⟨#[]⟩, .slice a m k, .slice none 0 0]) := L.kg.own (by omega) _
 have tb : Tg sl B g q o.isNone (w.setRow (w0.heap.size + 1) #[.int .i64 4, .int .i64 0, .string ⟨#[]⟩, .slice a m k, .slice none 0 0]) := Tg.of ht0 kk ((hother g (by omega)).trans L.tg.box)
 have Lx' : Lx sl B g q o.isNone w0 (.slice a m k) (w.setRow (w0.heap.size + 1) #[.int .i64 4, .int .i64 0, .string ⟨#[]⟩, .slice a m k, .slice none 0 0]) := ⟨tb, kk, (hother _ (by omega)).trans L.r4, setRow_heap w _ _ _ _ _ L.r5, by rw [hsz]; exact hz, ⟨_, _, _, rfl⟩⟩
 refine ⟨q, _, Lx', hq, fun t r e => ?_⟩
 obtain ⟨e1, e2, e3, e4⟩ := hv t r e
 have hfr : ∀ k', w0.heap.size + 2 ≤ k' → (w.setRow (w0.heap.size + 1) #[.int .i64 4, .int .i64 0, .string ⟨#[]⟩, .slice a m k, .slice none 0 0]).heap[k']? = w.heap[k']? := fun k' hk => hother k' (by omega)
 have htb : o.isNone = false := by rw [e]; rfl
 rw [htb] at Lx'
 refine ⟨e1, e2, c, ⟨Lx', ?_, ?_, by simp [hel], fun j t' c' k1 k2 => ?_⟩⟩
 ·rw [List.length_append, List.length_singleton, List.flatten_append, List.flatten_singleton]
  exact own_kept hrow fun b e => hfr b (hrow.lt b e).1
 ·intro x hx
  rcases List.mem_append.1 hx with hx | hx
  ·exact hln x hx
  ·rw [List.mem_singleton.1 hx]; exact hc5
 ·rcases snoc_get k1 with h3 | ⟨h3, rfl⟩
  ·rcases snoc_get k2 with h4 | ⟨h4, rfl⟩
   ·exact (e4 j t' c' h3 h4).frame (fun k' hk _ => hfr k' hk.1) (fun _ hk _ => hk)
   ·have := (List.getElem?_eq_some_iff.1 h3).1
    omega
  ·rcases snoc_get k2 with h4 | ⟨h4, rfl⟩
   ·have := (List.getElem?_eq_some_iff.1 h4).1
    omega
   ·exact e3.frame (fun k' hk _ => hfr k' hk.1) (fun _ hk _ => hk)
def LR (sl : Value) (B : List UInt8) (g n : Nat) (o : Option (T × List UInt8)) (w0 : World) (v0 : Value) (cs : List (List Value)) (xs : List T) (wr : World) (d : Int) : (Nat → Bool) → Nat → Value → World → Prop
 | _, 0, v, _ => v = .pointer (some ⟨w0.heap.size + 1, 3, none⟩)
 | _, 1, v, _ => v = v0
 | _, 2, v, _ => v = .pointer (some ⟨g, 0, none⟩)
 | _, 3, v, _ => v = .int .i64 d
 | D, 4, v, w => D 4 = true ∧ ∃ c, v = .agg c ∧ (D 5 = false → P4 sl B g n o wr c w)
 | D, 5, v, w => D 5 = true ∧ (D 6 = false → ∃ c nb, v = .slice (some ⟨nb, 0, none⟩) 1 1 ∧ w.heap[nb]? = some (.cells c 28 (0, 0)) ∧ P4 sl B g n o wr c w)
 | D, 6, v, w => D 6 = true ∧ (D 8 = false → P6 sl B g n o w0 v0 cs xs v w)
 | _, 7, v, _ => v = .pointer (some ⟨w0.heap.size + 1, 3, none⟩)
 | D, 8, _, w => D 8 = true ∧ P8 sl B g n o w0 cs xs w
 | _, _, _, _ => True
def LRd : Nat → Nat
 | 0 => 39
 | 1 => 40
 | 2 => 41
 | 3 => 42
 | 4 => 43
 | 5 => 44
 | 6 => 45
 | 7 => 46
 | 8 => 1008
 | i => 2000 + i
theorem add1_up {D : Nat → Bool} {i j : Nat} (h : D j = true) : add1 D i j = true := by
 unfold add1
 split
 ·rfl
 ·exact h
theorem LR_same {D : Nat → Bool} {ix : Nat} (h5 : ix ≠ 5) (h6 : ix ≠ 6) (h8 : ix ≠ 8) : ∀ (j : Nat) (u : Value), LR sl B g n o w0 v0 cs xs wr d D j u w → LR sl B g n o w0 v0 cs xs wr d (add1 D ix) j u w
 | 0, _, h | 1, _, h | 2, _, h | 3, _, h | 7, _, h => h
 | 4, _, ⟨h, c, e, h1⟩ => ⟨add1_up h, c, e, fun hd => h1 (by rwa [add1_ne (fun q => h5 q.symm)] at hd)⟩
 | 5, _, ⟨h, h1⟩ => ⟨add1_up h, fun hd => h1 (by rwa [add1_ne (fun q => h6 q.symm)] at hd)⟩
 | 6, _, ⟨h, h1⟩ => ⟨add1_up h, fun hd => h1 (by rwa [add1_ne (fun q => h8 q.symm)] at hd)⟩
 | 8, _, ⟨h, h1⟩ => ⟨add1_up h, h1⟩
 | _ + 9, _, h => h
theorem LR_ev {D : Nat → Bool} {ix : Nat} (a4 : D 4 = true → ix ≠ 4 → add1 D ix 5 = true) (a5 : D 5 = true → ix ≠ 5 → add1 D ix 6 = true) (a6 : D 6 = true → ix ≠ 6 → add1 D ix 8 = true) (a8 : D 8 = true → ix ≠ 8 → False) : ∀ (j : Nat) (u : Value), j ≠ ix → LR sl B g n o w0 v0 cs xs wr d D j u w → LR sl B g n o w0 v0 cs xs wr d (add1 D ix) j u w'
 | 0, _, _, h | 1, _, _, h | 2, _, _, h | 3, _, _, h | 7, _, _, h => h
 | 4, _, hj, ⟨h, c, e, _⟩ => ⟨add1_up h, c, e, fun hd => by rw [a4 h (fun q => hj q.symm)] at hd; cases hd⟩
 | 5, _, hj, ⟨h, _⟩ => ⟨add1_up h, fun hd => by rw [a5 h (fun q => hj q.symm)] at hd; cases hd⟩
 | 6, _, hj, ⟨h, _⟩ => ⟨add1_up h, fun hd => by rw [a6 h (fun q => hj q.symm)] at hd; cases hd⟩
 | 8, _, hj, ⟨h, _⟩ => (a8 h (fun q => hj q.symm)).elim
 | _ + 9, _, _, h => h
def ML (w0 wr : World) (v0 : Value) (D : Nat → Bool) (w : World) : Prop := (D 4 = false → Below wr.heap.size wr w) ∧ (D 8 = false → w.heap[w0.heap.size + 1]? = some (.cells #[.int .i64 4, .int .i64 0, .string ⟨#[]⟩, v0, .slice none 0 0] 28 (0, 0)))
theorem ML_same {D : Nat → Bool} {ix : Nat} (h4 : ix ≠ 4) (h8 : ix ≠ 8) (h : ML w0 wr v0 D w) : ML w0 wr v0 (add1 D ix) w :=
 ⟨fun e => h.1 (by rwa [add1_ne (fun q => h4 q.symm)] at e), fun e => h.2 (by rwa [add1_ne (fun q => h8 q.symm)] at e)⟩
theorem Lx.none' {q n : Nat} (ht0 : Tg sl B g p bad' w0) (h : Lx sl B g q true w0 v W) (hq : q ≤ B.length + 2 + n) : AnVr sl B g n none w0 (.returned (.agg #[.int .i64 4, .int .i64 0, .string ⟨#[]⟩, v, .slice none 0 0])) (W.setRow w0.heap.size #[.int .i64 4, .int .i64 0, .string ⟨#[]⟩, v, .slice none 0 0]) := by
 have hg0 := ht0.lt
 have kk := h.kg.own (Nat.le_refl _) #[.int .i64 4, .int .i64 0, .string ⟨#[]⟩, v, .slice none 0 0]
 obtain ⟨a, m, c, rfl⟩ := h.sh
 exact ⟨_, q, rfl, rfl, by kernel_rfl, Tg.of ht0 kk ((setRow_other W _ g _ (by omega)).trans h.tg.box), kk, hq, fun t r e => by cases e⟩
theorem Lv.some' {q n : Nat} (ht0 : Tg sl B g p bad' w0) (h : Lv sl B g q false w0 v cs xs W) (hq : q ≤ B.length) : AnVr sl B g n (some (.mk 4 0 [] xs [], B.drop q)) w0 (.returned (.agg #[.int .i64 4, .int .i64 0, .string ⟨#[]⟩, v, .slice none 0 0])) (W.setRow w0.heap.size #[.int .i64 4, .int .i64 0, .string ⟨#[]⟩, v, .slice none 0 0]) := by
 have hg0 := ht0.lt
 have kk := h.kg.own (Nat.le_refl _) #[.int .i64 4, .int .i64 0, .string ⟨#[]⟩, v, .slice none 0 0]
 have hsh : ∃ a m c, v = .slice a m c := h.sh
 have hfr : ∀ k, w0.heap.size + 2 ≤ k → (W.setRow w0.heap.size #[.int .i64 4, .int .i64 0, .string ⟨#[]⟩, v, .slice none 0 0]).heap[k]? = W.heap[k]? := fun k hk => setRow_other W _ k _ (by omega)
 have hone : (#[.int .i64 4, .int .i64 0, .string ⟨#[]⟩, v, .slice none 0 0] : Array Value).all (·.oneCell') = true := by
  obtain ⟨a, m, c, rfl⟩ := hsh
  kernel_rfl
 refine ⟨_, q, rfl, rfl, hone, Tg.of ht0 kk ((setRow_other W _ g _ (by omega)).trans h.tg.box), kk, by omega, fun t r e => ?_⟩
 rw [Option.some.injEq, Prod.mk.injEq] at e
 obtain ⟨rfl, rfl⟩ := e
 refine ⟨?_, rfl, hq⟩
 have hrw : RwA (fun k => w0.heap.size + 2 ≤ k) W 28 5 v cs := by
  refine ⟨h.ln, ?_⟩
  obtain ⟨hl, ⟨h1, h2⟩ | ⟨g', cap, cur, h1, hB, hg, hcap, hm, hcs, htk⟩⟩ := h.row
  ·exact .inl ⟨none, 0, h1, List.length_eq_zero_iff.1 h2⟩
  ·refine .inr ⟨g', 0, cap, cur, (28, (0, 0)), h1, hB, hg, ?_, by simpa using htk⟩
   rw [hcs, Nat.zero_add]
   exact Nat.mul_le_mul_right 5 hcap
 exact VA.mk (s := []) (hrw.frame (fun k hk _ => hfr k hk) (fun k hk _ => by show w0.heap.size ≤ k; have : w0.heap.size + 2 ≤ k := hk; omega)) .nil h.el rfl
  (fun j t c h1 h2 => (h.va j t c h1 h2).frame (fun k hk _ => hfr k hk.1) (fun k hk _ => by show w0.heap.size ≤ k; have := hk.1; omega)) (by simp) (by simp)
set_option maxHeartbeats 16000000 in
set_option maxRecDepth 100000 in
theorem list_t {n : Nat} (ih : Vrk sl B g n) (hn7 : n ≤ 7) (ht0 : Tg sl B g p false w0) (hB : B.length ≤ 4096) (hc : nx B p = 91) : Calls Tryz.prog 50 #[.pointer (some ⟨g, 0, none⟩), .int .i64 (8 - (n : Int))] w0 (AnVr sl B g (n + 1) ((rw' (pv n) 91 93 (B.drop p)).map fun x => (T.mk 4 0 [] x.1 [], x.2)) w0) := by
 have hg0 := ht0.lt
 have hpB : p < B.length := (nx_pos hc (by omega)).choose_spec.choose_spec.2.2
 have hsk0 := sk_stop (B := B) (p := p) (by rw [hc]; decide)
 have hhp := hp_nx (B := B) (p := p) (c := 91) (by decide)
 rw [show (91 : UInt8).toNat = 91 from rfl, decide_eq_true hc] at hhp
 have htk := tk_nx (B := B) (p := p) (c := 91) hc (by decide)
 obtain ⟨R, hR⟩ : ∃ R, Hid (rw' (pv n) 91 93 (B.drop p) = R) := ⟨_, hide1 rfl⟩
 have hRw := hR.out
 unfold rw' at hRw
 rw [hsk0, hhp, if_pos rfl, htk, List.length_drop] at hRw
 replace hRw := hide1 hRw
 rw [hR.out]
 obtain ⟨d, hd⟩ : ∃ d : Int, Hid (d = 8 - (n : Int)) := ⟨_, hide1 rfl⟩
 rw [← hd.out]
 have hd8 : d ≤ 8 := by have := hd.out; omega
 obtain ⟨wb, hwb⟩ : ∃ wb, wb = (w0.alloc (.cells #[.int .i64 0, .int .i64 0, .string ⟨#[]⟩, .slice none 0 0, .slice none 0 0] 28)).alloc (.cells #[.int .i64 4, .int .i64 0, .string ⟨#[]⟩, .slice none 0 0, .slice none 0 0] 28) := ⟨_, rfl⟩
 have hb0 : Below w0.heap.size w0 wb := by rw [hwb]; exact (below_al _).alloc (by simp) _
 have L0 : Lv sl B g p false w0 (.slice none 0 0) [] [] wb := by
  refine ⟨⟨ht0.later hb0, Kg.of hb0, ?_, ?_, by rw [hwb]; simp, ⟨_, _, _, rfl⟩⟩, ⟨rfl, .inl ⟨rfl, rfl⟩⟩, by simp, rfl, by simp⟩
  ·rw [hwb]
   show ((w0.heap.push _).push _)[w0.heap.size]? = _
   rw [Array.getElem?_push, if_neg (by simp), Array.getElem?_push, if_pos rfl]
   rfl
  ·rw [hwb]
   show ((w0.heap.push _).push _)[w0.heap.size + 1]? = _
   rw [Array.getElem?_push, if_pos (by simp)]
 replace hb0 := hide1 hb0
 clear hR hsk0 hhp htk hc
 go_enter Tryz.func50, Tryz.ntmps50
 go_upto_region 5 with fail
 rw [← hwb]
 clear hwb hb0
 have cc := L0.tg.c1
 have cf := L0.tg.fr 1
 have L1 := L0.step hg0 L0.tg.set1p.2 L0.tg.set1p.1
 replace L1 := hide1 L1
 clear L0
 go_upto_region 6 with fail
 generalize wb.setCell ⟨g, 1, none⟩ (.int .i64 (((p : Nat) : Int) + 1)) = w1 at *
 have hbl := blanks_t L1.out.tg (by omega) hB
 clear cc cf
 go_wp2_with fail
 refine hbl.mono ?_
 rintro e w2 ⟨rfl, q1, t1, k1, hsk, hpq, hq1⟩
 have L2 := hide1 (L1.out.step hg0 k1 t1)
 have hq1B : q1 ≤ B.length := by omega
 have hnx := next_t t1
 clear hbl L1 t1 k1
 have hh93 := hp_nx (B := B) (p := q1) (c := 93) (by decide)
 rw [show (93 : UInt8).toNat = 93 from rfl] at hh93
 rw [← hsk, hh93] at hRw
 have htk93 := fun e => tk_nx (B := B) (p := q1) (c := 93) e (by decide)
 replace htk93 := hide1 htk93
 obtain ⟨c1, hc1⟩ : ∃ c, Hid (nx B q1 = c) := ⟨_, hide1 rfl⟩
 rw [hc1.out] at hnx hRw
 have hcl : c1 < 256 := by rw [← hc1.out]; exact nx_lt B q1
 clear hh93 hsk
 go_wp2_with fail
 refine hnx.mono ?_
 rintro e w3 ⟨rfl, b3⟩
 have L3 := L2.out.step hg0 (Kg.of b3) (L2.out.tg.later b3)
 clear hnx b3 L2
 by_cases h93 : c1 = 93
 ·subst h93
  have hRs : R = some ([], B.drop (q1 + 1)) := by
   rw [← hRw.out, decide_eq_true rfl, if_pos rfl, htk93.out hc1.out]
  have cc := L3.tg.c1
  have cf := L3.tg.fr 1
  have L4 := L3.step hg0 L3.tg.set1p.2 L3.tg.set1p.1
  have hq2 : q1 + 1 ≤ B.length := by
   have := (nx_pos hc1.out (by omega)).choose_spec.choose_spec.2.2
   omega
  have hf2 : Hid (AnVr sl B g (n + 1) (Option.map (fun x => (T.mk 4 0 [] x.1 [], x.2)) R) w0 _ _) := hide1 (by rw [hRs]; exact L4.some' (n := n + 1) ht0 hq2)
  have Lf := L4.toLx
  replace Lf := hide1 Lf
  clear L3 L4 hRw htk93
  go_upto_region 9 with fail
  generalize w3.setCell ⟨g, 1, none⟩ (.int .i64 (((q1 : Nat) : Int) + 1)) = w4 at *
  clear cc cf
  replace Lf := Lf.out
  have hr4 := Lf.r4
  have hl5 : w4.rangeAt (w0.heap.size + 1) 0 [.int .i64 4, .int .i64 0, .string ⟨#[]⟩, .slice none 0 0, .slice none 0 0] := fun j z hj => by
   have := Lf.r5
   simp only [World.cell?, this]
   rw [Nat.zero_add]
   simpa using hj
  have hz := hide1 (setRow_heap w4 w0.heap.size _ #[.int .i64 4, .int .i64 0, .string ⟨#[]⟩, .slice none 0 0, .slice none 0 0] _ _ hr4)
  clear Lf 
  go_wp2_with (first
   | refine wpList_load_mid rfl 28 (.tmp 5) rfl (w0.heap.size + 1) 0 rfl [.int .i64 4, .int .i64 0, .string ⟨#[]⟩, .slice none 0 0, .slice none 0 0] _ hl5 Tryz.underlying28 rfl (by kernel_rfl) ?_
   | refine wpList_store_row rfl Vt (.tmp 4) (.tmp 33) rfl w0.heap.size #[.int .i64 4, .int .i64 0, .string ⟨#[]⟩, .slice none 0 0, .slice none 0 0] rfl rfl Vt _ hr4 (by kernel_rfl) rfl (by kernel_rfl) ?_)
  refine bodyPost_ret (results_v1 rfl _ rfl rfl hz.out) rfl ?_
  exact hf2.out
 ·have d93 : ((c1 : Int) == 93) = false := by simp; omega
  have hRl : its (pv n) 93 (B.length - p) [] (B.drop q1) = R := by
   rw [← hRw.out, decide_eq_false h93, if_neg (by simp)]
  replace hRl := hide1 hRl
  replace L3 := hide1 L3
  clear hRw htk93 hc1
  go_wp2_with fail
  go_loopw [] (fun wr => ∃ (q : Nat) (bad : Bool) (v : Value), q ≤ B.length + 3 + n ∧ Hid (Lx sl B g q bad w0 v wr) ∧ Hid (bad = true → R = none) ∧ Hid (bad = false → ∃ cs xs m, Lv sl B g q false w0 v cs xs wr ∧ q ≤ B.length ∧ its (pv n) 93 m xs (B.drop q) = R ∧ B.length - q ≤ m ∧ cs.length + m ≤ 5000)) (fun wr => if badOf g wr then 0 else B.length + 1 - atOf g wr)
  case atStart => exact ⟨q1, false, _, by omega, hide1 L3.out.toLx, hide1 (fun e => by cases e), hide1 (fun _ => ⟨[], [], _, L3.out, hq1B, hRl.out, by omega, by simp only [List.length_nil]; omega⟩)⟩
  case round =>
   clear L3 hRl
   obtain ⟨q, bad, v, hq, hx, hbad, hgood⟩ := hrel
   have hbo : Hid (badOf g wr = bad) := hide1 hx.out.tg.badOf
   have hat : Hid (atOf g wr = q) := hide1 hx.out.tg.atOf
   have cb := hx.out.tg.c2
   cases bad with
   | true =>
    obtain ⟨va, vm, vk, rfl⟩ := hx.out.sh
    have hf2 : Hid (AnVr sl B g (n + 1) (Option.map (fun x => (T.mk 4 0 [] x.1 [], x.2)) R) w0 _ _) := hide1 (by rw [hbad.out rfl]; exact hx.out.none' (n := n + 1) ht0 (by omega))
    have Lf := hx.out
    clear hx hbad hgood hbo hat
    have hr4 := Lf.r4
    have hl5 : wr.rangeAt (w0.heap.size + 1) 0 [.int .i64 4, .int .i64 0, .string ⟨#[]⟩, .slice va vm vk, .slice none 0 0] := fun j z hj => by
     have := Lf.r5
     simp only [World.cell?, this]
     rw [Nat.zero_add]
     simpa using hj
    have hz := hide1 (setRow_heap wr w0.heap.size _ #[.int .i64 4, .int .i64 0, .string ⟨#[]⟩, .slice va vm vk, .slice none 0 0] _ _ hr4)
    clear Lf 
    go_wp2_with (first
     | refine wpList_load_mid rfl 28 (.tmp 5) rfl (w0.heap.size + 1) 0 rfl [.int .i64 4, .int .i64 0, .string ⟨#[]⟩, .slice va vm vk, .slice none 0 0] _ hl5 Tryz.underlying28 rfl (by kernel_rfl) ?_
     | refine wpList_store_row rfl Vt (.tmp 4) (.tmp 66) rfl w0.heap.size #[.int .i64 4, .int .i64 0, .string ⟨#[]⟩, .slice va vm vk, .slice none 0 0] rfl rfl Vt _ hr4 (by kernel_rfl) rfl (by kernel_rfl) ?_)
    refine bodyPost_ret (results_v1 rfl _ rfl rfl hz.out) rfl ?_
    exact hf2.out
   | false =>
    obtain ⟨cs, xs, m, L, hqB, hits, hqm, hcm⟩ := hgood.out rfl
    obtain ⟨o, ho⟩ : ∃ o, Hid (pv n (B.drop q) = o) := ⟨_, hide1 rfl⟩
    have hcall : Hid (∀ w, Below wr.heap.size wr w → Calls Tryz.prog 32 #[.pointer (some ⟨g, 0, none⟩), .int .i64 d] w (AnVr sl B g n o w)) := hide1 fun w hb => by
     have := ih (L.tg.later hb) hqB
     rw [ho.out, ← hd.out] at this
     exact this
    have hn : cs.length ≤ 100000 := by omega
    replace hits := hide1 hits
    have hL := L
    clear hx hbad hgood
    replace L := hide1 L
    go_upto_region 11 with fail
    refine wp_rel5 _ _ (LR sl B g n o w0 v cs xs wr d) (ML w0 wr v) LRd (by kernel_rfl) (by kernel_rfl) 9 (by kernel_rfl) ?_ ?_ rfl (⟨fun _ => (Below.refl _ _).drew, fun _ => hL.r5⟩) ?_ ?_
    ·intro ix o ho
     match ix, ho with
     | 0, ho => obtain rfl := Option.some.inj ho; exact .inl ⟨rfl, by show 39 < 67; decide⟩
     | 1, ho => obtain rfl := Option.some.inj ho; exact .inl ⟨rfl, by show 40 < 67; decide⟩
     | 2, ho => obtain rfl := Option.some.inj ho; exact .inl ⟨rfl, by show 41 < 67; decide⟩
     | 3, ho => obtain rfl := Option.some.inj ho; exact .inl ⟨rfl, by show 42 < 67; decide⟩
     | 4, ho => obtain rfl := Option.some.inj ho; exact .inl ⟨rfl, by show 43 < 67; decide⟩
     | 5, ho => obtain rfl := Option.some.inj ho; exact .inl ⟨rfl, by show 44 < 67; decide⟩
     | 6, ho => obtain rfl := Option.some.inj ho; exact .inl ⟨rfl, by show 45 < 67; decide⟩
     | 7, ho => obtain rfl := Option.some.inj ho; exact .inl ⟨rfl, by show 46 < 67; decide⟩
     | 8, ho => obtain rfl := Option.some.inj ho; exact .inr ⟨⟨rfl, fun _ _ _ h => h⟩, by show 67 ≤ 1008; decide⟩
     | _ + 9, ho => exact absurd ho (by simp)
    ·intro ix jx hi hj e; unfold LRd at e; split at e <;> split at e <;> omega
    ·intro ix o ho
     match ix, ho with
     | 0, ho =>
      obtain rfl := Option.some.inj ho
      intro D a w hM hsl hdep hDi hcl K hK
      have hp5 : a.tmps.getD 5 undef = .pointer (some ⟨w0.heap.size + 1, 0, none⟩) := hsl 5 (by intro j hj; unfold LRd; split <;> omega)
      refine ⟨rfl, ?_⟩
      refine wp_val (w' := w) (v := .pointer (some ⟨w0.heap.size + 1, 3, none⟩)) (by simp only [execOp, Act.eval]; rw [show a.tmps.getD 5 undef = _ from hp5]; kernel_rfl) ?_
      exact hK _ _ rfl (ML_same (by decide) (by decide) hM) (fun j u _ _ h => LR_same (by decide) (by decide) (by decide) j u h)
     | 1, ho =>
      obtain rfl := Option.some.inj ho
      intro D a w hM hsl hdep hDi hcl K hK
      have e0 := (hdep ⟨0, .data⟩ (by simp) rfl).1
      refine ⟨rfl, ?_⟩
      have hd8 : D 8 = false := by cases h9 : D 8 with | false => rfl | true => have := hcl 8 _ rfl h9 ⟨1, .phase⟩ (by simp) rfl; rw [this] at hDi; cases hDi
      have hc : w.cell? ⟨w0.heap.size + 1, 3, none⟩ = some v := by simp [World.cell?, hM.2 hd8]
      refine wp_val (w' := w) (v := v) (by simp only [execOp, Act.eval]; rw [show a.tmps.getD 39 undef = _ from e0]; simp only [Sem.run_bind, ld_sV hc, Result.andThen_ok, Sem.run_pure]) ?_
      exact hK _ _ rfl (ML_same (by decide) (by decide) hM) (fun j u _ _ h => LR_same (by decide) (by decide) (by decide) j u h)
     | 2, ho =>
      obtain rfl := Option.some.inj ho
      intro D a w hM hsl hdep hDi hcl K hK
      have hp0 : a.tmps.getD 0 undef = .pointer (some ⟨g, 0, none⟩) := hsl 0 (by intro j hj; unfold LRd; split <;> omega)
      refine ⟨rfl, ?_⟩
      refine wp_val (w' := w) (v := .pointer (some ⟨g, 0, none⟩)) (by simp only [execOp, Act.eval]; rw [show a.tmps.getD 0 undef = _ from hp0]; rfl) ?_
      exact hK _ _ rfl (ML_same (by decide) (by decide) hM) (fun j u _ _ h => LR_same (by decide) (by decide) (by decide) j u h)
     | 3, ho =>
      obtain rfl := Option.some.inj ho
      intro D a w hM hsl hdep hDi hcl K hK
      have hp1 : a.tmps.getD 1 undef = .int .i64 d := hsl 1 (by intro j hj; unfold LRd; split <;> omega)
      refine ⟨rfl, ?_⟩
      refine wp_val (w' := w) (v := .int .i64 d) (by simp only [execOp, Act.eval]; rw [show a.tmps.getD 1 undef = _ from hp1]; rfl) ?_
      exact hK _ _ rfl (ML_same (by decide) (by decide) hM) (fun j u _ _ h => LR_same (by decide) (by decide) (by decide) j u h)
     | 4, ho =>
      obtain rfl := Option.some.inj ho
      intro D a w hM hsl hdep hDi hcl K hK
      have e2 := (hdep ⟨2, .data⟩ (by simp) rfl).1
      have e3 := (hdep ⟨3, .data⟩ (by simp) rfl).1
      refine ⟨rfl, ?_⟩
      have hd5 : D 5 = false := by cases h9 : D 5 with | false => rfl | true => have := hcl 5 _ rfl h9 ⟨4, .data⟩ (by simp) rfl; rw [this] at hDi; cases hDi
      have hd6 : D 6 = false := by cases h9 : D 6 with | false => rfl | true => have := hcl 6 _ rfl h9 ⟨5, .data⟩ (by simp) rfl; rw [this] at hd5; cases hd5
      have hd8 : D 8 = false := by cases h9 : D 8 with | false => rfl | true => have := hcl 8 _ rfl h9 ⟨6, .data⟩ (by simp) rfl; rw [this] at hd6; cases hd6
      have hb4 := hM.1 hDi
      have hr5 := hM.2 hd8
      refine oper_any (J := fun r w' => ∃ c, r = .agg c ∧ P4 sl B g n o wr c w' ∧ Kg g w w') 32 #[.tmp 41, .tmp 42] _ rfl #[.pointer (some ⟨g, 0, none⟩), .int .i64 d] (by simp only [List.map_toArray, List.map_cons, List.map_nil, Act.eval]; rw [show a.tmps.getD 41 undef = _ from e2, show a.tmps.getD 42 undef = _ from e3]) (fun w => by kernel_rfl) ((hcall.out w hb4).mono ?_) ?_
      ·rintro e w' ⟨c, q, rfl, k1, k2, k3, k4, k5, k6⟩
       exact ⟨_, rfl, c, rfl, ⟨k1, k2, q, k3, (Kg.of hb4).trans k4, k5, fun t r e => ⟨(k6 t r e).1.frame (fun _ _ _ => rfl) (fun j hj _ => Nat.le_trans hb4.size hj), (k6 t r e).2⟩⟩, k4⟩
      ·rintro r w' ⟨c, rfl, h4, k4⟩
       have hlt := (Array.getElem?_eq_some_iff.1 hr5).1
       exact hK _ _ ⟨add1_eq, c, rfl, fun _ => h4⟩ ⟨(fun e => by rw [add1_eq] at e; cases e), fun _ => (k4.block _ hlt (by omega)).trans hr5⟩ (fun j u hj _ h => LR_ev (fun _ e => absurd rfl e) (fun e _ => by rw [hd5] at e; cases e) (fun e _ => by rw [hd6] at e; cases e) (fun e _ => by rw [hd8] at e; cases e) j u hj h)
     | 5, ho =>
      obtain rfl := Option.some.inj ho
      intro D a w hM hsl hdep hDi hcl K hK
      have e4 := (hdep ⟨4, .data⟩ (by simp) rfl).1
      refine ⟨rfl, ?_⟩
      have hd6 : D 6 = false := by cases h9 : D 6 with | false => rfl | true => have := hcl 6 _ rfl h9 ⟨5, .data⟩ (by simp) rfl; rw [this] at hDi; cases hDi
      have hd8 : D 8 = false := by cases h9 : D 8 with | false => rfl | true => have := hcl 8 _ rfl h9 ⟨6, .data⟩ (by simp) rfl; rw [this] at hd6; cases hd6
      obtain ⟨hd4, c, ev, h4⟩ := e4
      replace h4 := h4 hDi
      have hb5 := below_al (w := w) (.cells c 28)
      refine wp_val (w' := w.alloc (.cells c 28)) (v := .slice (some ⟨w.heap.size, 0, none⟩) 1 1) (by simp only [execOp, Act.eval, List.map_toArray, List.map_cons, List.map_nil]; rw [show a.tmps.getD 43 undef = _ from ev]; simp only [Sem.run_bind, bs_V5 h4.1, Result.andThen_ok, Sem.run_pure]) ?_
      have hr5 := hM.2 hd8
      exact hK _ _ ⟨add1_eq, fun _ => ⟨c, _, rfl, new_at w c 28, h4.later hb5⟩⟩ ⟨(fun e => by rw [add1_ne (by decide), hd4] at e; cases e), fun _ => (hb5.block _ (Array.getElem?_eq_some_iff.1 hr5).1).trans hr5⟩ (fun j u hj _ h => LR_ev (fun _ _ => add1_eq) (fun _ e => absurd rfl e) (fun e _ => by rw [hd6] at e; cases e) (fun e _ => by rw [hd8] at e; cases e) j u hj h)
     | 6, ho =>
      obtain rfl := Option.some.inj ho
      intro D a w hM hsl hdep hDi hcl K hK
      have e1 := (hdep ⟨1, .data⟩ (by simp) rfl).1
      have e5 := (hdep ⟨5, .data⟩ (by simp) rfl).1
      refine ⟨rfl, ?_⟩
      have hd8 : D 8 = false := by cases h9 : D 8 with | false => rfl | true => have := hcl 8 _ rfl h9 ⟨6, .data⟩ (by simp) rfl; rw [this] at hDi; cases hDi
      have hd4 := (hdep ⟨4, .chain⟩ (by simp) rfl).2
      obtain ⟨hd5, h5⟩ := e5
      obtain ⟨c, nb, ev, hnb, h4⟩ := h5 hDi
      obtain ⟨v2, w2, hr, h6⟩ := app_V 25 ht0 hL hg0 h4 hnb hn
      have hx0 : a.eval (.tmp 40) = v := e1
      have hx1 : a.eval (.tmp 44) = .slice (some ⟨nb, 0, none⟩) 1 1 := ev
      unfold Oper.wp execOp
      simp only [resolve, invoke, builtin, Sem.run_bind, Sem.run_pure, Result.andThen_ok, List.map_toArray, List.map_cons, List.map_nil, hx0, hx1, hr]
      show K (a.put (some 45) v2) w2
      exact hK _ _ ⟨add1_eq, fun _ => h6⟩ ⟨(fun e => by rw [add1_ne (by decide), hd4] at e; cases e), fun _ => by obtain ⟨_, _, _, _, _, _, L, _⟩ := h6; exact L.r5⟩ (fun j u hj _ h => LR_ev (fun _ _ => add1_up hd5) (fun _ _ => add1_eq) (fun _ e => absurd rfl e) (fun e _ => by rw [hd8] at e; cases e) j u hj h)
     | 7, ho =>
      obtain rfl := Option.some.inj ho
      intro D a w hM hsl hdep hDi hcl K hK
      have hp5 : a.tmps.getD 5 undef = .pointer (some ⟨w0.heap.size + 1, 0, none⟩) := hsl 5 (by intro j hj; unfold LRd; split <;> omega)
      refine ⟨rfl, ?_⟩
      refine wp_val (w' := w) (v := .pointer (some ⟨w0.heap.size + 1, 3, none⟩)) (by simp only [execOp, Act.eval]; rw [show a.tmps.getD 5 undef = _ from hp5]; kernel_rfl) ?_
      exact hK _ _ rfl (ML_same (by decide) (by decide) hM) (fun j u _ _ h => LR_same (by decide) (by decide) (by decide) j u h)
     | 8, ho =>
      obtain rfl := Option.some.inj ho
      intro D a w hM hsl hdep hDi hcl K hK
      have e7 := (hdep ⟨7, .data⟩ (by simp) rfl).1
      have e6 := (hdep ⟨6, .data⟩ (by simp) rfl).1
      refine ⟨rfl, ?_⟩
      have hd4 := (hdep ⟨4, .phase⟩ (by simp) rfl).2
      have hd5 := (hdep ⟨5, .phase⟩ (by simp) rfl).2
      obtain ⟨hd6, h6⟩ := e6
      replace h6 : D 8 = false → P6 sl B g n o w0 v cs xs (a.tmps.getD 45 undef) w := h6
      obtain ⟨w2, hr, h8⟩ := sto_V ht0 (h6 hDi) hg0 hL.ln hL.el
      refine wp_skp (w' := w2) (by simp only [execOp, Act.eval]; rw [show a.tmps.getD 46 undef = _ from e7]; simp only [Sem.run_bind, hr, Result.andThen_ok, Sem.run_pure]) ?_
      exact hK _ _ ⟨add1_eq, h8⟩ ⟨(fun e => by rw [add1_ne (by decide), hd4] at e; cases e), fun e => by rw [add1_eq] at e; cases e⟩ (fun j u hj _ h => LR_ev (fun _ _ => add1_up hd5) (fun _ _ => add1_up hd6) (fun _ _ => add1_eq) (fun _ e => absurd rfl e) j u hj h)
     | _ + 9, ho => exact absurd ho (by simp)
    ·intro D a wt hall hdf hs hM hsl hr hact
     obtain ⟨-, q2, v2, x2, hq2, hgo2⟩ : D 8 = true ∧ P8 sl B g n o w0 cs xs wt := hr 8 (by decide)
     simp only [List.filterMap_cons, List.filterMap_nil, List.foldl_cons, List.foldl_nil] at hact
     rw [hact]
     generalize a.tmps.getD 39 undef = y39
     generalize a.tmps.getD 40 undef = y40
     generalize a.tmps.getD 41 undef = y41
     generalize a.tmps.getD 42 undef = y42
     generalize a.tmps.getD 43 undef = y43
     generalize a.tmps.getD 44 undef = y44
     generalize a.tmps.getD 45 undef = y45
     generalize a.tmps.getD 46 undef = y46
     clear hact hr hsl hM hs hdf hall hcall hL L cb
     simp only [Act.put, List.setIfInBounds_toArray, List.set_cons_succ, List.set_cons_zero]
     have hbl := blanks_t x2.tg (by omega) hB
     go_wp2_with fail
     refine hbl.mono ?_
     rintro e w5 ⟨rfl, q3, t3, k3, hsk3, hpq3, hq3⟩
     have hnx := next_t t3
     obtain ⟨c2, hc2⟩ : ∃ c, Hid (nx B q3 = c) := ⟨_, hide1 rfl⟩
     rw [hc2.out] at hnx
     have hcl2 : c2 < 256 := by rw [← hc2.out]; exact nx_lt B q3
     go_wp2_with fail
     refine hnx.mono ?_
     rintro e w6 ⟨rfl, b6⟩
     have k6 : Kg g wt w6 := k3.trans (Kg.of b6)
     have t6 := t3.later b6
     have cc := t6.c1
     have cf := t6.fr 1
     have k7 := k6.trans t6.set1p.2
     have t7 := t6.set1p.1
     have x7 := x2.step hg0 k7 t7
     clear hbl hnx t3 k3 b6 t6 k6 x2
     replace k7 := hide1 k7
     replace t7 := hide1 t7
     replace x7 := hide1 x7
     replace hgo2 := hide1 hgo2
     go_upto_region 15 with fail
     generalize w6.setCell ⟨g, 1, none⟩ (.int .i64 (((q3 : Nat) : Int) + 1)) = w7 at *
     clear cc cf
     cases o with
     | none =>
      have hRn : Hid (R = none) := hide1 (by rw [← hits.out, its_non ho.out])
      have x8 : Lx sl B g (q3 + 1) true w0 v2 w7 := x7.out
      by_cases g93 : c2 = 93
      ·subst g93
       obtain ⟨va, vm, vk, rfl⟩ := x8.sh
       have hf2 : Hid (AnVr sl B g (n + 1) (Option.map (fun x => (T.mk 4 0 [] x.1 [], x.2)) R) w0 _ _) := hide1 (by rw [hRn.out]; exact x8.none' (n := n + 1) ht0 (by omega))
       have Lf := x8
       clear x7 x8 hRn hits hgo2 t7 k7 hbo hat
       have hr4 := Lf.r4
       have hl5 : w7.rangeAt (w0.heap.size + 1) 0 [.int .i64 4, .int .i64 0, .string ⟨#[]⟩, .slice va vm vk, .slice none 0 0] := fun j z hj => by
        have := Lf.r5
        simp only [World.cell?, this]
        rw [Nat.zero_add]
        simpa using hj
       have hz := hide1 (setRow_heap w7 w0.heap.size _ #[.int .i64 4, .int .i64 0, .string ⟨#[]⟩, .slice va vm vk, .slice none 0 0] _ _ hr4)
       clear Lf 
       go_wp2_with (first
        | refine wpList_load_mid rfl 28 (.tmp 5) rfl (w0.heap.size + 1) 0 rfl [.int .i64 4, .int .i64 0, .string ⟨#[]⟩, .slice va vm vk, .slice none 0 0] _ hl5 Tryz.underlying28 rfl (by kernel_rfl) ?_
        | refine wpList_store_row rfl Vt (.tmp 4) (.tmp 60) rfl w0.heap.size #[.int .i64 4, .int .i64 0, .string ⟨#[]⟩, .slice va vm vk, .slice none 0 0] rfl rfl Vt _ hr4 (by kernel_rfl) rfl (by kernel_rfl) ?_)
       refine bodyPost_ret (results_v1 rfl _ rfl rfl hz.out) rfl ?_
       exact hf2.out
      have d93 : ((c2 : Int) == 93) = false := by simp; omega
      by_cases g44 : c2 = 44
      ·subst g44
       replace x8 := hide1 x8
       clear x7 hits hgo2 t7 k7
       go_wp2
       go_roundw
       case rel => exact ⟨q3 + 1, true, v2, by omega, x8, hide1 (fun _ => hRn.out), hide1 (fun e => by cases e)⟩
       case measure =>
        rw [x8.out.tg.badOf, hbo.out, hat.out]
        simp only [if_true, Bool.false_eq_true, if_false]; omega
      ·have d44 : ((c2 : Int) != 44) = true := by simp; omega
       have e1 := x8.tg.c2
       have e2 := x8.tg.fr 2
       have x9 := hide1 (x8.step hg0 (x8.tg.set2 true).2 (x8.tg.set2 true).1)
       clear x7 x8 hits hgo2 t7 k7
       go_wp2
       go_roundw
       case rel => exact ⟨q3 + 1, true, v2, by omega, x9, hide1 (fun _ => hRn.out), hide1 (fun e => by cases e)⟩
       case measure =>
        rw [x9.out.tg.badOf, hbo.out, hat.out]
        simp only [if_true, Bool.false_eq_true, if_false]; omega
     | some xr =>
      obtain ⟨x, r⟩ := xr
      obtain ⟨hdr, hq2B, c, hLv⟩ := hgo2.out x r rfl
      have hv8 := hLv.step hg0 k7.out t7.out
      have hle := pv_le n (B.drop q) x r ho.out
      rw [← hdr, List.length_drop, List.length_drop] at hle
      have hq3B : q3 ≤ B.length := by omega
      rw [hdr] at hsk3
      have hqq : q ≤ q3 := by omega
      have h93 := hp_nx (B := B) (p := q3) (c := 93) (by decide)
      have h44 := hp_nx (B := B) (p := q3) (c := 44) (by decide)
      rw [hsk3, hc2.out, show (93 : UInt8).toNat = 93 from rfl] at h93
      rw [hsk3, hc2.out, show (44 : UInt8).toNat = 44 from rfl] at h44
      have tk93 := fun e => tk_nx (B := B) (p := q3) (c := 93) e (by decide)
      have tk44 := fun e => tk_nx (B := B) (p := q3) (c := 44) e (by decide)
      rw [hsk3] at tk93 tk44
      clear hgo2 hLv
      by_cases g93 : c2 = 93
      ·have hRs : R = some (xs ++ [x], B.drop (q3 + 1)) := by
        rw [← hits.out, its_end ho.out (by rw [h93]; exact decide_eq_true g93), tk93 (by rw [hc2.out]; exact g93)]
       have hlt : q3 < B.length := (nx_pos hc2.out (by omega)).choose_spec.choose_spec.2.2
       subst g93
       obtain ⟨va, vm, vk, rfl⟩ := hv8.sh
       have hf2 : Hid (AnVr sl B g (n + 1) (Option.map (fun x => (T.mk 4 0 [] x.1 [], x.2)) R) w0 _ _) := hide1 (by rw [hRs]; exact hv8.some' (n := n + 1) ht0 (by omega))
       have Lf := hv8.toLx
       clear x7 hv8 hRs hits t7 k7 hbo hat h93 h44 tk93 tk44
       have hr4 := Lf.r4
       have hl5 : w7.rangeAt (w0.heap.size + 1) 0 [.int .i64 4, .int .i64 0, .string ⟨#[]⟩, .slice va vm vk, .slice none 0 0] := fun j z hj => by
        have := Lf.r5
        simp only [World.cell?, this]
        rw [Nat.zero_add]
        simpa using hj
       have hz := hide1 (setRow_heap w7 w0.heap.size _ #[.int .i64 4, .int .i64 0, .string ⟨#[]⟩, .slice va vm vk, .slice none 0 0] _ _ hr4)
       clear Lf 
       go_wp2_with (first
        | refine wpList_load_mid rfl 28 (.tmp 5) rfl (w0.heap.size + 1) 0 rfl [.int .i64 4, .int .i64 0, .string ⟨#[]⟩, .slice va vm vk, .slice none 0 0] _ hl5 Tryz.underlying28 rfl (by kernel_rfl) ?_
        | refine wpList_store_row rfl Vt (.tmp 4) (.tmp 60) rfl w0.heap.size #[.int .i64 4, .int .i64 0, .string ⟨#[]⟩, .slice va vm vk, .slice none 0 0] rfl rfl Vt _ hr4 (by kernel_rfl) rfl (by kernel_rfl) ?_)
       refine bodyPost_ret (results_v1 rfl _ rfl rfl hz.out) rfl ?_
       exact hf2.out
      have d93 : ((c2 : Int) == 93) = false := by simp; omega
      rw [decide_eq_false g93] at h93
      by_cases g44 : c2 = 44
      ·have hlt : q3 < B.length := (nx_pos hc2.out (by omega)).choose_spec.choose_spec.2.2
       obtain ⟨m', hm'⟩ : ∃ m', m = m' + 1 := ⟨m - 1, by omega⟩
       subst hm'
       have hRg : Hid (its (pv n) 93 m' (xs ++ [x]) (B.drop (q3 + 1)) = R) := hide1 (by
        rw [← hits.out, its_go ho.out h93 (by rw [h44]; exact decide_eq_true g44), tk44 (by rw [hc2.out]; exact g44)])
       have hmz := hide1 (show B.length + 1 - (q3 + 1) < B.length + 1 - q by omega)
       subst g44
       replace hv8 := hide1 hv8
       clear x7 hits t7 k7 h93 h44 tk93 tk44
       go_wp2
       go_roundw
       case rel => exact ⟨q3 + 1, false, v2, by omega, hide1 hv8.out.toLx, hide1 (fun e => by cases e), hide1 (fun _ => ⟨_, _, m', hv8.out, by omega, hRg.out, by omega, by simp only [List.length_append, List.length_singleton]; omega⟩)⟩
       case measure =>
        rw [hv8.out.tg.badOf, hv8.out.tg.atOf, hbo.out, hat.out]
        simp only [Bool.false_eq_true, if_false]; exact hmz.out
      ·have d44 : ((c2 : Int) != 44) = true := by simp; omega
       have hRn : Hid (R = none) := hide1 (by rw [← hits.out, its_bad ho.out h93 (by rw [h44]; exact decide_eq_false g44)])
       have e1 := hv8.tg.c2
       have e2 := hv8.tg.fr 2
       have x9 := hide1 (hv8.toLx.step hg0 (hv8.tg.set2 true).2 (hv8.tg.set2 true).1)
       clear x7 hv8 hits t7 k7 h93 h44 tk93 tk44
       go_wp2
       go_roundw
       case rel => exact ⟨q3 + 1, true, v2, by omega, x9, hide1 (fun _ => hRn.out), hide1 (fun e => by cases e)⟩
       case measure =>
        rw [x9.out.tg.badOf, hbo.out, hat.out]
        simp only [if_true, Bool.false_eq_true, if_false]; omega
end
structure Ox (sl : Value) (B : List UInt8) (g q : Nat) (bad : Bool) (w0 : World) (v : Value) (W : World) : Prop where
 tg : Tg sl B g q bad W
 kg : Kg g w0 W
 r4 : W.heap[w0.heap.size]? = some (.cells zV 28 (0, 0))
 r5 : W.heap[w0.heap.size + 1]? = some (.cells #[.int .i64 5, .int .i64 0, .string ⟨#[]⟩, .slice none 0 0, v] 28 (0, 0))
 sz : w0.heap.size + 2 ≤ W.heap.size
 sh : ∃ a m c, v = .slice a m c
structure Ov (sl : Value) (B : List UInt8) (g q : Nat) (bad : Bool) (w0 : World) (v : Value) (cs : List (List Value)) (xs : List (List UInt8 × T)) (W : World) : Prop extends Ox sl B g q bad w0 v W where
 row : W.ownsRow (w0.heap.size + 2) 49 6 v cs.length cs.flatten
 ln : ∀ c ∈ cs, c.length = 6
 el : cs.length = xs.length
 hd : ∀ (j : Nat) (t : List UInt8 × T) (c : List Value), xs[j]? = some t → cs[j]? = some c → c.head? = some (Value.string (st t.1))
 va : ∀ (j : Nat) (t : List UInt8 × T) (c : List Value), xs[j]? = some t → cs[j]? = some c → VA (fun k => w0.heap.size + 2 ≤ k ∧ some k ≠ v.ownBlock) W t.2 c.tail
section
variable {sl : Value} {B : List UInt8} {g p q q' n : Nat} {bad bad' : Bool} {w w' w0 W W' wr : World} {v v0 v' : Value} {cs : List (List Value)} {xs : List (List UInt8 × T)} {c ce : Array Value} {nm : List UInt8}
theorem Ox.step (h : Ox sl B g q bad w0 v W) (hg : g < w0.heap.size) (k : Kg g W W') (t : Tg sl B g q' bad' W') : Ox sl B g q' bad' w0 v W' := by
 have hs := h.sz
 exact ⟨t, h.kg.trans k, (k.block _ (by omega) (by omega)).trans h.r4, (k.block _ (by omega) (by omega)).trans h.r5, Nat.le_trans hs k.size, h.sh⟩
theorem Ov.step (h : Ov sl B g q bad w0 v cs xs W) (hg : g < w0.heap.size) (k : Kg g W W') (t : Tg sl B g q' bad' W') : Ov sl B g q' bad' w0 v cs xs W' :=
 ⟨h.toOx.step hg k t, own_kept h.row fun b e => k.block b (h.row.lt b e).2 (by have := (h.row.lt b e).1; omega), h.ln, h.el, h.hd,
  fun j t c h1 h2 => (h.va j t c h1 h2).frame (fun k' hk hs => k.block k' hs (by have := hk.1; omega)) (fun _ hk _ => hk)⟩
def Mid (sl : Value) (B : List UInt8) (g q : Nat) (bad : Bool) (w0 : World) (v0 : Value) (cs : List (List Value)) (xs : List (List UInt8 × T)) (ce : List Value) (w : World) (v : Value) (w' : World) : Prop :=
 (∃ a m k, v = .slice a m k) ∧ Ox sl B g q bad w0 v0 w' ∧ w'.ownsRow (w0.heap.size + 2) 49 6 v (cs.length + 1) (cs.flatten ++ ce) ∧
  (∀ (j : Nat) (t : List UInt8 × T) (c : List Value), xs[j]? = some t → cs[j]? = some c → VA (fun k => w0.heap.size + 2 ≤ k ∧ some k ≠ v.ownBlock) w' t.2 c.tail) ∧
  ∀ t, VA (fun k => w0.heap.size + 2 ≤ k ∧ some k ≠ v0.ownBlock) w t ce.tail → VA (fun k => w0.heap.size + 2 ≤ k ∧ some k ≠ v.ownBlock) w' t ce.tail
theorem app_O (tr : TypeId) {p0 : Nat} {b0 : Bool} (ht0 : Tg sl B g p0 b0 w0) (L2 : Ov sl B g q bad w0 v0 cs xs w) (h1 : ce.size = 6) (h2 : ce.all (·.oneCell') = true) {nb : Nat} (hnb : w.heap[nb]? = some (.cells ce 49 (0, 0))) (hn : cs.length ≤ 100000) :
  ∃ v' w', (Builtin.append_ #[26, 26] tr #[v0, .slice (some ⟨nb, 0, none⟩) 1 1]).run Tryz.prog w = .ok v' w' ∧ Mid sl B g q bad w0 v0 cs xs ce.toList w v' w' := by
 obtain ⟨i0, hi, hz0, hz1, hz2⟩ := info_parts inf_P
 have hg := ht0.lt
 have hnews : ∀ j u, ce.toList[j]? = some u → w.cell? ((⟨nb, 0, none⟩ : Addr).add j) = some u := by
  intro j u hj
  rw [Addr.add_lit, Nat.zero_add]
  simp only [World.cell?, hnb]
  simpa using hj
 obtain ⟨v', w', hr, g4, g5, g5b, g6⟩ := run_append_own_at (P := Tryz.prog) w (w0.heap.size + 2) 26 tr 49 i0 _ 6 96 Tryz.underlying26 hi hz0 hz1 hz2 rfl (by decide) v0 cs.length cs.flatten L2.row ⟨nb, 0, none⟩ 1 1 ce.toList (by simpa using h1) hnews
  (fun u hu => Array.all_eq_true_iff_forall_mem.1 h2 u (by simpa using hu)) (by unfold maxLen; omega) (by omega) L2.sz
 refine ⟨v', w', hr, ?_⟩
 have hown : ∀ b, v0.ownBlock = some b → w0.heap.size + 2 ≤ b := fun b e => (L2.row.lt b e).1
 have kw : Kg g w0 w' := L2.kg.grown g5 (fun r e => by have := hown r e; omega)
 have hz := L2.sz
 have tb : Tg sl B g q bad w' := Tg.of ht0 kw ((g5.block g L2.tg.lt (fun e => by have := hown g e.symm; omega)).trans L2.tg.box)
 obtain ⟨gb, cap, rfl⟩ : ∃ gb cap, v' = .slice (some ⟨gb, 0, none⟩) (cs.length + 1) cap := by
  obtain ⟨_, ⟨_, h0⟩ | ⟨g, cap, cur, hv, _⟩⟩ := g4
  ·omega
  ·exact ⟨g, cap, hv⟩
 have hgb : some gb = v0.ownBlock ∨ w.heap.size ≤ gb := by
  rcases g6 with e | e
  ·exact .inl e
  ·right
   have : some gb = some w.heap.size := e
   cases this; omega
 have hne : ∀ k, k < w.heap.size → some k ≠ v0.ownBlock → some k ≠ some gb := fun k hk hn e => by
  cases e
  rcases hgb with e | e
  ·exact hn e
  ·omega
 have hmv : ∀ t c, VA (fun k => w0.heap.size + 2 ≤ k ∧ some k ≠ v0.ownBlock) w t c → VA (fun k => w0.heap.size + 2 ≤ k ∧ some k ≠ (Value.slice (some ⟨gb, 0, none⟩) (cs.length + 1) cap).ownBlock) w' t c := fun t c h => h.frame (fun j hj hs => g5.block j hs hj.2) (fun j hj hs => ⟨hj.1, hne j hs hj.2⟩)
 exact ⟨⟨_, _, _, rfl⟩, ⟨tb, kw, (g5.block _ (by omega) (fun e => by have := hown _ e.symm; omega)).trans L2.r4, (g5.block _ (by omega) (fun e => by have := hown _ e.symm; omega)).trans L2.r5, Nat.le_trans hz g5.size, L2.sh⟩, g4, fun j t c k1 k2 => hmv _ _ (L2.va j t c k1 k2), fun t h => hmv _ _ h⟩
theorem sto_O {p0 : Nat} {b0 : Bool} (ht0 : Tg sl B g p0 b0 w0) {a : Option Addr} {m k : Nat} (h : Mid sl B g q bad w0 v0 cs xs ce.toList wr (.slice a m k) w) (L2 : Ov sl B g q bad w0 v0 cs xs wr) (hc6 : ce.size = 6) (hhd : ce.toList.head? = some (.string (st nm))) :
  w.cell? ⟨w0.heap.size + 1, 4, none⟩ = some v0 ∧ w.frozen? ⟨w0.heap.size + 1, 4, none⟩ = false ∧ Ox sl B g q bad w0 (.slice a m k) (w.setCell ⟨w0.heap.size + 1, 4, none⟩ (.slice a m k)) ∧ ∀ t, VA (fun k => w0.heap.size + 2 ≤ k ∧ some k ≠ v0.ownBlock) wr t ce.toList.tail → Ov sl B g q bad w0 (.slice a m k) (cs ++ [ce.toList]) (xs ++ [(nm, t)]) (w.setCell ⟨w0.heap.size + 1, 4, none⟩ (.slice a m k)) := by
 have hg := ht0.lt
 obtain ⟨-, L, hrow, hold, hnew⟩ := h
 have hc : w.cell? ⟨w0.heap.size + 1, 4, none⟩ = some v0 := by simp [World.cell?, L.r5]
 have hf : w.frozen? ⟨w0.heap.size + 1, 4, none⟩ = false := by simp [World.frozen?, L.r5]
 obtain ⟨a0, m0, k0, rfl⟩ := L.sh
 have e : w.setCell ⟨w0.heap.size + 1, 4, none⟩ (.slice a m k) = w.setRow (w0.heap.size + 1) #[.int .i64 5, .int .i64 0, .string ⟨#[]⟩, .slice none 0 0, .slice a m k] := by
  rw [setCell_eq_setRow w _ 4 _ _ (0, 0) _ L.r5]; rfl
 refine ⟨hc, hf, ?_⟩
 rw [e]
 have hother : ∀ j, j ≠ w0.heap.size + 1 → (w.setRow (w0.heap.size + 1) #[.int .i64 5, .int .i64 0, .string ⟨#[]⟩, .slice none 0 0, .slice a m k]).heap[j]? = w.heap[j]? := fun j hj => setRow_other w _ j _ hj
 have hsz : (w.setRow (w0.heap.size + 1) #[.int .i64 5, .int .i64 0, .string ⟨#[]⟩, .slice none 0 0, .slice a m k]).heap.size = w.heap.size := by simp [World.setRow]
 have hz := L.sz
 have kk : Kg g w0 (w.setRow (w0.heap.size + 1) #[.int .i64 5, .int .i64 0, .string ⟨#[]⟩, .slice none 0 0, .slice a m k]) := L.kg.own (by omega) _
 have tb : Tg sl B g q bad (w.setRow (w0.heap.size + 1) #[.int .i64 5, .int .i64 0, .string ⟨#[]⟩, .slice none 0 0, .slice a m k]) := Tg.of ht0 kk ((hother g (by omega)).trans L.tg.box)
 have Lx' : Ox sl B g q bad w0 (.slice a m k) (w.setRow (w0.heap.size + 1) #[.int .i64 5, .int .i64 0, .string ⟨#[]⟩, .slice none 0 0, .slice a m k]) := ⟨tb, kk, (hother _ (by omega)).trans L.r4, setRow_heap w _ _ _ _ _ L.r5, by rw [hsz]; exact hz, ⟨_, _, _, rfl⟩⟩
 refine ⟨Lx', fun t hvt => ?_⟩
 have hfr : ∀ k', w0.heap.size + 2 ≤ k' → (w.setRow (w0.heap.size + 1) #[.int .i64 5, .int .i64 0, .string ⟨#[]⟩, .slice none 0 0, .slice a m k]).heap[k']? = w.heap[k']? := fun k' hk => hother k' (by omega)
 refine ⟨Lx', ?_, ?_, by simp [L2.el], fun j t' c' k1 k2 => ?_, fun j t' c' k1 k2 => ?_⟩
 ·rw [List.length_append, List.length_singleton, List.flatten_append, List.flatten_singleton]
  exact own_kept hrow fun b e => hfr b (hrow.lt b e).1
 ·intro x hx
  rcases List.mem_append.1 hx with hx | hx
  ·exact L2.ln x hx
  ·rw [List.mem_singleton.1 hx]; simpa using hc6
 ·rcases snoc_get k1 with h3 | ⟨h3, rfl⟩
  ·rcases snoc_get k2 with h4 | ⟨h4, rfl⟩
   ·exact L2.hd j t' c' h3 h4
   ·have := (List.getElem?_eq_some_iff.1 h3).1
    have := L2.el
    omega
  ·rcases snoc_get k2 with h4 | ⟨h4, rfl⟩
   ·have := (List.getElem?_eq_some_iff.1 h4).1
    have := L2.el
    omega
   ·exact hhd
 ·rcases snoc_get k1 with h3 | ⟨h3, rfl⟩
  ·rcases snoc_get k2 with h4 | ⟨h4, rfl⟩
   ·exact (hold j t' c' h3 h4).frame (fun k' hk _ => hfr k' hk.1) (fun _ hk _ => hk)
   ·have := (List.getElem?_eq_some_iff.1 h3).1
    have := L2.el
    omega
  ·rcases snoc_get k2 with h4 | ⟨h4, rfl⟩
   ·have := (List.getElem?_eq_some_iff.1 h4).1
    have := L2.el
    omega
   ·exact (hnew t hvt).frame (fun k' hk _ => hfr k' hk.1) (fun _ hk _ => hk)
theorem Ox.none' {q n : Nat} (ht0 : Tg sl B g p bad' w0) (h : Ox sl B g q true w0 v W) (hq : q ≤ B.length + 2 + n) : AnVr sl B g n none w0 (.returned (.agg #[.int .i64 5, .int .i64 0, .string ⟨#[]⟩, .slice none 0 0, v])) (W.setRow w0.heap.size #[.int .i64 5, .int .i64 0, .string ⟨#[]⟩, .slice none 0 0, v]) := by
 have hg0 := ht0.lt
 have kk := h.kg.own (Nat.le_refl _) #[.int .i64 5, .int .i64 0, .string ⟨#[]⟩, .slice none 0 0, v]
 obtain ⟨a, m, c, rfl⟩ := h.sh
 exact ⟨_, q, rfl, rfl, by kernel_rfl, Tg.of ht0 kk ((setRow_other W _ g _ (by omega)).trans h.tg.box), kk, hq, fun t r e => by cases e⟩
theorem Ov.val (h : Ov sl B g q bad w0 v cs xs W) : VA (fun k => w0.heap.size + 2 ≤ k) W (.mk 5 0 [] [] xs) [.int .i64 5, .int .i64 0, .string ⟨#[]⟩, .slice none 0 0, v] := by
 have hrw : RwA (fun k => w0.heap.size + 2 ≤ k) W 49 6 v cs := by
  refine ⟨h.ln, ?_⟩
  obtain ⟨hl, ⟨h1, h2⟩ | ⟨g', cap, cur, h1, hB, hg, hcap, hm, hcs, htk⟩⟩ := h.row
  ·exact .inl ⟨none, 0, h1, List.length_eq_zero_iff.1 h2⟩
  ·refine .inr ⟨g', 0, cap, cur, (49, (0, 0)), h1, hB, hg, ?_, by simpa using htk⟩
   rw [hcs, Nat.zero_add]
   exact Nat.mul_le_mul_right 6 hcap
 exact VA.mk (s := []) .nil hrw rfl h.el (by simp) h.hd (fun j t c h1 h2 => (h.va j t c h1 h2).frame (fun k hk _ => rfl) (fun k hk _ => hk.1))
theorem Ov.some' {q n : Nat} (ht0 : Tg sl B g p bad' w0) (h : Ov sl B g q false w0 v cs xs W) (hq : q ≤ B.length) : AnVr sl B g n (some (.mk 5 0 [] [] xs, B.drop q)) w0 (.returned (.agg #[.int .i64 5, .int .i64 0, .string ⟨#[]⟩, .slice none 0 0, v])) (W.setRow w0.heap.size #[.int .i64 5, .int .i64 0, .string ⟨#[]⟩, .slice none 0 0, v]) := by
 have hg0 := ht0.lt
 have kk := h.kg.own (Nat.le_refl _) #[.int .i64 5, .int .i64 0, .string ⟨#[]⟩, .slice none 0 0, v]
 have hsh : ∃ a m c, v = .slice a m c := h.sh
 have hone : (#[.int .i64 5, .int .i64 0, .string ⟨#[]⟩, .slice none 0 0, v] : Array Value).all (·.oneCell') = true := by
  obtain ⟨a, m, c, rfl⟩ := hsh
  kernel_rfl
 refine ⟨_, q, rfl, rfl, hone, Tg.of ht0 kk ((setRow_other W _ g _ (by omega)).trans h.tg.box), kk, by omega, fun t r e => ?_⟩
 rw [Option.some.injEq, Prod.mk.injEq] at e
 obtain ⟨rfl, rfl⟩ := e
 exact ⟨h.val.frame (fun k hk _ => setRow_other W _ k _ (by have : w0.heap.size + 2 ≤ k := hk; omega)) (fun k hk _ => by show w0.heap.size ≤ k; have : w0.heap.size + 2 ≤ k := hk; omega), rfl, hq⟩
theorem stopAtP {p : Prop} (h : Hid p) : p := h.out
section
variable {ops : Array Oper} {rest : List Oper} {oo : Oper} {a : Act} {Q : Exit → Act → World → Prop}
theorem wpList_runv {x : Value} (hgd : oo.guard = none) (h : (execOp a.eval oo).run Tryz.prog w = .ok (.value x) w') (hk : wpList Tryz.prog ops Q rest (a.put oo.dst x) w') : wpList Tryz.prog ops Q (oo :: rest) a w := by
 refine wpList_plain hgd fun K hK => ?_
 unfold Oper.wp
 rw [h]
 exact hK _ _ hk
theorem wpList_runs (hgd : oo.guard = none) (h : (execOp a.eval oo).run Tryz.prog w = .ok .skip w') (hk : wpList Tryz.prog ops Q rest (a.put oo.dst undef) w') : wpList Tryz.prog ops Q (oo :: rest) a w := by
 refine wpList_plain hgd fun K hK => ?_
 unfold Oper.wp
 rw [h]
 exact hK _ _ hk
theorem wpList_appP {Pp : Value → World → Prop} (hgd : oo.guard = none) (s x : Operand) (ho : oo.op = .call { callee := .builtin .append, args := #[s, x], argTypes := #[26, 26] }) (v0 u : Value) (hs : a.eval s = v0) (hx : a.eval x = u)
  (hr : ∃ v' w', (Builtin.append_ #[26, 26] oo.type #[v0, u]).run Tryz.prog w = .ok v' w' ∧ Pp v' w') (h : ∀ v' w', Pp v' w' → wpList Tryz.prog ops Q rest (a.put oo.dst v') w') : wpList Tryz.prog ops Q (oo :: rest) a w := by
 obtain ⟨v', w', hr, hp⟩ := hr
 refine wpList_runv hgd (x := v') (w' := w') ?_ (h v' w' hp)
 unfold execOp
 simp only [ho, resolve, invoke, builtin, Sem.run_bind, Sem.run_pure, Result.andThen_ok, List.map_toArray, List.map_cons, List.map_nil, hs, hx, hr]
theorem wpList_stV (hgd : oo.guard = none) (s x : Operand) (ho : oo.op = .store 28 s x) (gb o1 : Nat) {cur : Array Value} {t0 : TypeId} (hs : a.eval s = .pointer (some ⟨gb, o1, none⟩)) (hx : a.eval x = .agg c) (hg : w.heap[gb]? = some (.cells cur t0 (0, 0))) (hc : c.size = 5) (hfit : o1 + 5 ≤ cur.size) (h1 : c.all (·.oneCell') = true) (nw : Array Value) (hnw : (cur.toList.take o1 ++ c.toList ++ cur.toList.drop (o1 + 5)).toArray = nw)
  (h : wpList Tryz.prog ops Q rest (a.put oo.dst undef) (w.setRow gb nw)) : wpList Tryz.prog ops Q (oo :: rest) a w := by
 subst hnw
 refine wpList_runs hgd (w' := w.setRow gb (cur.toList.take o1 ++ c.toList ++ cur.toList.drop (o1 + 5)).toArray) ?_ h
 unfold execOp
 simp only [ho, hs, hx, Sem.run_bind, st_eV hg hc hfit h1, Result.andThen_ok, Sem.run_pure]
theorem wpList_bsP (hgd : oo.guard = none) (x : Operand) (ho : oo.op = .buildSlice 26 1 #[(0, x)]) {x0 x1 x2 x3 x4 x5 : Value} (hx : a.eval x = .agg #[x0, x1, x2, x3, x4, x5])
  (h : wpList Tryz.prog ops Q rest (a.put oo.dst (.slice (some ⟨w.heap.size, 0, none⟩) 1 1)) (w.alloc (.cells #[x0, x1, x2, x3, x4, x5] 49))) : wpList Tryz.prog ops Q (oo :: rest) a w := by
 have hb : (Instr.buildSlice 26 1 #[(0, .agg #[x0, x1, x2, x3, x4, x5])]).run Tryz.prog w = .ok (.slice (some ⟨w.heap.size, 0, none⟩) 1 1) (w.alloc (.cells #[x0, x1, x2, x3, x4, x5] 49)) := by kernel_rfl
 refine wpList_runv hgd (x := .slice (some ⟨w.heap.size, 0, none⟩) 1 1) (w' := w.alloc (.cells #[x0, x1, x2, x3, x4, x5] 49)) ?_ h
 unfold execOp
 simp only [ho, List.map_toArray, List.map_cons, List.map_nil, hx, Sem.run_bind, hb, Result.andThen_ok, Sem.run_pure]
end
theorem its_pre {α : Type} {one : List UInt8 → Option (α × List UInt8)} {e : UInt8} : ∀ {m : Nat} {xs ys : List α} {l r : List UInt8}, its one e m xs l = some (ys, r) → ∃ x r' zs, one l = some (x, r') ∧ ys = xs ++ x :: zs
 | m, xs, ys, l, r, h => by
  cases h1 : one l with
  | none => rw [its_non h1] at h; cases h
  | some y =>
   obtain ⟨x, q⟩ := y
   cases he : hp [e] (sk q) with
   | true =>
    rw [its_end h1 he] at h
    cases h
    exact ⟨x, q, [], rfl, rfl⟩
   | false =>
    cases hc : hp [44] (sk q) with
    | false => rw [its_bad h1 he hc] at h; cases h
    | true =>
     cases m with
     | zero => rw [its, h1] at h; simp [he, hc] at h
     | succ m =>
      rw [its_go h1 he hc] at h
      obtain ⟨x2, r2, zs, _, e2⟩ := its_pre h
      exact ⟨x, q, x2 :: zs, rfl, by rw [e2]; simp⟩
def obF : Option (List (List UInt8 × T) × List UInt8) → Option (T × List UInt8)
 | none => none
 | some (ps, r) => if onc (ps.map (·.1)) then some (.mk 5 0 [] [] ps, r) else none
theorem obF_some {ps : List (List UInt8 × T)} {r : List UInt8} (h : (ps.map (·.1)).Nodup) : obF (some (ps, r)) = some (.mk 5 0 [] [] ps, r) := by
 show (if onc (ps.map (·.1)) = true then some (T.mk 5 0 [] [] ps, r) else none) = _
 rw [if_pos (by unfold onc; exact decide_eq_true h)]
theorem obF_dup {ps : List (List UInt8 × T)} {r : List UInt8} (h : ¬ (ps.map (·.1)).Nodup) : obF (some (ps, r)) = none := by
 show (if onc (ps.map (·.1)) = true then some (T.mk 5 0 [] [] ps, r) else none) = _
 rw [if_neg (by unfold onc; rw [decide_eq_false h]; simp)]
set_option maxHeartbeats 16000000 in
set_option maxRecDepth 100000 in
theorem object_t {n : Nat} (ih : Vrk sl B g n) (hn7 : n ≤ 7) (ht0 : Tg sl B g p false w0) (hB : B.length ≤ 4096) (hc : nx B p = 123) : Calls Tryz.prog 51 #[.pointer (some ⟨g, 0, none⟩), .int .i64 (8 - (n : Int))] w0 (AnVr sl B g (n + 1) (obF (rw' (pr (pv n)) 123 125 (B.drop p))) w0) := by
 have hg0 := ht0.lt
 have hpB : p < B.length := (nx_pos hc (by omega)).choose_spec.choose_spec.2.2
 have hsk0 := sk_stop (B := B) (p := p) (by rw [hc]; decide)
 have hhp := hp_nx (B := B) (p := p) (c := 123) (by decide)
 rw [show (123 : UInt8).toNat = 123 from rfl, decide_eq_true hc] at hhp
 have htk := tk_nx (B := B) (p := p) (c := 123) hc (by decide)
 obtain ⟨R, hR⟩ : ∃ R, Hid (rw' (pr (pv n)) 123 125 (B.drop p) = R) := ⟨_, hide1 rfl⟩
 have hRw := hR.out
 unfold rw' at hRw
 rw [hsk0, hhp, if_pos rfl, htk, List.length_drop] at hRw
 replace hRw := hide1 hRw
 rw [hR.out]
 obtain ⟨d, hd⟩ : ∃ d : Int, Hid (d = 8 - (n : Int)) := ⟨_, hide1 rfl⟩
 rw [← hd.out]
 have hd8 : d ≤ 8 := by have := hd.out; omega
 obtain ⟨wb, hwb⟩ : ∃ wb, wb = (w0.alloc (.cells #[.int .i64 0, .int .i64 0, .string ⟨#[]⟩, .slice none 0 0, .slice none 0 0] 28)).alloc (.cells #[.int .i64 5, .int .i64 0, .string ⟨#[]⟩, .slice none 0 0, .slice none 0 0] 28) := ⟨_, rfl⟩
 have hb0 : Below w0.heap.size w0 wb := by rw [hwb]; exact (below_al _).alloc (by simp) _
 have L0 : Ov sl B g p false w0 (.slice none 0 0) [] [] wb := by
  refine ⟨⟨ht0.later hb0, Kg.of hb0, ?_, ?_, by rw [hwb]; simp, ⟨_, _, _, rfl⟩⟩, ⟨rfl, .inl ⟨rfl, rfl⟩⟩, by simp, rfl, by simp, by simp⟩
  ·rw [hwb]
   show ((w0.heap.push _).push _)[w0.heap.size]? = _
   rw [Array.getElem?_push, if_neg (by simp), Array.getElem?_push, if_pos rfl]
   rfl
  ·rw [hwb]
   show ((w0.heap.push _).push _)[w0.heap.size + 1]? = _
   rw [Array.getElem?_push, if_pos (by simp)]
 replace hb0 := hide1 hb0
 clear hR hsk0 hhp htk hc
 go_enter Tryz.func51, Tryz.ntmps51
 go_upto_region 5 with fail
 rw [← hwb]
 clear hwb hb0
 have cc := L0.tg.c1
 have cf := L0.tg.fr 1
 have L1 := L0.step hg0 L0.tg.set1p.2 L0.tg.set1p.1
 replace L1 := hide1 L1
 clear L0
 go_upto_region 6 with fail
 generalize wb.setCell ⟨g, 1, none⟩ (.int .i64 (((p : Nat) : Int) + 1)) = w1 at *
 have hbl := blanks_t L1.out.tg (by omega) hB
 clear cc cf
 go_wp2_with fail
 refine hbl.mono ?_
 rintro e w2 ⟨rfl, q1, t1, k1, hsk, hpq, hq1⟩
 have L2 := hide1 (L1.out.step hg0 k1 t1)
 have hq1B : q1 ≤ B.length := by omega
 have hnx := next_t t1
 clear hbl L1 t1 k1
 have hh93 := hp_nx (B := B) (p := q1) (c := 125) (by decide)
 rw [show (125 : UInt8).toNat = 125 from rfl] at hh93
 rw [← hsk, hh93] at hRw
 have htk93 := fun e => tk_nx (B := B) (p := q1) (c := 125) e (by decide)
 replace htk93 := hide1 htk93
 obtain ⟨c1, hc1⟩ : ∃ c, Hid (nx B q1 = c) := ⟨_, hide1 rfl⟩
 rw [hc1.out] at hnx hRw
 have hcl : c1 < 256 := by rw [← hc1.out]; exact nx_lt B q1
 clear hh93 hsk
 go_wp2_with fail
 refine hnx.mono ?_
 rintro e w3 ⟨rfl, b3⟩
 have L3 := L2.out.step hg0 (Kg.of b3) (L2.out.tg.later b3)
 clear hnx b3 L2
 by_cases h93 : c1 = 125
 ·subst h93
  have hRs : R = some ([], B.drop (q1 + 1)) := by
   rw [← hRw.out, decide_eq_true rfl, if_pos rfl, htk93.out hc1.out]
  have cc := L3.tg.c1
  have cf := L3.tg.fr 1
  have L4 := L3.step hg0 L3.tg.set1p.2 L3.tg.set1p.1
  have hq2 : q1 + 1 ≤ B.length := by
   have := (nx_pos hc1.out (by omega)).choose_spec.choose_spec.2.2
   omega
  have hf2 : Hid (AnVr sl B g (n + 1) (obF R) w0 _ _) := hide1 (by rw [hRs, obF_some (by simp)]; exact L4.some' (n := n + 1) ht0 hq2)
  have Lf := L4.toOx
  replace Lf := hide1 Lf
  clear L3 L4 hRw htk93
  go_upto_region 9 with fail
  generalize w3.setCell ⟨g, 1, none⟩ (.int .i64 (((q1 : Nat) : Int) + 1)) = w4 at *
  clear cc cf
  replace Lf := Lf.out
  have hr4 := Lf.r4
  have hl5 : w4.rangeAt (w0.heap.size + 1) 0 [.int .i64 5, .int .i64 0, .string ⟨#[]⟩, .slice none 0 0, .slice none 0 0] := fun j z hj => by
   have := Lf.r5
   simp only [World.cell?, this]
   rw [Nat.zero_add]
   simpa using hj
  have hz := hide1 (setRow_heap w4 w0.heap.size _ #[.int .i64 5, .int .i64 0, .string ⟨#[]⟩, .slice none 0 0, .slice none 0 0] _ _ hr4)
  clear Lf 
  go_wp2_with (first
   | refine wpList_load_mid rfl 28 (.tmp 5) rfl (w0.heap.size + 1) 0 rfl [.int .i64 5, .int .i64 0, .string ⟨#[]⟩, .slice none 0 0, .slice none 0 0] _ hl5 Tryz.underlying28 rfl (by kernel_rfl) ?_
   | refine wpList_store_row rfl Vt (.tmp 4) (.tmp 36) rfl w0.heap.size #[.int .i64 5, .int .i64 0, .string ⟨#[]⟩, .slice none 0 0, .slice none 0 0] rfl rfl Vt _ hr4 (by kernel_rfl) rfl (by kernel_rfl) ?_)
  refine bodyPost_ret (results_v1 rfl _ rfl rfl hz.out) rfl ?_
  exact hf2.out
 ·have d93 : ((c1 : Int) == 125) = false := by simp; omega
  have hRl : its (pr (pv n)) 125 (B.length - p) [] (B.drop q1) = R := by
   rw [← hRw.out, decide_eq_false h93, if_neg (by simp)]
  replace hRl := hide1 hRl
  replace L3 := hide1 L3
  clear hRw htk93 hc1
  go_wp2_with fail
  go_loopw [] (fun wr => ∃ (q : Nat) (bad : Bool) (v : Value), q ≤ B.length + 3 + n ∧ Hid (Ox sl B g q bad w0 v wr) ∧ Hid (bad = true → obF R = none) ∧ Hid (bad = false → ∃ cs xs m, Ov sl B g q false w0 v cs xs wr ∧ q ≤ B.length ∧ its (pr (pv n)) 125 m xs (B.drop q) = R ∧ B.length - q ≤ m ∧ cs.length + m ≤ 5000 ∧ (xs.map (·.1)).Nodup)) (fun wr => if badOf g wr then 0 else B.length + 1 - atOf g wr)
  case atStart => exact ⟨q1, false, _, by omega, hide1 L3.out.toOx, hide1 (fun e => by cases e), hide1 (fun _ => ⟨[], [], _, L3.out, hq1B, hRl.out, by omega, (by simp only [List.length_nil]; omega), by simp⟩)⟩
  case round =>
   clear L3 hRl
   obtain ⟨q, bad, v, hq, hx, hbad, hgood⟩ := hrel
   have hbo : Hid (badOf g wr = bad) := hide1 hx.out.tg.badOf
   have hat : Hid (atOf g wr = q) := hide1 hx.out.tg.atOf
   have cb := hx.out.tg.c2
   cases bad with
   | true =>
    obtain ⟨va, vm, vk, rfl⟩ := hx.out.sh
    have hf2 : Hid (AnVr sl B g (n + 1) (obF R) w0 _ _) := hide1 (by rw [hbad.out rfl]; exact hx.out.none' (n := n + 1) ht0 (by omega))
    have Lf := hx.out
    clear hx hbad hgood hbo hat
    have hr4 := Lf.r4
    have hl5 : wr.rangeAt (w0.heap.size + 1) 0 [.int .i64 5, .int .i64 0, .string ⟨#[]⟩, .slice none 0 0, .slice va vm vk] := fun j z hj => by
     have := Lf.r5
     simp only [World.cell?, this]
     rw [Nat.zero_add]
     simpa using hj
    have hz := hide1 (setRow_heap wr w0.heap.size _ #[.int .i64 5, .int .i64 0, .string ⟨#[]⟩, .slice none 0 0, .slice va vm vk] _ _ hr4)
    clear Lf 
    go_wp2_with (first
     | refine wpList_load_mid rfl 28 (.tmp 5) rfl (w0.heap.size + 1) 0 rfl [.int .i64 5, .int .i64 0, .string ⟨#[]⟩, .slice none 0 0, .slice va vm vk] _ hl5 Tryz.underlying28 rfl (by kernel_rfl) ?_
     | refine wpList_store_row rfl Vt (.tmp 4) (.tmp 95) rfl w0.heap.size #[.int .i64 5, .int .i64 0, .string ⟨#[]⟩, .slice none 0 0, .slice va vm vk] rfl rfl Vt _ hr4 (by kernel_rfl) rfl (by kernel_rfl) ?_)
    refine bodyPost_ret (results_v1 rfl _ rfl rfl hz.out) rfl ?_
    exact hf2.out
   | false =>
    obtain ⟨cs, xs, m, L, hqB, hits, hqm, hcm, hnd⟩ := hgood.out rfl
    replace hits := hide1 hits
    replace hnd := hide1 hnd
    clear hx hbad hgood
    have hbl := blanks_t L.tg (by omega) hB
    go_wp2_with fail
    refine hbl.mono ?_
    rintro e w1 ⟨rfl, q1', t1, k1, hs1, hpq1, hq1'⟩
    have hq1B' : q1' ≤ B.length := by omega
    have hqt := quoted_t t1 hq1B' hB
    obtain ⟨oq, hoq⟩ : ∃ o, Hid (qt (sk (B.drop q)) = o) := ⟨_, hide1 rfl⟩
    rw [hs1, hoq.out] at hqt
    have L1 := hide1 (L.step hg0 k1 t1)
    clear hbl t1 k1 L cb hs1
    go_wp2_with fail
    refine hqt.mono ?_
    rintro e w2 ⟨x, q2, rfl, t2, k2, hq2, hxv⟩
    have L2 := L1.out.step hg0 k2 t2
    clear hqt L1 t2 k2
    obtain ⟨w3, hw3⟩ : ∃ w3, w3 = w2.alloc (.cells #[.string (st x), .int .i64 0, .int .i64 0, .string ⟨#[]⟩, .slice none 0 0, .slice none 0 0] 49) := ⟨_, rfl⟩
    have b3 : Below w2.heap.size w2 w3 := by rw [hw3]; exact below_al _
    have p3 : w3.heap[w2.heap.size]? = some (.cells #[.string (st x), .int .i64 0, .int .i64 0, .string ⟨#[]⟩, .slice none 0 0, .slice none 0 0] 49 (0, 0)) := by rw [hw3]; exact new_at w2 _ _
    have hs6 : Hid (w0.heap.size + 2 ≤ w2.heap.size) := hide1 L2.sz
    have hM := hide1 L2
    have kc3 := hide1 (Kg.of (g := g) b3)
    obtain ⟨s6, hse⟩ : ∃ s6, Hid (w2.heap.size = s6) := ⟨_, hide1 rfl⟩
    rw [hse.out] at p3 hs6
    have L3 := L2.step hg0 (Kg.of b3) (L2.tg.later b3)
    have hbl := blanks_t L3.tg (by omega) hB
    replace L3 := hide1 L3
    replace p3 := hide1 p3
    clear L2 b3
    go_upto_region 13 with fail
    rw [← hw3]
    rw [hse.out]
    clear hw3
    go_wp2_with fail
    refine hbl.mono ?_
    rintro e w4 ⟨rfl, q3, t4, k4, hs4, hpq3, hq3⟩
    have L4 := hide1 (L3.out.step hg0 k4 t4)
    have kc4 := hide1 (kc3.out.trans k4)
    have p4 := hide1 ((k4.block s6 (Array.getElem?_eq_some_iff.1 p3.out).1 (by have := hs6.out; omega)).trans p3.out)
    have hwd := word_t (s := [58]) t4 (by omega) hB (by decide) (by decide)
    replace hwd : Calls Tryz.prog 48 #[.pointer (some ⟨g, 0, none⟩), .string ⟨#[58]⟩] w4 _ := hwd
    obtain ⟨zc, hzc⟩ : ∃ z, Hid (hp [58] (B.drop q3) = z) := ⟨_, hide1 rfl⟩
    unfold AnWd at hwd
    rw [hzc.out] at hwd
    obtain ⟨b5, hb5⟩ : ∃ b, Hid ((oq.isNone || !zc) = b) := ⟨_, hide1 rfl⟩
    obtain ⟨q4, hq4⟩ : ∃ q', Hid ((if zc = true then q3 + ([58] : List UInt8).length else q3) = q') := ⟨_, hide1 rfl⟩
    rw [hb5.out, hq4.out] at hwd
    have hq4b : q4 ≤ B.length + 2 := by
     rw [← hq4.out]
     split
     ·rename_i hz
      have h1 := hzc.out
      rw [hz] at h1
      obtain ⟨mm, e⟩ := hp_one.1 h1
      have := (drop_lt e).1
      simp; omega
     ·omega
    clear hbl t4 k4 L3 p3
    go_wp2_with fail
    refine hwd.mono ?_
    rintro e w5 ⟨rfl, t5, k5⟩
    have L5 := L4.out.step hg0 k5 t5
    have kc5 := hide1 (kc4.out.trans k5)
    have p5 := hide1 ((k5.block s6 (Array.getElem?_eq_some_iff.1 p4.out).1 (by have := hs6.out; omega)).trans p4.out)
    have hgt := get_r (nm := x) (by have := L5.el; omega) L5.val
    obtain ⟨va, vm, vk, rfl⟩ := L5.sh
    replace hgt : Calls Tryz.prog 89 #[.agg #[.int .i64 5, .int .i64 0, .string ⟨#[]⟩, .slice none 0 0, .slice va vm vk], .string (st x)] w5 _ := hgt
    have hl5 : w5.rangeAt (w0.heap.size + 1) 0 [.int .i64 5, .int .i64 0, .string ⟨#[]⟩, .slice none 0 0, .slice va vm vk] := fun j z hj => by
     have := L5.r5
     simp only [World.cell?, this]
     rw [Nat.zero_add]
     simpa using hj
    have pn : w5.cell? ⟨s6, 0, none⟩ = some (.string (st x)) := by simp [World.cell?, p5.out]
    replace L5 := hide1 L5
    clear hwd t5 k5 L4 p4
    go_wp2_with (refine wpList_load_mid rfl 28 (.tmp 5) rfl (w0.heap.size + 1) 0 rfl [.int .i64 5, .int .i64 0, .string ⟨#[]⟩, .slice none 0 0, .slice va vm vk] _ hl5 Tryz.underlying28 rfl (by kernel_rfl) ?_)
    refine hgt.mono ?_
    rintro e w6 ⟨cg, rfl, b6, hcg⟩
    have L6 := L5.out.step hg0 (Kg.of b6) (L5.out.tg.later b6)
    have p6 := (b6.block s6 (Array.getElem?_eq_some_iff.1 p5.out).1).trans p5.out
    have hcg5 : cg.size = 5 ∧ cg.all (·.oneCell') = true := by
     rcases hcg with ⟨t, _, hv⟩ | ⟨_, rfl⟩
     ·exact ⟨by have := hv.len; simpa using this, by have := hv.one; simpa using this⟩
     ·exact ⟨rfl, by kernel_rfl⟩
    obtain ⟨w7, hw7⟩ : ∃ w7, w7 = (w6.alloc (.cells #[.int .i64 0, .int .i64 0, .string ⟨#[]⟩, .slice none 0 0, .slice none 0 0] 28)).setRow w6.heap.size cg := ⟨_, rfl⟩
    have n7 : (w6.alloc (.cells #[.int .i64 0, .int .i64 0, .string ⟨#[]⟩, .slice none 0 0, .slice none 0 0] 28)).heap[w6.heap.size]? = some (.cells #[.int .i64 0, .int .i64 0, .string ⟨#[]⟩, .slice none 0 0, .slice none 0 0] 28 (0, 0)) := new_at w6 _ _
    have b7 : Below w6.heap.size w6 w7 := by rw [hw7]; exact blw_own (below_al _) (Nat.le_refl _) _
    have kc7 := hide1 ((kc5.out.trans (Kg.of b6)).trans (Kg.of b7))
    have L7 := hide1 (L6.step hg0 (Kg.of b7) (L6.tg.later b7))
    have p7 := hide1 ((b7.block s6 (Array.getElem?_eq_some_iff.1 p6).1).trans p6)
    obtain ⟨fd, hfd⟩ : ∃ f, Hid ((getP 5 xs x).isSome = f) := ⟨_, hide1 rfl⟩
    rw [hfd.out]
    have hRn : Hid (b5 = true ∨ fd = true → obF R = none) := hide1 (by
     intro hor
     rw [← hits.out]
     cases hb : b5 with
     | true =>
      have hpr : pr (pv n) (B.drop q) = none := by
       unfold pr
       rw [hoq.out]
       cases oq with
       | none => rfl
       | some sr =>
        obtain ⟨s, r⟩ := sr
        have e1 := hb5.out
        rw [hb] at e1
        obtain ⟨_, e3, _⟩ := hxv s r rfl
        rw [e3] at hs4
        have e2 : zc = false := by simpa using e1
        have e4 := hzc.out
        rw [hs4, e2] at e4
        simp only [e4]
        rfl
      rw [its_non hpr]
      rfl
     | false =>
      have hf : fd = true := hor.resolve_left (by rw [hb]; simp)
      cases hi : its (pr (pv n)) 125 m xs (B.drop q) with
      | none => rfl
      | some yr =>
       obtain ⟨ys, r⟩ := yr
       obtain ⟨y, r', zs, h1, rfl⟩ := its_pre hi
       have hy : y.1 = x := by
        unfold pr at h1
        rw [hoq.out] at h1
        cases oq with
        | none => cases h1
        | some sr =>
         obtain ⟨s, r2⟩ := sr
         obtain ⟨e1, _, _⟩ := hxv s r2 rfl
         simp only at h1
         split at h1
         ·split at h1
          ·cases h1
          ·cases h1; exact e1.symm
         ·cases h1
       have hin : x ∈ xs.map (·.1) := by
        have e2 := hfd.out
        rw [hf] at e2
        unfold getP at e2
        rw [if_pos rfl] at e2
        cases hfnd : xs.find? (fun q => q.1 == x) with
        | none => rw [hfnd] at e2; cases e2
        | some y2 =>
         have h3 := List.find?_some hfnd
         have h4 := List.mem_of_find?_eq_some hfnd
         have h5 : y2.1 = x := by simpa using h3
         rw [← h5]
         exact List.mem_map_of_mem h4
       refine obF_dup ?_
       intro hn
       rw [List.map_append, List.map_cons, hy] at hn
       have := (List.nodup_append.1 hn).2.2 x hin x (by simp)
       exact this rfl)
    clear hgt b6 L5 p5 L6 p6 hcg hl5 pn kc3 kc4 kc5
    go_upto_region 16 with (refine wpList_store_row rfl Vt (.tmp 7) (.tmp 56) rfl w6.heap.size cg rfl rfl Vt _ n7 (by rw [hcg5.1]; kernel_rfl) (by rw [hcg5.1]; rfl) hcg5.2 ?_)
    rw [← hw7]
    clear n7 b7 hcg5 hw7
    cases fd with
    | true =>
     have e1 := L7.out.tg.c2
     have e2 := L7.out.tg.fr 2
     have x8 := hide1 (L7.out.toOx.step hg0 (L7.out.tg.set2 true).2 (L7.out.tg.set2 true).1)
     clear L7 p7 kc7 hM
     go_upto_region 18 with fail
     generalize w7.setCell ⟨g, 2, none⟩ (.bool true) = w8 at *
     clear e1 e2
     have e3 := x8.out.tg.c2
     have hf2 : Hid (AnVr sl B g (n + 1) (obF R) w0 _ _) := hide1 (by rw [hRn.out (.inr rfl)]; exact x8.out.none' (n := n + 1) ht0 (by omega))
     have Lf := x8.out
     clear x8 hRn hits hbo hat hnd
     go_upto_region 28 with fail
     clear e3
     have hr4 := Lf.r4
     have hl5 : w8.rangeAt (w0.heap.size + 1) 0 [.int .i64 5, .int .i64 0, .string ⟨#[]⟩, .slice none 0 0, .slice va vm vk] := fun j z hj => by
      have := Lf.r5
      simp only [World.cell?, this]
      rw [Nat.zero_add]
      simpa using hj
     have hz := hide1 (setRow_heap w8 w0.heap.size _ #[.int .i64 5, .int .i64 0, .string ⟨#[]⟩, .slice none 0 0, .slice va vm vk] _ _ hr4)
     clear Lf 
     go_wp2_with (first
      | refine wpList_load_mid rfl 28 (.tmp 5) rfl (w0.heap.size + 1) 0 rfl [.int .i64 5, .int .i64 0, .string ⟨#[]⟩, .slice none 0 0, .slice va vm vk] _ hl5 Tryz.underlying28 rfl (by kernel_rfl) ?_
      | refine wpList_store_row rfl Vt (.tmp 4) (.tmp 95) rfl w0.heap.size #[.int .i64 5, .int .i64 0, .string ⟨#[]⟩, .slice none 0 0, .slice va vm vk] rfl rfl Vt _ hr4 (by kernel_rfl) rfl (by kernel_rfl) ?_)
     refine bodyPost_ret (results_v1 rfl _ rfl rfl hz.out) rfl ?_
     exact hf2.out
    | false =>
     have e3 := L7.out.tg.c2
     cases b5 with
     | true =>
      have hf2 : Hid (AnVr sl B g (n + 1) (obF R) w0 _ _) := hide1 (by rw [hRn.out (.inl rfl)]; exact L7.out.toOx.none' (n := n + 1) ht0 (by omega))
      have Lf := L7.out.toOx
      clear L7 p7 kc7 hM hRn hits hbo hat hnd
      go_upto_region 28 with fail
      clear e3
      have hr4 := Lf.r4
      have hl5 : w7.rangeAt (w0.heap.size + 1) 0 [.int .i64 5, .int .i64 0, .string ⟨#[]⟩, .slice none 0 0, .slice va vm vk] := fun j z hj => by
       have := Lf.r5
       simp only [World.cell?, this]
       rw [Nat.zero_add]
       simpa using hj
      have hz := hide1 (setRow_heap w7 w0.heap.size _ #[.int .i64 5, .int .i64 0, .string ⟨#[]⟩, .slice none 0 0, .slice va vm vk] _ _ hr4)
      clear Lf 
      go_wp2_with (first
       | refine wpList_load_mid rfl 28 (.tmp 5) rfl (w0.heap.size + 1) 0 rfl [.int .i64 5, .int .i64 0, .string ⟨#[]⟩, .slice none 0 0, .slice va vm vk] _ hl5 Tryz.underlying28 rfl (by kernel_rfl) ?_
       | refine wpList_store_row rfl Vt (.tmp 4) (.tmp 95) rfl w0.heap.size #[.int .i64 5, .int .i64 0, .string ⟨#[]⟩, .slice none 0 0, .slice va vm vk] rfl rfl Vt _ hr4 (by kernel_rfl) rfl (by kernel_rfl) ?_)
      refine bodyPost_ret (results_v1 rfl _ rfl rfl hz.out) rfl ?_
      exact hf2.out
     | false =>
      have hzt : zc = true := by
       have := hb5.out
       cases zc with
       | true => rfl
       | false => simp at this
      subst hzt
      obtain ⟨sr, hsr⟩ : ∃ sr, oq = some sr := by
       cases oq with
       | none => have := hb5.out; simp at this
       | some sr => exact ⟨sr, rfl⟩
      subst hsr
      obtain ⟨s, r⟩ := sr
      obtain ⟨hxs, hdr, hq2B⟩ := hxv s r rfl
      subst hxs
      rw [hdr] at hs4
      have hq4e : q4 = q3 + 1 := by rw [← hq4.out]; rfl
      subst hq4e
      obtain ⟨mm, emm⟩ := hp_one.1 hzc.out
      have hq3l := (drop_lt emm).1
      have h58 : nx B q3 = 58 := nx_drop emm
      have htk58 := tk_nx (B := B) (p := q3) (c := 58) h58 (by decide)
      obtain ⟨o2, ho2⟩ : ∃ o2, Hid (pv n (B.drop (q3 + 1)) = o2) := ⟨_, hide1 rfl⟩
      have hprv : Hid (pr (pv n) (B.drop q) = o2.map fun tq => ((x, tq.1), tq.2)) := hide1 (by
       unfold pr
       rw [hoq.out]
       simp only
       have hz := hzc.out
       rw [hs4] at hz htk58
       rw [if_pos hz, htk58, ho2.out]
       cases o2 <;> rfl)
      have hqq3 : Hid (q ≤ q3) := hide1 (by
       have h1 := qt_le hoq.out
       have h2 := sk_le (B.drop q)
       rw [← hdr, List.length_drop] at h1
       rw [List.length_drop] at h2
       omega)
      have hvl := ih L7.out.tg (by omega)
      rw [ho2.out, ← hd.out] at hvl
      have hnin : Hid (x ∉ xs.map (·.1)) := hide1 (by
       intro hin
       obtain ⟨y, hy, hyx⟩ := List.mem_map.1 hin
       have e2 := hfd.out
       unfold getP at e2
       rw [if_pos rfl] at e2
       cases hfnd : xs.find? (fun q => q.1 == x) with
       | some y2 => rw [hfnd] at e2; cases e2
       | none =>
        have := List.find?_eq_none.1 hfnd y hy
        exact this (by simp [hyx]))
      replace hs4 := hide1 hs4
      replace hdr := hide1 hdr
      clear hRn hfd hoq hxv hb5 hzc emm h58 htk58 hq4
      go_wp2_with fail
      refine hvl.mono ?_
      rintro e w8 ⟨c, q5, rfl, hc5, hone, t8, k8, hq5, hv8⟩
      have p8 := (k8.block s6 (Array.getElem?_eq_some_iff.1 p7.out).1 (by have := hs6.out; omega)).trans p7.out
      have hs67 : Hid (s6 < w7.heap.size) := hide1 (Array.getElem?_eq_some_iff.1 p7.out).1
      obtain ⟨c0, c1', c2', c3', c4', hce⟩ := five_l (l := c.toList) (by simpa using hc5)
      obtain rfl : c = #[c0, c1', c2', c3', c4'] := by cases c; simp at hce; simp [hce]
      obtain ⟨w9, hw9⟩ : ∃ w9, w9 = w8.setRow s6 #[.string (st x), c0, c1', c2', c3', c4'] := ⟨_, rfl⟩
      have p9 : w9.heap[s6]? = some (.cells #[.string (st x), c0, c1', c2', c3', c4'] 49 (0, 0)) := by rw [hw9]; exact setRow_heap w8 s6 _ _ _ _ p8
      have kc9 : Kg g w2 w9 := by rw [hw9]; exact (kc7.out.trans k8).own (by have := hse.out; omega) _
      have o9 : ∀ k, k ≠ s6 → w9.heap[k]? = w8.heap[k]? := fun k hk => by rw [hw9]; exact setRow_other w8 s6 k _ hk
      have z9 : w9.heap.size = w8.heap.size := by rw [hw9]; simp [World.setRow]
      have t9 : Tg sl B g q5 o2.isNone w9 := Tg.of ht0 (hM.out.kg.trans kc9) ((o9 g (by have := hs6.out; omega)).trans t8.box)
      have hv9 : ∀ t r, o2 = some (t, r) → VA (w7.heap.size ≤ ·) w9 t [c0, c1', c2', c3', c4'] ∧ B.drop q5 = r ∧ q5 ≤ B.length := fun t r e => ⟨(hv8 t r e).1.frame (fun k hk _ => o9 k (by have h1 : w7.heap.size ≤ k := hk; have := hs67.out; omega)) (fun _ h _ => h), (hv8 t r e).2⟩
      have L9 := hM.out.step hg0 kc9 t9
      have c4 : w9.cell? ⟨w0.heap.size + 1, 4, none⟩ = some (.slice va vm vk) := by simp [World.cell?, L9.r5]
      have hr6 : w9.rangeAt s6 0 [.string (st x), c0, c1', c2', c3', c4'] := fun j z hj => by
       simp only [World.cell?, p9]
       rw [Nat.zero_add]
       simpa using hj
      have hone6 : (#[.string (st x), c0, c1', c2', c3', c4'] : Array Value).all (·.oneCell') = true := by
       simp at hone ⊢
       exact ⟨rfl, hone⟩
      have b10 := below_al (w := w9) (.cells #[.string (st x), c0, c1', c2', c3', c4'] 49)
      have n10 := new_at w9 #[.string (st x), c0, c1', c2', c3', c4'] 49
      have L10 := L9.step hg0 (Kg.of b10) (t9.later b10)
      have hap := fun tr => app_O tr ht0 L10 rfl hone6 n10 (by omega)
      replace hap := hide1 hap
      have hVA : Hid (∀ t r, o2 = some (t, r) → VA (fun k => w0.heap.size + 2 ≤ k ∧ some k ≠ (Value.slice va vm vk).ownBlock) (w9.alloc (.cells #[.string (st x), c0, c1', c2', c3', c4'] 49)) t [c0, c1', c2', c3', c4']) := hide1 fun t r e => by
       refine (hv9 t r e).1.frame (fun k _ hk => b10.block k hk) (fun k hk _ => ⟨?_, fun e2 => ?_⟩)
       ·have h1 : w7.heap.size ≤ k := hk
        have := hs6.out; have := hs67.out; omega
       ·have h1 : w7.heap.size ≤ k := hk
        have h2 := (hM.out.row.lt k e2.symm).2
        have := hse.out; have := hs67.out; omega
      have hvr : Hid (∀ t r, o2 = some (t, r) → B.drop q5 = r ∧ q5 ≤ B.length) := hide1 fun t r e => (hv9 t r e).2
      replace L10 := hide1 L10
      clear hvl t8 k8 hv8 kc9 t9 hv9 L9 b10 n10 hone6 L7 p7 kc7 hce e3 o9 z9 p9
      go_upto_region 20 with (refine wpList_stV rfl (.tmp 69) (.tmp 68) rfl s6 1 rfl rfl p8 rfl (by simp) hone #[.string (st x), c0, c1', c2', c3', c4'] rfl ?_)
      rw [← hw9]
      clear hw9 p8 hone
      go_upto_region 21 with (first
       | refine wpList_load_mid rfl 49 (.tmp 6) rfl s6 0 rfl [.string (st x), c0, c1', c2', c3', c4'] _ hr6 Tryz.underlying49 rfl (by kernel_rfl) ?_
       | (refine wpList_bsP rfl (.tmp 72) rfl rfl ?_)
       | (
         at_builtin; refine wpList_appP rfl (.tmp 71) (.tmp 73) rfl (.slice va vm vk) (.slice (some ⟨w9.heap.size, 0, none⟩) 1 1) rfl rfl (hap.out _) ?_
         intro v11 w11 hm
         obtain ⟨ma, mm, mk, rfl⟩ := hm.1
         obtain ⟨c44, f44, hx12⟩ := sto_O (nm := x) ht0 hm L10.out rfl rfl
         replace hx12 := hide1 hx12
         clear hm
         refine stopAtP ?_))
      refine hide1 ?_
      go_wp2_with fail
      generalize w11.setCell ⟨w0.heap.size + 1, 4, none⟩ (.slice ma mm mk) = w12 at *
      obtain ⟨x12, h12⟩ := hx12.out
      obtain ⟨v11, hv11⟩ : ∃ v, Hid (v = Value.slice ma mm mk) := ⟨_, hide1 rfl⟩
      rw [← hv11.out] at x12 h12
      clear hx12 c44 f44 c4 hr6
      have hbl := blanks_t x12.tg (by omega) hB
      refine hbl.mono ?_
      rintro e w13 ⟨rfl, q6, t3, k3, hsk3, hpq6, hq6⟩
      have hnx := next_t t3
      obtain ⟨c2, hc2⟩ : ∃ c, Hid (nx B q6 = c) := ⟨_, hide1 rfl⟩
      rw [hc2.out] at hnx
      have hcl2 : c2 < 256 := by rw [← hc2.out]; exact nx_lt B q6
      go_wp2_with fail
      refine hnx.mono ?_
      rintro e w14 ⟨rfl, b14⟩
      have k6 : Kg g w12 w14 := k3.trans (Kg.of b14)
      have t6 := t3.later b14
      have cc := t6.c1
      have cf := t6.fr 1
      have k7 := k6.trans t6.set1p.2
      have t7 := t6.set1p.1
      have x15 := x12.step hg0 k7 t7
      clear hbl hnx t3 k3 b14 t6 k6 x12
      replace k7 := hide1 k7
      replace t7 := hide1 t7
      replace x15 := hide1 x15
      replace h12 := hide1 h12
      go_upto_region 24 with fail
      generalize w14.setCell ⟨g, 1, none⟩ (.int .i64 (((q6 : Nat) : Int) + 1)) = w15 at *
      clear cc cf
      cases o2 with
      | none =>
       have hRn : Hid (obF R = none) := hide1 (by rw [← hits.out, its_non (by rw [hprv.out]; rfl)]; rfl)
       have x8 : Ox sl B g (q6 + 1) true w0 v11 w15 := x15.out
       by_cases g93 : c2 = 125
       ·subst g93
        obtain ⟨va, vm, vk, rfl⟩ := x8.sh
        have hf2 : Hid (AnVr sl B g (n + 1) (obF R) w0 _ _) := hide1 (by rw [hRn.out]; exact x8.none' (n := n + 1) ht0 (by omega))
        have Lf := x8
        clear x15 x8 hRn hits h12 t7 k7 hbo hat
        have hr4 := Lf.r4
        have hl5 : w15.rangeAt (w0.heap.size + 1) 0 [.int .i64 5, .int .i64 0, .string ⟨#[]⟩, .slice none 0 0, .slice va vm vk] := fun j z hj => by
         have := Lf.r5
         simp only [World.cell?, this]
         rw [Nat.zero_add]
         simpa using hj
        have hz := hide1 (setRow_heap w15 w0.heap.size _ #[.int .i64 5, .int .i64 0, .string ⟨#[]⟩, .slice none 0 0, .slice va vm vk] _ _ hr4)
        clear Lf 
        go_wp2_with (first
         | refine wpList_load_mid rfl 28 (.tmp 5) rfl (w0.heap.size + 1) 0 rfl [.int .i64 5, .int .i64 0, .string ⟨#[]⟩, .slice none 0 0, .slice va vm vk] _ hl5 Tryz.underlying28 rfl (by kernel_rfl) ?_
         | refine wpList_store_row rfl Vt (.tmp 4) (.tmp 89) rfl w0.heap.size #[.int .i64 5, .int .i64 0, .string ⟨#[]⟩, .slice none 0 0, .slice va vm vk] rfl rfl Vt _ hr4 (by kernel_rfl) rfl (by kernel_rfl) ?_)
        refine bodyPost_ret (results_v1 rfl _ rfl rfl hz.out) rfl ?_
        exact hf2.out
       have d93 : ((c2 : Int) == 125) = false := by simp; omega
       by_cases g44 : c2 = 44
       ·subst g44
        replace x8 := hide1 x8
        clear x15 hits h12 t7 k7
        go_wp2
        go_roundw
        case rel => exact ⟨q6 + 1, true, v11, by omega, x8, hide1 (fun _ => hRn.out), hide1 (fun e => by cases e)⟩
        case measure =>
         rw [x8.out.tg.badOf, hbo.out, hat.out]
         simp only [if_true, Bool.false_eq_true, if_false]; omega
       ·have d44 : ((c2 : Int) != 44) = true := by simp; omega
        have e1 := x8.tg.c2
        have e2 := x8.tg.fr 2
        have x9 := hide1 (x8.step hg0 (x8.tg.set2 true).2 (x8.tg.set2 true).1)
        clear x15 x8 hits h12 t7 k7
        go_wp2
        go_roundw
        case rel => exact ⟨q6 + 1, true, v11, by omega, x9, hide1 (fun _ => hRn.out), hide1 (fun e => by cases e)⟩
        case measure =>
         rw [x9.out.tg.badOf, hbo.out, hat.out]
         simp only [if_true, Bool.false_eq_true, if_false]; omega
      | some xr =>
       obtain ⟨t, r5⟩ := xr
       obtain ⟨hdr5, hq5B⟩ := hvr.out t r5 rfl
       have hLv : Ov sl B g q5 false w0 v11 (cs ++ [[.string (st x), c0, c1', c2', c3', c4']]) (xs ++ [(x, t)]) w12 := h12.out t (hVA.out t r5 rfl)
       have hv8 := hLv.step hg0 k7.out t7.out
       have hle := pv_le n (B.drop (q3 + 1)) t r5 ho2.out
       rw [← hdr5, List.length_drop, List.length_drop] at hle
       have hq6B : q6 ≤ B.length := by omega
       rw [hdr5] at hsk3
       have hqq : q ≤ q6 := by have := hqq3.out; omega
       have hpv : pr (pv n) (B.drop q) = some ((x, t), r5) := by rw [hprv.out]; rfl
       have hnd2 : ((xs ++ [(x, t)]).map (·.1)).Nodup := by
        rw [List.map_append, List.map_cons, List.map_nil, List.nodup_append]
        refine ⟨hnd.out, by simp, fun y hy z hz => ?_⟩
        rw [List.mem_singleton] at hz
        rw [hz]
        intro e
        exact hnin.out (by have e' : y = x := e; rw [← e']; exact hy)
       replace hnd2 := hide1 hnd2
       have h93 := hp_nx (B := B) (p := q6) (c := 125) (by decide)
       have h44 := hp_nx (B := B) (p := q6) (c := 44) (by decide)
       rw [hsk3, hc2.out, show (125 : UInt8).toNat = 125 from rfl] at h93
       rw [hsk3, hc2.out, show (44 : UInt8).toNat = 44 from rfl] at h44
       have tk93 := fun e => tk_nx (B := B) (p := q6) (c := 125) e (by decide)
       have tk44 := fun e => tk_nx (B := B) (p := q6) (c := 44) e (by decide)
       rw [hsk3] at tk93 tk44
       clear h12 hLv hnin hprv
       by_cases g93 : c2 = 125
       ·have hRs : R = some (xs ++ [(x, t)], B.drop (q6 + 1)) := by
         rw [← hits.out, its_end hpv (by rw [h93]; exact decide_eq_true g93), tk93 (by rw [hc2.out]; exact g93)]
        have hlt : q6 < B.length := (nx_pos hc2.out (by omega)).choose_spec.choose_spec.2.2
        subst g93
        obtain ⟨va, vm, vk, rfl⟩ := hv8.sh
        have hf2 : Hid (AnVr sl B g (n + 1) (obF R) w0 _ _) := hide1 (by rw [hRs, obF_some hnd2.out]; exact hv8.some' (n := n + 1) ht0 (by omega))
        have Lf := hv8.toOx
        clear x15 hv8 hRs hits t7 k7 hbo hat h93 h44 tk93 tk44
        have hr4 := Lf.r4
        have hl5 : w15.rangeAt (w0.heap.size + 1) 0 [.int .i64 5, .int .i64 0, .string ⟨#[]⟩, .slice none 0 0, .slice va vm vk] := fun j z hj => by
         have := Lf.r5
         simp only [World.cell?, this]
         rw [Nat.zero_add]
         simpa using hj
        have hz := hide1 (setRow_heap w15 w0.heap.size _ #[.int .i64 5, .int .i64 0, .string ⟨#[]⟩, .slice none 0 0, .slice va vm vk] _ _ hr4)
        clear Lf 
        go_wp2_with (first
         | refine wpList_load_mid rfl 28 (.tmp 5) rfl (w0.heap.size + 1) 0 rfl [.int .i64 5, .int .i64 0, .string ⟨#[]⟩, .slice none 0 0, .slice va vm vk] _ hl5 Tryz.underlying28 rfl (by kernel_rfl) ?_
         | refine wpList_store_row rfl Vt (.tmp 4) (.tmp 89) rfl w0.heap.size #[.int .i64 5, .int .i64 0, .string ⟨#[]⟩, .slice none 0 0, .slice va vm vk] rfl rfl Vt _ hr4 (by kernel_rfl) rfl (by kernel_rfl) ?_)
        refine bodyPost_ret (results_v1 rfl _ rfl rfl hz.out) rfl ?_
        exact hf2.out
       have d93 : ((c2 : Int) == 125) = false := by simp; omega
       rw [decide_eq_false g93] at h93
       by_cases g44 : c2 = 44
       ·have hlt : q6 < B.length := (nx_pos hc2.out (by omega)).choose_spec.choose_spec.2.2
        obtain ⟨m', hm'⟩ : ∃ m', m = m' + 1 := ⟨m - 1, by omega⟩
        subst hm'
        have hRg : Hid (its (pr (pv n)) 125 m' (xs ++ [(x, t)]) (B.drop (q6 + 1)) = R) := hide1 (by
         rw [← hits.out, its_go hpv h93 (by rw [h44]; exact decide_eq_true g44), tk44 (by rw [hc2.out]; exact g44)])
        have hmz := hide1 (show B.length + 1 - (q6 + 1) < B.length + 1 - q by omega)
        subst g44
        replace hv8 := hide1 hv8
        clear x15 hits t7 k7 h93 h44 tk93 tk44
        go_wp2
        go_roundw
        case rel => exact ⟨q6 + 1, false, v11, by omega, hide1 hv8.out.toOx, hide1 (fun e => by cases e), hide1 (fun _ => ⟨_, _, m', hv8.out, by omega, hRg.out, by omega, (by simp only [List.length_append, List.length_singleton]; omega), hnd2.out⟩)⟩
        case measure =>
         rw [hv8.out.tg.badOf, hv8.out.tg.atOf, hbo.out, hat.out]
         simp only [Bool.false_eq_true, if_false]; exact hmz.out
       ·have d44 : ((c2 : Int) != 44) = true := by simp; omega
        have hRn : Hid (obF R = none) := hide1 (by rw [← hits.out, its_bad hpv h93 (by rw [h44]; exact decide_eq_false g44)]; rfl)
        have e1 := hv8.tg.c2
        have e2 := hv8.tg.fr 2
        have x9 := hide1 (hv8.toOx.step hg0 (hv8.tg.set2 true).2 (hv8.tg.set2 true).1)
        clear x15 hv8 hits t7 k7 h93 h44 tk93 tk44
        go_wp2
        go_roundw
        case rel => exact ⟨q6 + 1, true, v11, by omega, x9, hide1 (fun _ => hRn.out), hide1 (fun e => by cases e)⟩
        case measure =>
         rw [x9.out.tg.badOf, hbo.out, hat.out]
         simp only [if_true, Bool.false_eq_true, if_false]; omega
end
section
variable {sl : Value} {B : List UInt8} {g p q q' n s6 : Nat} {bad bad' : Bool} {w w' w0 W W' : World} {o : Option (T × List UInt8)} {c c' : Array Value}
structure Vx (sl : Value) (B : List UInt8) (g q : Nat) (bad : Bool) (w0 : World) (s6 : Nat) (c : Array Value) (W : World) : Prop where
 tg : Tg sl B g q bad W
 kg : Kg g w0 W
 r4 : W.heap[w0.heap.size]? = some (.cells zV 28 (0, 0))
 r6 : W.heap[s6]? = some (.cells c 28 (0, 0))
 lt : w0.heap.size < s6
theorem Vx.step (h : Vx sl B g q bad w0 s6 c W) (hg : g < w0.heap.size) (k : Kg g W W') (t : Tg sl B g q' bad' W') : Vx sl B g q' bad' w0 s6 c W' := by
 have h1 := h.lt
 exact ⟨t, h.kg.trans k, (k.block _ (Array.getElem?_eq_some_iff.1 h.r4).1 (by omega)).trans h.r4, (k.block _ (Array.getElem?_eq_some_iff.1 h.r6).1 (by omega)).trans h.r6, h1⟩
theorem Vx.put (ht0 : Tg sl B g p false w0) (h : Vx sl B g q bad w0 s6 c W) (c' : Array Value) : Vx sl B g q bad w0 s6 c' (W.setRow s6 c') := by
 have h1 := h.lt
 have hg := ht0.lt
 have kk := h.kg.own (b := s6) (by omega) c'
 exact ⟨Tg.of ht0 kk ((setRow_other W _ g _ (by omega)).trans h.tg.box), kk, (setRow_other W _ _ _ (by omega)).trans h.r4, setRow_heap W s6 _ _ _ _ h.r6, h1⟩
theorem Vx.end' (ht0 : Tg sl B g p false w0) (h : Vx sl B g q o.isNone w0 s6 c W) (hc : c.size = 5) (h1 : c.all (·.oneCell') = true) (hq : q ≤ B.length + 2 + n) (hF : ∀ t r, o = some (t, r) → VA (fun k => w0.heap.size < k) W t c.toList ∧ B.drop q = r ∧ q ≤ B.length) : AnVr sl B g n o w0 (.returned (.agg c)) (W.setRow w0.heap.size c) := by
 have hg0 := ht0.lt
 have kk := h.kg.own (Nat.le_refl _) c
 exact ⟨c, q, rfl, hc, h1, Tg.of ht0 kk ((setRow_other W _ g _ (by omega)).trans h.tg.box), kk, hq, fun t r e => ⟨(hF t r e).1.frame (fun k hk _ => setRow_other W _ k _ (by have : w0.heap.size < k := hk; omega)) (fun k hk _ => by show w0.heap.size ≤ k; have : w0.heap.size < k := hk; omega), (hF t r e).2⟩⟩
theorem pv_nx (h : B.drop q = sk (B.drop p)) : pv n (B.drop p) = if nx B q = 110 then (if hp [110, 117, 108, 108] (B.drop q) then some (.mk 0 0 [] [] [], tk [110, 117, 108, 108] (B.drop q)) else none)
   else if nx B q = 116 then (if hp [116, 114, 117, 101] (B.drop q) then some (.mk 1 1 [] [] [], tk [116, 114, 117, 101] (B.drop q)) else none)
   else if nx B q = 102 then (if hp [102, 97, 108, 115, 101] (B.drop q) then some (.mk 1 0 [] [] [], tk [102, 97, 108, 115, 101] (B.drop q)) else none)
   else if nx B q = 34 then (qt (B.drop q)).map fun x => (.mk 3 0 x.1 [] [], x.2)
   else if nx B q = 91 then (match n with
    | 0 => none
    | n + 1 => (rw' (pv n) 91 93 (B.drop q)).map fun x => (.mk 4 0 [] x.1 [], x.2))
   else if nx B q = 123 then (match n with
    | 0 => none
    | n + 1 => obF (rw' (pr (pv n)) 123 125 (B.drop q)))
   else (nm (B.drop q)).map fun x => (.mk 2 x.1 [] [] [], x.2) := by
 unfold pv
 rw [← h]
 cases e : B.drop q with
 | nil =>
  have h0 : B.length ≤ q := by
   have := congrArg List.length e
   rw [List.length_drop] at this
   simp at this
   omega
  rw [nx_no h0]
  rfl
 | cons b m =>
  rw [nx_drop e]
  simp only
  split
  ·rfl
  ·split
   ·rfl
   ·split
    ·rfl
    ·split
     ·cases qt (b :: m) <;> rfl
     ·split
      ·cases n with
       | zero => rfl
       | succ n =>
        simp only
        cases rw' (pv n) 91 93 (b :: m) <;> rfl
      ·split
       ·cases n with
        | zero => rfl
        | succ n =>
         simp only
         cases rw' (pr (pv n)) 123 125 (b :: m) with
         | none => rfl
         | some x => rfl
       ·cases nm (b :: m) <;> rfl
theorem word_none {s : List UInt8} : tk s (B.drop q) = if hp s (B.drop q) = true then B.drop (q + s.length) else B.drop q := by
 unfold tk hp
 rw [List.drop_drop]
set_option maxHeartbeats 16000000 in
set_option maxRecDepth 100000 in
theorem list_over (ht0 : Tg sl B g p false w0) (hpl : p ≤ B.length) : Calls Tryz.prog 50 #[.pointer (some ⟨g, 0, none⟩), .int .i64 9] w0 (AnVr sl B g 0 none w0) := by
 have hg0 := ht0.lt
 obtain ⟨wb, hwb⟩ : ∃ wb, wb = (w0.alloc (.cells #[.int .i64 0, .int .i64 0, .string ⟨#[]⟩, .slice none 0 0, .slice none 0 0] 28)).alloc (.cells #[.int .i64 4, .int .i64 0, .string ⟨#[]⟩, .slice none 0 0, .slice none 0 0] 28) := ⟨_, rfl⟩
 have hb0 : Below w0.heap.size w0 wb := by rw [hwb]; exact (below_al _).alloc (by simp) _
 have L0 : Lx sl B g p false w0 (.slice none 0 0) wb := by
  refine ⟨ht0.later hb0, Kg.of hb0, ?_, ?_, by rw [hwb]; simp, ⟨_, _, _, rfl⟩⟩
  ·rw [hwb]
   show ((w0.heap.push _).push _)[w0.heap.size]? = _
   rw [Array.getElem?_push, if_neg (by simp), Array.getElem?_push, if_pos rfl]
   rfl
  ·rw [hwb]
   show ((w0.heap.push _).push _)[w0.heap.size + 1]? = _
   rw [Array.getElem?_push, if_pos (by simp)]
 have e1 := L0.tg.c2
 have e2 := L0.tg.fr 2
 have L1 := hide1 (L0.step hg0 (L0.tg.set2 true).2 (L0.tg.set2 true).1)
 clear L0 hb0
 go_enter Tryz.func50, Tryz.ntmps50
 go_upto_region 3 with fail
 rw [← hwb]
 clear hwb
 go_upto_region 4 with fail
 generalize wb.setCell ⟨g, 2, none⟩ (.bool true) = w1 at *
 clear e1 e2
 have hf2 : Hid (AnVr sl B g 0 none w0 (.returned (.agg #[.int .i64 4, .int .i64 0, .string ⟨#[]⟩, .slice none 0 0, .slice none 0 0])) (w1.setRow w0.heap.size #[.int .i64 4, .int .i64 0, .string ⟨#[]⟩, .slice none 0 0, .slice none 0 0])) := hide1 (L1.out.none' ht0 (by omega))
 have hr4 := L1.out.r4
 have hl5 : w1.rangeAt (w0.heap.size + 1) 0 [.int .i64 4, .int .i64 0, .string ⟨#[]⟩, .slice none 0 0, .slice none 0 0] := fun j z hj => by
  have := L1.out.r5
  simp only [World.cell?, this]
  rw [Nat.zero_add]
  simpa using hj
 have hz := hide1 (setRow_heap w1 w0.heap.size _ #[.int .i64 4, .int .i64 0, .string ⟨#[]⟩, .slice none 0 0, .slice none 0 0] _ _ hr4)
 clear L1
 go_wp2_with (first
  | refine wpList_load_mid rfl 28 (.tmp 5) rfl (w0.heap.size + 1) 0 rfl [.int .i64 4, .int .i64 0, .string ⟨#[]⟩, .slice none 0 0, .slice none 0 0] _ hl5 Tryz.underlying28 rfl (by kernel_rfl) ?_
  | refine wpList_store_row rfl Vt (.tmp 4) (.tmp 13) rfl w0.heap.size #[.int .i64 4, .int .i64 0, .string ⟨#[]⟩, .slice none 0 0, .slice none 0 0] rfl rfl Vt _ hr4 (by kernel_rfl) rfl (by kernel_rfl) ?_)
 refine bodyPost_ret (results_v1 rfl _ rfl rfl hz.out) rfl ?_
 exact hf2.out
set_option maxHeartbeats 16000000 in
set_option maxRecDepth 100000 in
theorem object_over (ht0 : Tg sl B g p false w0) (hpl : p ≤ B.length) : Calls Tryz.prog 51 #[.pointer (some ⟨g, 0, none⟩), .int .i64 9] w0 (AnVr sl B g 0 none w0) := by
 have hg0 := ht0.lt
 obtain ⟨wb, hwb⟩ : ∃ wb, wb = (w0.alloc (.cells #[.int .i64 0, .int .i64 0, .string ⟨#[]⟩, .slice none 0 0, .slice none 0 0] 28)).alloc (.cells #[.int .i64 5, .int .i64 0, .string ⟨#[]⟩, .slice none 0 0, .slice none 0 0] 28) := ⟨_, rfl⟩
 have hb0 : Below w0.heap.size w0 wb := by rw [hwb]; exact (below_al _).alloc (by simp) _
 have L0 : Ox sl B g p false w0 (.slice none 0 0) wb := by
  refine ⟨ht0.later hb0, Kg.of hb0, ?_, ?_, by rw [hwb]; simp, ⟨_, _, _, rfl⟩⟩
  ·rw [hwb]
   show ((w0.heap.push _).push _)[w0.heap.size]? = _
   rw [Array.getElem?_push, if_neg (by simp), Array.getElem?_push, if_pos rfl]
   rfl
  ·rw [hwb]
   show ((w0.heap.push _).push _)[w0.heap.size + 1]? = _
   rw [Array.getElem?_push, if_pos (by simp)]
 have e1 := L0.tg.c2
 have e2 := L0.tg.fr 2
 have L1 := hide1 (L0.step hg0 (L0.tg.set2 true).2 (L0.tg.set2 true).1)
 clear L0 hb0
 go_enter Tryz.func51, Tryz.ntmps51
 go_upto_region 3 with fail
 rw [← hwb]
 clear hwb
 go_upto_region 4 with fail
 generalize wb.setCell ⟨g, 2, none⟩ (.bool true) = w1 at *
 clear e1 e2
 have hf2 : Hid (AnVr sl B g 0 none w0 (.returned (.agg #[.int .i64 5, .int .i64 0, .string ⟨#[]⟩, .slice none 0 0, .slice none 0 0])) (w1.setRow w0.heap.size #[.int .i64 5, .int .i64 0, .string ⟨#[]⟩, .slice none 0 0, .slice none 0 0])) := hide1 (L1.out.none' ht0 (by omega))
 have hr4 := L1.out.r4
 have hl5 : w1.rangeAt (w0.heap.size + 1) 0 [.int .i64 5, .int .i64 0, .string ⟨#[]⟩, .slice none 0 0, .slice none 0 0] := fun j z hj => by
  have := L1.out.r5
  simp only [World.cell?, this]
  rw [Nat.zero_add]
  simpa using hj
 have hz := hide1 (setRow_heap w1 w0.heap.size _ #[.int .i64 5, .int .i64 0, .string ⟨#[]⟩, .slice none 0 0, .slice none 0 0] _ _ hr4)
 clear L1
 go_wp2_with (first
  | refine wpList_load_mid rfl 28 (.tmp 5) rfl (w0.heap.size + 1) 0 rfl [.int .i64 5, .int .i64 0, .string ⟨#[]⟩, .slice none 0 0, .slice none 0 0] _ hl5 Tryz.underlying28 rfl (by kernel_rfl) ?_
  | refine wpList_store_row rfl Vt (.tmp 4) (.tmp 16) rfl w0.heap.size #[.int .i64 5, .int .i64 0, .string ⟨#[]⟩, .slice none 0 0, .slice none 0 0] rfl rfl Vt _ hr4 (by kernel_rfl) rfl (by kernel_rfl) ?_)
 refine bodyPost_ret (results_v1 rfl _ rfl rfl hz.out) rfl ?_
 exact hf2.out
set_option maxHeartbeats 16000000 in
set_option maxRecDepth 100000 in
theorem val_s (ih : ∀ m, n = m + 1 → Vrk sl B g m) (hn8 : n ≤ 8) (hB : B.length ≤ 4096) : Vrk sl B g n := by
 intro p w0 ht0 hpl
 have hg0 := ht0.lt
 obtain ⟨d, hd⟩ : ∃ d : Int, Hid (d = 8 - (n : Int)) := ⟨_, hide1 rfl⟩
 rw [← hd.out]
 have hd0 : 0 ≤ d ∧ d ≤ 8 := by have := hd.out; omega
 obtain ⟨o, ho⟩ : ∃ o, Hid (pv n (B.drop p) = o) := ⟨_, hide1 rfl⟩
 rw [ho.out]
 obtain ⟨wa, hwa⟩ : ∃ wa, wa = w0.alloc (.cells #[.int .i64 0, .int .i64 0, .string ⟨#[]⟩, .slice none 0 0, .slice none 0 0] 28) := ⟨_, rfl⟩
 have ba : Below w0.heap.size w0 wa := by rw [hwa]; exact below_al _
 have ra : wa.heap[w0.heap.size]? = some (.cells zV 28 (0, 0)) := by rw [hwa]; exact new_at w0 _ _
 have ta := ht0.later ba
 have hbl := blanks_t ta (by omega) hB
 go_enter Tryz.func32, Tryz.ntmps32
 go_wp2_with fail
 rw [← hwa]
 refine hbl.mono ?_
 rintro e w1 ⟨rfl, q1, t1, k1, hsk, hpq, hq1⟩
 have hq1B : q1 ≤ B.length := by omega
 have hnx := next_t t1
 have hov := pv_nx (n := n) hsk
 rw [ho.out] at hov
 obtain ⟨c1, hc1⟩ : ∃ c, Hid (nx B q1 = c) := ⟨_, hide1 rfl⟩
 rw [hc1.out] at hnx hov
 have hcl : c1 < 256 := by rw [← hc1.out]; exact nx_lt B q1
 have r1 := (k1.block _ (Array.getElem?_eq_some_iff.1 ra).1 (by omega)).trans ra
 have k01 : Kg g w0 w1 := (Kg.of ba).trans k1
 have hz1 : w0.heap.size < w1.heap.size := Nat.lt_of_lt_of_le (Array.getElem?_eq_some_iff.1 ra).1 k1.size
 replace hov := hide1 hov
 clear hbl hwa ba ra ta k1
 go_wp2_with fail
 refine hnx.mono ?_
 rintro e w2 ⟨rfl, b2⟩
 obtain ⟨w3, hw3⟩ : ∃ w3, w3 = w2.alloc (.cells #[.int .i64 0, .int .i64 0, .string ⟨#[]⟩, .slice none 0 0, .slice none 0 0] 28) := ⟨_, rfl⟩
 have b3 : Below w2.heap.size w2 w3 := by rw [hw3]; exact below_al _
 have V3 : Vx sl B g q1 false w0 w2.heap.size #[.int .i64 0, .int .i64 0, .string ⟨#[]⟩, .slice none 0 0, .slice none 0 0] w3 :=
  ⟨(t1.later b2).later b3, (k01.trans (Kg.of b2)).trans (Kg.of b3), (b3.block _ (Nat.lt_of_lt_of_le hz1 b2.size)).trans ((b2.block _ hz1).trans r1), by rw [hw3]; exact new_at w2 _ _, Nat.lt_of_lt_of_le hz1 b2.size⟩
 clear hnx b2 b3 t1 r1 k01 hz1 hsk hpq hq1
 go_upto_region 4 with fail
 rw [← hw3]
 generalize w2.heap.size = s6 at *
 replace hov := hov.out
 clear hw3
 by_cases d110 : c1 = 110
 ·subst d110
  rw [if_pos rfl] at hov
  have hwd := word_t (s := [110, 117, 108, 108]) V3.tg (by omega) hB (by decide) (by decide)
  obtain ⟨z, hz⟩ : ∃ z, Hid (hp [110, 117, 108, 108] (B.drop q1) = z) := ⟨_, hide1 rfl⟩
  unfold AnWd at hwd
  rw [word_none, hz.out] at hov
  rw [hz.out] at hwd
  replace hwd : Calls Tryz.prog 48 #[.pointer (some ⟨g, 0, none⟩), .string ⟨#[110, 117, 108, 108]⟩] w3 _ := hwd
  replace V3 := hide1 V3
  replace hov := hide1 hov
  go_wp2_with fail
  refine hwd.mono ?_
  rintro e w4 ⟨rfl, t4, k4⟩
  have V := V3.out.step hg0 k4 t4
  replace hov := hov.out
  clear hwd t4 k4 V3
  have hzl : z = true → q1 + 4 ≤ B.length := fun e => by
   have h1 := hz.out
   rw [e] at h1
   unfold hp at h1
   have h2 := (List.isPrefixOf_iff_prefix.1 h1).length_le
   rw [List.length_drop] at h2
   simp at h2
   omega
  obtain ⟨q2, hq2⟩ : ∃ q, q = (if z = true then q1 + ([110, 117, 108, 108] : List UInt8).length else q1) := ⟨_, rfl⟩
  rw [← hq2] at V
  have hqn : q2 ≤ B.length + 2 + n := by
   rw [hq2]
   cases z with
   | true => have := hzl rfl; simp; omega
   | false => simp; omega
  have hbo : (false || !z) = o.isNone := by rw [hov]; cases z <;> rfl
  rw [hbo] at V
  have hF : ∀ t r, o = some (t, r) → VA (fun k => w0.heap.size < k) w4 t [.int .i64 0, .int .i64 0, .string ⟨#[]⟩, .slice none 0 0, .slice none 0 0] ∧ B.drop q2 = r ∧ q2 ≤ B.length := fun t r e => by
   rw [hov] at e
   cases z with
   | false => cases e
   | true =>
    simp only [if_true, Option.some.injEq, Prod.mk.injEq] at e
    obtain ⟨rfl, rfl⟩ := e
    have h5 : q2 = q1 + 4 := by rw [hq2]; rfl
    exact ⟨VA.leaf 0 0 [], by rw [h5]; rfl, by rw [h5]; exact hzl rfl⟩
  clear hzl hq2 hbo hov hz
  have Vp := V
  have hone : (#[.int .i64 0, .int .i64 0, .string ⟨#[]⟩, .slice none 0 0, .slice none 0 0] : Array Value).all (·.oneCell') = true := by kernel_rfl
  have hf2 : Hid (AnVr sl B g n o w0 (.returned (.agg #[.int .i64 0, .int .i64 0, .string ⟨#[]⟩, .slice none 0 0, .slice none 0 0])) (w4.setRow w0.heap.size #[.int .i64 0, .int .i64 0, .string ⟨#[]⟩, .slice none 0 0, .slice none 0 0])) := hide1 (Vp.end' ht0 rfl hone hqn hF)
  have r6 := V.r6
  have r4 := Vp.r4
  have hl : w4.rangeAt s6 0 [.int .i64 0, .int .i64 0, .string ⟨#[]⟩, .slice none 0 0, .slice none 0 0] := fun j z hj => by
   have := Vp.r6
   simp only [World.cell?, this]
   rw [Nat.zero_add]
   simpa using hj
  have hz := hide1 (setRow_heap w4 w0.heap.size _ #[.int .i64 0, .int .i64 0, .string ⟨#[]⟩, .slice none 0 0, .slice none 0 0] _ _ r4)
  clear Vp V hF hqn 
  go_wp2_with (first
   | refine wpList_load_mid rfl 28 (.tmp 6) rfl s6 0 rfl [.int .i64 0, .int .i64 0, .string ⟨#[]⟩, .slice none 0 0, .slice none 0 0] _ hl Tryz.underlying28 rfl (by kernel_rfl) ?_
   | refine wpList_store_row rfl Vt (.tmp 4) (.tmp 45) rfl w0.heap.size #[.int .i64 0, .int .i64 0, .string ⟨#[]⟩, .slice none 0 0, .slice none 0 0] rfl rfl Vt _ r4 (by kernel_rfl) rfl hone ?_)
  refine bodyPost_ret (results_v1 rfl _ rfl rfl hz.out) rfl ?_
  exact hf2.out
 have e110 : ((c1 : Int) == 110) = false := by simp; omega
 rw [if_neg d110] at hov
 by_cases d116 : c1 = 116
 ·subst d116
  rw [if_pos rfl] at hov
  have hwd := word_t (s := [116, 114, 117, 101]) V3.tg (by omega) hB (by decide) (by decide)
  obtain ⟨z, hz⟩ : ∃ z, Hid (hp [116, 114, 117, 101] (B.drop q1) = z) := ⟨_, hide1 rfl⟩
  unfold AnWd at hwd
  rw [word_none, hz.out] at hov
  rw [hz.out] at hwd
  replace hwd : Calls Tryz.prog 48 #[.pointer (some ⟨g, 0, none⟩), .string ⟨#[116, 114, 117, 101]⟩] w3 _ := hwd
  replace V3 := hide1 V3
  replace hov := hide1 hov
  go_wp2_with fail
  refine hwd.mono ?_
  rintro e w4 ⟨rfl, t4, k4⟩
  have V := V3.out.step hg0 k4 t4
  replace hov := hov.out
  clear hwd t4 k4 V3
  have hzl : z = true → q1 + 4 ≤ B.length := fun e => by
   have h1 := hz.out
   rw [e] at h1
   unfold hp at h1
   have h2 := (List.isPrefixOf_iff_prefix.1 h1).length_le
   rw [List.length_drop] at h2
   simp at h2
   omega
  obtain ⟨q2, hq2⟩ : ∃ q, q = (if z = true then q1 + ([116, 114, 117, 101] : List UInt8).length else q1) := ⟨_, rfl⟩
  rw [← hq2] at V
  have hqn : q2 ≤ B.length + 2 + n := by
   rw [hq2]
   cases z with
   | true => have := hzl rfl; simp; omega
   | false => simp; omega
  have hbo : (false || !z) = o.isNone := by rw [hov]; cases z <;> rfl
  rw [hbo] at V
  have hF : ∀ t r, o = some (t, r) → VA (fun k => w0.heap.size < k) (w4.setRow s6 #[.int .i64 1, .int .i64 1, .string ⟨#[]⟩, .slice none 0 0, .slice none 0 0]) t [.int .i64 1, .int .i64 1, .string ⟨#[]⟩, .slice none 0 0, .slice none 0 0] ∧ B.drop q2 = r ∧ q2 ≤ B.length := fun t r e => by
   rw [hov] at e
   cases z with
   | false => cases e
   | true =>
    simp only [if_true, Option.some.injEq, Prod.mk.injEq] at e
    obtain ⟨rfl, rfl⟩ := e
    have h5 : q2 = q1 + 4 := by rw [hq2]; rfl
    exact ⟨VA.leaf 1 1 [], by rw [h5]; rfl, by rw [h5]; exact hzl rfl⟩
  clear hzl hq2 hbo hov hz
  have Vp := V.put ht0 #[.int .i64 1, .int .i64 1, .string ⟨#[]⟩, .slice none 0 0, .slice none 0 0]
  have hone : (#[.int .i64 1, .int .i64 1, .string ⟨#[]⟩, .slice none 0 0, .slice none 0 0] : Array Value).all (·.oneCell') = true := by kernel_rfl
  have hf2 : Hid (AnVr sl B g n o w0 (.returned (.agg #[.int .i64 1, .int .i64 1, .string ⟨#[]⟩, .slice none 0 0, .slice none 0 0])) ((w4.setRow s6 #[.int .i64 1, .int .i64 1, .string ⟨#[]⟩, .slice none 0 0, .slice none 0 0]).setRow w0.heap.size #[.int .i64 1, .int .i64 1, .string ⟨#[]⟩, .slice none 0 0, .slice none 0 0])) := hide1 (Vp.end' ht0 rfl hone hqn hF)
  have r6 := V.r6
  have r4 := Vp.r4
  have hl : (w4.setRow s6 #[.int .i64 1, .int .i64 1, .string ⟨#[]⟩, .slice none 0 0, .slice none 0 0]).rangeAt s6 0 [.int .i64 1, .int .i64 1, .string ⟨#[]⟩, .slice none 0 0, .slice none 0 0] := fun j z hj => by
   have := Vp.r6
   simp only [World.cell?, this]
   rw [Nat.zero_add]
   simpa using hj
  have hz := hide1 (setRow_heap (w4.setRow s6 #[.int .i64 1, .int .i64 1, .string ⟨#[]⟩, .slice none 0 0, .slice none 0 0]) w0.heap.size _ #[.int .i64 1, .int .i64 1, .string ⟨#[]⟩, .slice none 0 0, .slice none 0 0] _ _ r4)
  clear Vp V hF hqn 
  go_wp2_with (first
   | refine wpList_store_row rfl Vt (.tmp 6) (.tmp 19) rfl s6 #[.int .i64 1, .int .i64 1, .string ⟨#[]⟩, .slice none 0 0, .slice none 0 0] rfl rfl Vt _ r6 (by kernel_rfl) rfl hone ?_
   | refine wpList_load_mid rfl 28 (.tmp 6) rfl s6 0 rfl [.int .i64 1, .int .i64 1, .string ⟨#[]⟩, .slice none 0 0, .slice none 0 0] _ hl Tryz.underlying28 rfl (by kernel_rfl) ?_
   | refine wpList_store_row rfl Vt (.tmp 4) (.tmp 45) rfl w0.heap.size #[.int .i64 1, .int .i64 1, .string ⟨#[]⟩, .slice none 0 0, .slice none 0 0] rfl rfl Vt _ r4 (by kernel_rfl) rfl hone ?_)
  refine bodyPost_ret (results_v1 rfl _ rfl rfl hz.out) rfl ?_
  exact hf2.out
 have e116 : ((c1 : Int) == 116) = false := by simp; omega
 rw [if_neg d116] at hov
 by_cases d102 : c1 = 102
 ·subst d102
  rw [if_pos rfl] at hov
  have hwd := word_t (s := [102, 97, 108, 115, 101]) V3.tg (by omega) hB (by decide) (by decide)
  obtain ⟨z, hz⟩ : ∃ z, Hid (hp [102, 97, 108, 115, 101] (B.drop q1) = z) := ⟨_, hide1 rfl⟩
  unfold AnWd at hwd
  rw [word_none, hz.out] at hov
  rw [hz.out] at hwd
  replace hwd : Calls Tryz.prog 48 #[.pointer (some ⟨g, 0, none⟩), .string ⟨#[102, 97, 108, 115, 101]⟩] w3 _ := hwd
  replace V3 := hide1 V3
  replace hov := hide1 hov
  go_wp2_with fail
  refine hwd.mono ?_
  rintro e w4 ⟨rfl, t4, k4⟩
  have V := V3.out.step hg0 k4 t4
  replace hov := hov.out
  clear hwd t4 k4 V3
  have hzl : z = true → q1 + 5 ≤ B.length := fun e => by
   have h1 := hz.out
   rw [e] at h1
   unfold hp at h1
   have h2 := (List.isPrefixOf_iff_prefix.1 h1).length_le
   rw [List.length_drop] at h2
   simp at h2
   omega
  obtain ⟨q2, hq2⟩ : ∃ q, q = (if z = true then q1 + ([102, 97, 108, 115, 101] : List UInt8).length else q1) := ⟨_, rfl⟩
  rw [← hq2] at V
  have hqn : q2 ≤ B.length + 2 + n := by
   rw [hq2]
   cases z with
   | true => have := hzl rfl; simp; omega
   | false => simp; omega
  have hbo : (false || !z) = o.isNone := by rw [hov]; cases z <;> rfl
  rw [hbo] at V
  have hF : ∀ t r, o = some (t, r) → VA (fun k => w0.heap.size < k) (w4.setRow s6 #[.int .i64 1, .int .i64 0, .string ⟨#[]⟩, .slice none 0 0, .slice none 0 0]) t [.int .i64 1, .int .i64 0, .string ⟨#[]⟩, .slice none 0 0, .slice none 0 0] ∧ B.drop q2 = r ∧ q2 ≤ B.length := fun t r e => by
   rw [hov] at e
   cases z with
   | false => cases e
   | true =>
    simp only [if_true, Option.some.injEq, Prod.mk.injEq] at e
    obtain ⟨rfl, rfl⟩ := e
    have h5 : q2 = q1 + 5 := by rw [hq2]; rfl
    exact ⟨VA.leaf 1 0 [], by rw [h5]; rfl, by rw [h5]; exact hzl rfl⟩
  clear hzl hq2 hbo hov hz
  have Vp := V.put ht0 #[.int .i64 1, .int .i64 0, .string ⟨#[]⟩, .slice none 0 0, .slice none 0 0]
  have hone : (#[.int .i64 1, .int .i64 0, .string ⟨#[]⟩, .slice none 0 0, .slice none 0 0] : Array Value).all (·.oneCell') = true := by kernel_rfl
  have hf2 : Hid (AnVr sl B g n o w0 (.returned (.agg #[.int .i64 1, .int .i64 0, .string ⟨#[]⟩, .slice none 0 0, .slice none 0 0])) ((w4.setRow s6 #[.int .i64 1, .int .i64 0, .string ⟨#[]⟩, .slice none 0 0, .slice none 0 0]).setRow w0.heap.size #[.int .i64 1, .int .i64 0, .string ⟨#[]⟩, .slice none 0 0, .slice none 0 0])) := hide1 (Vp.end' ht0 rfl hone hqn hF)
  have r6 := V.r6
  have r4 := Vp.r4
  have hl : (w4.setRow s6 #[.int .i64 1, .int .i64 0, .string ⟨#[]⟩, .slice none 0 0, .slice none 0 0]).rangeAt s6 0 [.int .i64 1, .int .i64 0, .string ⟨#[]⟩, .slice none 0 0, .slice none 0 0] := fun j z hj => by
   have := Vp.r6
   simp only [World.cell?, this]
   rw [Nat.zero_add]
   simpa using hj
  have hz := hide1 (setRow_heap (w4.setRow s6 #[.int .i64 1, .int .i64 0, .string ⟨#[]⟩, .slice none 0 0, .slice none 0 0]) w0.heap.size _ #[.int .i64 1, .int .i64 0, .string ⟨#[]⟩, .slice none 0 0, .slice none 0 0] _ _ r4)
  clear Vp V hF hqn 
  go_wp2_with (first
   | refine wpList_store_row rfl Vt (.tmp 6) (.tmp 24) rfl s6 #[.int .i64 1, .int .i64 0, .string ⟨#[]⟩, .slice none 0 0, .slice none 0 0] rfl rfl Vt _ r6 (by kernel_rfl) rfl hone ?_
   | refine wpList_load_mid rfl 28 (.tmp 6) rfl s6 0 rfl [.int .i64 1, .int .i64 0, .string ⟨#[]⟩, .slice none 0 0, .slice none 0 0] _ hl Tryz.underlying28 rfl (by kernel_rfl) ?_
   | refine wpList_store_row rfl Vt (.tmp 4) (.tmp 45) rfl w0.heap.size #[.int .i64 1, .int .i64 0, .string ⟨#[]⟩, .slice none 0 0, .slice none 0 0] rfl rfl Vt _ r4 (by kernel_rfl) rfl hone ?_)
  refine bodyPost_ret (results_v1 rfl _ rfl rfl hz.out) rfl ?_
  exact hf2.out
 have e102 : ((c1 : Int) == 102) = false := by simp; omega
 rw [if_neg d102] at hov
 by_cases d34 : c1 = 34
 ·subst d34
  rw [if_pos rfl] at hov
  have hqt := quoted_t V3.tg hq1B hB
  obtain ⟨oq, hoq⟩ : ∃ oq, Hid (qt (B.drop q1) = oq) := ⟨_, hide1 rfl⟩
  rw [hoq.out] at hqt hov
  replace V3 := hide1 V3
  replace hov := hide1 hov
  go_wp2_with fail
  refine hqt.mono ?_
  rintro e w4 ⟨x, q2, rfl, t4, k4, hq2, hxv⟩
  have V := V3.out.step hg0 k4 t4
  replace hov := hov.out
  have hbo : oq.isNone = o.isNone := by rw [hov]; cases oq <;> rfl
  rw [hbo] at V
  have hqn : q2 ≤ B.length + 2 + n := by omega
  have hF : ∀ t r, o = some (t, r) → VA (fun k => w0.heap.size < k) (w4.setRow s6 #[.int .i64 3, .int .i64 0, .string (st x), .slice none 0 0, .slice none 0 0]) t [.int .i64 3, .int .i64 0, .string (st x), .slice none 0 0, .slice none 0 0] ∧ B.drop q2 = r ∧ q2 ≤ B.length := fun t r e => by
   rw [hov] at e
   cases oq with
   | none => cases e
   | some y =>
    obtain ⟨y1, y2⟩ := y
    obtain ⟨h1, h2, h3⟩ := hxv y1 y2 rfl
    simp only [Option.map_some, Option.some.injEq, Prod.mk.injEq] at e
    obtain ⟨rfl, rfl⟩ := e
    subst h1
    exact ⟨VA.leaf 3 0 x, h2, h3⟩
  clear hqt t4 k4 V3 hbo hov hoq hxv hq2
  have Vp := V.put ht0 #[.int .i64 3, .int .i64 0, .string (st x), .slice none 0 0, .slice none 0 0]
  have hone : (#[.int .i64 3, .int .i64 0, .string (st x), .slice none 0 0, .slice none 0 0] : Array Value).all (·.oneCell') = true := by kernel_rfl
  have hf2 : Hid (AnVr sl B g n o w0 (.returned (.agg #[.int .i64 3, .int .i64 0, .string (st x), .slice none 0 0, .slice none 0 0])) ((w4.setRow s6 #[.int .i64 3, .int .i64 0, .string (st x), .slice none 0 0, .slice none 0 0]).setRow w0.heap.size #[.int .i64 3, .int .i64 0, .string (st x), .slice none 0 0, .slice none 0 0])) := hide1 (Vp.end' ht0 rfl hone hqn hF)
  have r6 := V.r6
  have r4 := Vp.r4
  have hl : (w4.setRow s6 #[.int .i64 3, .int .i64 0, .string (st x), .slice none 0 0, .slice none 0 0]).rangeAt s6 0 [.int .i64 3, .int .i64 0, .string (st x), .slice none 0 0, .slice none 0 0] := fun j z hj => by
   have := Vp.r6
   simp only [World.cell?, this]
   rw [Nat.zero_add]
   simpa using hj
  have hz := hide1 (setRow_heap (w4.setRow s6 #[.int .i64 3, .int .i64 0, .string (st x), .slice none 0 0, .slice none 0 0]) w0.heap.size _ #[.int .i64 3, .int .i64 0, .string (st x), .slice none 0 0, .slice none 0 0] _ _ r4)
  clear Vp V hF hqn 
  go_wp2_with (first
   | refine wpList_store_row rfl Vt (.tmp 6) (.tmp 29) rfl s6 #[.int .i64 3, .int .i64 0, .string (st x), .slice none 0 0, .slice none 0 0] rfl rfl Vt _ r6 (by kernel_rfl) rfl hone ?_
   | refine wpList_load_mid rfl 28 (.tmp 6) rfl s6 0 rfl [.int .i64 3, .int .i64 0, .string (st x), .slice none 0 0, .slice none 0 0] _ hl Tryz.underlying28 rfl (by kernel_rfl) ?_
   | refine wpList_store_row rfl Vt (.tmp 4) (.tmp 45) rfl w0.heap.size #[.int .i64 3, .int .i64 0, .string (st x), .slice none 0 0, .slice none 0 0] rfl rfl Vt _ r4 (by kernel_rfl) rfl hone ?_)
  refine bodyPost_ret (results_v1 rfl _ rfl rfl hz.out) rfl ?_
  exact hf2.out
 have e34 : ((c1 : Int) == 34) = false := by simp; omega
 rw [if_neg d34] at hov
 by_cases d91 : c1 = 91
 ·subst d91
  rw [if_pos rfl] at hov
  have hcl2 : Hid (Calls Tryz.prog 50 #[.pointer (some ⟨g, 0, none⟩), .int .i64 (d + 1)] w3 (AnVr sl B g n o w3)) := hide1 (by
   cases n with
   | zero =>
    have hd9 : d = 8 := by have := hd.out; omega
    rw [hd9, hov]
    exact list_over V3.tg hq1B
   | succ m =>
    have hdm : d + 1 = 8 - (m : Int) := by have := hd.out; omega
    rw [hdm, hov]
    exact list_t (ih m rfl) (by omega) V3.tg hB hc1.out)
  have hd1 : Hid (d + 1 ≤ 9) := hide1 (by omega)
  replace V3 := hide1 V3
  replace hov := hide1 hov
  go_wp2_with fail
  refine hcl2.out.mono ?_
  rintro e w4 ⟨c, q2, rfl, hc5, hco, t4, k4, hqn, hv⟩
  have V := V3.out.step hg0 k4 t4
  obtain ⟨x0, x1, x2, x3, x4, hce⟩ := five_l (l := c.toList) (by simpa using hc5)
  obtain rfl : c = #[x0, x1, x2, x3, x4] := by cases c; simp at hce; simp [hce]
  have hs6 := V3.out.lt
  have hs63 : s6 < w3.heap.size := (Array.getElem?_eq_some_iff.1 V3.out.r6).1
  have hF : ∀ t r, o = some (t, r) → VA (fun k => w0.heap.size < k) (w4.setRow s6 #[x0, x1, x2, x3, x4]) t [x0, x1, x2, x3, x4] ∧ B.drop q2 = r ∧ q2 ≤ B.length := fun t r e =>
   ⟨(hv t r e).1.frame (fun k hk _ => setRow_other w4 s6 k _ (by have : w3.heap.size ≤ k := hk; omega)) (fun k hk _ => by have : w3.heap.size ≤ k := hk; show w0.heap.size < k; omega), (hv t r e).2⟩
  clear hcl2 t4 k4 V3 hov hv hs6 hs63 hce
  have Vp := V.put ht0 #[x0, x1, x2, x3, x4]
  have hone : (#[x0, x1, x2, x3, x4] : Array Value).all (·.oneCell') = true := hco
  have hf2 : Hid (AnVr sl B g n o w0 (.returned (.agg #[x0, x1, x2, x3, x4])) ((w4.setRow s6 #[x0, x1, x2, x3, x4]).setRow w0.heap.size #[x0, x1, x2, x3, x4])) := hide1 (Vp.end' ht0 rfl hone hqn hF)
  have r6 := V.r6
  have r4 := Vp.r4
  have hl : (w4.setRow s6 #[x0, x1, x2, x3, x4]).rangeAt s6 0 [x0, x1, x2, x3, x4] := fun j z hj => by
   have := Vp.r6
   simp only [World.cell?, this]
   rw [Nat.zero_add]
   simpa using hj
  have hz := hide1 (setRow_heap (w4.setRow s6 #[x0, x1, x2, x3, x4]) w0.heap.size _ #[x0, x1, x2, x3, x4] _ _ r4)
  clear Vp V hF hqn 
  go_wp2_with (first
   | refine wpList_store_row rfl Vt (.tmp 6) (.tmp 35) rfl s6 #[x0, x1, x2, x3, x4] rfl rfl Vt _ r6 (by kernel_rfl) rfl hone ?_
   | refine wpList_load_mid rfl 28 (.tmp 6) rfl s6 0 rfl [x0, x1, x2, x3, x4] _ hl Tryz.underlying28 rfl (by kernel_rfl) ?_
   | refine wpList_store_row rfl Vt (.tmp 4) (.tmp 45) rfl w0.heap.size #[x0, x1, x2, x3, x4] rfl rfl Vt _ r4 (by kernel_rfl) rfl hone ?_)
  refine bodyPost_ret (results_v1 rfl _ rfl rfl hz.out) rfl ?_
  exact hf2.out
 have e91 : ((c1 : Int) == 91) = false := by simp; omega
 rw [if_neg d91] at hov
 by_cases d123 : c1 = 123
 ·subst d123
  rw [if_pos rfl] at hov
  have hcl2 : Hid (Calls Tryz.prog 51 #[.pointer (some ⟨g, 0, none⟩), .int .i64 (d + 1)] w3 (AnVr sl B g n o w3)) := hide1 (by
   cases n with
   | zero =>
    have hd9 : d = 8 := by have := hd.out; omega
    rw [hd9, hov]
    exact object_over V3.tg hq1B
   | succ m =>
    have hdm : d + 1 = 8 - (m : Int) := by have := hd.out; omega
    rw [hdm, hov]
    exact object_t (ih m rfl) (by omega) V3.tg hB hc1.out)
  have hd1 : Hid (d + 1 ≤ 9) := hide1 (by omega)
  replace V3 := hide1 V3
  replace hov := hide1 hov
  go_wp2_with fail
  refine hcl2.out.mono ?_
  rintro e w4 ⟨c, q2, rfl, hc5, hco, t4, k4, hqn, hv⟩
  have V := V3.out.step hg0 k4 t4
  obtain ⟨x0, x1, x2, x3, x4, hce⟩ := five_l (l := c.toList) (by simpa using hc5)
  obtain rfl : c = #[x0, x1, x2, x3, x4] := by cases c; simp at hce; simp [hce]
  have hs6 := V3.out.lt
  have hs63 : s6 < w3.heap.size := (Array.getElem?_eq_some_iff.1 V3.out.r6).1
  have hF : ∀ t r, o = some (t, r) → VA (fun k => w0.heap.size < k) (w4.setRow s6 #[x0, x1, x2, x3, x4]) t [x0, x1, x2, x3, x4] ∧ B.drop q2 = r ∧ q2 ≤ B.length := fun t r e =>
   ⟨(hv t r e).1.frame (fun k hk _ => setRow_other w4 s6 k _ (by have : w3.heap.size ≤ k := hk; omega)) (fun k hk _ => by have : w3.heap.size ≤ k := hk; show w0.heap.size < k; omega), (hv t r e).2⟩
  clear hcl2 t4 k4 V3 hov hv hs6 hs63 hce
  have Vp := V.put ht0 #[x0, x1, x2, x3, x4]
  have hone : (#[x0, x1, x2, x3, x4] : Array Value).all (·.oneCell') = true := hco
  have hf2 : Hid (AnVr sl B g n o w0 (.returned (.agg #[x0, x1, x2, x3, x4])) ((w4.setRow s6 #[x0, x1, x2, x3, x4]).setRow w0.heap.size #[x0, x1, x2, x3, x4])) := hide1 (Vp.end' ht0 rfl hone hqn hF)
  have r6 := V.r6
  have r4 := Vp.r4
  have hl : (w4.setRow s6 #[x0, x1, x2, x3, x4]).rangeAt s6 0 [x0, x1, x2, x3, x4] := fun j z hj => by
   have := Vp.r6
   simp only [World.cell?, this]
   rw [Nat.zero_add]
   simpa using hj
  have hz := hide1 (setRow_heap (w4.setRow s6 #[x0, x1, x2, x3, x4]) w0.heap.size _ #[x0, x1, x2, x3, x4] _ _ r4)
  clear Vp V hF hqn 
  go_wp2_with (first
   | refine wpList_store_row rfl Vt (.tmp 6) (.tmp 41) rfl s6 #[x0, x1, x2, x3, x4] rfl rfl Vt _ r6 (by kernel_rfl) rfl hone ?_
   | refine wpList_load_mid rfl 28 (.tmp 6) rfl s6 0 rfl [x0, x1, x2, x3, x4] _ hl Tryz.underlying28 rfl (by kernel_rfl) ?_
   | refine wpList_store_row rfl Vt (.tmp 4) (.tmp 45) rfl w0.heap.size #[x0, x1, x2, x3, x4] rfl rfl Vt _ r4 (by kernel_rfl) rfl hone ?_)
  refine bodyPost_ret (results_v1 rfl _ rfl rfl hz.out) rfl ?_
  exact hf2.out
 have e123 : ((c1 : Int) == 123) = false := by simp; omega
 rw [if_neg d123] at hov
 have hqt := number_t V3.tg hq1B hB
 obtain ⟨oq, hoq⟩ : ∃ oq, Hid (nm (B.drop q1) = oq) := ⟨_, hide1 rfl⟩
 rw [hoq.out] at hqt hov
 replace V3 := hide1 V3
 replace hov := hide1 hov
 go_wp2_with fail
 refine hqt.mono ?_
 rintro e w4 ⟨x, q2, rfl, t4, k4, hq2, hxv⟩
 have V := V3.out.step hg0 k4 t4
 replace hov := hov.out
 have hbo : oq.isNone = o.isNone := by rw [hov]; cases oq <;> rfl
 rw [hbo] at V
 have hqn : q2 ≤ B.length + 2 + n := by omega
 have hF : ∀ t r, o = some (t, r) → VA (fun k => w0.heap.size < k) (w4.setRow s6 #[.int .i64 2, .int .i64 x, .string ⟨#[]⟩, .slice none 0 0, .slice none 0 0]) t [.int .i64 2, .int .i64 x, .string ⟨#[]⟩, .slice none 0 0, .slice none 0 0] ∧ B.drop q2 = r ∧ q2 ≤ B.length := fun t r e => by
  rw [hov] at e
  cases oq with
  | none => cases e
  | some y =>
   obtain ⟨y1, y2⟩ := y
   obtain ⟨h1, h2, h3⟩ := hxv y1 y2 rfl
   simp only [Option.map_some, Option.some.injEq, Prod.mk.injEq] at e
   obtain ⟨rfl, rfl⟩ := e
   subst h1
   exact ⟨VA.leaf 2 x [], h2, h3⟩
 clear hqt t4 k4 V3 hbo hov hoq hxv hq2
 have Vp := V.put ht0 #[.int .i64 2, .int .i64 x, .string ⟨#[]⟩, .slice none 0 0, .slice none 0 0]
 have hone : (#[.int .i64 2, .int .i64 x, .string ⟨#[]⟩, .slice none 0 0, .slice none 0 0] : Array Value).all (·.oneCell') = true := by kernel_rfl
 have hf2 : Hid (AnVr sl B g n o w0 (.returned (.agg #[.int .i64 2, .int .i64 x, .string ⟨#[]⟩, .slice none 0 0, .slice none 0 0])) ((w4.setRow s6 #[.int .i64 2, .int .i64 x, .string ⟨#[]⟩, .slice none 0 0, .slice none 0 0]).setRow w0.heap.size #[.int .i64 2, .int .i64 x, .string ⟨#[]⟩, .slice none 0 0, .slice none 0 0])) := hide1 (Vp.end' ht0 rfl hone hqn hF)
 have r6 := V.r6
 have r4 := Vp.r4
 have hl : (w4.setRow s6 #[.int .i64 2, .int .i64 x, .string ⟨#[]⟩, .slice none 0 0, .slice none 0 0]).rangeAt s6 0 [.int .i64 2, .int .i64 x, .string ⟨#[]⟩, .slice none 0 0, .slice none 0 0] := fun j z hj => by
  have := Vp.r6
  simp only [World.cell?, this]
  rw [Nat.zero_add]
  simpa using hj
 have hz := hide1 (setRow_heap (w4.setRow s6 #[.int .i64 2, .int .i64 x, .string ⟨#[]⟩, .slice none 0 0, .slice none 0 0]) w0.heap.size _ #[.int .i64 2, .int .i64 x, .string ⟨#[]⟩, .slice none 0 0, .slice none 0 0] _ _ r4)
 clear Vp V hF hqn 
 go_wp2_with (first
  | refine wpList_store_row rfl Vt (.tmp 6) (.tmp 44) rfl s6 #[.int .i64 2, .int .i64 x, .string ⟨#[]⟩, .slice none 0 0, .slice none 0 0] rfl rfl Vt _ r6 (by kernel_rfl) rfl hone ?_
  | refine wpList_load_mid rfl 28 (.tmp 6) rfl s6 0 rfl [.int .i64 2, .int .i64 x, .string ⟨#[]⟩, .slice none 0 0, .slice none 0 0] _ hl Tryz.underlying28 rfl (by kernel_rfl) ?_
  | refine wpList_store_row rfl Vt (.tmp 4) (.tmp 45) rfl w0.heap.size #[.int .i64 2, .int .i64 x, .string ⟨#[]⟩, .slice none 0 0, .slice none 0 0] rfl rfl Vt _ r4 (by kernel_rfl) rfl hone ?_)
 refine bodyPost_ret (results_v1 rfl _ rfl rfl hz.out) rfl ?_
 exact hf2.out
theorem vrk (hB : B.length ≤ 4096) : ∀ n, n ≤ 8 → Vrk sl B g n
 | 0, h => val_s (fun m e => by cases e) h hB
 | n + 1, h => val_s (fun m e => by cases e; exact vrk hB n (by omega)) h hB
end
def AnPr (w : World) (B : List UInt8) (e : Ending) (w' : World) : Prop :=
 ∃ c, e = .returned (.tuple #[.agg c, .int .i64 (if (prsV B).isSome then 0 else prsE B)]) ∧ c.size = 5 ∧ c.all (·.oneCell') = true ∧ Below w.heap.size w w' ∧
  ((∃ t, prsV B = some t ∧ VA (w.heap.size ≤ ·) w' t c.toList) ∨ (prsV B = none ∧ c = zV))
set_option maxHeartbeats 16000000 in
set_option maxRecDepth 100000 in
theorem rparse_d {w : World} {a : Option Addr} {cap : Nat} {B : List UInt8} (h : BsA w (.slice a B.length cap) B) (hcap : B.length ≤ cap) : Calls Tryz.prog 12 #[.slice a B.length cap] w (AnPr w B) := by
 obtain ⟨wa, hwa⟩ : ∃ wa, wa = w.alloc (.cells #[.int .i64 0, .int .i64 0, .string ⟨#[]⟩, .slice none 0 0, .slice none 0 0] 28) := ⟨_, rfl⟩
 have ba : Below w.heap.size w wa := by rw [hwa]; exact below_al _
 have ra : wa.heap[w.heap.size]? = some (.cells #[.int .i64 0, .int .i64 0, .string ⟨#[]⟩, .slice none 0 0, .slice none 0 0] 28 (0, 0)) := by rw [hwa]; exact new_at w _ _
 have za : wa.heap.size = w.heap.size + 1 := by rw [hwa]; simp
 by_cases hl : 4096 < B.length
 ·have hv : prsV B = none := by unfold prsV; rw [if_pos hl]
  have hE : prsE B = 10 := by unfold prsE; rw [if_pos hl]
  have hf : Hid (AnPr w B (.returned (.tuple #[.agg zV, .int .i64 10])) (wa.setRow w.heap.size zV)) := hide1 ⟨zV, by rw [hv, hE]; rfl, rfl, by kernel_rfl, blw_own ba (Nat.le_refl _) _, .inr ⟨hv, rfl⟩⟩
  have hz := hide1 (setRow_heap wa w.heap.size _ zV _ _ ra)
  have hl2 : (4096 : Int) < (B.length : Int) := by omega
  unfold zV at hf hz
  clear h hcap hv hE
  go_enter Tryz.func12, Tryz.ntmps12
  go_upto_region 1 with fail
  rw [← hwa]
  clear hwa
  go_wp2_with (refine wpList_store_row rfl Vt (.tmp 2) (.tmp 9) rfl w.heap.size #[.int .i64 0, .int .i64 0, .string ⟨#[]⟩, .slice none 0 0, .slice none 0 0] rfl rfl Vt _ ra (by kernel_rfl) rfl (by kernel_rfl) ?_)
  refine bodyPost_ret (results_vt rfl _ rfl rfl hz.out) rfl ?_
  exact hf.out
 have hB : B.length ≤ 4096 := by omega
 obtain ⟨wb, hwb⟩ : ∃ wb, wb = wa.alloc (.cells #[.slice a B.length cap, .int .i64 0, .bool false] 60) := ⟨_, rfl⟩
 have bb : Below w.heap.size w wb := by rw [hwb]; exact ba.alloc (by omega) _
 have rb : wb.heap[w.heap.size]? = some (.cells #[.int .i64 0, .int .i64 0, .string ⟨#[]⟩, .slice none 0 0, .slice none 0 0] 28 (0, 0)) := by
  rw [hwb]
  exact ((below_al (w := wa) _).block _ (by omega)).trans ra
 have tb : Tg (.slice a B.length cap) B (w.heap.size + 1) 0 false wb := by
  refine ⟨?_, h.below bb, fun hne x n c e => ?_, fun x n c e => by cases e; exact hcap⟩
  ·rw [hwb, ← za]
   exact new_at wa _ _
  ·cases e
   obtain ⟨a', cap', e, hb⟩ := h
   cases e
   obtain ⟨b, o, e, hlt, _⟩ := hb.resolve_left hne
   cases e
   show b ≠ _
   omega
 have hvl := vrk (sl := .slice a B.length cap) (g := w.heap.size + 1) hB 8 (by omega) tb (by omega)
 rw [List.drop_zero] at hvl
 obtain ⟨o, ho⟩ : ∃ o, Hid (pv 8 B = o) := ⟨_, hide1 rfl⟩
 rw [ho.out, show (8 : Int) - ((8 : Nat) : Int) = 0 by decide] at hvl
 have hpv : Hid (prsV B = o.bind fun tr => if (sk tr.2).isEmpty then some tr.1 else none) := hide1 (by unfold prsV; rw [if_neg hl, ho.out]; cases o <;> rfl)
 have hpE : Hid (prsE B = 1) := hide1 (by unfold prsE; rw [if_neg hl])
 have hl2 : ¬ (4096 : Int) < (B.length : Int) := by omega
 replace tb := hide1 tb
 replace bb := hide1 bb
 clear h ba ra
 go_enter Tryz.func12, Tryz.ntmps12
 go_upto_region 4 with fail
 rw [← hwa, ← hwb]
 clear hwa hwb za
 go_wp2_with fail
 refine hvl.mono ?_
 rintro e w1 ⟨c, q, rfl, hc5, hco, t1, k1, hq, hv⟩
 obtain ⟨x0, x1, x2, x3, x4, hce⟩ := five_l (l := c.toList) (by simpa using hc5)
 obtain rfl : c = #[x0, x1, x2, x3, x4] := by cases c; simp at hce; simp [hce]
 have r1 := (k1.block _ (Array.getElem?_eq_some_iff.1 rb).1 (by omega)).trans rb
 have hlt1 := (Array.getElem?_eq_some_iff.1 r1).1
 have bw1 := blw_kg bb.out (Nat.le_succ _) bb.out.size k1
 obtain ⟨w2, hw2⟩ : ∃ w2, w2 = (w1.alloc (.cells #[.int .i64 0, .int .i64 0, .string ⟨#[]⟩, .slice none 0 0, .slice none 0 0] 28)).setRow w1.heap.size #[x0, x1, x2, x3, x4] := ⟨_, rfl⟩
 have n2 := new_at w1 #[.int .i64 0, .int .i64 0, .string ⟨#[]⟩, .slice none 0 0, .slice none 0 0] 28
 have b2 : Below w1.heap.size w1 w2 := by rw [hw2]; exact blw_own (below_al _) (Nat.le_refl _) _
 have c2 : w2.heap[w1.heap.size]? = some (.cells #[x0, x1, x2, x3, x4] 28 (0, 0)) := by rw [hw2]; exact setRow_heap _ _ _ _ _ _ n2
 have t2 := t1.later b2
 have r2 := (b2.block _ hlt1).trans r1
 have bw2 := bw1.trans (b2.mono bw1.size)
 have hbl := blanks_t t2 (by omega) hB
 have hvz : ∀ t r, o = some (t, r) → VA (wb.heap.size ≤ ·) w2 t [x0, x1, x2, x3, x4] ∧ B.drop q = r ∧ q ≤ B.length := fun t r e => ⟨(hv t r e).1.frame (fun k _ hk => b2.block k hk) (fun _ h _ => h), (hv t r e).2⟩
 replace hvz := hide1 hvz
 replace c2 := hide1 c2
 replace r2 := hide1 r2
 replace bw2 := hide1 bw2
 have hsz1 : Hid (w.heap.size + 1 < w1.heap.size) := hide1 t1.lt
 have hbz : Hid (w.heap.size + 1 < wb.heap.size) := hide1 tb.out.lt
 clear hvl hv t1 k1 r1 hlt1 bw1 rb t2 tb bb hce
 go_upto_region 5 with (refine wpList_store_row rfl Vt (.tmp 5) (.tmp 14) rfl w1.heap.size #[x0, x1, x2, x3, x4] rfl rfl Vt _ n2 (by kernel_rfl) rfl hco ?_)
 rw [← hw2]
 generalize w1.heap.size = s5 at *
 clear hw2 n2 b2
 go_wp2_with fail
 refine hbl.mono ?_
 rintro e w3 ⟨rfl, q2, t3, k3, hs3, hpq, hq2⟩
 have r3 := (k3.block _ (Array.getElem?_eq_some_iff.1 r2.out).1 (by omega)).trans r2.out
 have c3 := (k3.block _ (Array.getElem?_eq_some_iff.1 c2.out).1 (by have := hsz1.out; omega)).trans c2.out
 have bw3 := blw_kg bw2.out (Nat.le_succ _) bw2.out.size k3
 have ccb := t3.c2
 have cca := t3.c1
 have hvz3 : ∀ t r, o = some (t, r) → VA (wb.heap.size ≤ ·) w3 t [x0, x1, x2, x3, x4] := fun t r e => (hvz.out t r e).1.frame (fun k hk hl => k3.block k hl (by have h1 : wb.heap.size ≤ k := hk; have := hbz.out; omega)) (fun _ h _ => h)
 have hbad : prsV B = none → Hid (AnPr w B (.returned (.tuple #[.agg zV, .int .i64 1])) (w3.setRow w.heap.size zV)) := fun hn => hide1 ⟨zV, by rw [hn, hpE.out]; rfl, rfl, by kernel_rfl, blw_own bw3 (Nat.le_refl _) _, .inr ⟨hn, rfl⟩⟩
 have hz := hide1 (setRow_heap w3 w.heap.size _ zV _ _ r3)
 have hz2 := hide1 (setRow_heap w3 w.heap.size _ #[x0, x1, x2, x3, x4] _ _ r3)
 unfold zV at hbad hz
 cases o with
 | none =>
  have hf := hbad hpv.out
  replace ccb : w3.cell? ⟨w.heap.size + 1, 2, none⟩ = some (.bool true) := ccb
  clear hbl hvz hvz3 hbad t3 k3 c2 r2 c3 bw3 bw2 hz2 cca hpv hpE
  go_wp2_with (refine wpList_store_row rfl Vt (.tmp 2) (.tmp 30) rfl w.heap.size #[.int .i64 0, .int .i64 0, .string ⟨#[]⟩, .slice none 0 0, .slice none 0 0] rfl rfl Vt _ r3 (by kernel_rfl) rfl (by kernel_rfl) ?_)
  refine bodyPost_ret (results_vt rfl _ rfl rfl hz.out) rfl ?_
  exact hf.out
 | some tr =>
  obtain ⟨t, r⟩ := tr
  obtain ⟨-, hdr, hqB⟩ := hvz.out t r rfl
  rw [hdr] at hs3
  have hq2B : q2 ≤ B.length := by omega
  have hlen := congrArg List.length hs3
  rw [List.length_drop] at hlen
  have hpv2 : prsV B = if (sk r).isEmpty then some t else none := hpv.out
  replace ccb : w3.cell? ⟨w.heap.size + 1, 2, none⟩ = some (.bool false) := ccb
  by_cases hqe : q2 = B.length
  ·have hsk : (sk r).isEmpty = true := by
    rw [List.isEmpty_iff, ← List.length_eq_zero_iff]; omega
   rw [if_pos hsk] at hpv2
   have hf : Hid (AnPr w B (.returned (.tuple #[.agg #[x0, x1, x2, x3, x4], .int .i64 0])) (w3.setRow w.heap.size #[x0, x1, x2, x3, x4])) := hide1 ⟨_, by rw [hpv2]; rfl, rfl, hco, blw_own bw3 (Nat.le_refl _) _, .inl ⟨t, hpv2, (hvz3 t r rfl).frame (fun k hk _ => setRow_other w3 _ k _ (by have h1 : wb.heap.size ≤ k := hk; have := hbz.out; omega)) (fun k hk _ => by have h1 : wb.heap.size ≤ k := hk; have := hbz.out; show w.heap.size ≤ k; omega)⟩⟩
   have m0 : ((q2 : Int) != (B.length : Int)) = false := by simp; omega
   have hl5 : w3.rangeAt s5 0 [x0, x1, x2, x3, x4] := fun j z hj => by
    simp only [World.cell?, c3]
    rw [Nat.zero_add]
    simpa using hj
   clear hbl hvz hvz3 hbad t3 k3 c2 r2 c3 bw3 bw2 hz hpv hpE hpv2 hs3 hlen hsk hdr
   go_wp2_with (first
    | refine wpList_load_mid rfl 28 (.tmp 5) rfl s5 0 rfl [x0, x1, x2, x3, x4] _ hl5 Tryz.underlying28 rfl (by kernel_rfl) ?_
    | refine wpList_store_row rfl Vt (.tmp 2) (.tmp 31) rfl w.heap.size #[x0, x1, x2, x3, x4] rfl rfl Vt _ r3 (by kernel_rfl) rfl hco ?_)
   refine bodyPost_ret (results_vt rfl _ rfl rfl hz2.out) rfl ?_
   exact hf.out
  ·have hsk : (sk r).isEmpty = false := by
    cases e : sk r with
    | nil => rw [e] at hlen; simp at hlen; omega
    | cons x m => rfl
   rw [hsk, if_neg (by simp)] at hpv2
   have hf := hbad hpv2
   have m0 : ((q2 : Int) != (B.length : Int)) = true := by simp; omega
   clear hbl hvz hvz3 hbad t3 k3 c2 r2 c3 bw3 bw2 hz2 hpv hpE hpv2 hs3 hlen hsk hdr
   go_wp2_with (refine wpList_store_row rfl Vt (.tmp 2) (.tmp 30) rfl w.heap.size #[.int .i64 0, .int .i64 0, .string ⟨#[]⟩, .slice none 0 0, .slice none 0 0] rfl rfl Vt _ r3 (by kernel_rfl) rfl (by kernel_rfl) ?_)
   refine bodyPost_ret (results_vt rfl _ rfl rfl hz.out) rfl ?_
   exact hf.out
end Go.Proofs.YtbemaloaobeblaaGreatDoor

namespace Go.Proofs.YtbemaloaobeblaaGreatDoor
open Go.RowKit Go.Shelf

theorem wpList_apc {w : World} {ops : Array Oper} {rest : List Oper} {o : Oper} {a : Act} {Q : Exit → Act → World → Prop} (hgd : o.guard = none) (s x : Operand)
  (ho : o.op = .call { callee := .builtin .append, args := #[s, x], argTypes := #[22, 22] }) (B : Nat) (v : Value) (l : List UInt8) (hs : a.eval s = v) (hown : Ow w B v l)
  (u : Value) (m : List UInt8) (hx : a.eval x = u) (hb : BsA w u m) (hn : l.length + m.length ≤ 140737488353280) (hB : B ≤ w.heap.size)
  (h : ∀ v' w', Ow w' B v' (l ++ m) → w.grownBy w' v.ownBlock → wpList Tryz.prog ops Q rest (a.put o.dst v') w') : wpList Tryz.prog ops Q (o :: rest) a w := by
 refine wpList_plain hgd fun K hK => ?_
 obtain ⟨i0, hi, he⟩ := Option.map_eq_some_iff.1 info_u8
 simp only [Prod.mk.injEq] at he
 obtain ⟨hz0, hz1, hz2⟩ := he
 obtain ⟨v', w', hr, h2, h3⟩ : ∃ v' w', (Builtin.append_ #[22, 22] o.type #[v, u]).run Tryz.prog w = .ok v' w' ∧ Ow w' B v' (l ++ m) ∧ w.grownBy w' v.ownBlock := by
  obtain ⟨ad, c, rfl, hm⟩ := hb
  cases ad with
  | none =>
   obtain rfl : m = [] := by
    rcases hm with h | ⟨_, _, e, _⟩
    ·exact h
    ·cases e
   refine ⟨v, w, ?_, by simpa using hown, ⟨rfl, rfl, rfl, Nat.le_refl _, fun _ _ _ => rfl⟩⟩
   rcases hown.2 with ⟨rfl, _⟩ | ⟨g, cap, cur, rfl, _, _, hnc, _⟩
   ·simp [Builtin.append_, run_underlying Tryz.underlying22, sizeOf, typeInfo, hi, Builtin.lenOf, Builtin.firstCells]
   ·simp [Builtin.append_, run_underlying Tryz.underlying22, sizeOf, typeInfo, hi, Builtin.lenOf, Builtin.firstCells, hnc, storeCells]
  | some ad =>
   have hnews : ∀ j u, (bv m)[j]? = some u → w.cell? (ad.add j) = some u := by
    intro j u hj
    rcases hm with rfl | ⟨b, off, e, hbl, hc⟩
    ·simp [bv] at hj
    ·cases e
     cases hmj : m[j]? with
     | none => rw [bv, List.getElem?_map, hmj] at hj; cases hj
     | some y =>
      rw [bv, List.getElem?_map, hmj] at hj
      cases hj
      rw [Addr.add_lit]
      exact hc j y hmj
   obtain ⟨v', w', hr, h4, h5, _⟩ := run_append_own (P := Tryz.prog) w B 22 o.type 5 i0 (.int .u8 0) 1 1 Tryz.underlying22 hi hz0 hz1 hz2 rfl (by decide) v l.length (bv l) hown ad m.length c (bv m) (by simp [bv]) hnews
    (by intro u hu; simp [bv] at hu; obtain ⟨z, _, rfl⟩ := hu; rfl) (by unfold maxLen; omega) (by omega) hB
   refine ⟨v', w', hr, ?_, h5⟩
   unfold Ow
   rw [bv_app, List.length_append]
   exact h4
 unfold Oper.wp execOp
 simp only [ho, resolve, invoke, builtin, Sem.run_bind, Sem.run_pure, Result.andThen_ok, List.map_toArray, List.map_cons, List.map_nil, hs, hx, hr]
 exact hK _ _ (h v' w' h2 h3)
theorem two_b (w : World) : BsA (w.alloc (.cells #[.int .u8 165, .int .u8 90] 5)) (.slice (some ⟨w.heap.size, 0, none⟩) 2 2) [165, 90] :=
 ⟨_, 2, rfl, .inr ⟨w.heap.size, 0, rfl, by simp, fun j x hj => by
  simp only [World.cell?, new_at]
  match j, hj with
  | 0, hj => cases hj; rfl
  | 1, hj => cases hj; rfl
  | j + 2, hj => simp at hj⟩⟩
def Mkd (w : World) (g cap : Nat) (l : List UInt8) : Prop := l.length + 2 ≤ cap ∧ cap ≤ maxLen ∧ ∃ cur, w.heap[g]? = some (.cells cur 5 (0, 0)) ∧ ∀ (j : Nat) (x : UInt8), (l ++ [165, 90])[j]? = some x → cur[j]? = some (Value.int .u8 (x.toNat : Nat))
theorem Mkd.below {w w' : World} {g cap : Nat} {l : List UInt8} (h : Mkd w g cap l) (hb : Below w.heap.size w w') : Mkd w' g cap l := by
 obtain ⟨h1, h2, cur, hg, r⟩ := h
 exact ⟨h1, h2, cur, (hb.block g (Array.getElem?_eq_some_iff.1 hg).1).trans hg, r⟩
theorem Mkd.bsa {w : World} {g cap : Nat} {l : List UInt8} (h : Mkd w g cap l) : BsA w (.slice (some ⟨g, 0, none⟩) l.length cap) l := by
 obtain ⟨h1, h2, cur, hg, r⟩ := h
 refine ⟨_, cap, rfl, .inr ⟨g, 0, rfl, (Array.getElem?_eq_some_iff.1 hg).1, fun j x hj => ?_⟩⟩
 simp only [World.cell?, hg]
 rw [Nat.zero_add]
 refine r j x ?_
 rw [List.getElem?_append_left (List.getElem?_eq_some_iff.1 hj).1]
 exact hj
theorem Ow.mkd {w : World} {B : Nat} {v : Value} {l : List UInt8} (h : Ow w B v (l ++ [165, 90])) : ∃ g cap, v = .slice (some ⟨g, 0, none⟩) (l.length + 2) cap ∧ B ≤ g ∧ Mkd w g cap l := by
 obtain ⟨h1, ⟨rfl, h2⟩ | ⟨g, cap, cur, rfl, hB, hg, hn, hm, hs, ht⟩⟩ := h
 ·simp at h2
 ·have e : (l ++ [165, 90]).length = l.length + 2 := by simp
  refine ⟨g, cap, by rw [e], hB, by omega, by omega, cur, hg, fun j x hj => ?_⟩
  have hjl := (List.getElem?_eq_some_iff.1 hj).1
  have e2 := congrArg (·[j]?) ht
  simp only [List.getElem?_take] at e2
  rw [if_pos (by omega)] at e2
  rw [← Array.getElem?_toList, e2]
  simp only [bv, List.getElem?_map, hj, Option.map_some]
set_option maxHeartbeats 1600000 in
set_option maxRecDepth 100000 in
theorem copy_a {w : World} {a : Option Addr} {cap : Nat} {l : List UInt8} (hb : BsA w (.slice a l.length cap) l) (hm : l.length ≤ 140737488351232) :
  Calls Tryz.prog 10 #[.slice a l.length cap] w fun e w' => ∃ g cap', e = .returned (.slice (some ⟨g, 0, none⟩) l.length cap') ∧ w.heap.size ≤ g ∧ Mkd w' g cap' l ∧ Below w.heap.size w w' := by
 obtain ⟨i0, hi, he⟩ := Option.map_eq_some_iff.1 info_u8
 simp only [Prod.mk.injEq] at he
 obtain ⟨hz0, hz1, hz2⟩ := he
 obtain ⟨w1, hmk, hown0, hg0⟩ := run_make_own (P := Tryz.prog) w w.heap.size 22 5 i0 (.int .u8 0) 1 Tryz.underlying22 hi hz0 hz1 .i64 .i64 (l.length + 2) (by rw [hz2]; omega) (by unfold maxLen; omega) (Nat.le_refl _)
 have ec : ((l.length + 2 : Nat) : Int) = (l.length : Int) + 2 := by omega
 rw [ec] at hmk
 replace hown0 : Ow w1 w.heap.size (.slice (some ⟨w.heap.size, 0, none⟩) 0 (l.length + 2)) [] := hown0
 have hb1 : Below w.heap.size w w1 := below_gr hg0 (fun k e => by cases e) (Nat.le_refl _)
 have hbs1 := hb.below hb1
 clear ec hi hz0 hz1 hz2 hg0
 go_enter Tryz.func10, Tryz.ntmps10
 go_wp2_with (first
  | (at_builtin; refine wpList_apc rfl (.tmp 6) (.tmp 7) rfl w.heap.size (.slice (some ⟨w.heap.size, 0, none⟩) 0 (l.length + 2)) [] rfl hown0 (.slice a l.length cap) l rfl hbs1 (by simp; omega) hb1.size ?_; intro v2 w2 hown2 hg2; have hb2 : Below w.heap.size w w2 := hb1.trans (below_gr hg2 (fun k e => hown0.block k e) hb1.size); clear hown0 hg2; rw [List.nil_append] at hown2)
  | (at_builtin; refine wpList_apc rfl (.tmp 8) (.tmp 9) rfl w.heap.size v2 l rfl (hown2.later (below_al _)) (.slice (some ⟨w2.heap.size, 0, none⟩) 2 2) [165, 90] rfl (two_b _) (by simp; omega) (by have := hb2.size; simp; omega) ?_; intro v3 w3 hown3 hg3; have hb3 : Below w.heap.size w w3 := (hb2.alloc hb2.size _).trans (below_gr hg3 (fun k e => hown2.block k e) (by have := hb2.size; simp; omega)); obtain ⟨g, cap3, hv3, hgb, hk3⟩ := hown3.mkd; have hk1 := hk3.1; have hk2 := hk3.2.1; unfold maxLen at hk2; clear hg3 hown3))
 go_ret
 exact ⟨g, cap3, rfl, hgb, hk3, hb3⟩
set_option maxHeartbeats 1600000 in
set_option maxRecDepth 100000 in
theorem kept_a {w : World} {g cap cap' : Nat} {a : Option Addr} {l : List UInt8} (hk : Mkd w g cap l) (hb : BsA w (.slice a l.length cap') l) :
  Calls Tryz.prog 13 #[.slice (some ⟨g, 0, none⟩) l.length cap, .slice a l.length cap'] w fun e w' => e = .returned (.bool true) ∧ w' = w := by
 have k1 := conv_b hk.bsa
 have k2 := conv_b hb
 have k3 : (binOp .neq 9 (.string (st l)) (.string (st l))).run Tryz.prog w = .ok (.bool (!decide (l = l))) w := str_ne l l w
 rw [decide_eq_true rfl] at k3
 obtain ⟨h3, h4, cur, hg, hr⟩ := hk
 unfold maxLen at h4
 have c1 : w.cell? ⟨g, l.length, none⟩ = some (.int .u8 165) := by
  simp only [World.cell?, hg]
  exact hr l.length 165 (by simp)
 have c2 : w.cell? ⟨g, l.length + 1, none⟩ = some (.int .u8 90) := by
  simp only [World.cell?, hg]
  exact hr (l.length + 1) 90 (by simp)
 clear hg hr
 go_enter Tryz.func13, Tryz.ntmps13
 go_wp2
 go_ret
 exact ⟨rfl, rfl⟩
end Go.Proofs.YtbemaloaobeblaaGreatDoor

namespace Go.Proofs.YtbemaloaobeblaaGreatDoor
open Go.RowKit Go.Maps

end Go.Proofs.YtbemaloaobeblaaGreatDoor

namespace Go.Proofs.YtbemaloaobeblaaGreatDoor
open Go.RowKit Go.Shelf

def bxw (w : World) (c : Array Value) : World := (w.alloc (.cells #[.int .i64 0, .int .i64 0, .string ⟨#[]⟩, .slice none 0 0, .slice none 0 0] 28)).setRow w.heap.size c
theorem bxw_z (w : World) : (w.alloc (.cells #[.int .i64 0, .int .i64 0, .string ⟨#[]⟩, .slice none 0 0, .slice none 0 0] 28)).heap[w.heap.size]? = some (.cells #[.int .i64 0, .int .i64 0, .string ⟨#[]⟩, .slice none 0 0, .slice none 0 0] 28 (0, 0)) := by
 show (w.heap.push _)[w.heap.size]? = _
 rw [Array.getElem?_push, if_pos rfl]
theorem bxw_at (w : World) (c : Array Value) : (bxw w c).heap[w.heap.size]? = some (.cells c 28 (0, 0)) := setRow_heap _ w.heap.size _ c _ _ (bxw_z w)
theorem bxw_bl (w : World) (c : Array Value) : Below w.heap.size w (bxw w c) := ⟨rfl, rfl, rfl, by simp [bxw, World.setRow], fun k hk => (setRow_other _ _ k _ (by omega)).trans (by
 show (w.heap.push _)[k]? = _
 rw [Array.getElem?_push, if_neg (by omega)])⟩
theorem bxw_sz (w : World) (c : Array Value) : (bxw w c).heap.size = w.heap.size + 1 := by simp [bxw, World.setRow]
theorem arr5q {c : Array Value} (h : c.size = 5) : ∃ a b d e f, c = #[a, b, d, e, f] := by
 obtain ⟨x0, x1, x2, x3, x4, hce⟩ := five_l (l := c.toList) (by simpa using h)
 exact ⟨x0, x1, x2, x3, x4, by cases c; simp at hce; simp [hce]⟩
def isC (l : List UInt8) : Bool := match prsV l with
 | none => false
 | some t => decide ((ct t).length ≤ 4096) && decide (ct t = l)
theorem prs_ok {l : List UInt8} {t : T} (h : prsV l = some t) : l.length ≤ 4096 ∧ hgt 9 t ∧ gd 8 t = true ∧ sbd 9 t := by
 have hl : l.length ≤ 4096 := by
  unfold prsV at h
  split at h
  ·cases h
  ·omega
 obtain ⟨r, hp⟩ : ∃ r, pv 8 l = some (t, r) := by
  unfold prsV at h
  rw [if_neg (by omega)] at h
  cases hpv : pv 8 l with
  | none => rw [hpv] at h; cases h
  | some x =>
   rw [hpv] at h
   obtain ⟨t', r⟩ := x
   simp only at h
   split at h
   ·cases h; exact ⟨r, rfl⟩
   ·cases h
 exact ⟨hl, pv_hgt 8 l t r hp hl, pv_gd 8 l t r hp hl, pv_sbd 8 l t r hp hl 9⟩
theorem st_beq (a b : List UInt8) : ((st a).toList == (st b).toList) = decide (a = b) := by
 have h := st_eq a b
 simp [← h]
set_option maxHeartbeats 4000000 in
set_option maxRecDepth 100000 in
theorem is_d {w : World} {v : Value} {l : List UInt8} (hb : BsA w v l) (hT : Ev w) (h8 : 8 ≤ w.heap.size) : Calls Tryz.prog 26 #[v] w fun e w' => e = .returned (.bool (isC l)) ∧ Below w.heap.size w w' := by
 have hp := parse_d hb hT h8
 obtain ⟨va, vc, rfl, hbb⟩ := hb
 have hb : BsA w (.slice va l.length vc) l := ⟨va, vc, rfl, hbb⟩
 clear hbb
 replace hT := hide1 hT
 replace hb := hide1 hb
 generalize hN : l.length = N at *
 replace hN := hide1 hN
 go_enter Tryz.func26, Tryz.ntmps26
 go_wp2_with fail
 refine hp.mono ?_
 rintro e w1 ⟨c, ev, rfl, h5, hco, b1, hc⟩
 obtain ⟨c0, c1, c2, c3, c4, rfl⟩ := arr5q h5
 go_upto_region 2 with (refine wpList_store_row rfl 28 (.tmp 3) (.tmp 9) rfl w1.heap.size #[c0, c1, c2, c3, c4] rfl rfl 28 _ (bxw_z w1) (by kernel_rfl) rfl hco ?_)
 have haA := bxw_at w1 #[c0, c1, c2, c3, c4]
 have hlA := bxw_bl w1 #[c0, c1, c2, c3, c4]
 have hsA := bxw_sz w1 #[c0, c1, c2, c3, c4]
 generalize hwe : bxw w1 #[c0, c1, c2, c3, c4] = wA at *
 rw [show (w1.alloc (.cells #[.int .i64 0, .int .i64 0, .string ⟨#[]⟩, .slice none 0 0, .slice none 0 0] 28)).setRow w1.heap.size #[c0, c1, c2, c3, c4] = wA from hwe]
 clear hwe
 have BA := hide1 (b1.trans (hlA.mono b1.size))
 rcases hc with ⟨t, ht, rfl, hv⟩ | ⟨ht, rfl, hz⟩
 ·obtain ⟨hl4, hh, hg, hs⟩ := prs_ok ht
  have hvA := hv.frame (w' := wA) (G := fun k => w.heap.size ≤ k ∧ k < w1.heap.size) (fun j h hj => hlA.block j hj) (fun _ h hk => ⟨h, hk⟩)
  have hbA := hide1 (hb.out.below BA.out)
  have hpu := put_c hh hs hvA (hT.out.below BA.out (by omega)) (by have := BA.out.size; omega)
  replace hpu : Calls Tryz.prog 20 #[.agg #[c0, c1, c2, c3, c4]] wA _ := hpu
  have hl5 : wA.rangeAt w1.heap.size 0 [c0, c1, c2, c3, c4] := fun j u hj => by
   simp only [World.cell?, haA]
   rw [Nat.zero_add]
   simpa using hj
  clear hv hvA hlA haA hb b1
  go_wp2_with (first | refine wpList_load_mid rfl 28 (.tmp 3) rfl w1.heap.size 0 rfl [c0, c1, c2, c3, c4] _ hl5 Tryz.underlying28 rfl (by kernel_rfl) ?_ | fail)
  refine hpu.mono ?_
  rintro e w2 ⟨v2, ev2, rfl, b2, h2⟩
  have B2 := hide1 (BA.out.trans (b2.mono BA.out.size))
  have hb2 := hide1 (hbA.out.below b2)
  have hbv := conv_b hb2.out
  rcases h2 with ⟨hg', _⟩ | ⟨_, h4, rfl, rfl⟩ | ⟨_, h4, rfl, ho⟩
  ·rw [hg] at hg'; cases hg'
  ·have hi : isC l = false := by unfold isC; rw [ht]; simp; omega
   have hfin := hide1 (show (Ending.returned (.bool false) = .returned (.bool (isC l))) ∧ Below w.heap.size w w2 from ⟨by rw [hi], B2.out⟩)
   clear hpu hl5 hh hg hs hl4 ht h4 hp hi b2 hbA hb2 BA
   go_wp2
   go_ret
   exact hfin.out
  ·have hi : isC l = decide (ct t = l) := by unfold isC; rw [ht]; simp; omega
   have hov := conv_b ho.bs
   have hfin := hide1 (show (Ending.returned (.bool ((st (ct t)).toList == (st l).toList)) = .returned (.bool (isC l))) ∧ Below w.heap.size w w2 from ⟨by rw [hi, st_beq], B2.out⟩)
   obtain ⟨oa, oc, rfl⟩ := ho.slc
   clear hpu hl5 hh hg hs hl4 ht hp hi b2 hbA hb2 BA ho
   generalize (ct t).length = M at *
   replace h4 := hide1 h4
   go_wp2
   go_ret
   exact hfin.out
 ·have hi : isC l = false := by unfold isC; rw [ht]

  have hE : prsE l = 10 ∨ prsE l = 1 := by unfold prsE; split <;> simp
  have hfin := hide1 (show (Ending.returned (.bool false) = .returned (.bool (isC l))) ∧ Below w.heap.size w wA from ⟨by rw [hi], BA.out⟩)
  clear hp hi BA haA hlA b1 ht hz hsA hco h5
  generalize prsE l = E at *
  rcases hE with rfl | rfl <;> (go_wp2; go_ret; exact hfin.out)
def tx3 : List UInt8 := [123, 32, 34, 98, 34, 32, 58, 32, 49, 44, 32, 34, 97, 34, 32, 58, 32, 34, 92, 117, 48, 48, 52, 49, 34, 32, 125]
def tv3 : T := .mk 5 0 [] [] [([98], .mk 2 1 [] [] []), ([97], .mk 3 0 [65] [] [])]
def cx3 : List UInt8 := [123, 34, 97, 34, 58, 34, 65, 34, 44, 34, 98, 34, 58, 49, 125]
set_option maxRecDepth 100000 in
theorem prs3 : prsV tx3 = some tv3 := rfl
set_option maxRecDepth 100000 in
theorem ct3 : ct tv3 = cx3 := by kernel_rfl
set_option maxRecDepth 100000 in
theorem isc3 : isC cx3 = true := by kernel_rfl
set_option maxRecDepth 100000 in
theorem isc4 : isC [91, 32, 93] = false := by rfl
set_option maxHeartbeats 8000000 in
set_option maxRecDepth 100000 in
theorem alive_c {w : World} (hT : Ev w) (h8 : 8 ≤ w.heap.size) : Calls Tryz.prog 18 #[] w fun e w' => e = .returned (.bool true) ∧ Below w.heap.size w w' := by
 have kc := fun (w : World) (C : Array Value) (n c : Nat) => Lib.run_convert_bytes_const (P := Tryz.prog) w 22 5 C n c Tryz.underlying22 Tryz.underlying5
 replace hT := hide1 hT
 go_enter Tryz.func18, Tryz.ntmps18
 go_wp2_with fail
 have hb1 : Below w.heap.size w (w.alloc (.cells #[.int .u8 123, .int .u8 32, .int .u8 34, .int .u8 98, .int .u8 34, .int .u8 32, .int .u8 58, .int .u8 32, .int .u8 49, .int .u8 44, .int .u8 32, .int .u8 34, .int .u8 97, .int .u8 34, .int .u8 32, .int .u8 58, .int .u8 32, .int .u8 34, .int .u8 92, .int .u8 117, .int .u8 48, .int .u8 48, .int .u8 52, .int .u8 49, .int .u8 34, .int .u8 32, .int .u8 125] 5 (27, 28))) := (Below.refl _ _).alloc (Nat.le_refl _) _
 refine (parse_d (l := tx3) (bsa_new rfl 27 rfl (27, 28)) (hT.out.below hb1 (by omega)) (by simp; omega)).mono ?_
 rintro e w1 ⟨c, ev, rfl, hcs, hco, b1, hx⟩
 have hb2 : Below w.heap.size w w1 := hb1.trans (b1.mono hb1.size)
 rcases hx with ⟨t, ht, rfl, hv⟩ | ⟨ht, _⟩
 case inr => rw [prs3] at ht; cases ht
 obtain ⟨-, hh, hg, hs⟩ := prs_ok ht
 rw [prs3] at ht
 obtain rfl : tv3 = t := Option.some.inj ht
 clear b1 hb1 ht
 obtain ⟨c0, c1, c2, c3, c4, rfl⟩ := arr5q hcs
 go_upto_region 2 with (refine wpList_store_row rfl 28 (.tmp 1) (.tmp 8) rfl w1.heap.size #[c0, c1, c2, c3, c4] rfl rfl 28 _ (bxw_z w1) (by kernel_rfl) rfl hco ?_)
 have haA := bxw_at w1 #[c0, c1, c2, c3, c4]
 have hlA := bxw_bl w1 #[c0, c1, c2, c3, c4]
 generalize hwe : bxw w1 #[c0, c1, c2, c3, c4] = wA at *
 rw [show (w1.alloc (.cells #[.int .i64 0, .int .i64 0, .string ⟨#[]⟩, .slice none 0 0, .slice none 0 0] 28)).setRow w1.heap.size #[c0, c1, c2, c3, c4] = wA from hwe]
 clear hwe
 have BA := hide1 (hb2.trans (hlA.mono hb2.size))
 have hvA := hv.frame (w' := wA) (G := fun _ => True) (fun j h hj => hlA.block j hj) (fun _ h hk => trivial)
 have hTA := hide1 (hT.out.below BA.out (by omega))
 have h8A : 8 ≤ wA.heap.size := by have := BA.out.size; omega
 have hpu := put_c hh hs hvA hTA.out h8A
 replace hpu : Calls Tryz.prog 20 #[.agg #[c0, c1, c2, c3, c4]] wA _ := hpu
 have hl5 : wA.rangeAt w1.heap.size 0 [c0, c1, c2, c3, c4] := fun j u hj => by
  simp only [World.cell?, haA]
  rw [Nat.zero_add]
  simpa using hj
 clear hv hvA hlA haA hb2
 go_wp2_with (first | refine wpList_load_mid rfl 28 (.tmp 1) rfl w1.heap.size 0 rfl [c0, c1, c2, c3, c4] _ hl5 Tryz.underlying28 rfl (by kernel_rfl) ?_ | fail)
 refine hpu.mono ?_
 rintro e w2 ⟨v2, ev2, rfl, b2, h2⟩
 have B2 := hide1 (BA.out.trans (b2.mono BA.out.size))
 have hT2 := hide1 (hTA.out.below b2 h8A)
 rcases h2 with ⟨hg', _⟩ | ⟨_, h4, _⟩ | ⟨_, h4, rfl, ho⟩
 ·rw [hg] at hg'; cases hg'
 ·rw [ct3] at h4; simp [cx3] at h4
 rw [ct3] at ho
 have hov := conv_b ho.bs
 obtain ⟨oa, oc, rfl⟩ := ho.slc
 have his := is_d ho.bs hT2.out (by have := B2.out.size; omega)
 rw [isc3] at his
 rw [show st cx3 = ⟨#[123, 34, 97, 34, 58, 34, 65, 34, 44, 34, 98, 34, 58, 49, 125]⟩ from rfl] at hov
 clear hpu hl5 b2 BA ho hh hg hs h4
 simp only [show cx3.length = 15 from rfl] at *
 go_wp2_with fail
 refine his.mono ?_
 rintro e w3 ⟨rfl, b3⟩
 have B3 := hide1 (B2.out.trans (b3.mono B2.out.size))
 have hT3 := hide1 (hT2.out.below b3 (by have := B2.out.size; omega))
 clear his b3 B2 hT2
 go_wp2_with fail
 have hb4 : Below w3.heap.size w3 (w3.alloc (.cells #[.int .u8 91, .int .u8 32, .int .u8 93] 5 (3, 4))) := (Below.refl _ _).alloc (Nat.le_refl _) _
 refine (is_d (l := [91, 32, 93]) (bsa_new rfl 3 rfl (3, 4)) (hT3.out.below hb4 (by have := B3.out.size; omega)) (by have := B3.out.size; simp; omega)).mono ?_
 rw [isc4]
 rintro e w4 ⟨rfl, b4⟩
 have B4 := hide1 ((B3.out.trans (hb4.mono B3.out.size)).trans (b4.mono (by have := B3.out.size; simp; omega)))
 go_wp2
 go_ret
 exact ⟨rfl, B4.out⟩
end Go.Proofs.YtbemaloaobeblaaGreatDoor

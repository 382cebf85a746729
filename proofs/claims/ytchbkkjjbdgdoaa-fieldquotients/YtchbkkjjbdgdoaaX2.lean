/- A body of statements whose orders are drawn: a whole region, and each kind of operation in it. -/
import Derived.Test.YtchbkkjjbdgdoaaX
namespace Go.Proofs.Ytchbkkjjbdgdoaa
open Go.RowKit

/-- The state between statements: what each slot and each block of the call's own holds. -/
structure St (W : World) (s : List SV) (m : List Blk) (β : Nat → Nat) (a : Act) (w : World) : Prop where
  tm : a = { tmps := (s.map (den β)).toArray, defers := [] }
  bel : Below W.heap.size W w
  row : ∀ b c, m[b]? = some c → w.heap[β b]? = some (.cells c.1 c.2 (0, 0))
  old : ∀ b, b < m.length → W.heap.size ≤ β b
  inj : ∀ b c, b < m.length → c < m.length → β b = β c → b = c
  live : ∀ t p, t < s.length → slot s t = .inr p → p.1 < m.length

def Ok1 (P : Program) (W : World) (ops : Array Oper) (s0 s1 : List SV) (z : List Blk) (y : List (Array Value)) (o : Oper) (e : Eff) : Prop :=
  (wantF ops s1 o = true ∧ OpOK P W s1 (match e.od with | false => s1 | true => s0) z y o e) ∨ (wantF ops s1 o = false ∧ e = ⟨none, none, none, false⟩ ∧ ∀ d, o.dst = some d → slot s1 d = .inl undef)

def AllOK (P : Program) (W : World) (ops : Array Oper) (s0 s1 : List SV) (z : List Blk) (y : List (Array Value)) : List Oper → List Eff → Prop
  | [], _ => True
  | o :: r, [] => Ok1 P W ops s0 s1 z y o ⟨none, none, none, false⟩ ∧ AllOK P W ops s0 s1 z y r []
  | o :: r, e :: es => Ok1 P W ops s0 s1 z y o e ∧ AllOK P W ops s0 s1 z y r es

def stB (E : List Eff) (b : Nat) : Bool := E.any fun e => e.st == some b
def fin (E : List Eff) (y : List (Array Value)) : Nat → List Blk → List Blk
  | _, [] => []
  | b, c :: r => (if stB E b then (y.getD b #[], c.2) else c) :: fin E y (b + 1) r
def madeB (E : List Eff) (k0 k1 : Nat) : Bool := (List.range k1).all fun b => Nat.blt b k0 || E.any fun e => e.nw == some b

section
variable {P : Program} {ops : Array Oper} {W : World} {s0 s1 : List SV} {z : List Blk} {y : List (Array Value)} {E : List Eff} {Q : Exit → Act → World → Prop}

theorem allOK_get : ∀ (l : List Oper) (es : List Eff), AllOK P W ops s0 s1 z y l es → ∀ j o, l[j]? = some o → Ok1 P W ops s0 s1 z y o (eff es j)
  | [], _, _, j, o, h => by simp at h
  | o' :: r, [], hA, 0, o, h => by simp at h; subst h; exact hA.1
  | o' :: r, [], hA, j + 1, o, h => by
    have := allOK_get r [] hA.2 j o (by simpa using h)
    simpa [eff] using this
  | o' :: r, e :: es, hA, 0, o, h => by simp at h; subst h; exact hA.1
  | o' :: r, e :: es, hA, j + 1, o, h => by
    have := allOK_get r es hA.2 j o (by simpa using h)
    simpa [eff] using this

theorem fin_get : ∀ (l : List Blk) (k b : Nat), (fin E y k l)[b]? = (l[b]?).map fun c => if stB E (k + b) then (y.getD (k + b) #[], c.2) else c
  | [], _, _ => by simp [fin]
  | c :: r, k, 0 => by simp [fin]
  | c :: r, k, b + 1 => by
    have := fin_get r (k + 1) b
    simp only [fin, List.getElem?_cons_succ, this, show k + 1 + b = k + (b + 1) by omega]
theorem fin_len (l : List Blk) (k : Nat) : (fin E y k l).length = l.length := by
  induction l generalizing k with
  | nil => rfl
  | cons c r ih => simp [fin, ih]

theorem stB_iff (n : Nat) (hn : E.length ≤ n) (b : Nat) : stB E b = true ↔ ∃ i, i < n ∧ (eff E i).st = some b := by
  unfold stB
  rw [List.any_eq_true]
  constructor
  · rintro ⟨e, he, h⟩
    obtain ⟨i, hi⟩ := List.getElem?_of_mem he
    have hl : i < E.length := (List.getElem?_eq_some_iff.1 hi).1
    exact ⟨i, by omega, by simp [eff, List.getD, hi]; simpa using h⟩
  · rintro ⟨i, _, h⟩
    by_cases hl : i < E.length
    · exact ⟨E[i], List.getElem_mem hl, by simp [eff, List.getD, hl] at h; simp [h]⟩
    · rw [eff_none (by omega)] at h; simp at h

theorem inv_start {m0 : List Blk} {β : Nat → Nat} {a : Act} {w : World} (h : St W s0 m0 β a w) (hz : z.take m0.length = m0) : Inv W ops s0 s1 z y E m0.length (fun _ => false) β a w.drew ∧ Inv W ops s0 s1 z y E m0.length (fun _ => false) β a w := by
  have hW : ∀ t, ¬ Wr ops (fun _ => false) t := by rintro t ⟨i, h, _⟩; cases h
  have hM : ∀ b, Mk E m0.length (fun _ => false) b → b < m0.length := by
    rintro b (h | ⟨i, h, _⟩)
    · exact h
    · cases h
  have hS : ∀ b, ¬ Sd E (fun _ => false) b := by rintro b ⟨i, h, _⟩; cases h
  have hr : ∀ b, b < m0.length → w.heap[β b]? = some (.cells (zc z b).1 (zc z b).2 (0, 0)) := by
    intro b hb
    have h1 : m0[b]? = some (zc z b) := by
      have : (z.take m0.length)[b]? = z[b]? := by rw [List.getElem?_take]; simp [hb]
      rw [hz] at this
      have h2 : m0[b]? = some m0[b] := by simp [hb]
      rw [this] at h2
      unfold zc
      rw [List.getD_eq_getElem?_getD, this, h2]; rfl
    exact h.row b _ h1
  have hu : ∀ t, t < s0.length → a.tmps.getD t undef = den β (slot s0 t) := by
    intro t ht
    rw [h.tm]
    simp [Array.getD, slot, ht]
  have hsz : a.tmps.size = s0.length := by rw [h.tm]; simp
  have hdf : a.defers = [] := by rw [h.tm]
  constructor
  · exact ⟨hdf, hsz, fun t _ hw => absurd hw (hW t), fun t ht _ => hu t ht, h.bel.drew, fun b hb => h.old b (hM b hb), fun b hb _ => hr b (hM b hb), fun b _ hs => absurd hs (hS b), fun b c hb hc => h.inj b c (hM b hb) (hM c hc), fun t p _ hw _ => absurd hw (hW t), fun t p ht hs => h.live t p ht hs, fun i o hi => by cases hi⟩
  · exact ⟨hdf, hsz, fun t _ hw => absurd hw (hW t), fun t ht _ => hu t ht, h.bel, fun b hb => h.old b (hM b hb), fun b hb _ => hr b (hM b hb), fun b _ hs => absurd hs (hS b), fun b c hb hc => h.inj b c (hM b hb) (hM c hc), fun t p _ hw _ => absurd hw (hW t), fun t p ht hs => h.live t p ht hs, fun i o hi => by cases hi⟩

theorem inv_end {m1 : List Blk} {k0 : Nat} {D : Nat → Bool} {β : Nat → Nat} {a : Act} {w : World} (h : Inv W ops s0 s1 z y E k0 D β a w) (hchk : chkB ops s0.length k0 z.length E = true) (hlen : s1.length = s0.length) (hmask : clr ops s1 = clr ops s0)
    (hmk : madeB E k0 z.length = true) (hk : k0 ≤ z.length) (hm1 : fin E y 0 z = m1) (hD : ∀ i, i < ops.size → D i = true) : St W s1 m1 β a w := by
  have hE : E.length ≤ ops.size := by
    unfold chkB at hchk
    simp only [Bool.and_eq_true] at hchk
    exact Nat.le_of_ble_eq_true hchk.1.2
  have hml : m1.length = z.length := by rw [← hm1, fin_len]
  have hMk : ∀ b, b < z.length → Mk E k0 D b := by
    intro b hb
    unfold madeB at hmk
    have := List.all_eq_true.1 hmk b (by simpa using hb)
    rcases Bool.or_eq_true_iff.1 this with h1 | h1
    · exact Or.inl (Nat.le_of_ble_eq_true h1)
    · obtain ⟨e, he, h2⟩ := List.any_eq_true.1 h1
      obtain ⟨i, hi⟩ := List.getElem?_of_mem he
      have hl : i < E.length := (List.getElem?_eq_some_iff.1 hi).1
      exact Or.inr ⟨i, hD i (by omega), by simp [eff, List.getD, hi]; simpa using h2⟩
  have hval : ∀ t, t < s0.length → a.tmps.getD t undef = den β (slot s1 t) := by
    intro t ht
    by_cases hw : Wr ops D t
    · exact h.wr t ht hw
    · have hn : ∀ i, dstAt ops i ≠ some t := by
        intro i hi
        refine hw ⟨i, hD i ?_, hi⟩
        unfold dstAt at hi
        rcases Nat.lt_or_ge i ops.size with h | h
        · exact h
        · simp [Array.getElem?_eq_none h] at hi
      rw [mask_eq hmask t hn]
      exact h.un t ht hw
  refine ⟨?_, h.bel, ?_, fun b hb => h.old b (hMk b (by omega)), fun b c hb hc => h.inj b c (hMk b (by omega)) (hMk c (by omega)), ?_⟩
  · have hdf := h.df
    cases a with
    | mk tmps defers =>
      simp only at hdf
      subst hdf
      congr 1
      apply Array.ext_getElem?
      intro t
      by_cases ht : t < s0.length
      · have h1 := hval t ht
        have h2 : t < tmps.size := by have := h.sz; simp only at this; omega
        have h3 : t < s1.length := by omega
        simp [Array.getD, h2, slot, h3] at h1
        simp [h2, h3, h1]
      · have h2 : ¬ t < tmps.size := by have := h.sz; simp only at this; omega
        have h3 : ¬ t < s1.length := by omega
        rw [Array.getElem?_eq_none (by omega), Array.getElem?_eq_none (by simp; omega)]
  · intro b c hb
    have hbl : b < z.length := by rw [← hml]; exact (List.getElem?_eq_some_iff.1 hb).1
    rw [← hm1, fin_get] at hb
    have hzb : z[b]? = some (zc z b) := by simp [zc, List.getD, hbl]
    rw [hzb] at hb
    simp only [Option.map_some, Nat.zero_add, Option.some.injEq] at hb
    by_cases hs : stB E b = true
    · rw [if_pos hs] at hb
      subst hb
      obtain ⟨i, hi, hst⟩ := (stB_iff ops.size hE b).1 hs
      exact h.ry b (hMk b hbl) ⟨i, hD i hi, hst⟩
    · rw [if_neg hs] at hb
      subst hb
      refine h.rz b (hMk b hbl) ?_
      rintro ⟨i, _, hst⟩
      refine hs ((stB_iff ops.size hE b).2 ⟨i, ?_, hst⟩)
      rcases Nat.lt_or_ge i ops.size with h | h
      · exact h
      · rw [eff_none (by omega)] at hst; cases hst
  · intro t p ht hs
    rw [hml]
    by_cases hw : Wr ops D t
    · rcases h.live t p (by omega) hw hs with h1 | ⟨i, hi, h1⟩
      · omega
      · have hio : i < ops.size := by
          rcases Nat.lt_or_ge i ops.size with h | h
          · exact h
          · rw [eff_none (by omega)] at h1; cases h1
        exact ((chk_of hchk i ops[i] (by simp [hio])).mkge p.1 h1).2.1
    · have hn : ∀ i, dstAt ops i ≠ some t := by
        intro i hi
        refine hw ⟨i, hD i ?_, hi⟩
        unfold dstAt at hi
        rcases Nat.lt_or_ge i ops.size with h | h
        · exact h
        · simp [Array.getElem?_eq_none h] at hi
      rw [mask_eq hmask t hn] at hs
      have := h.live0 t p (by omega) hs
      omega

theorem wpAny_sym (hacyc : ∀ i o, ops[i]? = some o → ∀ e ∈ o.after, Region.binds .any e = true → e.on < i) (I : (Nat → Bool) → Act → World → Prop)
    (hstep : ∀ D a w, I D a w → ∀ i o, ops[i]? = some o → D i = false → (∀ e ∈ o.after, Region.binds .any e = true → D e.on = true) → ∀ K : Act → World → Prop,
      (∀ a' w', I (add1 D i) a' w' → K a' w') → (Region.wanted o (yielded ops a.tmps) = true ∧ o.wp P a w K Q) ∨ (Region.wanted o (yielded ops a.tmps) = false ∧ K (a.put o.dst undef) w))
    (hend : ∀ D a w, I D a w → (∀ i, i < ops.size → D i = true) → Q .normal a w) :
    ∀ (fuel : Nat) (l : Array Bool) (a : Act) (w : World), l.size = ops.size → (l.toList.filter (!·)).length ≤ fuel → I (fun i => l.getD i false) a w → wpAny P .any ops Q fuel l a w
  | 0, l, a, w, hsz, hf, hi => by
    have hr : Region.ready .any ops l = [] := by
      rw [List.eq_nil_iff_forall_not_mem]
      intro j hj
      obtain ⟨h1, o, ho, _⟩ := mem_ready.1 hj
      have hjl : j < l.size := by rw [hsz]; exact (Array.getElem?_eq_some_iff.1 ho).1
      have h2 : l.toList[j]? = some false := by simp [Array.getD, hjl] at h1 ⊢; exact h1
      have := left_set l.toList j h2
      omega
    exact ⟨hr, hend _ _ _ hi (all_listed hsz hacyc hr)⟩
  | fuel + 1, l, a, w, hsz, hf, hi => by
    refine ⟨fun hr => hend _ _ _ hi (all_listed hsz hacyc hr), fun j hj => ?_⟩
    obtain ⟨h1, o, ho, hdep⟩ := mem_ready.1 hj
    have hjl : j < l.size := by rw [hsz]; exact (Array.getElem?_eq_some_iff.1 ho).1
    have h2 : l.toList[j]? = some false := by simp [Array.getD, hjl] at h1 ⊢; exact h1
    have h3 : l.getD j false = false := by simp [Array.getD, hjl] at h1 ⊢; exact h1
    have h4 := left_set l.toList j h2
    have hk := hstep _ a w hi j o ho h3 hdep (wpAny P .any ops Q fuel (l.setIfInBounds j true)) (fun a' w' h => by
      refine wpAny_sym hacyc I hstep hend fuel (l.setIfInBounds j true) a' w' (by simp [hsz]) (by simp; omega) ?_
      have e : (fun i => (l.setIfInBounds j true).getD i false) = add1 (fun i => l.getD i false) j := by
        funext i
        unfold add1
        by_cases h : i = j
        · subst h; simp [Array.getD, hjl]
        · have h' : ¬ j = i := fun x => h x.symm
          by_cases hil : i < l.size
          · simp [Array.getD, hil, h, h']
          · simp [Array.getD, hil, h]
      rw [e]; exact h)
    unfold wpOp
    simp only [ho]
    rcases hk with ⟨hw, hk⟩ | ⟨hw, hk⟩
    · simp only [hw, if_true]; exact Or.inl hk
    · simp only [hw, Bool.false_eq_true, if_false]; exact hk

theorem wpList_sym {k0 : Nat} (hall : chkB ops s0.length k0 z.length E = true) (hm : clr ops s1 = clr ops s0) (hok : ∀ j o, ops[j]? = some o → Ok1 P W ops s0 s1 z y o (eff E j))
    (hend : ∀ β D a w, Inv W ops s0 s1 z y E k0 D β a w → (∀ i, i < ops.size → D i = true) → Q .normal a w) :
    ∀ (l : List Oper) (k : Nat) (β : Nat → Nat) (a : Act) (w : World), (∀ j, l[j]? = ops[k + j]?) → Inv W ops s0 s1 z y E k0 (fun i => decide (i < k)) β a w → wpList P ops Q l a w
  | [], k, β, a, w, hl, hI => hend β _ a w hI (fun i hi => by
      have := hl (i - k)
      by_cases h : i < k
      · simp [h]
      · rw [show k + (i - k) = i by omega] at this
        simp [hi] at this)
  | o :: l, k, β, a, w, hl, hI => by
    have ho : ops[k]? = some o := by simpa using (hl 0).symm
    have hacyc := acyc_of (ops := ops) (by unfold chkB at hall; simp only [Bool.and_eq_true] at hall; exact hall.1.1)
    have hstep := hI.step (P := P) hall ho hm (fun e he hb => by simpa using hacyc k o ho e he hb) (by simp) (hok k o ho) (wpList P ops Q l) Q (fun β' a' w' h' => by
      refine wpList_sym hall hm hok hend l (k + 1) β' a' w' (fun j => by have := hl (j + 1); simpa [Nat.add_assoc, Nat.add_comm 1 j] using this) ?_
      have e : add1 (fun i => decide (i < k)) k = fun i => decide (i < k + 1) := by
        funext i
        unfold add1
        by_cases h : i = k
        · simp [h]
        · simp [h]; omega
      rw [← e]; exact h')
    unfold wpList
    rcases hstep with ⟨hw, hk⟩ | ⟨hw, hk⟩
    · simp only [hw, if_true]; exact Or.inl hk
    · simp only [hw, Bool.false_eq_true, if_false]; exact hk

/-- A whole region, its order drawn or not. -/
theorem St.region {id : Nat} {m0 : List Blk} {β : Nat → Nat} {a : Act} {w : World} {l : List Oper} {draw : Bool} (h : St W s0 m0 β a w) (s1 cl : List SV) (m1 z : List Blk) (y : List (Array Value)) (E : List Eff) (hm : P.follows .mixedOrders = true)
    (hchk : chkB l.toArray s0.length m0.length z.length E = true) (hlen : Nat.beq s1.length s0.length = true) (hmask1 : clr l.toArray s1 = cl) (hmask0 : clr l.toArray s0 = cl) (hz : z.take m0.length = m0) (hk : Nat.ble m0.length z.length = true) (hmk : madeB E m0.length z.length = true) (hm1 : fin E y 0 z = m1)
    (hok : AllOK P W l.toArray s0 s1 z y l E) (hend : ∀ β a w, St W s1 m1 β a w → Q .normal a w) : (Code.region id l.toArray draw).wp P Q a w := by
  have hk := Nat.le_of_ble_eq_true hk
  have hlen := Nat.beq_eq.mp hlen
  have hmask : clr l.toArray s1 = clr l.toArray s0 := hmask1.trans hmask0.symm
  have hacyc := acyc_of (ops := l.toArray) (by unfold chkB at hchk; simp only [Bool.and_eq_true] at hchk; exact hchk.1.1)
  have hok' : ∀ j o, l.toArray[j]? = some o → Ok1 P W l.toArray s0 s1 z y o (eff E j) := fun j o ho => allOK_get l E hok j o (by simpa using ho)
  obtain ⟨i1, i2⟩ := inv_start (ops := l.toArray) (s1 := s1) (z := z) (y := y) (E := E) h hz
  cases draw with
  | true =>
    refine wp_region_any hm (wpAny_sym hacyc (fun D a w => ∃ β, Inv W l.toArray s0 s1 z y E m0.length D β a w) ?_ ?_ l.toArray.size _ a _ (by simp) ?_ ?_)
    · rintro D a w ⟨β, hI⟩ i o ho hD hdep K hK
      exact hI.step hchk ho hmask hdep hD (hok' i o ho) K Q (fun β' a' w' h' => hK a' w' ⟨β', h'⟩)
    · rintro D a w ⟨β, hI⟩ hall
      exact hend β a w (inv_end hI hchk hlen hmask hmk hk hm1 hall)
    · exact Nat.le_trans (List.length_filter_le _ _) (by simp)
    · have e : (fun i => (Array.replicate l.toArray.size false).getD i false) = (fun _ => false) := by
        funext i
        by_cases h : i < l.toArray.size <;> simp [Array.getD]
      rw [e]; exact ⟨β, i1⟩
  | false =>
    refine wp_region ?_
    have e := wpOps_eq_wpList (P := P) (ops := l.toArray) (Q := Q) l 0 (by simp)
    rw [show List.range l.toArray.size = List.range' 0 l.length by simp [List.range_eq_range'], e]
    refine wpList_sym hchk hmask hok' (fun β D a w hI hall => hend β a w (inv_end hI hchk hlen hmask hmk hk hm1 hall)) l 0 β a w (by simp) ?_
    have e2 : (fun i : Nat => decide (i < 0)) = fun _ => false := by funext i; simp
    rw [e2]; exact i2
end
end Go.Proofs.Ytchbkkjjbdgdoaa

/- A body of statements whose orders are drawn, walked by what each slot and each block of the call's own comes to: each operation is looked at once, whatever the order. -/
import Derived.Test.YtchbkkjjbdgdoaaW7
namespace Go.Proofs.Ytchbkkjjbdgdoaa
open Go.RowKit

/-- A slot's value: a plain one, or an address in a block that the call made. -/
abbrev SV := Sum Value (Nat × Nat)
def den (β : Nat → Nat) : SV → Value
  | .inl v => v
  | .inr p => .pointer (some ⟨β p.1, p.2, none⟩)
abbrev Blk := Array Value × TypeId
/-- What an operation does to blocks: the one that it makes, the one that it writes, the one that it reads; whether it reads slots as they stood ahead of the region. -/
structure Eff where
  nw : Option Nat
  st : Option Nat
  rd : Option Nat
  od : Bool

def slot (s : List SV) (t : Nat) : SV := s.getD t (.inl undef)
def eff (E : List Eff) (i : Nat) : Eff := E.getD i ⟨none, none, none, false⟩
def zc (z : List Blk) (b : Nat) : Blk := z.getD b (#[], 0)
def tmpsOf (o : Oper) : List Tmp := o.op.operands.toList.filterMap fun x => match x with
  | .tmp t => some t
  | _ => none
def dstAt (ops : Array Oper) (i : Nat) : Option Tmp := (ops[i]?).bind (·.dst)
def gdOf (ops : Array Oper) (o : Oper) : List Tmp := match o.guard with
  | none => []
  | some (j, _) => (dstAt ops j).toList

def Wr (ops : Array Oper) (D : Nat → Bool) (t : Nat) : Prop := ∃ i, D i = true ∧ dstAt ops i = some t
def Mk (E : List Eff) (k0 : Nat) (D : Nat → Bool) (b : Nat) : Prop := b < k0 ∨ ∃ i, D i = true ∧ (eff E i).nw = some b
def Sd (E : List Eff) (D : Nat → Bool) (b : Nat) : Prop := ∃ i, D i = true ∧ (eff E i).st = some b

/-- What holds while a region runs: D tells which operations have come up. -/
structure Inv (W : World) (ops : Array Oper) (s0 s1 : List SV) (z : List Blk) (y : List (Array Value)) (E : List Eff) (k0 : Nat) (D : Nat → Bool) (β : Nat → Nat) (a : Act) (w : World) : Prop where
  df : a.defers = []
  sz : a.tmps.size = s0.length
  wr : ∀ t, t < s0.length → Wr ops D t → a.tmps.getD t undef = den β (slot s1 t)
  un : ∀ t, t < s0.length → ¬ Wr ops D t → a.tmps.getD t undef = den β (slot s0 t)
  bel : Below W.heap.size W w
  old : ∀ b, Mk E k0 D b → W.heap.size ≤ β b
  rz : ∀ b, Mk E k0 D b → ¬ Sd E D b → w.heap[β b]? = some (.cells (zc z b).1 (zc z b).2 (0, 0))
  ry : ∀ b, Mk E k0 D b → Sd E D b → w.heap[β b]? = some (.cells (y.getD b #[]) (zc z b).2 (0, 0))
  inj : ∀ b c, Mk E k0 D b → Mk E k0 D c → β b = β c → b = c
  live : ∀ t p, t < s0.length → Wr ops D t → slot s1 t = .inr p → Mk E k0 D p.1
  live0 : ∀ t p, t < s0.length → slot s0 t = .inr p → p.1 < k0
  down : ∀ i o, D i = true → ops[i]? = some o → ∀ e ∈ o.after, Region.binds .any e = true → D e.on = true

/-- What an operation leaves. -/
def Post (s1 : List SV) (z : List Blk) (y : List (Array Value)) (o : Oper) (e : Eff) (β : Nat → Nat) (w : World) (v : Value) (w' : World) : Prop :=
  match e.nw, e.st with
  | some b, _ => v = .pointer (some ⟨w.heap.size, 0, none⟩) ∧ w' = w.alloc (.cells (zc z b).1 (zc z b).2)
  | none, some b => v = undef ∧ w' = w.setRow (β b) (y.getD b #[])
  | none, none => (∀ d, o.dst = some d → v = den β (slot s1 d)) ∧ Below w.heap.size w w'

structure OpOK (P : Program) (W : World) (s1 sr : List SV) (z : List Blk) (y : List (Array Value)) (o : Oper) (e : Eff) : Prop where
  ptr : ∀ b, (e.rd = some b ∨ e.st = some b ∨ (e.nw = none ∧ ∃ d off, o.dst = some d ∧ slot s1 d = .inr (b, off))) → ∃ t ∈ tmpsOf o, ∃ off, slot sr t = .inr (b, off)
  mkd : ∀ b, e.nw = some b → ∃ d, o.dst = some d ∧ slot s1 d = .inr (b, 0)
  std : ∀ b, e.nw = none → e.st = some b → o.dst = none
  run : ∀ (β : Nat → Nat) (a : Act) (w : World), (∀ t ∈ tmpsOf o, a.eval (.tmp t) = den β (slot sr t)) → Below W.heap.size W w →
    (∀ b, e.rd = some b ∨ e.st = some b → w.heap[β b]? = some (.cells (zc z b).1 (zc z b).2 (0, 0))) →
    ∀ (K : Act → World → Prop) (Q : Exit → Act → World → Prop), (∀ v w', Post s1 z y o e β w v w' → K (a.put o.dst v) w') → o.wp P a w K Q

def boolOf : SV → Option Bool
  | .inl (.bool b) => some b
  | _ => none
def wantF (ops : Array Oper) (s1 : List SV) (o : Oper) : Bool := match o.guard with
  | none => true
  | some (j, want) => ((dstAt ops j).bind fun d => boolOf (slot s1 d)) == some want

def reach (ops : Array Oper) : Nat → Nat → Nat → Bool
  | 0, _, _ => false
  | f + 1, s, i => match ops[s]? with
    | none => false
    | some o => o.after.any fun e => Region.binds .any e && (Nat.beq e.on i || reach ops f e.on i)

def opB (ops : Array Oper) (n k0 k1 : Nat) (E : List Eff) (i : Nat) (o : Oper) : Bool :=
  ((gdOf ops o).all fun t => Nat.blt t n && (List.range ops.size).all fun j => !(dstAt ops j == some t) || o.after.any fun e => Region.binds .any e && Nat.beq e.on j) &&
  ((tmpsOf o).all fun t => Nat.blt t n && (List.range ops.size).all fun j => !(dstAt ops j == some t) || (match (eff E i).od with
    | false => o.after.any fun e => Region.binds .any e && Nat.beq e.on j
    | true => reach ops 4 j i)) &&
  (match o.dst with
    | none => true
    | some d => Nat.blt d n && (List.range ops.size).all fun j => !(dstAt ops j == some d) || Nat.beq j i) &&
  (match (eff E i).nw with
    | none => true
    | some b => Nat.ble k0 b && Nat.blt b k1 && (eff E i).st == none && (List.range ops.size).all fun j => !((eff E j).nw == some b) || Nat.beq j i) &&
  (match (eff E i).st with
    | none => true
    | some b => (List.range ops.size).all fun j => (!((eff E j).st == some b) || Nat.beq j i) && (!((eff E j).nw == some b) || reach ops 4 i j)) &&
  (match (eff E i).rd with
    | none => true
    | some b => (List.range ops.size).all fun j => !((eff E j).st == some b) || reach ops 4 j i)

def chkB (ops : Array Oper) (n k0 k1 : Nat) (E : List Eff) : Bool :=
  acycB ops && Nat.ble E.length ops.size && (List.range ops.size).all fun i => match ops[i]? with
    | none => true
    | some o => opB ops n k0 k1 E i o

theorem reach_down {ops : Array Oper} {D : Nat → Bool} (hd : ∀ i o, D i = true → ops[i]? = some o → ∀ e ∈ o.after, Region.binds .any e = true → D e.on = true) :
    ∀ f s i, reach ops f s i = true → D s = true → D i = true := by
  intro f
  induction f with
  | zero => intro s i h; simp [reach] at h
  | succ f ih =>
    intro s i h hs
    simp only [reach] at h
    cases ho : ops[s]? with
    | none => simp [ho] at h
    | some o =>
      simp only [ho] at h
      obtain ⟨e, he, h1⟩ := Array.any_eq_true'.1 h
      simp only [Bool.and_eq_true, Bool.or_eq_true] at h1
      have hde := hd s o hs ho e he h1.1
      rcases h1.2 with h2 | h2
      · rw [Nat.beq_eq] at h2; rw [← h2]; exact hde
      · exact ih _ _ h2 hde

/-- What the table of checks says of one operation. -/
structure Chk (ops : Array Oper) (n k0 k1 : Nat) (E : List Eff) (i : Nat) (o : Oper) : Prop where
  glt : ∀ t ∈ gdOf ops o, t < n
  gedge : ∀ t ∈ gdOf ops o, ∀ j, dstAt ops j = some t → ∃ e ∈ o.after, Region.binds .any e = true ∧ e.on = j
  rlt : ∀ t ∈ tmpsOf o, t < n
  redge : (eff E i).od = false → ∀ t ∈ tmpsOf o, ∀ j, dstAt ops j = some t → ∃ e ∈ o.after, Region.binds .any e = true ∧ e.on = j
  rlate : (eff E i).od = true → ∀ t ∈ tmpsOf o, ∀ j, dstAt ops j = some t → reach ops 4 j i = true
  dlt : ∀ d, o.dst = some d → d < n
  duniq : ∀ d j, o.dst = some d → dstAt ops j = some d → j = i
  mkge : ∀ b, (eff E i).nw = some b → k0 ≤ b ∧ b < k1 ∧ (eff E i).st = none
  mkuniq : ∀ b j, (eff E i).nw = some b → (eff E j).nw = some b → j = i
  stuniq : ∀ b j, (eff E i).st = some b → (eff E j).st = some b → j = i
  stmk : ∀ b j, (eff E i).st = some b → (eff E j).nw = some b → reach ops 4 i j = true
  rdst : ∀ b j, (eff E i).rd = some b → (eff E j).st = some b → reach ops 4 j i = true

theorem eff_none {E : List Eff} {i : Nat} (h : E.length ≤ i) : eff E i = ⟨none, none, none, false⟩ := by simp [eff, List.getD, List.getElem?_eq_none h]

theorem chk_of {ops : Array Oper} {n k0 k1 : Nat} {E : List Eff} (h : chkB ops n k0 k1 E = true) (i : Nat) (o : Oper) (ho : ops[i]? = some o) : Chk ops n k0 k1 E i o := by
  unfold chkB at h
  simp only [Bool.and_eq_true, List.all_eq_true, List.mem_range] at h
  obtain ⟨⟨_, hE⟩, h⟩ := h
  have hE := Nat.le_of_ble_eq_true hE
  have hi : i < ops.size := (Array.getElem?_eq_some_iff.1 ho).1
  have hlt : ∀ j t, dstAt ops j = some t → j < ops.size := by
    intro j t hj
    unfold dstAt at hj
    rcases Nat.lt_or_ge j ops.size with h | h
    · exact h
    · simp [Array.getElem?_eq_none h] at hj
  have hle : ∀ j, ((eff E j).nw ≠ none ∨ (eff E j).st ≠ none) → j < ops.size := by
    intro j hj
    rcases Nat.lt_or_ge j ops.size with h | h
    · exact h
    · rw [eff_none (by omega)] at hj; simp at hj
  have h := h i hi
  simp only [ho] at h
  unfold opB at h
  simp only [Bool.and_eq_true] at h
  obtain ⟨⟨⟨⟨⟨h0, h1⟩, h2⟩, h3⟩, h4⟩, h5⟩ := h
  simp only [List.all_eq_true, Bool.and_eq_true, List.mem_range] at h0 h1
  refine ⟨fun t ht => by have := (h0 t ht).1; exact Nat.le_of_ble_eq_true this, fun t ht j hj => ?_, fun t ht => by have := (h1 t ht).1; exact Nat.le_of_ble_eq_true this, fun hod t ht j hj => ?_, fun hod t ht j hj => ?_, fun d hd => ?_, fun d j hd hj => ?_, fun b hb => ?_, fun b j hb hj => ?_, fun b j hb hj => ?_, fun b j hb hj => ?_, fun b j hb hj => ?_⟩
  · have := (h0 t ht).2 j (hlt j t hj)
    simp only [hj, beq_self_eq_true, Bool.not_true, Bool.false_or] at this
    obtain ⟨e, he, h6⟩ := Array.any_eq_true'.1 this
    simp only [Bool.and_eq_true] at h6
    exact ⟨e, he, h6.1, Nat.beq_eq.mp h6.2⟩
  · have := (h1 t ht).2 j (hlt j t hj)
    simp only [hj, beq_self_eq_true, Bool.not_true, Bool.false_or, hod] at this
    obtain ⟨e, he, h6⟩ := Array.any_eq_true'.1 this
    simp only [Bool.and_eq_true] at h6
    exact ⟨e, he, h6.1, Nat.beq_eq.mp h6.2⟩
  · have := (h1 t ht).2 j (hlt j t hj)
    simpa only [hj, beq_self_eq_true, Bool.not_true, Bool.false_or, hod] using this
  · simp only [hd, Bool.and_eq_true] at h2; exact Nat.le_of_ble_eq_true h2.1
  · simp only [hd, Bool.and_eq_true, List.all_eq_true, List.mem_range] at h2
    have := h2.2 j (hlt j d hj)
    simp only [hj, beq_self_eq_true, Bool.not_true, Bool.false_or] at this
    exact Nat.beq_eq.mp this
  · simp only [hb, Bool.and_eq_true] at h3
    exact ⟨Nat.le_of_ble_eq_true h3.1.1.1, Nat.le_of_ble_eq_true h3.1.1.2, by simpa using h3.1.2⟩
  · simp only [hb, Bool.and_eq_true, List.all_eq_true, List.mem_range] at h3
    have := h3.2 j (hle j (by simp [hj]))
    simp only [hj, beq_self_eq_true, Bool.not_true, Bool.false_or] at this
    exact Nat.beq_eq.mp this
  · simp only [hb, Bool.and_eq_true, List.all_eq_true, List.mem_range] at h4
    have := (h4 j (hle j (by simp [hj]))).1
    simp only [hj, beq_self_eq_true, Bool.not_true, Bool.false_or] at this
    exact Nat.beq_eq.mp this
  · simp only [hb, Bool.and_eq_true, List.all_eq_true, List.mem_range] at h4
    have := (h4 j (hle j (by simp [hj]))).2
    simpa only [hj, beq_self_eq_true, Bool.not_true, Bool.false_or] using this
  · simp only [hb, List.all_eq_true, List.mem_range] at h5
    have := h5 j (hle j (by simp [hj]))
    simpa only [hj, beq_self_eq_true, Bool.not_true, Bool.false_or] using this

/-- All slots that the region writes, cleared. -/
def clr (ops : Array Oper) (s : List SV) : List SV := (ops.toList.filterMap (·.dst)).foldl (fun s d => s.set d (.inl undef)) s

theorem foldl_set_getD : ∀ (ds : List Nat) (s : List SV) (t : Nat), t ∉ ds → slot (ds.foldl (fun s d => s.set d (.inl undef)) s) t = slot s t := by
  intro ds
  induction ds with
  | nil => intro s t _; rfl
  | cons d ds ih =>
    intro s t ht
    simp only [List.mem_cons, not_or] at ht
    rw [List.foldl_cons, ih _ _ ht.2]
    unfold slot
    simp only [List.getD_eq_getElem?_getD, List.getElem?_set]
    have : ¬ d = t := fun h => ht.1 h.symm
    simp [this]

theorem mask_eq {ops : Array Oper} {s0 s1 : List SV} (hm : clr ops s1 = clr ops s0) (t : Nat) (h : ∀ i, dstAt ops i ≠ some t) : slot s1 t = slot s0 t := by
  have hn : t ∉ ops.toList.filterMap (·.dst) := by
    intro hmem
    obtain ⟨o, ho, hd⟩ := List.mem_filterMap.1 hmem
    obtain ⟨i, hi⟩ := List.getElem?_of_mem ho
    refine h i ?_
    unfold dstAt
    simp at hi
    simp [hi, hd]
  have h1 := foldl_set_getD _ s1 t hn
  have h0 := foldl_set_getD _ s0 t hn
  unfold clr at hm
  rw [← h1, hm, h0]

theorem put_getD (a : Act) (dst : Option Tmp) (v : Value) (t : Nat) : (a.put dst v).tmps.getD t undef = if dst = some t ∧ t < a.tmps.size then v else a.tmps.getD t undef := by
  cases dst with
  | none => simp [Act.put]
  | some d =>
    simp only [Act.put]
    by_cases h : d = t
    · subst h
      by_cases hl : d < a.tmps.size
      · simp [Array.getD, hl]
      · simp [Array.getD, hl]
    · have : ¬ (some d = some t ∧ t < a.tmps.size) := by simp [h]
      rw [if_neg this]
      by_cases hl : t < a.tmps.size
      · simp [Array.getD, hl, h]
      · simp [Array.getD, hl]
theorem put_size (a : Act) (dst : Option Tmp) (v : Value) : (a.put dst v).tmps.size = a.tmps.size := by cases dst <;> simp [Act.put]
theorem put_df (a : Act) (dst : Option Tmp) (v : Value) : (a.put dst v).defers = a.defers := by cases dst <;> rfl

def add1 (D : Nat → Bool) (i : Nat) : Nat → Bool := fun j => if j = i then true else D j

section
variable {P : Program} {ops : Array Oper} {W : World} {s0 s1 : List SV} {z : List Blk} {y : List (Array Value)} {E : List Eff} {k0 k1 : Nat} {D : Nat → Bool} {β : Nat → Nat} {a : Act} {w : World} {i : Nat} {o : Oper}

theorem wr_add (ho : ops[i]? = some o) (t : Nat) : Wr ops (add1 D i) t ↔ (Wr ops D t ∨ o.dst = some t) := by
  have hd : dstAt ops i = o.dst := by simp [dstAt, ho]
  unfold Wr add1
  constructor
  · rintro ⟨j, hj, ht⟩
    by_cases h : j = i
    · subst h; right; rw [← hd]; exact ht
    · left; exact ⟨j, by simpa [h] using hj, ht⟩
  · rintro (⟨j, hj, ht⟩ | h)
    · exact ⟨j, by split <;> simp_all, ht⟩
    · exact ⟨i, by simp, by rw [hd]; exact h⟩
theorem mk_add (b : Nat) : Mk E k0 (add1 D i) b ↔ (Mk E k0 D b ∨ (eff E i).nw = some b) := by
  unfold Mk add1
  constructor
  · rintro (h | ⟨j, hj, ht⟩)
    · exact Or.inl (Or.inl h)
    by_cases h : j = i
    · subst h; right; exact ht
    · left; right; exact ⟨j, by simpa [h] using hj, ht⟩
  · rintro ((h | ⟨j, hj, ht⟩) | h)
    · exact Or.inl h
    · exact Or.inr ⟨j, by split <;> simp_all, ht⟩
    · exact Or.inr ⟨i, by simp, h⟩
theorem sd_add (b : Nat) : Sd E (add1 D i) b ↔ (Sd E D b ∨ (eff E i).st = some b) := by
  unfold Sd add1
  constructor
  · rintro ⟨j, hj, ht⟩
    by_cases h : j = i
    · subst h; right; exact ht
    · left; exact ⟨j, by simpa [h] using hj, ht⟩
  · rintro (⟨j, hj, ht⟩ | h)
    · exact ⟨j, by split <;> simp_all, ht⟩
    · exact ⟨i, by simp, h⟩

/-- What an operation reads is what its slot comes to. -/
theorem Inv.reads_g (h : Inv W ops s0 s1 z y E k0 D β a w) (hc : Chk ops s0.length k0 k1 E i o) (hm : clr ops s1 = clr ops s0) (hdep : ∀ e ∈ o.after, Region.binds .any e = true → D e.on = true)
    (t : Nat) (ht : t ∈ gdOf ops o) : a.tmps.getD t undef = den β (slot s1 t) := by
  have hlt := hc.glt t ht
  by_cases hw : ∃ j, dstAt ops j = some t
  · obtain ⟨j, hj⟩ := hw
    obtain ⟨e, he, hb, rfl⟩ := hc.gedge t ht j hj
    exact h.wr t hlt ⟨e.on, hdep e he hb, hj⟩
  · have hn : ∀ j, dstAt ops j ≠ some t := fun j hj => hw ⟨j, hj⟩
    have hW : ¬ Wr ops D t := fun ⟨j, _, hj⟩ => hn j hj
    rw [mask_eq hm t hn]
    exact h.un t hlt hW
def srd (E : List Eff) (i : Nat) (s0 s1 : List SV) : List SV := match (eff E i).od with
  | false => s1
  | true => s0
theorem Inv.reads (h : Inv W ops s0 s1 z y E k0 D β a w) (hc : Chk ops s0.length k0 k1 E i o) (hm : clr ops s1 = clr ops s0) (hdep : ∀ e ∈ o.after, Region.binds .any e = true → D e.on = true) (hD : D i = false)
    (t : Nat) (ht : t ∈ tmpsOf o) : a.tmps.getD t undef = den β (slot (srd E i s0 s1) t) ∧ (∀ p, slot (srd E i s0 s1) t = .inr p → Mk E k0 D p.1) := by
  have hlt := hc.rlt t ht
  unfold srd
  cases hod : (eff E i).od with
  | false =>
    simp only
    by_cases hw : ∃ j, dstAt ops j = some t
    · obtain ⟨j, hj⟩ := hw
      obtain ⟨e, he, hb, rfl⟩ := hc.redge hod t ht j hj
      have hW : Wr ops D t := ⟨e.on, hdep e he hb, hj⟩
      exact ⟨h.wr t hlt hW, fun p hp => h.live t p hlt hW hp⟩
    · have hn : ∀ j, dstAt ops j ≠ some t := fun j hj => hw ⟨j, hj⟩
      have hW : ¬ Wr ops D t := fun ⟨j, _, hj⟩ => hn j hj
      rw [mask_eq hm t hn]
      exact ⟨h.un t hlt hW, fun p hp => Or.inl (h.live0 t p hlt hp)⟩
  | true =>
    simp only
    have hW : ¬ Wr ops D t := fun ⟨j, hDj, hj⟩ => by
      have := reach_down h.down _ _ _ (hc.rlate hod t ht j hj) hDj
      rw [hD] at this; cases this
    exact ⟨h.un t hlt hW, fun p hp => Or.inl (h.live0 t p hlt hp)⟩

theorem down_add (h : Inv W ops s0 s1 z y E k0 D β a w) (ho : ops[i]? = some o) (hdep : ∀ e ∈ o.after, Region.binds .any e = true → D e.on = true) :
    ∀ j o', add1 D i j = true → ops[j]? = some o' → ∀ e ∈ o'.after, Region.binds .any e = true → add1 D i e.on = true := by
  intro j o' hj ho' e he hb
  have : D e.on = true := by
    by_cases hji : j = i
    · subst hji; rw [ho] at ho'; cases ho'; exact hdep e he hb
    · exact h.down j o' (by simpa [add1, hji] using hj) ho' e he hb
  unfold add1; split <;> simp_all

/-- An operation that leaves all blocks alone. -/
theorem Inv.quiet (h : Inv W ops s0 s1 z y E k0 D β a w) (ho : ops[i]? = some o) (hc : Chk ops s0.length k0 k1 E i o) (hdep : ∀ e ∈ o.after, Region.binds .any e = true → D e.on = true) (hD : D i = false)
    (hmk : (eff E i).nw = none) (hst : (eff E i).st = none) (v : Value) (w' : World) (hv : ∀ d, o.dst = some d → v = den β (slot s1 d)) (hb : Below w.heap.size w w')
    (hp : ∀ d p, o.dst = some d → slot s1 d = .inr p → Mk E k0 D p.1) : Inv W ops s0 s1 z y E k0 (add1 D i) β (a.put o.dst v) w' := by
  have hM : ∀ b, Mk E k0 (add1 D i) b ↔ Mk E k0 D b := fun b => by rw [mk_add, hmk]; simp
  have hS : ∀ b, Sd E (add1 D i) b ↔ Sd E D b := fun b => by rw [sd_add, hst]; simp
  have hnd : ∀ d, o.dst = some d → ¬ Wr ops D d := fun d hd ⟨j, hj, hdj⟩ => by
    have := hc.duniq d j hd hdj; subst this; rw [hD] at hj; cases hj
  refine ⟨by rw [put_df]; exact h.df, by rw [put_size]; exact h.sz, ?_, ?_, h.bel.trans (hb.mono h.bel.size), fun b hb => h.old b ((hM b).1 hb), ?_, ?_, fun b c h1 h2 => h.inj b c ((hM b).1 h1) ((hM c).1 h2), ?_, h.live0, down_add h ho hdep⟩
  · intro t ht hw
    rw [put_getD, h.sz]
    by_cases e : o.dst = some t
    · rw [if_pos ⟨e, ht⟩]; exact hv t e
    · rw [if_neg (fun x => e x.1)]
      exact h.wr t ht (((wr_add ho t).1 hw).resolve_right e)
  · intro t ht hw
    rw [put_getD]
    have e : ¬ o.dst = some t := fun e => hw ((wr_add ho t).2 (Or.inr e))
    rw [if_neg (fun x => e x.1)]
    exact h.un t ht (fun x => hw ((wr_add ho t).2 (Or.inl x)))
  · intro b h1 h2
    exact row_below (h.rz b ((hM b).1 h1) (fun x => h2 ((hS b).2 x))) hb
  · intro b h1 h2
    exact row_below (h.ry b ((hM b).1 h1) ((hS b).1 h2)) hb
  · intro t p ht hw hs
    refine (hM _).2 ?_
    by_cases e : o.dst = some t
    · exact hp t p e hs
    · exact h.live t p ht (((wr_add ho t).1 hw).resolve_right e) hs

/-- An operation that makes a block. -/
theorem Inv.make (h : Inv W ops s0 s1 z y E k0 D β a w) (ho : ops[i]? = some o) (hc : Chk ops s0.length k0 k1 E i o) (hS0 : ∀ s b, (eff E s).st = some b → (eff E i).nw = some b → reach ops 4 s i = true) (hdep : ∀ e ∈ o.after, Region.binds .any e = true → D e.on = true) (hD : D i = false)
    (b : Nat) (hmk : (eff E i).nw = some b) (d : Tmp) (hd : o.dst = some d) (hs : slot s1 d = .inr (b, 0)) :
    ∃ β', Inv W ops s0 s1 z y E k0 (add1 D i) β' (a.put o.dst (.pointer (some ⟨w.heap.size, 0, none⟩))) (w.alloc (.cells (zc z b).1 (zc z b).2)) := by
  obtain ⟨hk0, _, hst⟩ := hc.mkge b hmk
  have hM : ∀ c, Mk E k0 (add1 D i) c ↔ (Mk E k0 D c ∨ c = b) := fun c => by rw [mk_add, hmk]; simp [eq_comm]
  have hS : ∀ c, Sd E (add1 D i) c ↔ Sd E D c := fun c => by rw [sd_add, hst]; simp
  have hnb : ¬ Mk E k0 D b := by
    rintro (h1 | ⟨j, hj, hjb⟩)
    · omega
    · have := hc.mkuniq b j hmk hjb; subst this; rw [hD] at hj; cases hj
  have hnS : ¬ Sd E D b := by
    rintro ⟨s, hs1, hs2⟩
    have := reach_down h.down _ _ _ (hS0 s b hs2 hmk) hs1
    rw [hD] at this; cases this
  have hne : ∀ c, Mk E k0 D c → (if c = b then w.heap.size else β c) = β c := fun c hcM => if_neg (fun e : c = b => hnb (by rw [← e]; exact hcM))
  have hrow : ∀ c, Mk E k0 D c → β c < w.heap.size := fun c hcM => by
    by_cases x : Sd E D c
    · exact row_lt (h.ry c hcM x)
    · exact row_lt (h.rz c hcM x)
  have hden : ∀ sv : SV, (∀ p, sv = .inr p → Mk E k0 D p.1) → den (fun c => if c = b then w.heap.size else β c) sv = den β sv := by
    intro sv hsv
    cases sv with
    | inl v => rfl
    | inr p => simp only [den, hne _ (hsv p rfl)]
  refine ⟨fun c => if c = b then w.heap.size else β c, by rw [put_df]; exact h.df, by rw [put_size]; exact h.sz, ?_, ?_, h.bel.trans ((below1 _ _).mono h.bel.size), ?_, ?_, ?_, ?_, ?_, h.live0, down_add h ho hdep⟩
  · intro t ht hw
    rw [put_getD, h.sz]
    by_cases e : o.dst = some t
    · rw [if_pos ⟨e, ht⟩]
      rw [hd] at e; cases e
      rw [hs]; simp [den]
    · rw [if_neg (fun x => e x.1)]
      have hW := ((wr_add ho t).1 hw).resolve_right e
      rw [hden _ (fun p hp => h.live t p ht hW hp)]
      exact h.wr t ht hW
  · intro t ht hw
    rw [put_getD]
    have e : ¬ o.dst = some t := fun e => hw ((wr_add ho t).2 (Or.inr e))
    rw [if_neg (fun x => e x.1), hden _ (fun p hp => Or.inl (h.live0 t p ht hp))]
    exact h.un t ht (fun x => hw ((wr_add ho t).2 (Or.inl x)))
  · intro c hcM
    rcases (hM c).1 hcM with h1 | h1
    · simp only [hne c h1]; exact h.old c h1
    · subst h1; simp only [if_true]; exact h.bel.size
  · intro c hcM hcS
    rcases (hM c).1 hcM with h1 | h1
    · simp only [hne c h1]; exact row_up (h.rz c h1 (fun x => hcS ((hS c).2 x)))
    · subst h1; simp only [if_true]; exact row_new _ _
  · intro c hcM hcS
    rcases (hM c).1 hcM with h1 | h1
    · simp only [hne c h1]; exact row_up (h.ry c h1 ((hS c).1 hcS))
    · subst h1; exact absurd ((hS c).1 hcS) hnS
  · intro c c' hcM hcM' he
    rcases (hM c).1 hcM with h1 | h1 <;> rcases (hM c').1 hcM' with h2 | h2
    · simp only [hne c h1, hne c' h2] at he; exact h.inj c c' h1 h2 he
    · subst h2; simp only [hne c h1, if_true] at he; have := hrow c h1; omega
    · subst h1; simp only [hne c' h2, if_true] at he; have := hrow c' h2; omega
    · rw [h1, h2]
  · intro t p ht hw hsl
    refine (hM _).2 ?_
    by_cases e : o.dst = some t
    · rw [hd] at e; cases e
      rw [hs] at hsl; cases hsl; exact Or.inr rfl
    · exact Or.inl (h.live t p ht (((wr_add ho t).1 hw).resolve_right e) hsl)

/-- An operation that writes a block. -/
theorem Inv.write (h : Inv W ops s0 s1 z y E k0 D β a w) (ho : ops[i]? = some o) (hc : Chk ops s0.length k0 k1 E i o) (hdep : ∀ e ∈ o.after, Region.binds .any e = true → D e.on = true) (hD : D i = false)
    (b : Nat) (hmk : (eff E i).nw = none) (hst : (eff E i).st = some b) (hdst : o.dst = none) (hMb : Mk E k0 D b) :
    Inv W ops s0 s1 z y E k0 (add1 D i) β (a.put o.dst undef) (w.setRow (β b) (y.getD b #[])) := by
  have hM : ∀ c, Mk E k0 (add1 D i) c ↔ Mk E k0 D c := fun c => by rw [mk_add, hmk]; simp
  have hS : ∀ c, Sd E (add1 D i) c ↔ (Sd E D c ∨ c = b) := fun c => by rw [sd_add, hst]; simp [eq_comm]
  have hnS : ¬ Sd E D b := by
    rintro ⟨s, hs1, hs2⟩
    have := hc.stuniq b s hst hs2; subst this; rw [hD] at hs1; cases hs1
  have hrow := h.rz b hMb hnS
  have hW : ∀ t, Wr ops (add1 D i) t ↔ Wr ops D t := fun t => by rw [wr_add ho, hdst]; simp
  rw [hdst]
  refine ⟨h.df, h.sz, fun t ht hw => h.wr t ht ((hW t).1 hw), fun t ht hw => h.un t ht (fun x => hw ((hW t).2 x)), below_setRow h.bel (h.old b hMb) _, fun c hcM => h.old c ((hM c).1 hcM), ?_, ?_, fun c c' h1 h2 => h.inj c c' ((hM c).1 h1) ((hM c').1 h2), fun t p ht hw hs => (hM _).2 (h.live t p ht ((hW t).1 hw) hs), h.live0, down_add h ho hdep⟩
  · intro c hcM hcS
    have hcM := (hM c).1 hcM
    have hne : c ≠ b := fun e => hcS ((hS c).2 (Or.inr e))
    rw [setRow_other _ _ _ _ (fun e => hne (h.inj c b hcM hMb e))]
    exact h.rz c hcM (fun x => hcS ((hS c).2 (Or.inl x)))
  · intro c hcM hcS
    have hcM := (hM c).1 hcM
    by_cases e : c = b
    · subst e; exact setRow_heap _ _ _ _ _ _ hrow
    · rw [setRow_other _ _ _ _ (fun x => e (h.inj c b hcM hMb x))]
      exact h.ry c hcM (((hS c).1 hcS).resolve_right e)

/-- One operation, whichever. -/
theorem Inv.step (h : Inv W ops s0 s1 z y E k0 D β a w) (hall : chkB ops s0.length k0 k1 E = true) (ho : ops[i]? = some o) (hm : clr ops s1 = clr ops s0) (hdep : ∀ e ∈ o.after, Region.binds .any e = true → D e.on = true) (hD : D i = false)
    (hok : (wantF ops s1 o = true ∧ OpOK P W s1 (srd E i s0 s1) z y o (eff E i)) ∨ (wantF ops s1 o = false ∧ (eff E i) = ⟨none, none, none, false⟩ ∧ ∀ d, o.dst = some d → slot s1 d = .inl undef))
    (K : Act → World → Prop) (Q : Exit → Act → World → Prop) (hK : ∀ β' a' w', Inv W ops s0 s1 z y E k0 (add1 D i) β' a' w' → K a' w') :
    (Region.wanted o (yielded ops a.tmps) = true ∧ o.wp P a w K Q) ∨ (Region.wanted o (yielded ops a.tmps) = false ∧ K (a.put o.dst undef) w) := by
  have hc := chk_of hall i o ho
  have hrd := h.reads hc hm hdep hD
  have hgd := h.reads_g hc hm hdep
  have hwant : Region.wanted o (yielded ops a.tmps) = wantF ops s1 o := by
    unfold Region.wanted wantF
    cases hg : o.guard with
    | none => rfl
    | some g =>
      obtain ⟨j, want⟩ := g
      simp only
      congr 1
      unfold yielded
      cases hdj : dstAt ops j with
      | none =>
        have : ((ops[j]?).bind (·.dst)) = none := hdj
        rw [this]; rfl
      | some d =>
        have : ((ops[j]?).bind (·.dst)) = some d := hdj
        rw [this]
        have hmem : d ∈ gdOf ops o := by unfold gdOf; rw [hg]; simp [hdj]
        have h1 := hgd d hmem
        have hdl := hc.glt d hmem
        have h2 : a.tmps[d]? = some (den β (slot s1 d)) := by
          rw [← h1]
          have : d < a.tmps.size := by rw [h.sz]; exact hdl
          simp [Array.getD, this]
        simp only [Option.bind_some, h2]
        cases slot s1 d with
        | inl v => cases v <;> rfl
        | inr p => rfl
  rcases hok with ⟨hw, hop⟩ | ⟨hw, he, hd⟩
  · left
    refine ⟨by rw [hwant]; exact hw, ?_⟩
    have hptr : ∀ b, (∃ t ∈ tmpsOf o, ∃ off, slot (srd E i s0 s1) t = .inr (b, off)) → Mk E k0 D b := by
      rintro b ⟨t, ht, off, hs⟩
      exact (hrd t ht).2 _ hs
    refine hop.run β a w (fun t ht => (hrd t ht).1) h.bel (fun b hb => ?_) K Q (fun v w' hp => ?_)
    · have hMb : Mk E k0 D b := hptr b (hop.ptr b (by exact hb.elim Or.inl (fun x => Or.inr (Or.inl x))))
      refine h.rz b hMb ?_
      rintro ⟨s, hs1, hs2⟩
      rcases hb with hb | hb
      · have := reach_down h.down _ _ _ (hc.rdst b s hb hs2) hs1
        rw [hD] at this; cases this
      · have := hc.stuniq b s hb hs2; subst this; rw [hD] at hs1; cases hs1
    · unfold Post at hp
      cases hmk : (eff E i).nw with
      | some b =>
        simp only [hmk] at hp
        obtain ⟨rfl, rfl⟩ := hp
        obtain ⟨d, hd, hs⟩ := hop.mkd b hmk
        have hS0 : ∀ s c, (eff E s).st = some c → (eff E i).nw = some c → reach ops 4 s i = true := by
          intro s c h1 h2
          have hs : s < ops.size := by
            rcases Nat.lt_or_ge s ops.size with h | h
            · exact h
            · exfalso
              unfold chkB at hall
              simp only [Bool.and_eq_true] at hall
              have hE := Nat.le_of_ble_eq_true hall.1.2
              rw [eff_none (by omega)] at h1; cases h1
          exact (chk_of hall s ops[s] (by simp [hs])).stmk c i h1 h2
        obtain ⟨β', hI⟩ := h.make ho hc hS0 hdep hD b hmk d hd hs
        exact hK _ _ _ hI
      | none =>
        cases hst : (eff E i).st with
        | some b =>
          simp only [hmk, hst] at hp
          obtain ⟨rfl, rfl⟩ := hp
          exact hK _ _ _ (h.write ho hc hdep hD b hmk hst (hop.std b hmk hst) (hptr b (hop.ptr b (Or.inr (Or.inl hst)))))
        | none =>
          simp only [hmk, hst] at hp
          refine hK _ _ _ (h.quiet ho hc hdep hD hmk hst v w' hp.1 hp.2 (fun d p hd hs => ?_))
          exact hptr p.1 (hop.ptr p.1 (Or.inr (Or.inr ⟨hmk, d, p.2, hd, hs⟩)))
  · right
    refine ⟨by rw [hwant]; exact hw, hK β _ _ (h.quiet ho hc hdep hD (by rw [he]) (by rw [he]) undef w (fun d hd' => by rw [hd d hd']; rfl) (Below.refl _ _) (fun d p hd' hs => ?_))⟩
    rw [hd d hd'] at hs; cases hs
end
end Go.Proofs.Ytchbkkjjbdgdoaa

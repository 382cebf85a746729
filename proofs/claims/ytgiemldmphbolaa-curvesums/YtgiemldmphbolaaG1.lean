/- X, X2, X3, X4, Y, U, AnyRoot, M2, Root, laid together. -/
import Derived.ProofKit
import Derived.OpenShut
import Derived.ShutString
import Derived.ChangeOld
import Derived.Test.YtgiemldmphbolaaW7
import Derived.Test.YtgiemldmphbolaaT
namespace Go.Proofs.Ytgiemldmphbolaa
open Go.RowKit

/-- A slot's value: a plain one, or an address in a block that the call made. -/
abbrev SV := Sum Value (Nat × Nat)
def den (β : Nat → Nat) : SV → Value
  | .inl v => v
  | .inr p => .pointer (some ⟨β p.1, p.2, none⟩)
abbrev Blk := Array Value × TypeId
abbrev uu : SV := .inl undef
/-- What an operation does to blocks: the one that it makes, the one that it writes, the one that it reads; whether it reads slots as they stood ahead of the region. -/
structure Eff where
  nw : Option Nat
  st : Option Nat
  rd : Option Nat
  od : Bool

abbrev nn : Eff := ⟨none, none, none, false⟩

def slot (s : List SV) (t : Nat) : SV := s.getD t (.inl undef)
def eff (E : List Eff) (i : Nat) : Eff := E.getD i ⟨none, none, none, false⟩
def zc (z : List Blk) (b : Nat) : Blk := z.getD b (#[], 0)
def tmpsOf (o : Oper) : List Tmp := o.op.operands.toList.filterMap fun x => match x with
  | .tmp t => some t
  | _ => none
def dstAt (ops : Array Oper) (i : Nat) : Option Tmp := (ops[i]?).bind (·.dst)
def gdOf (ops : Array Oper) (o : Oper) : List Tmp := match o.guard with
  | none => []
  | some (j, _) => (dstAt ops j).toList

def Wr (ops : Array Oper) (D : Nat → Bool) (t : Nat) : Prop := ∃ i, D i = true ∧ dstAt ops i = some t
def Mk (E : List Eff) (k0 : Nat) (D : Nat → Bool) (b : Nat) : Prop := b < k0 ∨ ∃ i, D i = true ∧ (eff E i).nw = some b
def Sd (E : List Eff) (D : Nat → Bool) (b : Nat) : Prop := ∃ i, D i = true ∧ (eff E i).st = some b

/-- What holds while a region runs: D tells which operations have come up. -/
structure Inv (W : World) (ops : Array Oper) (s0 s1 : List SV) (z : List Blk) (y : List (Array Value)) (E : List Eff) (k0 : Nat) (D : Nat → Bool) (β : Nat → Nat) (a : Act) (w : World) : Prop where
  df : a.defers = []
  sz : a.tmps.size = s0.length
  wr : ∀ t, t < s0.length → Wr ops D t → a.tmps.getD t undef = den β (slot s1 t)
  un : ∀ t, t < s0.length → ¬ Wr ops D t → a.tmps.getD t undef = den β (slot s0 t)
  bel : Below W.heap.size W w
  old : ∀ b, Mk E k0 D b → W.heap.size ≤ β b
  rz : ∀ b, Mk E k0 D b → ¬ Sd E D b → w.heap[β b]? = some (.cells (zc z b).1 (zc z b).2 (0, 0))
  ry : ∀ b, Mk E k0 D b → Sd E D b → w.heap[β b]? = some (.cells (y.getD b #[]) (zc z b).2 (0, 0))
  inj : ∀ b c, Mk E k0 D b → Mk E k0 D c → β b = β c → b = c
  live : ∀ t p, t < s0.length → Wr ops D t → slot s1 t = .inr p → Mk E k0 D p.1
  live0 : ∀ t p, t < s0.length → slot s0 t = .inr p → p.1 < k0
  down : ∀ i o, D i = true → ops[i]? = some o → ∀ e ∈ o.after, Region.binds .any e = true → D e.on = true

/-- What an operation leaves. -/
def Post (s1 : List SV) (z : List Blk) (y : List (Array Value)) (o : Oper) (e : Eff) (β : Nat → Nat) (w : World) (v : Value) (w' : World) : Prop :=
  match e.nw, e.st with
  | some b, _ => v = .pointer (some ⟨w.heap.size, 0, none⟩) ∧ w' = w.alloc (.cells (zc z b).1 (zc z b).2)
  | none, some b => v = undef ∧ w' = w.setRow (β b) (y.getD b #[])
  | none, none => (∀ d, o.dst = some d → v = den β (slot s1 d)) ∧ Below w.heap.size w w'

structure OpOK (P : Program) (W : World) (s1 sr : List SV) (z : List Blk) (y : List (Array Value)) (o : Oper) (e : Eff) : Prop where
  ptr : ∀ b, (e.rd = some b ∨ e.st = some b ∨ (e.nw = none ∧ ∃ d off, o.dst = some d ∧ slot s1 d = .inr (b, off))) → ∃ t ∈ tmpsOf o, ∃ off, slot sr t = .inr (b, off)
  mkd : ∀ b, e.nw = some b → ∃ d, o.dst = some d ∧ slot s1 d = .inr (b, 0)
  std : ∀ b, e.nw = none → e.st = some b → o.dst = none
  run : ∀ (β : Nat → Nat) (a : Act) (w : World), (∀ t ∈ tmpsOf o, a.eval (.tmp t) = den β (slot sr t)) → Below W.heap.size W w →
    (∀ b, e.rd = some b ∨ e.st = some b → w.heap[β b]? = some (.cells (zc z b).1 (zc z b).2 (0, 0))) →
    ∀ (K : Act → World → Prop) (Q : Exit → Act → World → Prop), (∀ v w', Post s1 z y o e β w v w' → K (a.put o.dst v) w') → o.wp P a w K Q

def boolOf : SV → Option Bool
  | .inl (.bool b) => some b
  | _ => none
def wantF (ops : Array Oper) (s1 : List SV) (o : Oper) : Bool := match o.guard with
  | none => true
  | some (j, want) => ((dstAt ops j).bind fun d => boolOf (slot s1 d)) == some want

def reach (ops : Array Oper) : Nat → Nat → Nat → Bool
  | 0, _, _ => false
  | f + 1, s, i => match ops[s]? with
    | none => false
    | some o => o.after.any fun e => Region.binds .any e && (Nat.beq e.on i || reach ops f e.on i)

def opB (ops : Array Oper) (n k0 k1 : Nat) (E : List Eff) (i : Nat) (o : Oper) : Bool :=
  ((gdOf ops o).all fun t => Nat.blt t n && (List.range ops.size).all fun j => !(dstAt ops j == some t) || o.after.any fun e => Region.binds .any e && Nat.beq e.on j) &&
  ((tmpsOf o).all fun t => Nat.blt t n && (List.range ops.size).all fun j => !(dstAt ops j == some t) || (match (eff E i).od with
    | false => o.after.any fun e => Region.binds .any e && Nat.beq e.on j
    | true => reach ops 4 j i)) &&
  (match o.dst with
    | none => true
    | some d => Nat.blt d n && (List.range ops.size).all fun j => !(dstAt ops j == some d) || Nat.beq j i) &&
  (match (eff E i).nw with
    | none => true
    | some b => Nat.ble k0 b && Nat.blt b k1 && (eff E i).st == none && (List.range ops.size).all fun j => !((eff E j).nw == some b) || Nat.beq j i) &&
  (match (eff E i).st with
    | none => true
    | some b => (List.range ops.size).all fun j => (!((eff E j).st == some b) || Nat.beq j i) && (!((eff E j).nw == some b) || reach ops 4 i j)) &&
  (match (eff E i).rd with
    | none => true
    | some b => (List.range ops.size).all fun j => !((eff E j).st == some b) || reach ops 4 j i)

def chkB (ops : Array Oper) (n k0 k1 : Nat) (E : List Eff) : Bool :=
  acycB ops && Nat.ble E.length ops.size && (List.range ops.size).all fun i => match ops[i]? with
    | none => true
    | some o => opB ops n k0 k1 E i o

theorem reach_down {ops : Array Oper} {D : Nat → Bool} (hd : ∀ i o, D i = true → ops[i]? = some o → ∀ e ∈ o.after, Region.binds .any e = true → D e.on = true) :
    ∀ f s i, reach ops f s i = true → D s = true → D i = true := by
  intro f
  induction f with
  | zero => intro s i h; simp [reach] at h
  | succ f ih =>
    intro s i h hs
    simp only [reach] at h
    cases ho : ops[s]? with
    | none => simp [ho] at h
    | some o =>
      simp only [ho] at h
      obtain ⟨e, he, h1⟩ := Array.any_eq_true'.1 h
      simp only [Bool.and_eq_true, Bool.or_eq_true] at h1
      have hde := hd s o hs ho e he h1.1
      rcases h1.2 with h2 | h2
      · rw [Nat.beq_eq] at h2; rw [← h2]; exact hde
      · exact ih _ _ h2 hde

/-- What the table of checks says of one operation. -/
structure Chk (ops : Array Oper) (n k0 k1 : Nat) (E : List Eff) (i : Nat) (o : Oper) : Prop where
  glt : ∀ t ∈ gdOf ops o, t < n
  gedge : ∀ t ∈ gdOf ops o, ∀ j, dstAt ops j = some t → ∃ e ∈ o.after, Region.binds .any e = true ∧ e.on = j
  rlt : ∀ t ∈ tmpsOf o, t < n
  redge : (eff E i).od = false → ∀ t ∈ tmpsOf o, ∀ j, dstAt ops j = some t → ∃ e ∈ o.after, Region.binds .any e = true ∧ e.on = j
  rlate : (eff E i).od = true → ∀ t ∈ tmpsOf o, ∀ j, dstAt ops j = some t → reach ops 4 j i = true
  dlt : ∀ d, o.dst = some d → d < n
  duniq : ∀ d j, o.dst = some d → dstAt ops j = some d → j = i
  mkge : ∀ b, (eff E i).nw = some b → k0 ≤ b ∧ b < k1 ∧ (eff E i).st = none
  mkuniq : ∀ b j, (eff E i).nw = some b → (eff E j).nw = some b → j = i
  stuniq : ∀ b j, (eff E i).st = some b → (eff E j).st = some b → j = i
  stmk : ∀ b j, (eff E i).st = some b → (eff E j).nw = some b → reach ops 4 i j = true
  rdst : ∀ b j, (eff E i).rd = some b → (eff E j).st = some b → reach ops 4 j i = true

theorem eff_none {E : List Eff} {i : Nat} (h : E.length ≤ i) : eff E i = ⟨none, none, none, false⟩ := by simp [eff, List.getD, List.getElem?_eq_none h]

theorem chk_of {ops : Array Oper} {n k0 k1 : Nat} {E : List Eff} (h : chkB ops n k0 k1 E = true) (i : Nat) (o : Oper) (ho : ops[i]? = some o) : Chk ops n k0 k1 E i o := by
  unfold chkB at h
  simp only [Bool.and_eq_true, List.all_eq_true, List.mem_range] at h
  obtain ⟨⟨_, hE⟩, h⟩ := h
  have hE := Nat.le_of_ble_eq_true hE
  have hi : i < ops.size := (Array.getElem?_eq_some_iff.1 ho).1
  have hlt : ∀ j t, dstAt ops j = some t → j < ops.size := by
    intro j t hj
    unfold dstAt at hj
    rcases Nat.lt_or_ge j ops.size with h | h
    · exact h
    · simp [Array.getElem?_eq_none h] at hj
  have hle : ∀ j, ((eff E j).nw ≠ none ∨ (eff E j).st ≠ none) → j < ops.size := by
    intro j hj
    rcases Nat.lt_or_ge j ops.size with h | h
    · exact h
    · rw [eff_none (by omega)] at hj; simp at hj
  have h := h i hi
  simp only [ho] at h
  unfold opB at h
  simp only [Bool.and_eq_true] at h
  obtain ⟨⟨⟨⟨⟨h0, h1⟩, h2⟩, h3⟩, h4⟩, h5⟩ := h
  simp only [List.all_eq_true, Bool.and_eq_true, List.mem_range] at h0 h1
  refine ⟨fun t ht => by have := (h0 t ht).1; exact Nat.le_of_ble_eq_true this, fun t ht j hj => ?_, fun t ht => by have := (h1 t ht).1; exact Nat.le_of_ble_eq_true this, fun hod t ht j hj => ?_, fun hod t ht j hj => ?_, fun d hd => ?_, fun d j hd hj => ?_, fun b hb => ?_, fun b j hb hj => ?_, fun b j hb hj => ?_, fun b j hb hj => ?_, fun b j hb hj => ?_⟩
  · have := (h0 t ht).2 j (hlt j t hj)
    simp only [hj, beq_self_eq_true, Bool.not_true, Bool.false_or] at this
    obtain ⟨e, he, h6⟩ := Array.any_eq_true'.1 this
    simp only [Bool.and_eq_true] at h6
    exact ⟨e, he, h6.1, Nat.beq_eq.mp h6.2⟩
  · have := (h1 t ht).2 j (hlt j t hj)
    simp only [hj, beq_self_eq_true, Bool.not_true, Bool.false_or, hod] at this
    obtain ⟨e, he, h6⟩ := Array.any_eq_true'.1 this
    simp only [Bool.and_eq_true] at h6
    exact ⟨e, he, h6.1, Nat.beq_eq.mp h6.2⟩
  · have := (h1 t ht).2 j (hlt j t hj)
    simpa only [hj, beq_self_eq_true, Bool.not_true, Bool.false_or, hod] using this
  · simp only [hd, Bool.and_eq_true] at h2; exact Nat.le_of_ble_eq_true h2.1
  · simp only [hd, Bool.and_eq_true, List.all_eq_true, List.mem_range] at h2
    have := h2.2 j (hlt j d hj)
    simp only [hj, beq_self_eq_true, Bool.not_true, Bool.false_or] at this
    exact Nat.beq_eq.mp this
  · simp only [hb, Bool.and_eq_true] at h3
    exact ⟨Nat.le_of_ble_eq_true h3.1.1.1, Nat.le_of_ble_eq_true h3.1.1.2, by simpa using h3.1.2⟩
  · simp only [hb, Bool.and_eq_true, List.all_eq_true, List.mem_range] at h3
    have := h3.2 j (hle j (by simp [hj]))
    simp only [hj, beq_self_eq_true, Bool.not_true, Bool.false_or] at this
    exact Nat.beq_eq.mp this
  · simp only [hb, Bool.and_eq_true, List.all_eq_true, List.mem_range] at h4
    have := (h4 j (hle j (by simp [hj]))).1
    simp only [hj, beq_self_eq_true, Bool.not_true, Bool.false_or] at this
    exact Nat.beq_eq.mp this
  · simp only [hb, Bool.and_eq_true, List.all_eq_true, List.mem_range] at h4
    have := (h4 j (hle j (by simp [hj]))).2
    simpa only [hj, beq_self_eq_true, Bool.not_true, Bool.false_or] using this
  · simp only [hb, List.all_eq_true, List.mem_range] at h5
    have := h5 j (hle j (by simp [hj]))
    simpa only [hj, beq_self_eq_true, Bool.not_true, Bool.false_or] using this

/-- The slots ahead of a region, with what the region writes laid over them. -/
def over (ops : Array Oper) (s1 s0 : List SV) : List SV := (ops.toList.filterMap (·.dst)).foldl (fun s d => s.set d (slot s1 d)) s0

theorem foldl_set_getD (s1 : List SV) : ∀ (ds : List Nat) (s : List SV) (t : Nat), t ∉ ds → slot (ds.foldl (fun s d => s.set d (slot s1 d)) s) t = slot s t := by
  intro ds
  induction ds with
  | nil => intro s t _; rfl
  | cons d ds ih =>
    intro s t ht
    simp only [List.mem_cons, not_or] at ht
    rw [List.foldl_cons, ih _ _ ht.2]
    have hd : ¬ d = t := fun h => ht.1 h.symm
    generalize slot s1 d = v
    unfold slot
    simp only [List.getD_eq_getElem?_getD, List.getElem?_set]
    simp [hd]

theorem mask_eq {ops : Array Oper} {s0 s1 : List SV} (hm : over ops s1 s0 = s1) (t : Nat) (h : ∀ i, dstAt ops i ≠ some t) : slot s1 t = slot s0 t := by
  have hn : t ∉ ops.toList.filterMap (·.dst) := by
    intro hmem
    obtain ⟨o, ho, hd⟩ := List.mem_filterMap.1 hmem
    obtain ⟨i, hi⟩ := List.getElem?_of_mem ho
    refine h i ?_
    unfold dstAt
    simp at hi
    simp [hi, hd]
  have h0 := foldl_set_getD s1 _ s0 t hn
  unfold over at hm
  rw [hm] at h0
  exact h0

theorem put_getD (a : Act) (dst : Option Tmp) (v : Value) (t : Nat) : (a.put dst v).tmps.getD t undef = if dst = some t ∧ t < a.tmps.size then v else a.tmps.getD t undef := by
  cases dst with
  | none => simp [Act.put]
  | some d =>
    simp only [Act.put]
    by_cases h : d = t
    · subst h
      by_cases hl : d < a.tmps.size
      · simp [Array.getD, hl]
      · simp [Array.getD, hl]
    · have : ¬ (some d = some t ∧ t < a.tmps.size) := by simp [h]
      rw [if_neg this]
      by_cases hl : t < a.tmps.size
      · simp [Array.getD, hl, h]
      · simp [Array.getD, hl]
theorem put_size (a : Act) (dst : Option Tmp) (v : Value) : (a.put dst v).tmps.size = a.tmps.size := by cases dst <;> simp [Act.put]
theorem put_df (a : Act) (dst : Option Tmp) (v : Value) : (a.put dst v).defers = a.defers := by cases dst <;> rfl

def add1 (D : Nat → Bool) (i : Nat) : Nat → Bool := fun j => if j = i then true else D j

section
variable {P : Program} {ops : Array Oper} {W : World} {s0 s1 : List SV} {z : List Blk} {y : List (Array Value)} {E : List Eff} {k0 k1 : Nat} {D : Nat → Bool} {β : Nat → Nat} {a : Act} {w : World} {i : Nat} {o : Oper}

theorem wr_add (ho : ops[i]? = some o) (t : Nat) : Wr ops (add1 D i) t ↔ (Wr ops D t ∨ o.dst = some t) := by
  have hd : dstAt ops i = o.dst := by simp [dstAt, ho]
  unfold Wr add1
  constructor
  · rintro ⟨j, hj, ht⟩
    by_cases h : j = i
    · subst h; right; rw [← hd]; exact ht
    · left; exact ⟨j, by simpa [h] using hj, ht⟩
  · rintro (⟨j, hj, ht⟩ | h)
    · exact ⟨j, by split <;> simp_all, ht⟩
    · exact ⟨i, by simp, by rw [hd]; exact h⟩
theorem mk_add (b : Nat) : Mk E k0 (add1 D i) b ↔ (Mk E k0 D b ∨ (eff E i).nw = some b) := by
  unfold Mk add1
  constructor
  · rintro (h | ⟨j, hj, ht⟩)
    · exact Or.inl (Or.inl h)
    by_cases h : j = i
    · subst h; right; exact ht
    · left; right; exact ⟨j, by simpa [h] using hj, ht⟩
  · rintro ((h | ⟨j, hj, ht⟩) | h)
    · exact Or.inl h
    · exact Or.inr ⟨j, by split <;> simp_all, ht⟩
    · exact Or.inr ⟨i, by simp, h⟩
theorem sd_add (b : Nat) : Sd E (add1 D i) b ↔ (Sd E D b ∨ (eff E i).st = some b) := by
  unfold Sd add1
  constructor
  · rintro ⟨j, hj, ht⟩
    by_cases h : j = i
    · subst h; right; exact ht
    · left; exact ⟨j, by simpa [h] using hj, ht⟩
  · rintro (⟨j, hj, ht⟩ | h)
    · exact ⟨j, by split <;> simp_all, ht⟩
    · exact ⟨i, by simp, h⟩

/-- What an operation reads is what its slot comes to. -/
theorem Inv.reads_g (h : Inv W ops s0 s1 z y E k0 D β a w) (hc : Chk ops s0.length k0 k1 E i o) (hm : over ops s1 s0 = s1) (hdep : ∀ e ∈ o.after, Region.binds .any e = true → D e.on = true)
    (t : Nat) (ht : t ∈ gdOf ops o) : a.tmps.getD t undef = den β (slot s1 t) := by
  have hlt := hc.glt t ht
  by_cases hw : ∃ j, dstAt ops j = some t
  · obtain ⟨j, hj⟩ := hw
    obtain ⟨e, he, hb, rfl⟩ := hc.gedge t ht j hj
    exact h.wr t hlt ⟨e.on, hdep e he hb, hj⟩
  · have hn : ∀ j, dstAt ops j ≠ some t := fun j hj => hw ⟨j, hj⟩
    have hW : ¬ Wr ops D t := fun ⟨j, _, hj⟩ => hn j hj
    rw [mask_eq hm t hn]
    exact h.un t hlt hW
def srd (E : List Eff) (i : Nat) (s0 s1 : List SV) : List SV := match (eff E i).od with
  | false => s1
  | true => s0
theorem Inv.reads (h : Inv W ops s0 s1 z y E k0 D β a w) (hc : Chk ops s0.length k0 k1 E i o) (hm : over ops s1 s0 = s1) (hdep : ∀ e ∈ o.after, Region.binds .any e = true → D e.on = true) (hD : D i = false)
    (t : Nat) (ht : t ∈ tmpsOf o) : a.tmps.getD t undef = den β (slot (srd E i s0 s1) t) ∧ (∀ p, slot (srd E i s0 s1) t = .inr p → Mk E k0 D p.1) := by
  have hlt := hc.rlt t ht
  unfold srd
  cases hod : (eff E i).od with
  | false =>
    simp only
    by_cases hw : ∃ j, dstAt ops j = some t
    · obtain ⟨j, hj⟩ := hw
      obtain ⟨e, he, hb, rfl⟩ := hc.redge hod t ht j hj
      have hW : Wr ops D t := ⟨e.on, hdep e he hb, hj⟩
      exact ⟨h.wr t hlt hW, fun p hp => h.live t p hlt hW hp⟩
    · have hn : ∀ j, dstAt ops j ≠ some t := fun j hj => hw ⟨j, hj⟩
      have hW : ¬ Wr ops D t := fun ⟨j, _, hj⟩ => hn j hj
      rw [mask_eq hm t hn]
      exact ⟨h.un t hlt hW, fun p hp => Or.inl (h.live0 t p hlt hp)⟩
  | true =>
    simp only
    have hW : ¬ Wr ops D t := fun ⟨j, hDj, hj⟩ => by
      have := reach_down h.down _ _ _ (hc.rlate hod t ht j hj) hDj
      rw [hD] at this; cases this
    exact ⟨h.un t hlt hW, fun p hp => Or.inl (h.live0 t p hlt hp)⟩

theorem down_add (h : Inv W ops s0 s1 z y E k0 D β a w) (ho : ops[i]? = some o) (hdep : ∀ e ∈ o.after, Region.binds .any e = true → D e.on = true) :
    ∀ j o', add1 D i j = true → ops[j]? = some o' → ∀ e ∈ o'.after, Region.binds .any e = true → add1 D i e.on = true := by
  intro j o' hj ho' e he hb
  have : D e.on = true := by
    by_cases hji : j = i
    · subst hji; rw [ho] at ho'; cases ho'; exact hdep e he hb
    · exact h.down j o' (by simpa [add1, hji] using hj) ho' e he hb
  unfold add1; split <;> simp_all

/-- An operation that leaves all blocks alone. -/
theorem Inv.quiet (h : Inv W ops s0 s1 z y E k0 D β a w) (ho : ops[i]? = some o) (hc : Chk ops s0.length k0 k1 E i o) (hdep : ∀ e ∈ o.after, Region.binds .any e = true → D e.on = true) (hD : D i = false)
    (hmk : (eff E i).nw = none) (hst : (eff E i).st = none) (v : Value) (w' : World) (hv : ∀ d, o.dst = some d → v = den β (slot s1 d)) (hb : Below w.heap.size w w')
    (hp : ∀ d p, o.dst = some d → slot s1 d = .inr p → Mk E k0 D p.1) : Inv W ops s0 s1 z y E k0 (add1 D i) β (a.put o.dst v) w' := by
  have hM : ∀ b, Mk E k0 (add1 D i) b ↔ Mk E k0 D b := fun b => by rw [mk_add, hmk]; simp
  have hS : ∀ b, Sd E (add1 D i) b ↔ Sd E D b := fun b => by rw [sd_add, hst]; simp
  have hnd : ∀ d, o.dst = some d → ¬ Wr ops D d := fun d hd ⟨j, hj, hdj⟩ => by
    have := hc.duniq d j hd hdj; subst this; rw [hD] at hj; cases hj
  refine ⟨by rw [put_df]; exact h.df, by rw [put_size]; exact h.sz, ?_, ?_, h.bel.trans (hb.mono h.bel.size), fun b hb => h.old b ((hM b).1 hb), ?_, ?_, fun b c h1 h2 => h.inj b c ((hM b).1 h1) ((hM c).1 h2), ?_, h.live0, down_add h ho hdep⟩
  · intro t ht hw
    rw [put_getD, h.sz]
    by_cases e : o.dst = some t
    · rw [if_pos ⟨e, ht⟩]; exact hv t e
    · rw [if_neg (fun x => e x.1)]
      exact h.wr t ht (((wr_add ho t).1 hw).resolve_right e)
  · intro t ht hw
    rw [put_getD]
    have e : ¬ o.dst = some t := fun e => hw ((wr_add ho t).2 (Or.inr e))
    rw [if_neg (fun x => e x.1)]
    exact h.un t ht (fun x => hw ((wr_add ho t).2 (Or.inl x)))
  · intro b h1 h2
    exact row_below (h.rz b ((hM b).1 h1) (fun x => h2 ((hS b).2 x))) hb
  · intro b h1 h2
    exact row_below (h.ry b ((hM b).1 h1) ((hS b).1 h2)) hb
  · intro t p ht hw hs
    refine (hM _).2 ?_
    by_cases e : o.dst = some t
    · exact hp t p e hs
    · exact h.live t p ht (((wr_add ho t).1 hw).resolve_right e) hs

/-- An operation that makes a block. -/
theorem Inv.make (h : Inv W ops s0 s1 z y E k0 D β a w) (ho : ops[i]? = some o) (hc : Chk ops s0.length k0 k1 E i o) (hS0 : ∀ s b, (eff E s).st = some b → (eff E i).nw = some b → reach ops 4 s i = true) (hdep : ∀ e ∈ o.after, Region.binds .any e = true → D e.on = true) (hD : D i = false)
    (b : Nat) (hmk : (eff E i).nw = some b) (d : Tmp) (hd : o.dst = some d) (hs : slot s1 d = .inr (b, 0)) :
    ∃ β', Inv W ops s0 s1 z y E k0 (add1 D i) β' (a.put o.dst (.pointer (some ⟨w.heap.size, 0, none⟩))) (w.alloc (.cells (zc z b).1 (zc z b).2)) := by
  obtain ⟨hk0, _, hst⟩ := hc.mkge b hmk
  have hM : ∀ c, Mk E k0 (add1 D i) c ↔ (Mk E k0 D c ∨ c = b) := fun c => by rw [mk_add, hmk]; simp [eq_comm]
  have hS : ∀ c, Sd E (add1 D i) c ↔ Sd E D c := fun c => by rw [sd_add, hst]; simp
  have hnb : ¬ Mk E k0 D b := by
    rintro (h1 | ⟨j, hj, hjb⟩)
    · omega
    · have := hc.mkuniq b j hmk hjb; subst this; rw [hD] at hj; cases hj
  have hnS : ¬ Sd E D b := by
    rintro ⟨s, hs1, hs2⟩
    have := reach_down h.down _ _ _ (hS0 s b hs2 hmk) hs1
    rw [hD] at this; cases this
  have hne : ∀ c, Mk E k0 D c → (if c = b then w.heap.size else β c) = β c := fun c hcM => if_neg (fun e : c = b => hnb (by rw [← e]; exact hcM))
  have hrow : ∀ c, Mk E k0 D c → β c < w.heap.size := fun c hcM => by
    by_cases x : Sd E D c
    · exact row_lt (h.ry c hcM x)
    · exact row_lt (h.rz c hcM x)
  have hden : ∀ sv : SV, (∀ p, sv = .inr p → Mk E k0 D p.1) → den (fun c => if c = b then w.heap.size else β c) sv = den β sv := by
    intro sv hsv
    cases sv with
    | inl v => rfl
    | inr p => simp only [den, hne _ (hsv p rfl)]
  refine ⟨fun c => if c = b then w.heap.size else β c, by rw [put_df]; exact h.df, by rw [put_size]; exact h.sz, ?_, ?_, h.bel.trans ((below1 _ _).mono h.bel.size), ?_, ?_, ?_, ?_, ?_, h.live0, down_add h ho hdep⟩
  · intro t ht hw
    rw [put_getD, h.sz]
    by_cases e : o.dst = some t
    · rw [if_pos ⟨e, ht⟩]
      rw [hd] at e; cases e
      rw [hs]; simp [den]
    · rw [if_neg (fun x => e x.1)]
      have hW := ((wr_add ho t).1 hw).resolve_right e
      rw [hden _ (fun p hp => h.live t p ht hW hp)]
      exact h.wr t ht hW
  · intro t ht hw
    rw [put_getD]
    have e : ¬ o.dst = some t := fun e => hw ((wr_add ho t).2 (Or.inr e))
    rw [if_neg (fun x => e x.1), hden _ (fun p hp => Or.inl (h.live0 t p ht hp))]
    exact h.un t ht (fun x => hw ((wr_add ho t).2 (Or.inl x)))
  · intro c hcM
    rcases (hM c).1 hcM with h1 | h1
    · simp only [hne c h1]; exact h.old c h1
    · subst h1; simp only [if_true]; exact h.bel.size
  · intro c hcM hcS
    rcases (hM c).1 hcM with h1 | h1
    · simp only [hne c h1]; exact row_up (h.rz c h1 (fun x => hcS ((hS c).2 x)))
    · subst h1; simp only [if_true]; exact row_new _ _
  · intro c hcM hcS
    rcases (hM c).1 hcM with h1 | h1
    · simp only [hne c h1]; exact row_up (h.ry c h1 ((hS c).1 hcS))
    · subst h1; exact absurd ((hS c).1 hcS) hnS
  · intro c c' hcM hcM' he
    rcases (hM c).1 hcM with h1 | h1 <;> rcases (hM c').1 hcM' with h2 | h2
    · simp only [hne c h1, hne c' h2] at he; exact h.inj c c' h1 h2 he
    · subst h2; simp only [hne c h1, if_true] at he; have := hrow c h1; omega
    · subst h1; simp only [hne c' h2, if_true] at he; have := hrow c' h2; omega
    · rw [h1, h2]
  · intro t p ht hw hsl
    refine (hM _).2 ?_
    by_cases e : o.dst = some t
    · rw [hd] at e; cases e
      rw [hs] at hsl; cases hsl; exact Or.inr rfl
    · exact Or.inl (h.live t p ht (((wr_add ho t).1 hw).resolve_right e) hsl)

/-- An operation that writes a block. -/
theorem Inv.write (h : Inv W ops s0 s1 z y E k0 D β a w) (ho : ops[i]? = some o) (hc : Chk ops s0.length k0 k1 E i o) (hdep : ∀ e ∈ o.after, Region.binds .any e = true → D e.on = true) (hD : D i = false)
    (b : Nat) (hmk : (eff E i).nw = none) (hst : (eff E i).st = some b) (hdst : o.dst = none) (hMb : Mk E k0 D b) :
    Inv W ops s0 s1 z y E k0 (add1 D i) β (a.put o.dst undef) (w.setRow (β b) (y.getD b #[])) := by
  have hM : ∀ c, Mk E k0 (add1 D i) c ↔ Mk E k0 D c := fun c => by rw [mk_add, hmk]; simp
  have hS : ∀ c, Sd E (add1 D i) c ↔ (Sd E D c ∨ c = b) := fun c => by rw [sd_add, hst]; simp [eq_comm]
  have hnS : ¬ Sd E D b := by
    rintro ⟨s, hs1, hs2⟩
    have := hc.stuniq b s hst hs2; subst this; rw [hD] at hs1; cases hs1
  have hrow := h.rz b hMb hnS
  have hW : ∀ t, Wr ops (add1 D i) t ↔ Wr ops D t := fun t => by rw [wr_add ho, hdst]; simp
  rw [hdst]
  refine ⟨h.df, h.sz, fun t ht hw => h.wr t ht ((hW t).1 hw), fun t ht hw => h.un t ht (fun x => hw ((hW t).2 x)), below_setRow h.bel (h.old b hMb) _, fun c hcM => h.old c ((hM c).1 hcM), ?_, ?_, fun c c' h1 h2 => h.inj c c' ((hM c).1 h1) ((hM c').1 h2), fun t p ht hw hs => (hM _).2 (h.live t p ht ((hW t).1 hw) hs), h.live0, down_add h ho hdep⟩
  · intro c hcM hcS
    have hcM := (hM c).1 hcM
    have hne : c ≠ b := fun e => hcS ((hS c).2 (Or.inr e))
    rw [setRow_other _ _ _ _ (fun e => hne (h.inj c b hcM hMb e))]
    exact h.rz c hcM (fun x => hcS ((hS c).2 (Or.inl x)))
  · intro c hcM hcS
    have hcM := (hM c).1 hcM
    by_cases e : c = b
    · subst e; exact setRow_heap _ _ _ _ _ _ hrow
    · rw [setRow_other _ _ _ _ (fun x => e (h.inj c b hcM hMb x))]
      exact h.ry c hcM (((hS c).1 hcS).resolve_right e)

/-- One operation, whichever. -/
theorem Inv.step (h : Inv W ops s0 s1 z y E k0 D β a w) (hall : chkB ops s0.length k0 k1 E = true) (ho : ops[i]? = some o) (hm : over ops s1 s0 = s1) (hdep : ∀ e ∈ o.after, Region.binds .any e = true → D e.on = true) (hD : D i = false)
    (hok : (wantF ops s1 o = true ∧ OpOK P W s1 (srd E i s0 s1) z y o (eff E i)) ∨ (wantF ops s1 o = false ∧ (eff E i) = ⟨none, none, none, false⟩ ∧ ∀ d, o.dst = some d → slot s1 d = .inl undef))
    (K : Act → World → Prop) (Q : Exit → Act → World → Prop) (hK : ∀ β' a' w', Inv W ops s0 s1 z y E k0 (add1 D i) β' a' w' → K a' w') :
    (Region.wanted o (yielded ops a.tmps) = true ∧ o.wp P a w K Q) ∨ (Region.wanted o (yielded ops a.tmps) = false ∧ K (a.put o.dst undef) w) := by
  have hc := chk_of hall i o ho
  have hrd := h.reads hc hm hdep hD
  have hgd := h.reads_g hc hm hdep
  have hwant : Region.wanted o (yielded ops a.tmps) = wantF ops s1 o := by
    unfold Region.wanted wantF
    cases hg : o.guard with
    | none => rfl
    | some g =>
      obtain ⟨j, want⟩ := g
      simp only
      congr 1
      unfold yielded
      cases hdj : dstAt ops j with
      | none =>
        have : ((ops[j]?).bind (·.dst)) = none := hdj
        rw [this]; rfl
      | some d =>
        have : ((ops[j]?).bind (·.dst)) = some d := hdj
        rw [this]
        have hmem : d ∈ gdOf ops o := by unfold gdOf; rw [hg]; simp [hdj]
        have h1 := hgd d hmem
        have hdl := hc.glt d hmem
        have h2 : a.tmps[d]? = some (den β (slot s1 d)) := by
          rw [← h1]
          have : d < a.tmps.size := by rw [h.sz]; exact hdl
          simp [Array.getD, this]
        simp only [Option.bind_some, h2]
        cases slot s1 d with
        | inl v => cases v <;> rfl
        | inr p => rfl
  rcases hok with ⟨hw, hop⟩ | ⟨hw, he, hd⟩
  · left
    refine ⟨by rw [hwant]; exact hw, ?_⟩
    have hptr : ∀ b, (∃ t ∈ tmpsOf o, ∃ off, slot (srd E i s0 s1) t = .inr (b, off)) → Mk E k0 D b := by
      rintro b ⟨t, ht, off, hs⟩
      exact (hrd t ht).2 _ hs
    refine hop.run β a w (fun t ht => (hrd t ht).1) h.bel (fun b hb => ?_) K Q (fun v w' hp => ?_)
    · have hMb : Mk E k0 D b := hptr b (hop.ptr b (by exact hb.elim Or.inl (fun x => Or.inr (Or.inl x))))
      refine h.rz b hMb ?_
      rintro ⟨s, hs1, hs2⟩
      rcases hb with hb | hb
      · have := reach_down h.down _ _ _ (hc.rdst b s hb hs2) hs1
        rw [hD] at this; cases this
      · have := hc.stuniq b s hb hs2; subst this; rw [hD] at hs1; cases hs1
    · unfold Post at hp
      cases hmk : (eff E i).nw with
      | some b =>
        simp only [hmk] at hp
        obtain ⟨rfl, rfl⟩ := hp
        obtain ⟨d, hd, hs⟩ := hop.mkd b hmk
        have hS0 : ∀ s c, (eff E s).st = some c → (eff E i).nw = some c → reach ops 4 s i = true := by
          intro s c h1 h2
          have hs : s < ops.size := by
            rcases Nat.lt_or_ge s ops.size with h | h
            · exact h
            · exfalso
              unfold chkB at hall
              simp only [Bool.and_eq_true] at hall
              have hE := Nat.le_of_ble_eq_true hall.1.2
              rw [eff_none (by omega)] at h1; cases h1
          exact (chk_of hall s ops[s] (by simp [hs])).stmk c i h1 h2
        obtain ⟨β', hI⟩ := h.make ho hc hS0 hdep hD b hmk d hd hs
        exact hK _ _ _ hI
      | none =>
        cases hst : (eff E i).st with
        | some b =>
          simp only [hmk, hst] at hp
          obtain ⟨rfl, rfl⟩ := hp
          exact hK _ _ _ (h.write ho hc hdep hD b hmk hst (hop.std b hmk hst) (hptr b (hop.ptr b (Or.inr (Or.inl hst)))))
        | none =>
          simp only [hmk, hst] at hp
          refine hK _ _ _ (h.quiet ho hc hdep hD hmk hst v w' hp.1 hp.2 (fun d p hd hs => ?_))
          exact hptr p.1 (hop.ptr p.1 (Or.inr (Or.inr ⟨hmk, d, p.2, hd, hs⟩)))
  · right
    refine ⟨by rw [hwant]; exact hw, hK β _ _ (h.quiet ho hc hdep hD (by rw [he]) (by rw [he]) undef w (fun d hd' => by rw [hd d hd']; rfl) (Below.refl _ _) (fun d p hd' hs => ?_))⟩
    rw [hd d hd'] at hs; cases hs
end
end Go.Proofs.Ytgiemldmphbolaa

namespace Go.Proofs.Ytgiemldmphbolaa
open Go.RowKit

/-- The state between statements: what each slot and each block of the call's own holds. -/
structure St (W : World) (s : List SV) (m : List Blk) (β : Nat → Nat) (a : Act) (w : World) : Prop where
  tm : a = { tmps := (s.map (den β)).toArray, defers := [] }
  bel : Below W.heap.size W w
  row : ∀ b c, m[b]? = some c → w.heap[β b]? = some (.cells c.1 c.2 (0, 0))
  old : ∀ b, b < m.length → W.heap.size ≤ β b
  inj : ∀ b c, b < m.length → c < m.length → β b = β c → b = c
  live : ∀ t p, t < s.length → slot s t = .inr p → p.1 < m.length

def Ok1 (P : Program) (W : World) (ops : Array Oper) (s0 s1 : List SV) (z : List Blk) (y : List (Array Value)) (o : Oper) (e : Eff) : Prop :=
  (wantF ops s1 o = true ∧ OpOK P W s1 (match e.od with | false => s1 | true => s0) z y o e) ∨ (wantF ops s1 o = false ∧ e = ⟨none, none, none, false⟩ ∧ ∀ d, o.dst = some d → slot s1 d = .inl undef)

def AllOK (P : Program) (W : World) (ops : Array Oper) (s0 s1 : List SV) (z : List Blk) (y : List (Array Value)) : List Oper → List Eff → Prop
  | [], _ => True
  | o :: r, [] => Ok1 P W ops s0 s1 z y o ⟨none, none, none, false⟩ ∧ AllOK P W ops s0 s1 z y r []
  | o :: r, e :: es => Ok1 P W ops s0 s1 z y o e ∧ AllOK P W ops s0 s1 z y r es

def stB (E : List Eff) (b : Nat) : Bool := E.any fun e => e.st == some b
def fin (E : List Eff) (y : List (Array Value)) : Nat → List Blk → List Blk
  | _, [] => []
  | b, c :: r => (if stB E b then (y.getD b #[], c.2) else c) :: fin E y (b + 1) r
def madeB (E : List Eff) (k0 k1 : Nat) : Bool := (List.range k1).all fun b => Nat.blt b k0 || E.any fun e => e.nw == some b

section
variable {P : Program} {ops : Array Oper} {W : World} {s0 s1 : List SV} {z : List Blk} {y : List (Array Value)} {E : List Eff} {Q : Exit → Act → World → Prop}

theorem allOK_get : ∀ (l : List Oper) (es : List Eff), AllOK P W ops s0 s1 z y l es → ∀ j o, l[j]? = some o → Ok1 P W ops s0 s1 z y o (eff es j)
  | [], _, _, j, o, h => by simp at h
  | o' :: r, [], hA, 0, o, h => by simp at h; subst h; exact hA.1
  | o' :: r, [], hA, j + 1, o, h => by
    have := allOK_get r [] hA.2 j o (by simpa using h)
    simpa [eff] using this
  | o' :: r, e :: es, hA, 0, o, h => by simp at h; subst h; exact hA.1
  | o' :: r, e :: es, hA, j + 1, o, h => by
    have := allOK_get r es hA.2 j o (by simpa using h)
    simpa [eff] using this

theorem fin_get : ∀ (l : List Blk) (k b : Nat), (fin E y k l)[b]? = (l[b]?).map fun c => if stB E (k + b) then (y.getD (k + b) #[], c.2) else c
  | [], _, _ => by simp [fin]
  | c :: r, k, 0 => by simp [fin]
  | c :: r, k, b + 1 => by
    have := fin_get r (k + 1) b
    simp only [fin, List.getElem?_cons_succ, this, show k + 1 + b = k + (b + 1) by omega]
theorem fin_len (l : List Blk) (k : Nat) : (fin E y k l).length = l.length := by
  induction l generalizing k with
  | nil => rfl
  | cons c r ih => simp [fin, ih]

theorem stB_iff (n : Nat) (hn : E.length ≤ n) (b : Nat) : stB E b = true ↔ ∃ i, i < n ∧ (eff E i).st = some b := by
  unfold stB
  rw [List.any_eq_true]
  constructor
  · rintro ⟨e, he, h⟩
    obtain ⟨i, hi⟩ := List.getElem?_of_mem he
    have hl : i < E.length := (List.getElem?_eq_some_iff.1 hi).1
    exact ⟨i, by omega, by simp [eff, List.getD, hi]; simpa using h⟩
  · rintro ⟨i, _, h⟩
    by_cases hl : i < E.length
    · exact ⟨E[i], List.getElem_mem hl, by simp [eff, List.getD, hl] at h; simp [h]⟩
    · rw [eff_none (by omega)] at h; simp at h

theorem inv_start {m0 : List Blk} {β : Nat → Nat} {a : Act} {w : World} (h : St W s0 m0 β a w) (hz : z.take m0.length = m0) : Inv W ops s0 s1 z y E m0.length (fun _ => false) β a w.drew ∧ Inv W ops s0 s1 z y E m0.length (fun _ => false) β a w := by
  have hW : ∀ t, ¬ Wr ops (fun _ => false) t := by rintro t ⟨i, h, _⟩; cases h
  have hM : ∀ b, Mk E m0.length (fun _ => false) b → b < m0.length := by
    rintro b (h | ⟨i, h, _⟩)
    · exact h
    · cases h
  have hS : ∀ b, ¬ Sd E (fun _ => false) b := by rintro b ⟨i, h, _⟩; cases h
  have hr : ∀ b, b < m0.length → w.heap[β b]? = some (.cells (zc z b).1 (zc z b).2 (0, 0)) := by
    intro b hb
    have h1 : m0[b]? = some (zc z b) := by
      have : (z.take m0.length)[b]? = z[b]? := by rw [List.getElem?_take]; simp [hb]
      rw [hz] at this
      have h2 : m0[b]? = some m0[b] := by simp [hb]
      rw [this] at h2
      unfold zc
      rw [List.getD_eq_getElem?_getD, this, h2]; rfl
    exact h.row b _ h1
  have hu : ∀ t, t < s0.length → a.tmps.getD t undef = den β (slot s0 t) := by
    intro t ht
    rw [h.tm]
    simp [Array.getD, slot, ht]
  have hsz : a.tmps.size = s0.length := by rw [h.tm]; simp
  have hdf : a.defers = [] := by rw [h.tm]
  constructor
  · exact ⟨hdf, hsz, fun t _ hw => absurd hw (hW t), fun t ht _ => hu t ht, h.bel.drew, fun b hb => h.old b (hM b hb), fun b hb _ => hr b (hM b hb), fun b _ hs => absurd hs (hS b), fun b c hb hc => h.inj b c (hM b hb) (hM c hc), fun t p _ hw _ => absurd hw (hW t), fun t p ht hs => h.live t p ht hs, fun i o hi => by cases hi⟩
  · exact ⟨hdf, hsz, fun t _ hw => absurd hw (hW t), fun t ht _ => hu t ht, h.bel, fun b hb => h.old b (hM b hb), fun b hb _ => hr b (hM b hb), fun b _ hs => absurd hs (hS b), fun b c hb hc => h.inj b c (hM b hb) (hM c hc), fun t p _ hw _ => absurd hw (hW t), fun t p ht hs => h.live t p ht hs, fun i o hi => by cases hi⟩

theorem inv_end {m1 : List Blk} {k0 : Nat} {D : Nat → Bool} {β : Nat → Nat} {a : Act} {w : World} (h : Inv W ops s0 s1 z y E k0 D β a w) (hchk : chkB ops s0.length k0 z.length E = true) (hlen : s1.length = s0.length) (hmask : over ops s1 s0 = s1)
    (hmk : madeB E k0 z.length = true) (hk : k0 ≤ z.length) (hm1 : fin E y 0 z = m1) (hD : ∀ i, i < ops.size → D i = true) : St W s1 m1 β a w := by
  have hE : E.length ≤ ops.size := by
    unfold chkB at hchk
    simp only [Bool.and_eq_true] at hchk
    exact Nat.le_of_ble_eq_true hchk.1.2
  have hml : m1.length = z.length := by rw [← hm1, fin_len]
  have hMk : ∀ b, b < z.length → Mk E k0 D b := by
    intro b hb
    unfold madeB at hmk
    have := List.all_eq_true.1 hmk b (by simpa using hb)
    rcases Bool.or_eq_true_iff.1 this with h1 | h1
    · exact Or.inl (Nat.le_of_ble_eq_true h1)
    · obtain ⟨e, he, h2⟩ := List.any_eq_true.1 h1
      obtain ⟨i, hi⟩ := List.getElem?_of_mem he
      have hl : i < E.length := (List.getElem?_eq_some_iff.1 hi).1
      exact Or.inr ⟨i, hD i (by omega), by simp [eff, List.getD, hi]; simpa using h2⟩
  have hval : ∀ t, t < s0.length → a.tmps.getD t undef = den β (slot s1 t) := by
    intro t ht
    by_cases hw : Wr ops D t
    · exact h.wr t ht hw
    · have hn : ∀ i, dstAt ops i ≠ some t := by
        intro i hi
        refine hw ⟨i, hD i ?_, hi⟩
        unfold dstAt at hi
        rcases Nat.lt_or_ge i ops.size with h | h
        · exact h
        · simp [Array.getElem?_eq_none h] at hi
      rw [mask_eq hmask t hn]
      exact h.un t ht hw
  refine ⟨?_, h.bel, ?_, fun b hb => h.old b (hMk b (by omega)), fun b c hb hc => h.inj b c (hMk b (by omega)) (hMk c (by omega)), ?_⟩
  · have hdf := h.df
    cases a with
    | mk tmps defers =>
      simp only at hdf
      subst hdf
      congr 1
      apply Array.ext_getElem?
      intro t
      by_cases ht : t < s0.length
      · have h1 := hval t ht
        have h2 : t < tmps.size := by have := h.sz; simp only at this; omega
        have h3 : t < s1.length := by omega
        simp [Array.getD, h2, slot, h3] at h1
        simp [h2, h3, h1]
      · have h2 : ¬ t < tmps.size := by have := h.sz; simp only at this; omega
        have h3 : ¬ t < s1.length := by omega
        rw [Array.getElem?_eq_none (by omega), Array.getElem?_eq_none (by simp; omega)]
  · intro b c hb
    have hbl : b < z.length := by rw [← hml]; exact (List.getElem?_eq_some_iff.1 hb).1
    rw [← hm1, fin_get] at hb
    have hzb : z[b]? = some (zc z b) := by simp [zc, List.getD, hbl]
    rw [hzb] at hb
    simp only [Option.map_some, Nat.zero_add, Option.some.injEq] at hb
    by_cases hs : stB E b = true
    · rw [if_pos hs] at hb
      subst hb
      obtain ⟨i, hi, hst⟩ := (stB_iff ops.size hE b).1 hs
      exact h.ry b (hMk b hbl) ⟨i, hD i hi, hst⟩
    · rw [if_neg hs] at hb
      subst hb
      refine h.rz b (hMk b hbl) ?_
      rintro ⟨i, _, hst⟩
      refine hs ((stB_iff ops.size hE b).2 ⟨i, ?_, hst⟩)
      rcases Nat.lt_or_ge i ops.size with h | h
      · exact h
      · rw [eff_none (by omega)] at hst; cases hst
  · intro t p ht hs
    rw [hml]
    by_cases hw : Wr ops D t
    · rcases h.live t p (by omega) hw hs with h1 | ⟨i, hi, h1⟩
      · omega
      · have hio : i < ops.size := by
          rcases Nat.lt_or_ge i ops.size with h | h
          · exact h
          · rw [eff_none (by omega)] at h1; cases h1
        exact ((chk_of hchk i ops[i] (by simp [hio])).mkge p.1 h1).2.1
    · have hn : ∀ i, dstAt ops i ≠ some t := by
        intro i hi
        refine hw ⟨i, hD i ?_, hi⟩
        unfold dstAt at hi
        rcases Nat.lt_or_ge i ops.size with h | h
        · exact h
        · simp [Array.getElem?_eq_none h] at hi
      rw [mask_eq hmask t hn] at hs
      have := h.live0 t p (by omega) hs
      omega

theorem wpAny_sym (hacyc : ∀ i o, ops[i]? = some o → ∀ e ∈ o.after, Region.binds .any e = true → e.on < i) (I : (Nat → Bool) → Act → World → Prop)
    (hstep : ∀ D a w, I D a w → ∀ i o, ops[i]? = some o → D i = false → (∀ e ∈ o.after, Region.binds .any e = true → D e.on = true) → ∀ K : Act → World → Prop,
      (∀ a' w', I (add1 D i) a' w' → K a' w') → (Region.wanted o (yielded ops a.tmps) = true ∧ o.wp P a w K Q) ∨ (Region.wanted o (yielded ops a.tmps) = false ∧ K (a.put o.dst undef) w))
    (hend : ∀ D a w, I D a w → (∀ i, i < ops.size → D i = true) → Q .normal a w) :
    ∀ (fuel : Nat) (l : Array Bool) (a : Act) (w : World), l.size = ops.size → (l.toList.filter (!·)).length ≤ fuel → I (fun i => l.getD i false) a w → wpAny P .any ops Q fuel l a w
  | 0, l, a, w, hsz, hf, hi => by
    have hr : Region.ready .any ops l = [] := by
      rw [List.eq_nil_iff_forall_not_mem]
      intro j hj
      obtain ⟨h1, o, ho, _⟩ := mem_ready.1 hj
      have hjl : j < l.size := by rw [hsz]; exact (Array.getElem?_eq_some_iff.1 ho).1
      have h2 : l.toList[j]? = some false := by simp [Array.getD, hjl] at h1 ⊢; exact h1
      have := left_set l.toList j h2
      omega
    exact ⟨hr, hend _ _ _ hi (all_listed hsz hacyc hr)⟩
  | fuel + 1, l, a, w, hsz, hf, hi => by
    refine ⟨fun hr => hend _ _ _ hi (all_listed hsz hacyc hr), fun j hj => ?_⟩
    obtain ⟨h1, o, ho, hdep⟩ := mem_ready.1 hj
    have hjl : j < l.size := by rw [hsz]; exact (Array.getElem?_eq_some_iff.1 ho).1
    have h2 : l.toList[j]? = some false := by simp [Array.getD, hjl] at h1 ⊢; exact h1
    have h3 : l.getD j false = false := by simp [Array.getD, hjl] at h1 ⊢; exact h1
    have h4 := left_set l.toList j h2
    have hk := hstep _ a w hi j o ho h3 hdep (wpAny P .any ops Q fuel (l.setIfInBounds j true)) (fun a' w' h => by
      refine wpAny_sym hacyc I hstep hend fuel (l.setIfInBounds j true) a' w' (by simp [hsz]) (by simp; omega) ?_
      have e : (fun i => (l.setIfInBounds j true).getD i false) = add1 (fun i => l.getD i false) j := by
        funext i
        unfold add1
        by_cases h : i = j
        · subst h; simp [Array.getD, hjl]
        · have h' : ¬ j = i := fun x => h x.symm
          by_cases hil : i < l.size
          · simp [Array.getD, hil, h, h']
          · simp [Array.getD, hil, h]
      rw [e]; exact h)
    unfold wpOp
    simp only [ho]
    rcases hk with ⟨hw, hk⟩ | ⟨hw, hk⟩
    · simp only [hw, if_true]; exact Or.inl hk
    · simp only [hw, Bool.false_eq_true, if_false]; exact hk

theorem wpList_sym {k0 : Nat} (hall : chkB ops s0.length k0 z.length E = true) (hm : over ops s1 s0 = s1) (hok : ∀ j o, ops[j]? = some o → Ok1 P W ops s0 s1 z y o (eff E j))
    (hend : ∀ β D a w, Inv W ops s0 s1 z y E k0 D β a w → (∀ i, i < ops.size → D i = true) → Q .normal a w) :
    ∀ (l : List Oper) (k : Nat) (β : Nat → Nat) (a : Act) (w : World), (∀ j, l[j]? = ops[k + j]?) → Inv W ops s0 s1 z y E k0 (fun i => decide (i < k)) β a w → wpList P ops Q l a w
  | [], k, β, a, w, hl, hI => hend β _ a w hI (fun i hi => by
      have := hl (i - k)
      by_cases h : i < k
      · simp [h]
      · rw [show k + (i - k) = i by omega] at this
        simp [hi] at this)
  | o :: l, k, β, a, w, hl, hI => by
    have ho : ops[k]? = some o := by simpa using (hl 0).symm
    have hacyc := acyc_of (ops := ops) (by unfold chkB at hall; simp only [Bool.and_eq_true] at hall; exact hall.1.1)
    have hstep := hI.step (P := P) hall ho hm (fun e he hb => by simpa using hacyc k o ho e he hb) (by simp) (hok k o ho) (wpList P ops Q l) Q (fun β' a' w' h' => by
      refine wpList_sym hall hm hok hend l (k + 1) β' a' w' (fun j => by have := hl (j + 1); simpa [Nat.add_assoc, Nat.add_comm 1 j] using this) ?_
      have e : add1 (fun i => decide (i < k)) k = fun i => decide (i < k + 1) := by
        funext i
        unfold add1
        by_cases h : i = k
        · simp [h]
        · simp [h]; omega
      rw [← e]; exact h')
    unfold wpList
    rcases hstep with ⟨hw, hk⟩ | ⟨hw, hk⟩
    · simp only [hw, if_true]; exact Or.inl hk
    · simp only [hw, Bool.false_eq_true, if_false]; exact hk

/-- A whole region, its order drawn or not. -/
theorem St.region {id : Nat} {m0 : List Blk} {β : Nat → Nat} {a : Act} {w : World} {l : List Oper} {draw : Bool} (h : St W s0 m0 β a w) (s1 : List SV) (m1 z : List Blk) (y : List (Array Value)) (E : List Eff) (hm : P.follows .mixedOrders = true)
    (hchk : chkB l.toArray s0.length m0.length z.length E = true) (hlen : Nat.beq s1.length s0.length = true) (hmask : over l.toArray s1 s0 = s1) (hz : z.take m0.length = m0) (hk : Nat.ble m0.length z.length = true) (hmk : madeB E m0.length z.length = true) (hm1 : fin E y 0 z = m1)
    (hok : AllOK P W l.toArray s0 s1 z y l E) (hend : ∀ β a w, St W s1 m1 β a w → Q .normal a w) : (Code.region id l.toArray draw).wp P Q a w := by
  have hk := Nat.le_of_ble_eq_true hk
  have hlen := Nat.beq_eq.mp hlen
  have hacyc := acyc_of (ops := l.toArray) (by unfold chkB at hchk; simp only [Bool.and_eq_true] at hchk; exact hchk.1.1)
  have hok' : ∀ j o, l.toArray[j]? = some o → Ok1 P W l.toArray s0 s1 z y o (eff E j) := fun j o ho => allOK_get l E hok j o (by simpa using ho)
  obtain ⟨i1, i2⟩ := inv_start (ops := l.toArray) (s1 := s1) (z := z) (y := y) (E := E) h hz
  cases draw with
  | true =>
    refine wp_region_any hm (wpAny_sym hacyc (fun D a w => ∃ β, Inv W l.toArray s0 s1 z y E m0.length D β a w) ?_ ?_ l.toArray.size _ a _ (by simp) ?_ ?_)
    · rintro D a w ⟨β, hI⟩ i o ho hD hdep K hK
      exact hI.step hchk ho hmask hdep hD (hok' i o ho) K Q (fun β' a' w' h' => hK a' w' ⟨β', h'⟩)
    · rintro D a w ⟨β, hI⟩ hall
      exact hend β a w (inv_end hI hchk hlen hmask hmk hk hm1 hall)
    · exact Nat.le_trans (List.length_filter_le _ _) (by simp)
    · have e : (fun i => (Array.replicate l.toArray.size false).getD i false) = (fun _ => false) := by
        funext i
        by_cases h : i < l.toArray.size <;> simp [Array.getD]
      rw [e]; exact ⟨β, i1⟩
  | false =>
    refine wp_region ?_
    have e := wpOps_eq_wpList (P := P) (ops := l.toArray) (Q := Q) l 0 (by simp)
    rw [show List.range l.toArray.size = List.range' 0 l.length by simp [List.range_eq_range'], e]
    refine wpList_sym hchk hmask hok' (fun β D a w hI hall => hend β a w (inv_end hI hchk hlen hmask hmk hk hm1 hall)) l 0 β a w (by simp) ?_
    have e2 : (fun i : Nat => decide (i < 0)) = fun _ => false := by funext i; simp
    rw [e2]; exact i2
end
end Go.Proofs.Ytgiemldmphbolaa

namespace Go.Proofs.Ytgiemldmphbolaa
open Go.RowKit

def evS (s : List SV) : Operand → Value
  | .tmp t => (match slot s t with
    | .inl v => v
    | .inr _ => undef)
  | .const v => v
  | .global g => .pointer (some ⟨g, 0, none⟩)
  | .func f => .func (.func f) #[] #[]
def plainB (s : List SV) : Operand → Bool
  | .tmp t => (match slot s t with
    | .inl _ => true
    | .inr _ => false)
  | _ => true

section
variable {P : Program} {W : World} {ops : Array Oper} {s0 s1 : List SV} {z : List Blk} {y : List (Array Value)} {o : Oper}

theorem ok_cons {r : List Oper} {e : Eff} {es : List Eff} (h : Ok1 P W ops s0 s1 z y o e) (hr : AllOK P W ops s0 s1 z y r es) : AllOK P W ops s0 s1 z y (o :: r) (e :: es) := ⟨h, hr⟩
theorem ok_nil {es : List Eff} : AllOK P W ops s0 s1 z y [] es := trivial

theorem mem_tmps {t : Tmp} (h : Operand.tmp t ∈ o.op.operands) : t ∈ tmpsOf o := by
  unfold tmpsOf
  exact List.mem_filterMap.2 ⟨.tmp t, by simpa using h, rfl⟩

theorem ev_plain {a : Act} {β : Nat → Nat} (h : ∀ t ∈ tmpsOf o, a.eval (.tmp t) = den β (slot s1 t)) {x : Operand} (hx : x ∈ o.op.operands) (hp : plainB s1 x = true) : a.eval x = evS s1 x := by
  cases x with
  | tmp t =>
    rw [h t (mem_tmps hx)]
    simp only [plainB] at hp
    simp only [evS]
    cases hs : slot s1 t with
    | inl v => rfl
    | inr p => simp [hs] at hp
  | const v => rfl
  | global g => rfl
  | func f => rfl

theorem ok_skip (hw : wantF ops s1 o = false) {d : Tmp} (hd : o.dst = some d) (hs : slot s1 d = .inl undef) : Ok1 P W ops s0 s1 z y o ⟨none, none, none, false⟩ :=
  Or.inr ⟨hw, rfl, fun d' h => by rw [hd] at h; cases h; exact hs⟩

theorem ok_quiet {v : Value} (hw : wantF ops s1 o = true) {d : Tmp} (hd : o.dst = some d) (hs : slot s1 d = .inl v)
    (hrun : ∀ (β : Nat → Nat) (a : Act) (w : World), (∀ t ∈ tmpsOf o, a.eval (.tmp t) = den β (slot s1 t)) → ∀ (K : Act → World → Prop) (Q : Exit → Act → World → Prop), (∀ w', Below w.heap.size w w' → K (a.put o.dst v) w') → o.wp P a w K Q) :
    Ok1 P W ops s0 s1 z y o ⟨none, none, none, false⟩ := by
  refine Or.inl ⟨hw, ⟨?_, fun b h => by simp at h, fun b _ h => by simp at h, ?_⟩⟩
  · rintro b (h | h | ⟨_, d', off, h1, h2⟩)
    · simp at h
    · simp at h
    · rw [hd] at h1; cases h1; rw [hs] at h2; cases h2
  · intro β a w ha hb hr K Q hK
    refine hrun β a w ha K Q (fun w' hw' => hK v w' ?_)
    exact ⟨fun d' h => by rw [hd] at h; cases h; rw [hs]; rfl, hw'⟩

theorem ok_val {v : Value} (hw : wantF ops s1 o = true) {d : Tmp} (hd : o.dst = some d) (hs : slot s1 d = .inl v)
    (hrun : ∀ (β : Nat → Nat) (a : Act) (w : World), (∀ t ∈ tmpsOf o, a.eval (.tmp t) = den β (slot s1 t)) → (execOp a.eval o).run P w = .ok (.value v) w) : Ok1 P W ops s0 s1 z y o ⟨none, none, none, false⟩ := by
  refine ok_quiet hw hd hs (fun β a w ha K Q hK => ?_)
  unfold Oper.wp
  rw [hrun β a w ha, Oper.upon_value]
  exact hK w (Below.refl _ _)

theorem ok_call {f : FuncId} {args : Array Operand} {tys : Array TypeId} {vs : Array Value} {R : Value} {d : Tmp} (hc : ∀ w, Calls P f vs w fun e w' => e = .returned R ∧ Below w.heap.size w w') (ho : o.op = .call { callee := .value (.func f), args := args, argTypes := tys }) (hw : wantF ops s1 o = true) (hd : o.dst = some d) (hs : slot s1 d = .inl R)
    (hv : args.map (evS s1) = vs) (hp : args.all (plainB s1) = true) (he : ∀ w, (callFunc f vs).run P w = .ok (.enter f vs) w) :
    Ok1 P W ops s0 s1 z y o ⟨none, none, none, false⟩ := by
  refine ok_quiet hw hd hs (fun β a w ha K Q hK => ?_)
  have hmap : args.map a.eval = vs := by
    rw [← hv]
    apply Array.map_congr_left
    intro x hx
    refine ev_plain ha ?_ (Array.all_eq_true_iff_forall_mem.1 hp x hx)
    rw [ho]; simp [Op.operands, Call.operands, hx]
  exact oper_call f args tys ho vs hmap he (hc w) hK

theorem ok_mv {x : Operand} {d : Tmp} (ho : o.op = .move x ∨ o.op = .assign x) (hw : wantF ops s1 o = true) (hd : o.dst = some d) (hp : plainB s1 x = true) (hs : slot s1 d = .inl (evS s1 x)) : Ok1 P W ops s0 s1 z y o ⟨none, none, none, false⟩ := by
  refine ok_val hw hd hs (fun β a w ha => ?_)
  have hx : a.eval x = evS s1 x := ev_plain ha (by rcases ho with ho | ho <;> rw [ho] <;> simp [Op.operands]) hp
  rcases ho with ho | ho <;> simp [execOp, ho, hx]

/-- A slot that the region itself turns later, read as it stood. -/
theorem ok_mv0 {x : Operand} {d : Tmp} (ho : o.op = .move x) (hw : wantF ops s1 o = true) (hd : o.dst = some d) (hp : plainB s0 x = true) (hs : slot s1 d = .inl (evS s0 x)) : Ok1 P W ops s0 s1 z y o ⟨none, none, none, true⟩ := by
  refine Or.inl ⟨hw, ⟨?_, fun b h => by simp at h, fun b _ h => by simp at h, ?_⟩⟩
  · rintro b (h | h | ⟨_, d', off, h1, h2⟩)
    · simp at h
    · simp at h
    · rw [hd] at h1; cases h1; rw [hs] at h2; cases h2
  · intro β a w ha hb hr K Q hK
    have hx : a.eval x = evS s0 x := ev_plain ha (by rw [ho]; simp [Op.operands]) hp
    unfold Oper.wp
    simp only [execOp, ho, hx, Sem.run_pure, Oper.upon_value]
    exact hK _ _ ⟨fun d' h => by rw [hd] at h; cases h; rw [hs]; rfl, Below.refl _ _⟩

theorem ok_not {t : TypeId} {x : Operand} {d : Tmp} {b : Bool} (ho : o.op = .unOp .not t x) (hw : wantF ops s1 o = true) (hd : o.dst = some d) (hp : plainB s1 x = true) (hx : evS s1 x = .bool b) (hs : slot s1 d = .inl (.bool (!b))) : Ok1 P W ops s0 s1 z y o ⟨none, none, none, false⟩ := by
  refine ok_val hw hd hs (fun β a w ha => ?_)
  have hx : a.eval x = .bool b := by rw [ev_plain ha (by rw [ho]; simp [Op.operands]) hp, hx]
  simp only [execOp, ho, hx]
  simp [go_sem]

theorem ok_pick_t {c x u : Operand} {d : Tmp} (ho : o.op = .pick c x u) (hw : wantF ops s1 o = true) (hd : o.dst = some d) (hpc : plainB s1 c = true) (hc : evS s1 c = .bool true) (hp : plainB s1 x = true) (hs : slot s1 d = .inl (evS s1 x)) : Ok1 P W ops s0 s1 z y o ⟨none, none, none, false⟩ := by
  refine ok_val hw hd hs (fun β a w ha => ?_)
  have h1 : a.eval c = .bool true := by rw [ev_plain ha (by rw [ho]; simp [Op.operands]) hpc, hc]
  have h2 : a.eval x = evS s1 x := ev_plain ha (by rw [ho]; simp [Op.operands]) hp
  simp only [execOp, ho, h1, h2, asBool]
  simp
theorem ok_pick_f {c x u : Operand} {d : Tmp} (ho : o.op = .pick c x u) (hw : wantF ops s1 o = true) (hd : o.dst = some d) (hpc : plainB s1 c = true) (hc : evS s1 c = .bool false) (hp : plainB s1 u = true) (hs : slot s1 d = .inl (evS s1 u)) : Ok1 P W ops s0 s1 z y o ⟨none, none, none, false⟩ := by
  refine ok_val hw hd hs (fun β a w ha => ?_)
  have h1 : a.eval c = .bool false := by rw [ev_plain ha (by rw [ho]; simp [Op.operands]) hpc, hc]
  have h2 : a.eval u = evS s1 u := ev_plain ha (by rw [ho]; simp [Op.operands]) hp
  simp only [execOp, ho, h1, h2, asBool]
  simp

theorem ok_bin {p : BinOp} {t t' : TypeId} {x u : Operand} {d : Tmp} {v x1 u1 : Value} (hr : ∀ w, (do eqGuard p t x u x1 u1; binOp p t x1 u1).run P w = .ok v w) (ho : o.op = .binOp p t x u t') (hw : wantF ops s1 o = true) (hd : o.dst = some d) (hpx : plainB s1 x = true) (hx1 : evS s1 x = x1) (hpu : plainB s1 u = true) (hu1 : evS s1 u = u1) (hs : slot s1 d = .inl v) : Ok1 P W ops s0 s1 z y o ⟨none, none, none, false⟩ := by
  refine ok_val hw hd hs (fun β a w ha => ?_)
  have h1 : a.eval x = x1 := by rw [← hx1]; exact ev_plain ha (by rw [ho]; simp [Op.operands]) hpx
  have h2 : a.eval u = u1 := by rw [← hu1]; exact ev_plain ha (by rw [ho]; simp [Op.operands]) hpu
  have := hr w
  simp only [execOp, ho, h1, h2, Sem.run_bind, this, Result.andThen_ok, Sem.run_pure]

theorem ok_ext {x : Operand} {i : Nat} {d : Tmp} {v x1 : Value} (hr : ∀ w, (Instr.extract x1 i).run P w = .ok v w) (ho : o.op = .extract x i) (hw : wantF ops s1 o = true) (hd : o.dst = some d) (hpx : plainB s1 x = true) (hx1 : evS s1 x = x1) (hs : slot s1 d = .inl v) : Ok1 P W ops s0 s1 z y o ⟨none, none, none, false⟩ := by
  refine ok_val hw hd hs (fun β a w ha => ?_)
  have h1 : a.eval x = x1 := by rw [← hx1]; exact ev_plain ha (by rw [ho]; simp [Op.operands]) hpx
  simp only [execOp, ho, h1, Sem.run_bind, hr w, Result.andThen_ok, Sem.run_pure]

theorem ok_field {t : TypeId} {x : Operand} {i : Nat} {d : Tmp} {v x1 : Value} (hr : ∀ w, (Instr.field t x1 i).run P w = .ok v w) (ho : o.op = .field t x i) (hw : wantF ops s1 o = true) (hd : o.dst = some d) (hpx : plainB s1 x = true) (hx1 : evS s1 x = x1) (hs : slot s1 d = .inl v) : Ok1 P W ops s0 s1 z y o ⟨none, none, none, false⟩ := by
  refine ok_val hw hd hs (fun β a w ha => ?_)
  have h1 : a.eval x = x1 := by rw [← hx1]; exact ev_plain ha (by rw [ho]; simp [Op.operands]) hpx
  simp only [execOp, ho, h1, Sem.run_bind, hr w, Result.andThen_ok, Sem.run_pure]

theorem ok_index {t : TypeId} {x u : Operand} {d : Tmp} {v x1 u1 : Value} (hr : ∀ w, (Instr.index t x1 u1).run P w = .ok v w) (ho : o.op = .index t x u) (hw : wantF ops s1 o = true) (hd : o.dst = some d) (hpx : plainB s1 x = true) (hx1 : evS s1 x = x1) (hpu : plainB s1 u = true) (hu1 : evS s1 u = u1) (hs : slot s1 d = .inl v) : Ok1 P W ops s0 s1 z y o ⟨none, none, none, false⟩ := by
  refine ok_val hw hd hs (fun β a w ha => ?_)
  have h1 : a.eval x = x1 := by rw [← hx1]; exact ev_plain ha (by rw [ho]; simp [Op.operands]) hpx
  have h2 : a.eval u = u1 := by rw [← hu1]; exact ev_plain ha (by rw [ho]; simp [Op.operands]) hpu
  simp only [execOp, ho, h1, h2, Sem.run_bind, hr w, Result.andThen_ok, Sem.run_pure]

theorem ok_conv {t t' : TypeId} {x : Operand} {d : Tmp} {v x1 : Value} (hr : ∀ w, (convert t t' x1).run P w = .ok v w) (ho : o.op = .convert t t' x) (hw : wantF ops s1 o = true) (hd : o.dst = some d) (hpx : plainB s1 x = true) (hx1 : evS s1 x = x1) (hs : slot s1 d = .inl v) : Ok1 P W ops s0 s1 z y o ⟨none, none, none, false⟩ := by
  refine ok_val hw hd hs (fun β a w ha => ?_)
  have h1 : a.eval x = x1 := by rw [← hx1]; exact ev_plain ha (by rw [ho]; simp [Op.operands]) hpx
  simp only [execOp, ho, h1, Sem.run_bind, hr w, Result.andThen_ok, Sem.run_pure]

theorem ok_build {t : TypeId} {ps : Array (Nat × Operand)} {vs : Array (Nat × Value)} {d : Tmp} {v : Value} (hr : ∀ w, (Instr.build t vs).run P w = .ok v w) (ho : o.op = .build t ps) (hw : wantF ops s1 o = true) (hd : o.dst = some d) (hp : ps.all (fun q => plainB s1 q.2) = true) (hvs : (ps.map fun q => (q.1, evS s1 q.2)) = vs) (hs : slot s1 d = .inl v) : Ok1 P W ops s0 s1 z y o ⟨none, none, none, false⟩ := by
  refine ok_val hw hd hs (fun β a w ha => ?_)
  have h1 : (ps.map fun (q : Nat × Operand) => (q.1, a.eval q.2)) = ps.map fun q => (q.1, evS s1 q.2) := by
    apply Array.map_congr_left
    intro q hq
    rw [ev_plain ha (by rw [ho]; simp only [Op.operands]; exact List.mem_toArray.2 (List.mem_map.2 ⟨q, by simpa using hq, rfl⟩)) (Array.all_eq_true_iff_forall_mem.1 hp q hq)]
  have := hr w
  rw [← hvs, ← h1] at this
  simp only [execOp, ho, Sem.run_bind, this, Result.andThen_ok, Sem.run_pure]

/-- A load out of a block of the call's own. -/
theorem ok_load {t t0 : TypeId} {p d b off : Nat} {c : Array Value} {v : Value} (hld : ∀ (w : World) (q : Nat), w.heap[q]? = some (.cells c t0 (0, 0)) → (Instr.loadAt t (.pointer (some ⟨q, off, none⟩))).run P w = .ok v w)
    (ho : o.op = .load t (.tmp p)) (hw : wantF ops s1 o = true) (hd : o.dst = some d) (hp : slot s1 p = .inr (b, off)) (hz : zc z b = (c, t0)) (hs : slot s1 d = .inl v) : Ok1 P W ops s0 s1 z y o ⟨none, none, some b, false⟩ := by
  have hm : p ∈ tmpsOf o := mem_tmps (by rw [ho]; simp [Op.operands])
  refine Or.inl ⟨hw, ⟨?_, fun b h => by simp at h, fun b _ h => by simp at h, ?_⟩⟩
  · rintro b' (h | h | ⟨_, d', off', h1, h2⟩)
    · cases h; exact ⟨p, hm, off, hp⟩
    · simp at h
    · rw [hd] at h1; cases h1; rw [hs] at h2; cases h2
  · intro β a w ha hb hr K Q hK
    have h1 := hr b (Or.inl rfl)
    rw [hz] at h1
    have h2 := hld w (β b) h1
    have h3 : a.eval (.tmp p) = .pointer (some ⟨β b, off, none⟩) := by rw [ha p hm, hp]; rfl
    unfold Oper.wp
    simp only [execOp, ho, h3, Sem.run_bind, h2, Result.andThen_ok, Sem.run_pure, Oper.upon_value]
    exact hK v w ⟨fun d' h => by rw [hd] at h; cases h; rw [hs]; rfl, Below.refl _ _⟩

/-- A write into a block of the call's own. -/
theorem ok_store {t t0 : TypeId} {p b off : Nat} {x : Operand} {u : Value} {c n : Array Value} (hst : ∀ (w : World) (q : Nat), w.heap[q]? = some (.cells c t0 (0, 0)) → (Instr.storeAt t (.pointer (some ⟨q, off, none⟩)) u).run P w = .ok () (w.setRow q n))
    (ho : o.op = .store t (.tmp p) x) (hw : wantF ops s1 o = true) (hd : o.dst = none) (hp : slot s1 p = .inr (b, off)) (hz : zc z b = (c, t0)) (hx : plainB s1 x = true) (hu : evS s1 x = u) (hy : y.getD b #[] = n) : Ok1 P W ops s0 s1 z y o ⟨none, some b, none, false⟩ := by
  have hm : p ∈ tmpsOf o := mem_tmps (by rw [ho]; simp [Op.operands])
  refine Or.inl ⟨hw, ⟨?_, fun b h => by simp at h, fun b _ _ => hd, ?_⟩⟩
  · rintro b' (h | h | ⟨_, d', off', h1, h2⟩)
    · simp at h
    · cases h; exact ⟨p, hm, off, hp⟩
    · rw [hd] at h1; cases h1
  · intro β a w ha hb hr K Q hK
    have h1 := hr b (Or.inr rfl)
    rw [hz] at h1
    have h2 := hst w (β b) h1
    have h3 : a.eval (.tmp p) = .pointer (some ⟨β b, off, none⟩) := by rw [ha p hm, hp]; rfl
    have h4 : a.eval x = u := by rw [← hu]; exact ev_plain ha (by rw [ho]; simp [Op.operands]) hx
    unfold Oper.wp
    simp only [execOp, ho, h3, h4, Sem.run_bind, h2, Result.andThen_ok, Sem.run_pure, Oper.upon_skip]
    refine hK undef _ ⟨rfl, by rw [hy]⟩

/-- A block that is made. -/
theorem ok_alloc {t t0 : TypeId} {d b : Nat} {c : Array Value} (hal : ∀ w : World, (Instr.alloc t true (.tuple #[])).run P w = .ok (.pointer (some ⟨w.heap.size, 0, none⟩)) (w.alloc (.cells c t0)))
    (ho : o.op = .alloc t) (hw : wantF ops s1 o = true) (hd : o.dst = some d) (hz : zc z b = (c, t0)) (hs : slot s1 d = .inr (b, 0)) : Ok1 P W ops s0 s1 z y o ⟨some b, none, none, false⟩ := by
  refine Or.inl ⟨hw, ⟨?_, fun b' h => ?_, fun b _ h => by simp at h, ?_⟩⟩
  · rintro b' (h | h | ⟨h, _⟩) <;> simp at h
  · cases h; exact ⟨d, hd, hs⟩
  · intro β a w ha hb hr K Q hK
    unfold Oper.wp
    simp only [execOp, ho, Sem.run_bind, hal w, Result.andThen_ok, Sem.run_pure, Oper.upon_value]
    exact hK _ _ ⟨rfl, by rw [hz]⟩
theorem ok_box {t t0 : TypeId} {d b : Nat} {x : Operand} {u : Value} {c : Array Value} (hal : ∀ w : World, (Instr.box t u).run P w = .ok (.pointer (some ⟨w.heap.size, 0, none⟩)) (w.alloc (.cells c t0)))
    (ho : o.op = .box t x) (hw : wantF ops s1 o = true) (hd : o.dst = some d) (hx : plainB s1 x = true) (hu : evS s1 x = u) (hz : zc z b = (c, t0)) (hs : slot s1 d = .inr (b, 0)) : Ok1 P W ops s0 s1 z y o ⟨some b, none, none, false⟩ := by
  refine Or.inl ⟨hw, ⟨?_, fun b' h => ?_, fun b _ h => by simp at h, ?_⟩⟩
  · rintro b' (h | h | ⟨h, _⟩) <;> simp at h
  · cases h; exact ⟨d, hd, hs⟩
  · intro β a w ha hb hr K Q hK
    have h4 : a.eval x = u := by rw [← hu]; exact ev_plain ha (by rw [ho]; simp [Op.operands]) hx
    unfold Oper.wp
    simp only [execOp, ho, h4, Sem.run_bind, hal w, Result.andThen_ok, Sem.run_pure, Oper.upon_value]
    exact hK _ _ ⟨rfl, by rw [hz]⟩

/-- The address of a part. -/
theorem ok_faddr {t : TypeId} {p d b off off' f : Nat} (hf : ∀ (w : World) (q : Nat), (Instr.fieldAt t (.pointer (some ⟨q, off, none⟩)) f).run P w = .ok (.pointer (some ⟨q, off', none⟩)) w)
    (ho : o.op = .fieldAddr t (.tmp p) f) (hw : wantF ops s1 o = true) (hd : o.dst = some d) (hp : slot s1 p = .inr (b, off)) (hs : slot s1 d = .inr (b, off')) : Ok1 P W ops s0 s1 z y o ⟨none, none, none, false⟩ := by
  have hm : p ∈ tmpsOf o := mem_tmps (by rw [ho]; simp [Op.operands])
  refine Or.inl ⟨hw, ⟨?_, fun b h => by simp at h, fun b _ h => by simp at h, ?_⟩⟩
  · rintro b' (h | h | ⟨_, d', off', h1, h2⟩)
    · simp at h
    · simp at h
    · rw [hd] at h1; cases h1; rw [hs] at h2; cases h2; exact ⟨p, hm, off, hp⟩
  · intro β a w ha hb hr K Q hK
    have h3 : a.eval (.tmp p) = .pointer (some ⟨β b, off, none⟩) := by rw [ha p hm, hp]; rfl
    unfold Oper.wp
    simp only [execOp, ho, h3, Sem.run_bind, hf w (β b), Result.andThen_ok, Sem.run_pure, Oper.upon_value]
    exact hK _ _ ⟨fun d' h => by rw [hd] at h; cases h; rw [hs]; rfl, Below.refl _ _⟩
theorem ok_iaddr {t : TypeId} {p d b off off' : Nat} {x : Operand} {u : Value} (hf : ∀ (w : World) (q : Nat), (Instr.indexAt t (.pointer (some ⟨q, off, none⟩)) u).run P w = .ok (.pointer (some ⟨q, off', none⟩)) w)
    (ho : o.op = .indexAddr t (.tmp p) x) (hw : wantF ops s1 o = true) (hd : o.dst = some d) (hx : plainB s1 x = true) (hu : evS s1 x = u) (hp : slot s1 p = .inr (b, off)) (hs : slot s1 d = .inr (b, off')) : Ok1 P W ops s0 s1 z y o ⟨none, none, none, false⟩ := by
  have hm : p ∈ tmpsOf o := mem_tmps (by rw [ho]; simp [Op.operands])
  refine Or.inl ⟨hw, ⟨?_, fun b h => by simp at h, fun b _ h => by simp at h, ?_⟩⟩
  · rintro b' (h | h | ⟨_, d', off', h1, h2⟩)
    · simp at h
    · simp at h
    · rw [hd] at h1; cases h1; rw [hs] at h2; cases h2; exact ⟨p, hm, off, hp⟩
  · intro β a w ha hb hr K Q hK
    have h3 : a.eval (.tmp p) = .pointer (some ⟨β b, off, none⟩) := by rw [ha p hm, hp]; rfl
    have h4 : a.eval x = u := by rw [← hu]; exact ev_plain ha (by rw [ho]; simp [Op.operands]) hx
    unfold Oper.wp
    simp only [execOp, ho, h3, h4, Sem.run_bind, hf w (β b), Result.andThen_ok, Sem.run_pure, Oper.upon_value]
    exact hK _ _ ⟨fun d' h => by rw [hd] at h; cases h; rw [hs]; rfl, Below.refl _ _⟩
end

section
variable {P : Program} {W : World} {s : List SV} {m : List Blk} {β : Nat → Nat} {a : Act} {w : World} {Q : Exit → Act → World → Prop}

/-- Entering. -/
theorem sym_enter {f : FuncId} {fn : Func} {c : Code} {args : Array Value} {R : Ending → World → Prop} {n : Nat} (hf : P.funcs[f]? = some fn) (hn : fn.ntmps = n) (hb : fn.body = some c) (s : List SV) (hs : (args ++ Array.replicate (n - args.size) undef) = (s.map (den fun _ => 0)).toArray)
    (hl : s.all (fun v => match v with | .inl _ => true | .inr _ => false) = true) (h : ∀ β a, St W s [] β a W → c.wp P (bodyPost P fn R) a W) : Calls P f args W R := by
  refine calls_of_wp hf hb ?_
  rw [hn, hs]
  refine h (fun _ => 0) _ ⟨rfl, Below.refl _ _, fun b c h => by simp at h, fun b h => by simp at h, fun b c h => by simp at h, fun t p ht h => ?_⟩
  have := List.all_eq_true.1 hl (slot s t) (by unfold slot; rw [List.getD_eq_getElem?_getD, List.getElem?_eq_getElem ht]; exact List.getElem_mem ht)
  rw [h] at this; simp at this

theorem sym_seq {x y : Code} (h : x.wp P (Exit.then (y.wp P Q) Q) a w) : (Code.seq x y).wp P Q a w := wp_seq h
theorem St.eval (h : St W s m β a w) {t : Tmp} {v : Value} (ht : Nat.blt t s.length = true) (hs : slot s t = .inl v) : a.eval (.tmp t) = v := by
  have ht : t < s.length := Nat.le_of_ble_eq_true ht
  rw [h.tm]
  simp only [Act.eval, Array.getD]
  unfold slot at hs
  simp [ht] at hs ⊢
  rw [hs]; rfl
theorem sym_cond {t : Tmp} {b : Bool} {x y : Code} (h : St W s m β a w) (ht : Nat.blt t s.length = true) (hs : slot s t = .inl (.bool b)) (hk : (if b then x else y).wp P Q a w) : (Code.cond (.tmp t) x y).wp P Q a w := wp_cond (h.eval ht hs) hk

/-- Leaving with what a slot holds. -/
theorem sym_ret {fn : Func} {R : Ending → World → Prop} {t : Tmp} {v : Value} (h : St W s m β a w) (hr : fn.results = #[.tmp t]) (ht : Nat.blt t s.length = true) (hs : slot s t = .inl v) (hR : Below W.heap.size W w → R (.returned v) w) : bodyPost P fn R .ret a w := by
  have hv := h.eval ht hs
  have ht : t < s.length := Nat.le_of_ble_eq_true ht
  refine ⟨by rw [h.tm], v, ?_, hR h.bel⟩
  have : a.tmps[t]? = some v := by
    have hsz : t < a.tmps.size := by rw [h.tm]; simpa using ht
    simp only [Act.eval, Array.getD, hsz] at hv
    simp at hv
    simp [hsz, hv]
  simp [results, hr, this]
/-- Leaving with what a block holds. -/
theorem sym_retc {fn : Func} {R : Ending → World → Prop} {t b : Nat} {ty t0 : TypeId} {c : Array Value} {d : TypeDesc} (h : St W s m β a w) (hr : fn.results = #[.cell t ty]) (ht : Nat.blt t s.length = true) (hs : slot s t = .inr (b, 0)) (hm : m[b]? = some (c, t0))
    (hu : P.underlying ty = some d) (hd : (match d with | .struct _ | .array _ _ => true | _ => false) = true) (hi : (P.info? ty).map (·.size) = some c.size) (hR : Below W.heap.size W w → R (.returned (.agg c)) w) : bodyPost P fn R .ret a w := by
  have ht : t < s.length := Nat.le_of_ble_eq_true ht
  refine ⟨by rw [h.tm], .agg c, ?_, hR h.bel⟩
  have hrow := h.row b _ hm
  have htm : a.tmps[t]? = some (.pointer (some ⟨β b, 0, none⟩)) := by
    rw [h.tm]
    unfold slot at hs
    simp [ht] at hs ⊢
    rw [hs]; rfl
  have hr2 := run_loadVar_row (P := P) w (β b) t0 ty c (0, 0) _ hrow hu hd hi
  simp only [results, hr]
  simp [htm, asAddr, hr2]
end
end Go.Proofs.Ytgiemldmphbolaa

namespace Go.Proofs.Ytgiemldmphbolaa
open Go.RowKit
variable {P : Program} {W : World} {s : List SV} {m : List Blk} {β : Nat → Nat} {a : Act} {w : World} {Q : Exit → Act → World → Prop}

theorem seq_gen {x y : Code} (h : ∀ QQ : Exit → Act → World → Prop, Hid (∀ a w, y.wp P Q a w → QQ .normal a w) → x.wp P QQ a w) : (Code.seq x y).wp P Q a w := wp_seq (h _ (hide1 (fun _ _ h => h)))

def liveB (s : List SV) (k : Nat) : Bool := s.all fun v => match v with
  | .inl _ => true
  | .inr p => Nat.blt p.1 k
theorem live_of {k : Nat} (h : liveB s k = true) : ∀ t p, t < s.length → slot s t = .inr p → p.1 < k := by
  intro t p ht hs
  have := List.all_eq_true.1 h (slot s t) (by unfold slot; rw [List.getD_eq_getElem?_getD, List.getElem?_eq_getElem ht]; exact List.getElem_mem ht)
  rw [hs] at this
  exact Nat.le_of_ble_eq_true this

theorem list_set_same {α : Type} : ∀ (l : List α) (i : Nat) (x : α), l[i]? = some x → l.set i x = l
  | [], _, _, h => by simp at h
  | y :: l, 0, x, h => by simp at h; simp [h]
  | y :: l, i + 1, x, h => by simp at h; simp [list_set_same l i x (by simpa using h)]
/-- A block's content told otherwise; a slot's value told otherwise. -/
theorem St.setm (h : St W s m β a w) (b : Nat) {c c' : Array Value} {t : TypeId} {m' : List Blk} (e : c = c') (hb : m[b]? = some (c, t)) (hm : m.set b (c', t) = m') : St W s m' β a w := by
  subst e
  rw [list_set_same m b _ hb] at hm
  rw [← hm]; exact h
theorem St.sets (h : St W s m β a w) (i : Nat) {v v' : Value} {s' : List SV} (e : v = v') (hi : s[i]? = some (.inl v)) (hs : s.set i (.inl v') = s') : St W s' m β a w := by
  subst e
  rw [list_set_same s i _ hi] at hs
  rw [← hs]; exact h

/-- A state of three blocks. -/
def bet3 (p q r : Nat) : Nat → Nat
  | 0 => p
  | 1 => q
  | _ => r
theorem st3 {p q r : Nat} {c0 c1 c2 : Array Value} {t0 t1 t2 : TypeId} (ht : a = { tmps := (s.map (den (bet3 p q r))).toArray, defers := [] }) (hb : Below W.heap.size W w) (h0 : w.heap[p]? = some (.cells c0 t0 (0, 0))) (h1 : w.heap[q]? = some (.cells c1 t1 (0, 0))) (h2 : w.heap[r]? = some (.cells c2 t2 (0, 0)))
    (o0 : W.heap.size ≤ p) (o1 : W.heap.size ≤ q) (o2 : W.heap.size ≤ r) (n01 : p ≠ q) (n02 : p ≠ r) (n12 : q ≠ r) (hl : liveB s 3 = true) : St W s [(c0, t0), (c1, t1), (c2, t2)] (bet3 p q r) a w := by
  refine ⟨ht, hb, ?_, ?_, ?_, fun t p h1 h2 => live_of hl t p h1 h2⟩
  · intro b c hc
    match b, hc with
    | 0, hc => simp at hc; subst hc; exact h0
    | 1, hc => simp at hc; subst hc; exact h1
    | 2, hc => simp at hc; subst hc; exact h2
    | b + 3, hc => simp at hc
  · intro b hb
    match b, hb with
    | 0, _ => exact o0
    | 1, _ => exact o1
    | 2, _ => exact o2
    | b + 3, hb => simp at hb; omega
  · intro b c hb hc he
    simp at hb hc
    have hb' : b = 0 ∨ b = 1 ∨ b = 2 := by omega
    have hc' : c = 0 ∨ c = 1 ∨ c = 2 := by omega
    rcases hb' with rfl | rfl | rfl <;> rcases hc' with rfl | rfl | rfl <;> simp only [bet3] at he <;> first | rfl | exact absurd he n01 | exact absurd he.symm n01 | exact absurd he n02 | exact absurd he.symm n02 | exact absurd he n12 | exact absurd he.symm n12

theorem then_ret {K : Act → World → Prop} (h : Q .ret a w) : Exit.then K Q .ret a w := h
theorem with_st {c : Code} (h : St W s m β a w) (hk : ∀ a, St W s m β a w → c.wp P Q a w) : c.wp P Q a w := hk a h

/-- Leaving with what a block and a slot hold. -/
theorem sym_ret2 {fn : Func} {R : Ending → World → Prop} {t b t2 : Nat} {ty t0 : TypeId} {c : Array Value} {v : Value} {d : TypeDesc} (h : St W s m β a w) (hr : fn.results = #[.cell t ty, .tmp t2]) (ht : Nat.blt t s.length = true) (hs : slot s t = .inr (b, 0)) (hm : m[b]? = some (c, t0))
    (ht2 : Nat.blt t2 s.length = true) (hs2 : slot s t2 = .inl v)
    (hu : P.underlying ty = some d) (hd : (match d with | .struct _ | .array _ _ => true | _ => false) = true) (hi : (P.info? ty).map (·.size) = some c.size) (hR : Below W.heap.size W w → R (.returned (.tuple #[.agg c, v])) w) : bodyPost P fn R .ret a w := by
  have ht := Nat.le_of_ble_eq_true ht
  refine ⟨by rw [h.tm], .tuple #[.agg c, v], ?_, hR h.bel⟩
  have hrow := h.row b _ hm
  have htm : a.tmps[t]? = some (.pointer (some ⟨β b, 0, none⟩)) := by
    rw [h.tm]
    unfold slot at hs
    simp [show t < s.length from ht] at hs ⊢
    rw [hs]; rfl
  have hv := h.eval ht2 hs2
  have ht2 : t2 < s.length := Nat.le_of_ble_eq_true ht2
  have htm2 : a.tmps[t2]? = some v := by
    have hsz : t2 < a.tmps.size := by rw [h.tm]; simpa using ht2
    simp only [Act.eval, Array.getD, hsz] at hv
    simp at hv
    simp [hsz, hv]
  have hr2 := run_loadVar_row (P := P) w (β b) t0 ty c (0, 0) _ hrow hu hd hi
  simp only [results, hr]
  simp [htm, htm2, asAddr, hr2]
end Go.Proofs.Ytgiemldmphbolaa

namespace Go.Proofs.Ytgiemldmphbolaa
open Go.RowKit

theorem ld_row {P : Program} {t t0 : TypeId} {c : Array Value} {d : TypeDesc} (hu : P.underlying t = some d) (hd : (match d with | .struct _ | .array _ _ => true | _ => false) = true) (hi : (P.info? t).map (·.size) = some c.size)
    (w : World) (q : Nat) (hrow : w.heap[q]? = some (.cells c t0 (0, 0))) : (Instr.loadAt t (.pointer (some ⟨q, 0, none⟩))).run P w = .ok (.agg c) w := by
  have hr := run_loadVar_row (P := P) w q t0 t c (0, 0) _ hrow hu hd hi
  simp only [Instr.loadAt, Instr.sureAddr, Sem.run_bind, Sem.run_pure, Result.andThen_ok, hr]
theorem st_row {P : Program} {t t0 : TypeId} {c n : Array Value} (hi : (P.info? t).map (·.size) = some n.size) (hsz : c.size = n.size) (h1 : n.all (·.oneCell') = true)
    (w : World) (q : Nat) (hrow : w.heap[q]? = some (.cells c t0 (0, 0))) : (Instr.storeAt t (.pointer (some ⟨q, 0, none⟩)) (.agg n)).run P w = .ok () (w.setRow q n) := by
  have hr := run_storeVar_row (P := P) w q t0 t c n hrow hi hsz h1
  simp only [Instr.storeAt, Instr.sureAddr, Sem.run_bind, Sem.run_pure, Result.andThen_ok, hr]
theorem bx_agg {P : Program} {t : TypeId} {c : Array Value} (w : World) : (Instr.box t (.agg c)).run P w = .ok (.pointer (some ⟨w.heap.size, 0, none⟩)) (w.alloc (.cells c t)) := by
  simp [Instr.box, go_sem]

/-- An element's cells, as one name. -/
def ce (n : Nat) : Array Value := cs (dig n)
theorem ldE {n : Nat} (t0 : TypeId) (w : World) (q : Nat) (h : w.heap[q]? = some (.cells (ce n) t0 (0, 0))) : (Instr.loadAt 29 (.pointer (some ⟨q, 0, none⟩))).run Try.prog w = .ok (el (dig n)) w :=
  ld_row (c := ce n) Try.underlying29 rfl (by kernel_rfl) w q h
theorem stE {n : Nat} {c : Array Value} (t0 : TypeId) (hc : c.size = 4) (w : World) (q : Nat) (h : w.heap[q]? = some (.cells c t0 (0, 0))) : (Instr.storeAt 29 (.pointer (some ⟨q, 0, none⟩)) (el (dig n))).run Try.prog w = .ok () (w.setRow q (ce n)) :=
  st_row (n := ce n) (by kernel_rfl) hc (cs_one (dig n)) w q h
theorem alE (w : World) : (Instr.alloc 29 true (.tuple #[])).run Try.prog w = .ok (.pointer (some ⟨w.heap.size, 0, none⟩)) (w.alloc (.cells (ce 0) 29)) := by
  simp [Instr.alloc, go_sem]
  rfl
theorem bxE {n : Nat} (w : World) : (Instr.box 29 (el (dig n))).run Try.prog w = .ok (.pointer (some ⟨w.heap.size, 0, none⟩)) (w.alloc (.cells (ce n) 29)) := bx_agg (c := ce n) w
theorem ce_size (n : Nat) : (ce n).size = 4 := rfl
theorem bdE (w : World) : (Instr.build 29 #[]).run Try.prog w = .ok (el (dig 0)) w := by kernel_rfl

/-- A key's cells, as one name. -/
def ck (b : Nat → Nat) : Array Value := arr 32 fun i => .int .u8 (b i)
theorem ck_size (b : Nat → Nat) : (ck b).size = 32 := arr_size _ _
theorem ldK {b : Nat → Nat} (t0 : TypeId) (w : World) (q : Nat) (h : w.heap[q]? = some (.cells (ck b) t0 (0, 0))) : (Instr.loadAt 23 (.pointer (some ⟨q, 0, none⟩))).run Try.prog w = .ok (.agg (ck b)) w :=
  ld_row (c := ck b) Try.underlying23 rfl (by rw [ck_size]; kernel_rfl) w q h
theorem bxK {b : Nat → Nat} (w : World) : (Instr.box 23 (.agg (ck b))).run Try.prog w = .ok (.pointer (some ⟨w.heap.size, 0, none⟩)) (w.alloc (.cells (ck b) 23)) := bx_agg w

theorem is_t {m n : Nat} (hm : m < pp) (hn : n < pp) (h : m = n) (w : World) : Calls Try.prog 31 #[el (dig m), el (dig n)] w fun e w' => e = .returned (.bool true) ∧ Below w.heap.size w w' := by
  have := is_d hm hn w
  rwa [decide_eq_true h] at this
theorem is_f {m n : Nat} (hm : m < pp) (hn : n < pp) (h : m ≠ n) (w : World) : Calls Try.prog 31 #[el (dig m), el (dig n)] w fun e w' => e = .returned (.bool false) ∧ Below w.heap.size w w' := by
  have := is_d hm hn w
  rwa [decide_eq_false h] at this
theorem even_b {m : Nat} {b : Bool} (hm : m < pp) (h : decide (m % 2 = 0) = b) (w : World) : Calls Try.prog 45 #[el (dig m)] w fun e w' => e = .returned (.bool b) ∧ Below w.heap.size w w' := by
  have := even_d hm w
  rwa [h] at this
theorem of_k {b : Nat → Nat} (hb : ∀ i, b i < 256) (w : World) : Calls Try.prog 28 #[.agg (ck b)] w fun e w' => e = .returned (el (dig (ofb b))) ∧ Below w.heap.size w w' := of_d hb w
theorem int_lit {m : Nat} (h : m < 9223372036854775808) (w : World) : Calls Try.prog 51 #[.int .i64 (m : Int)] w fun e w' => e = .returned (el (dig m)) ∧ Below w.heap.size w w' := int_pos_d h w
theorem ofb_lt (b : Nat → Nat) : ofb b < pp := mod_pp _

theorem sym_cond_t {P : Program} {W w : World} {s : List SV} {m : List Blk} {β : Nat → Nat} {a : Act} {Q : Exit → Act → World → Prop} {t : Tmp} {x y : Code} (h : St W s m β a w) (ht : Nat.blt t s.length = true) (hs : slot s t = .inl (.bool true)) (hk : x.wp P Q a w) : (Code.cond (.tmp t) x y).wp P Q a w := wp_cond_true (h.eval ht hs) hk
theorem sym_cond_f {P : Program} {W w : World} {s : List SV} {m : List Blk} {β : Nat → Nat} {a : Act} {Q : Exit → Act → World → Prop} {t : Tmp} {x y : Code} (h : St W s m β a w) (ht : Nat.blt t s.length = true) (hs : slot s t = .inl (.bool false)) (hk : y.wp P Q a w) : (Code.cond (.tmp t) x y).wp P Q a w := wp_cond_false (h.eval ht hs) hk
theorem sym_then {P : Program} {w : World} {a : Act} {Q : Exit → Act → World → Prop} {y : Code} (h : y.wp P Q a w) : Exit.then (y.wp P Q) Q .normal a w := h

section
variable {H : Type} {enc : TypeId × Value → H} {P : Program} {w : World} {base : Nat} {spare : Nat → Bool} {held : Bool}
theorem open_key {r : Reach} {b0 : Nat} {t e : TypeId} {v : Value} {d : DataW H} {p : List MemPlace} (ht : P.underlying t = some (.array 32 e)) (he : P.underlying e = some (.int .u8)) (hce : P.cellsOf e = 1) (hct : P.cellsOf t = 32)
    (hv : Value.okWide P w r b0 t v) (h : DataW.Trod enc P w base spare held t v d p) : ∃ b : Nat → Nat, (∀ i, b i < 256) ∧ v = .agg (ck b) := by
  unfold Value.okWide at hv
  rw [ht] at hv
  obtain ⟨cs, rfl, -, -⟩ := hv
  obtain ⟨fuel, h⟩ := h
  obtain ⟨xs, m, rfl, -, hl, hx, hi⟩ := DataW.trod_array ht h
  have hcell : ∀ i, i < 32 → ∃ n : Nat, n < 256 ∧ cs[i]? = some (.int .u8 (n : Int)) := by
    intro i hi32
    have h1 := hi i hi32
    have h2 : xs[i]? = some xs[i] := by simp [hx, hi32]
    rw [h2, hce, Nat.mul_one] at h1
    obtain ⟨n, hc, -, hw⟩ := DataW.trod_int he h1
    have h3 : cs[i]? = some (.int .u8 n) := by
      have := congrArg (·[0]?) hc
      simpa [List.getElem?_take, List.getElem?_drop, Value.cells] using this
    simp only [Lit.wf, Bool.and_eq_true, decide_eq_true_eq] at hw
    have e1 : IntKind.u8.min = 0 := rfl
    have e2 : IntKind.u8.max = 255 := rfl
    refine ⟨n.toNat, by omega, ?_⟩
    rw [h3, show ((n.toNat : Nat) : Int) = n by omega]
  have hsz : cs.size = 32 := by
    have h7 : cs.toList.length = P.cellsOf t := by simpa [Value.cells] using hl
    simp at h7; omega
  refine ⟨fun i => (match cs[i]? with
    | some (.int _ n) => n.toNat % 256
    | _ => 0), fun i => ?_, ?_⟩
  · dsimp only
    split
    · exact Nat.mod_lt _ (by omega)
    · omega
  · refine congrArg Value.agg ?_
    apply Array.ext_getElem?
    intro i
    by_cases hi32 : i < 32
    · obtain ⟨n, hn, hc⟩ := hcell i hi32
      unfold ck
      rw [arr_get _ _ _ hi32, hc]
      simp only [hc, Int.toNat_natCast, Nat.mod_eq_of_lt hn]
    · rw [Array.getElem?_eq_none (by omega), Array.getElem?_eq_none (by rw [ck_size]; omega)]
end
end Go.Proofs.Ytgiemldmphbolaa

namespace Go.Proofs.Ytgiemldmphbolaa
open Go.RowKit

theorem cs_dig {z : Nat → Nat} (hz : Ok z) {n : Nat} (e : nm z = n) : cs z = cs (dig n) := by
  have := el_dig hz e
  simpa [el, cs] using this

/-- What grows a power, by numbers. -/
theorem grow_d (t b : Nat) (ht : t < 1000) {x n : Nat} (hx : x < pp) (hn : n < pp) (t0 : TypeId) (w : World) (hrow : w.heap[b]? = some (.cells (ce x) t0 (0, 0))) :
    Calls Try.prog 89 #[.int .i64 t, el (dig n), .pointer (some ⟨b, 0, none⟩)] w fun e w' => e = .returned (el (dig (x ^ (2 ^ t) * n % pp))) ∧ Mod b w w' ∧ w'.heap[b]? = some (.cells (ce (x ^ (2 ^ t) * n % pp)) t0 (0, 0)) := by
  refine (grow_any t b ht _ _ (dig_ok hx).1 (dig_ok hn).1 t0 w hrow).mono ?_
  rintro e w' ⟨z, hz, ez, rfl, hm, hr⟩
  have ez := ez.out
  rw [(dig_ok hx).2, (dig_ok hn).2] at ez
  refine ⟨by rw [el_dig hz ez], hm, ?_⟩
  rw [cs_dig hz ez] at hr; exact hr

theorem ones_d {x : Nat} (hx : x < pp) : ∃ E : Nat, Hid (E = 1809251394333065553493296640760748560207343510400633813116524750123642650623) ∧ ∀ w,
    Calls Try.prog 85 #[el (dig x)] w fun e w' => ∃ b : Nat, e = .returned (.func (.func 89) #[] #[.pointer (some ⟨b, 0, none⟩)]) ∧ w.heap.size ≤ b ∧ Below w.heap.size w w' ∧ w'.heap[b]? = some (.cells (ce (x ^ E % pp)) 29 (0, 0)) := by
  obtain ⟨E, hE⟩ : ∃ E : Nat, Hid (E = 1809251394333065553493296640760748560207343510400633813116524750123642650623) := ⟨_, hide1 rfl⟩
  refine ⟨E, hE, fun w => ?_⟩
  refine (ones_any _ (dig_ok hx).1 w).mono ?_
  rintro e w' ⟨z, E', b, hz, hE', ez, rfl, hb, hw, hr⟩
  obtain rfl : E = E' := hE.out.trans hE'.out.symm
  have ez := ez.out
  rw [(dig_ok hx).2] at ez
  refine ⟨b, rfl, hb, hw, ?_⟩
  rw [cs_dig hz ez] at hr; exact hr

/-- A root of -1. -/
def iRt : Nat := 19681161376707505956807079304988542015446066515923890162744021073123829784752

theorem iroot_d (w : World) : Calls Try.prog 86 #[] w fun e w' => e = .returned (el (dig iRt)) ∧ Below w.heap.size w w' := by
  have h : el (dig iRt) = el (four 14190309331451158704 3405592160176694392 3120150775007532967 3135389899092516619) := by
    have h0 : dig iRt 0 = 14190309331451158704 := by decide +kernel
    have h1 : dig iRt 1 = 3405592160176694392 := by decide +kernel
    have h2 : dig iRt 2 = 3120150775007532967 := by decide +kernel
    have h3 : dig iRt 3 = 3135389899092516619 := by decide +kernel
    simp only [el, four, h0, h1, h2, h3]
  rw [h]
  go_enter Try.func86, Try.ntmps86
  go_wp2_with fail
  exact bodyPost_ret (v := el (four 14190309331451158704 3405592160176694392 3120150775007532967 3135389899092516619)) (by simp [results, Try.results86, go_sem, four]) rfl ⟨rfl, below1 _ _⟩
end Go.Proofs.Ytgiemldmphbolaa

namespace Go.Proofs.Ytgiemldmphbolaa
open Go.RowKit

theorem iRt_lt : iRt < pp := by decide +kernel
/-- The root, out of the power. -/
def aRt (R m : Nat) : Nat := if R * R % pp = m then R else R * iRt % pp
theorem aRt_lt {R m : Nat} (h : R < pp) : aRt R m < pp := by unfold aRt; split <;> first | exact h | exact mod_pp _
theorem aRt_t {R m : Nat} (h : R * R % pp = m) : aRt R m = R := if_pos h
theorem aRt_f {R m : Nat} (h : ¬ R * R % pp = m) : aRt R m = R * iRt % pp := if_neg h
theorem root_exp {m E k R : Nat} (hE : E = 1809251394333065553493296640760748560207343510400633813116524750123642650623) (hk : k = 7237005577332262213973186563042994240829374041602535252466099000494570602494) (hR : R = (m ^ E % pp) ^ 2 ^ 2 * (m * m % pp) % pp) : R = m ^ k % pp := by
  rw [hR, Nat.mul_mod_mod, ← Nat.mod_mul_mod, ← Nat.pow_mod, Nat.mod_mul_mod, ← Nat.pow_mul]
  have : m ^ (E * 2 ^ 2) * (m * m) = m ^ k := by
    rw [← Nat.pow_two, ← Nat.pow_add]
    congr 1
    rw [hE, hk]
  rw [this]

set_option maxHeartbeats 4000000 in
theorem anyRoot_d {m : Nat} (hm : m < pp) : ∃ k : Nat, Hid (k = 7237005577332262213973186563042994240829374041602535252466099000494570602494) ∧ ∀ w, Calls Try.prog 81 #[el (dig m)] w fun e w' => e = .returned (.tuple #[el (dig (aRt (m ^ k % pp) m)), .bool (decide (aRt (m ^ k % pp) m * aRt (m ^ k % pp) m % pp = m))]) ∧ Below w.heap.size w w' := by
  obtain ⟨E, hE, c1⟩ := ones_d hm
  have c2 := fun w => times_d hm hm w
  obtain ⟨k, hk⟩ : ∃ k : Nat, Hid (k = 7237005577332262213973186563042994240829374041602535252466099000494570602494) := ⟨_, hide1 rfl⟩
  obtain ⟨R, hR⟩ : ∃ R, Hid (R = (m ^ E % pp) ^ 2 ^ 2 * (m * m % pp) % pp) := ⟨_, hide1 rfl⟩
  have hRl : R < pp := by rw [hR.out]; exact mod_pp _
  have c48 := iroot_d
  have hi2l := iRt_lt
  have hat : ∀ R m, ¬ R * R % pp = m → aRt R m = R * iRt % pp := fun R m h => aRt_f h
  generalize iRt = i2 at c48 hi2l hat
  refine ⟨k, hk, fun W0 => ?_⟩
  rw [← root_exp hE.out hk.out hR.out]
  refine sym_enter Try.func81 Try.ntmps81 rfl [.inl (el (dig m)), .inl undef, .inl undef, .inl undef, .inl undef, .inl undef, .inl undef, .inl undef, .inl undef, .inl undef, .inl undef, .inl undef, .inl undef, .inl undef, .inl undef, .inl undef, .inl undef, .inl undef, .inl undef, .inl undef, .inl undef, .inl undef, .inl undef, .inl undef, .inl undef, .inl undef, .inl undef, .inl undef] (by kernel_rfl) (by kernel_rfl) ?_
  intro β a h
  refine sym_seq ?_
  refine St.region h [.inl (el (dig m)), .inr (0, 0), .inr (1, 0), .inl (.bool false), uu, uu, uu, uu, uu, uu, uu, uu, uu, uu, uu, uu, uu, uu, uu, uu, uu, uu, uu, uu, uu, uu, uu, uu] [(ce m, 29), (ce 0, 29)] [(ce m, 29), (ce 0, 29)] [#[], #[]] [⟨some 0, none, none, false⟩, ⟨some 1, none, none, false⟩, nn] (by kernel_rfl) (by kernel_rfl) (by kernel_rfl) (by kernel_rfl) (by kernel_rfl) (by kernel_rfl) (by kernel_rfl) (by kernel_rfl) ?_ ?_
  · refine ok_cons (ok_box (b := 0) (u := el (dig m)) (bxE (n := m)) rfl (by kernel_rfl) rfl (by kernel_rfl) (by kernel_rfl) (by kernel_rfl) (by kernel_rfl)) ?_
    refine ok_cons (ok_alloc (b := 1) alE rfl (by kernel_rfl) rfl (by kernel_rfl) (by kernel_rfl)) ?_
    refine ok_cons (ok_mv (Or.inr rfl) (by kernel_rfl) rfl (by kernel_rfl) (by kernel_rfl)) ?_
    exact ok_nil
  clear h; intro β a w h
  refine sym_then ?_
  have ra := h.row 0 _ rfl
  have rr := h.row 1 _ rfl
  have hw := h.bel
  have o0 := h.old 0 (by simp)
  have o1 := h.old 1 (by simp)
  have n01 : β 0 ≠ β 1 := fun e => by have := h.inj 0 1 (by simp) (by simp) e; omega
  obtain rfl : a = { tmps := #[el (dig m), .pointer (some ⟨β 0, 0, none⟩), .pointer (some ⟨β 1, 0, none⟩), .bool false, undef, undef, undef, undef, undef, undef, undef, undef, undef, undef, undef, undef, undef, undef, undef, undef, undef, undef, undef, undef, undef, undef, undef, undef], defers := [] } := h.tm
  clear h
  refine seq_gen fun QQ hQQ => ?_
  go_wp2_with (refine wpList_load_agg rfl 29 (.tmp 1) rfl (β 0) _ _ rfl Try.underlying29 rfl (by kernel_rfl) ra ?_)
  refine (c1 _).mono ?_
  rintro e u1 ⟨b, rfl, hb, hb1, rb⟩
  have nb0 : β 0 ≠ b := by have := row_lt ra; omega
  have nb1 : β 1 ≠ b := by have := row_lt rr; omega
  have obb := Nat.le_trans hw.size hb
  replace ra := row_below ra hb1
  replace rr := row_below rr hb1
  replace hw := bnext hw hb1
  clear c1 hb1 hb
  go_wp2_with fail
  refine hQQ.out _ _ ?_
  clear hQQ QQ
  refine seq_gen fun QQ hQQ => ?_
  go_wp2_with (refine wpList_load_agg rfl 29 (.tmp 1) rfl (β 0) _ _ rfl Try.underlying29 rfl (by kernel_rfl) ra ?_)
  refine (c2 _).mono ?_
  rintro e u2 ⟨rfl, hb2⟩
  replace ra := row_below ra hb2
  replace rr := row_below rr hb2
  replace rb := row_below rb hb2
  replace hw := bnext hw hb2
  clear c2 hb2
  go_wp2_with fail
  refine (grow_d 2 b (by omega) (mod_pp _) (mod_pp _) _ _ rb).mono ?_
  rintro e u3 ⟨rfl, hmo, rb3⟩
  rw [← hR.out]
  replace hw := below_mod hw hmo obb
  replace ra := row_mod ra hmo nb0
  replace rr := row_mod rr hmo nb1
  have l0 := row_lt ra
  have l1 := row_lt rr
  replace ra := row_up (o := .cells (ce R) 29) ra
  replace rr := row_up (o := .cells (ce R) 29) rr
  go_wp2_with fail
  refine hQQ.out _ _ ?_
  clear hQQ QQ rb rb3 hmo
  have ry := row_new u3 (.cells (ce R) 29)
  have m0 : β 0 ≠ u3.heap.size := by omega
  have m1 : β 1 ≠ u3.heap.size := by omega
  refine with_st (st3 (W := W0) (s := [.inl (el (dig m)), .inr (0, 0), .inr (1, 0), .inl (.bool false), .inl (.func (.func 89) #[] #[.pointer (some ⟨b, 0, none⟩)]), .inr (2, 0), .inl (el (dig m)), .inl (.func (.func 89) #[] #[.pointer (some ⟨b, 0, none⟩)]), .inl (.func (.func 89) #[] #[.pointer (some ⟨b, 0, none⟩)]), .inl (el (dig m)), .inl (el (dig m)), .inl (el (dig (m * m % pp))), .inl (el (dig R)), uu, uu, uu, uu, uu, uu, uu, uu, uu, uu, uu, uu, uu, uu, uu]) (p := β 0) (q := β 1) (r := u3.heap.size) (by kernel_rfl) (below_up hw (.cells (ce R) 29)) ra rr ry o0 o1 (by have := hw.size; omega) n01 m0 m1 (by kernel_rfl)) ?_
  intro a h
  by_cases h1 : R * R % pp = m
  · rw [aRt_t h1]
    refine sym_seq ?_
    refine sym_seq ?_
    refine St.region h [.inl (el (dig m)), .inr (0, 0), .inr (1, 0), .inl (.bool false), .inl (.func (.func 89) #[] #[.pointer (some ⟨b, 0, none⟩)]), .inr (2, 0), .inl (el (dig m)), .inl (.func (.func 89) #[] #[.pointer (some ⟨b, 0, none⟩)]), .inl (.func (.func 89) #[] #[.pointer (some ⟨b, 0, none⟩)]), .inl (el (dig m)), .inl (el (dig m)), .inl (el (dig (m * m % pp))), .inl (el (dig R)), .inl (el (dig R)), .inl (el (dig R)), .inl (el (dig (R * R % pp))), .inl (el (dig m)), .inl (.bool true), .inl (.bool false), uu, uu, uu, uu, uu, uu, uu, uu, uu] [(ce m, 29), (ce 0, 29), (ce R, 29)] [(ce m, 29), (ce 0, 29), (ce R, 29)] [#[], #[], #[]] [⟨none, none, some 2, false⟩, ⟨none, none, some 2, false⟩, nn, ⟨none, none, some 0, false⟩, nn, nn] (by kernel_rfl) (by kernel_rfl) (by kernel_rfl) (by kernel_rfl) (by kernel_rfl) (by kernel_rfl) (by kernel_rfl) (by kernel_rfl) ?_ ?_
    · refine ok_cons (ok_load (b := 2) (off := 0) (c := ce R) (v := el (dig R)) (ldE (n := R) 29) rfl (by kernel_rfl) rfl (by kernel_rfl) (by kernel_rfl) (by kernel_rfl)) ?_
      refine ok_cons (ok_load (b := 2) (off := 0) (c := ce R) (v := el (dig R)) (ldE (n := R) 29) rfl (by kernel_rfl) rfl (by kernel_rfl) (by kernel_rfl) (by kernel_rfl)) ?_
      refine ok_cons (ok_call (vs := #[el (dig R), el (dig R)]) (R := el (dig (R * R % pp))) (fun w => times_d hRl hRl w) rfl (by kernel_rfl) rfl (by kernel_rfl) (by kernel_rfl) (by kernel_rfl) (fun w => by kernel_rfl)) ?_
      refine ok_cons (ok_load (b := 0) (off := 0) (c := ce m) (v := el (dig m)) (ldE (n := m) 29) rfl (by kernel_rfl) rfl (by kernel_rfl) (by kernel_rfl) (by kernel_rfl)) ?_
      refine ok_cons (ok_call (vs := #[el (dig (R * R % pp)), el (dig m)]) (R := .bool true) (fun w => is_t (mod_pp _) hm h1 w) rfl (by kernel_rfl) rfl (by kernel_rfl) (by kernel_rfl) (by kernel_rfl) (fun w => by kernel_rfl)) ?_
      refine ok_cons (ok_not (b := true) rfl (by kernel_rfl) rfl (by kernel_rfl) (by kernel_rfl) (by kernel_rfl)) ?_
      exact ok_nil
    clear h; intro β a w h
    refine sym_then ?_
    refine sym_cond_f h (by kernel_rfl) (by kernel_rfl) ?_
    refine wp_skip ?_
    refine sym_then ?_
    refine sym_seq ?_
    refine St.region h [.inl (el (dig m)), .inr (0, 0), .inr (1, 0), .inl (.bool (decide ((R * R % pp) = m))), .inl (.func (.func 89) #[] #[.pointer (some ⟨b, 0, none⟩)]), .inr (2, 0), .inl (el (dig m)), .inl (.func (.func 89) #[] #[.pointer (some ⟨b, 0, none⟩)]), .inl (.func (.func 89) #[] #[.pointer (some ⟨b, 0, none⟩)]), .inl (el (dig m)), .inl (el (dig m)), .inl (el (dig (m * m % pp))), .inl (el (dig R)), .inl (el (dig R)), .inl (el (dig R)), .inl (el (dig (R * R % pp))), .inl (el (dig m)), .inl (.bool true), .inl (.bool false), uu, uu, uu, .inl (el (dig R)), .inl (el (dig R)), .inl (el (dig R)), .inl (el (dig (R * R % pp))), .inl (el (dig m)), .inl (.bool (decide ((R * R % pp) = m)))] [(ce m, 29), (ce R, 29), (ce R, 29)] [(ce m, 29), (ce 0, 29), (ce R, 29)] [#[], ce R, #[]] [⟨none, none, some 2, false⟩, ⟨none, none, some 2, false⟩, ⟨none, none, some 2, false⟩, nn, ⟨none, none, some 0, false⟩, nn, ⟨none, some 1, none, false⟩, nn] (by kernel_rfl) (by kernel_rfl) (by kernel_rfl) (by kernel_rfl) (by kernel_rfl) (by kernel_rfl) (by kernel_rfl) (by kernel_rfl) ?_ ?_
    · refine ok_cons (ok_load (b := 2) (off := 0) (c := ce R) (v := el (dig R)) (ldE (n := R) 29) rfl (by kernel_rfl) rfl (by kernel_rfl) (by kernel_rfl) (by kernel_rfl)) ?_
      refine ok_cons (ok_load (b := 2) (off := 0) (c := ce R) (v := el (dig R)) (ldE (n := R) 29) rfl (by kernel_rfl) rfl (by kernel_rfl) (by kernel_rfl) (by kernel_rfl)) ?_
      refine ok_cons (ok_load (b := 2) (off := 0) (c := ce R) (v := el (dig R)) (ldE (n := R) 29) rfl (by kernel_rfl) rfl (by kernel_rfl) (by kernel_rfl) (by kernel_rfl)) ?_
      refine ok_cons (ok_call (vs := #[el (dig R), el (dig R)]) (R := el (dig (R * R % pp))) (fun w => times_d hRl hRl w) rfl (by kernel_rfl) rfl (by kernel_rfl) (by kernel_rfl) (by kernel_rfl) (fun w => by kernel_rfl)) ?_
      refine ok_cons (ok_load (b := 0) (off := 0) (c := ce m) (v := el (dig m)) (ldE (n := m) 29) rfl (by kernel_rfl) rfl (by kernel_rfl) (by kernel_rfl) (by kernel_rfl)) ?_
      refine ok_cons (ok_call (vs := #[el (dig (R * R % pp)), el (dig m)]) (R := .bool (decide ((R * R % pp) = m))) (fun w => is_d (mod_pp _) hm w) rfl (by kernel_rfl) rfl (by kernel_rfl) (by kernel_rfl) (by kernel_rfl) (fun w => by kernel_rfl)) ?_
      refine ok_cons (ok_store (b := 1) (off := 0) (u := el (dig R)) (c := ce 0) (n := ce R) (stE (n := R) (c := ce 0) 29 (ce_size _)) rfl (by kernel_rfl) rfl (by kernel_rfl) (by kernel_rfl) (by kernel_rfl) (by kernel_rfl) (by kernel_rfl)) ?_
      refine ok_cons (ok_mv (Or.inr rfl) (by kernel_rfl) rfl (by kernel_rfl) (by kernel_rfl)) ?_
      exact ok_nil
    clear h; intro β a w h
    refine sym_then ?_
    refine wp_ret ?_
    exact sym_ret2 (b := 1) (t0 := 29) (c := ce R) h Try.results81 (by kernel_rfl) (by kernel_rfl) (by kernel_rfl) (by kernel_rfl) (by kernel_rfl) Try.underlying29 rfl (by kernel_rfl) (fun hb => ⟨rfl, hb⟩)
  · rw [hat _ _ h1]
    refine sym_seq ?_
    refine sym_seq ?_
    refine St.region h [.inl (el (dig m)), .inr (0, 0), .inr (1, 0), .inl (.bool false), .inl (.func (.func 89) #[] #[.pointer (some ⟨b, 0, none⟩)]), .inr (2, 0), .inl (el (dig m)), .inl (.func (.func 89) #[] #[.pointer (some ⟨b, 0, none⟩)]), .inl (.func (.func 89) #[] #[.pointer (some ⟨b, 0, none⟩)]), .inl (el (dig m)), .inl (el (dig m)), .inl (el (dig (m * m % pp))), .inl (el (dig R)), .inl (el (dig R)), .inl (el (dig R)), .inl (el (dig (R * R % pp))), .inl (el (dig m)), .inl (.bool false), .inl (.bool true), uu, uu, uu, uu, uu, uu, uu, uu, uu] [(ce m, 29), (ce 0, 29), (ce R, 29)] [(ce m, 29), (ce 0, 29), (ce R, 29)] [#[], #[], #[]] [⟨none, none, some 2, false⟩, ⟨none, none, some 2, false⟩, nn, ⟨none, none, some 0, false⟩, nn, nn] (by kernel_rfl) (by kernel_rfl) (by kernel_rfl) (by kernel_rfl) (by kernel_rfl) (by kernel_rfl) (by kernel_rfl) (by kernel_rfl) ?_ ?_
    · refine ok_cons (ok_load (b := 2) (off := 0) (c := ce R) (v := el (dig R)) (ldE (n := R) 29) rfl (by kernel_rfl) rfl (by kernel_rfl) (by kernel_rfl) (by kernel_rfl)) ?_
      refine ok_cons (ok_load (b := 2) (off := 0) (c := ce R) (v := el (dig R)) (ldE (n := R) 29) rfl (by kernel_rfl) rfl (by kernel_rfl) (by kernel_rfl) (by kernel_rfl)) ?_
      refine ok_cons (ok_call (vs := #[el (dig R), el (dig R)]) (R := el (dig (R * R % pp))) (fun w => times_d hRl hRl w) rfl (by kernel_rfl) rfl (by kernel_rfl) (by kernel_rfl) (by kernel_rfl) (fun w => by kernel_rfl)) ?_
      refine ok_cons (ok_load (b := 0) (off := 0) (c := ce m) (v := el (dig m)) (ldE (n := m) 29) rfl (by kernel_rfl) rfl (by kernel_rfl) (by kernel_rfl) (by kernel_rfl)) ?_
      refine ok_cons (ok_call (vs := #[el (dig (R * R % pp)), el (dig m)]) (R := .bool false) (fun w => is_f (mod_pp _) hm h1 w) rfl (by kernel_rfl) rfl (by kernel_rfl) (by kernel_rfl) (by kernel_rfl) (fun w => by kernel_rfl)) ?_
      refine ok_cons (ok_not (b := false) rfl (by kernel_rfl) rfl (by kernel_rfl) (by kernel_rfl) (by kernel_rfl)) ?_
      exact ok_nil
    clear h; intro β a w h
    refine sym_then ?_
    refine sym_cond_t h (by kernel_rfl) (by kernel_rfl) ?_
    refine St.region h [.inl (el (dig m)), .inr (0, 0), .inr (1, 0), .inl (.bool false), .inl (.func (.func 89) #[] #[.pointer (some ⟨b, 0, none⟩)]), .inr (2, 0), .inl (el (dig m)), .inl (.func (.func 89) #[] #[.pointer (some ⟨b, 0, none⟩)]), .inl (.func (.func 89) #[] #[.pointer (some ⟨b, 0, none⟩)]), .inl (el (dig m)), .inl (el (dig m)), .inl (el (dig (m * m % pp))), .inl (el (dig R)), .inl (el (dig R)), .inl (el (dig R)), .inl (el (dig (R * R % pp))), .inl (el (dig m)), .inl (.bool false), .inl (.bool true), .inl (el (dig R)), .inl (el (dig i2)), .inl (el (dig (R * i2 % pp))), uu, uu, uu, uu, uu, uu] [(ce m, 29), (ce 0, 29), (ce (R * i2 % pp), 29)] [(ce m, 29), (ce 0, 29), (ce R, 29)] [#[], #[], ce (R * i2 % pp)] [⟨none, none, some 2, false⟩, nn, nn, ⟨none, some 2, none, false⟩] (by kernel_rfl) (by kernel_rfl) (by kernel_rfl) (by kernel_rfl) (by kernel_rfl) (by kernel_rfl) (by kernel_rfl) (by kernel_rfl) ?_ ?_
    · refine ok_cons (ok_load (b := 2) (off := 0) (c := ce R) (v := el (dig R)) (ldE (n := R) 29) rfl (by kernel_rfl) rfl (by kernel_rfl) (by kernel_rfl) (by kernel_rfl)) ?_
      refine ok_cons (ok_call (vs := #[]) (R := el (dig i2)) (fun w => c48 w) rfl (by kernel_rfl) rfl (by kernel_rfl) (by kernel_rfl) (by kernel_rfl) (fun w => by kernel_rfl)) ?_
      refine ok_cons (ok_call (vs := #[el (dig R), el (dig i2)]) (R := el (dig (R * i2 % pp))) (fun w => times_d hRl hi2l w) rfl (by kernel_rfl) rfl (by kernel_rfl) (by kernel_rfl) (by kernel_rfl) (fun w => by kernel_rfl)) ?_
      refine ok_cons (ok_store (b := 2) (off := 0) (u := el (dig (R * i2 % pp))) (c := ce R) (n := ce (R * i2 % pp)) (stE (n := (R * i2 % pp)) (c := ce R) 29 (ce_size _)) rfl (by kernel_rfl) rfl (by kernel_rfl) (by kernel_rfl) (by kernel_rfl) (by kernel_rfl) (by kernel_rfl)) ?_
      exact ok_nil
    clear h; intro β a w h
    refine sym_then ?_
    refine sym_seq ?_
    refine St.region h [.inl (el (dig m)), .inr (0, 0), .inr (1, 0), .inl (.bool (decide (((R * i2 % pp) * (R * i2 % pp) % pp) = m))), .inl (.func (.func 89) #[] #[.pointer (some ⟨b, 0, none⟩)]), .inr (2, 0), .inl (el (dig m)), .inl (.func (.func 89) #[] #[.pointer (some ⟨b, 0, none⟩)]), .inl (.func (.func 89) #[] #[.pointer (some ⟨b, 0, none⟩)]), .inl (el (dig m)), .inl (el (dig m)), .inl (el (dig (m * m % pp))), .inl (el (dig R)), .inl (el (dig R)), .inl (el (dig R)), .inl (el (dig (R * R % pp))), .inl (el (dig m)), .inl (.bool false), .inl (.bool true), .inl (el (dig R)), .inl (el (dig i2)), .inl (el (dig (R * i2 % pp))), .inl (el (dig (R * i2 % pp))), .inl (el (dig (R * i2 % pp))), .inl (el (dig (R * i2 % pp))), .inl (el (dig ((R * i2 % pp) * (R * i2 % pp) % pp))), .inl (el (dig m)), .inl (.bool (decide (((R * i2 % pp) * (R * i2 % pp) % pp) = m)))] [(ce m, 29), (ce (R * i2 % pp), 29), (ce (R * i2 % pp), 29)] [(ce m, 29), (ce 0, 29), (ce (R * i2 % pp), 29)] [#[], ce (R * i2 % pp), #[]] [⟨none, none, some 2, false⟩, ⟨none, none, some 2, false⟩, ⟨none, none, some 2, false⟩, nn, ⟨none, none, some 0, false⟩, nn, ⟨none, some 1, none, false⟩, nn] (by kernel_rfl) (by kernel_rfl) (by kernel_rfl) (by kernel_rfl) (by kernel_rfl) (by kernel_rfl) (by kernel_rfl) (by kernel_rfl) ?_ ?_
    · refine ok_cons (ok_load (b := 2) (off := 0) (c := ce (R * i2 % pp)) (v := el (dig (R * i2 % pp))) (ldE (n := (R * i2 % pp)) 29) rfl (by kernel_rfl) rfl (by kernel_rfl) (by kernel_rfl) (by kernel_rfl)) ?_
      refine ok_cons (ok_load (b := 2) (off := 0) (c := ce (R * i2 % pp)) (v := el (dig (R * i2 % pp))) (ldE (n := (R * i2 % pp)) 29) rfl (by kernel_rfl) rfl (by kernel_rfl) (by kernel_rfl) (by kernel_rfl)) ?_
      refine ok_cons (ok_load (b := 2) (off := 0) (c := ce (R * i2 % pp)) (v := el (dig (R * i2 % pp))) (ldE (n := (R * i2 % pp)) 29) rfl (by kernel_rfl) rfl (by kernel_rfl) (by kernel_rfl) (by kernel_rfl)) ?_
      refine ok_cons (ok_call (vs := #[el (dig (R * i2 % pp)), el (dig (R * i2 % pp))]) (R := el (dig ((R * i2 % pp) * (R * i2 % pp) % pp))) (fun w => times_d (mod_pp _) (mod_pp _) w) rfl (by kernel_rfl) rfl (by kernel_rfl) (by kernel_rfl) (by kernel_rfl) (fun w => by kernel_rfl)) ?_
      refine ok_cons (ok_load (b := 0) (off := 0) (c := ce m) (v := el (dig m)) (ldE (n := m) 29) rfl (by kernel_rfl) rfl (by kernel_rfl) (by kernel_rfl) (by kernel_rfl)) ?_
      refine ok_cons (ok_call (vs := #[el (dig ((R * i2 % pp) * (R * i2 % pp) % pp)), el (dig m)]) (R := .bool (decide (((R * i2 % pp) * (R * i2 % pp) % pp) = m))) (fun w => is_d (mod_pp _) hm w) rfl (by kernel_rfl) rfl (by kernel_rfl) (by kernel_rfl) (by kernel_rfl) (fun w => by kernel_rfl)) ?_
      refine ok_cons (ok_store (b := 1) (off := 0) (u := el (dig (R * i2 % pp))) (c := ce 0) (n := ce (R * i2 % pp)) (stE (n := (R * i2 % pp)) (c := ce 0) 29 (ce_size _)) rfl (by kernel_rfl) rfl (by kernel_rfl) (by kernel_rfl) (by kernel_rfl) (by kernel_rfl) (by kernel_rfl)) ?_
      refine ok_cons (ok_mv (Or.inr rfl) (by kernel_rfl) rfl (by kernel_rfl) (by kernel_rfl)) ?_
      exact ok_nil
    clear h; intro β a w h
    refine sym_then ?_
    refine wp_ret ?_
    exact sym_ret2 (b := 1) (t0 := 29) (c := ce (R * i2 % pp)) h Try.results81 (by kernel_rfl) (by kernel_rfl) (by kernel_rfl) (by kernel_rfl) (by kernel_rfl) Try.underlying29 rfl (by kernel_rfl) (fun hb => ⟨rfl, hb⟩)
end Go.Proofs.Ytgiemldmphbolaa

namespace Go.Proofs.Ytgiemldmphbolaa

theorem pp_prm : Prm pp := prmP
theorem dvd_of_mod_eq {a b n : Nat} (h : a % n = b % n) : n ∣ a - b := Nat.dvd_of_mod_eq_zero (Nat.sub_mod_eq_zero_of_mod_eq h)

theorem sq_le {S m : Nat} (hS : S < pp) (hm : m ≤ S) (h : S * S % pp = m * m % pp) : S = m ∨ S + m = pp := by
  have h1 : pp ∣ S * S - m * m := dvd_of_mod_eq h
  rw [Nat.mul_self_sub_mul_self_eq] at h1
  rcases pp_prm.euclid h1 with h2 | h2
  · by_cases e : S + m = 0
    · left; omega
    · right
      have := Nat.le_of_dvd (by omega) h2
      obtain ⟨c, hc⟩ := h2
      have : c = 1 := by
        rcases Nat.lt_or_ge c 2 with h | h
        · match c, h with
          | 0, _ => simp at hc; omega
          | 1, _ => rfl
        · have : pp * 2 ≤ pp * c := Nat.mul_le_mul_left _ h
          omega
      subst this; omega
  · left
    by_cases e : S - m = 0
    · omega
    · have := Nat.le_of_dvd (by omega) h2; omega
theorem sq_eq {S m : Nat} (hS : S < pp) (hm : m < pp) (h : S * S % pp = m * m % pp) : S = m ∨ S + m = pp := by
  rcases Nat.le_total m S with h1 | h1
  · exact sq_le hS h1 h
  · rcases sq_le hm h1 h.symm with h2 | h2
    · exact Or.inl h2.symm
    · right; omega

theorem neg_mul {S : Nat} (hS : S < pp) : S * (pp - 1) % pp = (pp - S) % pp := by
  have h : S * (pp - 1) + S = S * pp := by
    have := pp_pos
    rw [← Nat.mul_succ, Nat.succ_eq_add_one, Nat.sub_add_cancel this]
  rcases Nat.eq_zero_or_pos S with h0 | h0
  · subst h0; simp
  · have h2 : S * (pp - 1) = (pp - S) + (S - 1) * pp := by
      have h3 : S * pp = (S - 1) * pp + pp := by
        rw [← Nat.succ_mul, Nat.succ_eq_add_one, Nat.sub_add_cancel h0]
      omega
    rw [h2, Nat.add_mul_mod_self_right]

theorem iRt_sq : iRt * iRt % pp = pp - 1 := by decide +kernel

theorem sq_neg {y : Nat} (hy : y ≤ pp) : (pp - y) * (pp - y) % pp = y * y % pp := by
  obtain ⟨d, hd⟩ : ∃ d, pp = y + d := ⟨pp - y, by omega⟩
  have e1 : (pp - y) * (pp - y) + y * pp = y * y + (pp - y) * pp := by
    have e2 : pp - y = d := by omega
    rw [e2, hd, Nat.mul_add, Nat.mul_add, Nat.mul_comm d y]
    omega
  have h1 : ((pp - y) * (pp - y) + y * pp) % pp = (pp - y) * (pp - y) % pp := Nat.add_mul_mod_self_right _ _ _
  have h2 : (y * y + (pp - y) * pp) % pp = y * y % pp := Nat.add_mul_mod_self_right _ _ _
  rw [← h1, e1, h2]

/-- Where the power is 1 there is a root. -/
theorem root_of_one {m h k R : Nat} (hm : m < pp) (hk : 4 * k = h + 2) (h1 : m ^ h % pp = 1) (hR : R = m ^ k % pp) : aRt R m * aRt R m % pp = m := by
  have hS : (R * R % pp) * (R * R % pp) % pp = m * m % pp := by
    have e : (R * R % pp) * (R * R % pp) % pp = m ^ (4 * k) % pp := by
      rw [← Nat.mul_mod, hR, ← Nat.mul_mod_mod, ← Nat.mod_mul_mod]
      have e1 : m ^ k % pp * (m ^ k % pp) % pp = m ^ (k + k) % pp := by rw [← Nat.mul_mod, Nat.pow_add]
      rw [e1, ← Nat.mul_mod, ← Nat.pow_add]
      congr 2
      omega
    rw [e, hk, Nat.pow_add, ← Nat.mod_mul_mod, h1, Nat.one_mul, Nat.pow_two]
  rcases sq_eq (mod_pp _) hm hS with h2 | h2
  · rw [aRt_t h2]; exact h2
  · by_cases h3 : R * R % pp = m
    · rw [aRt_t h3]; exact h3
    · rw [aRt_f h3]
      have e2 : R * iRt * (R * iRt) = R * R * (iRt * iRt) := by
        rw [Nat.mul_assoc, Nat.mul_assoc]; congr 1
        rw [← Nat.mul_assoc, ← Nat.mul_assoc, Nat.mul_comm iRt R]
      rw [← Nat.mul_mod, e2, ← Nat.mod_mul_mod, ← Nat.mul_mod_mod, iRt_sq, neg_mul (mod_pp _)]
      have : pp - R * R % pp = m := by omega
      rw [this, Nat.mod_eq_of_lt hm]
theorem one_of_root {m y h : Nat} (hh : 2 * h + 1 = pp) (h0 : m ≠ 0) (hy : y * y % pp = m) : m ^ h % pp = 1 := by
  have hd : ¬ pp ∣ y := by
    rintro ⟨c, rfl⟩
    rw [Nat.mul_assoc, Nat.mul_mod_right] at hy
    exact h0 hy.symm
  have hf := fermat pp_prm y hd
  rw [← hy, ← Nat.pow_mod, ← Nat.pow_two, ← Nat.pow_mul]
  rw [show 2 * h = pp - 1 by omega]; exact hf
theorem pm_one {m h : Nat} (hh : 2 * h + 1 = pp) (hm : m < pp) (h0 : m ≠ 0) : m ^ h % pp = 1 ∨ m ^ h % pp = pp - 1 := by
  have hd : ¬ pp ∣ m := fun hd => by have := Nat.le_of_dvd (by omega) hd; omega
  have hf := fermat pp_prm m hd
  have hS : (m ^ h % pp) * (m ^ h % pp) % pp = 1 * 1 % pp := by
    rw [← Nat.mul_mod, ← Nat.pow_add, show h + h = pp - 1 by omega, hf]; rfl
  have h1p : 1 < pp := by decide +kernel
  rcases sq_eq (mod_pp _) h1p hS with h1 | h1
  · exact Or.inl h1
  · right; omega
theorem mul_pow_mod {a b h : Nat} : (a * b % pp) ^ h % pp = (a ^ h % pp) * (b ^ h % pp) % pp := by
  rw [← Nat.pow_mod, Nat.mul_pow, ← Nat.mul_mod]
theorem mul_ne {a b : Nat} (ha : a < pp) (hb : b < pp) (h1 : a ≠ 0) (h2 : b ≠ 0) : a * b % pp ≠ 0 := by
  intro h
  rcases pp_prm.euclid (Nat.dvd_of_mod_eq_zero h) with h3 | h3
  · have := Nat.le_of_dvd (by omega) h3; omega
  · have := Nat.le_of_dvd (by omega) h3; omega

/-- The even one of a number and its opposite. -/
def evn (y : Nat) : Nat := if y % 2 = 0 then y else (0 + (pp - y)) % pp
theorem evn_t {y : Nat} (h : y % 2 = 0) : evn y = y := if_pos h
theorem evn_f {y : Nat} (h : ¬ y % 2 = 0) : evn y = (0 + (pp - y)) % pp := if_neg h
theorem pp_odd : pp % 2 = 1 := by decide +kernel
theorem evn_spec {y : Nat} (hy : y < pp) : evn y < pp ∧ evn y % 2 = 0 ∧ evn y * evn y % pp = y * y % pp := by
  by_cases h : y % 2 = 0
  · rw [evn_t h]; exact ⟨hy, h, rfl⟩
  · have h1 : (0 + (pp - y)) % pp = pp - y := by rw [Nat.zero_add, Nat.mod_eq_of_lt (by omega)]
    rw [evn_f h, h1]
    have := pp_odd
    exact ⟨by omega, by omega, sq_neg (by omega)⟩
end Go.Proofs.Ytgiemldmphbolaa

namespace Go.Proofs.Ytgiemldmphbolaa
open Go.RowKit

theorem root_no {m y : Nat} (c1 : ∀ w, Calls Try.prog 81 #[el (dig m)] w fun e w' => e = .returned (.tuple #[el (dig y), .bool false]) ∧ Below w.heap.size w w') (w : World) :
    Calls Try.prog 63 #[el (dig m)] w fun e w' => e = .returned (.tuple #[el (dig 0), .bool false]) ∧ Below w.heap.size w w' := by
    refine sym_enter Try.func63 Try.ntmps63 rfl [.inl (el (dig m)), uu, uu, uu, uu, uu, uu, uu, uu, uu, uu, uu, uu, uu, uu, uu, uu, uu, uu, uu, uu] (by kernel_rfl) (by kernel_rfl) ?_
    intro β a h
    refine sym_seq ?_
    refine St.region h [.inl (el (dig m)), .inr (0, 0), .inr (1, 0), .inl (.bool false), uu, uu, uu, uu, uu, uu, uu, uu, uu, uu, uu, uu, uu, uu, uu, uu, uu] [(ce m, 29), (ce 0, 29)] [(ce m, 29), (ce 0, 29)] [#[], #[]] [⟨some 0, none, none, false⟩, ⟨some 1, none, none, false⟩, nn] (by kernel_rfl) (by kernel_rfl) (by kernel_rfl) (by kernel_rfl) (by kernel_rfl) (by kernel_rfl) (by kernel_rfl) (by kernel_rfl) ?_ ?_
    · refine ok_cons (ok_box (b := 0) (u := el (dig m)) (bxE (n := m)) rfl (by kernel_rfl) rfl (by kernel_rfl) (by kernel_rfl) (by kernel_rfl) (by kernel_rfl)) ?_
      refine ok_cons (ok_alloc (b := 1) alE rfl (by kernel_rfl) rfl (by kernel_rfl) (by kernel_rfl)) ?_
      refine ok_cons (ok_mv (Or.inr rfl) (by kernel_rfl) rfl (by kernel_rfl) (by kernel_rfl)) ?_
      exact ok_nil
    clear h; intro β a w h
    refine sym_then ?_
    refine sym_seq ?_
    refine St.region h [.inl (el (dig m)), .inr (0, 0), .inr (1, 0), .inl (.bool false), .inr (2, 0), .inl (.bool false), .inl (.tuple #[el (dig y), .bool false]), .inl (el (dig m)), .inl (.tuple #[el (dig y), .bool false]), .inl (el (dig y)), .inl (.bool false), uu, uu, uu, uu, uu, uu, uu, uu, uu, uu] [(ce m, 29), (ce 0, 29), (ce y, 29)] [(ce m, 29), (ce 0, 29), (ce 0, 29)] [#[], #[], ce y] [⟨none, none, some 0, false⟩, nn, nn, nn, nn, ⟨some 2, none, none, false⟩, ⟨none, some 2, none, false⟩, nn] (by kernel_rfl) (by kernel_rfl) (by kernel_rfl) (by kernel_rfl) (by kernel_rfl) (by kernel_rfl) (by kernel_rfl) (by kernel_rfl) ?_ ?_
    · refine ok_cons (ok_load (b := 0) (off := 0) (c := ce m) (v := el (dig m)) (ldE (n := m) 29) rfl (by kernel_rfl) rfl (by kernel_rfl) (by kernel_rfl) (by kernel_rfl)) ?_
      refine ok_cons (ok_call (vs := #[el (dig m)]) (R := .tuple #[el (dig y), .bool false]) c1 rfl (by kernel_rfl) rfl (by kernel_rfl) (by kernel_rfl) (by kernel_rfl) (fun w => by kernel_rfl)) ?_
      refine ok_cons (ok_mv (Or.inl rfl) (by kernel_rfl) rfl (by kernel_rfl) (by kernel_rfl)) ?_
      refine ok_cons (ok_ext (x1 := .tuple #[el (dig y), .bool false]) (v := el (dig y)) (fun w => by kernel_rfl) rfl (by kernel_rfl) rfl (by kernel_rfl) (by kernel_rfl) (by kernel_rfl)) ?_
      refine ok_cons (ok_ext (x1 := .tuple #[el (dig y), .bool false]) (v := .bool false) (fun w => by kernel_rfl) rfl (by kernel_rfl) rfl (by kernel_rfl) (by kernel_rfl) (by kernel_rfl)) ?_
      refine ok_cons (ok_alloc (b := 2) alE rfl (by kernel_rfl) rfl (by kernel_rfl) (by kernel_rfl)) ?_
      refine ok_cons (ok_store (b := 2) (off := 0) (u := el (dig y)) (c := ce 0) (n := ce y) (stE (n := y) (c := ce 0) 29 (ce_size _)) rfl (by kernel_rfl) rfl (by kernel_rfl) (by kernel_rfl) (by kernel_rfl) (by kernel_rfl) (by kernel_rfl)) ?_
      refine ok_cons (ok_mv (Or.inr rfl) (by kernel_rfl) rfl (by kernel_rfl) (by kernel_rfl)) ?_
      exact ok_nil
    clear h; intro β a w h
    refine sym_then ?_
    refine sym_seq ?_
    refine sym_seq ?_
    refine St.region h [.inl (el (dig m)), .inr (0, 0), .inr (1, 0), .inl (.bool false), .inr (2, 0), .inl (.bool false), .inl (.tuple #[el (dig y), .bool false]), .inl (el (dig m)), .inl (.tuple #[el (dig y), .bool false]), .inl (el (dig y)), .inl (.bool false), .inl (.bool false), .inl (.bool true), uu, uu, uu, uu, uu, uu, uu, uu] [(ce m, 29), (ce 0, 29), (ce y, 29)] [(ce m, 29), (ce 0, 29), (ce y, 29)] [#[], #[], #[]] [nn, nn] (by kernel_rfl) (by kernel_rfl) (by kernel_rfl) (by kernel_rfl) (by kernel_rfl) (by kernel_rfl) (by kernel_rfl) (by kernel_rfl) ?_ ?_
    · refine ok_cons (ok_mv (Or.inl rfl) (by kernel_rfl) rfl (by kernel_rfl) (by kernel_rfl)) ?_
      refine ok_cons (ok_not (b := false) rfl (by kernel_rfl) rfl (by kernel_rfl) (by kernel_rfl) (by kernel_rfl)) ?_
      exact ok_nil
    clear h; intro β a w h
    refine sym_then ?_
    refine sym_cond_t h (by kernel_rfl) (by kernel_rfl) ?_
    refine sym_seq ?_
    refine St.region h [.inl (el (dig m)), .inr (0, 0), .inr (1, 0), .inl (.bool false), .inr (2, 0), .inl (.bool false), .inl (.tuple #[el (dig y), .bool false]), .inl (el (dig m)), .inl (.tuple #[el (dig y), .bool false]), .inl (el (dig y)), .inl (.bool false), .inl (.bool false), .inl (.bool true), .inl (el (dig 0)), uu, uu, uu, uu, uu, uu, uu] [(ce m, 29), (ce 0, 29), (ce y, 29)] [(ce m, 29), (ce 0, 29), (ce y, 29)] [#[], ce 0, #[]] [nn, ⟨none, some 1, none, false⟩, nn] (by kernel_rfl) (by kernel_rfl) (by kernel_rfl) (by kernel_rfl) (by kernel_rfl) (by kernel_rfl) (by kernel_rfl) (by kernel_rfl) ?_ ?_
    · refine ok_cons (ok_build (vs := #[]) (v := el (dig 0)) bdE rfl (by kernel_rfl) rfl (by kernel_rfl) (by kernel_rfl) (by kernel_rfl)) ?_
      refine ok_cons (ok_store (b := 1) (off := 0) (u := el (dig 0)) (c := ce 0) (n := ce 0) (stE (n := 0) (c := ce 0) 29 (ce_size _)) rfl (by kernel_rfl) rfl (by kernel_rfl) (by kernel_rfl) (by kernel_rfl) (by kernel_rfl) (by kernel_rfl)) ?_
      refine ok_cons (ok_mv (Or.inr rfl) (by kernel_rfl) rfl (by kernel_rfl) (by kernel_rfl)) ?_
      exact ok_nil
    clear h; intro β a w h
    refine sym_then ?_
    refine wp_ret ?_
    refine then_ret ?_
    exact sym_ret2 (b := 1) (t0 := 29) (c := ce 0) h Try.results63 (by kernel_rfl) (by kernel_rfl) (by kernel_rfl) (by kernel_rfl) (by kernel_rfl) Try.underlying29 rfl (by kernel_rfl) (fun hb => ⟨rfl, hb⟩)
theorem root_ev {m y : Nat} (hy : y < pp) (hev : decide (y % 2 = 0) = true) (c1 : ∀ w, Calls Try.prog 81 #[el (dig m)] w fun e w' => e = .returned (.tuple #[el (dig y), .bool true]) ∧ Below w.heap.size w w') (w : World) :
    Calls Try.prog 63 #[el (dig m)] w fun e w' => e = .returned (.tuple #[el (dig y), .bool true]) ∧ Below w.heap.size w w' := by
    refine sym_enter Try.func63 Try.ntmps63 rfl [.inl (el (dig m)), uu, uu, uu, uu, uu, uu, uu, uu, uu, uu, uu, uu, uu, uu, uu, uu, uu, uu, uu, uu] (by kernel_rfl) (by kernel_rfl) ?_
    intro β a h
    refine sym_seq ?_
    refine St.region h [.inl (el (dig m)), .inr (0, 0), .inr (1, 0), .inl (.bool false), uu, uu, uu, uu, uu, uu, uu, uu, uu, uu, uu, uu, uu, uu, uu, uu, uu] [(ce m, 29), (ce 0, 29)] [(ce m, 29), (ce 0, 29)] [#[], #[]] [⟨some 0, none, none, false⟩, ⟨some 1, none, none, false⟩, nn] (by kernel_rfl) (by kernel_rfl) (by kernel_rfl) (by kernel_rfl) (by kernel_rfl) (by kernel_rfl) (by kernel_rfl) (by kernel_rfl) ?_ ?_
    · refine ok_cons (ok_box (b := 0) (u := el (dig m)) (bxE (n := m)) rfl (by kernel_rfl) rfl (by kernel_rfl) (by kernel_rfl) (by kernel_rfl) (by kernel_rfl)) ?_
      refine ok_cons (ok_alloc (b := 1) alE rfl (by kernel_rfl) rfl (by kernel_rfl) (by kernel_rfl)) ?_
      refine ok_cons (ok_mv (Or.inr rfl) (by kernel_rfl) rfl (by kernel_rfl) (by kernel_rfl)) ?_
      exact ok_nil
    clear h; intro β a w h
    refine sym_then ?_
    refine sym_seq ?_
    refine St.region h [.inl (el (dig m)), .inr (0, 0), .inr (1, 0), .inl (.bool false), .inr (2, 0), .inl (.bool true), .inl (.tuple #[el (dig y), .bool true]), .inl (el (dig m)), .inl (.tuple #[el (dig y), .bool true]), .inl (el (dig y)), .inl (.bool true), uu, uu, uu, uu, uu, uu, uu, uu, uu, uu] [(ce m, 29), (ce 0, 29), (ce y, 29)] [(ce m, 29), (ce 0, 29), (ce 0, 29)] [#[], #[], ce y] [⟨none, none, some 0, false⟩, nn, nn, nn, nn, ⟨some 2, none, none, false⟩, ⟨none, some 2, none, false⟩, nn] (by kernel_rfl) (by kernel_rfl) (by kernel_rfl) (by kernel_rfl) (by kernel_rfl) (by kernel_rfl) (by kernel_rfl) (by kernel_rfl) ?_ ?_
    · refine ok_cons (ok_load (b := 0) (off := 0) (c := ce m) (v := el (dig m)) (ldE (n := m) 29) rfl (by kernel_rfl) rfl (by kernel_rfl) (by kernel_rfl) (by kernel_rfl)) ?_
      refine ok_cons (ok_call (vs := #[el (dig m)]) (R := .tuple #[el (dig y), .bool true]) c1 rfl (by kernel_rfl) rfl (by kernel_rfl) (by kernel_rfl) (by kernel_rfl) (fun w => by kernel_rfl)) ?_
      refine ok_cons (ok_mv (Or.inl rfl) (by kernel_rfl) rfl (by kernel_rfl) (by kernel_rfl)) ?_
      refine ok_cons (ok_ext (x1 := .tuple #[el (dig y), .bool true]) (v := el (dig y)) (fun w => by kernel_rfl) rfl (by kernel_rfl) rfl (by kernel_rfl) (by kernel_rfl) (by kernel_rfl)) ?_
      refine ok_cons (ok_ext (x1 := .tuple #[el (dig y), .bool true]) (v := .bool true) (fun w => by kernel_rfl) rfl (by kernel_rfl) rfl (by kernel_rfl) (by kernel_rfl) (by kernel_rfl)) ?_
      refine ok_cons (ok_alloc (b := 2) alE rfl (by kernel_rfl) rfl (by kernel_rfl) (by kernel_rfl)) ?_
      refine ok_cons (ok_store (b := 2) (off := 0) (u := el (dig y)) (c := ce 0) (n := ce y) (stE (n := y) (c := ce 0) 29 (ce_size _)) rfl (by kernel_rfl) rfl (by kernel_rfl) (by kernel_rfl) (by kernel_rfl) (by kernel_rfl) (by kernel_rfl)) ?_
      refine ok_cons (ok_mv (Or.inr rfl) (by kernel_rfl) rfl (by kernel_rfl) (by kernel_rfl)) ?_
      exact ok_nil
    clear h; intro β a w h
    refine sym_then ?_
    refine sym_seq ?_
    refine sym_seq ?_
    refine St.region h [.inl (el (dig m)), .inr (0, 0), .inr (1, 0), .inl (.bool false), .inr (2, 0), .inl (.bool true), .inl (.tuple #[el (dig y), .bool true]), .inl (el (dig m)), .inl (.tuple #[el (dig y), .bool true]), .inl (el (dig y)), .inl (.bool true), .inl (.bool true), .inl (.bool false), uu, uu, uu, uu, uu, uu, uu, uu] [(ce m, 29), (ce 0, 29), (ce y, 29)] [(ce m, 29), (ce 0, 29), (ce y, 29)] [#[], #[], #[]] [nn, nn] (by kernel_rfl) (by kernel_rfl) (by kernel_rfl) (by kernel_rfl) (by kernel_rfl) (by kernel_rfl) (by kernel_rfl) (by kernel_rfl) ?_ ?_
    · refine ok_cons (ok_mv (Or.inl rfl) (by kernel_rfl) rfl (by kernel_rfl) (by kernel_rfl)) ?_
      refine ok_cons (ok_not (b := true) rfl (by kernel_rfl) rfl (by kernel_rfl) (by kernel_rfl) (by kernel_rfl)) ?_
      exact ok_nil
    clear h; intro β a w h
    refine sym_then ?_
    refine sym_cond_f h (by kernel_rfl) (by kernel_rfl) ?_
    refine wp_skip ?_
    refine sym_then ?_
    refine sym_seq ?_
    refine sym_seq ?_
    refine St.region h [.inl (el (dig m)), .inr (0, 0), .inr (1, 0), .inl (.bool false), .inr (2, 0), .inl (.bool true), .inl (.tuple #[el (dig y), .bool true]), .inl (el (dig m)), .inl (.tuple #[el (dig y), .bool true]), .inl (el (dig y)), .inl (.bool true), .inl (.bool true), .inl (.bool false), uu, .inl (el (dig y)), .inl (.bool true), .inl (.bool false), uu, uu, uu, uu] [(ce m, 29), (ce 0, 29), (ce y, 29)] [(ce m, 29), (ce 0, 29), (ce y, 29)] [#[], #[], #[]] [⟨none, none, some 2, false⟩, nn, nn] (by kernel_rfl) (by kernel_rfl) (by kernel_rfl) (by kernel_rfl) (by kernel_rfl) (by kernel_rfl) (by kernel_rfl) (by kernel_rfl) ?_ ?_
    · refine ok_cons (ok_load (b := 2) (off := 0) (c := ce y) (v := el (dig y)) (ldE (n := y) 29) rfl (by kernel_rfl) rfl (by kernel_rfl) (by kernel_rfl) (by kernel_rfl)) ?_
      refine ok_cons (ok_call (vs := #[el (dig y)]) (R := .bool true) (fun w => even_b hy hev w) rfl (by kernel_rfl) rfl (by kernel_rfl) (by kernel_rfl) (by kernel_rfl) (fun w => by kernel_rfl)) ?_
      refine ok_cons (ok_not (b := true) rfl (by kernel_rfl) rfl (by kernel_rfl) (by kernel_rfl) (by kernel_rfl)) ?_
      exact ok_nil
    clear h; intro β a w h
    refine sym_then ?_
    refine sym_cond_f h (by kernel_rfl) (by kernel_rfl) ?_
    refine wp_skip ?_
    refine sym_then ?_
    refine sym_seq ?_
    refine St.region h [.inl (el (dig m)), .inr (0, 0), .inr (1, 0), .inl (.bool true), .inr (2, 0), .inl (.bool true), .inl (.tuple #[el (dig y), .bool true]), .inl (el (dig m)), .inl (.tuple #[el (dig y), .bool true]), .inl (el (dig y)), .inl (.bool true), .inl (.bool true), .inl (.bool false), uu, .inl (el (dig y)), .inl (.bool true), .inl (.bool false), uu, uu, uu, .inl (el (dig y))] [(ce m, 29), (ce y, 29), (ce y, 29)] [(ce m, 29), (ce 0, 29), (ce y, 29)] [#[], ce y, #[]] [⟨none, none, some 2, false⟩, ⟨none, some 1, none, false⟩, nn] (by kernel_rfl) (by kernel_rfl) (by kernel_rfl) (by kernel_rfl) (by kernel_rfl) (by kernel_rfl) (by kernel_rfl) (by kernel_rfl) ?_ ?_
    · refine ok_cons (ok_load (b := 2) (off := 0) (c := ce y) (v := el (dig y)) (ldE (n := y) 29) rfl (by kernel_rfl) rfl (by kernel_rfl) (by kernel_rfl) (by kernel_rfl)) ?_
      refine ok_cons (ok_store (b := 1) (off := 0) (u := el (dig y)) (c := ce 0) (n := ce y) (stE (n := y) (c := ce 0) 29 (ce_size _)) rfl (by kernel_rfl) rfl (by kernel_rfl) (by kernel_rfl) (by kernel_rfl) (by kernel_rfl) (by kernel_rfl)) ?_
      refine ok_cons (ok_mv (Or.inr rfl) (by kernel_rfl) rfl (by kernel_rfl) (by kernel_rfl)) ?_
      exact ok_nil
    clear h; intro β a w h
    refine sym_then ?_
    refine wp_ret ?_
    exact sym_ret2 (b := 1) (t0 := 29) (c := ce y) h Try.results63 (by kernel_rfl) (by kernel_rfl) (by kernel_rfl) (by kernel_rfl) (by kernel_rfl) Try.underlying29 rfl (by kernel_rfl) (fun hb => ⟨rfl, hb⟩)
theorem root_od {m y : Nat} (hy : y < pp) (hev : decide (y % 2 = 0) = false) (c1 : ∀ w, Calls Try.prog 81 #[el (dig m)] w fun e w' => e = .returned (.tuple #[el (dig y), .bool true]) ∧ Below w.heap.size w w') (w : World) :
    Calls Try.prog 63 #[el (dig m)] w fun e w' => e = .returned (.tuple #[el (dig ((0 + (pp - y)) % pp)), .bool true]) ∧ Below w.heap.size w w' := by
    refine sym_enter Try.func63 Try.ntmps63 rfl [.inl (el (dig m)), uu, uu, uu, uu, uu, uu, uu, uu, uu, uu, uu, uu, uu, uu, uu, uu, uu, uu, uu, uu] (by kernel_rfl) (by kernel_rfl) ?_
    intro β a h
    refine sym_seq ?_
    refine St.region h [.inl (el (dig m)), .inr (0, 0), .inr (1, 0), .inl (.bool false), uu, uu, uu, uu, uu, uu, uu, uu, uu, uu, uu, uu, uu, uu, uu, uu, uu] [(ce m, 29), (ce 0, 29)] [(ce m, 29), (ce 0, 29)] [#[], #[]] [⟨some 0, none, none, false⟩, ⟨some 1, none, none, false⟩, nn] (by kernel_rfl) (by kernel_rfl) (by kernel_rfl) (by kernel_rfl) (by kernel_rfl) (by kernel_rfl) (by kernel_rfl) (by kernel_rfl) ?_ ?_
    · refine ok_cons (ok_box (b := 0) (u := el (dig m)) (bxE (n := m)) rfl (by kernel_rfl) rfl (by kernel_rfl) (by kernel_rfl) (by kernel_rfl) (by kernel_rfl)) ?_
      refine ok_cons (ok_alloc (b := 1) alE rfl (by kernel_rfl) rfl (by kernel_rfl) (by kernel_rfl)) ?_
      refine ok_cons (ok_mv (Or.inr rfl) (by kernel_rfl) rfl (by kernel_rfl) (by kernel_rfl)) ?_
      exact ok_nil
    clear h; intro β a w h
    refine sym_then ?_
    refine sym_seq ?_
    refine St.region h [.inl (el (dig m)), .inr (0, 0), .inr (1, 0), .inl (.bool false), .inr (2, 0), .inl (.bool true), .inl (.tuple #[el (dig y), .bool true]), .inl (el (dig m)), .inl (.tuple #[el (dig y), .bool true]), .inl (el (dig y)), .inl (.bool true), uu, uu, uu, uu, uu, uu, uu, uu, uu, uu] [(ce m, 29), (ce 0, 29), (ce y, 29)] [(ce m, 29), (ce 0, 29), (ce 0, 29)] [#[], #[], ce y] [⟨none, none, some 0, false⟩, nn, nn, nn, nn, ⟨some 2, none, none, false⟩, ⟨none, some 2, none, false⟩, nn] (by kernel_rfl) (by kernel_rfl) (by kernel_rfl) (by kernel_rfl) (by kernel_rfl) (by kernel_rfl) (by kernel_rfl) (by kernel_rfl) ?_ ?_
    · refine ok_cons (ok_load (b := 0) (off := 0) (c := ce m) (v := el (dig m)) (ldE (n := m) 29) rfl (by kernel_rfl) rfl (by kernel_rfl) (by kernel_rfl) (by kernel_rfl)) ?_
      refine ok_cons (ok_call (vs := #[el (dig m)]) (R := .tuple #[el (dig y), .bool true]) c1 rfl (by kernel_rfl) rfl (by kernel_rfl) (by kernel_rfl) (by kernel_rfl) (fun w => by kernel_rfl)) ?_
      refine ok_cons (ok_mv (Or.inl rfl) (by kernel_rfl) rfl (by kernel_rfl) (by kernel_rfl)) ?_
      refine ok_cons (ok_ext (x1 := .tuple #[el (dig y), .bool true]) (v := el (dig y)) (fun w => by kernel_rfl) rfl (by kernel_rfl) rfl (by kernel_rfl) (by kernel_rfl) (by kernel_rfl)) ?_
      refine ok_cons (ok_ext (x1 := .tuple #[el (dig y), .bool true]) (v := .bool true) (fun w => by kernel_rfl) rfl (by kernel_rfl) rfl (by kernel_rfl) (by kernel_rfl) (by kernel_rfl)) ?_
      refine ok_cons (ok_alloc (b := 2) alE rfl (by kernel_rfl) rfl (by kernel_rfl) (by kernel_rfl)) ?_
      refine ok_cons (ok_store (b := 2) (off := 0) (u := el (dig y)) (c := ce 0) (n := ce y) (stE (n := y) (c := ce 0) 29 (ce_size _)) rfl (by kernel_rfl) rfl (by kernel_rfl) (by kernel_rfl) (by kernel_rfl) (by kernel_rfl) (by kernel_rfl)) ?_
      refine ok_cons (ok_mv (Or.inr rfl) (by kernel_rfl) rfl (by kernel_rfl) (by kernel_rfl)) ?_
      exact ok_nil
    clear h; intro β a w h
    refine sym_then ?_
    refine sym_seq ?_
    refine sym_seq ?_
    refine St.region h [.inl (el (dig m)), .inr (0, 0), .inr (1, 0), .inl (.bool false), .inr (2, 0), .inl (.bool true), .inl (.tuple #[el (dig y), .bool true]), .inl (el (dig m)), .inl (.tuple #[el (dig y), .bool true]), .inl (el (dig y)), .inl (.bool true), .inl (.bool true), .inl (.bool false), uu, uu, uu, uu, uu, uu, uu, uu] [(ce m, 29), (ce 0, 29), (ce y, 29)] [(ce m, 29), (ce 0, 29), (ce y, 29)] [#[], #[], #[]] [nn, nn] (by kernel_rfl) (by kernel_rfl) (by kernel_rfl) (by kernel_rfl) (by kernel_rfl) (by kernel_rfl) (by kernel_rfl) (by kernel_rfl) ?_ ?_
    · refine ok_cons (ok_mv (Or.inl rfl) (by kernel_rfl) rfl (by kernel_rfl) (by kernel_rfl)) ?_
      refine ok_cons (ok_not (b := true) rfl (by kernel_rfl) rfl (by kernel_rfl) (by kernel_rfl) (by kernel_rfl)) ?_
      exact ok_nil
    clear h; intro β a w h
    refine sym_then ?_
    refine sym_cond_f h (by kernel_rfl) (by kernel_rfl) ?_
    refine wp_skip ?_
    refine sym_then ?_
    refine sym_seq ?_
    refine sym_seq ?_
    refine St.region h [.inl (el (dig m)), .inr (0, 0), .inr (1, 0), .inl (.bool false), .inr (2, 0), .inl (.bool true), .inl (.tuple #[el (dig y), .bool true]), .inl (el (dig m)), .inl (.tuple #[el (dig y), .bool true]), .inl (el (dig y)), .inl (.bool true), .inl (.bool true), .inl (.bool false), uu, .inl (el (dig y)), .inl (.bool false), .inl (.bool true), uu, uu, uu, uu] [(ce m, 29), (ce 0, 29), (ce y, 29)] [(ce m, 29), (ce 0, 29), (ce y, 29)] [#[], #[], #[]] [⟨none, none, some 2, false⟩, nn, nn] (by kernel_rfl) (by kernel_rfl) (by kernel_rfl) (by kernel_rfl) (by kernel_rfl) (by kernel_rfl) (by kernel_rfl) (by kernel_rfl) ?_ ?_
    · refine ok_cons (ok_load (b := 2) (off := 0) (c := ce y) (v := el (dig y)) (ldE (n := y) 29) rfl (by kernel_rfl) rfl (by kernel_rfl) (by kernel_rfl) (by kernel_rfl)) ?_
      refine ok_cons (ok_call (vs := #[el (dig y)]) (R := .bool false) (fun w => even_b hy hev w) rfl (by kernel_rfl) rfl (by kernel_rfl) (by kernel_rfl) (by kernel_rfl) (fun w => by kernel_rfl)) ?_
      refine ok_cons (ok_not (b := false) rfl (by kernel_rfl) rfl (by kernel_rfl) (by kernel_rfl) (by kernel_rfl)) ?_
      exact ok_nil
    clear h; intro β a w h
    refine sym_then ?_
    refine sym_cond_t h (by kernel_rfl) (by kernel_rfl) ?_
    refine St.region h [.inl (el (dig m)), .inr (0, 0), .inr (1, 0), .inl (.bool false), .inr (2, 0), .inl (.bool true), .inl (.tuple #[el (dig y), .bool true]), .inl (el (dig m)), .inl (.tuple #[el (dig y), .bool true]), .inl (el (dig y)), .inl (.bool true), .inl (.bool true), .inl (.bool false), uu, .inl (el (dig y)), .inl (.bool false), .inl (.bool true), .inl (el (dig 0)), .inl (el (dig y)), .inl (el (dig ((0 + (pp - y)) % pp))), uu] [(ce m, 29), (ce 0, 29), (ce ((0 + (pp - y)) % pp), 29)] [(ce m, 29), (ce 0, 29), (ce y, 29)] [#[], #[], ce ((0 + (pp - y)) % pp)] [nn, ⟨none, none, some 2, false⟩, nn, ⟨none, some 2, none, false⟩] (by kernel_rfl) (by kernel_rfl) (by kernel_rfl) (by kernel_rfl) (by kernel_rfl) (by kernel_rfl) (by kernel_rfl) (by kernel_rfl) ?_ ?_
    · refine ok_cons (ok_build (vs := #[]) (v := el (dig 0)) bdE rfl (by kernel_rfl) rfl (by kernel_rfl) (by kernel_rfl) (by kernel_rfl)) ?_
      refine ok_cons (ok_load (b := 2) (off := 0) (c := ce y) (v := el (dig y)) (ldE (n := y) 29) rfl (by kernel_rfl) rfl (by kernel_rfl) (by kernel_rfl) (by kernel_rfl)) ?_
      refine ok_cons (ok_call (vs := #[el (dig 0), el (dig y)]) (R := el (dig ((0 + (pp - y)) % pp))) (fun w => minus_d (by decide +kernel) hy w) rfl (by kernel_rfl) rfl (by kernel_rfl) (by kernel_rfl) (by kernel_rfl) (fun w => by kernel_rfl)) ?_
      refine ok_cons (ok_store (b := 2) (off := 0) (u := el (dig ((0 + (pp - y)) % pp))) (c := ce y) (n := ce ((0 + (pp - y)) % pp)) (stE (n := ((0 + (pp - y)) % pp)) (c := ce y) 29 (ce_size _)) rfl (by kernel_rfl) rfl (by kernel_rfl) (by kernel_rfl) (by kernel_rfl) (by kernel_rfl) (by kernel_rfl)) ?_
      exact ok_nil
    clear h; intro β a w h
    refine sym_then ?_
    refine sym_seq ?_
    refine St.region h [.inl (el (dig m)), .inr (0, 0), .inr (1, 0), .inl (.bool true), .inr (2, 0), .inl (.bool true), .inl (.tuple #[el (dig y), .bool true]), .inl (el (dig m)), .inl (.tuple #[el (dig y), .bool true]), .inl (el (dig y)), .inl (.bool true), .inl (.bool true), .inl (.bool false), uu, .inl (el (dig y)), .inl (.bool false), .inl (.bool true), .inl (el (dig 0)), .inl (el (dig y)), .inl (el (dig ((0 + (pp - y)) % pp))), .inl (el (dig ((0 + (pp - y)) % pp)))] [(ce m, 29), (ce ((0 + (pp - y)) % pp), 29), (ce ((0 + (pp - y)) % pp), 29)] [(ce m, 29), (ce 0, 29), (ce ((0 + (pp - y)) % pp), 29)] [#[], ce ((0 + (pp - y)) % pp), #[]] [⟨none, none, some 2, false⟩, ⟨none, some 1, none, false⟩, nn] (by kernel_rfl) (by kernel_rfl) (by kernel_rfl) (by kernel_rfl) (by kernel_rfl) (by kernel_rfl) (by kernel_rfl) (by kernel_rfl) ?_ ?_
    · refine ok_cons (ok_load (b := 2) (off := 0) (c := ce ((0 + (pp - y)) % pp)) (v := el (dig ((0 + (pp - y)) % pp))) (ldE (n := ((0 + (pp - y)) % pp)) 29) rfl (by kernel_rfl) rfl (by kernel_rfl) (by kernel_rfl) (by kernel_rfl)) ?_
      refine ok_cons (ok_store (b := 1) (off := 0) (u := el (dig ((0 + (pp - y)) % pp))) (c := ce 0) (n := ce ((0 + (pp - y)) % pp)) (stE (n := ((0 + (pp - y)) % pp)) (c := ce 0) 29 (ce_size _)) rfl (by kernel_rfl) rfl (by kernel_rfl) (by kernel_rfl) (by kernel_rfl) (by kernel_rfl) (by kernel_rfl)) ?_
      refine ok_cons (ok_mv (Or.inr rfl) (by kernel_rfl) rfl (by kernel_rfl) (by kernel_rfl)) ?_
      exact ok_nil
    clear h; intro β a w h
    refine sym_then ?_
    refine wp_ret ?_
    exact sym_ret2 (b := 1) (t0 := 29) (c := ce ((0 + (pp - y)) % pp)) h Try.results63 (by kernel_rfl) (by kernel_rfl) (by kernel_rfl) (by kernel_rfl) (by kernel_rfl) Try.underlying29 rfl (by kernel_rfl) (fun hb => ⟨rfl, hb⟩)

theorem hexp : ∃ h : Nat, 2 * h + 1 = pp ∧ ∀ k : Nat, k = 7237005577332262213973186563042994240829374041602535252466099000494570602494 → 4 * k = h + 2 :=
  ⟨28948022309329048855892746252171976963317496166410141009864396001978282409974, by unfold pp; omega, fun k hk => by subst hk; omega⟩

/-- Root: an even root and true, or nothing and false where there is none. -/
theorem root_d {m : Nat} (hm : m < pp) : ∃ (r : Nat) (b : Bool), r < pp ∧ (b = true → r * r % pp = m ∧ r % 2 = 0) ∧ (b = false → r = 0 ∧ ∀ x, x * x % pp ≠ m) ∧
    ∀ w, Calls Try.prog 63 #[el (dig m)] w fun e w' => e = .returned (.tuple #[el (dig r), .bool b]) ∧ Below w.heap.size w w' := by
  obtain ⟨k, hk, c⟩ := anyRoot_d hm
  obtain ⟨h, hh, h4⟩ := hexp
  have h4 := h4 k hk.out
  have hy : aRt (m ^ k % pp) m < pp := aRt_lt (mod_pp _)
  have hone : m ^ h % pp = 1 → aRt (m ^ k % pp) m * aRt (m ^ k % pp) m % pp = m := fun h1 => root_of_one hm h4 h1 rfl
  have hzero : m = 0 → aRt (m ^ k % pp) m * aRt (m ^ k % pp) m % pp = m := by
    intro e
    subst e
    have hk0 : 0 < k := by omega
    have e0 : 0 ^ k % pp = 0 := by rw [Nat.zero_pow hk0]; exact Nat.zero_mod _
    rw [e0, aRt_t (by simp)]; simp
  generalize aRt (m ^ k % pp) m = y at *
  by_cases hb : y * y % pp = m
  · rw [decide_eq_true hb] at c
    obtain ⟨s1, s2, s3⟩ := evn_spec hy
    refine ⟨evn y, true, s1, fun _ => ⟨by rw [s3]; exact hb, s2⟩, fun h => (by cases h), fun w => ?_⟩
    by_cases he : y % 2 = 0
    · rw [evn_t he]; exact root_ev hy (decide_eq_true he) c w
    · rw [evn_f he]; exact root_od hy (decide_eq_false he) c w
  · rw [decide_eq_false hb] at c
    refine ⟨0, false, pp_pos, fun h => (by cases h), fun _ => ⟨rfl, fun x hx => hb ?_⟩, root_no c⟩
    by_cases h0 : m = 0
    · exact hzero h0
    · exact hone (one_of_root hh h0 hx)
end Go.Proofs.Ytgiemldmphbolaa

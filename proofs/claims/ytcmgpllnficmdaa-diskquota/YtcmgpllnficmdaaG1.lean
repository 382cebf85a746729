/- D1, D2, D4, D5, D6, D7, D8, D9, D10, D11, DB, D12, D13, D14, D15, D16, D17, D18, D19, D20, D21, D22: laid together. -/
import Derived.WalkKit
import Derived.WalkSpells
import Derived.WalkLawsBesides
import Derived.Below
import Derived.Handy
import Derived.Maps.Own
import Derived.Maps.OwnSet
import Derived.Maps.Range
import Derived.Maps.RangeWalk
import Derived.Laws.BytesArg
import Derived.Laws.OwnMore
import Derived.Laws.Tables
import Derived.OwnWalk
import Derived.Deep.QuietTactic
import Derived.BigQuiet
import Derived.Shelf.LaysM
import Derived.Shelf.Strconv.Clone
import Derived.Lib.Strings
import Derived.Lib.BufferWrite
import Derived.Lib.UnsafeStr
import Derived.Laws.MakeOwn
import Derived.Deep.RegionWith
import Derived.Deep.RegionLaw
import Derived.Maps.AppendAt
import Derived.Sort.KeysCollected
import Derived.Lib.SlBytesConst
import Derived.Test.YtcmgpllnficmdaaRows
namespace Go.Proofs.Ytcmgpllnficmdaa
open Go.RowKit

abbrev nilD : Value := .pointer none
/-- An error of the program's, by its number. -/
abbrev eN_ (n : Int) : Value := .iface 31 (.int .i64 n)

theorem nil_Crash (n : Int) (w : World) : Calls Try.prog 17 #[nilD, .int .i64 n] w fun e w' => e = .returned (.tuple #[]) ∧ w' = w := by
  go_enter Try.func17, Try.ntmps17
  go_wp2
  refine bodyPost_ret (results_none rfl _ _ _) rfl ?_
  exact ⟨rfl, rfl⟩

theorem nil_Down (w : World) : Calls Try.prog 18 #[nilD] w fun e w' => e = .returned (.bool true) ∧ w' = w := by
  go_enter Try.func18, Try.ntmps18
  go_wp2
  go_ret
  exact ⟨rfl, rfl⟩

theorem nil_find (s : ByteArray) (w : World) : Calls Try.prog 49 #[nilD, .string s] w fun e w' => e = .returned (.tuple #[.pointer none, eN_ 4]) ∧ w' = w := by
  go_enter Try.func49, Try.ntmps49
  go_wp2
  go_ret2
  exact ⟨rfl, rfl⟩

theorem nil_Read (s : ByteArray) (w : World) : Calls Try.prog 21 #[nilD, .string s] w fun e w' => e = .returned (.tuple #[.slice none 0 0, eN_ 4]) ∧ w' = w := by
  go_enter Try.func21, Try.ntmps21
  go_wp2_with fail
  refine (nil_Down w).mono ?_
  rintro e w1 ⟨rfl, rfl⟩
  go_wp2
  go_ret2
  exact ⟨rfl, rfl⟩

theorem nil_Cut (s : ByteArray) (n : Int) (w : World) : Calls Try.prog 27 #[nilD, .string s, .int .i64 n] w fun e w' => e = .returned (eN_ 4) ∧ Below w.heap.size w w' := by
  go_enter Try.func27, Try.ntmps27
  go_wp2_with fail
  refine (nil_find s _).mono ?_
  rintro e w1 ⟨rfl, rfl⟩
  go_wp2
  go_ret
  exact ⟨rfl, by go_grown⟩

theorem nil_Rename (s s2 : ByteArray) (w : World) : Calls Try.prog 28 #[nilD, .string s, .string s2] w fun e w' => e = .returned (eN_ 4) ∧ Below w.heap.size w w' := by
  go_enter Try.func28, Try.ntmps28
  go_wp2_with fail
  refine (nil_find s _).mono ?_
  rintro e w1 ⟨rfl, rfl⟩
  go_wp2
  go_ret
  exact ⟨rfl, by go_grown⟩

theorem nil_Drop (s : ByteArray) (w : World) : Calls Try.prog 29 #[nilD, .string s] w fun e w' => e = .returned (eN_ 4) ∧ Below w.heap.size w w' := by
  go_enter Try.func29, Try.ntmps29
  go_wp2_with fail
  refine (nil_find s _).mono ?_
  rintro e w1 ⟨rfl, rfl⟩
  go_wp2
  go_ret
  exact ⟨rfl, by go_grown⟩

theorem nil_Sync (s : ByteArray) (w : World) : Calls Try.prog 26 #[nilD, .string s] w fun e w' => e = .returned (eN_ 4) ∧ Below w.heap.size w w' := by
  go_enter Try.func26, Try.ntmps26
  go_wp2_with fail
  refine (nil_find s _).mono ?_
  rintro e w1 ⟨rfl, rfl⟩
  go_wp2
  go_ret
  exact ⟨rfl, by go_grown⟩

theorem nil_Sure (s : ByteArray) (w : World) : Calls Try.prog 22 #[nilD, .string s] w fun e w' => e = .returned (.int .i64 (-1)) ∧ w' = w := by
  go_enter Try.func22, Try.ntmps22
  go_wp2_with fail
  refine (nil_find s _).mono ?_
  rintro e w1 ⟨rfl, rfl⟩
  go_wp2
  go_ret
  exact ⟨rfl, rfl⟩

theorem nil_Arm (n : Int) (w : World) : Calls Try.prog 23 #[nilD, .int .i64 n] w fun e w' => e = .returned (eN_ 4) ∧ w' = w := by
  go_enter Try.func23, Try.ntmps23
  go_wp2
  go_ret
  exact ⟨rfl, rfl⟩

theorem nil_Names (w : World) : Calls Try.prog 20 #[nilD] w fun e w' => e = .returned (.slice none 0 0) ∧ w' = w := by
  go_enter Try.func20, Try.ntmps20
  go_wp2
  go_ret
  exact ⟨rfl, rfl⟩

theorem nil_Used (w : World) : Calls Try.prog 24 #[nilD] w fun e w' => e = .returned (.int .i64 0) ∧ w' = w := by
  go_enter Try.func24, Try.ntmps24
  go_wp2
  go_ret
  exact ⟨rfl, rfl⟩

theorem nil_Free (w : World) : Calls Try.prog 30 #[nilD] w fun e w' => e = .returned (.int .i64 0) ∧ w' = w := by
  go_enter Try.func30, Try.ntmps30
  go_wp2
  go_ret
  exact ⟨rfl, rfl⟩

theorem nil_Steps (w : World) : Calls Try.prog 16 #[nilD] w fun e w' => e = .returned (.int .i64 0) ∧ w' = w := by
  go_enter Try.func16, Try.ntmps16
  go_wp2
  go_ret
  exact ⟨rfl, rfl⟩

theorem nil_Copy (w : World) : Calls Try.prog 15 #[nilD] w fun e w' => e = .returned (.pointer none) ∧ w' = w := by
  go_enter Try.func15, Try.ntmps15
  go_wp2
  go_ret
  exact ⟨rfl, rfl⟩

theorem nil_Append (s : ByteArray) (ad : Option Addr) (len cap : Nat) (w : World) : Calls Try.prog 25 #[nilD, .string s, .slice ad len cap] w fun e w' => e = .returned (eN_ 4) ∧ Below w.heap.size w w' := by
  go_enter Try.func25, Try.ntmps25
  go_wp2
  go_ret
  exact ⟨rfl, by go_grown⟩
end Go.Proofs.Ytcmgpllnficmdaa

namespace Go.Proofs.Ytcmgpllnficmdaa
open Go.RowKit

theorem as_err (v : Value) (w : World) : (Instr.typeAssert (.iface 31 v) 27 31 true).run Try.prog w = .ok (.tuple #[v, .bool true]) w := by kernel_rfl
theorem num_e (n : Int) (h : (n == 0) = false) (w : World) : Calls Try.prog 31 #[eN_ n] w fun e w' => e = .returned (.int .i64 n) ∧ w' = w := by
  have has := as_err (.int .i64 n)
  go_enter Try.func31, Try.ntmps31
  go_wp2
  go_ret
  exact ⟨rfl, rfl⟩
theorem is_e (n : Int) (h : (n == 0) = false) (w : World) : Calls Try.prog 12 #[eN_ n, .int .i64 n] w fun e w' => e = .returned (.bool true) ∧ w' = w := by
  go_enter Try.func12, Try.ntmps12
  go_wp2_with fail
  refine (num_e n h _).mono ?_
  rintro e w1 ⟨rfl, rfl⟩
  go_wp2
  go_ret
  exact ⟨rfl, rfl⟩
end Go.Proofs.Ytcmgpllnficmdaa

namespace Go.Proofs.Ytcmgpllnficmdaa
open Go.RowKit Go.Maps

/-- How an element of the map of files reads: the number of its file's block. -/
def fElem : Value → Option (DataW Unit × List MemPlace)
  | .pointer none => some (.nil, [])
  | .pointer (some ⟨q, 0, none⟩) => some (.lit (.int .i64 (q : Int)), [])
  | _ => none
theorem fElem_inv {v : Value} {y : DataW Unit × List MemPlace} (h : fElem v = some y) : (v = .pointer none ∧ y = (.nil, [])) ∨ ∃ q : Nat, v = .pointer (some ⟨q, 0, none⟩) ∧ y = (.lit (.int .i64 (q : Int)), []) := by
  unfold fElem at h
  split at h
  · cases h; exact .inl ⟨rfl, rfl⟩
  · cases h; exact .inr ⟨_, rfl, rfl⟩
  · cases h

abbrev Fn := List UInt8 × Nat
def encE (p : Fn) : Lit × DataW Unit := (.string p.1, .lit (.int .i64 (p.2 : Int)))
def dm (fs : List Fn) : DataW Unit := .map (fs.map encE)
def insF (x : Fn) : List Fn → List Fn
  | [] => [x]
  | y :: r => if (Lit.string x.1).before (Lit.string y.1) then x :: y :: r else y :: insF x r
theorem insF_enc (x : Fn) : ∀ l : List Fn, DataW.insert (encE x) (l.map encE) = (insF x l).map encE
  | [] => rfl
  | y :: r => by
    show (if (Lit.string x.1).before (Lit.string y.1) then _ else _) = List.map encE (if _ then _ else _)
    split
    · rfl
    · rw [List.map_cons]; exact congrArg _ (insF_enc x r)
theorem insF_perm (x : Fn) : ∀ l : List Fn, (insF x l).Perm (x :: l)
  | [] => .refl _
  | y :: r => by
    unfold insF
    split
    · exact .refl _
    · exact ((insF_perm x r).cons y).trans (.swap _ _ _)
def delF (nm : List UInt8) (fs : List Fn) : List Fn := fs.filter fun p => !(p.1 == nm)
def putF (nm : List UInt8) (q : Nat) (fs : List Fn) : List Fn := insF (nm, q) (delF nm fs)
def findF (nm : List UInt8) (fs : List Fn) : Option Fn := fs.find? fun p => p.1 == nm
theorem filt_enc (nm : List UInt8) : ∀ l : List Fn, (l.map encE).filter (fun p => !p.1.sameKey (.string nm)) = (delF nm l).map encE
  | [] => rfl
  | y :: r => by
    have h : (encE y).1.sameKey (.string nm) = (y.1 == nm) := rfl
    simp only [List.map_cons, delF, List.filter_cons, h]
    have := filt_enc nm r
    unfold delF at this
    cases y.1 == nm <;> simp [this]
theorem put_dm (nm : List UInt8) (q : Nat) (fs : List Fn) : (dm fs).put (.string nm) (.lit (.int .i64 (q : Int))) = dm (putF nm q fs) := by
  show DataW.map (DataW.insert (encE (nm, q)) ((fs.map encE).filter fun p => !p.1.sameKey (.string nm))) = _
  rw [filt_enc, insF_enc]; rfl
theorem del_dm (nm : List UInt8) (fs : List Fn) : (dm fs).del (.string nm) = dm (delF nm fs) := by
  show DataW.map ((fs.map encE).filter fun p => !p.1.sameKey (.string nm)) = _
  rw [filt_enc]; rfl
theorem at_dm (nm : List UInt8) (fs : List Fn) (z : DataW Unit) : (dm fs).atKey (.string nm) z = match findF nm fs with
    | some p => .lit (.int .i64 (p.2 : Int))
    | none => z := by
  unfold dm DataW.atKey findF
  simp only
  induction fs with
  | nil => rfl
  | cons y r ih =>
    have h : (encE y).1.sameKey (.string nm) = (y.1 == nm) := rfl
    simp only [List.map_cons, List.find?_cons, h]
    cases y.1 == nm with
    | true => rfl
    | false => exact ih
theorem find_mem {nm : List UInt8} {fs : List Fn} {p : Fn} (h : findF nm fs = some p) : p ∈ fs ∧ p.1 = nm := by
  unfold findF at h
  exact ⟨List.mem_of_find?_eq_some h, by have := List.find?_some h; simpa using this⟩
theorem del_none {nm : List UInt8} {fs : List Fn} (h : findF nm fs = none) : delF nm fs = fs := by
  unfold findF at h; unfold delF
  rw [List.find?_eq_none] at h
  exact List.filter_eq_self.2 fun p hp => by have := h p hp; simpa using this

/-- What a file holds: its bytes, how many of them are sure, the slice that stands for them. -/
structure Fc where
  dat : List Int
  sure : Nat
  v : Value
/-- What a disk holds. -/
structure Dsk where
  steps : Int
  left : Int
  armed : Bool
  gone : Bool
  quota : Int
  used : Int
  bm : Nat
  fs : List Fn
  ct : Nat → Fc
def rowD (D : Dsk) : Array Value := #[.int .i64 D.steps, .int .i64 D.left, .bool D.armed, .bool D.gone, .int .i64 D.quota, .int .i64 D.used, .map (some D.bm)]
def rowF (c : Fc) : Array Value := #[c.v, .int .i64 (c.sure : Int)]
def byteVals (zs : List Int) : List Value := zs.map (Value.int .u8)
def lens (fs : List Fn) (ct : Nat → Fc) : Int := (fs.map fun p => ((ct p.2).dat.length : Int)).sum

/-- A file in memory. -/
structure FlAt (w : World) (base q : Nat) (c : Fc) : Prop where
  row : w.heap[q]? = some (.cells (rowF c) 90 (0, 0))
  ge : base ≤ q
  dat : w.ownsRow base 5 1 c.v c.dat.length (byteVals c.dat)
  byt : ∀ z ∈ c.dat, 0 ≤ z ∧ z < 256
  sur : c.sure ≤ c.dat.length

structure DkAt (w : World) (base b : Nat) (D : Dsk) : Prop where
  row : w.heap[b]? = some (.cells (rowD D) 64 (0, 0))
  gb : base ≤ b
  map : w.ownsMap Try.prog 9 fElem D.bm D.fs.length (dm D.fs)
  gm : base ≤ D.bm
  fil : ∀ p ∈ D.fs, FlAt w base p.2 (D.ct p.2)
  inj : ∀ p ∈ D.fs, ∀ p' ∈ D.fs, p.2 = p'.2 → p = p'
  sep : ∀ p ∈ D.fs, ∀ p' ∈ D.fs, ∀ k, (D.ct p.2).v.ownBlock = some k → (D.ct p'.2).v.ownBlock = some k → p = p'
  usd : D.used = lens D.fs D.ct
  qt : D.used ≤ D.quota ∧ D.quota ≤ 16777216
  st : 0 ≤ D.steps
  lf : D.armed = true → 0 ≤ D.left ∧ D.left < 9223372036854775808

/-- Which blocks a disk is of. -/
def fp (b : Nat) (D : Dsk) (k : Nat) : Prop := k = b ∨ k = D.bm ∨ (∃ p ∈ D.fs, k = p.2) ∨ ∃ p ∈ D.fs, (D.ct p.2).v.ownBlock = some k
/-- Of what was there, only those blocks are turned. -/
structure Fr (S : Nat → Prop) (w w' : World) : Prop where
  os : w'.os = w.os
  tape : w'.tape = w.tape
  output : w'.output = w.output
  size : w.heap.size ≤ w'.heap.size
  block : ∀ k, k < w.heap.size → ¬ S k → w'.heap[k]? = w.heap[k]?

theorem Fr.refl (S : Nat → Prop) (w : World) : Fr S w w := ⟨rfl, rfl, rfl, Nat.le_refl _, fun _ _ _ => rfl⟩
theorem Fr.trans {S T : Nat → Prop} {w w1 w2 : World} (h : Fr S w w1) (k : Fr T w1 w2) (hs : ∀ i, i < w.heap.size → T i → S i) : Fr S w w2 :=
  ⟨k.os.trans h.os, k.tape.trans h.tape, k.output.trans h.output, Nat.le_trans h.size k.size, fun i hi hn => (k.block i (Nat.lt_of_lt_of_le hi h.size) (fun ht => hn (hs i hi ht))).trans (h.block i hi hn)⟩
theorem Fr.mono {S T : Nat → Prop} {w w1 : World} (h : Fr S w w1) (hs : ∀ i, i < w.heap.size → S i → T i) : Fr T w w1 :=
  ⟨h.os, h.tape, h.output, h.size, fun i hi hn => h.block i hi fun hS => hn (hs i hi hS)⟩
theorem Fr.below {S : Nat → Prop} {w w' : World} (h : Fr S w w') (base : Nat) (hb : base ≤ w.heap.size) (hs : ∀ i, S i → base ≤ i) : Below base w w' :=
  ⟨h.os, h.tape, h.output, h.size, fun k hk => h.block k (by omega) fun hS => by have := hs k hS; omega⟩
theorem fr_of {w w' : World} {B : Nat} (h : Below B w w') (S : Nat → Prop) (hs : ∀ i, i < w.heap.size → B ≤ i → S i) : Fr S w w' :=
  ⟨h.os, h.tape, h.output, h.size, fun k hk hn => h.block k (by rcases Nat.lt_or_ge k B with h1 | h1; exact h1; exact absurd (hs k hk h1) hn)⟩
theorem fr_b {w w' : World} (h : Below w.heap.size w w') (S : Nat → Prop) : Fr S w w' := fr_of h S fun i h1 h2 => by omega
theorem fr_grown {w w' : World} {r : Option Nat} (h : w.grownBy w' r) (S : Nat → Prop) (hs : ∀ i, r = some i → S i) : Fr S w w' :=
  ⟨h.os, h.tape, h.output, h.size, fun k hk hn => h.block k hk fun e => hn (hs k e.symm)⟩
theorem fp_ge {w : World} {base b : Nat} {D : Dsk} (h : DkAt w base b D) : ∀ k, fp b D k → base ≤ k := by
  rintro k (rfl | rfl | ⟨p, hp, rfl⟩ | ⟨p, hp, e⟩)
  · exact h.gb
  · exact h.gm
  · exact (h.fil p hp).ge
  · exact ((h.fil p hp).dat.lt k e).1
theorem fp_lt {w : World} {base b : Nat} {D : Dsk} (h : DkAt w base b D) : ∀ k, fp b D k → k < w.heap.size := by
  rintro k (rfl | rfl | ⟨p, hp, rfl⟩ | ⟨p, hp, e⟩)
  · exact (Array.getElem?_eq_some_iff.1 h.row).1
  · exact h.map.lt
  · exact (Array.getElem?_eq_some_iff.1 (h.fil p hp).row).1
  · exact ((h.fil p hp).dat.lt k e).2

/-- What is kept of a map, a row, a file, a disk where other blocks are turned. -/
theorem owns_fr {S : Nat → Prop} {w w' : World} {b n : Nat} {D : DataW Unit} {R : Value → Option (DataW Unit × List MemPlace)} {k : TypeId} (h : w.ownsMap Try.prog k R b n D) (f : Fr S w w') (hn : ¬ S b) : w'.ownsMap Try.prog k R b n D := by
  have hlt := h.lt
  obtain ⟨es, clock, hb, r⟩ := h
  exact ⟨es, clock, (f.block b hlt hn).trans hb, r⟩
theorem row_fr {S : Nat → Prop} {w w' : World} {base n : Nat} {e : TypeId} {v : Value} {xs : List Value} (h : w.ownsRow base e 1 v n xs) (f : Fr S w w') (hn : ∀ k, v.ownBlock = some k → ¬ S k) : w'.ownsRow base e 1 v n xs := by
  have hlt := h.lt
  refine ⟨h.1, ?_⟩
  rcases h.2 with h1 | ⟨g, cap, cur, rfl, h2, h3, h4⟩
  · exact .inl h1
  · exact .inr ⟨g, cap, cur, rfl, h2, (f.block g (hlt g rfl).2 (hn g rfl)).trans h3, h4⟩
theorem FlAt.fr {S : Nat → Prop} {w w' : World} {base q : Nat} {c : Fc} (h : FlAt w base q c) (f : Fr S w w') (hq : ¬ S q) (hn : ∀ k, c.v.ownBlock = some k → ¬ S k) : FlAt w' base q c :=
  ⟨(f.block q (Array.getElem?_eq_some_iff.1 h.row).1 hq).trans h.row, h.ge, row_fr h.dat f hn, h.byt, h.sur⟩
theorem DkAt.fr {S : Nat → Prop} {w w' : World} {base b : Nat} {D : Dsk} (h : DkAt w base b D) (f : Fr S w w') (hn : ∀ k, fp b D k → ¬ S k) : DkAt w' base b D :=
  ⟨(f.block b (Array.getElem?_eq_some_iff.1 h.row).1 (hn b (.inl rfl))).trans h.row, h.gb, owns_fr h.map f (hn _ (.inr (.inl rfl))), h.gm, fun p hp => (h.fil p hp).fr f (hn _ (.inr (.inr (.inl ⟨p, hp, rfl⟩)))) fun k e => hn k (.inr (.inr (.inr ⟨p, hp, e⟩))), h.inj, h.sep, h.usd, h.qt, h.st, h.lf⟩
theorem DkAt.later {w w' : World} {base b : Nat} {D : Dsk} (h : DkAt w base b D) (f : Below w.heap.size w w') : DkAt w' base b D :=
  h.fr (fr_of f (fun k => w.heap.size ≤ k) fun _ _ h => h) fun k hk hS => by have := fp_lt h k hk; omega
end Go.Proofs.Ytcmgpllnficmdaa

namespace Go.Proofs.Ytcmgpllnficmdaa
open Go.RowKit Go.Maps

theorem cell_row {w : World} {b : Nat} {c : Array Value} {t : TypeId} {fr : Nat × Nat} (h : w.heap[b]? = some (.cells c t fr)) (i : Nat) : w.cell? ⟨b, i, none⟩ = c[i]? := by simp [World.cell?, h]
theorem froz_row {w : World} {b : Nat} {c : Array Value} {t : TypeId} (h : w.heap[b]? = some (.cells c t (0, 0))) (i : Nat) : w.frozen? ⟨b, i, none⟩ = false := by simp [World.frozen?, h]
abbrev pD (b : Nat) : Value := .pointer (some ⟨b, 0, none⟩)
theorem law9 : Keyed Try.prog 9 := string_keyed Try.underlying9
theorem zero80 (w : World) : (zeroValue 80).run Try.prog w = .ok (.pointer none) w := by kernel_rfl
theorem key9 {s : ByteArray} (h : s.size ≤ maxLen) : keyOf Try.prog 9 (.string s) = some (.string s.data.toList) := Go.WideMaps.keyOf_string_mk Try.underlying9 h

theorem look_some {w : World} {bm n : Nat} {fs : List Fn} (h : w.ownsMap Try.prog 9 fElem bm n (dm fs)) {s : ByteArray} (hs : s.size ≤ maxLen) {p : Fn} (hp : findF s.data.toList fs = some p) : (Instr.lookup 60 (.map (some bm)) (.string s) false).run Try.prog w = .ok (pD p.2) w := by
  obtain ⟨v, ps, hr, hv⟩ := h.lookup law9 Try.underlying60 (zero80 w) (zd := .nil) (zp := []) rfl (key9 hs)
  rw [at_dm, hp] at hv
  rcases fElem_inv hv with ⟨_, e⟩ | ⟨q, rfl, e⟩
  · cases e
  · simp only [Prod.mk.injEq, DataW.lit.injEq, Lit.int.injEq, true_and] at e
    rw [hr, show q = p.2 by omega]
theorem look_none {w : World} {bm n : Nat} {fs : List Fn} (h : w.ownsMap Try.prog 9 fElem bm n (dm fs)) {s : ByteArray} (hs : s.size ≤ maxLen) (hp : findF s.data.toList fs = none) : (Instr.lookup 60 (.map (some bm)) (.string s) false).run Try.prog w = .ok (.pointer none) w := by
  obtain ⟨v, ps, hr, hv⟩ := h.lookup law9 Try.underlying60 (zero80 w) (zd := .nil) (zp := []) rfl (key9 hs)
  rw [at_dm, hp] at hv
  rcases fElem_inv hv with ⟨rfl, e⟩ | ⟨q, _, e⟩
  · exact hr
  · cases e

variable {w : World} {base b : Nat} {D : Dsk}

theorem find_s (h : DkAt w base b D) {s : ByteArray} (hs : s.size ≤ maxLen) {p : Fn} (hp : findF s.data.toList D.fs = some p) :
    Calls Try.prog 49 #[pD b, .string s] w fun e w' => e = .returned (.tuple #[pD p.2, .nilIface]) ∧ w' = w := by
  have c6 : w.cell? ⟨b, 6, none⟩ = some (.map (some D.bm)) := cell_row h.row 6
  have hl := look_some h.map hs hp
  clear h
  go_enter Try.func49, Try.ntmps49
  go_wp2
  go_ret2
  exact ⟨rfl, rfl⟩
theorem find_n (h : DkAt w base b D) {s : ByteArray} (hs : s.size ≤ maxLen) (hp : findF s.data.toList D.fs = none) :
    Calls Try.prog 49 #[pD b, .string s] w fun e w' => e = .returned (.tuple #[.pointer none, eN_ 5]) ∧ w' = w := by
  have c6 : w.cell? ⟨b, 6, none⟩ = some (.map (some D.bm)) := cell_row h.row 6
  have hl := look_none h.map hs hp
  clear h
  go_enter Try.func49, Try.ntmps49
  go_wp2
  go_ret2
  exact ⟨rfl, rfl⟩
theorem steps_d (h : DkAt w base b D) : Calls Try.prog 16 #[pD b] w fun e w' => e = .returned (.int .i64 D.steps) ∧ w' = w := by
  have c0 : w.cell? ⟨b, 0, none⟩ = some (.int .i64 D.steps) := cell_row h.row 0
  clear h
  go_enter Try.func16, Try.ntmps16
  go_wp2
  go_ret
  exact ⟨rfl, rfl⟩
theorem used_d (h : DkAt w base b D) : Calls Try.prog 24 #[pD b] w fun e w' => e = .returned (.int .i64 D.used) ∧ w' = w := by
  have c0 : w.cell? ⟨b, 5, none⟩ = some (.int .i64 D.used) := cell_row h.row 5
  clear h
  go_enter Try.func24, Try.ntmps24
  go_wp2
  go_ret
  exact ⟨rfl, rfl⟩
theorem down_d (h : DkAt w base b D) : Calls Try.prog 18 #[pD b] w fun e w' => e = .returned (.bool D.gone) ∧ w' = w := by
  have c0 : w.cell? ⟨b, 3, none⟩ = some (.bool D.gone) := cell_row h.row 3
  clear h
  go_enter Try.func18, Try.ntmps18
  go_wp2
  go_ret
  exact ⟨rfl, rfl⟩
theorem lens_nn (fs : List Fn) (ct : Nat → Fc) : 0 ≤ lens fs ct := by
  unfold lens
  induction fs with
  | nil => simp
  | cons p r ih => simp only [List.map_cons, List.sum_cons]; omega
theorem sure_s (h : DkAt w base b D) {s : ByteArray} (hs : s.size ≤ maxLen) {p : Fn} (hp : findF s.data.toList D.fs = some p) :
    Calls Try.prog 22 #[pD b, .string s] w fun e w' => e = .returned (.int .i64 ((D.ct p.2).sure : Int)) ∧ w' = w := by
  have c1 : w.cell? ⟨p.2, 1, none⟩ = some (.int .i64 ((D.ct p.2).sure : Int)) := cell_row (h.fil p (find_mem hp).1).row 1
  go_enter Try.func22, Try.ntmps22
  go_wp2_with fail
  refine (find_s h hs hp).mono ?_
  rintro e w1 ⟨rfl, rfl⟩
  clear h
  go_wp2
  go_ret
  exact ⟨rfl, rfl⟩
theorem sure_n (h : DkAt w base b D) {s : ByteArray} (hs : s.size ≤ maxLen) (hp : findF s.data.toList D.fs = none) :
    Calls Try.prog 22 #[pD b, .string s] w fun e w' => e = .returned (.int .i64 (-1)) ∧ w' = w := by
  go_enter Try.func22, Try.ntmps22
  go_wp2_with fail
  refine (find_n h hs hp).mono ?_
  rintro e w1 ⟨rfl, rfl⟩
  clear h
  go_wp2
  go_ret
  exact ⟨rfl, rfl⟩
theorem free_d (h : DkAt w base b D) : Calls Try.prog 30 #[pD b] w fun e w' => e = .returned (.int .i64 (D.quota - D.used)) ∧ ∃ n, w' = w.drewN n := by
  have c4 : w.cell? ⟨b, 4, none⟩ = some (.int .i64 D.quota) := cell_row h.row 4
  have c5 : w.cell? ⟨b, 5, none⟩ = some (.int .i64 D.used) := cell_row h.row 5
  have h1 := h.qt
  have h2 := lens_nn D.fs D.ct
  rw [← h.usd] at h2
  clear h
  go_enter Try.func30, Try.ntmps30
  go_wp2
  go_quiet (fail)
  go_wp2
  go_ret
  exact ⟨rfl, _, rfl⟩
end Go.Proofs.Ytcmgpllnficmdaa

namespace Go.Proofs.Ytcmgpllnficmdaa
open Go.RowKit Go.Maps

/-- One row of cells is turned, nothing else. -/
structure Wt (w w' : World) (g : Nat) (c : Array Value) (t : TypeId) : Prop where
  os : w'.os = w.os
  tape : w'.tape = w.tape
  output : w'.output = w.output
  size : w'.heap.size = w.heap.size
  block : ∀ k, k ≠ g → w'.heap[k]? = w.heap[k]?
  row : w'.heap[g]? = some (.cells c t (0, 0))
theorem Wt.refl {w : World} {g : Nat} {c : Array Value} {t : TypeId} (h : w.heap[g]? = some (.cells c t (0, 0))) : Wt w w g c t := ⟨rfl, rfl, rfl, rfl, fun _ _ => rfl, h⟩
theorem Wt.fr {w w' : World} {g : Nat} {c : Array Value} {t : TypeId} (h : Wt w w' g c t) : Fr (· = g) w w' := ⟨h.os, h.tape, h.output, by rw [h.size]; exact Nat.le_refl _, fun k _ hn => h.block k hn⟩
theorem Wt.cell {w w' : World} {g : Nat} {c : Array Value} {t : TypeId} (h : Wt w w' g c t) (i : Nat) (v : Value) : Wt w (w'.setCell ⟨g, i, none⟩ v) g (c.setIfInBounds i v) t := by
  have e : (w'.setCell ⟨g, i, none⟩ v).heap[g]? = some (.cells (c.setIfInBounds i v) t (0, 0)) := by
    simp [World.setCell, h.row, Array.getElem?_modify]
  refine ⟨h.os, h.tape, h.output, by simp [h.size], fun k hk => ?_, e⟩
  rw [Below.heap_setCell _ _ _ _ (by simpa using hk)]
  exact h.block k hk
theorem Wt.drew {w w' : World} {g : Nat} {c : Array Value} {t : TypeId} (h : Wt w w' g c t) : Wt w w'.drew g c t := ⟨h.os, h.tape, h.output, h.size, h.block, h.row⟩

def stepd (D : Dsk) : Dsk := { D with steps := D.steps + 1, left := if D.armed then D.left - 1 else D.left }

theorem step_ok {w : World} {b : Nat} {D : Dsk} {R : World → Prop} (f : Nat) (caps : Array Value) (hrow : w.heap[b]? = some (.cells (rowD D) 64 (0, 0))) (hg : D.gone = false) (hl : D.armed = true → 0 < D.left ∧ D.left < 9223372036854775808) (hst : 0 ≤ D.steps ∧ D.steps < 1000000000)
    (he : ∀ w, (callFunc f caps).run Try.prog w = .ok (.enter f caps) w)
    (hdo : ∀ w1, Wt w w1 b (rowD (stepd D)) 64 → Calls Try.prog f caps w1 fun e w' => e = .returned (.tuple #[]) ∧ R w') :
    Calls Try.prog 53 #[pD b, .func (.func f) #[] caps] w fun e w' => e = .returned .nilIface ∧ R w' := by
  have c0 : w.cell? ⟨b, 0, none⟩ = some (.int .i64 D.steps) := cell_row hrow 0
  have c1 : w.cell? ⟨b, 1, none⟩ = some (.int .i64 D.left) := cell_row hrow 1
  have c2 : w.cell? ⟨b, 2, none⟩ = some (.bool D.armed) := cell_row hrow 2
  have c3 : w.cell? ⟨b, 3, none⟩ = some (.bool D.gone) := cell_row hrow 3
  have f0 := froz_row hrow 0
  have f1 := froz_row hrow 1
  rw [hg] at c3
  cases ha : D.armed with
  | true =>
    obtain ⟨l1, l2⟩ := hl ha
    have l3 : (D.left == 0) = false := by simp; omega
    rw [ha] at c2
    have hw := ((Wt.refl hrow).cell 1 (.int .i64 (D.left - 1))).cell 0 (.int .i64 (D.steps + 1))
    have er : ((rowD D).setIfInBounds 1 (.int .i64 (D.left - 1))).setIfInBounds 0 (.int .i64 (D.steps + 1)) = rowD (stepd D) := by simp [rowD, stepd, ha]
    rw [er] at hw
    have hdo1 := hdo _ hw
    clear hw er hrow hl ha hg hdo
    generalize D.steps = st at *
    generalize D.left = lf at *
    go_enter Try.func53, Try.ntmps53
    go_wp2_with fail
    refine hdo1.mono ?_
    rintro e w2 ⟨rfl, hR⟩
    clear hdo1 c0 c1 c2 c3 f0 f1
    go_wp2
    go_ret
    exact ⟨rfl, hR⟩
  | false =>
    rw [ha] at c2
    have hw := (Wt.refl hrow).cell 0 (.int .i64 (D.steps + 1))
    have er : (rowD D).setIfInBounds 0 (.int .i64 (D.steps + 1)) = rowD (stepd D) := by simp [rowD, stepd, ha]
    rw [er] at hw
    have hdo1 := hdo _ hw
    clear hw er hrow hl ha hg hdo
    generalize D.steps = st at *
    go_enter Try.func53, Try.ntmps53
    go_wp2_with fail
    refine hdo1.mono ?_
    rintro e w2 ⟨rfl, hR⟩
    clear hdo1 c0 c1 c2 c3 f0 f1
    go_wp2
    go_ret
    exact ⟨rfl, hR⟩
def goned (D : Dsk) : Dsk := { D with gone := true }
theorem step_no {w : World} {b : Nat} {D : Dsk} (fv : Value) (hrow : w.heap[b]? = some (.cells (rowD D) 64 (0, 0))) (hg : D.gone = true ∨ (D.armed = true ∧ D.left = 0)) :
    Calls Try.prog 53 #[pD b, fv] w fun e w' => e = .returned (eN_ 4) ∧ Wt w w' b (rowD (goned D)) 64 := by
  have c1 : w.cell? ⟨b, 1, none⟩ = some (.int .i64 D.left) := cell_row hrow 1
  have c2 : w.cell? ⟨b, 2, none⟩ = some (.bool D.armed) := cell_row hrow 2
  have c3 : w.cell? ⟨b, 3, none⟩ = some (.bool D.gone) := cell_row hrow 3
  have f3 := froz_row hrow 3
  have er : (rowD D).setIfInBounds 3 (.bool true) = rowD (goned D) := by simp [rowD, goned]
  have hw := (Wt.refl hrow).cell 3 (.bool true)
  rw [er] at hw
  by_cases h : D.armed = true ∧ D.left = 0
  · rw [h.1] at c2; rw [h.2] at c1
    clear hrow hg h er
    generalize rowD (goned D) = X at *
    go_enter Try.func53, Try.ntmps53
    go_wp2
    go_ret
    exact ⟨rfl, hw⟩
  · have hg : D.gone = true := by rcases hg with h1 | h1; exact h1; exact absurd h1 h
    have hw : Wt w w b (rowD (goned D)) 64 := by
      have : rowD (goned D) = rowD D := by simp [rowD, goned, hg]
      rw [this]; exact Wt.refl hrow
    rw [hg] at c3
    cases ha : D.armed with
    | true =>
      have hl : (D.left == 0) = false := by
        cases he : D.left == 0 with
        | false => rfl
        | true => exact absurd ⟨ha, by simpa using he⟩ h
      rw [ha] at c2
      clear hrow hg h er ha
      generalize rowD (goned D) = X at *
      generalize D.left = lf at *
      go_enter Try.func53, Try.ntmps53
      go_wp2
      go_ret
      exact ⟨rfl, hw⟩
    | false =>
      rw [ha] at c2
      clear hrow hg h er ha
      generalize rowD (goned D) = X at *
      go_enter Try.func53, Try.ntmps53
      go_wp2
      go_ret
      exact ⟨rfl, hw⟩
end Go.Proofs.Ytcmgpllnficmdaa

namespace Go.Proofs.Ytcmgpllnficmdaa
open Go.RowKit Go.Maps

theorem ne_rows {w : World} {i j : Nat} {c c' : Array Value} {t t' : TypeId} {r r' : Nat × Nat} (h : w.heap[i]? = some (.cells c t r)) (h' : w.heap[j]? = some (.cells c' t' r')) (ht : t ≠ t') : i ≠ j := by
  rintro rfl
  rw [h] at h'
  cases h'
  exact ht rfl
theorem ne_map {w : World} {i j : Nat} {c : Array Value} {t k : TypeId} {r : Nat × Nat} {n : Nat} {R : Value → Option (DataW Unit × List MemPlace)} {D : DataW Unit} (h : w.heap[i]? = some (.cells c t r)) (h' : w.ownsMap Try.prog k R j n D) : j ≠ i := by
  rintro rfl
  obtain ⟨es, cl, hb, _⟩ := h'
  rw [h] at hb
  cases hb
theorem own_cells {w : World} {base n k : Nat} {v : Value} {xs : List Value} (h : w.ownsRow base 5 1 v n xs) (hk : v.ownBlock = some k) : ∃ cur, w.heap[k]? = some (.cells cur 5 (0, 0)) := by
  rcases h.2 with ⟨rfl, _⟩ | ⟨g, cap, cur, rfl, _, h3, _⟩
  · cases hk
  · cases hk; exact ⟨cur, h3⟩

variable {w w' : World} {base b : Nat} {D : Dsk}

theorem DkAt.nd (h : DkAt w base b D) : D.fs.Pairwise fun p q => p.1 ≠ q.1 := by
  obtain ⟨es, he, hp, _⟩ := h.map.entries law9
  have e : es = D.fs.map encE := by unfold dm at he; cases he; rfl
  subst e
  rw [List.pairwise_map] at hp
  exact hp.imp fun {p q} hne e => hne (by simp [encE, e])
theorem DkAt.bm_b (h : DkAt w base b D) : D.bm ≠ b := ne_map h.row h.map
theorem DkAt.bm_f (h : DkAt w base b D) {p : Fn} (hp : p ∈ D.fs) : D.bm ≠ p.2 := ne_map (h.fil p hp).row h.map
theorem DkAt.bm_o (h : DkAt w base b D) {p : Fn} (hp : p ∈ D.fs) {k : Nat} (hk : (D.ct p.2).v.ownBlock = some k) : D.bm ≠ k := by
  obtain ⟨cur, hc⟩ := own_cells (h.fil p hp).dat hk
  exact ne_map hc h.map
theorem DkAt.b_f (h : DkAt w base b D) {p : Fn} (hp : p ∈ D.fs) : b ≠ p.2 := ne_rows h.row (h.fil p hp).row (by decide)
theorem DkAt.b_o (h : DkAt w base b D) {p : Fn} (hp : p ∈ D.fs) {k : Nat} (hk : (D.ct p.2).v.ownBlock = some k) : b ≠ k := by
  obtain ⟨cur, hc⟩ := own_cells (h.fil p hp).dat hk
  exact ne_rows h.row hc (by decide)
theorem DkAt.f_o (h : DkAt w base b D) {p p' : Fn} (hp : p ∈ D.fs) (hp' : p' ∈ D.fs) {k : Nat} (hk : (D.ct p.2).v.ownBlock = some k) : p'.2 ≠ k := by
  obtain ⟨cur, hc⟩ := own_cells (h.fil p hp).dat hk
  exact ne_rows (h.fil p' hp').row hc (by decide)

/-- The row alone is turned. -/
theorem DkAt.turn (h : DkAt w base b D) {D' : Dsk} (hw : Wt w w' b (rowD D') 64) (e1 : D'.bm = D.bm) (e2 : D'.fs = D.fs) (e3 : D'.ct = D.ct) (e4 : D'.used = D.used) (e5 : D'.quota = D.quota) (st : 0 ≤ D'.steps) (lf : D'.armed = true → 0 ≤ D'.left ∧ D'.left < 9223372036854775808) : DkAt w' base b D' := by
  refine ⟨hw.row, h.gb, ?_, by rw [e1]; exact h.gm, ?_, ?_, ?_, ?_, ?_, st, lf⟩
  · rw [e1, e2]; exact owns_fr h.map hw.fr h.bm_b
  · rw [e2, e3]
    exact fun p hp => (h.fil p hp).fr hw.fr (fun e => h.b_f hp e.symm) fun k hk e => h.b_o hp hk e.symm
  · rw [e2]; exact h.inj
  · rw [e2, e3]; exact h.sep
  · rw [e2, e3, e4]; exact h.usd
  · rw [e4, e5]; exact h.qt

def updC (ct : Nat → Fc) (q : Nat) (c : Fc) : Nat → Fc := fun k => if k = q then c else ct k
theorem updC_s (ct : Nat → Fc) (q : Nat) (c : Fc) : updC ct q c q = c := by simp [updC]
theorem updC_o (ct : Nat → Fc) {q k : Nat} (c : Fc) (h : k ≠ q) : updC ct q c k = ct k := by simp [updC, h]
theorem lens_perm {l l' : List Fn} (ct : Nat → Fc) (h : l.Perm l') : lens l ct = lens l' ct := by
  induction h with
  | nil => rfl
  | cons p _ ih => unfold lens at *; simp only [List.map_cons, List.sum_cons]; omega
  | swap p q l => unfold lens; simp only [List.map_cons, List.sum_cons]; omega
  | trans _ _ h1 h2 => exact h1.trans h2
theorem lens_cons (p : Fn) (l : List Fn) (ct : Nat → Fc) : lens (p :: l) ct = (ct p.2).dat.length + lens l ct := by simp [lens]
theorem lens_congr {l : List Fn} {ct ct' : Nat → Fc} (h : ∀ p ∈ l, (ct p.2).dat.length = (ct' p.2).dat.length) : lens l ct = lens l ct' := by
  unfold lens
  rw [List.map_congr_left fun p hp => by rw [h p hp]]
theorem lens_upd : ∀ (l : List Fn) (ct : Nat → Fc) (p : Fn) (c : Fc), l.Nodup → p ∈ l → (∀ x ∈ l, ∀ y ∈ l, x.2 = y.2 → x = y) → lens l (updC ct p.2 c) = lens l ct + c.dat.length - (ct p.2).dat.length
  | [], _, _, _, _, hp, _ => by cases hp
  | x :: l, ct, p, c, hn, hp, hi => by
    obtain ⟨hx, hn⟩ := List.nodup_cons.1 hn
    rw [lens_cons, lens_cons]
    by_cases e : p = x
    · subst e
      have : lens l (updC ct p.2 c) = lens l ct := lens_congr fun y hy => by
        rw [updC_o]
        intro e
        exact hx (hi y (by simp [hy]) p (by simp) e ▸ hy)
      rw [this, updC_s]; omega
    · have hp' : p ∈ l := by rcases List.mem_cons.1 hp with h | h; exact absurd h e; exact h
      rw [lens_upd l ct p c hn hp' fun y hy z hz => hi y (by simp [hy]) z (by simp [hz]), updC_o]
      · omega
      · intro e'; exact e (hi p hp x (by simp) e'.symm)
theorem DkAt.nodup (h : DkAt w base b D) : D.fs.Nodup := h.nd.imp fun {p q} hne e => hne (by rw [e])

/-- The row and one file are turned. -/
theorem DkAt.file (h : DkAt w base b D) {p : Fn} (hp : p ∈ D.fs) {c : Fc} {D' : Dsk} (hf : Fr (fun k => k = b ∨ k = p.2 ∨ (D.ct p.2).v.ownBlock = some k) w w') (hrow : w'.heap[b]? = some (.cells (rowD D') 64 (0, 0))) (hfl : FlAt w' base p.2 c)
    (hv : c.v.ownBlock = (D.ct p.2).v.ownBlock ∨ ∀ k, c.v.ownBlock = some k → w.heap.size ≤ k) (e1 : D'.bm = D.bm) (e2 : D'.fs = D.fs) (e3 : D'.ct = updC D.ct p.2 c) (e4 : D'.used = D.used + c.dat.length - (D.ct p.2).dat.length) (e5 : D'.quota = D.quota) (hq : D'.used ≤ D'.quota) (st : 0 ≤ D'.steps) (lf : D'.armed = true → 0 ≤ D'.left ∧ D'.left < 9223372036854775808) : DkAt w' base b D' := by
  have hother : ∀ p' ∈ D.fs, p' ≠ p → p'.2 ≠ p.2 := fun p' hp' hne e => hne (h.inj p' hp' p hp e)
  refine ⟨hrow, h.gb, ?_, by rw [e1]; exact h.gm, ?_, ?_, ?_, ?_, ?_, st, lf⟩
  · rw [e1, e2]
    refine owns_fr h.map hf ?_
    rintro (e | e | e)
    · exact h.bm_b e
    · exact h.bm_f hp e
    · exact h.bm_o hp e rfl
  · rw [e2, e3]
    intro p' hp'
    by_cases e : p' = p
    · subst e; rw [updC_s]; exact hfl
    · rw [updC_o _ _ (hother p' hp' e)]
      refine (h.fil p' hp').fr hf ?_ ?_
      · rintro (x | x | x)
        · exact h.b_f hp' x.symm
        · exact hother p' hp' e x
        · exact h.f_o hp hp' x rfl
      · rintro k hk (x | x | x)
        · exact h.b_o hp' hk x.symm
        · exact h.f_o hp' hp hk x.symm
        · exact e (h.sep p' hp' p hp k hk x)
  · rw [e2]; exact h.inj
  · rw [e2, e3]
    have key : ∀ x ∈ D.fs, ∀ k, (updC D.ct p.2 c x.2).v.ownBlock = some k → x ≠ p → (D.ct x.2).v.ownBlock = some k := fun x hx k hk hne => by rwa [updC_o _ _ (hother x hx hne)] at hk
    have key2 : ∀ x ∈ D.fs, ∀ k, (updC D.ct p.2 c p.2).v.ownBlock = some k → (D.ct x.2).v.ownBlock = some k → x = p := fun x hx k hk hk' => by
      rw [updC_s] at hk
      rcases hv with hv | hv
      · rw [hv] at hk; exact h.sep x hx p hp k hk' hk
      · have h1 := hv k hk
        have h2 := ((h.fil x hx).dat.lt k hk').2
        omega
    intro x hx y hy k hk hk'
    by_cases ex : x = p <;> by_cases ey : y = p
    · rw [ex, ey]
    · subst ex; exact (key2 y hy k hk (key y hy k hk' ey)).symm
    · subst ey; exact key2 x hx k hk' (key x hx k hk ex)
    · exact h.sep x hx y hy k (key x hx k hk ex) (key y hy k hk' ey)
  · rw [e2, e3, e4, h.usd, lens_upd _ _ _ _ h.nodup hp h.inj]
  · rw [e5] at hq ⊢
    exact ⟨hq, h.qt.2⟩

theorem sync_do {w : World} {q n len cap : Nat} {ad : Option Addr} {su : Value} (hbox : w.cell? ⟨n, 0, none⟩ = some (pD q)) (hrow : w.heap[q]? = some (.cells #[.slice ad len cap, su] 90 (0, 0))) :
    Calls Try.prog 56 #[pD n] w fun e w' => e = .returned (.tuple #[]) ∧ Wt w w' q #[.slice ad len cap, .int .i64 (len : Int)] 90 := by
  have c0 : w.cell? ⟨q, 0, none⟩ = some (.slice ad len cap) := cell_row hrow 0
  have c1 : w.cell? ⟨q, 1, none⟩ = some su := cell_row hrow 1
  have f1 := froz_row hrow 1
  have hw := ((Wt.refl hrow).cell 1 (.int .i64 (len : Int)))
  have e : (#[.slice ad len cap, su] : Array Value).setIfInBounds 1 (.int .i64 (len : Int)) = #[.slice ad len cap, .int .i64 (len : Int)] := by simp
  rw [e] at hw
  clear hrow e
  go_enter Try.func56, Try.ntmps56
  go_region
  all_goals (go_end0; exact ⟨rfl, hw.drew⟩)
end Go.Proofs.Ytcmgpllnficmdaa

namespace Go.Proofs.Ytcmgpllnficmdaa
open Go.RowKit Go.Maps

variable {w w' : World} {base b : Nat} {D : Dsk}
/-- May a step be done? -/
def canD (D : Dsk) : Prop := D.gone = false ∧ (D.armed = true → 0 < D.left)
theorem can_or (D : Dsk) (h : D.armed = true → 0 ≤ D.left) : canD D ∨ (D.gone = true ∨ (D.armed = true ∧ D.left = 0)) := by
  unfold canD
  cases hg : D.gone with
  | true => exact .inr (.inl rfl)
  | false =>
    by_cases h0 : D.armed = true ∧ D.left = 0
    · exact .inr (.inr h0)
    · exact .inl ⟨rfl, fun ha => by have := h ha; have : D.left ≠ 0 := fun e => h0 ⟨ha, e⟩; omega⟩
theorem wt_below {w w' w2 : World} {g : Nat} {c : Array Value} {t : TypeId} (h : Below w.heap.size w w') (k : Wt w' w2 g c t) : Fr (· = g) w w2 :=
  (fr_b h (· = g)).trans k.fr fun _ _ h => h
theorem flat_form {c : Fc} {w : World} {base : Nat} (h : w.ownsRow base 5 1 c.v c.dat.length (byteVals c.dat)) : ∃ ad cap, c.v = .slice ad c.dat.length cap ∧ c.dat.length ≤ maxLen := by
  rcases h.2 with ⟨e, hn⟩ | ⟨g, cap, cur, e, _, _, h4, h5, _⟩
  · exact ⟨none, 0, by rw [e, hn], by omega⟩
  · exact ⟨_, cap, e, by omega⟩

/-- No step: the power is off. -/
theorem no_step (h : DkAt w base b D) {w1 w2 : World} (h1 : Below w.heap.size w w1) (hw : Wt w1 w2 b (rowD (goned D)) 64) : DkAt w2 base b (goned D) ∧ Fr (fp b D) w w2 :=
  ⟨(h.later h1).turn hw rfl rfl rfl rfl rfl h.st h.lf, (wt_below h1 hw).mono fun _ _ e => .inl e⟩

def syncd (D : Dsk) (q : Nat) : Dsk := { stepd D with ct := updC D.ct q { D.ct q with sure := (D.ct q).dat.length } }

theorem sync_ok (h : DkAt w base b D) {s : ByteArray} (hs : s.size ≤ maxLen) {p : Fn} (hp : findF s.data.toList D.fs = some p) (hc : canD D) (hst : D.steps < 1000000000) :
    Calls Try.prog 26 #[pD b, .string s] w fun e w' => e = .returned .nilIface ∧ DkAt w' base b (syncd D p.2) ∧ Fr (fp b D) w w' := by
  have hm := (find_mem hp).1
  obtain ⟨ad, cap, hv, hlen⟩ := flat_form (h.fil p hm).dat
  have hfin : ∀ w1, Wt (w.alloc (.cells #[pD p.2] 80)) w1 b (rowD (stepd D)) 64 → Calls Try.prog 56 #[pD w.heap.size] w1 fun e w' => e = .returned (.tuple #[]) ∧ (DkAt w' base b (syncd D p.2) ∧ Fr (fp b D) w w') := by
    intro w1 hw1
    have hb0 : Below w.heap.size w (w.alloc (.cells #[pD p.2] 80)) := (Below.refl _ _).alloc (Nat.le_refl _) _
    have h1 : DkAt w1 base b (stepd D) := (h.later hb0).turn hw1 rfl rfl rfl rfl rfl (by have := h.st; simp only [stepd]; omega) (fun ha => by
      have h2 := h.lf ha
      have h3 := hc.2 ha
      have ha' : D.armed = true := ha
      simp only [stepd, ha', if_true]
      omega)
    have hblt : b < w.heap.size := (Array.getElem?_eq_some_iff.1 h.row).1
    have hbox : w1.cell? ⟨w.heap.size, 0, none⟩ = some (pD p.2) := by
      have e : w1.heap[w.heap.size]? = some (.cells #[pD p.2] 80 (0, 0)) := by
        rw [hw1.block _ (by omega)]; exact (MapKept.heap_alloc w _).1
      exact cell_row e 0
    have hr : w1.heap[p.2]? = some (.cells #[.slice ad (D.ct p.2).dat.length cap, .int .i64 ((D.ct p.2).sure : Int)] 90 (0, 0)) := by
      have := (h1.fil p hm).row
      rw [← hv]; exact this
    refine (sync_do hbox hr).mono ?_
    rintro e w2 ⟨rfl, hw2⟩
    refine ⟨rfl, ?_, ?_⟩
    · have f2 : Fr (fun k => k = b ∨ k = p.2 ∨ ((stepd D).ct p.2).v.ownBlock = some k) w1 w2 := hw2.fr.mono fun _ _ e => .inr (.inl e)
      refine h1.file hm (c := { D.ct p.2 with sure := (D.ct p.2).dat.length }) f2 ?_ ⟨?_, (h1.fil p hm).ge, ?_, (h1.fil p hm).byt, Nat.le_refl _⟩ (.inl rfl) rfl rfl rfl ?_ rfl h1.qt.1 h1.st h1.lf
      · rw [hw2.block b (h1.b_f hm)]; exact hw1.row
      · rw [hw2.row]; simp only [rowF, hv]
      · exact row_fr (h1.fil p hm).dat hw2.fr fun k hk e => h1.f_o hm hm hk e.symm
      · show D.used = D.used + ((D.ct p.2).dat.length : Int) - ((D.ct p.2).dat.length : Int)
        omega
    · refine (wt_below hb0 hw1).mono (T := fp b D) (fun _ _ e => .inl e) |>.trans hw2.fr fun i _ e => ?_
      exact .inr (.inr (.inl ⟨p, hm, e⟩))
  have hrow : (w.alloc (.cells #[pD p.2] 80)).heap[b]? = some (.cells (rowD D) 64 (0, 0)) := by
    have hblt : b < w.heap.size := (Array.getElem?_eq_some_iff.1 h.row).1
    rw [Below.heap_alloc _ _ _ hblt]; exact h.row
  have hstep := step_ok 56 #[pD w.heap.size] hrow hc.1 (fun ha => ⟨hc.2 ha, (h.lf ha).2⟩) ⟨h.st, hst⟩ (fun w => by kernel_rfl) hfin
  clear hrow hfin hv hlen
  go_enter Try.func26, Try.ntmps26
  go_wp2_with fail
  refine (find_s h hs hp).mono ?_
  rintro e w1 ⟨rfl, rfl⟩
  go_wp2_with fail
  refine hstep.mono ?_
  rintro e w2 ⟨rfl, hR⟩
  clear hstep
  go_wp2
  go_ret
  exact ⟨rfl, hR⟩
end Go.Proofs.Ytcmgpllnficmdaa

namespace Go.Proofs.Ytcmgpllnficmdaa
open Go.RowKit Go.Maps

def sgn (c : Int) : Bool := (((decide (97 ≤ c) && decide (c ≤ 122)) || (decide (48 ≤ c) && decide (c ≤ 57))) || c == 46) || c == 45
theorem ret_b {x y : Bool} (h : x = y) : Ending.returned (.bool x) = .returned (.bool y) := by rw [h]

theorem sign_d (c : Int) (w : World) : Calls Try.prog 70 #[.int .u8 c] w fun e w' => e = .returned (.bool (sgn c)) ∧ w' = w := by
  go_enter Try.func70, Try.ntmps70
  go_wp2
  all_goals go_ret
  all_goals refine ⟨ret_b ?_, rfl⟩
  all_goals (unfold sgn; first | (simp_all; done) | (simp_all; omega) | grind)

def isName (nm : List UInt8) : Bool := !nm.isEmpty && (decide (nm.length ≤ 64) && nm.all fun c => sgn (c.toNat : Int))
theorem byte_at {s : ByteArray} {k : Nat} (h : k < s.size) : ∃ h', s[k] = s.data.toList[k]'h' := ⟨by simpa using h, by simp [ByteArray.getElem_eq_getElem_data]⟩
theorem all_bad {s : ByteArray} {k : Nat} (h : k < s.size) (hb : sgn (s[k].toNat : Int) = false) : (s.data.toList.all fun c => sgn (c.toNat : Int)) = false := by
  obtain ⟨h', e⟩ := byte_at h
  rw [e] at hb
  cases hx : s.data.toList.all fun c => sgn (c.toNat : Int) with
  | false => rfl
  | true =>
    have := List.all_eq_true.1 hx _ (List.getElem_mem h')
    rw [hb] at this; cases this
theorem all_good {s : ByteArray} (h : ∀ k (hk : k < s.size), sgn (s[k].toNat : Int) = true) : (s.data.toList.all fun c => sgn (c.toNat : Int)) = true := by
  rw [List.all_eq_true]
  intro c hc
  obtain ⟨k, hk, rfl⟩ := List.mem_iff_getElem.1 hc
  have hk' : k < s.size := by simpa using hk
  obtain ⟨h', e⟩ := byte_at hk'
  rw [← e]; exact h k hk'
theorem named_d (s : ByteArray) (w : World) : Calls Try.prog 52 #[.string s] w fun e w' => e = .returned (.bool (isName s.data.toList)) ∧ w' = w := by
  by_cases h0 : s.data.toList = []
  · have h1 : (s.toList == []) = true := by rw [ByteArray.toList_eq, h0]; rfl
    rw [h0]
    go_enter Try.func52, Try.ntmps52
    go_wp2
    go_ret
    exact ⟨rfl, rfl⟩
  · have h1 : (s.toList == []) = false := by rw [ByteArray.toList_eq]; simpa using h0
    have hne : s.data.toList.isEmpty = false := by cases h : s.data.toList with | nil => exact absurd h h0 | cons _ _ => rfl
    have hsz : s.data.toList.length = s.size := by simp
    by_cases h2 : s.size ≤ 64
    · have e : isName s.data.toList = s.data.toList.all fun c => sgn (c.toNat : Int) := by simp only [isName, hne, hsz, h2]; rfl
      rw [e]
      clear h0 hne hsz e
      go_enter Try.func52, Try.ntmps52
      go_wp2
      go_loop [13] (fun i => ∃ k : Nat, k ≤ s.size ∧ (∀ j (hj : j < s.size), j < k → sgn (s[j].toNat : Int) = true) ∧ i = .int .i64 k) (fun i => s.size - (intOf i).toNat)
      case atStart => exact ⟨0, by omega, fun j _ h => by omega, rfl⟩
      case round =>
        obtain ⟨k, hk, hall, rfl⟩ := hrel
        by_cases hlt : k < s.size
        · go_wp2_with fail
          refine (sign_d _ _).mono ?_
          rintro e w1 ⟨rfl, rfl⟩
          cases hb : sgn (s[k].toNat : Int) with
          | false =>
            have := all_bad hlt hb
            clear hall
            go_wp2
            try rw [this]
            go_ret
            exact ⟨rfl, rfl⟩
          | true =>
            have hall' : ∀ j (hj : j < s.size), j < k + 1 → sgn (s[j].toNat : Int) = true := fun j hj h => by
              by_cases e : j = k
              · subst e; exact hb
              · exact hall j hj (by omega)
            clear hall
            go_wp2
            exact ⟨⟨k + 1, by omega, hall', by go_num⟩, by simp [intOf]; omega⟩
        · have := all_good fun j hj => hall j hj (by omega)
          clear hall
          go_wp2
          try rw [this]
          go_ret
          exact ⟨rfl, rfl⟩
    · have e : isName s.data.toList = false := by simp only [isName, hsz, h2]; simp
      have h2 : 64 < s.size := by omega
      rw [e]
      clear h0 hne hsz e
      go_enter Try.func52, Try.ntmps52
      go_wp2
      go_ret
      exact ⟨rfl, rfl⟩
end Go.Proofs.Ytcmgpllnficmdaa

namespace Go.Proofs.Ytcmgpllnficmdaa
open Go.RowKit Go.Maps

theorem info5 : (Try.prog.info? 5).map (fun i => (i.zero, i.size, i.bytes)) = some (some (.int .u8 0), 1, 1) := by kernel_rfl

/-- Where the shelf's contract of internal/stringslite.Clone lies in this program. -/
def cloneRen : Go.Shelf.Ren := ⟨fun | 316 => 75 | n => n, fun | 37 => 35 | 127 => 122 | n => n, fun n => n⟩
theorem cloneLays : LaysM.n316 Try.prog cloneRen where
  mixed := by kernel_rfl
  f316 := Try.func75.trans (congrArg some (by kernel_rfl))
  t0 := Try.underlying0
  a0 := Try.isAgg0
  z0 := Try.sizeOf0
  v0 := Try.zeroValue0
  t3 := Try.underlying3
  a3 := Try.isAgg3
  z3 := Try.sizeOf3
  v3 := Try.zeroValue3
  t4 := Try.underlying4
  a4 := Try.isAgg4
  z4 := Try.sizeOf4
  v4 := Try.zeroValue4
  t9 := Try.underlying9
  a9 := Try.isAgg9
  z9 := Try.sizeOf9
  v9 := Try.zeroValue9
  t37 := Try.underlying35
  a37 := Try.isAgg35
  z37 := Try.sizeOf35
  v37 := Try.zeroValue35
  t127 := Try.underlying122
  a127 := Try.isAgg122
  z127 := Try.sizeOf122
  v127 := Try.zeroValue122
  t5 := Try.underlying5
  a5 := Try.isAgg5
  z5 := Try.sizeOf5
  v5 := Try.zeroValue5
  i0 := by kernel_rfl
  i3 := by kernel_rfl
  i4 := by kernel_rfl
  i5 := by kernel_rfl
  i9 := by kernel_rfl
  i37 := by kernel_rfl
  i127 := by kernel_rfl
theorem cloneS_d (s : ByteArray) (hs : s.size ≤ 1000000) (w : World) : Calls Try.prog 75 #[.string s] w fun e w' => e = .returned (.string s) ∧ Below w.heap.size w w' :=
  Any.stringslite_Clone cloneLays s w (by omega)
theorem clone_d (s : ByteArray) (hs : s.size ≤ 1000000) (w : World) : Calls Try.prog 71 #[.string s] w fun e w' => e = .returned (.string s) ∧ Below w.heap.size w w' := by
  go_enter Try.func71, Try.ntmps71
  go_wp2_with fail
  refine (cloneS_d s hs w).mono ?_
  rintro e w1 ⟨rfl, hb⟩
  go_wp2
  go_ret
  exact ⟨rfl, hb⟩
end Go.Proofs.Ytcmgpllnficmdaa

namespace Go.Proofs.Ytcmgpllnficmdaa
open Go.RowKit Go.Maps

theorem insF_len (x : Fn) : ∀ l : List Fn, (insF x l).length = l.length + 1 := fun l => by rw [(insF_perm x l).length_eq]; rfl
theorem owns_below {w w' : World} {b n : Nat} {D : DataW Unit} {R : Value → Option (DataW Unit × List MemPlace)} {k : TypeId} (h : w.ownsMap Try.prog k R b n D) (f : Below w.heap.size w w') : w'.ownsMap Try.prog k R b n D :=
  owns_fr h (fr_b f fun _ => False) id
/-- The bound of a map is how many entries it has. -/
theorem owns_len {w : World} {b n : Nat} {fs : List Fn} (h : w.ownsMap Try.prog 9 fElem b n (dm fs)) : w.ownsMap Try.prog 9 fElem b fs.length (dm fs) := by
  obtain ⟨es, cl, h1, h2, h3, h4⟩ := h
  refine ⟨es, cl, h1, h2, ?_, h4⟩
  unfold dm at h4
  have h5 := congrArg (fun d : DataW Unit => match d with | .map l => l.length | _ => 0) h4
  simp only [List.length_map] at h5
  rw [h5, length_sorted]; simp

theorem upd_d {w : World} {bm n : Nat} {fs : List Fn} (hown : w.ownsMap Try.prog 9 fElem bm n (dm fs)) (hn : n < maxLen) {s : ByteArray} (hs : s.size ≤ 1000000) (q : Nat) :
    ∃ w2, (Instr.mapUpdate 60 (.map (some bm)) (.string s) (.pointer (some ⟨q, 0, none⟩))).run Try.prog w = .ok () w2 ∧ w2.ownsMap Try.prog 9 fElem bm (putF s.data.toList q fs).length (dm (putF s.data.toList q fs)) ∧ Fr (· = bm) w w2 := by
  obtain ⟨w2, h1, h2, h3⟩ := hown.update (key := .string s) (val := pD q) (kl := .string s.data.toList) (d := .lit (.int .i64 (q : Int))) (ps := []) law9 Try.underlying60 hn (key9 (by unfold maxLen; omega)) rfl
  rw [put_dm] at h2
  exact ⟨w2, h1, owns_len h2, fr_grown h3 _ fun i e => by cases e; rfl⟩

theorem call_d {w : World} {b bm q : Nat} {n : Nat} {fs : List Fn} (c6 : w.cell? ⟨b, 6, none⟩ = some (.map (some bm))) (hb : b < w.heap.size) (hown : w.ownsMap Try.prog 9 fElem bm n (dm fs)) (hn : n < maxLen) {s : ByteArray} (hs : s.size ≤ 1000000) :
    Calls Try.prog 55 #[pD b, pD q, .string s] w fun e w' => e = .returned (.tuple #[]) ∧ w'.ownsMap Try.prog 9 fElem bm (putF s.data.toList q fs).length (dm (putF s.data.toList q fs)) ∧ Fr (· = bm) w w' := by
  go_enter Try.func55, Try.ntmps55
  go_region_with (go_at_call 71; refine (clone_d s hs _).mono ?_; rintro e w1 ⟨rfl, hb1⟩; have c7 : w1.cell? ⟨b, 6, none⟩ = some (.map (some bm)) := (World.cell?_of_block (hb1.block b (by simpa using hb))).trans c6; obtain ⟨w2, hmu, hown2, hg2⟩ := upd_d (owns_below (World.ownsMap.drew hown) hb1) hn hs q)
  all_goals (go_end0; exact ⟨rfl, hown2, (fr_b (w := w) ⟨hb1.os, hb1.tape, hb1.output, hb1.size, hb1.block⟩ _).trans hg2 fun _ _ h => h⟩)
end Go.Proofs.Ytcmgpllnficmdaa

namespace Go.Proofs.Ytcmgpllnficmdaa
open Go.RowKit Go.Maps

/-- A slice of bytes that reads so: its elements alone. -/
def Bs (w : World) (a : Option Addr) (len : Nat) (zs : List Int) : Prop :=
  zs.length = len ∧ (∀ z ∈ zs, 0 ≤ z ∧ z < 256) ∧ (0 < len → ∃ b off, a = some ⟨b, off, none⟩ ∧ ∀ i, i < len → w.cell? ⟨b, off + i, none⟩ = some (.int .u8 (zs.getD i 0)))
theorem cell_lt {w : World} {p : Addr} {v : Value} (h : w.cell? p = some v) : p.block < w.heap.size := by
  unfold World.cell? at h
  rcases Nat.lt_or_ge p.block w.heap.size with h1 | h1
  · exact h1
  · rw [Array.getElem?_eq_none h1] at h; cases h
theorem cell_fr {S : Nat → Prop} {w w' : World} {p : Addr} {v : Value} (f : Fr S w w') (hn : ¬ S p.block) (h : w.cell? p = some v) : w'.cell? p = some v := (World.cell?_of_block (f.block p.block (cell_lt h) hn)).trans h
theorem cell_later {w w' : World} {p : Addr} {v : Value} (hb : Below w.heap.size w w') (h : w.cell? p = some v) : w'.cell? p = some v := (hb.cell (cell_lt h)).trans h
/-- .. and lies in none of these blocks. -/
theorem Bs.fr {S : Nat → Prop} {w w' : World} {a : Option Addr} {len : Nat} {zs : List Int} (h : Bs w a len zs) (f : Fr S w w') (hn : ∀ x, a = some x → 0 < len → ¬ S x.block) : Bs w' a len zs := by
  obtain ⟨h1, h2, h3⟩ := h
  refine ⟨h1, h2, fun hp => ?_⟩
  obtain ⟨b, off, e, hc⟩ := h3 hp
  exact ⟨b, off, e, fun i hi => cell_fr f (by exact hn ⟨b, off, none⟩ e hp) (hc i hi)⟩
theorem Bs.later {w w' : World} {a : Option Addr} {len : Nat} {zs : List Int} (h : Bs w a len zs) (hb : Below w.heap.size w w') : Bs w' a len zs := h.fr (fr_b hb fun _ => False) fun _ _ _ => id
theorem bs_new (w : World) (zs : List Int) (fr : Nat × Nat) (hz : ∀ z ∈ zs, 0 ≤ z ∧ z < 256) : Bs (w.alloc (.cells (zs.map (Value.int .u8)).toArray 5 fr)) (some ⟨w.heap.size, 0, none⟩) zs.length zs := by
  refine ⟨rfl, hz, fun _ => ⟨_, _, rfl, fun i hi => ?_⟩⟩
  rw [World.cell?_alloc_mark]
  simp [hi]

theorem conv_bs {w : World} {a : Option Addr} {len : Nat} {zs : List Int} (h : Bs w a len zs) (cap : Nat) :
    (convert 35 9 (.slice a len cap)).run Try.prog w = .ok (.string (strOfNums zs)) w := by
  obtain ⟨h1, h2, h3⟩ := h
  rcases Nat.eq_zero_or_pos len with rfl | hp
  · obtain rfl : zs = [] := List.length_eq_zero_iff.1 h1
    cases a with
    | none => exact run_convert_bytes_nil w 35 5 Try.underlying35 Try.underlying5 0 cap 9 Try.underlying9
    | some x =>
      rw [run_convert_bytes_string w 35 9 5 _ 0 cap Try.underlying35 Try.underlying5 Try.underlying9, run_bytesToString w x 0 cap [] (run_loadCells_list (P := Try.prog) w x [] (fun j v hj => by simp at hj))]
      rfl
  · obtain ⟨b, off, rfl, hc⟩ := h3 hp
    exact run_convert_bytes_arg w 35 5 Try.underlying35 Try.underlying5 b off len cap zs h1 hc 9 Try.underlying9

theorem strOfNums_inj {x y : List Int} (hx : ∀ z ∈ x, 0 ≤ z ∧ z < 256) (hy : ∀ z ∈ y, 0 ≤ z ∧ z < 256) (h : (strOfNums x).toList = (strOfNums y).toList) : x = y := by
  have h1 : x.map (fun n => UInt8.ofNat n.toNat) = y.map (fun n => UInt8.ofNat n.toNat) := by
    rw [← strOfNums_data, ← strOfNums_data, ← ByteArray.toList_eq, ← ByteArray.toList_eq, h]
  have h2 : ∀ l : List Int, (∀ z ∈ l, 0 ≤ z ∧ z < 256) → (l.map (fun n => UInt8.ofNat n.toNat)).map (fun u => ((u.toNat : Nat) : Int)) = l := by
    intro l hl
    rw [List.map_map]
    conv => rhs; rw [← List.map_id l]
    apply List.map_congr_left
    intro z hz
    have := hl z hz
    simp
    omega
  rw [← h2 x hx, ← h2 y hy, h1]

theorem str_beq {x y : List Int} (hx : ∀ z ∈ x, 0 ≤ z ∧ z < 256) (hy : ∀ z ∈ y, 0 ≤ z ∧ z < 256) : ((strOfNums x).toList == (strOfNums y).toList) = decide (x = y) := by
  by_cases h : x = y
  · subst h; simp
  · rw [decide_eq_false h]
    exact beq_eq_false_iff_ne.2 (fun e => h (strOfNums_inj hx hy e))

/-- An owned row of bytes reads as a slice. -/
theorem bs_owned {w : World} {base : Nat} {v : Value} {n : Nat} {zs : List Int} (h : w.ownsRow base 5 1 v n (byteVals zs)) (hz : ∀ z ∈ zs, 0 ≤ z ∧ z < 256) :
    ∃ a cap, v = .slice a n cap ∧ Bs w a n zs ∧ n ≤ cap ∧ n ≤ maxLen := by
  have hl : zs.length = n := by have := h.1; simpa [byteVals] using this
  rcases h.2 with ⟨rfl, rfl⟩ | ⟨g, cap, cur, rfl, hb, hg, hnc, hcm, hcs, ht⟩
  · exact ⟨none, 0, rfl, ⟨hl, hz, fun h => absurd h (by omega)⟩, Nat.le_refl _, Nat.zero_le _⟩
  · refine ⟨_, cap, rfl, ⟨hl, hz, fun _ => ⟨g, 0, rfl, fun i hi => ?_⟩⟩, hnc, by omega⟩
    have := h.cellAt i (by omega)
    rw [Nat.zero_add, this]
    simp [byteVals, show i < zs.length by omega]

/-- Bytes are put behind a row of the call's own. -/
theorem run_append_bs (w : World) (base ty : Nat) (v : Value) (n : Nat) (xs : List Value) (hown : w.ownsRow base 5 1 v n xs) (a : Option Addr) (m c : Nat) (zs : List Int) (hb : Bs w a m zs)
    (hbytes : n + m ≤ 140737488355328) (hbase : base ≤ w.heap.size) :
    ∃ v' w', (Builtin.append_ #[35, 35] ty #[v, .slice a m c]).run Try.prog w = .ok v' w' ∧ w'.ownsRow base 5 1 v' (n + m) (xs ++ byteVals zs) ∧ w.grownBy w' v.ownBlock ∧ (v'.ownBlock = v.ownBlock ∨ ∀ k, v'.ownBlock = some k → w.heap.size ≤ k) := by
  obtain ⟨i0, hi, hz0, hz1, hz2⟩ := info_parts info5
  obtain ⟨h1, h2, h3⟩ := hb
  cases a with
  | none =>
    obtain rfl : m = 0 := by
      rcases Nat.eq_zero_or_pos m with h | h
      · exact h
      · obtain ⟨_, _, e, _⟩ := h3 h; cases e
    obtain rfl : zs = [] := List.length_eq_zero_iff.1 h1
    refine ⟨v, w, ?_, by simpa [byteVals] using hown, ⟨rfl, rfl, rfl, Nat.le_refl _, fun _ _ _ => rfl⟩, .inl rfl⟩
    rcases hown.2 with ⟨rfl, rfl⟩ | ⟨g, cap, cur, rfl, _, _, hnc, _⟩
    · simp [Builtin.append_, run_underlying Try.underlying35, sizeOf, typeInfo, hi, Builtin.lenOf, Builtin.firstCells]
    · simp [Builtin.append_, run_underlying Try.underlying35, sizeOf, typeInfo, hi, Builtin.lenOf, Builtin.firstCells, hnc, storeCells]
  | some ad =>
    have hnews : ∀ j u, (byteVals zs)[j]? = some u → w.cell? (ad.add j) = some u := by
      intro j u hj
      have hjl : j < zs.length := by
        rcases Nat.lt_or_ge j zs.length with h | h
        · exact h
        · rw [List.getElem?_eq_none (by simpa [byteVals] using h)] at hj; cases hj
      obtain ⟨b, off, e, hc⟩ := h3 (by omega)
      cases e
      have := hc j (by omega)
      rw [Addr.add_lit, this]
      simp [byteVals, hjl] at hj
      simp [hjl, hj]
    obtain ⟨v', w', hr, h4, h5, _, h6⟩ := run_append_own_at (P := Try.prog) w base 35 ty 5 i0 (.int .u8 0) 1 1 Try.underlying35 hi hz0 hz1 hz2 rfl (by decide) v n xs hown ad m c (byteVals zs) (by simp [byteVals, h1]) hnews
      (by intro u hu; simp [byteVals] at hu; obtain ⟨z, _, rfl⟩ := hu; rfl) (by unfold maxLen; omega) (by omega) hbase
    exact ⟨v', w', hr, h4, h5, h6.imp id fun e k hk => by rw [e] at hk; cases hk; exact Nat.le_refl _⟩

theorem wpList_append_bs {w : World} {ops : Array Oper} {rest : List Oper} {o : Oper} {a : Act} {Q : Exit → Act → World → Prop} (hgd : o.guard = none) (s x : Operand)
    (ho : o.op = .call { callee := .builtin .append, args := #[s, x], argTypes := #[35, 35] }) (base : Nat)
    (v : Value) (n : Nat) (xs : List Value) (hs : a.eval s = v) (hown : w.ownsRow base 5 1 v n xs) (ad : Option Addr) (m c : Nat) (zs : List Int) (hx : a.eval x = .slice ad m c) (hb : Bs w ad m zs)
    (hbytes : n + m ≤ 140737488355328) (hbase : base ≤ w.heap.size)
    (h : ∀ v' w', w'.ownsRow base 5 1 v' (n + m) (xs ++ byteVals zs) → w.grownBy w' v.ownBlock → (v'.ownBlock = v.ownBlock ∨ ∀ k, v'.ownBlock = some k → w.heap.size ≤ k) → wpList Try.prog ops Q rest (a.put o.dst v') w') : wpList Try.prog ops Q (o :: rest) a w := by
  refine wpList_plain hgd fun K hK => ?_
  obtain ⟨v', w', hr, h2, h3, h4⟩ := run_append_bs w base o.type v n xs hown ad m c zs hb hbytes hbase
  unfold Oper.wp execOp
  simp only [ho, resolve, invoke, builtin, Sem.run_bind, Sem.run_pure, Result.andThen_ok, List.map_toArray, List.map_cons, List.map_nil, hs, hx, hr]
  exact hK _ _ (h v' w' h2 h3 h4)

/-- .. at a step of a region that draws. -/
theorem step_append_bs {w : World} {ops : Array Oper} {o : Oper} {a : Act} {K : Act → World → Prop} {Q : Exit → Act → World → Prop} {E : Prop} (hgd : o.guard = none) (s x : Operand)
    (ho : o.op = .call { callee := .builtin .append, args := #[s, x], argTypes := #[35, 35] }) (base : Nat)
    (v : Value) (n : Nat) (xs : List Value) (hs : a.eval s = v) (hown : w.ownsRow base 5 1 v n xs) (ad : Option Addr) (m c : Nat) (zs : List Int) (hx : a.eval x = .slice ad m c) (hb : Bs w ad m zs)
    (hbytes : n + m ≤ 140737488355328) (hbase : base ≤ w.heap.size)
    (h : ∀ v' w', w'.ownsRow base 5 1 v' (n + m) (xs ++ byteVals zs) → w.grownBy w' v.ownBlock → (v'.ownBlock = v.ownBlock ∨ ∀ k, v'.ownBlock = some k → w.heap.size ≤ k) → K (a.put o.dst v') w') : if Region.wanted o (yielded ops a.tmps) = true then Oper.wp Try.prog o a w K Q else E := by
  have hw : Region.wanted o (yielded ops a.tmps) = true := by simp [Region.wanted, hgd]
  rw [if_pos hw]
  obtain ⟨v', w', hr, h2, h3, h4⟩ := run_append_bs w base o.type v n xs hown ad m c zs hb hbytes hbase
  unfold Oper.wp execOp
  simp only [ho, resolve, invoke, builtin, Sem.run_bind, Sem.run_pure, Result.andThen_ok, List.map_toArray, List.map_cons, List.map_nil, hs, hx, hr]
  exact h v' w' h2 h3 h4
end Go.Proofs.Ytcmgpllnficmdaa

namespace Go.Proofs.Ytcmgpllnficmdaa
open Go.RowKit Go.Maps

theorem row_form {w : World} {base n : Nat} {v : Value} {xs : List Value} (h : w.ownsRow base 5 1 v n xs) : ∃ ad cap, v = .slice ad n cap := by
  rcases h.2 with ⟨rfl, rfl⟩ | ⟨g, cap, cur, rfl, _⟩
  · exact ⟨none, 0, rfl⟩
  · exact ⟨_, cap, rfl⟩

/-- The bytes are put behind a file's, the file at q; the disk's row tells how many there are. -/
structure App (w w' : World) (base b q : Nat) (D : Dsk) (c : Fc) (zs : List Int) : Prop where
  own : ∃ v', w'.heap[q]? = some (.cells #[v', .int .i64 (c.sure : Int)] 90 (0, 0)) ∧ w'.ownsRow base 5 1 v' (c.dat.length + zs.length) (byteVals c.dat ++ byteVals zs) ∧ (v'.ownBlock = c.v.ownBlock ∨ ∀ k, v'.ownBlock = some k → w.heap.size ≤ k)
  row : w'.heap[b]? = some (.cells (rowD { D with used := D.used + zs.length }) 64 (0, 0))
  fr : Fr (fun k => k = b ∨ k = q ∨ c.v.ownBlock = some k) w w'

theorem App.drew {w w' : World} {base b q : Nat} {D : Dsk} {c : Fc} {zs : List Int} (h : App w w' base b q D c zs) : App w w'.drew base b q D c zs := ⟨h.own, h.row, ⟨h.fr.os, h.fr.tape, h.fr.output, h.fr.size, h.fr.block⟩⟩

theorem app_c1 {w w1 : World} {base q : Nat} {c : Fc} (hf : FlAt w base q c) (hg : w.grownBy w1 c.v.ownBlock) {k : Nat} {x : Array Value} {t : TypeId} (hk : w.heap[k]? = some (.cells x t (0, 0))) (ht : t ≠ 5) : w1.heap[k]? = some (.cells x t (0, 0)) := by
  rw [hg.block k (Array.getElem?_eq_some_iff.1 hk).1]; exact hk
  intro e
  obtain ⟨cur, hc⟩ := own_cells hf.dat e.symm
  exact ne_rows hk hc ht rfl
theorem app_c2 {w w1 : World} {base q : Nat} {c : Fc} (hf : FlAt w base q c) (hg : w.grownBy w1 c.v.ownBlock) (v1 : Value) : Wt w1 (w1.setCell ⟨q, 0, none⟩ v1) q #[v1, .int .i64 (c.sure : Int)] 90 := by
  have h1 := (Wt.refl (app_c1 hf hg hf.row (by decide))).cell 0 v1
  have e : (rowF c).setIfInBounds 0 v1 = #[v1, .int .i64 (c.sure : Int)] := by simp [rowF]
  rw [e] at h1; exact h1
theorem app_c3 {w w1 : World} {base q : Nat} {c : Fc} (hf : FlAt w base q c) (hg : w.grownBy w1 c.v.ownBlock) (v1 : Value) {k : Nat} {x : Array Value} {t : TypeId} (hk : w.heap[k]? = some (.cells x t (0, 0))) (ht : t ≠ 5) (ht' : t ≠ 90) : (w1.setCell ⟨q, 0, none⟩ v1).heap[k]? = some (.cells x t (0, 0)) := by
  rw [(app_c2 hf hg v1).block k (ne_rows hk hf.row ht')]
  exact app_c1 hf hg hk ht
theorem app_end {w w1 : World} {base b q : Nat} {D : Dsk} {c : Fc} {zs : List Int} (hf : FlAt w base q c) (hrow : w.heap[b]? = some (.cells (rowD D) 64 (0, 0))) (hg : w.grownBy w1 c.v.ownBlock) {v1 : Value} (hown : w1.ownsRow base 5 1 v1 (c.dat.length + zs.length) (byteVals c.dat ++ byteVals zs)) (hk : v1.ownBlock = c.v.ownBlock ∨ ∀ k, v1.ownBlock = some k → w.heap.size ≤ k) :
    App w ((w1.setCell ⟨q, 0, none⟩ v1).setCell ⟨b, 5, none⟩ (.int .i64 (D.used + zs.length))) base b q D c zs := by
  have w2 := app_c2 hf hg v1
  have r2 := app_c3 hf hg v1 hrow (by decide) (by decide)
  have w3 := (Wt.refl r2).cell 5 (.int .i64 (D.used + zs.length))
  have e : (rowD D).setIfInBounds 5 (.int .i64 (D.used + zs.length)) = rowD { D with used := D.used + zs.length } := by simp [rowD]
  rw [e] at w3
  have hqb : q ≠ b := fun e => ne_rows hf.row hrow (by decide) e
  refine ⟨⟨v1, ?_, ?_, hk⟩, w3.row, ?_⟩
  · rw [w3.block q hqb]; exact w2.row
  · refine row_fr (row_fr hown w2.fr fun k hk' e => ?_) w3.fr fun k hk' e => ?_
    · obtain ⟨cur, hc⟩ := own_cells hown hk'
      exact ne_rows hc (app_c1 hf hg hf.row (by decide)) (by decide) e
    · obtain ⟨cur, hc⟩ := own_cells hown hk'
      exact ne_rows hc (app_c1 hf hg hrow (by decide)) (by decide) e
  · exact ((fr_grown hg _ fun i e => .inr (.inr e)).trans w2.fr fun i _ e => .inr (.inl e)).trans w3.fr fun i _ e => .inl e

theorem app_old {w : World} {base b : Nat} {D : Dsk} (h : DkAt w base b D) {s : ByteArray} (hs : s.size ≤ maxLen) {p : Fn} (hp : findF s.data.toList D.fs = some p) {n0 n1 n2 len cap : Nat} {ad : Option Addr} {zs : List Int}
    (x0 : w.heap[n0]? = some (.cells #[pD b] 25 (0, 0))) (x1 : w.heap[n1]? = some (.cells #[.string s] 9 (0, 0))) (x2 : w.heap[n2]? = some (.cells #[.slice ad len cap] 35 (0, 0))) (hbs : Bs w ad len zs) (hlen : (D.ct p.2).dat.length + len ≤ 100000000) (hu : 0 ≤ D.used ∧ D.used + len ≤ 100000000) (hbase : base ≤ w.heap.size) :
    Calls Try.prog 54 #[pD n0, pD n1, pD n2] w fun e w' => e = .returned (.tuple #[]) ∧ App w w' base b p.2 D (D.ct p.2) zs := by
  have hm := (find_mem hp).1
  have hf := h.fil p hm
  have hrow := h.row
  obtain ⟨fa, fcap, hv⟩ := row_form hf.dat
  have b0 : w.cell? ⟨n0, 0, none⟩ = some (pD b) := cell_row x0 0
  have b1 : w.cell? ⟨n1, 0, none⟩ = some (.string s) := cell_row x1 0
  have b2 : w.cell? ⟨n2, 0, none⟩ = some (.slice ad len cap) := cell_row x2 0
  have c6 : w.cell? ⟨b, 6, none⟩ = some (.map (some D.bm)) := cell_row h.row 6
  have g0 : w.cell? ⟨p.2, 0, none⟩ = some (.slice fa (D.ct p.2).dat.length fcap) := by rw [← hv]; exact cell_row hf.row 0
  have hl := look_some (w := w.drew) h.map.drew hs hp
  clear h hs hp hm
  generalize D.ct p.2 = c at *
  generalize p.2 = q at *
  have hz := hbs.1
  go_enter Try.func54, Try.ntmps54
  go_wp2
  go_region
  go_wp2
  go_region_law (refine step_append_bs rfl (.tmp 22) (.tmp 23) rfl base (.slice fa c.dat.length fcap) c.dat.length (byteVals c.dat) (by simp [Act.eval]) (by rw [← hv]; exact hf.dat) ad len cap zs (by simp [Act.eval]) hbs (by omega) hbase ?_; intro v1 w1 hown1 hg1 hk1; obtain ⟨va, vcap, rfl⟩ := row_form hown1; rw [← hv] at hg1 hk1; have hg2 : w.grownBy w1 c.v.ownBlock := ⟨hg1.os, hg1.tape, hg1.output, hg1.size, hg1.block⟩; have t1 := app_c1 hf hg2 hf.row (by decide); have c1 : w1.cell? ⟨q, 0, none⟩ = some c.v := cell_row t1 0; have c2 := froz_row t1 0; clear t1)
  all_goals
    have y0 := cell_row (app_c3 hf hg2 (.slice va (c.dat.length + len) vcap) x0 (by decide) (by decide)) 0
    have y2 := cell_row (app_c3 hf hg2 (.slice va (c.dat.length + len) vcap) x2 (by decide) (by decide)) 0
    have t5 := app_c3 hf hg2 (.slice va (c.dat.length + len) vcap) hrow (by decide) (by decide)
    have y5 := cell_row t5 5
    have f5 := froz_row t5 5
    subst hz
    have hend := app_end hf hrow hg2 hown1 hk1
    generalize hW : w1.setCell ⟨q, 0, none⟩ (.slice va (c.dat.length + zs.length) vcap) = W at *
    simp only [rowD, List.getElem?_toArray, List.getElem?_cons_zero, List.getElem?_cons_succ] at y0 y2 y5
    clear hg1 hg2 hk1 hown1 c1 c2 b0 b1 b2 c6 g0 hl t5 hW x0 x1 x2 hbs hv hf hrow
    generalize D.used = us at *
    go_wp2
    go_region
    all_goals (go_end0; exact ⟨rfl, hend.drew⟩)
end Go.Proofs.Ytcmgpllnficmdaa

namespace Go.Proofs.Ytcmgpllnficmdaa
open Go.RowKit Go.Maps

theorem hide1 {p : Prop} (h : p) : Hid p := h
theorem bdF (w : World) : (Instr.build 90 #[]).run Try.prog w = .ok (.agg #[.slice none 0 0, .int .i64 0]) w := by kernel_rfl
abbrev fc0 : Fc := ⟨[], 0, .slice none 0 0⟩
set_option maxHeartbeats 2000000 in
set_option maxRecDepth 100000 in
theorem app_new {w : World} {base b : Nat} {D : Dsk} (h : DkAt w base b D) {s : ByteArray} (hs : s.size ≤ 1000000) (hp : findF s.data.toList D.fs = none) (hn : D.fs.length < 1000000) {n0 n1 n2 len cap : Nat} {ad : Option Addr} {zs : List Int}
    (x0 : w.heap[n0]? = some (.cells #[pD b] 25 (0, 0))) (x1 : w.heap[n1]? = some (.cells #[.string s] 9 (0, 0))) (x2 : w.heap[n2]? = some (.cells #[.slice ad len cap] 35 (0, 0))) (hbs : Bs w ad len zs) (hu : 0 ≤ D.used ∧ D.used + len ≤ 100000000) (hbase : base ≤ w.heap.size) :
    Calls Try.prog 54 #[pD n0, pD n1, pD n2] w fun e w' => e = .returned (.tuple #[]) ∧ ∃ w2, FlAt w2 base w.heap.size fc0 ∧ w2.ownsMap Try.prog 9 fElem D.bm (putF s.data.toList w.heap.size D.fs).length (dm (putF s.data.toList w.heap.size D.fs)) ∧ Fr (· = D.bm) w w2 ∧ w.heap.size < w2.heap.size ∧ App w2 w' base b w.heap.size D fc0 zs := by
  have hrow := h.row
  have hblt : b < w.heap.size := (Array.getElem?_eq_some_iff.1 hrow).1
  have b0 : w.cell? ⟨n0, 0, none⟩ = some (pD b) := cell_row x0 0
  have b1 : w.cell? ⟨n1, 0, none⟩ = some (.string s) := cell_row x1 0
  have c6 : w.cell? ⟨b, 6, none⟩ = some (.map (some D.bm)) := cell_row h.row 6
  have hl := look_none (w := w.drew) h.map.drew (by unfold maxLen; omega) hp
  -- the new file, its name kept
  obtain ⟨u, hu1⟩ : ∃ u, Hid (u = (w.alloc (.cells #[.slice none 0 0, .int .i64 0] 90)).drew) := ⟨_, hide1 rfl⟩
  have ub : Below w.heap.size w u := by rw [hu1.out]; exact ((Below.refl _ w).alloc (Nat.le_refl _) _).drew
  have uq : u.heap[w.heap.size]? = some (.cells #[.slice none 0 0, .int .i64 0] 90 (0, 0)) := by rw [hu1.out]; exact (MapKept.heap_alloc w _).1
  have uz : Hid (u.heap.size = w.heap.size + 1) := hide1 (by rw [hu1.out]; simp)
  have hcall := call_d (w := u) (b := b) (q := w.heap.size) (cell_later ub c6) (by have := uz.out; omega) (owns_below h.map ub) (show D.fs.length < maxLen by unfold maxLen; omega) hs
  have ub' : Below w.heap.size w (w.alloc (.cells #[.slice none 0 0, .int .i64 0] 90)) := (Below.refl _ w).alloc (Nat.le_refl _) _
  have d0 : (w.alloc (.cells #[.slice none 0 0, .int .i64 0] 90)).cell? ⟨n0, 0, none⟩ = some (pD b) := cell_later ub' b0
  have d1 : (w.alloc (.cells #[.slice none 0 0, .int .i64 0] 90)).cell? ⟨n1, 0, none⟩ = some (.string s) := cell_later ub' b1
  have hz := hide1 hbs.1
  have hbd := bdF
  go_enter Try.func54, Try.ntmps54
  go_wp2
  go_region
  rw [hu1.out] at hcall
  go_wp2_with fail
  refine hcall.mono ?_
  rintro e w2 ⟨rfl, hmap, hfr0⟩
  rw [← hu1.out] at hfr0
  clear hcall hl d0 d1 b0 b1 c6 hu1
  have hbm : D.bm < w.heap.size := h.map.lt
  have hfr : Fr (· = D.bm) w w2 := (fr_b ub _).trans hfr0 fun _ _ e => e
  have k2 : ∀ {k : Nat} {x : Array Value} {t : TypeId}, w.heap[k]? = some (.cells x t (0, 0)) → w2.heap[k]? = some (.cells x t (0, 0)) := fun {k x t} hk => by
    rw [hfr.block k (Array.getElem?_eq_some_iff.1 hk).1 (ne_map hk h.map).symm]; exact hk
  have hq2 : w2.heap[w.heap.size]? = some (.cells #[.slice none 0 0, .int .i64 0] 90 (0, 0)) := by
    rw [hfr0.block _ (by have := uz.out; omega) (by omega)]; exact uq
  have hf : FlAt w2 base w.heap.size fc0 := ⟨hq2, hbase, World.ownsRow_nil _ _ _ _, fun z hz => by simp at hz, Nat.le_refl _⟩
  have hsz : w.heap.size < w2.heap.size := (Array.getElem?_eq_some_iff.1 hq2).1
  have z0 := k2 x0
  have z2 := k2 x2
  have zr := k2 hrow
  have hbs2 : Bs w2 ad len zs := hbs.fr hfr fun x ex hl e => by
    obtain ⟨_, _, h3⟩ := hbs
    obtain ⟨bb, off, ea, hc⟩ := h3 hl
    rw [ea] at ex; cases ex
    have h4 := hc 0 hl
    obtain ⟨es, cl, h5, _⟩ := h.map
    simp only at e
    rw [World.cell?] at h4
    simp only [e] at h4
    rw [h5] at h4
    cases h4
  have hb2 : base ≤ w2.heap.size := by omega
  clear h k2 hfr0 ub uq uz hq2 hrow x0 x1 x2 hbs hn hp
  generalize hqq : w.heap.size = q at *
  have m0 : w2.cell? ⟨n0, 0, none⟩ = some (pD b) := cell_row z0 0
  have m2 : w2.cell? ⟨n2, 0, none⟩ = some (.slice ad len cap) := cell_row z2 0
  have mq : w2.cell? ⟨q, 0, none⟩ = some (.slice none 0 0) := cell_row hf.row 0
  go_wp2
  go_region_law (refine step_append_bs rfl (.tmp 22) (.tmp 23) rfl base (.slice none 0 0) 0 [] (by simp [Act.eval]) hf.dat ad len cap zs (by simp [Act.eval]) hbs2 (by omega) hb2 ?_; intro v1 w1 hown1 hg1 hk1; rw [Nat.zero_add] at hown1; obtain ⟨va, vcap, rfl⟩ := row_form hown1; have hg2 : w2.grownBy w1 fc0.v.ownBlock := ⟨hg1.os, hg1.tape, hg1.output, hg1.size, hg1.block⟩; have t1 := app_c1 hf hg2 hf.row (by decide); have c1 : w1.cell? ⟨q, 0, none⟩ = some (.slice none 0 0) := cell_row t1 0; have c2 := froz_row t1 0; clear t1)
  all_goals
    have y0 := cell_row (app_c3 hf hg2 (.slice va len vcap) z0 (by decide) (by decide)) 0
    have y2 := cell_row (app_c3 hf hg2 (.slice va len vcap) z2 (by decide) (by decide)) 0
    have t5 := app_c3 hf hg2 (.slice va len vcap) zr (by decide) (by decide)
    have y5 := cell_row t5 5
    have f5 := froz_row t5 5
    have hz := hz.out
    subst hz
    have hend := app_end (c := fc0) hf zr hg2 (v1 := .slice va zs.length vcap) (by rw [show fc0.dat.length + zs.length = zs.length from Nat.zero_add _]; exact hown1) hk1
    generalize hW : w1.setCell ⟨q, 0, none⟩ (.slice va zs.length vcap) = W at *
    simp only [rowD, List.getElem?_toArray, List.getElem?_cons_zero, List.getElem?_cons_succ] at y0 y2 y5
    have hfin : ∀ W', App w2 W' base b q D fc0 zs → ∃ w2, FlAt w2 base w.heap.size fc0 ∧ w2.ownsMap Try.prog 9 fElem D.bm (putF s.data.toList w.heap.size D.fs).length (dm (putF s.data.toList w.heap.size D.fs)) ∧ Fr (· = D.bm) w w2 ∧ w.heap.size < w2.heap.size ∧ App w2 W' base b w.heap.size D fc0 zs := fun W' hW' => by rw [hqq]; exact ⟨w2, hf, hmap, hfr, hsz, hW'⟩
    clear hg1 hg2 hk1 hown1 c1 c2 t5 hW z0 z2 zr hbs2 hf hmap hfr hsz m0 m2 mq hqq
    generalize D.used = us at *
    go_wp2
    go_region
    all_goals (go_end0; exact ⟨rfl, hfin _ hend.drew⟩)
end Go.Proofs.Ytcmgpllnficmdaa

namespace Go.Proofs.Ytcmgpllnficmdaa
open Go.RowKit Go.Maps

variable {w w' : World} {base b : Nat} {D : Dsk}

theorem byteVals_app (x y : List Int) : byteVals x ++ byteVals y = byteVals (x ++ y) := by simp [byteVals]
/-- What is turned of a disk: the blocks that it is of, and new ones, make the disk that comes of it. -/
def Grow (w : World) (b : Nat) (D D' : Dsk) : Prop := ∀ k, fp b D' k → fp b D k ∨ w.heap.size ≤ k

theorem DkAt.appOld (h : DkAt w base b D) {p : Fn} (hp : p ∈ D.fs) {zs : List Int} (hz : ∀ z ∈ zs, 0 ≤ z ∧ z < 256) (ha : App w w' base b p.2 D (D.ct p.2) zs) (hq : D.used + zs.length ≤ D.quota) :
    ∃ v', DkAt w' base b { D with used := D.used + zs.length, ct := updC D.ct p.2 ⟨(D.ct p.2).dat ++ zs, (D.ct p.2).sure, v'⟩ } ∧ Grow w b D { D with used := D.used + zs.length, ct := updC D.ct p.2 ⟨(D.ct p.2).dat ++ zs, (D.ct p.2).sure, v'⟩ } := by
  obtain ⟨v', h1, h2, h3⟩ := ha.own
  refine ⟨v', h.file hp (c := ⟨(D.ct p.2).dat ++ zs, (D.ct p.2).sure, v'⟩) ha.fr ha.row ⟨h1, (h.fil p hp).ge, ?_, ?_, ?_⟩ h3 rfl rfl rfl ?_ rfl hq h.st h.lf, ?_⟩
  · have := h2
    rw [byteVals_app] at this
    simpa using this
  · intro z hz'
    rcases List.mem_append.1 hz' with h4 | h4
    · exact (h.fil p hp).byt z h4
    · exact hz z h4
  · have := (h.fil p hp).sur
    simp; omega
  · simp; omega
  · rintro k (e | e | ⟨x, hx, e⟩ | ⟨x, hx, e⟩)
    · exact .inl (.inl e)
    · exact .inl (.inr (.inl e))
    · exact .inl (.inr (.inr (.inl ⟨x, hx, e⟩)))
    · by_cases ex : x.2 = p.2
      · have e : (updC D.ct p.2 ⟨(D.ct p.2).dat ++ zs, (D.ct p.2).sure, v'⟩ x.2).v.ownBlock = some k := e
        rw [ex, updC_s] at e
        rcases h3 with h3 | h3
        · rw [h3] at e; exact .inl (.inr (.inr (.inr ⟨p, hp, e⟩)))
        · exact .inr (h3 k e)
      · have e : (updC D.ct p.2 ⟨(D.ct p.2).dat ++ zs, (D.ct p.2).sure, v'⟩ x.2).v.ownBlock = some k := e
        rw [updC_o _ _ ex] at e
        exact .inl (.inr (.inr (.inr ⟨x, hx, e⟩)))

theorem DkAt.appNew (h : DkAt w base b D) {nm : List UInt8} (hp : findF nm D.fs = none) {zs : List Int} (hz : ∀ z ∈ zs, 0 ≤ z ∧ z < 256) {w2 : World} (hf : FlAt w2 base w.heap.size fc0) (hmap : w2.ownsMap Try.prog 9 fElem D.bm (putF nm w.heap.size D.fs).length (dm (putF nm w.heap.size D.fs))) (hfr : Fr (· = D.bm) w w2) (hsz : w.heap.size < w2.heap.size)
    (ha : App w2 w' base b w.heap.size D fc0 zs) (hq : D.used + zs.length ≤ D.quota) :
    ∃ v', DkAt w' base b { D with used := D.used + zs.length, fs := putF nm w.heap.size D.fs, ct := updC D.ct w.heap.size ⟨zs, 0, v'⟩ } ∧ Grow w b D { D with used := D.used + zs.length, fs := putF nm w.heap.size D.fs, ct := updC D.ct w.heap.size ⟨zs, 0, v'⟩ } ∧ Fr (fp b D) w w' := by
  obtain ⟨v', h1, h2, h3⟩ := ha.own
  have hperm : (putF nm w.heap.size D.fs).Perm ((nm, w.heap.size) :: D.fs) := by
    have := insF_perm (nm, w.heap.size) (delF nm D.fs)
    unfold putF
    rw [del_none hp] at this ⊢
    exact this
  have hmem : ∀ p, p ∈ putF nm w.heap.size D.fs → p = (nm, w.heap.size) ∨ p ∈ D.fs := fun p hp' => by
    have := hperm.mem_iff.1 hp'
    simpa using this
  have hlt : ∀ p ∈ D.fs, p.2 ≠ w.heap.size := fun p hp' e => by have := (Array.getElem?_eq_some_iff.1 (h.fil p hp').row).1; omega
  have hol : ∀ p ∈ D.fs, ∀ k, (D.ct p.2).v.ownBlock = some k → k < w.heap.size := fun p hp' k hk => ((h.fil p hp').dat.lt k hk).2
  have hnew : ∀ k, v'.ownBlock = some k → w.heap.size ≤ k := fun k hk => by
    rcases h3 with h3 | h3
    · rw [h3] at hk; cases hk
    · have := h3 k hk; omega
  have hbl : b < w.heap.size := (Array.getElem?_eq_some_iff.1 h.row).1
  have hml : D.bm < w.heap.size := h.map.lt
  refine ⟨v', ⟨ha.row, h.gb, ?_, h.gm, ?_, ?_, ?_, ?_, ⟨hq, h.qt.2⟩, h.st, h.lf⟩, ?_, ?_⟩
  · refine owns_fr hmap ha.fr ?_
    rintro (e | e | e)
    · exact h.bm_b e
    · have e : D.bm = w.heap.size := e
      omega
    · cases e
  · intro p hp'
    rcases hmem p hp' with rfl | hp'
    · show FlAt w' base w.heap.size (updC D.ct w.heap.size ⟨zs, 0, v'⟩ w.heap.size)
      rw [updC_s]
      refine ⟨h1, hf.ge, ?_, hz, Nat.zero_le _⟩
      have := h2
      rw [byteVals_app] at this
      simpa using this
    · show FlAt w' base p.2 (updC D.ct w.heap.size ⟨zs, 0, v'⟩ p.2)
      rw [updC_o _ _ (hlt p hp')]
      refine ((h.fil p hp').fr hfr (fun e => h.bm_f hp' e.symm) fun k hk e => h.bm_o hp' hk e.symm).fr ha.fr ?_ ?_
      · rintro (e | e | e)
        · exact h.b_f hp' e.symm
        · exact hlt p hp' e
        · cases e
      · rintro k hk (e | e | e)
        · exact h.b_o hp' hk e.symm
        · have := hol p hp' k hk; omega
        · cases e
  · intro p hp' p' hp2 e
    rcases hmem p hp' with rfl | hp' <;> rcases hmem p' hp2 with rfl | hp2
    · rfl
    · exact absurd e.symm (hlt p' hp2)
    · exact absurd e (hlt p hp')
    · exact h.inj p hp' p' hp2 e
  · have key : ∀ p, p ∈ putF nm w.heap.size D.fs → ∀ k, (updC D.ct w.heap.size ⟨zs, 0, v'⟩ p.2).v.ownBlock = some k → (p = (nm, w.heap.size) ∧ w.heap.size ≤ k) ∨ (p ∈ D.fs ∧ (D.ct p.2).v.ownBlock = some k ∧ k < w.heap.size) := by
      intro p hp' k hk
      rcases hmem p hp' with rfl | hp'
      · rw [updC_s] at hk; exact .inl ⟨rfl, hnew k hk⟩
      · rw [updC_o _ _ (hlt p hp')] at hk; exact .inr ⟨hp', hk, hol p hp' k hk⟩
    intro p hp' p' hp2 k hk hk'
    rcases key p hp' k hk with ⟨rfl, e1⟩ | ⟨e1, e2, e3⟩ <;> rcases key p' hp2 k hk' with ⟨rfl, g1⟩ | ⟨g1, g2, g3⟩
    · rfl
    · omega
    · omega
    · exact h.sep p e1 p' g1 k e2 g2
  · show D.used + _ = lens (putF nm w.heap.size D.fs) (updC D.ct w.heap.size ⟨zs, 0, v'⟩)
    rw [lens_perm _ hperm, lens_cons, updC_s, lens_congr (ct' := D.ct) fun p hp' => by rw [updC_o _ _ (hlt p hp')], ← h.usd]
    simp only; omega
  · rintro k (e | e | ⟨x, hx, e⟩ | ⟨x, hx, e⟩)
    · exact .inl (.inl e)
    · exact .inl (.inr (.inl e))
    · rcases hmem x hx with rfl | hx
      · right; rw [e]; exact Nat.le_refl _
      · exact .inl (.inr (.inr (.inl ⟨x, hx, e⟩)))
    · rcases hmem x hx with rfl | hx
      · have e : (updC D.ct w.heap.size ⟨zs, 0, v'⟩ w.heap.size).v.ownBlock = some k := e
        rw [updC_s] at e
        exact .inr (hnew k e)
      · have e : (updC D.ct w.heap.size ⟨zs, 0, v'⟩ x.2).v.ownBlock = some k := e
        rw [updC_o _ _ (hlt x hx)] at e
        exact .inl (.inr (.inr (.inr ⟨x, hx, e⟩)))
  · refine (hfr.mono fun _ _ e => .inr (.inl e)).trans ha.fr ?_
    rintro i hi (e | e | e)
    · exact .inl e
    · omega
    · cases e

theorem below_drewN (w : World) (n : Nat) : Below w.heap.size w (w.drewN n) := ⟨rfl, rfl, rfl, Nat.le_refl _, fun _ _ => rfl⟩
/-- The three boxes that Append makes. -/
abbrev boxes (w : World) (b : Nat) (s : ByteArray) (ad : Option Addr) (len cap : Nat) : World := ((w.alloc (.cells #[pD b] 25)).alloc (.cells #[.string s] 9)).alloc (.cells #[.slice ad len cap] 35)
theorem boxes_below (w : World) (b : Nat) (s : ByteArray) (ad : Option Addr) (len cap : Nat) : Below w.heap.size w (boxes w b s ad len cap) := (((Below.refl _ w).alloc (Nat.le_refl _) _).alloc (by simp) _).alloc (by simp; omega) _
theorem boxes_at (w : World) (b : Nat) (s : ByteArray) (ad : Option Addr) (len cap : Nat) : (boxes w b s ad len cap).heap[w.heap.size]? = some (.cells #[pD b] 25 (0, 0)) ∧ (boxes w b s ad len cap).heap[w.heap.size + 1]? = some (.cells #[.string s] 9 (0, 0)) ∧ (boxes w b s ad len cap).heap[w.heap.size + 1 + 1]? = some (.cells #[.slice ad len cap] 35 (0, 0)) := by
  refine ⟨?_, ?_, ?_⟩
  · rw [Below.heap_alloc _ _ _ (by simp; omega), Below.heap_alloc _ _ _ (by simp)]; exact (MapKept.heap_alloc w _).1
  · rw [Below.heap_alloc _ _ _ (by simp)]
    have := (MapKept.heap_alloc (w.alloc (.cells #[pD b] 25)) (.cells #[.string s] 9)).1
    simpa using this
  · have := (MapKept.heap_alloc ((w.alloc (.cells #[pD b] 25)).alloc (.cells #[.string s] 9)) (.cells #[.slice ad len cap] 35)).1
    simpa using this

theorem append_name {s : ByteArray} (hn : isName s.data.toList = false) (ad : Option Addr) (len cap : Nat) :
    Calls Try.prog 25 #[pD b, .string s, .slice ad len cap] w fun e w' => e = .returned (eN_ 5) ∧ Below w.heap.size w w' := by
  have hnm := named_d s
  rw [hn] at hnm
  go_enter Try.func25, Try.ntmps25
  go_wp2_with fail
  refine (hnm _).mono ?_
  rintro e w1 ⟨rfl, rfl⟩
  go_wp2
  go_ret
  exact ⟨rfl, boxes_below _ _ _ _ _ _⟩
theorem append_full (h : DkAt w base b D) {s : ByteArray} (hn : isName s.data.toList = true) (ad : Option Addr) (len cap : Nat) (hr : D.quota - D.used < len) :
    Calls Try.prog 25 #[pD b, .string s, .slice ad len cap] w fun e w' => e = .returned (eN_ 3) ∧ Below w.heap.size w w' := by
  have hnm := named_d s
  rw [hn] at hnm
  have hu := boxes_below w b s ad len cap
  have hfree : ∀ n, Calls Try.prog 30 #[pD b] ((boxes w b s ad len cap).drewN n) fun e w' => e = .returned (.int .i64 (D.quota - D.used)) ∧ ∃ m, w' = ((boxes w b s ad len cap).drewN n).drewN m := fun n => free_d ((h.later hu).later (below_drewN _ n))
  generalize D.quota - D.used = fr at *
  clear h
  go_enter Try.func25, Try.ntmps25
  go_wp2_with fail
  refine (hnm _).mono ?_
  rintro e w1 ⟨rfl, rfl⟩
  go_wp2
  go_quiet ((go_at_call 30; refine Calls.quiet_of (hfree _)))
  go_wp2
  go_ret
  exact ⟨rfl, hu.trans ((below_drewN _ _).mono hu.size)⟩

theorem append_step {R : Value → World → Prop} (h : DkAt w base b D) {s : ByteArray} (hn : isName s.data.toList = true) (ad : Option Addr) (len cap : Nat) (hr : (len : Int) ≤ D.quota - D.used)
    (hstep : ∀ n, Calls Try.prog 53 #[pD b, .func (.func 54) #[] #[pD w.heap.size, pD (w.heap.size + 1), pD (w.heap.size + 1 + 1)]] ((boxes w b s ad len cap).drewN n) fun e w' => ∃ v, e = .returned v ∧ R v w') :
    Calls Try.prog 25 #[pD b, .string s, .slice ad len cap] w fun e w' => ∃ v, e = .returned v ∧ R v w' := by
  have hnm := named_d s
  rw [hn] at hnm
  have hu := boxes_below w b s ad len cap
  have hfree : ∀ n, Calls Try.prog 30 #[pD b] ((boxes w b s ad len cap).drewN n) fun e w' => e = .returned (.int .i64 (D.quota - D.used)) ∧ ∃ m, w' = ((boxes w b s ad len cap).drewN n).drewN m := fun n => free_d ((h.later hu).later (below_drewN _ n))
  generalize D.quota - D.used = fr at *
  clear h hu
  go_enter Try.func25, Try.ntmps25
  go_wp2_with fail
  refine (hnm _).mono ?_
  rintro e w1 ⟨rfl, rfl⟩
  go_wp2
  go_quiet ((go_at_call 30; refine Calls.quiet_of (hfree _)))
  go_wp2_with fail
  refine (hstep _).mono ?_
  rintro e w2 ⟨v, rfl, hR⟩
  clear hstep hfree
  go_wp2
  go_ret
  exact ⟨v, rfl, hR⟩
theorem append_down (h : DkAt w base b D) {s : ByteArray} (hn : isName s.data.toList = true) (ad : Option Addr) (len cap : Nat) (hr : (len : Int) ≤ D.quota - D.used) (hg : D.gone = true ∨ (D.armed = true ∧ D.left = 0)) :
    Calls Try.prog 25 #[pD b, .string s, .slice ad len cap] w fun e w' => e = .returned (eN_ 4) ∧ DkAt w' base b (goned D) ∧ Fr (fp b D) w w' := by
  refine (append_step (R := fun v w' => v = eN_ 4 ∧ DkAt w' base b (goned D) ∧ Fr (fp b D) w w') h hn ad len cap hr fun n => ?_).mono ?_
  · have hu : Below w.heap.size w ((boxes w b s ad len cap).drewN n) := (boxes_below w b s ad len cap).trans ((below_drewN _ n).mono (boxes_below w b s ad len cap).size)
    refine (step_no _ (h.later hu).row hg).mono ?_
    rintro e w2 ⟨rfl, hw⟩
    exact ⟨_, rfl, rfl, no_step h hu hw⟩
  · rintro e w2 ⟨v, rfl, rfl, h2⟩
    exact ⟨rfl, h2⟩

/-- What a disk is behind an append. -/
def AppR (D D' : Dsk) (nm : List UInt8) (zs : List Int) : Prop :=
  (∃ p v', findF nm D.fs = some p ∧ D' = { stepd D with used := D.used + zs.length, ct := updC D.ct p.2 ⟨(D.ct p.2).dat ++ zs, (D.ct p.2).sure, v'⟩ }) ∨
  (findF nm D.fs = none ∧ ∃ q v', D' = { stepd D with used := D.used + zs.length, fs := putF nm q D.fs, ct := updC D.ct q ⟨zs, 0, v'⟩ })
theorem step_dk (h : DkAt w base b D) {w1 w2 : World} (hu : Below w.heap.size w w1) (hw : Wt w1 w2 b (rowD (stepd D)) 64) (hc : canD D) : DkAt w2 base b (stepd D) :=
  (h.later hu).turn hw rfl rfl rfl rfl rfl (by have := h.st; simp only [stepd]; omega) (fun ha => by
      have h2 := h.lf ha
      have h3 := hc.2 ha
      have ha' : D.armed = true := ha
      simp only [stepd, ha', if_true]
      omega)
theorem append_ok (h : DkAt w base b D) {s : ByteArray} (hs : s.size ≤ 1000000) (hn : isName s.data.toList = true) {ad : Option Addr} {len cap : Nat} {zs : List Int} (hbs : Bs w ad len zs) (hxb : ∀ x, ad = some x → 0 < len → x.block ≠ b) (hr : (len : Int) ≤ D.quota - D.used) (hc : canD D) (hst : D.steps < 1000000000) (hlen : D.fs.length < 1000000) (hbase : base ≤ w.heap.size) :
    Calls Try.prog 25 #[pD b, .string s, .slice ad len cap] w fun e w' => e = .returned .nilIface ∧ ∃ D', AppR D D' s.data.toList zs ∧ DkAt w' base b D' ∧ Fr (fp b D) w w' ∧ Grow w b D D' := by
  have hz := hbs.1
  have hzb := hbs.2.1
  have hsm : s.size ≤ maxLen := by unfold maxLen; omega
  have hu0 := lens_nn D.fs D.ct
  rw [← h.usd] at hu0
  have hq := h.qt
  refine (append_step (R := fun v w' => v = .nilIface ∧ ∃ D', AppR D D' s.data.toList zs ∧ DkAt w' base b D' ∧ Fr (fp b D) w w' ∧ Grow w b D D') h hn ad len cap hr fun n => ?_).mono ?_
  · have hu : Below w.heap.size w ((boxes w b s ad len cap).drewN n) := (boxes_below w b s ad len cap).trans ((below_drewN _ n).mono (boxes_below w b s ad len cap).size)
    obtain ⟨x0, x1, x2⟩ := boxes_at w b s ad len cap
    have hblt : b < w.heap.size := (Array.getElem?_eq_some_iff.1 h.row).1
    refine (step_ok (R := fun w' => ∃ D', AppR D D' s.data.toList zs ∧ DkAt w' base b D' ∧ Fr (fp b D) w w' ∧ Grow w b D D') 54 _ (h.later hu).row hc.1 (fun ha => ⟨hc.2 ha, (h.lf ha).2⟩) ⟨h.st, hst⟩ (fun w => by kernel_rfl) fun w1 hw1 => ?_).mono ?_
    · have h1 := step_dk h hu hw1 hc
      have f1 : Fr (fp b D) w w1 := (wt_below hu hw1).mono fun _ _ e => .inl e
      have k1 : ∀ {k : Nat} {x : Array Value} {t : TypeId}, (boxes w b s ad len cap).heap[k]? = some (.cells x t (0, 0)) → k ≠ b → w1.heap[k]? = some (.cells x t (0, 0)) := fun {k x t} hk hne => by
        rw [hw1.block k hne]; exact hk
      have y0 := k1 x0 (by omega)
      have y1 := k1 x1 (by omega)
      have y2 := k1 x2 (by omega)
      have hb1 : Bs w1 ad len zs := ((hbs.later hu).fr hw1.fr fun x ex hl => hxb x ex hl)
      have hbase1 : base ≤ w1.heap.size := by have := f1.size; omega
      have hgr : ∀ k, w1.heap.size ≤ k → w.heap.size ≤ k := fun k hk => by have := f1.size; omega
      have hfp : ∀ i, fp b (stepd D) i → fp b D i := fun i hi => hi
      cases hp : findF s.data.toList D.fs with
      | some p =>
        have hm := (find_mem hp).1
        have hl1 : ((D.ct p.2).dat.length : Int) ≤ D.used := by
          rw [h.usd]
          have : ∀ (l : List Fn), p ∈ l → ((D.ct p.2).dat.length : Int) ≤ lens l D.ct := by
            intro l
            induction l with
            | nil => intro h; cases h
            | cons y r ih =>
              intro hy
              rw [lens_cons]
              rcases List.mem_cons.1 hy with rfl | hy
              · have := lens_nn r D.ct; omega
              · have := ih hy; omega
          exact this _ hm
        refine (app_old h1 hsm hp y0 y1 y2 hb1 (show (D.ct p.2).dat.length + len ≤ 100000000 by omega) ⟨hu0, by show D.used + _ ≤ _; omega⟩ hbase1).mono ?_
        rintro e w3 ⟨rfl, ha⟩
        obtain ⟨v', hd, hg⟩ := h1.appOld hm hzb ha (by show D.used + _ ≤ D.quota; omega)
        refine ⟨rfl, _, .inl ⟨p, v', hp, rfl⟩, hd, f1.trans ha.fr ?_, fun k hk => (hg k hk).imp (hfp k) (hgr k)⟩
        rintro i _ (e | e | e)
        · exact .inl e
        · exact .inr (.inr (.inl ⟨p, hm, e⟩))
        · exact .inr (.inr (.inr ⟨p, hm, e⟩))
      | none =>
        refine (app_new h1 hs hp (show D.fs.length < 1000000 from hlen) y0 y1 y2 hb1 ⟨hu0, by show D.used + _ ≤ _; omega⟩ hbase1).mono ?_
        rintro e w3 ⟨rfl, w2, g1, g2, g3, g4, ha⟩
        obtain ⟨v', hd, hg, hfr⟩ := h1.appNew hp hzb g1 g2 g3 g4 ha (by show D.used + _ ≤ D.quota; omega)
        exact ⟨rfl, _, .inr ⟨hp, _, v', rfl⟩, hd, f1.trans hfr fun i _ hi => hfp i hi, fun k hk => (hg k hk).imp (hfp k) (hgr k)⟩
    · rintro e w3 ⟨rfl, h3⟩
      exact ⟨_, rfl, rfl, h3⟩
  · rintro e w3 ⟨v, rfl, rfl, h3⟩
    exact ⟨rfl, h3⟩
end Go.Proofs.Ytcmgpllnficmdaa

namespace Go.Proofs.Ytcmgpllnficmdaa
open Go.RowKit Go.Maps

theorem clone_nil (w : World) : Calls Try.prog 50 #[.slice none 0 0] w fun e w' => e = .returned (.slice none 0 0) ∧ w' = w := by
  have hq := run_eql_nil_slice (P := Try.prog) w 35 5 none 0 0 0 0 Try.underlying35
  go_enter Try.func50, Try.ntmps50
  go_wp2
  go_ret
  exact ⟨rfl, rfl⟩
theorem eq_some (x : Addr) (len cap : Nat) (w : World) : (binOp .eql 35 (.slice (some x) len cap) (.slice none 0 0)).run Try.prog w = .ok (.bool false) w := by kernel_rfl
theorem own_empty (w : World) (base : Nat) (hb : base ≤ w.heap.size) : (w.alloc (.cells #[] 5)).ownsRow base 5 1 (.slice (some ⟨w.heap.size, 0, none⟩) 0 0) 0 [] :=
  ⟨rfl, .inr ⟨_, 0, #[], rfl, hb, (MapKept.heap_alloc w _).1, Nat.le_refl _, Nat.zero_le _, rfl, rfl⟩⟩
theorem clone_some {w : World} {x : Addr} {len cap : Nat} {zs : List Int} (hbs : Bs w (some x) len zs) (hlen : len ≤ 100000000) :
    Calls Try.prog 50 #[.slice (some x) len cap] w fun e w' => ∃ v', e = .returned v' ∧ w'.ownsRow w.heap.size 5 1 v' len (byteVals zs) ∧ Below w.heap.size w w' := by
  have hbl : Below w.heap.size w (w.alloc (.cells #[] 5)) := (Below.refl _ w).alloc (Nat.le_refl _) _
  have hq := eq_some x len cap
  go_enter Try.func50, Try.ntmps50
  go_wp2_with (first | (at_builtin; refine wpList_append_bs rfl (.tmp 5) (.tmp 6) rfl w.heap.size (.slice (some ⟨w.heap.size, 0, none⟩) 0 0) 0 [] rfl (own_empty w _ (Nat.le_refl _)) (some x) len cap zs rfl (hbs.later hbl) (by omega) (by simp) ?_; intro v1 w1 hown1 hg1 hk1))
  go_ret
  rw [Nat.zero_add] at hown1
  exact ⟨v1, rfl, hown1, hbl.grown hg1 (by simp) fun k e => by cases e; exact Nat.le_refl _⟩

theorem own_mono {w : World} {base base' n : Nat} {v : Value} {xs : List Value} (h : w.ownsRow base 5 1 v n xs) (hb : base' ≤ base) : w.ownsRow base' 5 1 v n xs := by
  refine ⟨h.1, ?_⟩
  rcases h.2 with h1 | ⟨g, cap, cur, h1, h2, h3⟩
  · exact .inl h1
  · exact .inr ⟨g, cap, cur, h1, by omega, h3⟩
theorem bs_own {w : World} {base n : Nat} {v : Value} {zs : List Int} (h : w.ownsRow base 5 1 v n (byteVals zs)) (hz : ∀ z ∈ zs, 0 ≤ z ∧ z < 256) : ∃ a cap, v = .slice a n cap ∧ Bs w a n zs ∧ ((a = none ∧ n = 0 ∧ cap = 0) ∨ ∃ g, a = some ⟨g, 0, none⟩) := by
  have hl : zs.length = n := by have := h.1; simpa [byteVals] using this
  rcases h.2 with ⟨rfl, rfl⟩ | ⟨g, cap, cur, rfl, hb, hg, hnc, hcm, hcs, ht⟩
  · exact ⟨none, 0, rfl, ⟨hl, hz, fun h => absurd h (by omega)⟩, .inl ⟨rfl, rfl, rfl⟩⟩
  · refine ⟨_, cap, rfl, ⟨hl, hz, fun _ => ⟨g, 0, rfl, fun i hi => ?_⟩⟩, .inr ⟨g, rfl⟩⟩
    have := h.cellAt i (by omega)
    rw [Nat.zero_add, this]
    simp [byteVals, show i < zs.length by omega]
theorem Bs.less {w : World} {a : Option Addr} {len : Nat} {zs : List Int} (h : Bs w a len zs) (k : Nat) (hk : k ≤ len) : Bs w a k (zs.take k) := by
  obtain ⟨h1, h2, h3⟩ := h
  refine ⟨by simp; omega, fun z hz => h2 z (List.mem_of_mem_take hz), fun hp => ?_⟩
  obtain ⟨b, off, e, hc⟩ := h3 (by omega)
  refine ⟨b, off, e, fun i hi => ?_⟩
  rw [hc i (by omega)]
  simp [List.getD_eq_getElem?_getD, hi]

/-- A file is turned: its row, and its bytes lie where they were, or in a new row. -/
structure Cutd (w w' : World) (base q : Nat) (c c' : Fc) : Prop where
  fl : FlAt w' base q c'
  fr : Fr (· = q) w w'
  own : c'.v.ownBlock = c.v.ownBlock ∨ ∀ k, c'.v.ownBlock = some k → w.heap.size ≤ k

theorem ret_i {x y : Int} (h : x = y) : Ending.returned (.int .i64 x) = .returned (.int .i64 y) := by rw [h]
theorem cut_end {w w1 : World} {base q : Nat} {c : Fc} (hf : FlAt w base q c) (hb1 : Below w.heap.size w w1) {v1 : Value} {size : Nat} (hown : w1.ownsRow w.heap.size 5 1 v1 size (byteVals (c.dat.take size))) (hsz : size ≤ c.dat.length) {m : Int} (hm : m = ((min c.sure size : Nat) : Int)) :
    Cutd w ((w1.setCell ⟨q, 0, none⟩ v1).setCell ⟨q, 1, none⟩ (.int .i64 m)) base q c ⟨c.dat.take size, min c.sure size, v1⟩ := by
  subst hm
  have hlt := (Array.getElem?_eq_some_iff.1 hf.row).1
  have hrow1 : w1.heap[q]? = some (.cells (rowF c) 90 (0, 0)) := by rw [hb1.block q hlt]; exact hf.row
  have hw := ((Wt.refl hrow1).cell 0 v1).cell 1 (.int .i64 ((min c.sure size : Nat) : Int))
  have e : ((rowF c).setIfInBounds 0 v1).setIfInBounds 1 (.int .i64 ((min c.sure size : Nat) : Int)) = #[v1, .int .i64 ((min c.sure size : Nat) : Int)] := by simp [rowF]
  rw [e] at hw
  have hsize : base ≤ w.heap.size := Nat.le_of_lt (Nat.lt_of_le_of_lt hf.ge hlt)
  refine ⟨⟨hw.row, hf.ge, ?_, fun z hz => hf.byt z (List.mem_of_mem_take hz), ?_⟩, wt_below hb1 hw, .inr fun k hk => (hown.lt k hk).1⟩
  · have h1 := own_mono hown hsize
    have h2 : (c.dat.take size).length = size := by simp; omega
    show World.ownsRow _ base 5 1 v1 (c.dat.take size).length (byteVals (c.dat.take size))
    rw [h2]
    exact row_fr h1 hw.fr fun k hk e => by have := (hown.lt k hk).1; omega
  · simp; omega
theorem cut_d {w : World} {base q : Nat} {c : Fc} (hf : FlAt w base q c) (size : Nat) (hsz : size ≤ c.dat.length) (hlen : c.dat.length ≤ 100000000) :
    Calls Try.prog 58 #[pD q, .int .i64 (size : Int)] w fun e w' => e = .returned (.int .i64 ((c.dat.length : Int) - size)) ∧ ∃ v', Cutd w w' base q c ⟨c.dat.take size, min c.sure size, v'⟩ := by
  obtain ⟨a, cap, hv, hbs, hform⟩ := bs_own hf.dat hf.byt
  have hrow := hf.row
  have c0 : w.cell? ⟨q, 0, none⟩ = some (.slice a c.dat.length cap) := by rw [← hv]; exact cell_row hrow 0
  have c1 : w.cell? ⟨q, 1, none⟩ = some (.int .i64 (c.sure : Int)) := cell_row hrow 1
  have f0 := froz_row hrow 0
  have f1 := froz_row hrow 1
  have hsur := hf.sur
  by_cases hlt : size < c.dat.length
  · rcases hform with ⟨_, e, _⟩ | ⟨g, rfl⟩
    · omega
    · have hcap : c.dat.length ≤ cap := by
        rcases hf.dat.2 with ⟨e, _⟩ | ⟨g', cap', cur, e, _, _, h4, _⟩
        · rw [hv] at e; cases e
        · rw [hv] at e; cases e; exact h4
      have hcl := clone_some (cap := cap) (hbs.less size hsz) (by omega)
      go_enter Try.func58, Try.ntmps58
      go_wp2_with fail
      refine hcl.mono ?_
      rintro e w1 ⟨v1, rfl, hown1, hb1⟩
      obtain ⟨va, vcap, rfl⟩ := row_form hown1
      have hrow1 : w1.heap[q]? = some (.cells (rowF c) 90 (0, 0)) := by
        rw [hb1.block q (Array.getElem?_eq_some_iff.1 hrow).1]; exact hrow
      have d0 : w1.cell? ⟨q, 0, none⟩ = some c.v := cell_row hrow1 0
      have d1 : w1.cell? ⟨q, 1, none⟩ = some (.int .i64 (c.sure : Int)) := cell_row hrow1 1
      have g0 := froz_row hrow1 0
      have g1 := froz_row hrow1 1
      clear hcl hbs c0 c1 f0 f1
      go_wp2
      all_goals go_ret
      all_goals refine ⟨rfl, .slice va size vcap, ?_⟩
      all_goals exact cut_end hf hb1 hown1 (by omega) (by omega)
  · obtain rfl : size = c.dat.length := by omega
    have hmn : min (c.sure : Int) (c.dat.length : Int) = c.sure := by omega
    go_enter Try.func58, Try.ntmps58
    go_wp2
    go_ret
    refine ⟨ret_i (by omega), c.v, ?_⟩
    have hw := (Wt.refl hrow).cell 1 (.int .i64 (c.sure : Int))
    have e : (rowF c).setIfInBounds 1 (.int .i64 (c.sure : Int)) = rowF c := by simp [rowF]
    rw [e] at hw
    refine ⟨⟨?_, hf.ge, ?_, ?_, ?_⟩, hw.fr, .inl rfl⟩
    · rw [hw.row]; simp only [rowF]; rw [Nat.min_eq_left hsur]
    · simp only [List.take_length]
      exact row_fr hf.dat hw.fr fun k hk e => by
        obtain ⟨cur, hc⟩ := own_cells hf.dat hk
        exact ne_rows hc hrow (by decide) e
    · simp only [List.take_length]; exact hf.byt
    · simp only [List.take_length]; omega
end Go.Proofs.Ytcmgpllnficmdaa

namespace Go.Proofs.Ytcmgpllnficmdaa
open Go.RowKit Go.Maps

/-- How many bytes a crash leaves. -/
def keepN (c : Fc) (k : Int) : Nat := if k ≤ (c.dat.length : Int) - c.sure then c.sure + k.toNat else c.dat.length
def crashC (c c' : Fc) (k : Int) : Prop := c'.dat = c.dat.take (keepN c k) ∧ c'.sure = keepN c k
theorem keepN_le (c : Fc) (k : Int) (hs : c.sure ≤ c.dat.length) : keepN c k ≤ c.dat.length := by unfold keepN; split <;> omega

theorem fcrash_end {w w1 : World} {n base q : Nat} {c : Fc} {k : Int} {v1 : Value} (hs : c.sure ≤ c.dat.length) (hC : Cutd (w.drewN n) w1 base q c ⟨c.dat.take (keepN c k), min c.sure (keepN c k), v1⟩) :
    ∃ c', crashC c c' k ∧ Cutd w (w1.setCell ⟨q, 1, none⟩ (.int .i64 (keepN c k : Int))) base q c c' := by
  have hw := (Wt.refl hC.fl.row).cell 1 (.int .i64 (keepN c k : Int))
  have e : (rowF ⟨c.dat.take (keepN c k), min c.sure (keepN c k), v1⟩).setIfInBounds 1 (.int .i64 (keepN c k : Int)) = rowF ⟨c.dat.take (keepN c k), keepN c k, v1⟩ := by simp [rowF]
  rw [e] at hw
  refine ⟨⟨c.dat.take (keepN c k), keepN c k, v1⟩, ⟨rfl, rfl⟩, ⟨hw.row, hC.fl.ge, ?_, hC.fl.byt, ?_⟩, ?_, hC.own⟩
  · exact row_fr hC.fl.dat hw.fr fun k' hk' e => by
      obtain ⟨cur, hc⟩ := own_cells hC.fl.dat hk'
      exact ne_rows hc hC.fl.row (by decide) e
  · have := keepN_le c k hs
    simp; omega
  · exact (fr_b (below_drewN w n) _).trans (hC.fr.trans hw.fr fun _ _ e => e) fun _ _ e => e
theorem fcrash_d {w : World} {base q : Nat} {c : Fc} (hf : FlAt w base q c) (k : Int) (hk : 0 ≤ k) (hlen : c.dat.length ≤ 100000000) :
    Calls Try.prog 45 #[pD q, .int .i64 k] w fun e w' => e = .returned (.int .i64 ((c.dat.length : Int) - keepN c k)) ∧ ∃ c', crashC c c' k ∧ Cutd w w' base q c c' := by
  obtain ⟨a, cap, hv, hbs, hform⟩ := bs_own hf.dat hf.byt
  have hrow := hf.row
  have c0 : w.cell? ⟨q, 0, none⟩ = some (.slice a c.dat.length cap) := by rw [← hv]; exact cell_row hrow 0
  have c1 : w.cell? ⟨q, 1, none⟩ = some (.int .i64 (c.sure : Int)) := cell_row hrow 1
  have hsur := hf.sur
  have hkl := keepN_le c k hsur
  have hcut : ∀ n, Calls Try.prog 58 #[pD q, .int .i64 (keepN c k : Int)] (w.drewN n) fun e w' => e = .returned (.int .i64 ((c.dat.length : Int) - keepN c k)) ∧ ∃ v', Cutd (w.drewN n) w' base q c ⟨c.dat.take (keepN c k), min c.sure (keepN c k), v'⟩ :=
    fun n => cut_d (hf.fr (fr_b (below_drewN w n) fun _ => False) id fun _ _ => id) (keepN c k) hkl hlen
  by_cases hmin : k ≤ (c.dat.length : Int) - c.sure
  · have e : ((keepN c k : Nat) : Int) = c.sure + k := by unfold keepN; rw [if_pos hmin]; omega
    rw [e] at hcut
    have hk2 := hide1 e
    clear e
    have hmn : min k ((c.dat.length : Int) - c.sure) = k := by omega
    go_enter Try.func45, Try.ntmps45
    go_wp2
    go_quiet (fail)
    go_wp2_with fail
    refine (hcut _).mono ?_
    rintro e w1 ⟨rfl, v1, hC⟩
    obtain ⟨va, vcap, hv1⟩ := row_form hC.fl.dat
    have hv1 : v1 = .slice va (keepN c k) vcap := by
      have h2 := hv1
      simp only [List.length_take] at h2
      rw [Nat.min_eq_left hkl] at h2
      exact h2
    subst hv1
    have hrow1 := hC.fl.row
    have d0 : w1.cell? ⟨q, 0, none⟩ = some (.slice va (keepN c k) vcap) := cell_row hrow1 0
    have d1 : w1.cell? ⟨q, 1, none⟩ = some (.int .i64 ((min c.sure (keepN c k) : Nat) : Int)) := cell_row hrow1 1
    have g1 := froz_row hrow1 1
    have hfin := fcrash_end hsur hC
    clear hcut c0 c1 hrow1 hC hbs
    go_wp2
    go_ret
    exact ⟨ret_i (by rw [hk2.out]), hfin⟩
  · have e : ((keepN c k : Nat) : Int) = c.sure + ((c.dat.length : Int) - c.sure) := by unfold keepN; rw [if_neg hmin]; omega
    rw [e] at hcut
    have hk2 := hide1 e
    clear e
    have hmn : min k ((c.dat.length : Int) - c.sure) = (c.dat.length : Int) - c.sure := by omega
    go_enter Try.func45, Try.ntmps45
    go_wp2
    go_quiet (fail)
    go_wp2_with fail
    refine (hcut _).mono ?_
    rintro e w1 ⟨rfl, v1, hC⟩
    obtain ⟨va, vcap, hv1⟩ := row_form hC.fl.dat
    have hv1 : v1 = .slice va (keepN c k) vcap := by
      have h2 := hv1
      simp only [List.length_take] at h2
      rw [Nat.min_eq_left hkl] at h2
      exact h2
    subst hv1
    have hrow1 := hC.fl.row
    have d0 : w1.cell? ⟨q, 0, none⟩ = some (.slice va (keepN c k) vcap) := cell_row hrow1 0
    have d1 : w1.cell? ⟨q, 1, none⟩ = some (.int .i64 ((min c.sure (keepN c k) : Nat) : Int)) := cell_row hrow1 1
    have g1 := froz_row hrow1 1
    have hfin := fcrash_end hsur hC
    clear hcut c0 c1 hrow1 hC hbs
    go_wp2
    go_ret
    exact ⟨ret_i (by rw [hk2.out]), hfin⟩
end Go.Proofs.Ytcmgpllnficmdaa

namespace Go.Proofs.Ytcmgpllnficmdaa
open Go.RowKit Go.Maps

variable {w w' : World} {base b : Nat} {D : Dsk}

def litD (D : Dsk) : Dsk := { D with left := 0, armed := false, gone := false }
theorem bdW (x : Int) (w : World) : (Instr.build 62 #[(0, .int .i64 x)]).run Try.prog w = .ok (.agg #[.int .i64 x, .int .i64 0, .bool false, .bool false]) w := by kernel_rfl
theorem bdD (x : Int) (m : Nat) (w : World) : (Instr.build 64 #[(1, .int .i64 x), (3, .map (some m))]).run Try.prog w = .ok (.agg #[.int .i64 0, .int .i64 0, .bool false, .bool false, .int .i64 x, .int .i64 0, .map (some m)]) w := by kernel_rfl

def newD (q : Int) (bm : Nat) : Dsk := ⟨0, 0, false, false, q, 0, bm, [], fun _ => fc0⟩
theorem new_ok (w : World) (q : Int) (h1 : 0 ≤ q) (h2 : q ≤ 16777216) : Calls Try.prog 11 #[.int .i64 q] w fun e w' => e = .returned (.tuple #[pD (w.heap.size + 1), .nilIface]) ∧ DkAt w' w.heap.size (w.heap.size + 1) (newD q w.heap.size) ∧ Below w.heap.size w w' := by
  have hmm := @run_makeMap Try.prog
  have hbd := bdD q w.heap.size
  have k1 := World.ownsMap_made w Try.prog 9 fElem
  have hfin : DkAt ((w.alloc (.map #[] 0)).alloc (.cells #[.int .i64 0, .int .i64 0, .bool false, .bool false, .int .i64 q, .int .i64 0, .map (some w.heap.size)] 64)) w.heap.size (w.heap.size + 1) (newD q w.heap.size) := by
    refine ⟨?_, by omega, k1.alloc _, Nat.le_refl _, ?_, ?_, ?_, rfl, ⟨h1, h2⟩, Int.le_refl _, fun h => by cases h⟩
    · have := (MapKept.heap_alloc (w.alloc (.map #[] 0)) (.cells #[.int .i64 0, .int .i64 0, .bool false, .bool false, .int .i64 q, .int .i64 0, .map (some w.heap.size)] 64)).1
      simpa [rowD, newD] using this
    · intro p hp; cases hp
    · intro p hp; cases hp
    · intro p hp; cases hp
  clear k1
  go_enter Try.func11, Try.ntmps11
  go_wp2
  go_ret2
  exact ⟨rfl, hfin, ((Below.refl _ w).alloc (Nat.le_refl _) _).alloc (by simp) _⟩
theorem new_no (w : World) (q : Int) (h : q < 0 ∨ 16777216 < q) : Calls Try.prog 11 #[.int .i64 q] w fun e w' => e = .returned (.tuple #[.pointer none, eN_ 2]) ∧ w' = w := by
  rcases h with h | h
  · go_enter Try.func11, Try.ntmps11
    go_wp2
    go_ret2
    exact ⟨rfl, rfl⟩
  · have h' : 0 ≤ q := by omega
    go_enter Try.func11, Try.ntmps11
    go_wp2
    go_ret2
    exact ⟨rfl, rfl⟩

theorem restore_d (hrow : w.heap[b]? = some (.cells (rowD D) 64 (0, 0))) : Calls Try.prog 46 #[pD b] w fun e w' => e = .returned (.tuple #[]) ∧ Wt w w' b (rowD (litD D)) 64 := by
  have c0 : w.cell? ⟨b, 0, none⟩ = some (.int .i64 D.steps) := cell_row hrow 0
  have c1 : w.cell? ⟨b, 1, none⟩ = some (.int .i64 D.left) := cell_row hrow 1
  have c2 : w.cell? ⟨b, 2, none⟩ = some (.bool D.armed) := cell_row hrow 2
  have c3 : w.cell? ⟨b, 3, none⟩ = some (.bool D.gone) := cell_row hrow 3
  have f0 := froz_row hrow 0
  have f1 := froz_row hrow 1
  have f2 := froz_row hrow 2
  have f3 := froz_row hrow 3
  have hbd := bdW D.steps
  have hw := (((Wt.refl hrow).cell 0 (.int .i64 D.steps)).cell 1 (.int .i64 0)).cell 2 (.bool false) |>.cell 3 (.bool false)
  have e : ((((rowD D).setIfInBounds 0 (.int .i64 D.steps)).setIfInBounds 1 (.int .i64 0)).setIfInBounds 2 (.bool false)).setIfInBounds 3 (.bool false) = rowD (litD D) := by simp [rowD, litD]
  rw [e] at hw
  clear hrow e
  generalize rowD (litD D) = X at *
  go_enter Try.func46, Try.ntmps46
  go_wp2
  go_end0
  exact ⟨rfl, hw⟩

theorem read_down (h : DkAt w base b D) (hg : D.gone = true) (s : ByteArray) : Calls Try.prog 21 #[pD b, .string s] w fun e w' => e = .returned (.tuple #[.slice none 0 0, eN_ 4]) ∧ w' = w := by
  have hd := down_d h
  rw [hg] at hd
  go_enter Try.func21, Try.ntmps21
  go_wp2_with fail
  refine hd.mono ?_
  rintro e w1 ⟨rfl, rfl⟩
  go_wp2
  go_ret2
  exact ⟨rfl, rfl⟩
theorem read_n (h : DkAt w base b D) (hg : D.gone = false) {s : ByteArray} (hs : s.size ≤ maxLen) (hp : findF s.data.toList D.fs = none) : Calls Try.prog 21 #[pD b, .string s] w fun e w' => e = .returned (.tuple #[.slice none 0 0, eN_ 5]) ∧ w' = w := by
  have hd := down_d h
  rw [hg] at hd
  go_enter Try.func21, Try.ntmps21
  go_wp2_with fail
  refine hd.mono ?_
  rintro e w1 ⟨rfl, rfl⟩
  go_wp2_with fail
  refine (find_n h hs hp).mono ?_
  rintro e w1 ⟨rfl, rfl⟩
  clear h hd
  go_wp2
  go_ret2
  exact ⟨rfl, rfl⟩
theorem read_ok (h : DkAt w base b D) (hg : D.gone = false) {s : ByteArray} (hs : s.size ≤ maxLen) {p : Fn} (hp : findF s.data.toList D.fs = some p) (hlen : (D.ct p.2).dat.length ≤ 100000000) : Calls Try.prog 21 #[pD b, .string s] w fun e w' => ∃ v', e = .returned (.tuple #[v', .nilIface]) ∧ w'.ownsRow w.heap.size 5 1 v' (D.ct p.2).dat.length (byteVals (D.ct p.2).dat) ∧ Below w.heap.size w w' := by
  have hd := down_d h
  rw [hg] at hd
  have hf := h.fil p (find_mem hp).1
  obtain ⟨a, cap, hv, hbs, hform⟩ := bs_own hf.dat hf.byt
  have c0 : w.cell? ⟨p.2, 0, none⟩ = some (.slice a (D.ct p.2).dat.length cap) := by rw [← hv]; exact cell_row hf.row 0
  have hcl : Calls Try.prog 50 #[.slice a (D.ct p.2).dat.length cap] w fun e w' => ∃ v', e = .returned v' ∧ w'.ownsRow w.heap.size 5 1 v' (D.ct p.2).dat.length (byteVals (D.ct p.2).dat) ∧ Below w.heap.size w w' := by
    rcases hform with ⟨rfl, e1, rfl⟩ | ⟨g, rfl⟩
    · rw [e1]
      refine (clone_nil w).mono ?_
      rintro e w1 ⟨rfl, rfl⟩
      refine ⟨_, rfl, ?_, Below.refl _ _⟩
      have : (D.ct p.2).dat = [] := List.eq_nil_of_length_eq_zero e1
      rw [this]
      exact World.ownsRow_nil _ _ _ _
    · exact clone_some hbs hlen
  go_enter Try.func21, Try.ntmps21
  go_wp2_with fail
  refine hd.mono ?_
  rintro e w1 ⟨rfl, rfl⟩
  go_wp2_with fail
  refine (find_s h hs hp).mono ?_
  rintro e w1 ⟨rfl, rfl⟩
  clear h hd hf
  go_wp2_with fail
  refine hcl.mono ?_
  rintro e w2 ⟨v', rfl, h1, h2⟩
  clear hcl
  go_wp2
  go_ret2
  exact ⟨v', rfl, h1, h2⟩
end Go.Proofs.Ytcmgpllnficmdaa

namespace Go.Proofs.Ytcmgpllnficmdaa
open Go.RowKit Go.Maps

variable {w w' : World} {base b : Nat} {D : Dsk}

theorem ranges_fr {S : Nat → Prop} {n r bm cnt : Nat} {X : DataW Unit} {left : Lit → Bool} (h : w.ranges Try.prog 9 fElem bm r n X left cnt) (f : Fr S w w') (h1 : ¬ S bm) (h2 : ¬ S r) : w'.ranges Try.prog 9 fElem bm r n X left cnt := by
  have l1 := h.owns.lt
  have l2 := h.lt
  obtain ⟨es, clock, since, seen, c0, hb, F, hs, hD, hr, rest⟩ := h
  exact ⟨es, clock, since, seen, c0, (f.block bm l1 h1).trans hb, F, hs, hD, (f.block r l2 h2).trans hr, rest⟩
theorem ne_iter {n r bm cnt i : Nat} {X : DataW Unit} {left : Lit → Bool} {c : Array Value} {t : TypeId} {fr : Nat × Nat} (h : w.ranges Try.prog 9 fElem bm r n X left cnt) (hi : w.heap[i]? = some (.cells c t fr)) : r ≠ i := by
  rintro rfl
  obtain ⟨es, clock, since, seen, c0, _, _, _, _, hr, _⟩ := h
  rw [hi] at hr; cases hr
theorem fp_iter {n r cnt : Nat} {X : DataW Unit} {left : Lit → Bool} (h : DkAt w base b D) (hr : w.ranges Try.prog 9 fElem D.bm r n X left cnt) : ∀ k, fp b D k → k ≠ r := by
  rintro k (e | e | ⟨p, hp, e⟩ | ⟨p, hp, e⟩) ek
  · exact ne_iter hr h.row (ek.symm.trans e)
  · exact hr.ne (ek.symm.trans e)
  · exact ne_iter hr (h.fil p hp).row (ek.symm.trans e)
  · obtain ⟨cur, hc⟩ := own_cells (h.fil p hp).dat e
    exact ne_iter hr hc ek.symm

abbrev mx (k : Int) : Int := if k < 0 then 0 else k
theorem mx_nn (k : Int) : 0 ≤ mx k := by unfold mx; split <;> omega
def mkV : Option Nat → Value
  | none => .pointer none
  | some q => pD q
theorem invV9 (v : Value) (y : DataW Unit × List MemPlace) (h : fElem v = some y) : ∃ c, v = mkV c := by
  rcases fElem_inv h with ⟨rfl, _⟩ | ⟨q, rfl, _⟩
  · exact ⟨none, rfl⟩
  · exact ⟨some q, rfl⟩
theorem invK9 (key : Value) (kl : Lit) (h : keyOf Try.prog 9 key = some kl) : ∃ x : List UInt8, key = encStr x := by
  obtain ⟨x, hx, _⟩ := Maps.keyOf_str Try.underlying9 h
  exact ⟨x, hx⟩
/-- An entry that comes up is a file's. -/
theorem entry_fs {fs : List Fn} {x : List UInt8} {c : Option Nat} {kl : Lit} {yd : DataW Unit} {yp : List MemPlace} (hk : keyOf Try.prog 9 (encStr x) = some kl) (hv : fElem (mkV c) = some (yd, yp)) (hat : ∀ zd, (dm fs).atKey kl zd = yd) : ∃ p ∈ fs, p.1 = x ∧ kl = .string x ∧ c = some p.2 := by
  obtain ⟨x', ex, rfl, _⟩ := Maps.keyOf_str Try.underlying9 hk
  obtain rfl : x = x' := encStr_inj ex
  cases hf : findF x fs with
  | none =>
    have h1 := hat .nil
    have h2 := hat (.agg [])
    rw [at_dm, hf] at h1 h2
    rw [← h2] at h1; cases h1
  | some p =>
    have h1 := hat .nil
    rw [at_dm, hf] at h1
    refine ⟨p, (find_mem hf).1, (find_mem hf).2, rfl, ?_⟩
    cases c with
    | none => cases hv; cases h1
    | some q =>
      cases hv
      simp only [DataW.lit.injEq, Lit.int.injEq, true_and] at h1
      rw [show p.2 = q by omega]

theorem names_inj : ∀ {l : List Fn}, (l.Pairwise fun p q => p.1 ≠ q.1) → ∀ {x y : Fn}, x ∈ l → y ∈ l → x.1 = y.1 → x = y
  | [], _, _, _, hx, _, _ => by cases hx
  | a :: r, hp, x, y, hx, hy, e => by
    obtain ⟨h1, h2⟩ := List.pairwise_cons.1 hp
    rcases List.mem_cons.1 hx with hx1 | hx1 <;> rcases List.mem_cons.1 hy with hy1 | hy1
    · rw [hx1, hy1]
    · subst hx1; exact absurd e (h1 y hy1)
    · subst hy1; exact absurd e.symm (h1 x hx1)
    · exact names_inj h2 hx1 hy1 e
theorem len_le (h : DkAt w base b D) {p : Fn} (hp : p ∈ D.fs) : ((D.ct p.2).dat.length : Int) ≤ D.used := by
  rw [h.usd]
  have : ∀ (l : List Fn), p ∈ l → ((D.ct p.2).dat.length : Int) ≤ lens l D.ct := by
    intro l
    induction l with
    | nil => intro h; cases h
    | cons y r ih =>
      intro hy
      rw [lens_cons]
      rcases List.mem_cons.1 hy with rfl | hy
      · have := lens_nn r D.ct; omega
      · have := ih hy; omega
  exact this _ hp

/-- On the way through the files: those that are still to come are as they were. -/
structure CrI (w wr : World) (base b r : Nat) (D D1 : Dsk) (k : Int) (left : Lit → Bool) (cnt : Nat) : Prop where
  rg : wr.ranges Try.prog 9 fElem D.bm r D.fs.length (dm D.fs) left cnt
  dk : DkAt wr base b D1
  eq : D1 = { D with used := D1.used, ct := D1.ct }
  on : ∀ p ∈ D.fs, left (.string p.1) = true → D1.ct p.2 = D.ct p.2
  off : ∀ p ∈ D.fs, left (.string p.1) = false → crashC (D.ct p.2) (D1.ct p.2) k
  fr : Fr (fp b D) w wr
  gr : Grow w b D D1
  rw_ : w.heap.size ≤ r

theorem cr_used {D : Dsk} {c' : Fc} {p : Fn} {k : Int} (hc : crashC (D.ct p.2) c' k) (hs : (D.ct p.2).sure ≤ (D.ct p.2).dat.length) : (c'.dat.length : Int) = keepN (D.ct p.2) k := by
  rw [hc.1, List.length_take, Nat.min_eq_left (keepN_le _ _ hs)]

theorem CrI.next {wr w1 w2 : World} {r cnt cnt1 : Nat} {D1 : Dsk} {k : Int} {left left1 : Lit → Bool} (h : CrI w wr base b r D D1 k left cnt) {p : Fn} (hp : p ∈ D.fs) (hl : left (.string p.1) = true) (hl1 : ∀ x, left1 (.string x) = (left (.string x) && !(x == p.1)))
    (hrg : w1.ranges Try.prog 9 fElem D.bm r D.fs.length (dm D.fs) left1 cnt1) (hg1 : Fr (· = r) wr w1) {c' : Fc} (hc : crashC (D.ct p.2) c' k) (hC : Cutd w1 w2 base p.2 (D.ct p.2) c') :
    CrI w (w2.setCell ⟨b, 5, none⟩ (.int .i64 (D1.used - ((D.ct p.2).dat.length - keepN (D.ct p.2) k)))) base b r D { D1 with used := D1.used - ((D.ct p.2).dat.length - keepN (D.ct p.2) k), ct := updC D1.ct p.2 c' } k left1 cnt1 := by
  have hfs : D1.fs = D.fs := by rw [h.eq]
  have hbm : D1.bm = D.bm := by rw [h.eq]
  have hct : D1.ct p.2 = D.ct p.2 := h.on p hp hl
  have hp1 : p ∈ D1.fs := by rw [hfs]; exact hp
  have hrg0 : wr.ranges Try.prog 9 fElem D1.bm r D.fs.length (dm D.fs) left cnt := by rw [hbm]; exact h.rg
  have h1 : DkAt w1 base b D1 := h.dk.fr hg1 (fp_iter h.dk hrg0)
  have hsur := (h1.fil p hp1).sur
  rw [hct] at hsur
  have hlen := cr_used hc hsur
  have hbq : b ≠ p.2 := h1.b_f hp1
  have hrow2 : w2.heap[b]? = some (.cells (rowD D1) 64 (0, 0)) := by
    rw [hC.fr.block b (Array.getElem?_eq_some_iff.1 h1.row).1 hbq]; exact h1.row
  have hw := (Wt.refl hrow2).cell 5 (.int .i64 (D1.used - ((D.ct p.2).dat.length - keepN (D.ct p.2) k)))
  have e : (rowD D1).setIfInBounds 5 (.int .i64 (D1.used - ((D.ct p.2).dat.length - keepN (D.ct p.2) k))) = rowD { D1 with used := D1.used - ((D.ct p.2).dat.length - keepN (D.ct p.2) k), ct := updC D1.ct p.2 c' } := by simp [rowD]
  rw [e] at hw
  have hkl := keepN_le (D.ct p.2) k hsur
  have f2 : Fr (fun i => i = b ∨ i = p.2) w1 (w2.setCell ⟨b, 5, none⟩ (.int .i64 (D1.used - ((D.ct p.2).dat.length - keepN (D.ct p.2) k)))) := (hC.fr.mono fun _ _ e => .inr e).trans hw.fr fun _ _ e => .inl e
  have hne : ∀ x ∈ D.fs, x.1 ≠ p.1 → x.2 ≠ p.2 := fun x hx hx1 e => hx1 (by
    have := h1.inj x (by rw [hfs]; exact hx) p hp1 e
    rw [this])
  have hsame : ∀ x ∈ D.fs, x.1 = p.1 → x = p := fun x hx e => by
    have := h.dk.nd
    rw [hfs] at this
    exact names_inj this hx hp e
  refine ⟨?_, ?_, ?_, ?_, ?_, ?_, ?_, h.rw_⟩
  · refine ranges_fr hrg f2 ?_ ?_
    · rintro (e | e)
      · exact h1.bm_b (hbm.trans e)
      · exact h1.bm_f hp1 (hbm.trans e)
    · rintro (e | e)
      · exact ne_iter hrg h1.row e
      · exact ne_iter hrg (h1.fil p hp1).row e
  · refine h1.file hp1 (c := c') (f2.mono fun i _ e => e.imp id .inl) hw.row ?_ ?_ rfl rfl rfl ?_ rfl ?_ h1.st h1.lf
    · refine hC.fl.fr hw.fr (fun e => hbq e.symm) fun k' hk' e => ?_
      obtain ⟨cur, hcu⟩ := own_cells hC.fl.dat hk'
      exact ne_rows hcu hrow2 (by decide) e
    · rw [hct]; exact hC.own
    · rw [hct, hlen]; show D1.used - _ = D1.used + _ - _; omega
    · have := h1.qt.1
      show D1.used - _ ≤ D1.quota; omega
  · rw [h.eq]
  · intro x hx hlx
    rw [hl1] at hlx
    simp only [Bool.and_eq_true, Bool.not_eq_true', beq_eq_false_iff_ne] at hlx
    show updC D1.ct p.2 c' x.2 = D.ct x.2
    rw [updC_o _ _ (hne x hx hlx.2)]
    exact h.on x hx hlx.1
  · intro x hx hlx
    show crashC (D.ct x.2) (updC D1.ct p.2 c' x.2) k
    rw [hl1] at hlx
    by_cases ex : x.1 = p.1
    · obtain rfl := hsame x hx ex
      rw [updC_s]; exact hc
    · rw [updC_o _ _ (hne x hx ex)]
      refine h.off x hx ?_
      have h2 : (x.1 == p.1) = false := by simpa using ex
      rw [h2] at hlx
      simpa using hlx
  · refine (h.fr.trans hg1 fun i hi e => ?_).trans f2 ?_
    · have := h.rw_; have : i = r := e; omega
    · rintro i _ (e | e)
      · exact .inl e
      · exact .inr (.inr (.inl ⟨p, hp, e⟩))
  · have hsz : w.heap.size ≤ w1.heap.size := Nat.le_trans h.fr.size hg1.size
    rintro i (e | e | ⟨x, hx, e⟩ | ⟨x, hx, e⟩)
    · exact .inl (.inl e)
    · exact .inl (.inr (.inl (e.trans hbm)))
    · exact .inl (.inr (.inr (.inl ⟨x, by rw [← hfs]; exact hx, e⟩)))
    · have e : (updC D1.ct p.2 c' x.2).v.ownBlock = some i := e
      have hx : x ∈ D1.fs := hx
      by_cases ex : x.2 = p.2
      · rw [ex, updC_s] at e
        rcases hC.own with ho | ho
        · rw [ho] at e; exact .inl (.inr (.inr (.inr ⟨p, hp, e⟩)))
        · have := ho i e
          right; omega
      · rw [updC_o _ _ ex] at e
        exact h.gr i (.inr (.inr (.inr ⟨x, hx, e⟩)))

set_option maxHeartbeats 1000000 in
theorem crash_pos (h : DkAt w base b D) (keep : Int) (hkp : 0 ≤ keep) : Calls Try.prog 17 #[pD b, .int .i64 keep] w fun e w' => e = .returned (.tuple #[]) ∧ ∃ D1, D1 = { D with used := D1.used, ct := D1.ct } ∧ (∀ p ∈ D.fs, crashC (D.ct p.2) (D1.ct p.2) keep) ∧ DkAt w' base b (litD D1) ∧ Fr (fp b D) w w' ∧ Grow w b D D1 := by
  have c6 : w.cell? ⟨b, 6, none⟩ = some (.map (some D.bm)) := cell_row h.row 6
  have hmx : max keep 0 = keep := by omega
  go_enter Try.func17, Try.ntmps17
  go_wp2_with (first
    | (at_range; refine wpList_range_own _ rfl _ 60 rfl 9 80 law9 Try.underlying60 _ D.bm D.fs.length _ rfl h.map ?_; intro w0 hrg0 hg0 hs0)
    | go_in)
  go_frame
  go_loopw [5] (fun _ wr => ∃ left cnt D1, CrI w wr base b w.heap.size D D1 keep left cnt) (fun _ wr => wr.rangeLeft D.bm w.heap.size)
  case atStart =>
    have f0 : Fr (fun _ => False) w w0 := fr_grown hg0 _ fun i e => by cases e
    refine ⟨_, _, D, hrg0, h.fr f0 fun _ _ => id, rfl, fun _ _ _ => rfl, fun p hp hl => ?_, f0.mono fun _ _ e => e.elim, fun k hk => .inl hk, Nat.le_refl _⟩
    exfalso
    have : Maps.has (dm D.fs) (.string p.1) = true := by
      show (D.fs.map encE).any _ = true
      rw [List.any_eq_true]
      exact ⟨encE p, List.mem_map.2 ⟨p, hp, rfl⟩, by simp [encE, Lit.sameKey]⟩
    rw [this] at hl; cases hl
  case round =>
    obtain ⟨left, cnt, D1, hI⟩ := hrel
    go_wp2_with (first
      | (at_next; refine wpList_next_ranges _ rfl _ rfl 9 law9 fElem encStr mkV invK9 invV9 D.bm w.heap.size D.fs.length _ _ _ rfl hI.rg ?_ ?_)
      | go_in)
    · intro _ hl0
      have hrs := restore_d hI.dk.row
      have hfin : ∀ w2, Wt _ w2 b (rowD (litD D1)) 64 → ∃ D1, D1 = { D with used := D1.used, ct := D1.ct } ∧ (∀ p ∈ D.fs, crashC (D.ct p.2) (D1.ct p.2) keep) ∧ DkAt w2 base b (litD D1) ∧ Fr (fp b D) w w2 ∧ Grow w b D D1 := fun w2 hw2 =>
        ⟨D1, hI.eq, fun p hp => hI.off p hp (hl0 _), hI.dk.turn hw2 rfl rfl rfl rfl rfl hI.dk.st (fun e => by cases e), hI.fr.trans hw2.fr fun i _ e => .inl e, hI.gr⟩
      clear hI h
      go_wp2_with fail
      refine hrs.mono ?_
      rintro e w2 ⟨rfl, hw2⟩
      have hfin := hfin w2 hw2
      clear hrs hw2
      go_wp2
      go_end0
      exact ⟨rfl, hfin⟩
    · intro x c kl yd yp w1 cnt1 hkey hlk hv hat hrg1 hlt hg1 hs1 hen
      clear hs1
      obtain ⟨p, hp, rfl, rfl, rfl⟩ := entry_fs hkey hv hat
      have hbm : D1.bm = D.bm := by rw [hI.eq]
      have hp1 : p ∈ D1.fs := by rw [hI.eq]; exact hp
      have hct := hI.on p hp hlk
      have hfr1 : Fr (· = w.heap.size) _ w1 := fr_grown hg1 _ fun i e => by cases e; rfl
      have h1 : DkAt w1 base b D1 := hI.dk.fr hfr1 (fp_iter hI.dk (by rw [hbm]; exact hI.rg))
      have hlen := len_le h1 hp1
      have hq := h1.qt
      have hf := h1.fil p hp1
      rw [hct] at hf hlen
      have hkl := keepN_le (D.ct p.2) keep hf.sur
      have hnext := fun (w2 : World) (c' : Fc) (hc : crashC (D.ct p.2) c' keep) (hC : Cutd w1.drew w2 base p.2 (D.ct p.2) c') => hI.next hp hlk (left1 := fun z => left z && !z.sameKey (.string p.1)) (fun _ => rfl) hrg1 hfr1 hc ⟨hC.fl, ⟨hC.fr.os, hC.fr.tape, hC.fr.output, hC.fr.size, hC.fr.block⟩, hC.own⟩
      have hmeas : ∀ W D2, CrI w W base b w.heap.size D D2 keep (fun z => left z && !z.sameKey (.string p.1)) cnt1 → W.rangeLeft D.bm w.heap.size < wr.rangeLeft D.bm w.heap.size := fun W D2 h2 => by rw [h2.rg.left_eq, hI.rg.left_eq]; exact hlt
      have hrow1 := h1.row
      have h5r : (rowD D1)[5]? = some (.int .i64 D1.used) := rfl
      have hbq := h1.b_f hp1
      have u5 : w1.cell? ⟨b, 5, none⟩ = some (.int .i64 D1.used) := cell_row hrow1 5
      have hblt : b < w1.heap.size := (Array.getElem?_eq_some_iff.1 hrow1).1
      have hus : 0 ≤ ((D.ct p.2).dat.length : Int) - keepN (D.ct p.2) keep := by omega
      have hus2 : ((D.ct p.2).dat.length : Int) - keepN (D.ct p.2) keep ≤ D1.used := by omega
      have hqu : D1.used ≤ 16777216 := by omega
      have hcr : Calls Try.prog 45 #[pD p.2, .int .i64 keep] w1.drew fun e w' => e = .returned (.int .i64 (((D.ct p.2).dat.length : Int) - keepN (D.ct p.2) keep)) ∧ ∃ c', crashC (D.ct p.2) c' keep ∧ Cutd w1.drew w' base p.2 (D.ct p.2) c' := fcrash_d (w := w1.drew) ⟨hf.row, hf.ge, hf.dat, hf.byt, hf.sur⟩ keep (by omega) (by omega)
      clear hI hat hrg1 hlt hfr1 h1 hlen hq hf hkl hkey hv hbm hp1 hct hg1 h c6
      generalize ((D.ct p.2).dat.length : Int) - keepN (D.ct p.2) keep = x at *
      generalize D1.used = us at *
      simp only [mkV] at hen
      go_wp2
      have hk2 : ¬ keep < 0 := by omega
      have hwr : IntKind.i64.wrap (us - x) = us - x := by go_unwrap
      go_region_with (go_at_call 45; refine hcr.mono ?_; rintro e w2 ⟨rfl, c', hc', hC⟩; have hI2 := hnext w2 c' hc' hC; have r2 : w2.heap[b]? = some (.cells (rowD D1) 64 (0, 0)) := (hC.fr.block b hblt hbq).trans hrow1; have v5 : w2.cell? ⟨b, 5, none⟩ = some (.int .i64 us) := (cell_row r2 5).trans h5r; have f5 := froz_row r2 5; clear hnext hc' hC r2)
      all_goals go_roundw
      all_goals first | exact ⟨_, _, _, _, _, _, _, _, _, _, _, _, _, _, _, _, ⟨_, _, _, hI2⟩, rfl⟩ | exact hmeas _ _ hI2

set_option maxHeartbeats 1000000 in
theorem crash_neg (h : DkAt w base b D) (keep : Int) (hkp : keep < 0) : Calls Try.prog 17 #[pD b, .int .i64 keep] w fun e w' => e = .returned (.tuple #[]) ∧ ∃ D1, D1 = { D with used := D1.used, ct := D1.ct } ∧ (∀ p ∈ D.fs, crashC (D.ct p.2) (D1.ct p.2) 0) ∧ DkAt w' base b (litD D1) ∧ Fr (fp b D) w w' ∧ Grow w b D D1 := by
  have c6 : w.cell? ⟨b, 6, none⟩ = some (.map (some D.bm)) := cell_row h.row 6
  have hmx : max keep 0 = 0 := by omega
  go_enter Try.func17, Try.ntmps17
  go_wp2_with (first
    | (at_range; refine wpList_range_own _ rfl _ 60 rfl 9 80 law9 Try.underlying60 _ D.bm D.fs.length _ rfl h.map ?_; intro w0 hrg0 hg0 hs0)
    | go_in)
  go_frame
  go_loopw [5] (fun _ wr => ∃ left cnt D1, CrI w wr base b w.heap.size D D1 0 left cnt) (fun _ wr => wr.rangeLeft D.bm w.heap.size)
  case atStart =>
    have f0 : Fr (fun _ => False) w w0 := fr_grown hg0 _ fun i e => by cases e
    refine ⟨_, _, D, hrg0, h.fr f0 fun _ _ => id, rfl, fun _ _ _ => rfl, fun p hp hl => ?_, f0.mono fun _ _ e => e.elim, fun k hk => .inl hk, Nat.le_refl _⟩
    exfalso
    have : Maps.has (dm D.fs) (.string p.1) = true := by
      show (D.fs.map encE).any _ = true
      rw [List.any_eq_true]
      exact ⟨encE p, List.mem_map.2 ⟨p, hp, rfl⟩, by simp [encE, Lit.sameKey]⟩
    rw [this] at hl; cases hl
  case round =>
    obtain ⟨left, cnt, D1, hI⟩ := hrel
    go_wp2_with (first
      | (at_next; refine wpList_next_ranges _ rfl _ rfl 9 law9 fElem encStr mkV invK9 invV9 D.bm w.heap.size D.fs.length _ _ _ rfl hI.rg ?_ ?_)
      | go_in)
    · intro _ hl0
      have hrs := restore_d hI.dk.row
      have hfin : ∀ w2, Wt _ w2 b (rowD (litD D1)) 64 → ∃ D1, D1 = { D with used := D1.used, ct := D1.ct } ∧ (∀ p ∈ D.fs, crashC (D.ct p.2) (D1.ct p.2) 0) ∧ DkAt w2 base b (litD D1) ∧ Fr (fp b D) w w2 ∧ Grow w b D D1 := fun w2 hw2 =>
        ⟨D1, hI.eq, fun p hp => hI.off p hp (hl0 _), hI.dk.turn hw2 rfl rfl rfl rfl rfl hI.dk.st (fun e => by cases e), hI.fr.trans hw2.fr fun i _ e => .inl e, hI.gr⟩
      clear hI h
      go_wp2_with fail
      refine hrs.mono ?_
      rintro e w2 ⟨rfl, hw2⟩
      have hfin := hfin w2 hw2
      clear hrs hw2
      go_wp2
      go_end0
      exact ⟨rfl, hfin⟩
    · intro x c kl yd yp w1 cnt1 hkey hlk hv hat hrg1 hlt hg1 hs1 hen
      clear hs1
      obtain ⟨p, hp, rfl, rfl, rfl⟩ := entry_fs hkey hv hat
      have hbm : D1.bm = D.bm := by rw [hI.eq]
      have hp1 : p ∈ D1.fs := by rw [hI.eq]; exact hp
      have hct := hI.on p hp hlk
      have hfr1 : Fr (· = w.heap.size) _ w1 := fr_grown hg1 _ fun i e => by cases e; rfl
      have h1 : DkAt w1 base b D1 := hI.dk.fr hfr1 (fp_iter hI.dk (by rw [hbm]; exact hI.rg))
      have hlen := len_le h1 hp1
      have hq := h1.qt
      have hf := h1.fil p hp1
      rw [hct] at hf hlen
      have hkl := keepN_le (D.ct p.2) 0 hf.sur
      have hnext := fun (w2 : World) (c' : Fc) (hc : crashC (D.ct p.2) c' 0) (hC : Cutd w1.drew w2 base p.2 (D.ct p.2) c') => hI.next hp hlk (left1 := fun z => left z && !z.sameKey (.string p.1)) (fun _ => rfl) hrg1 hfr1 hc ⟨hC.fl, ⟨hC.fr.os, hC.fr.tape, hC.fr.output, hC.fr.size, hC.fr.block⟩, hC.own⟩
      have hmeas : ∀ W D2, CrI w W base b w.heap.size D D2 0 (fun z => left z && !z.sameKey (.string p.1)) cnt1 → W.rangeLeft D.bm w.heap.size < wr.rangeLeft D.bm w.heap.size := fun W D2 h2 => by rw [h2.rg.left_eq, hI.rg.left_eq]; exact hlt
      have hrow1 := h1.row
      have h5r : (rowD D1)[5]? = some (.int .i64 D1.used) := rfl
      have hbq := h1.b_f hp1
      have u5 : w1.cell? ⟨b, 5, none⟩ = some (.int .i64 D1.used) := cell_row hrow1 5
      have hblt : b < w1.heap.size := (Array.getElem?_eq_some_iff.1 hrow1).1
      have hus : 0 ≤ ((D.ct p.2).dat.length : Int) - keepN (D.ct p.2) 0 := by omega
      have hus2 : ((D.ct p.2).dat.length : Int) - keepN (D.ct p.2) 0 ≤ D1.used := by omega
      have hqu : D1.used ≤ 16777216 := by omega
      have hcr : Calls Try.prog 45 #[pD p.2, .int .i64 0] w1.drew fun e w' => e = .returned (.int .i64 (((D.ct p.2).dat.length : Int) - keepN (D.ct p.2) 0)) ∧ ∃ c', crashC (D.ct p.2) c' 0 ∧ Cutd w1.drew w' base p.2 (D.ct p.2) c' := fcrash_d (w := w1.drew) ⟨hf.row, hf.ge, hf.dat, hf.byt, hf.sur⟩ 0 (by omega) (by omega)
      clear hI hat hrg1 hlt hfr1 h1 hlen hq hf hkl hkey hv hbm hp1 hct hg1 h c6
      generalize ((D.ct p.2).dat.length : Int) - keepN (D.ct p.2) 0 = x at *
      generalize D1.used = us at *
      simp only [mkV] at hen
      go_wp2
      have hk2 : keep < 0 := by omega
      have hwr : IntKind.i64.wrap (us - x) = us - x := by go_unwrap
      go_region_with (go_at_call 45; refine hcr.mono ?_; rintro e w2 ⟨rfl, c', hc', hC⟩; have hI2 := hnext w2 c' hc' hC; have r2 : w2.heap[b]? = some (.cells (rowD D1) 64 (0, 0)) := (hC.fr.block b hblt hbq).trans hrow1; have v5 : w2.cell? ⟨b, 5, none⟩ = some (.int .i64 us) := (cell_row r2 5).trans h5r; have f5 := froz_row r2 5; clear hnext hc' hC r2)
      all_goals go_roundw
      all_goals first | exact ⟨_, _, _, _, _, _, _, _, _, _, _, _, _, _, _, _, ⟨_, _, _, hI2⟩, rfl⟩ | exact hmeas _ _ hI2
end Go.Proofs.Ytcmgpllnficmdaa

namespace Go.Proofs.Ytcmgpllnficmdaa
open Go.RowKit Go.Maps

variable {w w' : World} {base b : Nat} {D : Dsk}

/-- What a disk is behind a crash. -/
def CrR (D D1 : Dsk) (keep : Int) : Prop := D1 = { D with used := D1.used, ct := D1.ct } ∧ ∀ p ∈ D.fs, crashC (D.ct p.2) (D1.ct p.2) (mx keep)
theorem crash_d (h : DkAt w base b D) (keep : Int) : Calls Try.prog 17 #[pD b, .int .i64 keep] w fun e w' => e = .returned (.tuple #[]) ∧ ∃ D1, CrR D D1 keep ∧ DkAt w' base b (litD D1) ∧ Fr (fp b D) w w' ∧ Grow w b D D1 := by
  by_cases hk : keep < 0
  · have e : mx keep = 0 := by simp [mx, hk]
    unfold CrR
    rw [e]
    refine (crash_neg h keep hk).mono ?_
    rintro e w2 ⟨h0, D1, h1, h2, h3⟩
    exact ⟨h0, D1, ⟨h1, h2⟩, h3⟩
  · have e : mx keep = keep := by simp [mx, hk]
    unfold CrR
    rw [e]
    refine (crash_pos h keep (by omega)).mono ?_
    rintro e w2 ⟨h0, D1, h1, h2, h3⟩
    exact ⟨h0, D1, ⟨h1, h2⟩, h3⟩

theorem step_below {w w1 w2 : World} {base b : Nat} {D : Dsk} (h0 : Below base w w1) (hb : base ≤ w.heap.size) (h : DkAt w1 base b D) (f : Fr (fp b D) w1 w2) : Below base w w2 :=
  h0.trans (f.below base (Nat.le_trans hb h0.size) (fp_ge h))

theorem bs_three (w : World) (x y z : Int) (h : ∀ u ∈ [x, y, z], 0 ≤ u ∧ u < 256) : Bs (w.alloc (.cells #[.int .u8 x, .int .u8 y, .int .u8 z] 5 (3, 4))) (some ⟨w.heap.size, 0, none⟩) 3 [x, y, z] := bs_new w [x, y, z] (3, 4) h

set_option maxHeartbeats 2000000 in
theorem alive_t (w : World) : Calls Try.prog 9 #[] w fun e w' => e = .returned (.bool true) ∧ Below w.heap.size w w' := by
  have kc := fun (w : World) (C : Array Value) (n c : Nat) => Lib.run_convert_bytes_const (P := Try.prog) w 35 5 C n c Try.underlying35 Try.underlying5
  go_enter Try.func9, Try.ntmps9
  go_wp2_with fail
  refine (new_ok w 100 (by decide) (by decide)).mono ?_
  rintro e w1 ⟨rfl, h1, b1⟩
  go_wp2_with fail
  -- abc
  have hbl : w.heap.size + 1 < w1.heap.size := (Array.getElem?_eq_some_iff.1 h1.row).1
  obtain ⟨u1, hu1⟩ : ∃ u, Hid (u = w1.alloc (.cells #[.int .u8 97, .int .u8 98, .int .u8 99] 5 (3, 4))) := ⟨_, hide1 rfl⟩
  have bu1 : Below w1.heap.size w1 u1 := by rw [hu1.out]; exact (Below.refl _ _).alloc (Nat.le_refl _) _
  have hs1 : Bs u1 (some ⟨w1.heap.size, 0, none⟩) 3 [97, 98, 99] := by rw [hu1.out]; exact bs_three w1 97 98 99 (by decide)
  have k1 := h1.later bu1
  have c1 := append_ok (s := ⟨#[97]⟩) (cap := 3) k1 (by decide) (by decide) hs1 (fun x e _ => by cases e; simp only; omega) (show ((3 : Nat) : Int) ≤ 100 - 0 by decide) ⟨rfl, fun e => by cases e⟩ (show (0 : Int) < 1000000000 by decide) (show 0 < 1000000 by decide) (by have := b1.size; have := bu1.size; omega)
  rw [← hu1.out]
  refine c1.mono ?_
  rintro e w2 ⟨rfl, D1, hr1, h2, f2, _⟩
  have b2 : Below w.heap.size w w2 := step_below (b1.trans (bu1.mono b1.size)) (Nat.le_refl _) k1 f2
  rcases hr1 with ⟨p, v', e, _⟩ | ⟨_, q, v1, rfl⟩
  · cases e
  clear c1 k1 hs1 bu1 hu1 h1 b1 f2
  go_wp2_with fail
  -- Sync
  have hp : findF (⟨#[97]⟩ : ByteArray).data.toList (putF (⟨#[97]⟩ : ByteArray).data.toList q []) = some ([97], q) := rfl
  have c2 := sync_ok (s := ⟨#[97]⟩) h2 (by decide) hp ⟨rfl, fun e => by cases e⟩ (show (0 + 1 : Int) < 1000000000 by decide)
  refine c2.mono ?_
  rintro e w3 ⟨rfl, h3, f3⟩
  have b3 : Below w.heap.size w w3 := step_below b2 (Nat.le_refl _) h2 f3
  clear c2 h2 b2 f3
  go_wp2_with fail
  -- def
  have hbl3 : w.heap.size + 1 < w3.heap.size := (Array.getElem?_eq_some_iff.1 h3.row).1
  obtain ⟨u3, hu3⟩ : ∃ u, Hid (u = w3.alloc (.cells #[.int .u8 100, .int .u8 101, .int .u8 102] 5 (3, 4))) := ⟨_, hide1 rfl⟩
  have bu3 : Below w3.heap.size w3 u3 := by rw [hu3.out]; exact (Below.refl _ _).alloc (Nat.le_refl _) _
  have hs3 : Bs u3 (some ⟨w3.heap.size, 0, none⟩) 3 [100, 101, 102] := by rw [hu3.out]; exact bs_three w3 100 101 102 (by decide)
  have k3 := h3.later bu3
  have c3 := append_ok (s := ⟨#[97]⟩) (cap := 3) k3 (by decide) (by decide) hs3 (fun x e _ => by cases e; simp only; omega) (show ((3 : Nat) : Int) ≤ 100 - (0 + 3) by decide) ⟨rfl, fun e => by cases e⟩ (show (0 + 1 + 1 : Int) < 1000000000 by decide) (show 1 < 1000000 by decide) (by have := b3.size; have := bu3.size; omega)
  rw [← hu3.out]
  refine c3.mono ?_
  rintro e w4 ⟨rfl, D3, hr3, h4, f4, _⟩
  have b4 : Below w.heap.size w w4 := step_below (b3.trans (bu3.mono b3.size)) (Nat.le_refl _) k3 f4
  rcases hr3 with ⟨p, v3, e, rfl⟩ | ⟨e, _⟩
  rotate_left
  · have e2 : findF [97] [([97], q)] = none := e
    simp [findF] at e2
  obtain rfl : ([97], q) = p := by
    have e2 : findF [97] [([97], q)] = some p := e
    simpa [findF] using e2
  clear c3 k3 hs3 bu3 hu3 h3 b3 f4 e
  go_wp2_with fail
  -- a crash
  refine (crash_d h4 1).mono ?_
  rintro e w5 ⟨rfl, D4, hr4, h5, f5, _⟩
  have b5 : Below w.heap.size w w5 := step_below b4 (Nat.le_refl _) h4 f5
  clear h4 b4 f5
  obtain ⟨e4, hc4⟩ := hr4
  have hc4 := hc4 ([97], q) (by exact List.mem_singleton.2 rfl)
  have hfs : (litD D4).fs = [([97], q)] := by show D4.fs = _; rw [e4]; rfl
  have hst : (litD D4).steps = 3 := by show D4.steps = _; rw [e4]; rfl
  have hdat : ((litD D4).ct q).dat = [97, 98, 99, 100] ∧ ((litD D4).ct q).sure = 4 := by
    unfold crashC at hc4
    simp only [updC, syncd, stepd, newD] at hc4
    simp only [if_true] at hc4
    exact hc4
  have hgone : (litD D4).gone = false := rfl
  clear e4 hc4
  generalize litD D4 = D5 at *
  go_wp2_with fail
  have hp5 : findF (⟨#[97]⟩ : ByteArray).data.toList D5.fs = some ([97], q) := by rw [hfs]; rfl
  refine (read_ok (s := ⟨#[97]⟩) h5 hgone (by decide) hp5 (by rw [hdat.1]; decide)).mono ?_
  rintro e w6 ⟨v6, rfl, o6, b6⟩
  have h6 := h5.later b6
  have b7 : Below w.heap.size w w6 := b5.trans (b6.mono b5.size)
  rw [hdat.1] at o6
  have o7 : w6.ownsRow w5.heap.size 5 1 v6 4 (byteVals [97, 98, 99, 100]) := o6
  obtain ⟨a6, c6, rfl, hb6, _⟩ := bs_own o7 (by decide)
  have hcv := conv_bs hb6 c6
  rw [show strOfNums [97, 98, 99, 100] = ⟨#[97, 98, 99, 100]⟩ from rfl] at hcv
  have hst6 := steps_d h6
  rw [hst] at hst6
  have hsu6 := sure_s (s := ⟨#[97]⟩) h6 (by decide) hp5
  rw [hdat.2] at hsu6
  clear hb6 o6 o7 hdat hst h5 h6 b5 b6 hp5 hgone hfs kc
  go_wp2_with fail
  refine hst6.mono ?_
  rintro e w7 ⟨rfl, rfl⟩
  go_wp2_with fail
  refine hsu6.mono ?_
  rintro e w8 ⟨rfl, rfl⟩
  go_wp2
  go_ret
  exact ⟨rfl, b7⟩
end Go.Proofs.Ytcmgpllnficmdaa

namespace Go.Proofs.Ytcmgpllnficmdaa
open Go.RowKit Go.Maps

variable {w w' : World} {base b : Nat} {D : Dsk}

theorem sync_n (h : DkAt w base b D) {s : ByteArray} (hs : s.size ≤ maxLen) (hp : findF s.data.toList D.fs = none) : Calls Try.prog 26 #[pD b, .string s] w fun e w' => e = .returned (eN_ 5) ∧ Below w.heap.size w w' := by
  go_enter Try.func26, Try.ntmps26
  go_wp2_with fail
  refine (find_n h hs hp).mono ?_
  rintro e w1 ⟨rfl, rfl⟩
  clear h
  go_wp2
  go_ret
  exact ⟨rfl, by go_grown⟩
theorem sync_down (h : DkAt w base b D) {s : ByteArray} (hs : s.size ≤ maxLen) {p : Fn} (hp : findF s.data.toList D.fs = some p) (hg : D.gone = true ∨ (D.armed = true ∧ D.left = 0)) : Calls Try.prog 26 #[pD b, .string s] w fun e w' => e = .returned (eN_ 4) ∧ DkAt w' base b (goned D) ∧ Fr (fp b D) w w' := by
  have hu : Below w.heap.size w (w.alloc (.cells #[pD p.2] 80)) := (Below.refl _ _).alloc (Nat.le_refl _) _
  have hst := step_no (.func (.func 56) #[] #[pD w.heap.size]) (h.later hu).row hg
  go_enter Try.func26, Try.ntmps26
  go_wp2_with fail
  refine (find_s h hs hp).mono ?_
  rintro e w1 ⟨rfl, rfl⟩
  go_wp2_with fail
  refine hst.mono ?_
  rintro e w2 ⟨rfl, hw⟩
  have hfin := no_step h hu hw
  clear h hst hu hw
  go_wp2
  go_ret
  exact ⟨rfl, hfin⟩

/-- A file is turned, and how many bytes there are is told. -/
theorem DkAt.cutd (h : DkAt w base b D) {p : Fn} (hp : p ∈ D.fs) {c' : Fc} {w2 : World} (hC : Cutd w w2 base p.2 (D.ct p.2) c') {u : Int} (hu : u = D.used + c'.dat.length - (D.ct p.2).dat.length) (hle : c'.dat.length ≤ (D.ct p.2).dat.length) :
    DkAt (w2.setCell ⟨b, 5, none⟩ (.int .i64 u)) base b { D with used := u, ct := updC D.ct p.2 c' } ∧ Fr (fp b D) w (w2.setCell ⟨b, 5, none⟩ (.int .i64 u)) ∧ Grow w b D { D with used := u, ct := updC D.ct p.2 c' } := by
  have hbq := h.b_f hp
  have hrow2 : w2.heap[b]? = some (.cells (rowD D) 64 (0, 0)) := by
    rw [hC.fr.block b (Array.getElem?_eq_some_iff.1 h.row).1 hbq]; exact h.row
  have hw := (Wt.refl hrow2).cell 5 (.int .i64 u)
  have e : (rowD D).setIfInBounds 5 (.int .i64 u) = rowD { D with used := u, ct := updC D.ct p.2 c' } := by simp [rowD]
  rw [e] at hw
  have f2 : Fr (fun i => i = b ∨ i = p.2) w (w2.setCell ⟨b, 5, none⟩ (.int .i64 u)) := (hC.fr.mono fun _ _ e => .inr e).trans hw.fr fun _ _ e => .inl e
  refine ⟨?_, f2.mono fun i _ e => e.elim .inl fun e => .inr (.inr (.inl ⟨p, hp, e⟩)), ?_⟩
  · refine h.file hp (c := c') (f2.mono fun i _ e => e.imp id .inl) hw.row ?_ hC.own rfl rfl rfl hu rfl ?_ h.st h.lf
    · refine hC.fl.fr hw.fr (fun e => hbq e.symm) fun k' hk' e => ?_
      obtain ⟨cur, hcu⟩ := own_cells hC.fl.dat hk'
      exact ne_rows hcu hrow2 (by decide) e
    · have := h.qt.1
      show u ≤ D.quota
      omega
  · rintro i (e | e | ⟨x, hx, e⟩ | ⟨x, hx, e⟩)
    · exact .inl (.inl e)
    · exact .inl (.inr (.inl e))
    · exact .inl (.inr (.inr (.inl ⟨x, hx, e⟩)))
    · have e : (updC D.ct p.2 c' x.2).v.ownBlock = some i := e
      by_cases ex : x.2 = p.2
      · rw [ex, updC_s] at e
        rcases hC.own with ho | ho
        · rw [ho] at e; exact .inl (.inr (.inr (.inr ⟨p, hp, e⟩)))
        · exact .inr (ho i e)
      · rw [updC_o _ _ ex] at e
        exact .inl (.inr (.inr (.inr ⟨x, hx, e⟩)))

def cutC (c : Fc) (size : Nat) (v : Value) : Fc := ⟨c.dat.take size, min c.sure size, v⟩
def cutD (D : Dsk) (q size : Nat) (v : Value) : Dsk := { D with used := D.used - ((D.ct q).dat.length - size), ct := updC D.ct q (cutC (D.ct q) size v) }

set_option maxHeartbeats 4000000 in
theorem cut_do (h : DkAt w base b D) {p : Fn} (hp : p ∈ D.fs) {n0 n1 n2 size : Nat} (x0 : w.heap[n0]? = some (.cells #[pD b] 25 (0, 0))) (x1 : w.heap[n1]? = some (.cells #[pD p.2] 80 (0, 0))) (x2 : w.heap[n2]? = some (.cells #[.int .i64 (size : Int)] 3 (0, 0))) (hsz : size ≤ (D.ct p.2).dat.length) :
    Calls Try.prog 57 #[pD n0, pD n1, pD n2] w fun e w' => e = .returned (.tuple #[]) ∧ ∃ v, DkAt w' base b (cutD D p.2 size v) ∧ Fr (fp b D) w w' ∧ Grow w b D (cutD D p.2 size v) := by
  have hf := h.fil p hp
  have hlen := len_le h hp
  have hq := h.qt
  have hrow := h.row
  have hbq := h.b_f hp
  have hblt : b < w.heap.size := (Array.getElem?_eq_some_iff.1 hrow).1
  have b0 : w.cell? ⟨n0, 0, none⟩ = some (pD b) := cell_row x0 0
  have b1 : w.cell? ⟨n1, 0, none⟩ = some (pD p.2) := cell_row x1 0
  have b2 : w.cell? ⟨n2, 0, none⟩ = some (.int .i64 (size : Int)) := cell_row x2 0
  have u5 : w.cell? ⟨b, 5, none⟩ = some (.int .i64 D.used) := cell_row hrow 5
  have h5r : (rowD D)[5]? = some (.int .i64 D.used) := rfl
  have hk : ∀ {w2 : World} {k : Nat} {x : Array Value} {t : TypeId}, Fr (· = p.2) w w2 → w.heap[k]? = some (.cells x t (0, 0)) → t ≠ 90 → w2.heap[k]? = some (.cells x t (0, 0)) := fun {w2 k x t} f hk ht => (f.block k (Array.getElem?_eq_some_iff.1 hk).1 (ne_rows hk hf.row ht)).trans hk
  have hnext : ∀ w2 v, Cutd w.drew w2 base p.2 (D.ct p.2) (cutC (D.ct p.2) size v) → ∃ v, DkAt (w2.setCell ⟨b, 5, none⟩ (.int .i64 (D.used - ((D.ct p.2).dat.length - size)))) base b (cutD D p.2 size v) ∧ Fr (fp b D) w (w2.setCell ⟨b, 5, none⟩ (.int .i64 (D.used - ((D.ct p.2).dat.length - size)))) ∧ Grow w b D (cutD D p.2 size v) := fun w2 v hC =>
    ⟨v, h.cutd hp (c' := cutC (D.ct p.2) size v) ⟨hC.fl, ⟨hC.fr.os, hC.fr.tape, hC.fr.output, hC.fr.size, hC.fr.block⟩, hC.own⟩ (by simp only [cutC, List.length_take]; omega) (by simp only [cutC, List.length_take]; omega)⟩
  have hcut := cut_d (w := w.drew) ⟨hf.row, hf.ge, hf.dat, hf.byt, hf.sur⟩ size hsz (by omega)
  have hx1 : (0 : Int) ≤ ((D.ct p.2).dat.length : Int) - size := by omega
  have hx2 : ((D.ct p.2).dat.length : Int) - size ≤ D.used := by omega
  have hx3 : D.used ≤ 16777216 := by omega
  clear h hlen hq hf
  generalize ((D.ct p.2).dat.length : Int) - size = x at *
  have hwr : IntKind.i64.wrap (D.used - x) = D.used - x := by go_unwrap
  generalize D.used = us at *
  go_enter Try.func57, Try.ntmps57
  go_region_with (go_at_call 58; refine hcut.mono ?_; rintro e w2 ⟨rfl, v, hC⟩; have hfin := hnext w2 v hC; have f2 : Fr (· = p.2) w w2 := ⟨hC.fr.os, hC.fr.tape, hC.fr.output, hC.fr.size, hC.fr.block⟩; have r2 := hk f2 hrow (by decide); have d0 := cell_row (hk f2 x0 (by decide)) 0; have v5 : w2.cell? ⟨b, 5, none⟩ = some (.int .i64 us) := (cell_row r2 5).trans h5r; have f5 := froz_row r2 5; simp only [List.getElem?_toArray, List.getElem?_cons_zero] at d0; clear hC f2 r2 hnext hcut)
  all_goals (go_end0; exact ⟨rfl, hfin⟩)
end Go.Proofs.Ytcmgpllnficmdaa

namespace Go.Proofs.Ytcmgpllnficmdaa
open Go.RowKit Go.Maps

variable {w w' : World} {base b : Nat} {D : Dsk}

/-- The boxes that Cut makes. -/
abbrev boxC (w : World) (b : Nat) (n : Int) : World := (w.alloc (.cells #[pD b] 25)).alloc (.cells #[.int .i64 n] 3)
theorem boxC_below (w : World) (b : Nat) (n : Int) : Below w.heap.size w (boxC w b n) := ((Below.refl _ w).alloc (Nat.le_refl _) _).alloc (by simp) _
abbrev boxK (w : World) (b : Nat) (n : Int) (q : Nat) : World := (boxC w b n).alloc (.cells #[pD q] 80)
theorem boxK_below (w : World) (b : Nat) (n : Int) (q : Nat) : Below w.heap.size w (boxK w b n q) := (boxC_below w b n).alloc (boxC_below w b n).size _
theorem boxK_at (w : World) (b : Nat) (n : Int) (q : Nat) : (boxK w b n q).heap[w.heap.size]? = some (.cells #[pD b] 25 (0, 0)) ∧ (boxK w b n q).heap[w.heap.size + 1]? = some (.cells #[.int .i64 n] 3 (0, 0)) ∧ (boxK w b n q).heap[w.heap.size + 1 + 1]? = some (.cells #[pD q] 80 (0, 0)) := by
  refine ⟨?_, ?_, ?_⟩
  · rw [Below.heap_alloc _ _ _ (by simp; omega), Below.heap_alloc _ _ _ (by simp)]; exact (MapKept.heap_alloc w _).1
  · rw [Below.heap_alloc _ _ _ (by simp)]
    have := (MapKept.heap_alloc (w.alloc (.cells #[pD b] 25)) (.cells #[.int .i64 n] 3)).1
    simpa using this
  · have := (MapKept.heap_alloc (boxC w b n) (.cells #[pD q] 80)).1
    simpa using this

theorem cut_n (h : DkAt w base b D) {s : ByteArray} (hs : s.size ≤ maxLen) (hp : findF s.data.toList D.fs = none) (n : Int) : Calls Try.prog 27 #[pD b, .string s, .int .i64 n] w fun e w' => e = .returned (eN_ 5) ∧ Below w.heap.size w w' := by
  have h1 := h.later (boxC_below w b n)
  go_enter Try.func27, Try.ntmps27
  go_wp2_with fail
  refine (find_n h1 hs hp).mono ?_
  rintro e w1 ⟨rfl, rfl⟩
  clear h h1
  go_wp2
  go_ret
  exact ⟨rfl, by go_grown⟩

theorem cut_rng (h : DkAt w base b D) {s : ByteArray} (hs : s.size ≤ maxLen) {p : Fn} (hp : findF s.data.toList D.fs = some p) (n : Int) (hn : n < 0 ∨ ((D.ct p.2).dat.length : Int) < n) : Calls Try.prog 27 #[pD b, .string s, .int .i64 n] w fun e w' => e = .returned (eN_ 2) ∧ Below w.heap.size w w' := by
  have h1 := h.later (boxC_below w b n)
  have hm := (find_mem hp).1
  have hb := boxK_below w b n p.2
  obtain ⟨y0, y1, y2⟩ := boxK_at w b n p.2
  have hf := (h.later hb).fil p hm
  obtain ⟨fa, fcap, hv⟩ := row_form hf.dat
  have c0 : (boxK w b n p.2).cell? ⟨p.2, 0, none⟩ = some (.slice fa (D.ct p.2).dat.length fcap) := by rw [← hv]; exact cell_row hf.row 0
  have c1 : (boxK w b n p.2).cell? ⟨w.heap.size + 1, 0, none⟩ = some (.int .i64 n) := cell_row y1 0
  have c2 : (boxK w b n p.2).cell? ⟨w.heap.size + 1 + 1, 0, none⟩ = some (pD p.2) := cell_row y2 0
  clear hf hv y0 y1 y2 hm
  rcases (show n < 0 ∨ (¬ n < 0 ∧ ((D.ct p.2).dat.length : Int) < n) by omega) with hn | ⟨hn0, hn1⟩
  · go_enter Try.func27, Try.ntmps27
    go_wp2_with fail
    refine (find_s h1 hs hp).mono ?_
    rintro e w1 ⟨rfl, rfl⟩
    clear h h1
    go_wp2
    go_quiet (fail)
    go_wp2
    go_ret
    exact ⟨rfl, hb.trans ((below_drewN _ _).mono hb.size)⟩
  · go_enter Try.func27, Try.ntmps27
    go_wp2_with fail
    refine (find_s h1 hs hp).mono ?_
    rintro e w1 ⟨rfl, rfl⟩
    clear h h1
    go_wp2
    go_quiet (fail)
    go_wp2
    go_ret
    exact ⟨rfl, hb.trans ((below_drewN _ _).mono hb.size)⟩

theorem cut_step {R : Value → World → Prop} (h : DkAt w base b D) {s : ByteArray} (hs : s.size ≤ maxLen) {p : Fn} (hp : findF s.data.toList D.fs = some p) (n : Int) (hn0 : ¬ n < 0) (hn1 : n ≤ ((D.ct p.2).dat.length : Int))
    (hstep : ∀ k, Calls Try.prog 53 #[pD b, .func (.func 57) #[] #[pD w.heap.size, pD (w.heap.size + 1 + 1), pD (w.heap.size + 1)]] ((boxK w b n p.2).drewN k) fun e w' => ∃ v, e = .returned v ∧ R v w') :
    Calls Try.prog 27 #[pD b, .string s, .int .i64 n] w fun e w' => ∃ v, e = .returned v ∧ R v w' := by
  have h1 := h.later (boxC_below w b n)
  have hm := (find_mem hp).1
  obtain ⟨y0, y1, y2⟩ := boxK_at w b n p.2
  have hf := (h.later (boxK_below w b n p.2)).fil p hm
  obtain ⟨fa, fcap, hv⟩ := row_form hf.dat
  have c0 : (boxK w b n p.2).cell? ⟨p.2, 0, none⟩ = some (.slice fa (D.ct p.2).dat.length fcap) := by rw [← hv]; exact cell_row hf.row 0
  have c1 : (boxK w b n p.2).cell? ⟨w.heap.size + 1, 0, none⟩ = some (.int .i64 n) := cell_row y1 0
  have c2 : (boxK w b n p.2).cell? ⟨w.heap.size + 1 + 1, 0, none⟩ = some (pD p.2) := cell_row y2 0
  have c3 : (boxK w b n p.2).cell? ⟨w.heap.size, 0, none⟩ = some (pD b) := cell_row y0 0
  clear hf hv y0 y1 y2 hm
  have hd : decide (((D.ct p.2).dat.length : Int) < n) = false := by simp; omega
  go_enter Try.func27, Try.ntmps27
  go_wp2_with fail
  refine (find_s h1 hs hp).mono ?_
  rintro e w1 ⟨rfl, rfl⟩
  clear h h1
  go_wp2
  go_quiet (fail)
  go_wp2_with fail
  refine (hstep _).mono ?_
  rintro e w2 ⟨v, rfl, hR⟩
  clear hstep c0 c1 c2 c3
  go_wp2
  go_ret
  exact ⟨v, rfl, hR⟩
theorem cut_down (h : DkAt w base b D) {s : ByteArray} (hs : s.size ≤ maxLen) {p : Fn} (hp : findF s.data.toList D.fs = some p) (n : Int) (hn0 : ¬ n < 0) (hn1 : n ≤ ((D.ct p.2).dat.length : Int)) (hg : D.gone = true ∨ (D.armed = true ∧ D.left = 0)) :
    Calls Try.prog 27 #[pD b, .string s, .int .i64 n] w fun e w' => e = .returned (eN_ 4) ∧ DkAt w' base b (goned D) ∧ Fr (fp b D) w w' := by
  refine (cut_step (R := fun v w' => v = eN_ 4 ∧ DkAt w' base b (goned D) ∧ Fr (fp b D) w w') h hs hp n hn0 hn1 fun k => ?_).mono ?_
  · have hu : Below w.heap.size w ((boxK w b n p.2).drewN k) := (boxK_below w b n p.2).trans ((below_drewN _ k).mono (boxK_below w b n p.2).size)
    refine (step_no _ (h.later hu).row hg).mono ?_
    rintro e w2 ⟨rfl, hw⟩
    exact ⟨_, rfl, rfl, no_step h hu hw⟩
  · rintro e w2 ⟨v, rfl, rfl, h2⟩
    exact ⟨rfl, h2⟩
theorem cut_ok (h : DkAt w base b D) {s : ByteArray} (hs : s.size ≤ maxLen) {p : Fn} (hp : findF s.data.toList D.fs = some p) (size : Nat) (hsz : size ≤ (D.ct p.2).dat.length) (hc : canD D) (hst : D.steps < 1000000000) :
    Calls Try.prog 27 #[pD b, .string s, .int .i64 (size : Int)] w fun e w' => e = .returned .nilIface ∧ ∃ v, DkAt w' base b (cutD (stepd D) p.2 size v) ∧ Fr (fp b D) w w' ∧ Grow w b D (cutD (stepd D) p.2 size v) := by
  have hm := (find_mem hp).1
  refine (cut_step (R := fun v w' => v = .nilIface ∧ ∃ v, DkAt w' base b (cutD (stepd D) p.2 size v) ∧ Fr (fp b D) w w' ∧ Grow w b D (cutD (stepd D) p.2 size v)) h hs hp size (by omega) (by omega) fun k => ?_).mono ?_
  · have hu : Below w.heap.size w ((boxK w b size p.2).drewN k) := (boxK_below w b size p.2).trans ((below_drewN _ k).mono (boxK_below w b size p.2).size)
    obtain ⟨x0, x1, x2⟩ := boxK_at w b size p.2
    have hblt : b < w.heap.size := (Array.getElem?_eq_some_iff.1 h.row).1
    refine (step_ok (R := fun w' => ∃ v, DkAt w' base b (cutD (stepd D) p.2 size v) ∧ Fr (fp b D) w w' ∧ Grow w b D (cutD (stepd D) p.2 size v)) 57 _ (h.later hu).row hc.1 (fun ha => ⟨hc.2 ha, (h.lf ha).2⟩) ⟨h.st, hst⟩ (fun w => by kernel_rfl) fun w1 hw1 => ?_).mono ?_
    · have h1 := step_dk h hu hw1 hc
      have f1 : Fr (fp b D) w w1 := (wt_below hu hw1).mono fun _ _ e => .inl e
      have k1 : ∀ {k : Nat} {x : Array Value} {t : TypeId}, (boxK w b size p.2).heap[k]? = some (.cells x t (0, 0)) → k ≠ b → w1.heap[k]? = some (.cells x t (0, 0)) := fun {k x t} hk hne => by
        rw [hw1.block k hne]; exact hk
      refine (cut_do h1 (p := p) hm (k1 x0 (by omega)) (k1 x2 (by omega)) (k1 x1 (by omega)) hsz).mono ?_
      rintro e w3 ⟨rfl, v, g1, g2, g3⟩
      exact ⟨rfl, v, g1, f1.trans g2 fun i _ hi => hi, fun k hk => (g3 k hk).imp id fun h => by have := f1.size; omega⟩
    · rintro e w3 ⟨rfl, h3⟩
      exact ⟨_, rfl, rfl, h3⟩
  · rintro e w3 ⟨v, rfl, rfl, h3⟩
    exact ⟨rfl, h3⟩

def armD (D : Dsk) (n : Int) : Dsk := { D with left := n, armed := true }
theorem arm_rng (n : Int) (hn : n < 0) : Calls Try.prog 23 #[pD b, .int .i64 n] w fun e w' => e = .returned (eN_ 2) ∧ w' = w := by
  go_enter Try.func23, Try.ntmps23
  go_wp2
  go_ret
  exact ⟨rfl, rfl⟩
theorem arm_p (hrow : w.heap[b]? = some (.cells (rowD D) 64 (0, 0))) (n : Int) : Calls Try.prog 51 #[pD b, .int .i64 n] w fun e w' => e = .returned (.tuple #[]) ∧ Wt w w' b (rowD (armD D n)) 64 := by
  have c1 : w.cell? ⟨b, 1, none⟩ = some (.int .i64 D.left) := cell_row hrow 1
  have c2 : w.cell? ⟨b, 2, none⟩ = some (.bool D.armed) := cell_row hrow 2
  have f1 := froz_row hrow 1
  have f2 := froz_row hrow 2
  have hw := ((Wt.refl hrow).cell 2 (.bool true)).cell 1 (.int .i64 n)
  have e : ((rowD D).setIfInBounds 2 (.bool true)).setIfInBounds 1 (.int .i64 n) = rowD (armD D n) := by simp [rowD, armD]
  rw [e] at hw
  clear hrow e
  generalize rowD (armD D n) = X at *
  go_enter Try.func51, Try.ntmps51
  go_wp2
  go_end0
  exact ⟨rfl, hw⟩
theorem arm_ok (h : DkAt w base b D) (n : Int) (h0 : 0 ≤ n) (h1 : n < 9223372036854775808) : Calls Try.prog 23 #[pD b, .int .i64 n] w fun e w' => e = .returned .nilIface ∧ DkAt w' base b (armD D n) ∧ Fr (fp b D) w w' := by
  have hp := arm_p h.row n
  go_enter Try.func23, Try.ntmps23
  go_wp2_with fail
  refine hp.mono ?_
  rintro e w2 ⟨rfl, hw⟩
  have hfin := h.turn (D' := armD D n) hw rfl rfl rfl rfl rfl h.st fun _ => ⟨h0, h1⟩
  have f := hw.fr.mono (T := fp b D) fun _ _ e => .inl e
  clear h hp hw
  go_wp2
  go_ret
  exact ⟨rfl, hfin, f⟩
end Go.Proofs.Ytcmgpllnficmdaa

namespace Go.Proofs.Ytcmgpllnficmdaa
open Go.RowKit Go.Maps

variable {w w' : World} {base b : Nat} {D : Dsk}

theorem mem_del {nm : List UInt8} {fs : List Fn} {x : Fn} : x ∈ delF nm fs ↔ x ∈ fs ∧ x.1 ≠ nm := by
  unfold delF
  rw [List.mem_filter]
  simp
theorem lens_del {nm : List UInt8} : ∀ {fs : List Fn} (ct : Nat → Fc), (fs.Pairwise fun p q => p.1 ≠ q.1) → ∀ {p : Fn}, findF nm fs = some p → lens fs ct = (ct p.2).dat.length + lens (delF nm fs) ct
  | [], _, _, _, h => by cases h
  | y :: r, ct, hp, p, h => by
    obtain ⟨h1, h2⟩ := List.pairwise_cons.1 hp
    unfold findF at h
    rw [List.find?_cons] at h
    cases hy : y.1 == nm with
    | true =>
      rw [hy] at h
      cases h
      have e : delF nm (y :: r) = r := by
        unfold delF
        rw [List.filter_cons, hy]
        simp only [Bool.not_true, Bool.false_eq_true, if_false]
        rw [List.filter_eq_self]
        intro z hz
        have : z.1 ≠ nm := fun e => h1 z hz (by rw [e]; simpa using hy)
        simpa using this
      rw [e, lens_cons]
    | false =>
      rw [hy] at h
      have e : delF nm (y :: r) = y :: delF nm r := by
        unfold delF
        rw [List.filter_cons, hy]; rfl
      rw [e, lens_cons, lens_cons, lens_del ct h2 h]
      omega

theorem dele_d {bm n : Nat} {fs : List Fn} (hown : w.ownsMap Try.prog 9 fElem bm n (dm fs)) {s : ByteArray} (hs : s.size ≤ maxLen) (ty : TypeId) :
    ∃ w2, (Builtin.delete_ #[60, 9] ty #[.map (some bm), .string s]).run Try.prog w = .ok (.tuple #[]) w2 ∧ w2.ownsMap Try.prog 9 fElem bm (delF s.data.toList fs).length (dm (delF s.data.toList fs)) ∧ Fr (· = bm) w w2 := by
  obtain ⟨w2, h1, h2, h3⟩ := hown.drop (key := .string s) (kl := .string s.data.toList) law9 Try.underlying60 (key9 hs) ty
  rw [del_dm] at h2
  exact ⟨w2, h1, owns_len h2, fr_grown h3.grown _ fun i e => by cases e; rfl⟩

/-- The map and how many bytes there are, behind take. -/
structure Takn (w w' : World) (b : Nat) (D D' : Dsk) : Prop where
  row : w'.heap[b]? = some (.cells (rowD D') 64 (0, 0))
  map : w'.ownsMap Try.prog 9 fElem D.bm D'.fs.length (dm D'.fs)
  fr : Fr (fun k => k = b ∨ k = D.bm) w w'

theorem take_n (hrow : w.heap[b]? = some (.cells (rowD D) 64 (0, 0))) {n : Nat} (hmap : w.ownsMap Try.prog 9 fElem D.bm n (dm D.fs)) {s : ByteArray} (hs : s.size ≤ maxLen) (hp : findF s.data.toList D.fs = none) : Calls Try.prog 60 #[pD b, .string s] w fun e w' => e = .returned (.tuple #[]) ∧ w' = w := by
  have c6 : w.cell? ⟨b, 6, none⟩ = some (.map (some D.bm)) := cell_row hrow 6
  have hl := look_none hmap hs hp
  clear hmap
  go_enter Try.func60, Try.ntmps60
  go_wp2
  go_end0
  exact ⟨rfl, rfl⟩
theorem take_s (hrow : w.heap[b]? = some (.cells (rowD D) 64 (0, 0))) {n : Nat} (hmap : w.ownsMap Try.prog 9 fElem D.bm n (dm D.fs)) {s : ByteArray} (hs : s.size ≤ maxLen) {p : Fn} (hp : findF s.data.toList D.fs = some p) {c : Fc} (hf : FlAt w base p.2 c) (hlen : (c.dat.length : Int) ≤ D.used) (hq : D.used ≤ 16777216) : Calls Try.prog 60 #[pD b, .string s] w fun e w' => e = .returned (.tuple #[]) ∧ Takn w w' b D { D with used := D.used - c.dat.length, fs := delF s.data.toList D.fs } := by
  have c6 : w.cell? ⟨b, 6, none⟩ = some (.map (some D.bm)) := cell_row hrow 6
  have c5 : w.cell? ⟨b, 5, none⟩ = some (.int .i64 D.used) := cell_row hrow 5
  have f5 := froz_row hrow 5
  obtain ⟨fa, fcap, hv⟩ := row_form hf.dat
  have g0 : w.cell? ⟨p.2, 0, none⟩ = some (.slice fa c.dat.length fcap) := by rw [← hv]; exact cell_row hf.row 0
  have hl := look_some hmap hs hp
  have hw := ((Wt.refl hrow).cell 5 (.int .i64 (D.used - c.dat.length)))
  have e : (rowD D).setIfInBounds 5 (.int .i64 (D.used - c.dat.length)) = rowD { D with used := D.used - c.dat.length, fs := delF s.data.toList D.fs } := by simp [rowD]
  rw [e] at hw
  obtain ⟨u, hu⟩ : ∃ u, Hid (u = (w.setCell ⟨b, 5, none⟩ (.int .i64 (D.used - c.dat.length))).drew) := ⟨_, hide1 rfl⟩
  have hwu := hw.drew
  rw [← hu.out] at hwu
  have hbm : D.bm ≠ b := ne_map hrow hmap
  have d6 : u.cell? ⟨b, 6, none⟩ = some (.map (some D.bm)) := cell_row hwu.row 6
  have hmap2 : u.ownsMap Try.prog 9 fElem D.bm n (dm D.fs) := owns_fr hmap hwu.fr hbm
  have hwr : IntKind.i64.wrap (D.used - (c.dat.length : Int)) = D.used - c.dat.length := by go_unwrap
  have hfin : ∀ w2, w2.ownsMap Try.prog 9 fElem D.bm (delF s.data.toList D.fs).length (dm (delF s.data.toList D.fs)) → Fr (· = D.bm) u w2 → Takn w w2 b D { D with used := D.used - c.dat.length, fs := delF s.data.toList D.fs } := fun w2 h1 h2 =>
    ⟨(h2.block b (Array.getElem?_eq_some_iff.1 hwu.row).1 hbm.symm).trans hwu.row, h1, (hwu.fr.mono fun _ _ e => .inl e).trans h2 fun _ _ e => .inr e⟩
  have hfin : ∀ w2, w2.ownsMap Try.prog 9 fElem D.bm n ((dm D.fs).del (.string s.data.toList)) → u.mapTurned w2 D.bm → Takn w w2 b D { D with used := D.used - c.dat.length, fs := delF s.data.toList D.fs } := fun w2 h1 h2 => by
    rw [del_dm] at h1
    exact hfin w2 (owns_len h1) (fr_grown h2.grown _ fun i e => by cases e; rfl)
  clear hmap hf hw hwu e hv d6
  rw [hu.out] at hmap2 hfin
  generalize D.used = us at *
  go_enter Try.func60, Try.ntmps60
  go_wp2
  go_region
  all_goals (go_wp2_with (first | (at_delete; refine wpList_delete_own _ rfl _ _ 60 9 rfl 80 law9 Try.underlying60 _ D.bm n _ rfl hmap2 _ _ rfl (key9 hs) ?_; intro w2 hown2 hturn2) | go_in))
  all_goals (go_end0; exact ⟨rfl, hfin w2 hown2 hturn2⟩)

theorem DkAt.del (h : DkAt w base b D) {nm : List UInt8} {p : Fn} (hp : findF nm D.fs = some p) (ht : Takn w w' b D { D with used := D.used - (D.ct p.2).dat.length, fs := delF nm D.fs }) :
    DkAt w' base b { D with used := D.used - (D.ct p.2).dat.length, fs := delF nm D.fs } ∧ Fr (fp b D) w w' ∧ Grow w b D { D with used := D.used - (D.ct p.2).dat.length, fs := delF nm D.fs } := by
  have hsub : ∀ x, x ∈ delF nm D.fs → x ∈ D.fs := fun x hx => (mem_del.1 hx).1
  refine ⟨⟨ht.row, h.gb, ht.map, h.gm, fun x hx => ?_, fun x hx y hy => h.inj x (hsub x hx) y (hsub y hy), fun x hx y hy => h.sep x (hsub x hx) y (hsub y hy), ?_, ⟨?_, h.qt.2⟩, h.st, h.lf⟩, ht.fr.mono fun i _ e => e.elim .inl fun e => .inr (.inl e), ?_⟩
  · have hx := hsub x hx
    refine (h.fil x hx).fr ht.fr ?_ ?_
    · rintro (e | e)
      · exact h.b_f hx e.symm
      · exact h.bm_f hx e.symm
    · rintro k hk (e | e)
      · exact h.b_o hx hk e.symm
      · exact h.bm_o hx hk e.symm
  · show D.used - _ = lens (delF nm D.fs) D.ct
    rw [h.usd, lens_del D.ct h.nd hp]; omega
  · have := h.qt.1
    show D.used - _ ≤ D.quota; omega
  · rintro i (e | e | ⟨x, hx, e⟩ | ⟨x, hx, e⟩)
    · exact .inl (.inl e)
    · exact .inl (.inr (.inl e))
    · exact .inl (.inr (.inr (.inl ⟨x, hsub x hx, e⟩)))
    · exact .inl (.inr (.inr (.inr ⟨x, hsub x hx, e⟩)))

def dropD (D : Dsk) (nm : List UInt8) (q : Nat) : Dsk := { stepd D with used := D.used - (D.ct q).dat.length, fs := delF nm D.fs }
abbrev boxR (w : World) (b : Nat) (s : ByteArray) : World := (w.alloc (.cells #[pD b] 25)).alloc (.cells #[.string s] 9)
theorem boxR_below (w : World) (b : Nat) (s : ByteArray) : Below w.heap.size w (boxR w b s) := ((Below.refl _ w).alloc (Nat.le_refl _) _).alloc (by simp) _
theorem boxR_at (w : World) (b : Nat) (s : ByteArray) : (boxR w b s).heap[w.heap.size]? = some (.cells #[pD b] 25 (0, 0)) ∧ (boxR w b s).heap[w.heap.size + 1]? = some (.cells #[.string s] 9 (0, 0)) := by
  refine ⟨?_, ?_⟩
  · rw [Below.heap_alloc _ _ _ (by simp)]; exact (MapKept.heap_alloc w _).1
  · have := (MapKept.heap_alloc (w.alloc (.cells #[pD b] 25)) (.cells #[.string s] 9)).1
    simpa using this

theorem drop_n (h : DkAt w base b D) {s : ByteArray} (hs : s.size ≤ maxLen) (hp : findF s.data.toList D.fs = none) : Calls Try.prog 29 #[pD b, .string s] w fun e w' => e = .returned (eN_ 5) ∧ Below w.heap.size w w' := by
  have h1 := h.later (boxR_below w b s)
  go_enter Try.func29, Try.ntmps29
  go_wp2_with fail
  refine (find_n h1 hs hp).mono ?_
  rintro e w1 ⟨rfl, rfl⟩
  clear h h1
  go_wp2
  go_ret
  exact ⟨rfl, boxR_below _ _ _⟩
theorem drop_step {R : Value → World → Prop} (h : DkAt w base b D) {s : ByteArray} (hs : s.size ≤ maxLen) {p : Fn} (hp : findF s.data.toList D.fs = some p)
    (hstep : Calls Try.prog 53 #[pD b, .func (.func 61) #[] #[pD w.heap.size, pD (w.heap.size + 1)]] (boxR w b s) fun e w' => ∃ v, e = .returned v ∧ R v w') :
    Calls Try.prog 29 #[pD b, .string s] w fun e w' => ∃ v, e = .returned v ∧ R v w' := by
  have h1 := h.later (boxR_below w b s)
  go_enter Try.func29, Try.ntmps29
  go_wp2_with fail
  refine (find_s h1 hs hp).mono ?_
  rintro e w1 ⟨rfl, rfl⟩
  clear h h1
  go_wp2_with fail
  refine hstep.mono ?_
  rintro e w2 ⟨v, rfl, hR⟩
  clear hstep
  go_wp2
  go_ret
  exact ⟨v, rfl, hR⟩
theorem drop_down (h : DkAt w base b D) {s : ByteArray} (hs : s.size ≤ maxLen) {p : Fn} (hp : findF s.data.toList D.fs = some p) (hg : D.gone = true ∨ (D.armed = true ∧ D.left = 0)) :
    Calls Try.prog 29 #[pD b, .string s] w fun e w' => e = .returned (eN_ 4) ∧ DkAt w' base b (goned D) ∧ Fr (fp b D) w w' := by
  refine (drop_step (R := fun v w' => v = eN_ 4 ∧ DkAt w' base b (goned D) ∧ Fr (fp b D) w w') h hs hp ?_).mono ?_
  · refine (step_no _ (h.later (boxR_below w b s)).row hg).mono ?_
    rintro e w2 ⟨rfl, hw⟩
    exact ⟨_, rfl, rfl, no_step h (boxR_below w b s) hw⟩
  · rintro e w2 ⟨v, rfl, rfl, h2⟩
    exact ⟨rfl, h2⟩
theorem drop_ok (h : DkAt w base b D) {s : ByteArray} (hs : s.size ≤ maxLen) {p : Fn} (hp : findF s.data.toList D.fs = some p) (hc : canD D) (hst : D.steps < 1000000000) :
    Calls Try.prog 29 #[pD b, .string s] w fun e w' => e = .returned .nilIface ∧ DkAt w' base b (dropD D s.data.toList p.2) ∧ Fr (fp b D) w w' ∧ Grow w b D (dropD D s.data.toList p.2) := by
  have hm := (find_mem hp).1
  refine (drop_step (R := fun v w' => v = .nilIface ∧ DkAt w' base b (dropD D s.data.toList p.2) ∧ Fr (fp b D) w w' ∧ Grow w b D (dropD D s.data.toList p.2)) h hs hp ?_).mono ?_
  · have hu := boxR_below w b s
    obtain ⟨x0, x1⟩ := boxR_at w b s
    have hblt : b < w.heap.size := (Array.getElem?_eq_some_iff.1 h.row).1
    refine (step_ok (R := fun w' => DkAt w' base b (dropD D s.data.toList p.2) ∧ Fr (fp b D) w w' ∧ Grow w b D (dropD D s.data.toList p.2)) 61 _ (h.later hu).row hc.1 (fun ha => ⟨hc.2 ha, (h.lf ha).2⟩) ⟨h.st, hst⟩ (fun w => by kernel_rfl) fun w1 hw1 => ?_).mono ?_
    · have h1 := step_dk h hu hw1 hc
      have f1 : Fr (fp b D) w w1 := (wt_below hu hw1).mono fun _ _ e => .inl e
      have y0 : w1.cell? ⟨w.heap.size, 0, none⟩ = some (pD b) := cell_row ((hw1.block _ (by omega)).trans x0) 0
      have y1 : w1.cell? ⟨w.heap.size + 1, 0, none⟩ = some (.string s) := cell_row ((hw1.block _ (by omega)).trans x1) 0
      have htk := take_s h1.row h1.map hs hp (h1.fil p hm) (len_le h1 hm) (by have := h1.qt; omega)
      have hfin : ∀ w3, Takn w1 w3 b (stepd D) { stepd D with used := (stepd D).used - ((stepd D).ct p.2).dat.length, fs := delF s.data.toList (stepd D).fs } → DkAt w3 base b (dropD D s.data.toList p.2) ∧ Fr (fp b D) w w3 ∧ Grow w b D (dropD D s.data.toList p.2) := fun w3 ht => by
        obtain ⟨g1, g2, g3⟩ := h1.del hp ht
        exact ⟨g1, f1.trans g2 fun i _ hi => hi, fun k hk => (g3 k hk).imp id fun h => by have := f1.size; omega⟩
      clear hw1 h1 f1 x0 x1 h hu
      go_enter Try.func61, Try.ntmps61
      go_wp2_with fail
      refine htk.mono ?_
      rintro e w3 ⟨rfl, ht⟩
      have hfin := hfin w3 ht
      clear ht htk
      go_wp2
      go_end0
      exact ⟨rfl, hfin⟩
    · rintro e w3 ⟨rfl, h3⟩
      exact ⟨_, rfl, rfl, h3⟩
  · rintro e w3 ⟨v, rfl, rfl, h3⟩
    exact ⟨rfl, h3⟩
end Go.Proofs.Ytcmgpllnficmdaa

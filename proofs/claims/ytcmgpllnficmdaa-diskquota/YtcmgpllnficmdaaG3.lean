/- F14, L1, L2, L3, L4, L5, L6, L7, L8, L9, L10, L11, L16, F13, F13n, L13, L14, DNa, DV1, DN, DV2: laid together. -/
import Derived.WalkKit
import Derived.ProofKit
import Derived.OpenShut
import Derived.ShutString
import Derived.ChangeOld
import Derived.Below
import Derived.Deep.Slices
import Derived.Shelf.SlIter.Nil
import Derived.Shelf.SortM.Plain
import Derived.Shelf.SortM.SortNone
import Derived.Sort.Walk0
import Derived.WideShapes
import Derived.WideAt
import Derived.Test.YtcmgpllnficmdaaG2
import Derived.Test.YtcmgpllnficmdaaG1
namespace Go.Proofs.Ytcmgpllnficmdaa
open Go.RowKit Go.Maps

variable {w : World} {X : Nat → Prop} {M : Rd} {fa : Option Addr} {fc : Nat} {nm tn : List UInt8}

theorem atR_cases (nm : List UInt8) : ∀ (R : List Rf) (i : Nat), atR nm R i = -1 ∨ ∃ k : Nat, atR nm R i = ((i + k : Nat) : Int) ∧ k < R.length
  | [], i => .inl rfl
  | r :: R, i => by
    unfold atR
    split
    · exact .inr ⟨0, by simp, by simp⟩
    · rcases atR_cases nm R (i + 1) with h | ⟨k, h, hk⟩
      · exact .inl h
      · exact .inr ⟨k + 1, by rw [h]; congr 1; omega, by simp; omega⟩
theorem at_or (nm : List UInt8) (R : List Rf) : atR nm R 0 = -1 ∨ ∃ k : Nat, atR nm R 0 = (k : Int) ∧ k < R.length := by
  rcases atR_cases nm R 0 with h | ⟨k, h, hk⟩
  · exact .inl h
  · exact .inr ⟨k, by rw [h, Nat.zero_add], hk⟩
/-- What the document's call does: it refuses (no), the power goes, or it is done (ok). -/
def Om (M : Rd) (no : Int) (ok : Rd → Prop) (M' : Rd) (n : Int) : Prop :=
  (no ≠ 0 ∧ M' = M ∧ n = no) ∨ (no = 0 ∧ canM M = false ∧ M' = gonM M ∧ n = 4) ∨ (no = 0 ∧ canM M = true ∧ ok M' ∧ n = 0)
def RAll (w : World) (X : Nat → Prop) (R : Rd → Int → Prop) (e : Ending) (w' : World) : Prop := ∃ M' n, R M' n ∧ ROut w X M' n e w'
/-- A disk on paper within its bounds. -/
structure MOk (M : Rd) : Prop where
  n : M.fs.length ≤ 400000
  s : 0 ≤ M.steps ∧ M.steps < 1000000000
  l : M.armed = true → 0 ≤ M.left ∧ M.left < 9223372036854775808
  q : 0 ≤ M.quota ∧ M.quota ≤ 16777216
  u : usedR M.fs ≤ 16777216
  d : ∀ r ∈ M.fs, r.dat.length ≤ 100000000

def noAppM (M : Rd) (nm : List UInt8) (len : Nat) : Int := if isName nm then (if M.quota - usedR M.fs < len then 3 else 0) else 5
def okAppM (M : Rd) (nm : List UInt8) (zs : List Int) (M' : Rd) : Prop :=
  (∃ (k : Nat) (h : k < M.fs.length), atR nm M.fs 0 = (k : Int) ∧ M' = { stpM M with fs := putR (appR M.fs[k] zs) M.fs }) ∨
  (atR nm M.fs 0 = -1 ∧ M' = { stpM M with fs := putR (appR (Rf.mk nm [] 0) zs) M.fs })
theorem append_ra (hf : Fs w X fa M.fs) (hX : ∀ k, X k → k < w.heap.size) (hM : MOk M) {ab : Option Addr} {lb cb : Nat} {zs : List Int} (hbs : Bs w ab lb zs) :
    Calls Try.prog 33 #[rval M fa fc, .string (bstr nm), .slice ab lb cb] w (RAll w X (Om M (noAppM M nm lb) (okAppM M nm zs))) := by
  cases hn : isName nm with
  | false =>
    refine (append_r_name hf hn).mono ?_
    intro e w1 h
    exact ⟨M, 5, .inl ⟨by simp [noAppM, hn], rfl, by simp [noAppM, hn]⟩, h⟩
  | true =>
    by_cases hr : M.quota - usedR M.fs < (lb : Int)
    · refine (append_r_full hf hM.n hM.q hM.u hn hr).mono ?_
      intro e w1 h
      exact ⟨M, 3, .inl ⟨by simp [noAppM, hn, hr], rfl, by simp [noAppM, hn, hr]⟩, h⟩
    · have e0 : noAppM M nm lb = 0 := by simp [noAppM, hn, hr]
      cases hc : canM M with
      | false =>
        refine (append_r_down hf hM.n hM.s hM.l hM.q hM.u hn (by omega) hc).mono ?_
        intro e w1 h
        exact ⟨_, 4, .inr (.inl ⟨e0, hc, rfl, rfl⟩), h⟩
      | true =>
        rcases at_or nm M.fs with hk | ⟨k, hk, hkl⟩
        · refine (append_r_new hf hX hM.n hM.s hM.l hM.q hM.u hbs hn (by omega) hk hc).mono ?_
          intro e w1 h
          exact ⟨_, 0, .inr (.inr ⟨e0, hc, .inr ⟨hk, rfl⟩, rfl⟩), h⟩
        · refine (append_r_old hf hX hM.n hM.s hM.l hM.q hM.u hbs hn (by omega) hk hkl (hM.d _ (List.getElem_mem hkl)) hc).mono ?_
          intro e w1 h
          exact ⟨_, 0, .inr (.inr ⟨e0, hc, .inl ⟨k, hkl, hk, rfl⟩, rfl⟩), h⟩
def noNmM (M : Rd) (nm : List UInt8) : Int := if atR nm M.fs 0 = -1 then 5 else 0
theorem no_nm {k : Nat} (hk : atR nm M.fs 0 = (k : Int)) : noNmM M nm = 0 := by rw [noNmM, hk, if_neg (by omega)]
theorem sync_ra (hf : Fs w X fa M.fs) (hX : ∀ k, X k → k < w.heap.size) (hM : MOk M) :
    Calls Try.prog 34 #[rval M fa fc, .string (bstr nm)] w (RAll w X (Om M (noNmM M nm) fun M' => ∃ (k : Nat) (h : k < M.fs.length), atR nm M.fs 0 = (k : Int) ∧ M' = { stpM M with fs := putR (syR M.fs[k]) M.fs })) := by
  rcases at_or nm M.fs with hk | ⟨k, hk, hkl⟩
  · refine (sync_r_n hf hM.n hk).mono ?_
    rintro e w1 ⟨he, hb⟩
    exact ⟨M, 5, .inl ⟨by simp [noNmM, hk], rfl, by simp [noNmM, hk]⟩, ROut.of he hf hb⟩
  · cases hc : canM M with
    | false =>
      refine (sync_r_down hf hM.n hM.s hM.l hk hc).mono ?_
      rintro e w1 ⟨he, hb⟩
      exact ⟨_, 4, .inr (.inl ⟨no_nm hk, hc, rfl, rfl⟩), ROut.of he hf hb⟩
    | true =>
      refine (sync_r_ok hf hX hM.n hM.s hM.l hk hkl hc).mono ?_
      intro e w1 h
      exact ⟨_, 0, .inr (.inr ⟨no_nm hk, hc, ⟨k, hkl, hk, rfl⟩, rfl⟩), h⟩
theorem drop_ra (hf : Fs w X fa M.fs) (hX : ∀ k, X k → k < w.heap.size) (hM : MOk M) :
    Calls Try.prog 37 #[rval M fa fc, .string (bstr nm)] w (RAll w X (Om M (noNmM M nm) fun M' => M' = { stpM M with fs := delR nm M.fs })) := by
  rcases at_or nm M.fs with hk | ⟨k, hk, hkl⟩
  · refine (drop_r_n hf hM.n hk).mono ?_
    intro e w1 h
    exact ⟨M, 5, .inl ⟨by simp [noNmM, hk], rfl, by simp [noNmM, hk]⟩, h⟩
  · cases hc : canM M with
    | false =>
      refine (drop_r_down hf hM.n hM.s hM.l hk hc).mono ?_
      intro e w1 h
      exact ⟨_, 4, .inr (.inl ⟨no_nm hk, hc, rfl, rfl⟩), h⟩
    | true =>
      refine (drop_r_ok hf hX hM.n hM.s hM.l hk hc).mono ?_
      intro e w1 h
      exact ⟨_, 0, .inr (.inr ⟨no_nm hk, hc, rfl, rfl⟩), h⟩
def noCutM (M : Rd) (nm : List UInt8) (n : Int) : Int := if h : 0 ≤ atR nm M.fs 0 ∧ (atR nm M.fs 0).toNat < M.fs.length then (if n < 0 ∨ ((M.fs[(atR nm M.fs 0).toNat]'h.2).dat.length : Int) < n then 2 else 0) else 5
theorem no_cut {k : Nat} (hk : atR nm M.fs 0 = (k : Int)) (hkl : k < M.fs.length) (n : Int) : noCutM M nm n = if n < 0 ∨ (M.fs[k].dat.length : Int) < n then 2 else 0 := by
  have hz : (atR nm M.fs 0).toNat = k := by omega
  have h : 0 ≤ atR nm M.fs 0 ∧ (atR nm M.fs 0).toNat < M.fs.length := by omega
  rw [noCutM, dif_pos h]
  simp only [hz]
theorem cut_ra (hf : Fs w X fa M.fs) (hX : ∀ k, X k → k < w.heap.size) (hM : MOk M) (n : Int) :
    Calls Try.prog 35 #[rval M fa fc, .string (bstr nm), .int .i64 n] w (RAll w X (Om M (noCutM M nm n) fun M' => ∃ (k : Nat) (h : k < M.fs.length), atR nm M.fs 0 = (k : Int) ∧ M' = { stpM M with fs := putR (cutR M.fs[k] n.toNat) M.fs })) := by
  rcases at_or nm M.fs with hk | ⟨k, hk, hkl⟩
  · refine (cut_r_n hf hM.n n hk).mono ?_
    intro e w1 h
    have e5 : noCutM M nm n = 5 := by rw [noCutM, dif_neg (by omega)]
    exact ⟨M, 5, .inl ⟨by omega, rfl, e5.symm⟩, h⟩
  · by_cases h1 : n < 0
    · refine (cut_r_neg hf hM.n hk hkl h1).mono ?_
      intro e w1 h
      have e5 : noCutM M nm n = 2 := by rw [no_cut hk hkl, if_pos (.inl h1)]
      exact ⟨M, 2, .inl ⟨by omega, rfl, e5.symm⟩, h⟩
    · by_cases h2 : (M.fs[k].dat.length : Int) < n
      · refine (cut_r_big hf hM.n hk hkl h1 h2).mono ?_
        intro e w1 h
        have e5 : noCutM M nm n = 2 := by rw [no_cut hk hkl, if_pos (.inr h2)]
        exact ⟨M, 2, .inl ⟨by omega, rfl, e5.symm⟩, h⟩
      · have e0 : noCutM M nm n = 0 := by rw [no_cut hk hkl, if_neg (by omega)]
        cases hc : canM M with
        | false =>
          refine (cut_r_down hf hM.n hM.s hM.l hk hkl h1 (by omega) hc).mono ?_
          intro e w1 h
          exact ⟨_, 4, .inr (.inl ⟨e0, hc, rfl, rfl⟩), h⟩
        | true =>
          obtain ⟨m, rfl⟩ : ∃ m : Nat, n = (m : Int) := ⟨n.toNat, by omega⟩
          have hd := hM.d _ (List.getElem_mem hkl)
          by_cases hgt : (m : Int) < M.fs[k].sure
          · refine (cut_r_gt hf hX hM.n hM.s hM.l hk hkl (by omega) hd hgt hc).mono ?_
            intro e w1 h
            exact ⟨_, 0, .inr (.inr ⟨e0, hc, ⟨k, hkl, hk, rfl⟩, rfl⟩), h⟩
          · refine (cut_r_le hf hX hM.n hM.s hM.l hk hkl (by omega) hd (by omega) hc).mono ?_
            intro e w1 h
            exact ⟨_, 0, .inr (.inr ⟨e0, hc, ⟨k, hkl, hk, rfl⟩, rfl⟩), h⟩
def noRenM (M : Rd) (nm tn : List UInt8) : Int := if atR nm M.fs 0 = -1 then 5 else if isName tn then 0 else 5
theorem ren_ra (hf : Fs w X fa M.fs) (hX : ∀ k, X k → k < w.heap.size) (hM : MOk M) :
    Calls Try.prog 36 #[rval M fa fc, .string (bstr nm), .string (bstr tn)] w (RAll w X (Om M (noRenM M nm tn) fun M' => ∃ (k : Nat) (h : k < M.fs.length), atR nm M.fs 0 = (k : Int) ∧ M' = { stpM M with fs := putR (renR M.fs[k] tn) (delR nm M.fs) })) := by
  rcases at_or nm M.fs with hk | ⟨k, hk, hkl⟩
  · refine (ren_r_n hf hM.n hk).mono ?_
    intro e w1 h
    exact ⟨M, 5, .inl ⟨by simp [noRenM, hk], rfl, by simp [noRenM, hk]⟩, h⟩
  · have hne : ¬ ((k : Int) = -1) := by omega
    cases ht : isName tn with
    | false =>
      refine (ren_r_name hf hM.n hk ht).mono ?_
      intro e w1 h
      exact ⟨M, 5, .inl ⟨by simp [noRenM, ht], rfl, by simp [noRenM, ht]⟩, h⟩
    | true =>
      have e0 : noRenM M nm tn = 0 := by rw [noRenM, hk, if_neg hne, if_pos ht]
      cases hc : canM M with
      | false =>
        refine (ren_r_down hf hM.n hM.s hM.l ht hk hc).mono ?_
        intro e w1 h
        exact ⟨_, 4, .inr (.inl ⟨e0, hc, rfl, rfl⟩), h⟩
      | true =>
        refine (ren_r_ok hf hX hM.n hM.s hM.l ht hk hkl hc).mono ?_
        intro e w1 h
        exact ⟨_, 0, .inr (.inr ⟨e0, hc, ⟨k, hkl, hk, rfl⟩, rfl⟩), h⟩
end Go.Proofs.Ytcmgpllnficmdaa

namespace Go.Proofs.Ytcmgpllnficmdaa
open Go.RowKit Go.Maps

/-- An operation in memory. -/
abbrev opc (kd : Int) (nm tn : List UInt8) (n : Int) (ab : Option Addr) (lb cb : Nat) : Array Value := #[.int .i64 kd, .string (bstr nm), .string (bstr tn), .int .i64 n, .slice ab lb cb]
theorem num_v (n : Int) (w : World) : Calls Try.prog 31 #[eV n] w fun e w' => e = .returned (.int .i64 n) ∧ w' = w := by
  unfold eV
  split
  · rename_i h; subst h; exact num_0 w
  · exact num_e n (by simpa using ‹¬ n = 0›) w
theorem results_c4 {fn : Func} {t u1 u2 u3 : Tmp} (h : fn.results = #[.cell t 34, .tmp u1, .tmp u2, .tmp u3]) (tmps : Array Value) {w : World} {g : Nat} {M : Rd} {fa : Option Addr} {fc : Nat} (ht : tmps.getD t undef = pD g) (hg : w.heap[g]? = some (.cells (rcells M fa fc) 34 (0, 0))) :
    (results fn tmps).run Try.prog w = .ok (.tuple #[rval M fa fc, tmps.getD u1 undef, tmps.getD u2 undef, tmps.getD u3 undef]) w := by
  have hl := run_loadVar_row (P := Try.prog) w g 34 34 (rcells M fa fc) (0, 0) _ hg Try.underlying34 (by rfl) (by kernel_rfl)
  have ht2 : tmps[t]?.getD undef = pD g := by simpa using ht
  simp [results, h, ht2, asAddr, hl, Result.andThen]

/-- In a call of do: the document's disk, the operation and the result, in the first three new blocks. -/
structure B3 (w wr : World) (M : Rd) (fa : Option Addr) (fc : Nat) (o : Array Value) : Prop where
  r0 : wr.heap[w.heap.size]? = some (.cells (rcells M fa fc) 34 (0, 0))
  r1 : wr.heap[w.heap.size + 1]? = some (.cells o 37 (0, 0))
  r2 : wr.heap[w.heap.size + 1 + 1]? = some (.cells zrow 34 (0, 0))
abbrev w3of (w : World) (M : Rd) (fa : Option Addr) (fc : Nat) (o : Array Value) : World := ((w.alloc (.cells (rcells M fa fc) 34)).alloc (.cells o 37)).alloc (.cells zrow 34)
theorem w3_below (w : World) (M : Rd) (fa : Option Addr) (fc : Nat) (o : Array Value) : Below w.heap.size w (w3of w M fa fc o) := (((Below.refl _ w).alloc (Nat.le_refl _) _).alloc (by simp) _).alloc (by simp; omega) _
theorem B3.start (w : World) (M : Rd) (fa : Option Addr) (fc : Nat) (o : Array Value) : B3 w (w3of w M fa fc o) M fa fc o := by
  refine ⟨?_, ?_, ?_⟩
  · rw [Below.heap_alloc _ _ _ (by simp; omega), Below.heap_alloc _ _ _ (by simp)]; exact (MapKept.heap_alloc w _).1
  · rw [Below.heap_alloc _ _ _ (by simp)]; exact alloc2_at _ _ _
  · have := (MapKept.heap_alloc ((w.alloc (.cells (rcells M fa fc) 34)).alloc (.cells o 37)) (.cells zrow 34)).1
    simpa using this
section
variable {w wr w2 : World} {M : Rd} {fa : Option Addr} {fc : Nat} {o : Array Value}
theorem B3.lt (h : B3 w wr M fa fc o) : w.heap.size + 2 < wr.heap.size := (Array.getElem?_eq_some_iff.1 h.r2).1
theorem B3.fr {S : Nat → Prop} (h : B3 w wr M fa fc o) (f : Fr S wr w2) (hS : ∀ k, S k → k < w.heap.size ∨ w.heap.size + 3 ≤ k) : B3 w w2 M fa fc o := by
  have hl := h.lt
  exact ⟨(f.block _ (by omega) fun e => by have := hS _ e; omega).trans h.r0, (f.block _ (by omega) fun e => by have := hS _ e; omega).trans h.r1, (f.block _ (by omega) fun e => by have := hS _ e; omega).trans h.r2⟩
theorem B3.set (h : B3 w wr M fa fc o) (M' : Rd) (fa' : Option Addr) (fc' : Nat) : B3 w ((((((wr.setCell ⟨w.heap.size, 0, none⟩ (.int .i64 M'.quota)).setCell ⟨w.heap.size, 1, none⟩ (.int .i64 M'.steps)).setCell ⟨w.heap.size, 2, none⟩ (.int .i64 M'.left)).setCell ⟨w.heap.size, 3, none⟩ (.bool M'.armed)).setCell ⟨w.heap.size, 4, none⟩ (.bool M'.gone)).setCell ⟨w.heap.size, 5, none⟩ (.slice fa' M'.fs.length fc')) M' fa' fc' o ∧ Fr (· = w.heap.size) wr ((((((wr.setCell ⟨w.heap.size, 0, none⟩ (.int .i64 M'.quota)).setCell ⟨w.heap.size, 1, none⟩ (.int .i64 M'.steps)).setCell ⟨w.heap.size, 2, none⟩ (.int .i64 M'.left)).setCell ⟨w.heap.size, 3, none⟩ (.bool M'.armed)).setCell ⟨w.heap.size, 4, none⟩ (.bool M'.gone)).setCell ⟨w.heap.size, 5, none⟩ (.slice fa' M'.fs.length fc')) := by
  have hw := set6_wt (a := .int .i64 M'.quota) (b := .int .i64 M'.steps) (c := .int .i64 M'.left) (d := .bool M'.armed) (e := .bool M'.gone) (f := .slice fa' M'.fs.length fc') h.r0
  exact ⟨⟨hw.row, (hw.block _ (by omega)).trans h.r1, (hw.block _ (by omega)).trans h.r2⟩, hw.fr⟩
theorem B3.fin (h : B3 w wr M fa fc o) : ((((((wr.setCell ⟨w.heap.size + 1 + 1, 0, none⟩ (.int .i64 M.quota)).setCell ⟨w.heap.size + 1 + 1, 1, none⟩ (.int .i64 M.steps)).setCell ⟨w.heap.size + 1 + 1, 2, none⟩ (.int .i64 M.left)).setCell ⟨w.heap.size + 1 + 1, 3, none⟩ (.bool M.armed)).setCell ⟨w.heap.size + 1 + 1, 4, none⟩ (.bool M.gone)).setCell ⟨w.heap.size + 1 + 1, 5, none⟩ (.slice fa M.fs.length fc)).heap[w.heap.size + 1 + 1]? = some (.cells (rcells M fa fc) 34 (0, 0)) ∧ Fr (· = w.heap.size + 1 + 1) wr ((((((wr.setCell ⟨w.heap.size + 1 + 1, 0, none⟩ (.int .i64 M.quota)).setCell ⟨w.heap.size + 1 + 1, 1, none⟩ (.int .i64 M.steps)).setCell ⟨w.heap.size + 1 + 1, 2, none⟩ (.int .i64 M.left)).setCell ⟨w.heap.size + 1 + 1, 3, none⟩ (.bool M.armed)).setCell ⟨w.heap.size + 1 + 1, 4, none⟩ (.bool M.gone)).setCell ⟨w.heap.size + 1 + 1, 5, none⟩ (.slice fa M.fs.length fc)) := by
  have hw := set6_wt (a := .int .i64 M.quota) (b := .int .i64 M.steps) (c := .int .i64 M.left) (d := .bool M.armed) (e := .bool M.gone) (f := .slice fa M.fs.length fc) h.r2
  exact ⟨hw.row, hw.fr⟩
theorem B3.ops {kd : Int} {nm tn : List UInt8} {n : Int} {ab : Option Addr} {lb cb : Nat} (h : B3 w wr M fa fc (opc kd nm tn n ab lb cb)) :
    wr.cell? ⟨w.heap.size + 1, 0, none⟩ = some (.int .i64 kd) ∧ wr.cell? ⟨w.heap.size + 1, 1, none⟩ = some (.string (bstr nm)) ∧ wr.cell? ⟨w.heap.size + 1, 2, none⟩ = some (.string (bstr tn)) ∧ wr.cell? ⟨w.heap.size + 1, 3, none⟩ = some (.int .i64 n) ∧ wr.cell? ⟨w.heap.size + 1, 4, none⟩ = some (.slice ab lb cb) :=
  ⟨cell_row h.r1 0, cell_row h.r1 1, cell_row h.r1 2, cell_row h.r1 3, cell_row h.r1 4⟩
end
/-- What do answers. -/
def DOut (w : World) (base b : Nat) (D : Dsk) (R : Dsk → Int → Prop) (R' : Rd → Int → Prop) (e : Ending) (w' : World) : Prop :=
  ∃ D' n M' n' fa' fc' X', R D' n ∧ R' M' n' ∧ e = .returned (.tuple #[rval M' fa' fc', .int .i64 n, .int .i64 n', .bool true]) ∧ DkAt w' base b D' ∧ Fs w' X' fa' M'.fs ∧ (∀ k, X' k → k < w'.heap.size ∧ ¬ fp b D' k) ∧ Fr (fp b D) w w' ∧ Grow w b D D'
theorem bs_lt {w : World} {a : Option Addr} {len : Nat} {zs : List Int} (h : Bs w a len zs) : ∀ x, a = some x → 0 < len → x.block < w.heap.size := by
  rintro x rfl hl
  obtain ⟨b, off, e, hc⟩ := h.2.2 hl
  cases e
  exact cell_lt (hc 0 hl)
theorem Fs.lt {w : World} {X : Nat → Prop} {fa : Option Addr} {R : List Rf} (h : Fs w X fa R) : Fs w (fun k => X k ∧ k < w.heap.size) fa R := fun hp => by
  obtain ⟨fb, e, hx, hc⟩ := h hp
  refine ⟨fb, e, ⟨hx, ?_⟩, fun i hi => ?_⟩
  · obtain ⟨_, _, h1, _⟩ := hc 0 hp
    exact cell_lt h1
  · obtain ⟨ad, cap, h1, h2, h3, h4, h5, h6⟩ := hc i hi
    exact ⟨ad, cap, h1, h2, h3, h4, h5, fun x ex hl => ⟨h6 x ex hl, bs_lt h4 x ex hl⟩⟩
theorem dout_end {w w5 w6 : World} {base b s1 s2 : Nat} {D D' : Dsk} {M' : Rd} {X : Nat → Prop} {R : Dsk → Int → Prop} {R' : Rd → Int → Prop} {n1 n2 : Int} {fa' : Option Addr} {fc' : Nat} {e : Ending} (hR : R D' n1) (hR2 : R' M' n2) (he : e = .returned (.tuple #[rval M' fa' fc', .int .i64 n1, .int .i64 n2, .bool true]))
    (hD5 : DkAt w5 base b D') (hf5 : Fs w5 (fun k => X k ∨ s2 ≤ k) fa' M'.fs) (hF50 : Fr (fp b D) w w5) (hG : ∀ k, fp b D' k → fp b D k ∨ s1 ≤ k) (hs1 : w.heap.size + 3 ≤ s1) (hs2 : s1 ≤ s2) (hDl : ∀ k, fp b D' k → k < s2) (hX : ∀ k, X k → k < w.heap.size ∧ ¬ fp b D k) (hfl : ∀ k, fp b D k → k < w.heap.size) (e3 : Fr (· = w.heap.size + 1 + 1) w5 w6) : DOut w base b D R R' e w6 := by
  have hns : ∀ k, fp b D' k → k ≠ w.heap.size + 1 + 1 := fun k hk => by
    rcases hG k hk with h1 | h1
    · have := hfl k h1; omega
    · omega
  have hf6 := (hf5.fr e3 (fun k hk e => by
    rcases hk with hk | hk
    · have := (hX k hk).1; omega
    · omega)).lt
  refine ⟨D', n1, M', n2, fa', fc', _, hR, hR2, he, hD5.fr e3 hns, hf6, fun k hk => ⟨hk.2, fun hd => ?_⟩, hF50.trans e3 fun k hk e => by omega, fun k hk => ?_⟩
  · rcases hk.1 with h1 | h1
    · rcases hG k hd with h2 | h2
      · exact (hX k h1).2 h2
      · have := (hX k h1).1; omega
    · have := hDl k hd; omega
  · rcases hG k hk with h1 | h1
    · exact .inl h1
    · exact .inr (by omega)
theorem fr_dr {S : Nat → Prop} {w w' : World} (h : Fr S w w') (n : Nat) : Fr S w (w'.drewN n) := h.trans (fr_b (below_drewN w' n) _) fun _ _ e => e
theorem Wr8.less {w : World} {g n m : Nat} (h : Wr8 w g n) (hm : m ≤ n) : Wr8 w g m := by
  obtain ⟨cur, h1, h2⟩ := h
  exact ⟨cur, h1, fun j hj => h2 j (by omega)⟩
end Go.Proofs.Ytcmgpllnficmdaa

namespace Go.Proofs.Ytcmgpllnficmdaa
open Go.RowKit Go.Maps

variable {w : World} {base b : Nat} {D : Dsk} {X : Nat → Prop} {M : Rd} {fa : Option Addr} {fc : Nat} {nm tn : List UInt8} {n : Int} {ab : Option Addr} {lb cb : Nat} {zs : List Int}

set_option maxHeartbeats 4000000 in
set_option maxRecDepth 100000 in
theorem do_append (h : DkAt w base b D) (hf : Fs w X fa M.fs) (hX : ∀ k, X k → k < w.heap.size ∧ ¬ fp b D k) (hM : MOk M) (hst : D.steps < 1000000000) (hlen : D.fs.length < 1000000) (hbase : base ≤ w.heap.size) (hbs : Bs w ab lb zs) (hab : ∀ x, ab = some x → 0 < lb → ¬ fp b D x.block) (hm : lb ≤ 1000000) (hnm : nm.length ≤ 1000000) (htn : tn.length ≤ 1000000) :
    Calls Try.prog 13 #[pD b, rval M fa fc, .agg (opc 1 nm tn n ab lb cb)] w (DOut w base b D (Oo D (noApp D nm lb) fun D' => AppR D D' nm zs) (Om M (noAppM M nm lb) (okAppM M nm zs))) := by
  have b3 := B3.start w M fa fc (opc 1 nm tn n ab lb cb)
  have hb0 := w3_below w M fa fc (opc 1 nm tn n ab lb cb)
  have hbs0 := hbs.later hb0
  have hsz : (bstr nm).size ≤ 1000000 := hnm
  have hsz2 : (bstr nm).size ≤ maxLen := by unfold maxLen; omega
  have hszt : (bstr tn).size ≤ 1000000 := htn
  have hfl := fp_lt h
  have hcp := copy_d ab lb cb zs _ hbs0 hm
  obtain ⟨o0, o1, o2, o3, o4⟩ := b3.ops
  go_enter Try.func13, Try.ntmps13
  go_wp2_with fail
  refine hcp.mono ?_
  rintro e w1 ⟨g, cg, rfl, hg, hkp, hb1⟩
  clear hcp
  have b3 := b3.fr (fr_b hb1 fun _ => False) (fun _ => False.elim)
  have hbw1 : Below w.heap.size w w1 := hb0.trans (hb1.mono hb0.size)
  have hbs1 := hbs.later hbw1
  have h1 := h.later hbw1
  have hf1 := hf.later hbw1
  have hgw : w.heap.size + 3 ≤ g := by simp at hg; omega
  have hglt : g < w1.heap.size := by
    obtain ⟨cur, hc, _⟩ := hkp.2.2.2.2.1
    exact (Array.getElem?_eq_some_iff.1 hc).1
  have hbase1 : base ≤ w1.heap.size := Nat.le_trans hbase hbw1.size
  clear hb0 hbs0 hb1 hg o0 o1 o2 o3 o4
  obtain ⟨o0, o1, o2, o3, o4⟩ := b3.ops
  have hpc := append_all (cap := cg) h1 hsz hkp.bs (fun x e _ => by (cases e; intro e; have e2 : g = b := e; have := hfl b (.inl rfl); omega)) hst hlen hbase1
  go_wp2_with fail
  refine hpc.mono ?_
  rintro e w2 ⟨D', n1, hR, rfl, hD, hF, hG⟩
  clear hpc o0 o1 o2 o3 o4
  have b3 := b3.fr hF (fun k hk => .inl (hfl k hk))
  have hkp := hkp.fr hF (fun e => by have := hfl _ e; omega)
  have hbs2 := hbs1.fr hF hab
  have hf2 := hf1.fr hF (fun k hk e => (hX k hk).2 e)
  have hF2 : Fr (fp b D) w w2 := (fr_b hbw1 _).trans hF fun _ _ e => e
  have hX2 : ∀ k, X k → k < w2.heap.size := fun k hk => Nat.lt_of_lt_of_le (hX k hk).1 hF2.size
  have hDl := fp_lt hD
  clear hbs1 hf1 h1 hbw1
  obtain ⟨o0, o1, o2, o3, o4⟩ := b3.ops
  obtain ⟨c0, c1, c2, c3, c4, c5, f0, f1, f2, f3, f4, f5⟩ := c6_of b3.r0
  have hrc := append_ra (fc := fc) (nm := nm) (cb := cb) hf2 hX2 hM hbs2
  go_wp2_with fail
  refine hrc.mono ?_
  rintro e w3 ⟨M', n2, hR2, fa', fc', rfl, hf3, hb3⟩
  clear hrc o0 o1 o2 o3 o4 c0 c1 c2 c3 c4 c5 f0 f1 f2 f3 f4 f5
  have b3 := b3.fr (fr_b hb3 fun _ => False) (fun _ => False.elim)
  obtain ⟨c0, c1, c2, c3, c4, c5, f0, f1, f2, f3, f4, f5⟩ := c6_of b3.r0
  obtain ⟨b4, hF4⟩ := b3.set M' fa' fc'
  go_upto_region 33 with fail
  have hs12 : w1.heap.size ≤ w2.heap.size := hF.size
  have hs23 : w2.heap.size ≤ w3.heap.size := hb3.size
  have hlx := bs_lt hbs
  have hns : ∀ k, fp b D' k → k ≠ w.heap.size ∧ k ≠ w.heap.size + 1 + 1 ∧ k ≠ g := fun k hk => by
    rcases hG k hk with h1 | h1
    · have := hfl k h1; omega
    · omega
  generalize (((((w3.setCell ⟨w.heap.size, 0, none⟩ (.int .i64 M'.quota)).setCell ⟨w.heap.size, 1, none⟩ (.int .i64 M'.steps)).setCell ⟨w.heap.size, 2, none⟩ (.int .i64 M'.left)).setCell ⟨w.heap.size, 3, none⟩ (.bool M'.armed)).setCell ⟨w.heap.size, 4, none⟩ (.bool M'.gone)).setCell ⟨w.heap.size, 5, none⟩ (.slice fa' M'.fs.length fc') = w4 at b4 hF4 ⊢
  have hkp4 := (hkp.fr (fr_b hb3 fun _ => False) id).fr hF4 (by omega)
  have hbs4 := (hbs2.later hb3).fr hF4 (fun x ex hl e => by have := hlx x ex hl; omega)
  have hD4 := (hD.later hb3).fr hF4 (fun k hk e => (hns k hk).1 e)
  have hf4 := hf3.fr hF4 (fun k hk e => by
    rcases hk with hk | hk
    · have := (hX k hk).1; omega
    · omega)
  have hF40 : Fr (fp b D) w w4 := (hF2.trans (fr_b hb3 _) fun _ _ e => e).trans hF4 fun k hk e => by omega
  have hs34 : w3.heap.size ≤ w4.heap.size := hF4.size
  clear hkp hbs2 hD hf3 hF4 hF2 hb3 hF hf2 c0 c1 c2 c3 c4 c5 f0 f1 f2 f3 f4 f5
  obtain ⟨o0, o1, o2, o3, o4⟩ := b4.ops
  go_wp2_with fail
  refine (kept_d g lb cg ab cb zs _ hkp4 hbs4).mono ?_
  rintro e w4 ⟨rfl, rfl⟩
  go_wp2_with fail
  refine (over_d (cap := cg) (hkp4.2.2.2.2.1.less (by omega)) (by omega)).mono ?_
  rintro e w5 ⟨rfl, hF5⟩
  have b5 := b4.fr hF5 (fun k e => .inr (by omega))
  have hs45 : w4.heap.size ≤ w5.heap.size := hF5.size
  have hD5 := hD4.fr hF5 (fun k hk e => (hns k hk).2.2 e)
  have hf5 := hf4.fr hF5 (fun k hk e => by
    rcases hk with hk | hk
    · have := (hX k hk).1; omega
    · omega)
  have hF50 : Fr (fp b D) w w5 := hF40.trans hF5 fun k hk e => by omega
  clear o0 o1 o2 o3 o4 hkp4 hbs4 hD4 hf4 hF40 b4 hF5
  obtain ⟨c0, c1, c2, c3, c4, c5, f0, f1, f2, f3, f4, f5⟩ := c6_of b5.r0
  obtain ⟨d0, d1, d2, d3, d4, d5, g0, g1, g2, g3, g4, g5⟩ := c6_of b5.r2
  obtain ⟨e1, e3⟩ := b5.fin
  go_wp2_with fail
  go_region_with (go_at_call 31; refine (num_v n1 _).mono ?_; rintro e w6 ⟨rfl, rfl⟩)
  all_goals
    clear c0 c1 c2 c3 c4 c5 f0 f1 f2 f3 f4 f5 d0 d1 d2 d3 d4 d5 g0 g1 g2 g3 g4 g5
    go_wp2
    generalize ((((((w5.setCell ⟨w.heap.size + 1 + 1, 0, none⟩ (.int .i64 M'.quota)).setCell ⟨w.heap.size + 1 + 1, 1, none⟩ (.int .i64 M'.steps)).setCell ⟨w.heap.size + 1 + 1, 2, none⟩ (.int .i64 M'.left)).setCell ⟨w.heap.size + 1 + 1, 3, none⟩ (.bool M'.armed)).setCell ⟨w.heap.size + 1 + 1, 4, none⟩ (.bool M'.gone)).setCell ⟨w.heap.size + 1 + 1, 5, none⟩ (.slice fa' M'.fs.length fc')) = w6 at e1 e3 ⊢
    refine bodyPost_ret (v := .tuple #[rval M' fa' fc', .int .i64 n1, .int .i64 n2, .bool true]) ((results_c4 (g := w.heap.size + 1 + 1) (M := M') (fa := fa') (fc := fc') Try.results13 _ ?_ ?_).trans ?_) ?_ ?_
    · kernel_rfl
    · exact e1
    · kernel_rfl
    · kernel_rfl
    · first
        | exact dout_end hR hR2 rfl hD5 hf5 hF50 hG (by omega) (by omega) hDl hX hfl e3
        | exact dout_end hR hR2 rfl hD5 hf5 hF50 hG (by omega) (by omega) hDl hX hfl (fr_dr e3 1)
        | exact dout_end hR hR2 rfl hD5 hf5 hF50 hG (by omega) (by omega) hDl hX hfl (fr_dr e3 2)
        | exact dout_end hR hR2 rfl hD5 hf5 hF50 hG (by omega) (by omega) hDl hX hfl (fr_dr e3 3)
end Go.Proofs.Ytcmgpllnficmdaa

namespace Go.Proofs.Ytcmgpllnficmdaa
open Go.RowKit Go.Maps

variable {w : World} {base b : Nat} {D : Dsk} {X : Nat → Prop} {M : Rd} {fa : Option Addr} {fc : Nat} {nm tn : List UInt8} {n : Int} {ab : Option Addr} {lb cb : Nat} {zs : List Int}

set_option maxHeartbeats 4000000 in
set_option maxRecDepth 100000 in
theorem do_sync (h : DkAt w base b D) (hf : Fs w X fa M.fs) (hX : ∀ k, X k → k < w.heap.size ∧ ¬ fp b D k) (hM : MOk M) (hst : D.steps < 1000000000) (_hlen : D.fs.length < 1000000) (hbase : base ≤ w.heap.size) (hbs : Bs w ab lb zs) (hab : ∀ x, ab = some x → 0 < lb → ¬ fp b D x.block) (hm : lb ≤ 1000000) (hnm : nm.length ≤ 1000000) (htn : tn.length ≤ 1000000) :
    Calls Try.prog 13 #[pD b, rval M fa fc, .agg (opc 2 nm tn n ab lb cb)] w (DOut w base b D (Oo D (noNm D nm) fun D' => ∃ p, findF nm D.fs = some p ∧ D' = syncd D p.2) (Om M (noNmM M nm) fun M' => ∃ (k : Nat) (h : k < M.fs.length), atR nm M.fs 0 = (k : Int) ∧ M' = { stpM M with fs := putR (syR M.fs[k]) M.fs })) := by
  have b3 := B3.start w M fa fc (opc 2 nm tn n ab lb cb)
  have hb0 := w3_below w M fa fc (opc 2 nm tn n ab lb cb)
  have hbs0 := hbs.later hb0
  have hsz : (bstr nm).size ≤ 1000000 := hnm
  have hsz2 : (bstr nm).size ≤ maxLen := by unfold maxLen; omega
  have hszt : (bstr tn).size ≤ 1000000 := htn
  have hfl := fp_lt h
  have hcp := copy_d ab lb cb zs _ hbs0 hm
  obtain ⟨o0, o1, o2, o3, o4⟩ := b3.ops
  go_enter Try.func13, Try.ntmps13
  go_wp2_with fail
  refine hcp.mono ?_
  rintro e w1 ⟨g, cg, rfl, hg, hkp, hb1⟩
  clear hcp
  have b3 := b3.fr (fr_b hb1 fun _ => False) (fun _ => False.elim)
  have hbw1 : Below w.heap.size w w1 := hb0.trans (hb1.mono hb0.size)
  have hbs1 := hbs.later hbw1
  have h1 := h.later hbw1
  have hf1 := hf.later hbw1
  have hgw : w.heap.size + 3 ≤ g := by simp at hg; omega
  have hglt : g < w1.heap.size := by
    obtain ⟨cur, hc, _⟩ := hkp.2.2.2.2.1
    exact (Array.getElem?_eq_some_iff.1 hc).1
  have hbase1 : base ≤ w1.heap.size := Nat.le_trans hbase hbw1.size
  clear hb0 hbs0 hb1 hg o0 o1 o2 o3 o4
  obtain ⟨o0, o1, o2, o3, o4⟩ := b3.ops
  have hpc := sync_all h1 hsz2 hst
  go_wp2_with fail
  refine hpc.mono ?_
  rintro e w2 ⟨D', n1, hR, rfl, hD, hF, hG⟩
  clear hpc o0 o1 o2 o3 o4
  have b3 := b3.fr hF (fun k hk => .inl (hfl k hk))
  have hkp := hkp.fr hF (fun e => by have := hfl _ e; omega)
  have hbs2 := hbs1.fr hF hab
  have hf2 := hf1.fr hF (fun k hk e => (hX k hk).2 e)
  have hF2 : Fr (fp b D) w w2 := (fr_b hbw1 _).trans hF fun _ _ e => e
  have hX2 : ∀ k, X k → k < w2.heap.size := fun k hk => Nat.lt_of_lt_of_le (hX k hk).1 hF2.size
  have hDl := fp_lt hD
  clear hbs1 hf1 h1 hbw1
  obtain ⟨o0, o1, o2, o3, o4⟩ := b3.ops
  obtain ⟨c0, c1, c2, c3, c4, c5, f0, f1, f2, f3, f4, f5⟩ := c6_of b3.r0
  have hrc := sync_ra (fc := fc) (nm := nm) hf2 hX2 hM
  go_wp2_with fail
  refine hrc.mono ?_
  rintro e w3 ⟨M', n2, hR2, fa', fc', rfl, hf3, hb3⟩
  clear hrc o0 o1 o2 o3 o4 c0 c1 c2 c3 c4 c5 f0 f1 f2 f3 f4 f5
  have b3 := b3.fr (fr_b hb3 fun _ => False) (fun _ => False.elim)
  obtain ⟨c0, c1, c2, c3, c4, c5, f0, f1, f2, f3, f4, f5⟩ := c6_of b3.r0
  obtain ⟨b4, hF4⟩ := b3.set M' fa' fc'
  go_upto_region 33 with fail
  have hs12 : w1.heap.size ≤ w2.heap.size := hF.size
  have hs23 : w2.heap.size ≤ w3.heap.size := hb3.size
  have hlx := bs_lt hbs
  have hns : ∀ k, fp b D' k → k ≠ w.heap.size ∧ k ≠ w.heap.size + 1 + 1 ∧ k ≠ g := fun k hk => by
    rcases hG k hk with h1 | h1
    · have := hfl k h1; omega
    · omega
  generalize (((((w3.setCell ⟨w.heap.size, 0, none⟩ (.int .i64 M'.quota)).setCell ⟨w.heap.size, 1, none⟩ (.int .i64 M'.steps)).setCell ⟨w.heap.size, 2, none⟩ (.int .i64 M'.left)).setCell ⟨w.heap.size, 3, none⟩ (.bool M'.armed)).setCell ⟨w.heap.size, 4, none⟩ (.bool M'.gone)).setCell ⟨w.heap.size, 5, none⟩ (.slice fa' M'.fs.length fc') = w4 at b4 hF4 ⊢
  have hkp4 := (hkp.fr (fr_b hb3 fun _ => False) id).fr hF4 (by omega)
  have hbs4 := (hbs2.later hb3).fr hF4 (fun x ex hl e => by have := hlx x ex hl; omega)
  have hD4 := (hD.later hb3).fr hF4 (fun k hk e => (hns k hk).1 e)
  have hf4 := hf3.fr hF4 (fun k hk e => by
    rcases hk with hk | hk
    · have := (hX k hk).1; omega
    · omega)
  have hF40 : Fr (fp b D) w w4 := (hF2.trans (fr_b hb3 _) fun _ _ e => e).trans hF4 fun k hk e => by omega
  have hs34 : w3.heap.size ≤ w4.heap.size := hF4.size
  clear hkp hbs2 hD hf3 hF4 hF2 hb3 hF hf2 c0 c1 c2 c3 c4 c5 f0 f1 f2 f3 f4 f5
  obtain ⟨o0, o1, o2, o3, o4⟩ := b4.ops
  go_wp2_with fail
  refine (kept_d g lb cg ab cb zs _ hkp4 hbs4).mono ?_
  rintro e w4 ⟨rfl, rfl⟩
  go_wp2_with fail
  refine (over_d (cap := cg) (hkp4.2.2.2.2.1.less (by omega)) (by omega)).mono ?_
  rintro e w5 ⟨rfl, hF5⟩
  have b5 := b4.fr hF5 (fun k e => .inr (by omega))
  have hs45 : w4.heap.size ≤ w5.heap.size := hF5.size
  have hD5 := hD4.fr hF5 (fun k hk e => (hns k hk).2.2 e)
  have hf5 := hf4.fr hF5 (fun k hk e => by
    rcases hk with hk | hk
    · have := (hX k hk).1; omega
    · omega)
  have hF50 : Fr (fp b D) w w5 := hF40.trans hF5 fun k hk e => by omega
  clear o0 o1 o2 o3 o4 hkp4 hbs4 hD4 hf4 hF40 b4 hF5
  obtain ⟨c0, c1, c2, c3, c4, c5, f0, f1, f2, f3, f4, f5⟩ := c6_of b5.r0
  obtain ⟨d0, d1, d2, d3, d4, d5, g0, g1, g2, g3, g4, g5⟩ := c6_of b5.r2
  obtain ⟨e1, e3⟩ := b5.fin
  go_wp2_with fail
  go_region_with (go_at_call 31; refine (num_v n1 _).mono ?_; rintro e w6 ⟨rfl, rfl⟩)
  all_goals
    clear c0 c1 c2 c3 c4 c5 f0 f1 f2 f3 f4 f5 d0 d1 d2 d3 d4 d5 g0 g1 g2 g3 g4 g5
    go_wp2
    generalize ((((((w5.setCell ⟨w.heap.size + 1 + 1, 0, none⟩ (.int .i64 M'.quota)).setCell ⟨w.heap.size + 1 + 1, 1, none⟩ (.int .i64 M'.steps)).setCell ⟨w.heap.size + 1 + 1, 2, none⟩ (.int .i64 M'.left)).setCell ⟨w.heap.size + 1 + 1, 3, none⟩ (.bool M'.armed)).setCell ⟨w.heap.size + 1 + 1, 4, none⟩ (.bool M'.gone)).setCell ⟨w.heap.size + 1 + 1, 5, none⟩ (.slice fa' M'.fs.length fc')) = w6 at e1 e3 ⊢
    refine bodyPost_ret (v := .tuple #[rval M' fa' fc', .int .i64 n1, .int .i64 n2, .bool true]) ((results_c4 (g := w.heap.size + 1 + 1) (M := M') (fa := fa') (fc := fc') Try.results13 _ ?_ ?_).trans ?_) ?_ ?_
    · kernel_rfl
    · exact e1
    · kernel_rfl
    · kernel_rfl
    · first
        | exact dout_end hR hR2 rfl hD5 hf5 hF50 hG (by omega) (by omega) hDl hX hfl e3
        | exact dout_end hR hR2 rfl hD5 hf5 hF50 hG (by omega) (by omega) hDl hX hfl (fr_dr e3 1)
        | exact dout_end hR hR2 rfl hD5 hf5 hF50 hG (by omega) (by omega) hDl hX hfl (fr_dr e3 2)
        | exact dout_end hR hR2 rfl hD5 hf5 hF50 hG (by omega) (by omega) hDl hX hfl (fr_dr e3 3)
end Go.Proofs.Ytcmgpllnficmdaa

namespace Go.Proofs.Ytcmgpllnficmdaa
open Go.RowKit Go.Maps

variable {w : World} {base b : Nat} {D : Dsk} {X : Nat → Prop} {M : Rd} {fa : Option Addr} {fc : Nat} {nm tn : List UInt8} {n : Int} {ab : Option Addr} {lb cb : Nat} {zs : List Int}

set_option maxHeartbeats 4000000 in
set_option maxRecDepth 100000 in
theorem do_cut (h : DkAt w base b D) (hf : Fs w X fa M.fs) (hX : ∀ k, X k → k < w.heap.size ∧ ¬ fp b D k) (hM : MOk M) (hst : D.steps < 1000000000) (_hlen : D.fs.length < 1000000) (hbase : base ≤ w.heap.size) (hbs : Bs w ab lb zs) (hab : ∀ x, ab = some x → 0 < lb → ¬ fp b D x.block) (hm : lb ≤ 1000000) (hnm : nm.length ≤ 1000000) (htn : tn.length ≤ 1000000) :
    Calls Try.prog 13 #[pD b, rval M fa fc, .agg (opc 3 nm tn n ab lb cb)] w (DOut w base b D (Oo D (noCut D nm n) fun D' => ∃ p v, findF nm D.fs = some p ∧ D' = cutD (stepd D) p.2 n.toNat v) (Om M (noCutM M nm n) fun M' => ∃ (k : Nat) (h : k < M.fs.length), atR nm M.fs 0 = (k : Int) ∧ M' = { stpM M with fs := putR (cutR M.fs[k] n.toNat) M.fs })) := by
  have b3 := B3.start w M fa fc (opc 3 nm tn n ab lb cb)
  have hb0 := w3_below w M fa fc (opc 3 nm tn n ab lb cb)
  have hbs0 := hbs.later hb0
  have hsz : (bstr nm).size ≤ 1000000 := hnm
  have hsz2 : (bstr nm).size ≤ maxLen := by unfold maxLen; omega
  have hszt : (bstr tn).size ≤ 1000000 := htn
  have hfl := fp_lt h
  have hcp := copy_d ab lb cb zs _ hbs0 hm
  obtain ⟨o0, o1, o2, o3, o4⟩ := b3.ops
  go_enter Try.func13, Try.ntmps13
  go_wp2_with fail
  refine hcp.mono ?_
  rintro e w1 ⟨g, cg, rfl, hg, hkp, hb1⟩
  clear hcp
  have b3 := b3.fr (fr_b hb1 fun _ => False) (fun _ => False.elim)
  have hbw1 : Below w.heap.size w w1 := hb0.trans (hb1.mono hb0.size)
  have hbs1 := hbs.later hbw1
  have h1 := h.later hbw1
  have hf1 := hf.later hbw1
  have hgw : w.heap.size + 3 ≤ g := by simp at hg; omega
  have hglt : g < w1.heap.size := by
    obtain ⟨cur, hc, _⟩ := hkp.2.2.2.2.1
    exact (Array.getElem?_eq_some_iff.1 hc).1
  have hbase1 : base ≤ w1.heap.size := Nat.le_trans hbase hbw1.size
  clear hb0 hbs0 hb1 hg o0 o1 o2 o3 o4
  obtain ⟨o0, o1, o2, o3, o4⟩ := b3.ops
  have hpc := cut_all h1 hsz2 n hst
  go_wp2_with fail
  refine hpc.mono ?_
  rintro e w2 ⟨D', n1, hR, rfl, hD, hF, hG⟩
  clear hpc o0 o1 o2 o3 o4
  have b3 := b3.fr hF (fun k hk => .inl (hfl k hk))
  have hkp := hkp.fr hF (fun e => by have := hfl _ e; omega)
  have hbs2 := hbs1.fr hF hab
  have hf2 := hf1.fr hF (fun k hk e => (hX k hk).2 e)
  have hF2 : Fr (fp b D) w w2 := (fr_b hbw1 _).trans hF fun _ _ e => e
  have hX2 : ∀ k, X k → k < w2.heap.size := fun k hk => Nat.lt_of_lt_of_le (hX k hk).1 hF2.size
  have hDl := fp_lt hD
  clear hbs1 hf1 h1 hbw1
  obtain ⟨o0, o1, o2, o3, o4⟩ := b3.ops
  obtain ⟨c0, c1, c2, c3, c4, c5, f0, f1, f2, f3, f4, f5⟩ := c6_of b3.r0
  have hrc := cut_ra (fc := fc) (nm := nm) hf2 hX2 hM n
  go_wp2_with fail
  refine hrc.mono ?_
  rintro e w3 ⟨M', n2, hR2, fa', fc', rfl, hf3, hb3⟩
  clear hrc o0 o1 o2 o3 o4 c0 c1 c2 c3 c4 c5 f0 f1 f2 f3 f4 f5
  have b3 := b3.fr (fr_b hb3 fun _ => False) (fun _ => False.elim)
  obtain ⟨c0, c1, c2, c3, c4, c5, f0, f1, f2, f3, f4, f5⟩ := c6_of b3.r0
  obtain ⟨b4, hF4⟩ := b3.set M' fa' fc'
  go_upto_region 33 with fail
  have hs12 : w1.heap.size ≤ w2.heap.size := hF.size
  have hs23 : w2.heap.size ≤ w3.heap.size := hb3.size
  have hlx := bs_lt hbs
  have hns : ∀ k, fp b D' k → k ≠ w.heap.size ∧ k ≠ w.heap.size + 1 + 1 ∧ k ≠ g := fun k hk => by
    rcases hG k hk with h1 | h1
    · have := hfl k h1; omega
    · omega
  generalize (((((w3.setCell ⟨w.heap.size, 0, none⟩ (.int .i64 M'.quota)).setCell ⟨w.heap.size, 1, none⟩ (.int .i64 M'.steps)).setCell ⟨w.heap.size, 2, none⟩ (.int .i64 M'.left)).setCell ⟨w.heap.size, 3, none⟩ (.bool M'.armed)).setCell ⟨w.heap.size, 4, none⟩ (.bool M'.gone)).setCell ⟨w.heap.size, 5, none⟩ (.slice fa' M'.fs.length fc') = w4 at b4 hF4 ⊢
  have hkp4 := (hkp.fr (fr_b hb3 fun _ => False) id).fr hF4 (by omega)
  have hbs4 := (hbs2.later hb3).fr hF4 (fun x ex hl e => by have := hlx x ex hl; omega)
  have hD4 := (hD.later hb3).fr hF4 (fun k hk e => (hns k hk).1 e)
  have hf4 := hf3.fr hF4 (fun k hk e => by
    rcases hk with hk | hk
    · have := (hX k hk).1; omega
    · omega)
  have hF40 : Fr (fp b D) w w4 := (hF2.trans (fr_b hb3 _) fun _ _ e => e).trans hF4 fun k hk e => by omega
  have hs34 : w3.heap.size ≤ w4.heap.size := hF4.size
  clear hkp hbs2 hD hf3 hF4 hF2 hb3 hF hf2 c0 c1 c2 c3 c4 c5 f0 f1 f2 f3 f4 f5
  obtain ⟨o0, o1, o2, o3, o4⟩ := b4.ops
  go_wp2_with fail
  refine (kept_d g lb cg ab cb zs _ hkp4 hbs4).mono ?_
  rintro e w4 ⟨rfl, rfl⟩
  go_wp2_with fail
  refine (over_d (cap := cg) (hkp4.2.2.2.2.1.less (by omega)) (by omega)).mono ?_
  rintro e w5 ⟨rfl, hF5⟩
  have b5 := b4.fr hF5 (fun k e => .inr (by omega))
  have hs45 : w4.heap.size ≤ w5.heap.size := hF5.size
  have hD5 := hD4.fr hF5 (fun k hk e => (hns k hk).2.2 e)
  have hf5 := hf4.fr hF5 (fun k hk e => by
    rcases hk with hk | hk
    · have := (hX k hk).1; omega
    · omega)
  have hF50 : Fr (fp b D) w w5 := hF40.trans hF5 fun k hk e => by omega
  clear o0 o1 o2 o3 o4 hkp4 hbs4 hD4 hf4 hF40 b4 hF5
  obtain ⟨c0, c1, c2, c3, c4, c5, f0, f1, f2, f3, f4, f5⟩ := c6_of b5.r0
  obtain ⟨d0, d1, d2, d3, d4, d5, g0, g1, g2, g3, g4, g5⟩ := c6_of b5.r2
  obtain ⟨e1, e3⟩ := b5.fin
  go_wp2_with fail
  go_region_with (go_at_call 31; refine (num_v n1 _).mono ?_; rintro e w6 ⟨rfl, rfl⟩)
  all_goals
    clear c0 c1 c2 c3 c4 c5 f0 f1 f2 f3 f4 f5 d0 d1 d2 d3 d4 d5 g0 g1 g2 g3 g4 g5
    go_wp2
    generalize ((((((w5.setCell ⟨w.heap.size + 1 + 1, 0, none⟩ (.int .i64 M'.quota)).setCell ⟨w.heap.size + 1 + 1, 1, none⟩ (.int .i64 M'.steps)).setCell ⟨w.heap.size + 1 + 1, 2, none⟩ (.int .i64 M'.left)).setCell ⟨w.heap.size + 1 + 1, 3, none⟩ (.bool M'.armed)).setCell ⟨w.heap.size + 1 + 1, 4, none⟩ (.bool M'.gone)).setCell ⟨w.heap.size + 1 + 1, 5, none⟩ (.slice fa' M'.fs.length fc')) = w6 at e1 e3 ⊢
    refine bodyPost_ret (v := .tuple #[rval M' fa' fc', .int .i64 n1, .int .i64 n2, .bool true]) ((results_c4 (g := w.heap.size + 1 + 1) (M := M') (fa := fa') (fc := fc') Try.results13 _ ?_ ?_).trans ?_) ?_ ?_
    · kernel_rfl
    · exact e1
    · kernel_rfl
    · kernel_rfl
    · first
        | exact dout_end hR hR2 rfl hD5 hf5 hF50 hG (by omega) (by omega) hDl hX hfl e3
        | exact dout_end hR hR2 rfl hD5 hf5 hF50 hG (by omega) (by omega) hDl hX hfl (fr_dr e3 1)
        | exact dout_end hR hR2 rfl hD5 hf5 hF50 hG (by omega) (by omega) hDl hX hfl (fr_dr e3 2)
        | exact dout_end hR hR2 rfl hD5 hf5 hF50 hG (by omega) (by omega) hDl hX hfl (fr_dr e3 3)
end Go.Proofs.Ytcmgpllnficmdaa

namespace Go.Proofs.Ytcmgpllnficmdaa
open Go.RowKit Go.Maps

variable {w : World} {base b : Nat} {D : Dsk} {X : Nat → Prop} {M : Rd} {fa : Option Addr} {fc : Nat} {nm tn : List UInt8} {n : Int} {ab : Option Addr} {lb cb : Nat} {zs : List Int}

set_option maxHeartbeats 4000000 in
set_option maxRecDepth 100000 in
theorem do_rename (h : DkAt w base b D) (hf : Fs w X fa M.fs) (hX : ∀ k, X k → k < w.heap.size ∧ ¬ fp b D k) (hM : MOk M) (hst : D.steps < 1000000000) (hlen : D.fs.length < 1000000) (hbase : base ≤ w.heap.size) (hbs : Bs w ab lb zs) (hab : ∀ x, ab = some x → 0 < lb → ¬ fp b D x.block) (hm : lb ≤ 1000000) (hnm : nm.length ≤ 1000000) (htn : tn.length ≤ 1000000) :
    Calls Try.prog 13 #[pD b, rval M fa fc, .agg (opc 4 nm tn n ab lb cb)] w (DOut w base b D (Oo D (noRen D nm tn) fun D' => ∃ p, findF nm D.fs = some p ∧ D' = renD (stepd D) nm tn p.2) (Om M (noRenM M nm tn) fun M' => ∃ (k : Nat) (h : k < M.fs.length), atR nm M.fs 0 = (k : Int) ∧ M' = { stpM M with fs := putR (renR M.fs[k] tn) (delR nm M.fs) })) := by
  have b3 := B3.start w M fa fc (opc 4 nm tn n ab lb cb)
  have hb0 := w3_below w M fa fc (opc 4 nm tn n ab lb cb)
  have hbs0 := hbs.later hb0
  have hsz : (bstr nm).size ≤ 1000000 := hnm
  have hsz2 : (bstr nm).size ≤ maxLen := by unfold maxLen; omega
  have hszt : (bstr tn).size ≤ 1000000 := htn
  have hfl := fp_lt h
  have hcp := copy_d ab lb cb zs _ hbs0 hm
  obtain ⟨o0, o1, o2, o3, o4⟩ := b3.ops
  go_enter Try.func13, Try.ntmps13
  go_wp2_with fail
  refine hcp.mono ?_
  rintro e w1 ⟨g, cg, rfl, hg, hkp, hb1⟩
  clear hcp
  have b3 := b3.fr (fr_b hb1 fun _ => False) (fun _ => False.elim)
  have hbw1 : Below w.heap.size w w1 := hb0.trans (hb1.mono hb0.size)
  have hbs1 := hbs.later hbw1
  have h1 := h.later hbw1
  have hf1 := hf.later hbw1
  have hgw : w.heap.size + 3 ≤ g := by simp at hg; omega
  have hglt : g < w1.heap.size := by
    obtain ⟨cur, hc, _⟩ := hkp.2.2.2.2.1
    exact (Array.getElem?_eq_some_iff.1 hc).1
  have hbase1 : base ≤ w1.heap.size := Nat.le_trans hbase hbw1.size
  clear hb0 hbs0 hb1 hg o0 o1 o2 o3 o4
  obtain ⟨o0, o1, o2, o3, o4⟩ := b3.ops
  have hpc := ren_all h1 hsz hszt hst hlen
  go_wp2_with fail
  refine hpc.mono ?_
  rintro e w2 ⟨D', n1, hR, rfl, hD, hF, hG⟩
  clear hpc o0 o1 o2 o3 o4
  have b3 := b3.fr hF (fun k hk => .inl (hfl k hk))
  have hkp := hkp.fr hF (fun e => by have := hfl _ e; omega)
  have hbs2 := hbs1.fr hF hab
  have hf2 := hf1.fr hF (fun k hk e => (hX k hk).2 e)
  have hF2 : Fr (fp b D) w w2 := (fr_b hbw1 _).trans hF fun _ _ e => e
  have hX2 : ∀ k, X k → k < w2.heap.size := fun k hk => Nat.lt_of_lt_of_le (hX k hk).1 hF2.size
  have hDl := fp_lt hD
  clear hbs1 hf1 h1 hbw1
  obtain ⟨o0, o1, o2, o3, o4⟩ := b3.ops
  obtain ⟨c0, c1, c2, c3, c4, c5, f0, f1, f2, f3, f4, f5⟩ := c6_of b3.r0
  have hrc := ren_ra (fc := fc) (nm := nm) (tn := tn) hf2 hX2 hM
  go_wp2_with fail
  refine hrc.mono ?_
  rintro e w3 ⟨M', n2, hR2, fa', fc', rfl, hf3, hb3⟩
  clear hrc o0 o1 o2 o3 o4 c0 c1 c2 c3 c4 c5 f0 f1 f2 f3 f4 f5
  have b3 := b3.fr (fr_b hb3 fun _ => False) (fun _ => False.elim)
  obtain ⟨c0, c1, c2, c3, c4, c5, f0, f1, f2, f3, f4, f5⟩ := c6_of b3.r0
  obtain ⟨b4, hF4⟩ := b3.set M' fa' fc'
  go_upto_region 33 with fail
  have hs12 : w1.heap.size ≤ w2.heap.size := hF.size
  have hs23 : w2.heap.size ≤ w3.heap.size := hb3.size
  have hlx := bs_lt hbs
  have hns : ∀ k, fp b D' k → k ≠ w.heap.size ∧ k ≠ w.heap.size + 1 + 1 ∧ k ≠ g := fun k hk => by
    rcases hG k hk with h1 | h1
    · have := hfl k h1; omega
    · omega
  generalize (((((w3.setCell ⟨w.heap.size, 0, none⟩ (.int .i64 M'.quota)).setCell ⟨w.heap.size, 1, none⟩ (.int .i64 M'.steps)).setCell ⟨w.heap.size, 2, none⟩ (.int .i64 M'.left)).setCell ⟨w.heap.size, 3, none⟩ (.bool M'.armed)).setCell ⟨w.heap.size, 4, none⟩ (.bool M'.gone)).setCell ⟨w.heap.size, 5, none⟩ (.slice fa' M'.fs.length fc') = w4 at b4 hF4 ⊢
  have hkp4 := (hkp.fr (fr_b hb3 fun _ => False) id).fr hF4 (by omega)
  have hbs4 := (hbs2.later hb3).fr hF4 (fun x ex hl e => by have := hlx x ex hl; omega)
  have hD4 := (hD.later hb3).fr hF4 (fun k hk e => (hns k hk).1 e)
  have hf4 := hf3.fr hF4 (fun k hk e => by
    rcases hk with hk | hk
    · have := (hX k hk).1; omega
    · omega)
  have hF40 : Fr (fp b D) w w4 := (hF2.trans (fr_b hb3 _) fun _ _ e => e).trans hF4 fun k hk e => by omega
  have hs34 : w3.heap.size ≤ w4.heap.size := hF4.size
  clear hkp hbs2 hD hf3 hF4 hF2 hb3 hF hf2 c0 c1 c2 c3 c4 c5 f0 f1 f2 f3 f4 f5
  obtain ⟨o0, o1, o2, o3, o4⟩ := b4.ops
  go_wp2_with fail
  refine (kept_d g lb cg ab cb zs _ hkp4 hbs4).mono ?_
  rintro e w4 ⟨rfl, rfl⟩
  go_wp2_with fail
  refine (over_d (cap := cg) (hkp4.2.2.2.2.1.less (by omega)) (by omega)).mono ?_
  rintro e w5 ⟨rfl, hF5⟩
  have b5 := b4.fr hF5 (fun k e => .inr (by omega))
  have hs45 : w4.heap.size ≤ w5.heap.size := hF5.size
  have hD5 := hD4.fr hF5 (fun k hk e => (hns k hk).2.2 e)
  have hf5 := hf4.fr hF5 (fun k hk e => by
    rcases hk with hk | hk
    · have := (hX k hk).1; omega
    · omega)
  have hF50 : Fr (fp b D) w w5 := hF40.trans hF5 fun k hk e => by omega
  clear o0 o1 o2 o3 o4 hkp4 hbs4 hD4 hf4 hF40 b4 hF5
  obtain ⟨c0, c1, c2, c3, c4, c5, f0, f1, f2, f3, f4, f5⟩ := c6_of b5.r0
  obtain ⟨d0, d1, d2, d3, d4, d5, g0, g1, g2, g3, g4, g5⟩ := c6_of b5.r2
  obtain ⟨e1, e3⟩ := b5.fin
  go_wp2_with fail
  go_region_with (go_at_call 31; refine (num_v n1 _).mono ?_; rintro e w6 ⟨rfl, rfl⟩)
  all_goals
    clear c0 c1 c2 c3 c4 c5 f0 f1 f2 f3 f4 f5 d0 d1 d2 d3 d4 d5 g0 g1 g2 g3 g4 g5
    go_wp2
    generalize ((((((w5.setCell ⟨w.heap.size + 1 + 1, 0, none⟩ (.int .i64 M'.quota)).setCell ⟨w.heap.size + 1 + 1, 1, none⟩ (.int .i64 M'.steps)).setCell ⟨w.heap.size + 1 + 1, 2, none⟩ (.int .i64 M'.left)).setCell ⟨w.heap.size + 1 + 1, 3, none⟩ (.bool M'.armed)).setCell ⟨w.heap.size + 1 + 1, 4, none⟩ (.bool M'.gone)).setCell ⟨w.heap.size + 1 + 1, 5, none⟩ (.slice fa' M'.fs.length fc')) = w6 at e1 e3 ⊢
    refine bodyPost_ret (v := .tuple #[rval M' fa' fc', .int .i64 n1, .int .i64 n2, .bool true]) ((results_c4 (g := w.heap.size + 1 + 1) (M := M') (fa := fa') (fc := fc') Try.results13 _ ?_ ?_).trans ?_) ?_ ?_
    · kernel_rfl
    · exact e1
    · kernel_rfl
    · kernel_rfl
    · first
        | exact dout_end hR hR2 rfl hD5 hf5 hF50 hG (by omega) (by omega) hDl hX hfl e3
        | exact dout_end hR hR2 rfl hD5 hf5 hF50 hG (by omega) (by omega) hDl hX hfl (fr_dr e3 1)
        | exact dout_end hR hR2 rfl hD5 hf5 hF50 hG (by omega) (by omega) hDl hX hfl (fr_dr e3 2)
        | exact dout_end hR hR2 rfl hD5 hf5 hF50 hG (by omega) (by omega) hDl hX hfl (fr_dr e3 3)
end Go.Proofs.Ytcmgpllnficmdaa

namespace Go.Proofs.Ytcmgpllnficmdaa
open Go.RowKit Go.Maps

variable {w : World} {base b : Nat} {D : Dsk} {X : Nat → Prop} {M : Rd} {fa : Option Addr} {fc : Nat} {nm tn : List UInt8} {n : Int} {ab : Option Addr} {lb cb : Nat} {zs : List Int}

set_option maxHeartbeats 4000000 in
set_option maxRecDepth 100000 in
theorem do_drop (h : DkAt w base b D) (hf : Fs w X fa M.fs) (hX : ∀ k, X k → k < w.heap.size ∧ ¬ fp b D k) (hM : MOk M) (hst : D.steps < 1000000000) (_hlen : D.fs.length < 1000000) (hbase : base ≤ w.heap.size) (hbs : Bs w ab lb zs) (hab : ∀ x, ab = some x → 0 < lb → ¬ fp b D x.block) (hm : lb ≤ 1000000) (hnm : nm.length ≤ 1000000) (htn : tn.length ≤ 1000000) :
    Calls Try.prog 13 #[pD b, rval M fa fc, .agg (opc 5 nm tn n ab lb cb)] w (DOut w base b D (Oo D (noNm D nm) fun D' => ∃ p, findF nm D.fs = some p ∧ D' = dropD D nm p.2) (Om M (noNmM M nm) fun M' => M' = { stpM M with fs := delR nm M.fs })) := by
  have b3 := B3.start w M fa fc (opc 5 nm tn n ab lb cb)
  have hb0 := w3_below w M fa fc (opc 5 nm tn n ab lb cb)
  have hbs0 := hbs.later hb0
  have hsz : (bstr nm).size ≤ 1000000 := hnm
  have hsz2 : (bstr nm).size ≤ maxLen := by unfold maxLen; omega
  have hszt : (bstr tn).size ≤ 1000000 := htn
  have hfl := fp_lt h
  have hcp := copy_d ab lb cb zs _ hbs0 hm
  obtain ⟨o0, o1, o2, o3, o4⟩ := b3.ops
  go_enter Try.func13, Try.ntmps13
  go_wp2_with fail
  refine hcp.mono ?_
  rintro e w1 ⟨g, cg, rfl, hg, hkp, hb1⟩
  clear hcp
  have b3 := b3.fr (fr_b hb1 fun _ => False) (fun _ => False.elim)
  have hbw1 : Below w.heap.size w w1 := hb0.trans (hb1.mono hb0.size)
  have hbs1 := hbs.later hbw1
  have h1 := h.later hbw1
  have hf1 := hf.later hbw1
  have hgw : w.heap.size + 3 ≤ g := by simp at hg; omega
  have hglt : g < w1.heap.size := by
    obtain ⟨cur, hc, _⟩ := hkp.2.2.2.2.1
    exact (Array.getElem?_eq_some_iff.1 hc).1
  have hbase1 : base ≤ w1.heap.size := Nat.le_trans hbase hbw1.size
  clear hb0 hbs0 hb1 hg o0 o1 o2 o3 o4
  obtain ⟨o0, o1, o2, o3, o4⟩ := b3.ops
  have hpc := drop_all h1 hsz2 hst
  go_wp2_with fail
  refine hpc.mono ?_
  rintro e w2 ⟨D', n1, hR, rfl, hD, hF, hG⟩
  clear hpc o0 o1 o2 o3 o4
  have b3 := b3.fr hF (fun k hk => .inl (hfl k hk))
  have hkp := hkp.fr hF (fun e => by have := hfl _ e; omega)
  have hbs2 := hbs1.fr hF hab
  have hf2 := hf1.fr hF (fun k hk e => (hX k hk).2 e)
  have hF2 : Fr (fp b D) w w2 := (fr_b hbw1 _).trans hF fun _ _ e => e
  have hX2 : ∀ k, X k → k < w2.heap.size := fun k hk => Nat.lt_of_lt_of_le (hX k hk).1 hF2.size
  have hDl := fp_lt hD
  clear hbs1 hf1 h1 hbw1
  obtain ⟨o0, o1, o2, o3, o4⟩ := b3.ops
  obtain ⟨c0, c1, c2, c3, c4, c5, f0, f1, f2, f3, f4, f5⟩ := c6_of b3.r0
  have hrc := drop_ra (fc := fc) (nm := nm) hf2 hX2 hM
  go_wp2_with fail
  refine hrc.mono ?_
  rintro e w3 ⟨M', n2, hR2, fa', fc', rfl, hf3, hb3⟩
  clear hrc o0 o1 o2 o3 o4 c0 c1 c2 c3 c4 c5 f0 f1 f2 f3 f4 f5
  have b3 := b3.fr (fr_b hb3 fun _ => False) (fun _ => False.elim)
  obtain ⟨c0, c1, c2, c3, c4, c5, f0, f1, f2, f3, f4, f5⟩ := c6_of b3.r0
  obtain ⟨b4, hF4⟩ := b3.set M' fa' fc'
  go_upto_region 33 with fail
  have hs12 : w1.heap.size ≤ w2.heap.size := hF.size
  have hs23 : w2.heap.size ≤ w3.heap.size := hb3.size
  have hlx := bs_lt hbs
  have hns : ∀ k, fp b D' k → k ≠ w.heap.size ∧ k ≠ w.heap.size + 1 + 1 ∧ k ≠ g := fun k hk => by
    rcases hG k hk with h1 | h1
    · have := hfl k h1; omega
    · omega
  generalize (((((w3.setCell ⟨w.heap.size, 0, none⟩ (.int .i64 M'.quota)).setCell ⟨w.heap.size, 1, none⟩ (.int .i64 M'.steps)).setCell ⟨w.heap.size, 2, none⟩ (.int .i64 M'.left)).setCell ⟨w.heap.size, 3, none⟩ (.bool M'.armed)).setCell ⟨w.heap.size, 4, none⟩ (.bool M'.gone)).setCell ⟨w.heap.size, 5, none⟩ (.slice fa' M'.fs.length fc') = w4 at b4 hF4 ⊢
  have hkp4 := (hkp.fr (fr_b hb3 fun _ => False) id).fr hF4 (by omega)
  have hbs4 := (hbs2.later hb3).fr hF4 (fun x ex hl e => by have := hlx x ex hl; omega)
  have hD4 := (hD.later hb3).fr hF4 (fun k hk e => (hns k hk).1 e)
  have hf4 := hf3.fr hF4 (fun k hk e => by
    rcases hk with hk | hk
    · have := (hX k hk).1; omega
    · omega)
  have hF40 : Fr (fp b D) w w4 := (hF2.trans (fr_b hb3 _) fun _ _ e => e).trans hF4 fun k hk e => by omega
  have hs34 : w3.heap.size ≤ w4.heap.size := hF4.size
  clear hkp hbs2 hD hf3 hF4 hF2 hb3 hF hf2 c0 c1 c2 c3 c4 c5 f0 f1 f2 f3 f4 f5
  obtain ⟨o0, o1, o2, o3, o4⟩ := b4.ops
  go_wp2_with fail
  refine (kept_d g lb cg ab cb zs _ hkp4 hbs4).mono ?_
  rintro e w4 ⟨rfl, rfl⟩
  go_wp2_with fail
  refine (over_d (cap := cg) (hkp4.2.2.2.2.1.less (by omega)) (by omega)).mono ?_
  rintro e w5 ⟨rfl, hF5⟩
  have b5 := b4.fr hF5 (fun k e => .inr (by omega))
  have hs45 : w4.heap.size ≤ w5.heap.size := hF5.size
  have hD5 := hD4.fr hF5 (fun k hk e => (hns k hk).2.2 e)
  have hf5 := hf4.fr hF5 (fun k hk e => by
    rcases hk with hk | hk
    · have := (hX k hk).1; omega
    · omega)
  have hF50 : Fr (fp b D) w w5 := hF40.trans hF5 fun k hk e => by omega
  clear o0 o1 o2 o3 o4 hkp4 hbs4 hD4 hf4 hF40 b4 hF5
  obtain ⟨c0, c1, c2, c3, c4, c5, f0, f1, f2, f3, f4, f5⟩ := c6_of b5.r0
  obtain ⟨d0, d1, d2, d3, d4, d5, g0, g1, g2, g3, g4, g5⟩ := c6_of b5.r2
  obtain ⟨e1, e3⟩ := b5.fin
  go_wp2_with fail
  go_region_with (go_at_call 31; refine (num_v n1 _).mono ?_; rintro e w6 ⟨rfl, rfl⟩)
  all_goals
    clear c0 c1 c2 c3 c4 c5 f0 f1 f2 f3 f4 f5 d0 d1 d2 d3 d4 d5 g0 g1 g2 g3 g4 g5
    go_wp2
    generalize ((((((w5.setCell ⟨w.heap.size + 1 + 1, 0, none⟩ (.int .i64 M'.quota)).setCell ⟨w.heap.size + 1 + 1, 1, none⟩ (.int .i64 M'.steps)).setCell ⟨w.heap.size + 1 + 1, 2, none⟩ (.int .i64 M'.left)).setCell ⟨w.heap.size + 1 + 1, 3, none⟩ (.bool M'.armed)).setCell ⟨w.heap.size + 1 + 1, 4, none⟩ (.bool M'.gone)).setCell ⟨w.heap.size + 1 + 1, 5, none⟩ (.slice fa' M'.fs.length fc')) = w6 at e1 e3 ⊢
    refine bodyPost_ret (v := .tuple #[rval M' fa' fc', .int .i64 n1, .int .i64 n2, .bool true]) ((results_c4 (g := w.heap.size + 1 + 1) (M := M') (fa := fa') (fc := fc') Try.results13 _ ?_ ?_).trans ?_) ?_ ?_
    · kernel_rfl
    · exact e1
    · kernel_rfl
    · kernel_rfl
    · first
        | exact dout_end hR hR2 rfl hD5 hf5 hF50 hG (by omega) (by omega) hDl hX hfl e3
        | exact dout_end hR hR2 rfl hD5 hf5 hF50 hG (by omega) (by omega) hDl hX hfl (fr_dr e3 1)
        | exact dout_end hR hR2 rfl hD5 hf5 hF50 hG (by omega) (by omega) hDl hX hfl (fr_dr e3 2)
        | exact dout_end hR hR2 rfl hD5 hf5 hF50 hG (by omega) (by omega) hDl hX hfl (fr_dr e3 3)
end Go.Proofs.Ytcmgpllnficmdaa

namespace Go.Proofs.Ytcmgpllnficmdaa
open Go.RowKit Go.Maps

/-- What a disk's Read answers: the bytes, the error's number. -/
def RdO (D : Dsk) (nm : List UInt8) (zs : List Int) (n : Int) : Prop :=
  (D.gone = true ∧ zs = [] ∧ n = 4) ∨ (D.gone = false ∧ findF nm D.fs = none ∧ zs = [] ∧ n = 5) ∨ (D.gone = false ∧ ∃ p, findF nm D.fs = some p ∧ zs = (D.ct p.2).dat ∧ n = 0)
def RdM (M : Rd) (nm : List UInt8) (zs : List Int) (n : Int) : Prop :=
  (M.gone = true ∧ zs = [] ∧ n = 4) ∨ (M.gone = false ∧ atR nm M.fs 0 = -1 ∧ zs = [] ∧ n = 5) ∨ (M.gone = false ∧ ∃ (k : Nat) (h : k < M.fs.length), atR nm M.fs 0 = (k : Int) ∧ zs = M.fs[k].dat ∧ n = 0)
/-- A row of bytes of the call's own, and a number behind it. -/
def RdOut (w : World) (f : Int → Value) (R : List Int → Int → Prop) (e : Ending) (w' : World) : Prop :=
  ∃ v zs n, R zs n ∧ e = .returned (.tuple #[v, f n]) ∧ w'.ownsRow w.heap.size 5 1 v zs.length (byteVals zs) ∧ (∀ z ∈ zs, 0 ≤ z ∧ z < 256) ∧ Below w.heap.size w w'
theorem own_nil (w : World) (base : Nat) : w.ownsRow base 5 1 (.slice none 0 0) ([] : List Int).length (byteVals []) := World.ownsRow_nil _ _ _ _
theorem read_all {w : World} {base b : Nat} {D : Dsk} (h : DkAt w base b D) {s : ByteArray} (hs : s.size ≤ maxLen) :
    Calls Try.prog 21 #[pD b, .string s] w (RdOut w eV (RdO D s.data.toList)) := by
  cases hg : D.gone with
  | true =>
    refine (read_down h hg s).mono ?_
    rintro e w1 ⟨rfl, rfl⟩
    exact ⟨_, [], 4, .inl ⟨hg, rfl, rfl⟩, rfl, own_nil _ _, by simp, Below.refl _ _⟩
  | false =>
    cases hp : findF s.data.toList D.fs with
    | none =>
      refine (read_n h hg hs hp).mono ?_
      rintro e w1 ⟨rfl, rfl⟩
      exact ⟨_, [], 5, .inr (.inl ⟨hg, hp, rfl, rfl⟩), rfl, own_nil _ _, by simp, Below.refl _ _⟩
    | some p =>
      have hm := (find_mem hp).1
      have hl := len_le h hm
      have hq := h.qt
      refine (read_ok h hg hs hp (by omega)).mono ?_
      rintro e w1 ⟨v, rfl, ho, hb⟩
      exact ⟨v, _, 0, .inr (.inr ⟨hg, p, hp, rfl, rfl⟩), rfl, ho, (h.fil p hm).byt, hb⟩
theorem read_ra {w : World} {X : Nat → Prop} {M : Rd} {fa : Option Addr} {fc : Nat} {nm : List UInt8} (hf : Fs w X fa M.fs) (hM : MOk M) :
    Calls Try.prog 39 #[rval M fa fc, .string (bstr nm)] w (RdOut w (fun n => .int .i64 n) (RdM M nm)) := by
  cases hg : M.gone with
  | true =>
    refine (read_r_down hg).mono ?_
    rintro e w1 ⟨rfl, hb⟩
    exact ⟨_, [], 4, .inl ⟨hg, rfl, rfl⟩, rfl, own_nil _ _, by simp, hb⟩
  | false =>
    rcases at_or nm M.fs with hk | ⟨k, hk, hkl⟩
    · refine (read_r_n hf hM.n hg hk).mono ?_
      rintro e w1 ⟨rfl, hb⟩
      exact ⟨_, [], 5, .inr (.inl ⟨hg, hk, rfl, rfl⟩), rfl, own_nil _ _, by simp, hb⟩
    · refine (read_r_ok hf hM.n hg hk hkl (hM.d _ (List.getElem_mem hkl))).mono ?_
      rintro e w1 ⟨v, rfl, ho, hb⟩
      obtain ⟨_, _, hc⟩ := (hf (by omega)).choose_spec
      obtain ⟨_, _, _, _, _, h4, _⟩ := hc k hkl
      exact ⟨v, _, 0, .inr (.inr ⟨hg, k, hkl, hk, rfl, rfl⟩), rfl, ho, h4.2.1, hb⟩
/-- Over, of any row of the call's own. -/
theorem over_any {w : World} {base : Nat} {v : Value} {zs : List Int} (h : w.ownsRow base 5 1 v zs.length (byteVals zs)) (hz : ∀ z ∈ zs, 0 ≤ z ∧ z < 256) (hn : zs.length ≤ 100000000) :
    Calls Try.prog 41 #[v] w fun e w' => e = .returned (.tuple #[]) ∧ Fr (fun k => base ≤ k ∧ v.ownBlock = some k) w w' := by
  rcases wr_own h hz with ⟨rfl, e⟩ | ⟨g, cap, rfl, hb, hw⟩
  · refine over_0.mono ?_
    rintro e w1 ⟨rfl, rfl⟩
    exact ⟨rfl, Fr.refl _ _⟩
  · refine (over_d hw hn).mono ?_
    rintro e w1 ⟨rfl, hf⟩
    exact ⟨rfl, hf.mono fun k _ e => ⟨by omega, by rw [e]; rfl⟩⟩
end Go.Proofs.Ytcmgpllnficmdaa

namespace Go.Proofs.Ytcmgpllnficmdaa
open Go.RowKit Go.Maps

variable {w : World} {base b : Nat} {D : Dsk} {X : Nat → Prop} {M : Rd} {fa : Option Addr} {fc : Nat} {nm tn : List UInt8} {n : Int} {ab : Option Addr} {lb cb : Nat} {zs : List Int}

/-- What do answers of a read. -/
def DRd (w : World) (D : Dsk) (M : Rd) (nm : List UInt8) (fa : Option Addr) (fc : Nat) (e : Ending) (w' : World) : Prop :=
  ∃ ys n ys' n', RdO D nm ys n ∧ RdM M nm ys' n' ∧ e = .returned (.tuple #[rval M fa fc, .int .i64 n, .int .i64 n', .bool (decide (ys = ys'))]) ∧ Below w.heap.size w w'
theorem rd_len {w : World} {base b : Nat} {D : Dsk} {nm : List UInt8} {ys : List Int} {n : Int} (h : DkAt w base b D) (hR : RdO D nm ys n) : ys.length ≤ 100000000 := by
  rcases hR with ⟨_, rfl, _⟩ | ⟨_, _, rfl, _⟩ | ⟨_, p, hp, rfl, _⟩
  · simp
  · simp
  · have := len_le h (find_mem hp).1
    have := h.qt
    omega
set_option maxHeartbeats 4000000 in
set_option maxRecDepth 100000 in
theorem do_read (h : DkAt w base b D) (hf : Fs w X fa M.fs) (hM : MOk M) (hbs : Bs w ab lb zs) (hm : lb ≤ 1000000) (hnm : nm.length ≤ 1000000) {kd : Int} (k1 : ¬ kd = 1) (k2 : ¬ kd = 2) (k3 : ¬ kd = 3) (k4 : ¬ kd = 4) (k5 : ¬ kd = 5) (k7 : ¬ kd = 7) (k8 : ¬ kd = 8) :
    Calls Try.prog 13 #[pD b, rval M fa fc, .agg (opc kd nm tn n ab lb cb)] w (DRd w D M nm fa fc) := by
  have b3 := B3.start w M fa fc (opc kd nm tn n ab lb cb)
  have hb0 := w3_below w M fa fc (opc kd nm tn n ab lb cb)
  have hbs0 := hbs.later hb0
  have hsz2 : (bstr nm).size ≤ maxLen := by have : (bstr nm).size ≤ 1000000 := hnm; unfold maxLen; omega
  have hcp := copy_d ab lb cb zs _ hbs0 hm
  have hlx := bs_lt hbs
  obtain ⟨o0, o1, o2, o3, o4⟩ := b3.ops
  go_enter Try.func13, Try.ntmps13
  go_wp2_with fail
  refine hcp.mono ?_
  rintro e w1 ⟨g, cg, rfl, hg, hkp, hb1⟩
  clear hcp
  have b3 := b3.fr (fr_b hb1 fun _ => False) (fun _ => False.elim)
  have hbw1 : Below w.heap.size w w1 := hb0.trans (hb1.mono hb0.size)
  have h1 := h.later hbw1
  have hgw : w.heap.size + 3 ≤ g := by simp at hg; omega
  have hglt : g < w1.heap.size := by
    obtain ⟨cur, hc, _⟩ := hkp.2.2.2.2.1
    exact (Array.getElem?_eq_some_iff.1 hc).1
  clear hb0 hbs0 hb1 hg o0 o1 o2 o3 o4
  obtain ⟨o0, o1, o2, o3, o4⟩ := b3.ops
  have hpc := read_all h1 hsz2
  go_wp2_with fail
  refine hpc.mono ?_
  rintro e w2 ⟨v, ys, n1, hR, rfl, hov, hyb, hb2⟩
  have hyl := rd_len h1 hR
  obtain ⟨va, vc, hvb, rfl⟩ := bs_own2 hov hyb
  clear hpc o0 o1 o2 o3 o4 h1
  have b3 := b3.fr (fr_b hb2 fun _ => False) (fun _ => False.elim)
  have hkp := hkp.fr (fr_b hb2 fun _ => False) id
  have hbw2 : Below w.heap.size w w2 := hbw1.trans (hb2.mono hbw1.size)
  have hs01 := hbw1.size
  have hs12 := hb2.size
  obtain ⟨o0, o1, o2, o3, o4⟩ := b3.ops
  obtain ⟨c0, c1, c2, c3, c4, c5, f0, f1, f2, f3, f4, f5⟩ := c6_of b3.r0
  have hrc := read_ra (fc := fc) (nm := nm) (hf.later hbw2) hM
  clear hbw1 hb2
  go_wp2_with fail
  refine hrc.mono ?_
  rintro e w3 ⟨u, ys2, n2, hR2, rfl, hou, hub, hb3⟩
  obtain ⟨ua, uc, hub2, rfl⟩ := bs_own2 hou hub
  clear hrc o0 o1 o2 o3 o4 c0 c1 c2 c3 c4 c5 f0 f1 f2 f3 f4 f5 hou
  have b3 := b3.fr (fr_b hb3 fun _ => False) (fun _ => False.elim)
  have hkp := hkp.fr (fr_b hb3 fun _ => False) id
  have hbw3 : Below w.heap.size w w3 := hbw2.trans (hb3.mono hbw2.size)
  have hvb := hvb.later hb3
  have hov := row_fr hov (fr_b hb3 fun _ => False) fun _ _ => id
  have hs23 := hb3.size
  clear hbw2 hb3
  go_wp2_with fail
  refine (same_d (ca := vc) (cb := uc) hvb hub2).mono ?_
  rintro e w3 ⟨rfl, rfl⟩
  generalize hsb : decide (ys = ys2) = sb
  replace hsb := hide1 hsb
  go_wp2_with fail
  refine (over_any hov hyb hyl).mono ?_
  rintro e w4 ⟨rfl, hF4⟩
  have b4 := b3.fr hF4 (fun k hk => .inr (by omega))
  have hkp4 := hkp.fr hF4 (fun e => by omega)
  have hbs4 := (hbs.later hbw3).fr hF4 (fun x ex hl e => by have := hlx x ex hl; omega)
  have hB4 : Below w.heap.size w w4 := hbw3.trans (hF4.below _ hbw3.size fun i e => by omega)
  clear hkp hvb hub2 hov hF4 hbw3 b3
  obtain ⟨o0, o1, o2, o3, o4⟩ := b4.ops
  cases sb with
  | true =>
    go_wp2_with fail
    refine (kept_d g lb cg ab cb zs _ hkp4 hbs4).mono ?_
    rintro e w4 ⟨rfl, rfl⟩
    go_wp2_with fail
    refine (over_d (cap := cg) (hkp4.2.2.2.2.1.less (by omega)) (by omega)).mono ?_
    rintro e w5 ⟨rfl, hF5⟩
    have b5 := b4.fr hF5 (fun k e => .inr (by omega))
    have hB5 : Below w.heap.size w w5 := hB4.trans (hF5.below _ hB4.size fun i e => by omega)
    clear o0 o1 o2 o3 o4 hkp4 hbs4 b4 hF5 hB4
    obtain ⟨c0, c1, c2, c3, c4, c5, f0, f1, f2, f3, f4, f5⟩ := c6_of b5.r0
    obtain ⟨d0, d1, d2, d3, d4, d5, g0, g1, g2, g3, g4, g5⟩ := c6_of b5.r2
    obtain ⟨e1, e3⟩ := b5.fin
    go_wp2_with fail
    go_region_with (go_at_call 31; refine (num_v n1 _).mono ?_; rintro e w6 ⟨rfl, rfl⟩)
    all_goals
      clear c0 c1 c2 c3 c4 c5 f0 f1 f2 f3 f4 f5 d0 d1 d2 d3 d4 d5 g0 g1 g2 g3 g4 g5
      go_wp2
      generalize ((((((w5.setCell ⟨w.heap.size + 1 + 1, 0, none⟩ (.int .i64 M.quota)).setCell ⟨w.heap.size + 1 + 1, 1, none⟩ (.int .i64 M.steps)).setCell ⟨w.heap.size + 1 + 1, 2, none⟩ (.int .i64 M.left)).setCell ⟨w.heap.size + 1 + 1, 3, none⟩ (.bool M.armed)).setCell ⟨w.heap.size + 1 + 1, 4, none⟩ (.bool M.gone)).setCell ⟨w.heap.size + 1 + 1, 5, none⟩ (.slice fa M.fs.length fc)) = w6 at e1 e3 ⊢
      have hB6 : Below w.heap.size w w6 := hB5.trans (e3.below _ hB5.size fun i e => by omega)
      refine bodyPost_ret (v := .tuple #[rval M fa fc, .int .i64 n1, .int .i64 n2, .bool true]) ((results_c4 (g := w.heap.size + 1 + 1) (M := M) (fa := fa) (fc := fc) Try.results13 _ ?_ ?_).trans ?_) ?_ ?_
      · kernel_rfl
      · exact e1
      · kernel_rfl
      · kernel_rfl
      · refine ⟨ys, n1, ys2, n2, hR, hR2, by rw [hsb.out], ?_⟩
        first
          | exact hB6
          | exact hB6.trans ((below_drewN w6 1).mono hB6.size)
          | exact hB6.trans ((below_drewN w6 2).mono hB6.size)
          | exact hB6.trans ((below_drewN w6 3).mono hB6.size)
  | false =>
    go_wp2_with fail
    refine (over_d (cap := cg) (hkp4.2.2.2.2.1.less (by omega)) (by omega)).mono ?_
    rintro e w5 ⟨rfl, hF5⟩
    have b5 := b4.fr hF5 (fun k e => .inr (by omega))
    have hB5 : Below w.heap.size w w5 := hB4.trans (hF5.below _ hB4.size fun i e => by omega)
    clear o0 o1 o2 o3 o4 hkp4 hbs4 b4 hF5 hB4
    obtain ⟨c0, c1, c2, c3, c4, c5, f0, f1, f2, f3, f4, f5⟩ := c6_of b5.r0
    obtain ⟨d0, d1, d2, d3, d4, d5, g0, g1, g2, g3, g4, g5⟩ := c6_of b5.r2
    obtain ⟨e1, e3⟩ := b5.fin
    go_wp2_with fail
    go_region_with (go_at_call 31; refine (num_v n1 _).mono ?_; rintro e w6 ⟨rfl, rfl⟩)
    all_goals
      clear c0 c1 c2 c3 c4 c5 f0 f1 f2 f3 f4 f5 d0 d1 d2 d3 d4 d5 g0 g1 g2 g3 g4 g5
      go_wp2
      generalize ((((((w5.setCell ⟨w.heap.size + 1 + 1, 0, none⟩ (.int .i64 M.quota)).setCell ⟨w.heap.size + 1 + 1, 1, none⟩ (.int .i64 M.steps)).setCell ⟨w.heap.size + 1 + 1, 2, none⟩ (.int .i64 M.left)).setCell ⟨w.heap.size + 1 + 1, 3, none⟩ (.bool M.armed)).setCell ⟨w.heap.size + 1 + 1, 4, none⟩ (.bool M.gone)).setCell ⟨w.heap.size + 1 + 1, 5, none⟩ (.slice fa M.fs.length fc)) = w6 at e1 e3 ⊢
      have hB6 : Below w.heap.size w w6 := hB5.trans (e3.below _ hB5.size fun i e => by omega)
      refine bodyPost_ret (v := .tuple #[rval M fa fc, .int .i64 n1, .int .i64 n2, .bool false]) ((results_c4 (g := w.heap.size + 1 + 1) (M := M) (fa := fa) (fc := fc) Try.results13 _ ?_ ?_).trans ?_) ?_ ?_
      · kernel_rfl
      · exact e1
      · kernel_rfl
      · kernel_rfl
      · refine ⟨ys, n1, ys2, n2, hR, hR2, by rw [hsb.out], ?_⟩
        first
          | exact hB6
          | exact hB6.trans ((below_drewN w6 1).mono hB6.size)
          | exact hB6.trans ((below_drewN w6 2).mono hB6.size)
          | exact hB6.trans ((below_drewN w6 3).mono hB6.size)
end Go.Proofs.Ytcmgpllnficmdaa

namespace Go.Proofs.Ytcmgpllnficmdaa
open Go.RowKit Go.Maps

/-- An operation on paper. -/
structure OpD where
  kd : Int
  nm : List UInt8
  tn : List UInt8
  n : Int
  dat : List Int
/-- An operation in a script's memory. -/
def OpC (w : World) (sb p : Nat) (o : OpD) : Prop := ∃ ab cb, w.cell? ⟨sb, p, none⟩ = some (.int .i64 o.kd) ∧ w.cell? ⟨sb, p + 1, none⟩ = some (.string (bstr o.nm)) ∧ w.cell? ⟨sb, p + 2, none⟩ = some (.string (bstr o.tn)) ∧ w.cell? ⟨sb, p + 3, none⟩ = some (.int .i64 o.n) ∧ w.cell? ⟨sb, p + 4, none⟩ = some (.slice ab o.dat.length cb) ∧ Bs w ab o.dat.length o.dat
def OpsAt (w : World) (sa : Option Addr) (os : List OpD) : Prop := 0 < os.length → ∃ sb off, sa = some ⟨sb, off, none⟩ ∧ ∀ i (h : i < os.length), OpC w sb (off + i * 5) os[i]
theorem OpC.fr {S : Nat → Prop} {w w' : World} {sb p : Nat} {o : OpD} (h : OpC w sb p o) (f : Fr S w w') (hS : ∀ k, k < w.heap.size → ¬ S k) : OpC w' sb p o := by
  obtain ⟨ab, cb, h0, h1, h2, h3, h4, h5⟩ := h
  have hl := hS sb (cell_lt h0)
  exact ⟨ab, cb, cell_fr f hl h0, cell_fr f hl h1, cell_fr f hl h2, cell_fr f hl h3, cell_fr f hl h4, h5.fr f fun x ex hl' => hS _ (bs_lt h5 x ex hl')⟩
theorem OpsAt.later {w w' : World} {sa : Option Addr} {os : List OpD} (h : OpsAt w sa os) (hb : Below w.heap.size w w') : OpsAt w' sa os := fun hp => by
  obtain ⟨sb, off, e, hc⟩ := h hp
  exact ⟨sb, off, e, fun i hi => (hc i hi).fr (fr_b hb fun _ => False) fun _ _ => id⟩
/-- An operation that is not large. -/
def Sml (o : OpD) : Prop := o.dat.length ≤ 300 ∧ o.nm.length ≤ 200 ∧ o.tn.length ≤ 200
def LOut (w : World) (os : List OpD) (e : Ending) (w' : World) : Prop := ∃ bl, e = .returned (.bool bl) ∧ (bl = false → os.length ≤ 81 ∧ ∀ o ∈ os, Sml o) ∧ Below w.heap.size w w'

set_option maxHeartbeats 4000000 in
theorem large_d {w : World} {sa : Option Addr} {os : List OpD} {sc : Nat} (h : OpsAt w sa os) (hn : os.length ≤ maxLen) :
    Calls Try.prog 10 #[.slice sa os.length sc] w (LOut w os) := by
  unfold maxLen at hn
  go_enter Try.func10, Try.ntmps10
  go_wp2
  go_loopw [7] (fun i wr => ∃ k : Nat, k ≤ os.length ∧ k ≤ 81 ∧ i = .int .i64 k ∧ (∀ j (hj : j < os.length), j < k → Sml os[j]) ∧ Below w.heap.size w wr) (fun i _ => os.length - (intOf i).toNat)
  case atStart => exact ⟨0, by omega, by omega, rfl, fun j _ hj => by omega, Below.refl _ _⟩
  case round =>
    obtain ⟨k, hk, hk81, rfl, hS, hb⟩ := hrel
    by_cases hlt : k < os.length
    · obtain ⟨sb, off, rfl, hc⟩ := h (by omega)
      obtain ⟨ab, cb, h0, h1, h2, h3, h4, h5⟩ := (hc k hlt).fr (fr_b hb fun _ => False) fun _ _ => id
      have hb1 : Below w.heap.size w (wr.alloc (.cells (opc os[k].kd os[k].nm os[k].tn os[k].n ab os[k].dat.length cb) 37)) := hb.alloc hb.size _
      have kx := (MapKept.heap_alloc wr (.cells (opc os[k].kd os[k].nm os[k].tn os[k].n ab os[k].dat.length cb) 37)).1
      clear hc h5
      go_upto_region 4 with fail
      generalize wr.alloc (.cells (opc os[k].kd os[k].nm os[k].tn os[k].n ab os[k].dat.length cb) 37) = wb at hb1 kx ⊢
      have x1 : wb.cell? ⟨wr.heap.size, 1, none⟩ = some (.string (bstr os[k].nm)) := cell_row kx 1
      have x2 : wb.cell? ⟨wr.heap.size, 2, none⟩ = some (.string (bstr os[k].tn)) := cell_row kx 2
      have x4 : wb.cell? ⟨wr.heap.size, 4, none⟩ = some (.slice ab os[k].dat.length cb) := cell_row kx 4
      have z1 : (bstr os[k].nm).size = os[k].nm.length := rfl
      have z2 : (bstr os[k].tn).size = os[k].tn.length := rfl
      clear h0 h1 h2 h3 h4 kx
      have hyes : LOut w os (.returned (.bool true)) wb := ⟨true, rfl, (nomatch ·), hb1⟩
      by_cases t0 : (80 : Int) < (k : Int)
      · go_wp2
        go_ret
        exact hyes
      · by_cases t1 : (300 : Int) < (os[k].dat.length : Int)
        · go_wp2
          go_ret
          exact hyes
        · by_cases t2 : (200 : Int) < (os[k].nm.length : Int)
          · go_wp2
            go_ret
            exact hyes
          · by_cases t3 : (200 : Int) < (os[k].tn.length : Int)
            · go_wp2
              go_ret
              exact hyes
            · have hS2 : ∀ j (hj : j < os.length), j < k + 1 → Sml os[j] := fun j hj hj2 => by
                by_cases e : j = k
                · subst e; exact ⟨by omega, by omega, by omega⟩
                · exact hS j hj (by omega)
              clear hS
              go_wp2
              exact ⟨⟨k + 1, by omega, by omega, by go_num, hS2, hb1⟩, by simp [intOf]; omega⟩
    · obtain rfl : k = os.length := by omega
      go_wp2
      go_ret
      exact ⟨false, rfl, fun _ => ⟨hk81, fun o ho => by
        obtain ⟨j, hj, rfl⟩ := List.getElem_of_mem ho
        exact hS j hj hj⟩, hb⟩
end Go.Proofs.Ytcmgpllnficmdaa

namespace Go.Proofs.Ytcmgpllnficmdaa
open Go.RowKit Go.Maps

/-- What becomes of the power. -/
def Am (D D' : Dsk) (n : Int) : Prop := D'.quota = D.quota ∧ D'.fs.length ≤ D.fs.length + 1 ∧
  ((D' = D ∧ (D.gone = true → n ≠ 0)) ∨ (D' = goned D ∧ n ≠ 0 ∧ (D.gone = true ∨ (D.armed = true ∧ D.left = 0))) ∨
   (n = 0 ∧ canD D ∧ D'.steps = D.steps + 1 ∧ D'.left = (if D.armed then D.left - 1 else D.left) ∧ D'.armed = D.armed ∧ D'.gone = D.gone))
def AOut (w : World) (base b : Nat) (D : Dsk) (e : Ending) (w' : World) : Prop :=
  ∃ D' n M' fa' fc' n' sm, Am D D' n ∧ e = .returned (.tuple #[rval M' fa' fc', .int .i64 n, .int .i64 n', .bool sm]) ∧ DkAt w' base b D' ∧ Fr (fp b D) w w' ∧ Grow w b D D'
theorem putF_len (nm : List UInt8) (q : Nat) (fs : List Fn) : (putF nm q fs).length ≤ fs.length + 1 := by
  rw [putF, insF_len]
  exact Nat.succ_le_succ (List.length_filter_le _ _)
theorem am_of {D D' : Dsk} {no n : Int} {ok : Dsk → Prop} (h : Oo D no ok D' n) (hok : ok D' → D'.quota = D.quota ∧ D'.fs.length ≤ D.fs.length + 1 ∧ D'.steps = D.steps + 1 ∧ D'.left = (if D.armed then D.left - 1 else D.left) ∧ D'.armed = D.armed ∧ D'.gone = D.gone) : Am D D' n := by
  rcases h with ⟨h1, rfl, rfl⟩ | ⟨_, h2, rfl, rfl⟩ | ⟨_, hc, ho, rfl⟩
  · exact ⟨rfl, by omega, .inl ⟨rfl, fun _ => h1⟩⟩
  · exact ⟨rfl, by simp [goned], .inr (.inl ⟨rfl, by decide, h2⟩)⟩
  · obtain ⟨h1, h2, h3⟩ := hok ho
    exact ⟨h1, h2, .inr (.inr ⟨rfl, hc, h3⟩)⟩
theorem aout_of {w : World} {base b : Nat} {D : Dsk} {no : Int} {ok : Dsk → Prop} {R' : Rd → Int → Prop} (hok : ∀ D', ok D' → D'.quota = D.quota ∧ D'.fs.length ≤ D.fs.length + 1 ∧ D'.steps = D.steps + 1 ∧ D'.left = (if D.armed then D.left - 1 else D.left) ∧ D'.armed = D.armed ∧ D'.gone = D.gone) (e : Ending) (w' : World) (h : DOut w base b D (Oo D no ok) R' e w') : AOut w base b D e w' := by
  obtain ⟨D', n, M', n', fa', fc', X', hR, _, he, hD, _, _, hF, hG⟩ := h
  exact ⟨D', n, M', fa', fc', n', true, am_of hR (hok D'), he, hD, hF, hG⟩
abbrev M0 : Rd := ⟨1000, 0, 0, false, false, []⟩
theorem m0_ok : MOk M0 := ⟨by decide, by decide, by decide, by decide, by simp [usedR], by simp⟩
theorem do_arm {w : World} {base b : Nat} {D : Dsk} {nm tn : List UInt8} {n : Int} {ab : Option Addr} {lb cb : Nat} {zs : List Int} (h : DkAt w base b D) (hst : D.steps < 1000000000) (hlen : D.fs.length < 1000000) (hbase : base ≤ w.heap.size) (hbs : Bs w ab lb zs) (hab : ∀ x, ab = some x → 0 < lb → ¬ fp b D x.block) (hm : lb ≤ 1000000) (hnm : nm.length ≤ 1000000) (htn : tn.length ≤ 1000000) {kd : Int} (k7 : ¬ kd = 7) (k8 : ¬ kd = 8) :
    Calls Try.prog 13 #[pD b, rval M0 none 0, .agg (opc kd nm tn n ab lb cb)] w (AOut w base b D) := by
  have hf : Fs w (fun _ => False) none M0.fs := fun h => absurd h (by simp)
  have hX : ∀ k, (fun _ : Nat => False) k → k < w.heap.size ∧ ¬ fp b D k := fun _ => False.elim
  by_cases k1 : kd = 1
  · subst k1
    refine (do_append h hf hX m0_ok hst hlen hbase hbs hab hm hnm htn).mono (aout_of fun D' ho => ?_)
    rcases ho with ⟨p, v, _, rfl⟩ | ⟨_, q, v, rfl⟩
    · exact ⟨rfl, by simp [stepd], rfl, rfl, rfl, rfl⟩
    · exact ⟨rfl, putF_len _ _ _, rfl, rfl, rfl, rfl⟩
  by_cases k2 : kd = 2
  · subst k2
    refine (do_sync h hf hX m0_ok hst hlen hbase hbs hab hm hnm htn).mono (aout_of fun D' ho => ?_)
    obtain ⟨p, _, rfl⟩ := ho
    exact ⟨rfl, by simp [syncd, stepd], rfl, rfl, rfl, rfl⟩
  by_cases k3 : kd = 3
  · subst k3
    refine (do_cut h hf hX m0_ok hst hlen hbase hbs hab hm hnm htn).mono (aout_of fun D' ho => ?_)
    obtain ⟨p, v, _, rfl⟩ := ho
    exact ⟨rfl, by simp [cutD, stepd], rfl, rfl, rfl, rfl⟩
  by_cases k4 : kd = 4
  · subst k4
    refine (do_rename h hf hX m0_ok hst hlen hbase hbs hab hm hnm htn).mono (aout_of fun D' ho => ?_)
    obtain ⟨p, _, rfl⟩ := ho
    exact ⟨rfl, Nat.le_trans (putF_len _ _ _) (Nat.succ_le_succ (List.length_filter_le _ _)), rfl, rfl, rfl, rfl⟩
  by_cases k5 : kd = 5
  · subst k5
    refine (do_drop h hf hX m0_ok hst hlen hbase hbs hab hm hnm htn).mono (aout_of fun D' ho => ?_)
    obtain ⟨p, _, rfl⟩ := ho
    exact ⟨rfl, Nat.le_succ_of_le (List.length_filter_le _ _), rfl, rfl, rfl, rfl⟩
  refine (do_read h hf m0_ok hbs hm hnm k1 k2 k3 k4 k5 k7 k8).mono ?_
  rintro e w1 ⟨ys, n1, ys', n', hR, _, he, hb⟩
  refine ⟨D, n1, M0, none, 0, n', _, ⟨rfl, by omega, .inl ⟨rfl, fun hg => ?_⟩⟩, he, h.later hb, fr_b hb _, grow_self⟩
  rcases hR with ⟨_, _, rfl⟩ | ⟨h1, _⟩ | ⟨h1, _⟩
  · decide
  · rw [hg] at h1; cases h1
  · rw [hg] at h1; cases h1
end Go.Proofs.Ytcmgpllnficmdaa

namespace Go.Proofs.Ytcmgpllnficmdaa
open Go.RowKit Go.Maps

/-- A disk that was armed for so many steps. -/
structure Arm (st : Int) (k : Nat) (D : Dsk) : Prop where
  q : D.quota = 1000
  l : D.fs.length ≤ k
  a : D.armed = true
  g : D.gone = true → D.steps = st
  s : D.steps + D.left = st
  m : D.steps ≤ k
theorem arm_next {st : Int} {k : Nat} {D D' : Dsk} {n : Int} (h : Arm st k D) (h' : Am D D' n) : Arm st (k + 1) D' := by
  obtain ⟨hq, hl, h1 | ⟨h1, _, h2⟩ | ⟨_, hc, h1, h2, h3, h4⟩⟩ := h'
  · obtain ⟨rfl, _⟩ := h1
    exact ⟨h.q, by have := h.l; omega, h.a, h.g, h.s, by have := h.m; omega⟩
  · subst h1
    refine ⟨h.q, by have := h.l; simp only [goned] at *; omega, h.a, fun _ => ?_, h.s, by have := h.m; simp only [goned]; omega⟩
    rcases h2 with h2 | h2
    · exact h.g h2
    · have := h.s
      simp only [goned]
      omega
  · have ha := h.a
    rw [ha, if_pos rfl] at h2
    refine ⟨hq.trans h.q, by have := h.l; omega, h3.trans ha, fun hg => ?_, by have := h.s; omega, by have := h.m; omega⟩
    rw [h4, hc.1] at hg
    cases hg
theorem arm_gone {D D' : Dsk} {n : Int} (h' : Am D D' n) (hg : D.gone = true) : (n == 0) = false ∧ D'.used = D.used := by
  obtain ⟨_, _, ⟨rfl, h1⟩ | ⟨rfl, h1, _⟩ | ⟨_, hc, _⟩⟩ := h'
  · exact ⟨by simpa using h1 hg, rfl⟩
  · exact ⟨by simpa using h1, rfl⟩
  · rw [hc.1] at hg; cases hg
set_option maxHeartbeats 4000000 in
set_option maxRecDepth 100000 in
theorem armed_walk {w : World} {sa : Option Addr} {os : List OpD} {sc : Nat} (h : OpsAt w sa os) (hn : os.length ≤ maxLen) (st : Int) (hst : st < 9223372036854775808) :
    Calls Try.prog 5 #[.int .i64 st, .slice sa os.length sc] w fun e w' => e = .returned (.bool true) ∧ Below w.heap.size w w' := by
  go_enter Try.func5, Try.ntmps5
  go_wp2_with fail
  refine (alive_t w).mono ?_
  rintro e w1 ⟨rfl, hb1⟩
  go_wp2_with fail
  refine (large_d (h.later hb1) hn).mono ?_
  rintro e w2 ⟨bl, rfl, hbl, hb2⟩
  have hb2 : Below w.heap.size w w2 := hb1.trans (hb2.mono hb1.size)
  clear hb1
  cases bl with
  | true =>
    clear hbl
    go_wp2
    go_ret
    exact ⟨rfl, hb2⟩
  | false =>
    obtain ⟨h81, hsm⟩ := hbl rfl
    clear hbl
    by_cases hneg : st < 0
    · go_wp2
      go_ret
      exact ⟨rfl, hb2⟩
    · go_wp2_with fail
      refine (new_ok w2 1000 (by decide) (by decide)).mono ?_
      rintro e w3 ⟨rfl, hD, hb3⟩
      go_wp2_with fail
      refine (arm_ok hD st (by omega) hst).mono ?_
      rintro e w4 ⟨rfl, hD4, hF4⟩
      have hf3 := fp_ge hD
      have hb4 : Below w.heap.size w w4 := (hb2.trans (hb3.mono hb2.size)).trans (hF4.below _ (by have := hb2.size; have := hb3.size; omega) fun i e => by have := hf3 i e; have := hb2.size; omega)
      have hA0 : Arm st 0 (armD (newD 1000 w2.heap.size) st) := ⟨rfl, Nat.le_refl _, rfl, (nomatch ·), by simp [armD, newD], by simp [armD, newD]⟩
      have hw2 := hb2.size
      clear hb2 hb3 hF4 hf3 hD
      go_wp2
      go_loopw [37] (fun i wr => ∃ (k : Nat) (D : Dsk), k ≤ os.length ∧ i = .int .i64 k ∧ DkAt wr w2.heap.size (w2.heap.size + 1) D ∧ Arm st k D ∧ Below w.heap.size w wr) (fun i _ => os.length - (intOf i).toNat)
      case atStart => exact ⟨0, _, by omega, rfl, hD4, hA0, hb4⟩
      case round =>
        clear hD4 hA0 hb4
        obtain ⟨k, D, hk, rfl, hD, hA, hb⟩ := hrel
        have hblt := fp_lt hD (w2.heap.size + 1) (.inl rfl)
        by_cases hlt : k < os.length
        · obtain ⟨sb, off, rfl, hc⟩ := h (by omega)
          obtain ⟨z1, z2, z3⟩ := hsm os[k] (List.getElem_mem hlt)
          obtain ⟨ab, cb, h0, h1, h2, h3, h4, q5⟩ := hc k hlt
          have hbw : Below w.heap.size w wr := hb
          replace h0 := cell_later hbw h0
          replace h1 := cell_later hbw h1
          replace h2 := cell_later hbw h2
          replace h3 := cell_later hbw h3
          replace h4 := cell_later hbw h4
          have h5 := q5.later hbw
          have hlx := bs_lt q5
          clear hbw q5
          have hb1 : Below w.heap.size w (wr.alloc (.cells (opc os[k].kd os[k].nm os[k].tn os[k].n ab os[k].dat.length cb) 37)) := hb.alloc hb.size _
          have hal : Below wr.heap.size wr (wr.alloc (.cells (opc os[k].kd os[k].nm os[k].tn os[k].n ab os[k].dat.length cb) 37)) := (Below.refl _ _).alloc (Nat.le_refl _) _
          have kx := (MapKept.heap_alloc wr (.cells (opc os[k].kd os[k].nm os[k].tn os[k].n ab os[k].dat.length cb) 37)).1
          clear hc
          go_upto_region 11 with fail
          have hD1 := hD.later hal
          have h51 := h5.later hal
          generalize wr.alloc (.cells (opc os[k].kd os[k].nm os[k].tn os[k].n ab os[k].dat.length cb) 37) = wb at hb1 hal kx hD1 h51 ⊢
          have x0 : wb.cell? ⟨wr.heap.size, 0, none⟩ = some (.int .i64 os[k].kd) := cell_row kx 0
          have x1 : wb.cell? ⟨wr.heap.size, 1, none⟩ = some (.string (bstr os[k].nm)) := cell_row kx 1
          have x2 : wb.cell? ⟨wr.heap.size, 2, none⟩ = some (.string (bstr os[k].tn)) := cell_row kx 2
          have x3 : wb.cell? ⟨wr.heap.size, 3, none⟩ = some (.int .i64 os[k].n) := cell_row kx 3
          have x4 : wb.cell? ⟨wr.heap.size, 4, none⟩ = some (.slice ab os[k].dat.length cb) := cell_row kx 4
          clear h0 h1 h2 h3 h4 kx hD h5
          have hA' : Arm st (k + 1) D := arm_next hA ⟨rfl, by omega, .inl ⟨rfl, fun _ => Int.one_ne_zero⟩⟩
          by_cases k7 : os[k].kd = 7
          · go_wp2
            exact ⟨⟨k + 1, D, by omega, by go_num, hD1, hA', hb1⟩, by simp [intOf]; omega⟩
          by_cases k8 : os[k].kd = 8
          · go_wp2
            exact ⟨⟨k + 1, D, by omega, by go_num, hD1, hA', hb1⟩, by simp [intOf]; omega⟩
          clear hA'
          have k7b : (os[k].kd == 7) = false := by simpa using k7
          have k8b : (os[k].kd == 8) = false := by simpa using k8
          have k7c : decide (os[k].kd = 7) = false := by simpa using k7
          have k8c : decide (os[k].kd = 8) = false := by simpa using k8
          have hsw := hal.size
          have hfg := fp_ge hD1
          have hfl1 := fp_lt hD1
          have hm1 := hA.m
          have hl1 := hA.l
          have hdo := do_arm (n := os[k].n) (cb := cb) hD1 (by omega) (by omega) (by omega) h51 (fun x ex hl e => by have := hlx x ex hl; have := hfg _ e; omega) (by omega) (show os[k].nm.length ≤ 1000000 by omega) (show os[k].tn.length ≤ 1000000 by omega) k7 k8
          have hbd : ∀ w : World, (Instr.build 34 #[(0, .int .i64 1000)]).run Try.prog w = .ok (rval M0 none 0) w := fun _ => by kernel_rfl
          go_wp2_with fail
          refine (down_d hD1).mono ?_
          rintro e wb ⟨rfl, rfl⟩
          go_wp2_with fail
          refine (used_d hD1).mono ?_
          rintro e wb ⟨rfl, rfl⟩
          go_wp2_with fail
          refine hdo.mono ?_
          rintro e w5 ⟨D', n, M', fa', fc', n', sm, hAm, rfl, hD5, hF5, hG⟩
          have hb5 : Below w.heap.size w w5 := hb1.trans (hF5.below _ hb1.size fun i e => by have := hfg i e; omega)
          have hA1 := arm_next hA hAm
          clear hdo x0 x1 x2 x3 x4 hbd hF5
          have hal5 : Below w5.heap.size w5 (w5.alloc (.cells (rcells M' fa' fc') 34)) := (Below.refl _ _).alloc (Nat.le_refl _) _
          have hD6 := hD5.later hal5
          have hb6 : Below w.heap.size w (w5.alloc (.cells (rcells M' fa' fc') 34)) := hb5.alloc hb5.size _
          go_upto_region 15 with fail
          generalize w5.alloc (.cells (rcells M' fa' fc') 34) = w6 at hD6 hb6 hal5 ⊢
          have hle : ¬ st < D'.steps := by have := hA1.s; have := (hD6.lf hA1.a).1; omega
          have hgo := arm_gone hAm
          have hgs := hA1.g
          rcases Bool.eq_false_or_eq_true D.gone with hg | hg <;> rcases Bool.eq_false_or_eq_true D'.gone with hg' | hg'
          · obtain ⟨hn0, hu⟩ := hgo hg
            have hs := hgs hg'
            clear hgo hgs
            go_wp2_with fail
            refine (steps_d hD6).mono ?_
            rintro e w6 ⟨rfl, rfl⟩
            go_wp2_with fail
            refine (used_d hD6).mono ?_
            rintro e w6 ⟨rfl, rfl⟩
            go_wp2_with fail
            refine (down_d hD6).mono ?_
            rintro e w6 ⟨rfl, rfl⟩
            go_wp2_with fail
            refine (steps_d hD6).mono ?_
            rintro e w6 ⟨rfl, rfl⟩
            go_wp2
            exact ⟨⟨k + 1, D', by omega, by go_num, hD6, hA1, hb6⟩, by simp [intOf]; omega⟩
          · obtain ⟨hn0, hu⟩ := hgo hg
            clear hgo hgs
            go_wp2_with fail
            refine (steps_d hD6).mono ?_
            rintro e w6 ⟨rfl, rfl⟩
            go_wp2_with fail
            refine (used_d hD6).mono ?_
            rintro e w6 ⟨rfl, rfl⟩
            go_wp2_with fail
            refine (down_d hD6).mono ?_
            rintro e w6 ⟨rfl, rfl⟩
            go_wp2
            exact ⟨⟨k + 1, D', by omega, by go_num, hD6, hA1, hb6⟩, by simp [intOf]; omega⟩
          · have hs := hgs hg'
            clear hgo hgs
            go_wp2_with fail
            refine (steps_d hD6).mono ?_
            rintro e w6 ⟨rfl, rfl⟩
            go_wp2_with fail
            refine (down_d hD6).mono ?_
            rintro e w6 ⟨rfl, rfl⟩
            go_wp2_with fail
            refine (steps_d hD6).mono ?_
            rintro e w6 ⟨rfl, rfl⟩
            go_wp2
            exact ⟨⟨k + 1, D', by omega, by go_num, hD6, hA1, hb6⟩, by simp [intOf]; omega⟩
          · clear hgo hgs
            go_wp2_with fail
            refine (steps_d hD6).mono ?_
            rintro e w6 ⟨rfl, rfl⟩
            go_wp2_with fail
            refine (down_d hD6).mono ?_
            rintro e w6 ⟨rfl, rfl⟩
            go_wp2
            exact ⟨⟨k + 1, D', by omega, by go_num, hD6, hA1, hb6⟩, by simp [intOf]; omega⟩
        · obtain rfl : k = os.length := by omega
          have hfg := fp_ge hD
          have hcr := crash_d hD 0
          go_wp2_with fail
          refine hcr.mono ?_
          rintro e w5 ⟨rfl, D1, hC, hD5, hF5, hG5⟩
          have hb5 : Below w.heap.size w w5 := hb.trans (hF5.below _ hb.size fun i e => by have := hfg i e; omega)
          have hfg5 := fp_ge hD5
          have hlt5 := fp_lt hD5 (w2.heap.size + 1) (.inl rfl)
          have hm1 := hA.m
          have hl1 := hA.l
          have e1 : (litD D1).steps = D.steps := by rw [hC.1]; rfl
          have e2 : (litD D1).fs = D.fs := by rw [hC.1]; rfl
          have hqt := hD5.qt
          have happ := append_all (cap := 0) (s := ⟨#[109, 111, 114, 101]⟩) (ad := none) (len := 0) (zs := []) hD5 (by decide) ⟨rfl, by simp, fun h => absurd h (by decide)⟩ (by simp) (by omega) (by rw [e2]; omega) (by omega)
          clear hcr hF5 hG5 hD hC
          go_wp2_with fail
          refine (down_d hD5).mono ?_
          rintro e w5 ⟨rfl, rfl⟩
          have hgn : (litD D1).gone = false := rfl
          go_wp2_with fail
          refine happ.mono ?_
          rintro e w7 ⟨D2, n, hR, he, hD2, hF2, hG2⟩
          have hno : noApp (litD D1) [109, 111, 114, 101] 0 = 0 := by
            rw [noApp, if_pos (by decide), if_neg (by omega)]
          obtain rfl : n = 0 := by
            rcases hR with ⟨h1, _⟩ | ⟨_, h1, _⟩ | ⟨_, _, _, h1⟩
            · exact absurd hno h1
            · rcases h1 with h1 | h1
              · cases h1
              · cases h1.1
            · exact h1
          obtain rfl : e = .returned .nilIface := he
          have hb7 : Below w.heap.size w w7 := hb5.trans (hF2.below _ hb5.size fun i e => by have := hfg5 i e; omega)
          clear happ hR hF2
          go_wp2
          go_ret
          exact ⟨rfl, hb7⟩
end Go.Proofs.Ytcmgpllnficmdaa

namespace Go.Proofs.Ytcmgpllnficmdaa
open Go.ChangeShapes Go.WideShapes Go.ChangeAt Go.RowKit

section
variable {H : Type} {enc : TypeId × Value → H} {W : World} {held : Bool}
theorem fiveN {α : Type} : ∀ {l : List α}, l.length = 5 → ∃ a b c d e, l = [a, b, c, d, e]
  | [a, b, c, d, e], _ => ⟨a, b, c, d, e, rfl⟩
/-- Bytes that came in. -/
theorem bs_inN {n : Nat} {v : Value} {x : DataW H × List MemPlace} (h : DataW.trod enc Try.prog W 0 (fun _ => true) held n 35 [v] = some x) : ∃ ab lb cb zs, v = .slice ab lb cb ∧ Bs W ab lb zs := by
  rcases open_ints Try.underlying35 Try.underlying5 (by kernel_rfl) h with ⟨hcs, _⟩ | ⟨a, len, cap, zs, hcs, _, hl, hm, hz, _, hc, hw⟩
  · cases hcs
    exact ⟨none, 0, 0, [], rfl, rfl, fun z hz => by simp at hz, fun h => absurd h (by omega)⟩
  · cases hcs
    rw [if_pos rfl] at hz
    refine ⟨some a, len, cap, zs.take len, rfl, by simp; omega, fun z hz' => ?_, fun hp => ?_⟩
    · have := hw z (List.mem_of_mem_take hz')
      simp only [Lit.wf, Bool.and_eq_true, decide_eq_true_eq] at this
      have e1 : IntKind.u8.min = 0 := rfl
      have e2 : IntKind.u8.max = 255 := rfl
      omega
    · obtain ⟨b, off, spot⟩ := a
      obtain rfl : spot = none := by simpa [Addr.add] using World.cell?_spot (hc 0 (by omega))
      refine ⟨b, off, rfl, fun i hi => ?_⟩
      have h1 := hc i (by omega)
      rw [Addr.add_lit] at h1
      rw [h1]
      simp [List.getD_eq_getElem?_getD, hi]
theorem op_inN {n p sb : Nat} {cs : List Value} {x : DataW H × List MemPlace} (h1 : W.cells? 0 ⟨sb, p, none⟩ 5 = some cs) (h2 : DataW.trod enc Try.prog W 0 (fun _ => true) held n 37 cs = some x) : ∃ o : OpD, OpC W sb p o ∧ o.n < 9223372036854775808 := by
  obtain ⟨_, hl, hc⟩ := World.cells?_some h1
  obtain ⟨xs, m, _, _, _, hxl, hf⟩ := DataW.trod_struct Try.underlying37 h2
  obtain ⟨v0, v1, v2, v3, v4, rfl⟩ := fiveN hl
  obtain ⟨y0, y1, y2, y3, y4, rfl⟩ := fiveN hxl
  have c1 : Try.prog.cellsOf 3 = 1 := by kernel_rfl
  have c2 : Try.prog.cellsOf 9 = 1 := by kernel_rfl
  have c3 : Try.prog.cellsOf 35 = 1 := by kernel_rfl
  have g0 : DataW.trod enc Try.prog W 0 (fun _ => true) held m 3 (([v0, v1, v2, v3, v4].drop 0).take (Try.prog.cellsOf 3)) = some y0 := hf 0 _ rfl
  rw [c1] at g0
  replace g0 : DataW.trod enc Try.prog W 0 (fun _ => true) held m 3 [v0] = some y0 := g0
  have g1 : DataW.trod enc Try.prog W 0 (fun _ => true) held m 9 (([v0, v1, v2, v3, v4].drop 1).take (Try.prog.cellsOf 9)) = some y1 := hf 1 _ rfl
  rw [c2] at g1
  replace g1 : DataW.trod enc Try.prog W 0 (fun _ => true) held m 9 [v1] = some y1 := g1
  have g2 : DataW.trod enc Try.prog W 0 (fun _ => true) held m 9 (([v0, v1, v2, v3, v4].drop 2).take (Try.prog.cellsOf 9)) = some y2 := hf 2 _ rfl
  rw [c2] at g2
  replace g2 : DataW.trod enc Try.prog W 0 (fun _ => true) held m 9 [v2] = some y2 := g2
  have g3 : DataW.trod enc Try.prog W 0 (fun _ => true) held m 3 (([v0, v1, v2, v3, v4].drop 3).take (Try.prog.cellsOf 3)) = some y3 := hf 3 _ rfl
  rw [c1] at g3
  replace g3 : DataW.trod enc Try.prog W 0 (fun _ => true) held m 3 [v3] = some y3 := g3
  have g4 : DataW.trod enc Try.prog W 0 (fun _ => true) held m 35 (([v0, v1, v2, v3, v4].drop 4).take (Try.prog.cellsOf 35)) = some y4 := hf 4 _ rfl
  rw [c3] at g4
  replace g4 : DataW.trod enc Try.prog W 0 (fun _ => true) held m 35 [v4] = some y4 := g4
  obtain ⟨kd, e0, _, _⟩ := DataW.trod_int Try.underlying3 g0
  obtain ⟨s1, e1, _, _⟩ := DataW.trod_string Try.underlying9 g1
  obtain ⟨s2, e2, _, _⟩ := DataW.trod_string Try.underlying9 g2
  obtain ⟨nn, e3, _, w3⟩ := DataW.trod_int Try.underlying3 g3
  obtain ⟨ab, lb, cb, zs, e4, hb⟩ := bs_inN g4
  cases e0; cases e1; cases e2; cases e3; subst e4
  have hz := hb.1
  subst hz
  have k0 := hc 0 (by omega)
  have k1 := hc 1 (by omega)
  have k2 := hc 2 (by omega)
  have k3 := hc 3 (by omega)
  have k4 := hc 4 (by omega)
  rw [Addr.add_lit] at k0 k1 k2 k3 k4
  have hlt : nn < 9223372036854775808 := by
    simp only [Lit.wf, Bool.and_eq_true, decide_eq_true_eq] at w3
    have e2 : IntKind.i64.max = 9223372036854775807 := rfl
    omega
  exact ⟨⟨kd, s1.data.toList, s2.data.toList, nn, zs⟩, ⟨ab, cb, by simpa using k0, by simpa using k1, by simpa using k2, by simpa using k3, by simpa using k4, hb⟩, hlt⟩
theorem ops_inN {n : Nat} {a0 : Option Addr} {len0 cap0 : Nat} {x : DataW H × List MemPlace} (h : DataW.trod enc Try.prog W 0 (fun _ => true) held n 22 (Value.slice a0 len0 cap0).cells.toList = some x) : ∃ os : List OpD, OpsAt W a0 os ∧ os.length = len0 ∧ len0 ≤ maxLen ∧ ∀ o ∈ os, o.n < 9223372036854775808 := by
  have c5 : Try.prog.cellsOf 37 = 5 := by kernel_rfl
  rcases Deep.open_slice Try.underlying22 h with ⟨hcs, _⟩ | ⟨a, len, cap, m, k, D, Pl, hcs, _, hl, hm, hmm, _, hx⟩
  · simp [Value.cells] at hcs
    obtain ⟨rfl, rfl, rfl⟩ := hcs
    exact ⟨[], fun h => absurd h (by simp), rfl, Nat.zero_le _, by simp⟩
  · simp [Value.cells] at hcs
    obtain ⟨rfl, rfl, rfl⟩ := hcs
    rw [if_pos rfl] at hmm
    subst hmm
    rw [c5] at hx
    obtain ⟨b, off, spot⟩ := a
    by_cases hp : 0 < len0
    · obtain rfl : spot = none := by
        obtain ⟨cs', h1, _⟩ := hx 0 (by omega)
        obtain ⟨_, hl1, hc1⟩ := World.cells?_some h1
        have h2 := hc1 0 (by omega)
        rw [List.getElem?_eq_getElem (by omega)] at h2
        simpa [Addr.add] using World.cell?_spot h2
      have hex : ∀ i, i < len0 → ∃ o : OpD, OpC W b (off + i * 5) o ∧ o.n < 9223372036854775808 := fun i hi => by
        obtain ⟨cs', h1, h2⟩ := hx i (by omega)
        rw [Addr.add_lit] at h1
        exact op_inN h1 h2
      haveI : Inhabited OpD := ⟨⟨0, [], [], 0, []⟩⟩
      obtain ⟨f, hf⟩ := Deep.choose_lt hex
      refine ⟨(List.range len0).map f, fun _ => ⟨b, off, rfl, fun i hi => ?_⟩, by simp, by omega, fun o ho => ?_⟩
      · simp only [List.length_map, List.length_range] at hi
        simpa using (hf i hi).1
      · obtain ⟨i, hi, rfl⟩ := List.mem_map.1 ho
        exact (hf i (List.mem_range.1 hi)).2
    · obtain rfl : len0 = 0 := by omega
      exact ⟨[], fun h => absurd h (by simp), rfl, Nat.zero_le _, by simp⟩
end
end Go.Proofs.Ytcmgpllnficmdaa

namespace Go.Proofs.Ytcmgpllnficmdaa
open Go.RowKit Go.Maps

theorem results_c1 {fn : Func} {t : Tmp} (h : fn.results = #[.cell t 34]) (tmps : Array Value) {w : World} {g : Nat} {M : Rd} {fa : Option Addr} {fc : Nat} (ht : tmps.getD t undef = pD g) (hg : w.heap[g]? = some (.cells (rcells M fa fc) 34 (0, 0))) :
    (results fn tmps).run Try.prog w = .ok (rval M fa fc) w := by
  have hl := run_loadVar_row (P := Try.prog) w g 34 34 (rcells M fa fc) (0, 0) _ hg Try.underlying34 (by rfl) (by kernel_rfl)
  have ht2 : tmps[t]?.getD undef = pD g := by simpa using ht
  simp [results, h, ht2, asAddr, hl]

/-- A row of files that grows, its files' bytes in blocks of the call's own. -/
def GrC (w : World) (base : Nat) (v : Value) (R : List Rf) : Prop := ∃ cs, w.ownsRow base 78 3 v R.length cs ∧ FcsOK w (fun k => base ≤ k ∧ k < w.heap.size ∧ v.ownBlock ≠ some k) R cs
theorem fcs_mono {w w' : World} {X Y : Nat → Prop} (f : Fr (fun k => ¬ X k) w w') (hXY : ∀ k, X k → Y k) : ∀ {R : List Rf} {cs : List Value}, FcsOK w X R cs → FcsOK w' Y R cs
  | [], _, h => h
  | x :: R, cs, h => by
    obtain ⟨ad', cap', rest, rfl, a1, a2, a3⟩ := h
    exact ⟨ad', cap', rest, rfl, ⟨a1.1.fr f fun x ex hl e => e (a2 x ex hl), a1.2⟩, fun x ex hl => hXY _ (a2 x ex hl), fcs_mono f hXY a3⟩
theorem GrC.own {w : World} {base : Nat} {v : Value} {R : List Rf} (h : GrC w base v R) : ∀ k, v.ownBlock = some k → base ≤ k ∧ k < w.heap.size := by
  obtain ⟨cs, ho, _⟩ := h
  exact ho.lt
theorem GrC.later {w w' : World} {base : Nat} {v : Value} {R : List Rf} (h : GrC w base v R) (f : Below w.heap.size w w') : GrC w' base v R := by
  obtain ⟨cs, ho, hc⟩ := h
  have hlt := ho.lt
  refine ⟨cs, ⟨ho.1, ?_⟩, fcs_mono (fr_b f _) (fun k hk => ⟨hk.1, by have := f.size; omega, hk.2.2⟩) hc⟩
  rcases ho.2 with h1 | ⟨g, cap, cur, rfl, h2, h3, h4⟩
  · exact .inl h1
  · exact .inr ⟨g, cap, cur, rfl, h2, (f.block g (hlt g rfl).2).trans h3, h4⟩
theorem GrC.fs {w : World} {base : Nat} {v : Value} {R : List Rf} (h : GrC w base v R) : ∃ fa fc, v = .slice fa R.length fc ∧ Fs w (fun k => base ≤ k) fa R := by
  obtain ⟨cs, ho, hc⟩ := h
  have hg : GrR w base (fun k => base ≤ k) v R := ⟨cs, ho, fcs_mono (Fr.refl _ w) (fun k hk => hk.1) hc⟩
  obtain ⟨fa, fc, e, hf⟩ := hg.fs
  exact ⟨fa, fc, e, hf.mono fun k hk => hk.elim id id⟩
/-- One file more, at a step of a region that draws. -/
theorem step_app_c {w : World} {ops : Array Oper} {o : Oper} {a : Act} {K : Act → World → Prop} {Q : Exit → Act → World → Prop} {E : Prop} (hgd : o.guard = none) (s x : Operand)
    (ho : o.op = .call { callee := .builtin .append, args := #[s, x], argTypes := #[32, 32] }) (base : Nat) (v : Value) (R : List Rf) (hs : a.eval s = v) (hown : GrC w base v R) (r : Rf) (ad : Option Addr) (cap : Nat) (nmv : List UInt8) (ln : Nat) (su : Int) (hnv : r.nm = nmv) (hln : r.dat.length = ln) (hsu : (r.sure : Int) = su) (hx : a.eval x = .slice (some ⟨w.heap.size, 0, none⟩) 1 1)
    (h1 : Bs w ad ln r.dat) (h6 : ln ≤ cap) (h2 : ∀ x, ad = some x → 0 < ln → base ≤ x.block ∧ x.block < w.heap.size ∧ v.ownBlock ≠ some x.block) (hn : R.length ≤ 1000000) (hbase : base ≤ w.heap.size)
    (h : ∀ v' w', GrC w' base v' (R ++ [r]) → Fr (fun i => base ≤ i) w w' → K (a.put o.dst v') w') : if Region.wanted o (yielded ops a.tmps) = true then Oper.wp Try.prog o a (w.alloc (.cells #[.string (bstr nmv), .slice ad ln cap, .int .i64 su] 78)) K Q else E := by
  subst hnv hln hsu
  have hw : Region.wanted o (yielded ops a.tmps) = true := by simp [Region.wanted, hgd]
  rw [if_pos hw]
  have hal : Below w.heap.size w (w.alloc (.cells #[.string (bstr r.nm), .slice ad r.dat.length cap, .int .i64 (r.sure : Int)] 78)) := (Below.refl _ _).alloc (Nat.le_refl _) _
  have hkx := (MapKept.heap_alloc w (.cells #[.string (bstr r.nm), .slice ad r.dat.length cap, .int .i64 (r.sure : Int)] 78)).1
  have hown' := hown
  obtain ⟨i0, hi, hz0, hz1, hz2⟩ := info_parts info78
  obtain ⟨cs, ho1, hc⟩ := hown.later hal
  have hlt0 := hown'.own
  obtain ⟨v', w', hr, g1, g2, _, g4⟩ := run_append_own_at (P := Try.prog) (w.alloc (.cells #[.string (bstr r.nm), .slice ad r.dat.length cap, .int .i64 (r.sure : Int)] 78)) base 32 o.type 78 i0 _ 3 48 Try.underlying32 hi hz0 hz1 hz2 rfl (by decide) v R.length cs ho1 ⟨w.heap.size, 0, none⟩ 1 1 [.string (bstr r.nm), .slice ad r.dat.length cap, .int .i64 (r.sure : Int)] rfl (fun j u hj => by
      rw [Addr.add_lit, Nat.zero_add, cell_row hkx]
      simpa using hj) (fun u hu => by
      simp only [List.mem_cons, List.not_mem_nil, or_false] at hu
      rcases hu with rfl | rfl | rfl <;> rfl) (by unfold maxLen; omega) (by omega) (by simp; omega)
  have hf : Fr (fun k => v.ownBlock = some k) (w.alloc (.cells #[.string (bstr r.nm), .slice ad r.dat.length cap, .int .i64 (r.sure : Int)] 78)) w' := fr_grown g2 _ fun i e => e
  have hsz : (w.alloc (.cells #[.string (bstr r.nm), .slice ad r.dat.length cap, .int .i64 (r.sure : Int)] 78)).heap.size = w.heap.size + 1 := by simp
  have hne : ∀ k, k < w.heap.size → v.ownBlock ≠ some k → v'.ownBlock ≠ some k := fun k hk hv e => by
    rcases g4 with g4 | g4
    · rw [g4] at e; exact hv e
    · rw [g4, hsz] at e; cases e; omega
  have hws : w.heap.size ≤ w'.heap.size := by have := hf.size; omega
  unfold Oper.wp execOp
  simp only [ho, resolve, invoke, builtin, Sem.run_bind, Sem.run_pure, Result.andThen_ok, List.map_toArray, List.map_cons, List.map_nil, hs, hx, hr]
  refine h v' w' ⟨_, by simpa using g1, ?_⟩ ((fr_b hal _).trans hf fun i _ e => (hlt0 i e).1)
  have hc0 : FcsOK w (fun k => base ≤ k ∧ k < w.heap.size ∧ v.ownBlock ≠ some k) R cs := by
    obtain ⟨cs0, ho0, hc0⟩ := hown'
    have : cs0 = cs := by
      rcases ho0.2 with ⟨e, hn0⟩ | ⟨g, cp, cur, e, _, hg0, _, _, _, ht0⟩ <;> rcases ho1.2 with ⟨e', hn1⟩ | ⟨g', cp', cur', e', _, hg1, _, _, _, ht1⟩
      · have l0 := ho0.1; have l1 := ho1.1
        rw [hn0] at l0; rw [hn1] at l1
        have z0 : cs0 = [] := List.eq_nil_of_length_eq_zero (by simpa using l0)
        have z1 : cs = [] := List.eq_nil_of_length_eq_zero (by simpa using l1)
        rw [z0, z1]
      · rw [e] at e'; cases e'
      · rw [e] at e'; cases e'
      · rw [e] at e'; cases e'
        rw [hal.block g (hlt0 g (by rw [e]; rfl)).2, hg0] at hg1
        cases hg1
        rw [← ht0, ← ht1]
    rw [← this]; exact hc0
  have h1' : Bs w' ad r.dat.length r.dat := (h1.later hal).fr hf fun x ex hl e => (h2 x ex hl).2.2 e
  refine fcs_snoc ⟨h1', h6⟩ (fun x ex hl => ⟨(h2 x ex hl).1, by have := (h2 x ex hl).2.1; omega, hne _ (h2 x ex hl).2.1 (h2 x ex hl).2.2⟩) (fcs_mono ((fr_b hal (fun k => ¬ (base ≤ k ∧ k < w.heap.size ∧ v.ownBlock ≠ some k))).trans (hf.mono (T := fun k => ¬ (base ≤ k ∧ k < w.heap.size ∧ v.ownBlock ≠ some k)) fun k _ e hk => hk.2.2 e) fun _ _ e => e) (fun k hk => ⟨hk.1, by omega, hne k hk.2.1 hk.2.2⟩) hc0)

theorem RB.fr2 {w wr w2 : World} {M : Rd} {fa : Option Addr} {fc : Nat} (h : RB w wr M fa fc) (f : Fr (fun i => w.heap.size + 2 ≤ i) wr w2) : RB w w2 M fa fc :=
  ⟨(f.block _ (by have := h.lt; omega) (by omega)).trans h.r0, (f.block _ h.lt (by omega)).trans h.r1, h.hb.trans (f.below _ h.hb.size fun i e => by omega)⟩
/-- How many bytes a crash leaves of a file. -/
def kpR (r : Rf) (k : Int) : Nat := if k < (r.dat.length : Int) - r.sure then r.sure + k.toNat else r.dat.length
def crR (r : Rf) (k : Int) : Rf := ⟨r.nm, r.dat.take (kpR r k), kpR r k⟩
theorem kpR_le (r : Rf) (k : Int) (h : r.sure ≤ r.dat.length) : kpR r k ≤ r.dat.length := by unfold kpR; split <;> omega
/-- What the document's crash answers. -/
def COut (w : World) (M' : Rd) (e : Ending) (w' : World) : Prop := ∃ fa' fc', e = .returned (rval M' fa' fc') ∧ Fs w' (fun k => w.heap.size ≤ k) fa' M'.fs ∧ Below w.heap.size w w'
section
variable {w : World} {X : Nat → Prop} {M : Rd} {fa : Option Addr} {fc : Nat}
set_option maxHeartbeats 4000000 in
theorem crash_r_loop (hf : Fs w X fa M.fs) (hn : M.fs.length ≤ 400000) (hs : ∀ r ∈ M.fs, r.sure ≤ r.dat.length ∧ r.dat.length ≤ 100000000) (keep : Int) (h0 : 0 ≤ keep) :
    Calls Try.prog 38 #[rval M fa fc, .int .i64 keep] w (COut w { M with fs := M.fs.map (crR · keep), gone := false, armed := false }) := by
  have rb := RB.start w M fa fc
  go_enter Try.func38, Try.ntmps38
  go_wp2
  generalize (w.alloc (.cells (rcells M fa fc) 34)).alloc (.cells zrow 34) = w0 at *
  go_loopw [5, 6] (fun v i wr => ∃ k : Nat, k ≤ M.fs.length ∧ i = .int .i64 k ∧ GrC wr (w.heap.size + 2) v ((M.fs.take k).map (crR · keep)) ∧ RB w wr M fa fc) (fun _ i _ => M.fs.length - (intOf i).toNat)
  case atStart => exact ⟨0, by omega, rfl, ⟨[], World.ownsRow_nil _ _ _ _, rfl⟩, rb⟩
  case round =>
    obtain ⟨k, hk, rfl, hg, rb⟩ := hrel
    have hlt2 := rb.lt
    by_cases hlt : k < M.fs.length
    · have hf1 := hf.later rb.hb
      obtain ⟨fb, rfl, hxf, hcc⟩ := hf1 (by omega)
      obtain ⟨ad, cap, h1, h2, h3, h4, h6, h5⟩ := hcc k hlt
      obtain ⟨hsu, hle⟩ := hs M.fs[k] (List.getElem_mem hlt)
      obtain ⟨c0, c1, c2, c3, c4, c5, f0, f1, f2, f3, f4, f5⟩ := c6_of rb.r0
      clear hcc
      obtain ⟨r0, hr0⟩ : ∃ r0, Hid (r0 = crR M.fs[k] keep) := ⟨_, hide1 rfl⟩
      have hkl := kpR_le M.fs[k] keep hsu
      have hlr : Hid (r0.dat.length = kpR M.fs[k] keep) := hide1 (by rw [hr0.out]; simp only [crR, List.length_take]; omega)
      have hsr : (r0.sure : Int) = r0.dat.length := by rw [hlr.out, hr0.out]; rfl
      have hnr : r0.nm = M.fs[k].nm := by rw [hr0.out]; rfl
      have hdr : r0.dat = M.fs[k].dat.take r0.dat.length := by rw [hlr.out, hr0.out]; rfl
      have hnx : (M.fs.take (k + 1)).map (crR · keep) = (M.fs.take k).map (crR · keep) ++ [r0] := by
        rw [List.take_succ_eq_append_getElem hlt, List.map_append, hr0.out]; rfl
      replace hnx := hide1 hnx
      have hll : r0.dat.length ≤ M.fs[k].dat.length := by rw [hlr.out]; exact hkl
      have hcl : ((M.fs.take k).map (crR · keep)).length ≤ 1000000 := by simp; omega
      replace hdr := hide1 hdr
      replace hsr := hide1 hsr
      replace hnr := hide1 hnr
      have hbd0 : Hid (∀ (s1 : ByteArray) (x1 : Option Addr) (l1 c1 : Nat) (n1 : Int) (w : World), (Instr.build 78 #[(0, .string s1), (1, .slice x1 l1 c1), (2, .int .i64 n1)]).run Try.prog w = .ok (.agg #[.string s1, .slice x1 l1 c1, .int .i64 n1]) w) := hide1 fun _ _ _ _ _ _ => by kernel_rfl
      by_cases hcase : keep < (M.fs[k].dat.length : Int) - M.fs[k].sure
      · have hkv := hide1 (show (M.fs[k].sure : Int) + keep = (r0.dat.length : Int) by rw [hlr.out]; unfold kpR; rw [if_pos hcase]; omega)
        go_upto_region 11 with fail
        have rb := rb.box (.cells (fcell M.fs[k] ad cap) 78)
        have hal : Below wr.heap.size wr (wr.alloc (.cells (fcell M.fs[k] ad cap) 78)) := (Below.refl _ _).alloc (Nat.le_refl _) _
        have kx := (MapKept.heap_alloc wr (.cells (fcell M.fs[k] ad cap) 78)).1
        have hg1 := hg.later hal
        have h41 := h4.later hal
        have hog := hg.own
        clear c0 c1 c2 c3 c4 c5 f0 f1 f2 f3 f4 f5 h1 h2 h3 hg
        rw [hkv.out]
        have hbd := hbd0.out
        have hlb : wr.heap.size < (wr.alloc (.cells (fcell M.fs[k] ad cap) 78)).heap.size := (Array.getElem?_eq_some_iff.1 kx).1
        generalize wr.alloc (.cells #[.string (bstr M.fs[k].nm), .slice ad M.fs[k].dat.length cap, .int .i64 (M.fs[k].sure : Int)] 78) = wb at rb kx hg1 h41 hal hlb ⊢
        have b0 : wb.cell? ⟨wr.heap.size, 0, none⟩ = some (.string (bstr M.fs[k].nm)) := cell_row kx 0
        have b1 : wb.cell? ⟨wr.heap.size, 1, none⟩ = some (.slice ad M.fs[k].dat.length cap) := cell_row kx 1
        have hale : Below wb.heap.size wb (wb.alloc (.cells #[] 5)) := (Below.refl _ wb).alloc (Nat.le_refl _) _
        have b0e := cell_later hale b0
        have b1e := cell_later hale b1
        have hoe := own_empty wb wb.heap.size (Nat.le_refl _)
        have hln : Hid (r0.dat.length = r0.dat.length) := hide1 rfl
        have h4e : Bs (wb.alloc (.cells #[] 5)) ad r0.dat.length r0.dat := by
          have h := (h41.less r0.dat.length (by omega)).later hale
          rw [← hln.out, ← hdr.out, hln.out] at h
          exact h
        have htb : ∀ z ∈ r0.dat, 0 ≤ z ∧ z < 256 := h4e.2.1
        have hszb : w.heap.size + 1 < wb.heap.size := rb.lt
        have hcp : r0.dat.length ≤ cap := by omega
        go_region_law (first | (refine step_append_bs rfl (.tmp 39) (.tmp 43) rfl wb.heap.size (.slice (some ⟨wb.heap.size, 0, none⟩) 0 0) 0 [] (by first | (simp [Act.eval]; done) | (simp [Act.eval, Act.put]; done) | rfl) hoe ad r0.dat.length cap r0.dat (by first | (simp [Act.eval]; done) | (simp [Act.eval, Act.put]; done) | rfl) h4e (by omega) (by simp) ?_; intro v4 w4 hown4 hg4 hk4; rw [Nat.zero_add] at hown4; obtain ⟨va, vc, hbv, rfl⟩ := bs_own2 hown4 htb; have hb4 : Below wb.heap.size wb w4 := (by (have hg4' : (wb.alloc (.cells #[] 5)).grownBy w4 (some wb.heap.size) := ⟨hg4.os, hg4.tape, hg4.output, hg4.size, hg4.block⟩; exact hale.grown hg4' (by simp) (fun k e => by (cases e; exact Nat.le_refl _)))); have b0' := cell_later hb4 b0) | (refine step_app_c rfl (.tmp 36) (.tmp 47) rfl (w.heap.size + 2) _ _ (by first | (simp [Act.eval]; done) | (simp [Act.eval, Act.put]; done) | rfl) (hg1.later hb4) r0 va vc M.fs[k].nm r0.dat.length (r0.dat.length : Int) hnr.out hln.out hsr.out (by first | (simp [Act.eval]; done) | (simp [Act.eval, Act.put]; done) | rfl) hbv (own_cap hown4 rfl).1 (fun x ex hl => ⟨by (have := (own_cap hown4 rfl).2 x ex; omega), (hown4.lt x.block (by (rw [ex]; rfl))).2, fun e => by (have := (hog _ e).2; have := (own_cap hown4 rfl).2 x ex; omega)⟩) hcl (by (have := hb4.size; omega)) ?_; intro v5 w5 hg5 hf5))
        all_goals
          have rb5 := (rb.later hb4).fr2 hf5
          rw [← hnx.out] at hg5
          clear b0' hown4 hbv hb4 hf5 hk4 hg4
          go_wp2
          exact ⟨⟨k + 1, by omega, by go_num, hg5, rb5⟩, by simp [intOf]; omega⟩
      · have hkv := hide1 (show M.fs[k].dat.length = r0.dat.length by rw [hlr.out]; unfold kpR; rw [if_neg hcase])
        have hcase : (M.fs[k].dat.length : Int) - M.fs[k].sure ≤ keep := by omega
        go_upto_region 11 with fail
        have rb := rb.box (.cells (fcell M.fs[k] ad cap) 78)
        have hal : Below wr.heap.size wr (wr.alloc (.cells (fcell M.fs[k] ad cap) 78)) := (Below.refl _ _).alloc (Nat.le_refl _) _
        have kx := (MapKept.heap_alloc wr (.cells (fcell M.fs[k] ad cap) 78)).1
        have hg1 := hg.later hal
        have h41 := h4.later hal
        have hog := hg.own
        clear c0 c1 c2 c3 c4 c5 f0 f1 f2 f3 f4 f5 h1 h2 h3 hg
        skip
        have hbd := hbd0.out
        have hlb : wr.heap.size < (wr.alloc (.cells (fcell M.fs[k] ad cap) 78)).heap.size := (Array.getElem?_eq_some_iff.1 kx).1
        generalize wr.alloc (.cells #[.string (bstr M.fs[k].nm), .slice ad M.fs[k].dat.length cap, .int .i64 (M.fs[k].sure : Int)] 78) = wb at rb kx hg1 h41 hal hlb ⊢
        have b0 : wb.cell? ⟨wr.heap.size, 0, none⟩ = some (.string (bstr M.fs[k].nm)) := cell_row kx 0
        have b1 : wb.cell? ⟨wr.heap.size, 1, none⟩ = some (.slice ad M.fs[k].dat.length cap) := cell_row kx 1
        have hale : Below wb.heap.size wb (wb.alloc (.cells #[] 5)) := (Below.refl _ wb).alloc (Nat.le_refl _) _
        have b0e := cell_later hale b0
        have b1e := cell_later hale b1
        have hoe := own_empty wb wb.heap.size (Nat.le_refl _)
        have hln : Hid (r0.dat.length = M.fs[k].dat.length) := hide1 hkv.out.symm
        have h4e : Bs (wb.alloc (.cells #[] 5)) ad M.fs[k].dat.length r0.dat := by
          have h := (h41.less M.fs[k].dat.length (by omega)).later hale
          rw [← hln.out, ← hdr.out, hln.out] at h
          exact h
        have htb : ∀ z ∈ r0.dat, 0 ≤ z ∧ z < 256 := h4e.2.1
        have hszb : w.heap.size + 1 < wb.heap.size := rb.lt
        have hcp : r0.dat.length ≤ cap := by omega
        go_region_law (first | (refine step_append_bs rfl (.tmp 39) (.tmp 43) rfl wb.heap.size (.slice (some ⟨wb.heap.size, 0, none⟩) 0 0) 0 [] (by first | (simp [Act.eval]; done) | (simp [Act.eval, Act.put]; done) | rfl) hoe ad M.fs[k].dat.length cap r0.dat (by first | (simp [Act.eval]; done) | (simp [Act.eval, Act.put]; done) | rfl) h4e (by omega) (by simp) ?_; intro v4 w4 hown4 hg4 hk4; rw [Nat.zero_add] at hown4; obtain ⟨va, vc, hbv, rfl⟩ := bs_own2 hown4 htb; have hb4 : Below wb.heap.size wb w4 := (by (have hg4' : (wb.alloc (.cells #[] 5)).grownBy w4 (some wb.heap.size) := ⟨hg4.os, hg4.tape, hg4.output, hg4.size, hg4.block⟩; exact hale.grown hg4' (by simp) (fun k e => by (cases e; exact Nat.le_refl _)))); have b0' := cell_later hb4 b0) | (refine step_app_c rfl (.tmp 36) (.tmp 47) rfl (w.heap.size + 2) _ _ (by first | (simp [Act.eval]; done) | (simp [Act.eval, Act.put]; done) | rfl) (hg1.later hb4) r0 va vc M.fs[k].nm M.fs[k].dat.length (M.fs[k].dat.length : Int) hnr.out hln.out (by rw [hsr.out, hkv.out]) (by first | (simp [Act.eval]; done) | (simp [Act.eval, Act.put]; done) | rfl) hbv (own_cap hown4 rfl).1 (fun x ex hl => ⟨by (have := (own_cap hown4 rfl).2 x ex; omega), (hown4.lt x.block (by (rw [ex]; rfl))).2, fun e => by (have := (hog _ e).2; have := (own_cap hown4 rfl).2 x ex; omega)⟩) hcl (by (have := hb4.size; omega)) ?_; intro v5 w5 hg5 hf5))
        all_goals
          have rb5 := (rb.later hb4).fr2 hf5
          rw [← hnx.out] at hg5
          clear b0' hown4 hbv hb4 hf5 hk4 hg4
          go_wp2
          exact ⟨⟨k + 1, by omega, by go_num, hg5, rb5⟩, by simp [intOf]; omega⟩
    · obtain rfl : k = M.fs.length := by omega
      rw [List.take_length] at hg
      obtain ⟨fa', fc', ev, hfs⟩ := hg.fs
      have hlen : Hid ((M.fs.map (crR · keep)).length = M.fs.length) := hide1 (by simp)
      rw [hlen.out] at ev
      subst ev
      have hw3 := (((Wt.refl rb.r0).cell 5 (.slice fa' M.fs.length fc')).cell 4 (.bool false)).cell 3 (.bool false)
      have e3 : (((rcells M fa fc).setIfInBounds 5 (.slice fa' M.fs.length fc')).setIfInBounds 4 (.bool false)).setIfInBounds 3 (.bool false) = rcells { M with fs := M.fs.map (crR · keep), gone := false, armed := false } fa' fc' := by simp
      rw [e3] at hw3
      have rb3 : RB w (((wr.setCell ⟨w.heap.size, 5, none⟩ (.slice fa' M.fs.length fc')).setCell ⟨w.heap.size, 4, none⟩ (.bool false)).setCell ⟨w.heap.size, 3, none⟩ (.bool false)) { M with fs := M.fs.map (crR · keep), gone := false, armed := false } fa' fc' := ⟨hw3.row, (hw3.block _ (by omega)).trans rb.r1, rb.hb.trans (hw3.fr.below _ rb.hb.size fun i e => by omega)⟩
      have hfs3 := hfs.fr hw3.fr (fun k hk e => by omega)
      obtain ⟨c0, c1, c2, c3, c4, c5, f0, f1, f2, f3, f4, f5⟩ := c6_of rb.r0
      clear hw3 e3 hg
      go_upto_region 15 with fail
      clear c0 c1 c2 c3 c4 c5 f0 f1 f2 f3 f4 f5
      generalize ((wr.setCell ⟨w.heap.size, 5, none⟩ (.slice fa' M.fs.length fc')).setCell ⟨w.heap.size, 4, none⟩ (.bool false)).setCell ⟨w.heap.size, 3, none⟩ (.bool false) = w3 at rb3 hfs3 ⊢
      obtain ⟨c0, c1, c2, c3, c4, c5, f0, f1, f2, f3, f4, f5⟩ := c6_of rb3.r0
      obtain ⟨d0, d1, d2, d3, d4, d5, g0, g1, g2, g3, g4, g5⟩ := c6_of rb3.r1
      obtain ⟨e1, e3, e2⟩ := rb3.fin
      have hfin := hfs3.fr e3 (fun k hk e => by omega)
      go_wp2
      rw [← hlen.out]
      refine bodyPost_ret (results_c1 (M := { M with fs := M.fs.map (crR · keep), gone := false, armed := false }) rfl _ rfl e1) rfl ?_
      exact ⟨fa', fc', rfl, hfin.mono fun k h => by omega, e2⟩
end
end Go.Proofs.Ytcmgpllnficmdaa

namespace Go.Proofs.Ytcmgpllnficmdaa
open Go.RowKit Go.Maps
section
variable {w : World} {X : Nat → Prop} {M : Rd} {fa : Option Addr} {fc : Nat}
set_option maxHeartbeats 4000000 in
theorem crash_r_neg (hf : Fs w X fa M.fs) (hn : M.fs.length ≤ 400000) (hs : ∀ r ∈ M.fs, r.sure ≤ r.dat.length ∧ r.dat.length ≤ 100000000) (keep : Int) (h0 : keep < 0) :
    Calls Try.prog 38 #[rval M fa fc, .int .i64 keep] w (COut w { M with fs := M.fs.map (crR · 0), gone := false, armed := false }) := by
  have rb := RB.start w M fa fc
  go_enter Try.func38, Try.ntmps38
  go_wp2
  generalize (w.alloc (.cells (rcells M fa fc) 34)).alloc (.cells zrow 34) = w0 at *
  go_loopw [5, 6] (fun v i wr => ∃ k : Nat, k ≤ M.fs.length ∧ i = .int .i64 k ∧ GrC wr (w.heap.size + 2) v ((M.fs.take k).map (crR · 0)) ∧ RB w wr M fa fc) (fun _ i _ => M.fs.length - (intOf i).toNat)
  case atStart => exact ⟨0, by omega, rfl, ⟨[], World.ownsRow_nil _ _ _ _, rfl⟩, rb⟩
  case round =>
    obtain ⟨k, hk, rfl, hg, rb⟩ := hrel
    have hlt2 := rb.lt
    by_cases hlt : k < M.fs.length
    · have hf1 := hf.later rb.hb
      obtain ⟨fb, rfl, hxf, hcc⟩ := hf1 (by omega)
      obtain ⟨ad, cap, h1, h2, h3, h4, h6, h5⟩ := hcc k hlt
      obtain ⟨hsu, hle⟩ := hs M.fs[k] (List.getElem_mem hlt)
      obtain ⟨c0, c1, c2, c3, c4, c5, f0, f1, f2, f3, f4, f5⟩ := c6_of rb.r0
      clear hcc
      obtain ⟨r0, hr0⟩ : ∃ r0, Hid (r0 = crR M.fs[k] 0) := ⟨_, hide1 rfl⟩
      have hkl := kpR_le M.fs[k] 0 hsu
      have hlr : Hid (r0.dat.length = kpR M.fs[k] 0) := hide1 (by rw [hr0.out]; simp only [crR, List.length_take]; omega)
      have hsr : (r0.sure : Int) = r0.dat.length := by rw [hlr.out, hr0.out]; rfl
      have hnr : r0.nm = M.fs[k].nm := by rw [hr0.out]; rfl
      have hdr : r0.dat = M.fs[k].dat.take r0.dat.length := by rw [hlr.out, hr0.out]; rfl
      have hnx : (M.fs.take (k + 1)).map (crR · 0) = (M.fs.take k).map (crR · 0) ++ [r0] := by
        rw [List.take_succ_eq_append_getElem hlt, List.map_append, hr0.out]; rfl
      replace hnx := hide1 hnx
      have hll : r0.dat.length ≤ M.fs[k].dat.length := by rw [hlr.out]; exact hkl
      have hcl : ((M.fs.take k).map (crR · 0)).length ≤ 1000000 := by simp; omega
      replace hdr := hide1 hdr
      replace hsr := hide1 hsr
      replace hnr := hide1 hnr
      have hbd0 : Hid (∀ (s1 : ByteArray) (x1 : Option Addr) (l1 c1 : Nat) (n1 : Int) (w : World), (Instr.build 78 #[(0, .string s1), (1, .slice x1 l1 c1), (2, .int .i64 n1)]).run Try.prog w = .ok (.agg #[.string s1, .slice x1 l1 c1, .int .i64 n1]) w) := hide1 fun _ _ _ _ _ _ => by kernel_rfl
      by_cases hcase : (0 : Int) < (M.fs[k].dat.length : Int) - M.fs[k].sure
      · have hkv := hide1 (show (M.fs[k].sure : Int) = (r0.dat.length : Int) by rw [hlr.out]; unfold kpR; rw [if_pos hcase]; omega)
        go_upto_region 11 with fail
        have rb := rb.box (.cells (fcell M.fs[k] ad cap) 78)
        have hal : Below wr.heap.size wr (wr.alloc (.cells (fcell M.fs[k] ad cap) 78)) := (Below.refl _ _).alloc (Nat.le_refl _) _
        have kx := (MapKept.heap_alloc wr (.cells (fcell M.fs[k] ad cap) 78)).1
        have hg1 := hg.later hal
        have h41 := h4.later hal
        have hog := hg.own
        clear c0 c1 c2 c3 c4 c5 f0 f1 f2 f3 f4 f5 h1 h2 h3 hg
        have hbd := hbd0.out
        have hlb : wr.heap.size < (wr.alloc (.cells (fcell M.fs[k] ad cap) 78)).heap.size := (Array.getElem?_eq_some_iff.1 kx).1
        generalize wr.alloc (.cells #[.string (bstr M.fs[k].nm), .slice ad M.fs[k].dat.length cap, .int .i64 (M.fs[k].sure : Int)] 78) = wb at rb kx hg1 h41 hal hlb ⊢
        rw [hkv.out]
        have b0 : wb.cell? ⟨wr.heap.size, 0, none⟩ = some (.string (bstr M.fs[k].nm)) := cell_row kx 0
        have b1 : wb.cell? ⟨wr.heap.size, 1, none⟩ = some (.slice ad M.fs[k].dat.length cap) := cell_row kx 1
        have hale : Below wb.heap.size wb (wb.alloc (.cells #[] 5)) := (Below.refl _ wb).alloc (Nat.le_refl _) _
        have b0e := cell_later hale b0
        have b1e := cell_later hale b1
        have hoe := own_empty wb wb.heap.size (Nat.le_refl _)
        have hln : Hid (r0.dat.length = r0.dat.length) := hide1 rfl
        have h4e : Bs (wb.alloc (.cells #[] 5)) ad r0.dat.length r0.dat := by
          have h := (h41.less r0.dat.length (by omega)).later hale
          rw [← hln.out, ← hdr.out, hln.out] at h
          exact h
        have htb : ∀ z ∈ r0.dat, 0 ≤ z ∧ z < 256 := h4e.2.1
        have hszb : w.heap.size + 1 < wb.heap.size := rb.lt
        have hcp : r0.dat.length ≤ cap := by omega
        go_region_law (first | (refine step_append_bs rfl (.tmp 39) (.tmp 43) rfl wb.heap.size (.slice (some ⟨wb.heap.size, 0, none⟩) 0 0) 0 [] (by first | (simp [Act.eval]; done) | (simp [Act.eval, Act.put]; done) | rfl) hoe ad r0.dat.length cap r0.dat (by first | (simp [Act.eval]; done) | (simp [Act.eval, Act.put]; done) | rfl) h4e (by omega) (by simp) ?_; intro v4 w4 hown4 hg4 hk4; rw [Nat.zero_add] at hown4; obtain ⟨va, vc, hbv, rfl⟩ := bs_own2 hown4 htb; have hb4 : Below wb.heap.size wb w4 := (by (have hg4' : (wb.alloc (.cells #[] 5)).grownBy w4 (some wb.heap.size) := ⟨hg4.os, hg4.tape, hg4.output, hg4.size, hg4.block⟩; exact hale.grown hg4' (by simp) (fun k e => by (cases e; exact Nat.le_refl _)))); have b0' := cell_later hb4 b0) | (refine step_app_c rfl (.tmp 36) (.tmp 47) rfl (w.heap.size + 2) _ _ (by first | (simp [Act.eval]; done) | (simp [Act.eval, Act.put]; done) | rfl) (hg1.later hb4) r0 va vc M.fs[k].nm r0.dat.length (r0.dat.length : Int) hnr.out hln.out hsr.out (by first | (simp [Act.eval]; done) | (simp [Act.eval, Act.put]; done) | rfl) hbv (own_cap hown4 rfl).1 (fun x ex hl => ⟨by (have := (own_cap hown4 rfl).2 x ex; omega), (hown4.lt x.block (by (rw [ex]; rfl))).2, fun e => by (have := (hog _ e).2; have := (own_cap hown4 rfl).2 x ex; omega)⟩) hcl (by (have := hb4.size; omega)) ?_; intro v5 w5 hg5 hf5))
        all_goals
          have rb5 := (rb.later hb4).fr2 hf5
          rw [← hnx.out] at hg5
          clear b0' hown4 hbv hb4 hf5 hk4 hg4
          go_wp2
          exact ⟨⟨k + 1, by omega, by go_num, hg5, rb5⟩, by simp [intOf]; omega⟩
      · have hkv := hide1 (show M.fs[k].dat.length = r0.dat.length by rw [hlr.out]; unfold kpR; rw [if_neg hcase])
        have hcase : (M.fs[k].dat.length : Int) - M.fs[k].sure ≤ 0 := by omega
        go_upto_region 11 with fail
        have rb := rb.box (.cells (fcell M.fs[k] ad cap) 78)
        have hal : Below wr.heap.size wr (wr.alloc (.cells (fcell M.fs[k] ad cap) 78)) := (Below.refl _ _).alloc (Nat.le_refl _) _
        have kx := (MapKept.heap_alloc wr (.cells (fcell M.fs[k] ad cap) 78)).1
        have hg1 := hg.later hal
        have h41 := h4.later hal
        have hog := hg.own
        clear c0 c1 c2 c3 c4 c5 f0 f1 f2 f3 f4 f5 h1 h2 h3 hg
        skip
        have hbd := hbd0.out
        have hlb : wr.heap.size < (wr.alloc (.cells (fcell M.fs[k] ad cap) 78)).heap.size := (Array.getElem?_eq_some_iff.1 kx).1
        generalize wr.alloc (.cells #[.string (bstr M.fs[k].nm), .slice ad M.fs[k].dat.length cap, .int .i64 (M.fs[k].sure : Int)] 78) = wb at rb kx hg1 h41 hal hlb ⊢
        have b0 : wb.cell? ⟨wr.heap.size, 0, none⟩ = some (.string (bstr M.fs[k].nm)) := cell_row kx 0
        have b1 : wb.cell? ⟨wr.heap.size, 1, none⟩ = some (.slice ad M.fs[k].dat.length cap) := cell_row kx 1
        have hale : Below wb.heap.size wb (wb.alloc (.cells #[] 5)) := (Below.refl _ wb).alloc (Nat.le_refl _) _
        have b0e := cell_later hale b0
        have b1e := cell_later hale b1
        have hoe := own_empty wb wb.heap.size (Nat.le_refl _)
        have hln : Hid (r0.dat.length = M.fs[k].dat.length) := hide1 hkv.out.symm
        have h4e : Bs (wb.alloc (.cells #[] 5)) ad M.fs[k].dat.length r0.dat := by
          have h := (h41.less M.fs[k].dat.length (by omega)).later hale
          rw [← hln.out, ← hdr.out, hln.out] at h
          exact h
        have htb : ∀ z ∈ r0.dat, 0 ≤ z ∧ z < 256 := h4e.2.1
        have hszb : w.heap.size + 1 < wb.heap.size := rb.lt
        have hcp : r0.dat.length ≤ cap := by omega
        go_region_law (first | (refine step_append_bs rfl (.tmp 39) (.tmp 43) rfl wb.heap.size (.slice (some ⟨wb.heap.size, 0, none⟩) 0 0) 0 [] (by first | (simp [Act.eval]; done) | (simp [Act.eval, Act.put]; done) | rfl) hoe ad M.fs[k].dat.length cap r0.dat (by first | (simp [Act.eval]; done) | (simp [Act.eval, Act.put]; done) | rfl) h4e (by omega) (by simp) ?_; intro v4 w4 hown4 hg4 hk4; rw [Nat.zero_add] at hown4; obtain ⟨va, vc, hbv, rfl⟩ := bs_own2 hown4 htb; have hb4 : Below wb.heap.size wb w4 := (by (have hg4' : (wb.alloc (.cells #[] 5)).grownBy w4 (some wb.heap.size) := ⟨hg4.os, hg4.tape, hg4.output, hg4.size, hg4.block⟩; exact hale.grown hg4' (by simp) (fun k e => by (cases e; exact Nat.le_refl _)))); have b0' := cell_later hb4 b0) | (refine step_app_c rfl (.tmp 36) (.tmp 47) rfl (w.heap.size + 2) _ _ (by first | (simp [Act.eval]; done) | (simp [Act.eval, Act.put]; done) | rfl) (hg1.later hb4) r0 va vc M.fs[k].nm M.fs[k].dat.length (M.fs[k].dat.length : Int) hnr.out hln.out (by rw [hsr.out, hkv.out]) (by first | (simp [Act.eval]; done) | (simp [Act.eval, Act.put]; done) | rfl) hbv (own_cap hown4 rfl).1 (fun x ex hl => ⟨by (have := (own_cap hown4 rfl).2 x ex; omega), (hown4.lt x.block (by (rw [ex]; rfl))).2, fun e => by (have := (hog _ e).2; have := (own_cap hown4 rfl).2 x ex; omega)⟩) hcl (by (have := hb4.size; omega)) ?_; intro v5 w5 hg5 hf5))
        all_goals
          have rb5 := (rb.later hb4).fr2 hf5
          rw [← hnx.out] at hg5
          clear b0' hown4 hbv hb4 hf5 hk4 hg4
          go_wp2
          exact ⟨⟨k + 1, by omega, by go_num, hg5, rb5⟩, by simp [intOf]; omega⟩
    · obtain rfl : k = M.fs.length := by omega
      rw [List.take_length] at hg
      obtain ⟨fa', fc', ev, hfs⟩ := hg.fs
      have hlen : Hid ((M.fs.map (crR · 0)).length = M.fs.length) := hide1 (by simp)
      rw [hlen.out] at ev
      subst ev
      have hw3 := (((Wt.refl rb.r0).cell 5 (.slice fa' M.fs.length fc')).cell 4 (.bool false)).cell 3 (.bool false)
      have e3 : (((rcells M fa fc).setIfInBounds 5 (.slice fa' M.fs.length fc')).setIfInBounds 4 (.bool false)).setIfInBounds 3 (.bool false) = rcells { M with fs := M.fs.map (crR · 0), gone := false, armed := false } fa' fc' := by simp
      rw [e3] at hw3
      have rb3 : RB w (((wr.setCell ⟨w.heap.size, 5, none⟩ (.slice fa' M.fs.length fc')).setCell ⟨w.heap.size, 4, none⟩ (.bool false)).setCell ⟨w.heap.size, 3, none⟩ (.bool false)) { M with fs := M.fs.map (crR · 0), gone := false, armed := false } fa' fc' := ⟨hw3.row, (hw3.block _ (by omega)).trans rb.r1, rb.hb.trans (hw3.fr.below _ rb.hb.size fun i e => by omega)⟩
      have hfs3 := hfs.fr hw3.fr (fun k hk e => by omega)
      obtain ⟨c0, c1, c2, c3, c4, c5, f0, f1, f2, f3, f4, f5⟩ := c6_of rb.r0
      clear hw3 e3 hg
      go_upto_region 15 with fail
      clear c0 c1 c2 c3 c4 c5 f0 f1 f2 f3 f4 f5
      generalize ((wr.setCell ⟨w.heap.size, 5, none⟩ (.slice fa' M.fs.length fc')).setCell ⟨w.heap.size, 4, none⟩ (.bool false)).setCell ⟨w.heap.size, 3, none⟩ (.bool false) = w3 at rb3 hfs3 ⊢
      obtain ⟨c0, c1, c2, c3, c4, c5, f0, f1, f2, f3, f4, f5⟩ := c6_of rb3.r0
      obtain ⟨d0, d1, d2, d3, d4, d5, g0, g1, g2, g3, g4, g5⟩ := c6_of rb3.r1
      obtain ⟨e1, e3, e2⟩ := rb3.fin
      have hfin := hfs3.fr e3 (fun k hk e => by omega)
      go_wp2
      rw [← hlen.out]
      refine bodyPost_ret (results_c1 (M := { M with fs := M.fs.map (crR · 0), gone := false, armed := false }) rfl _ rfl e1) rfl ?_
      exact ⟨fa', fc', rfl, hfin.mono fun k h => by omega, e2⟩
end
end Go.Proofs.Ytcmgpllnficmdaa

namespace Go.Proofs.Ytcmgpllnficmdaa
open Go.RowKit Go.Maps

variable {w : World} {base b : Nat} {D : Dsk} {X : Nat → Prop} {M : Rd} {fa : Option Addr} {fc : Nat} {nm tn : List UInt8} {n : Int} {ab : Option Addr} {lb cb : Nat} {zs : List Int}

/-- What the document's crash answers, whatever is kept. -/
def CRo (w : World) (M : Rd) (n : Int) (e : Ending) (w' : World) : Prop := ∃ M' fa' fc', M' = { M with fs := M.fs.map (crR · (mx n)), gone := false, armed := false } ∧ e = .returned (rval M' fa' fc') ∧ Fs w' (fun k => w.heap.size ≤ k) fa' M'.fs ∧ Below w.heap.size w w'
theorem crash_ra (hf : Fs w X fa M.fs) (hM : M.fs.length ≤ 400000) (hMs : ∀ r ∈ M.fs, r.sure ≤ r.dat.length ∧ r.dat.length ≤ 100000000) (n : Int) : Calls Try.prog 38 #[rval M fa fc, .int .i64 n] w (CRo w M n) := by
  by_cases hn : n < 0
  · have e : mx n = 0 := by simp [mx, hn]
    refine (crash_r_neg hf hM hMs n hn).mono ?_
    rintro e1 w1 ⟨fa', fc', h1, h2, h3⟩
    exact ⟨_, fa', fc', by rw [e], h1, h2, h3⟩
  · have e : mx n = n := by simp [mx, hn]
    refine (crash_r_loop hf hM hMs n (by omega)).mono ?_
    rintro e1 w1 ⟨fa', fc', h1, h2, h3⟩
    exact ⟨_, fa', fc', by rw [e], h1, h2, h3⟩
/-- What the program's crash answers. -/
def CPo (w : World) (base b : Nat) (D : Dsk) (n : Int) (e : Ending) (w' : World) : Prop := ∃ D', (∃ D1, CrR D D1 n ∧ D' = litD D1) ∧ e = .returned (.tuple #[]) ∧ DkAt w' base b D' ∧ Fr (fp b D) w w' ∧ Grow w b D D'
theorem crash_pa (h : DkAt w base b D) (n : Int) : Calls Try.prog 17 #[pD b, .int .i64 n] w (CPo w base b D n) := by
  refine (crash_d h n).mono ?_
  rintro e w1 ⟨h1, D1, h2, h3, h4, h5⟩
  exact ⟨litD D1, ⟨D1, h2, rfl⟩, h1, h3, h4, h5⟩
set_option maxHeartbeats 4000000 in
set_option maxRecDepth 100000 in
theorem do_crash (h : DkAt w base b D) (hf : Fs w X fa M.fs) (hX : ∀ k, X k → k < w.heap.size ∧ ¬ fp b D k) (hM : M.fs.length ≤ 400000) (hMs : ∀ r ∈ M.fs, r.sure ≤ r.dat.length ∧ r.dat.length ≤ 100000000) (hbs : Bs w ab lb zs) (hab : ∀ x, ab = some x → 0 < lb → ¬ fp b D x.block) (hm : lb ≤ 1000000) :
    Calls Try.prog 13 #[pD b, rval M fa fc, .agg (opc 8 nm tn n ab lb cb)] w (DOut w base b D (fun D' k => (∃ D1, CrR D D1 n ∧ D' = litD D1) ∧ k = 0) (fun M' k => M' = { M with fs := M.fs.map (crR · (mx n)), gone := false, armed := false } ∧ k = 0)) := by
  have b3 := B3.start w M fa fc (opc 8 nm tn n ab lb cb)
  have hb0 := w3_below w M fa fc (opc 8 nm tn n ab lb cb)
  have hbs0 := hbs.later hb0
  have hfl := fp_lt h
  have hcp := copy_d ab lb cb zs _ hbs0 hm
  obtain ⟨o0, o1, o2, o3, o4⟩ := b3.ops
  go_enter Try.func13, Try.ntmps13
  go_wp2_with fail
  refine hcp.mono ?_
  rintro e w1 ⟨g, cg, rfl, hg, hkp, hb1⟩
  clear hcp
  have b3 := b3.fr (fr_b hb1 fun _ => False) (fun _ => False.elim)
  have hbw1 : Below w.heap.size w w1 := hb0.trans (hb1.mono hb0.size)
  have hbs1 := hbs.later hbw1
  have h1 := h.later hbw1
  have hf1 := hf.later hbw1
  have hgw : w.heap.size + 3 ≤ g := by simp at hg; omega
  have hglt : g < w1.heap.size := by
    obtain ⟨cur, hc, _⟩ := hkp.2.2.2.2.1
    exact (Array.getElem?_eq_some_iff.1 hc).1
  clear hb0 hbs0 hb1 hg o0 o1 o2 o3 o4
  obtain ⟨o0, o1, o2, o3, o4⟩ := b3.ops
  have hpc := crash_pa h1 n
  go_wp2_with fail
  refine hpc.mono ?_
  rintro e w2 ⟨D', hR, rfl, hD, hF, hG⟩
  clear hpc o0 o1 o2 o3 o4
  have b3 := b3.fr hF (fun k hk => .inl (hfl k hk))
  have hkp := hkp.fr hF (fun e => by have := hfl _ e; omega)
  have hbs2 := hbs1.fr hF hab
  have hf2 := hf1.fr hF (fun k hk e => (hX k hk).2 e)
  have hF2 : Fr (fp b D) w w2 := (fr_b hbw1 _).trans hF fun _ _ e => e
  have hDl := fp_lt hD
  clear hbs1 hf1 h1 hbw1
  obtain ⟨o0, o1, o2, o3, o4⟩ := b3.ops
  obtain ⟨c0, c1, c2, c3, c4, c5, f0, f1, f2, f3, f4, f5⟩ := c6_of b3.r0
  have hrc := crash_ra (fc := fc) hf2 hM hMs n
  go_wp2_with fail
  refine hrc.mono ?_
  rintro e w3 ⟨M', fa', fc', hR2, rfl, hf3', hb3⟩
  replace hR2 := hide1 hR2
  have hf3 := hf3'.mono (fun k h => (show X k ∨ w2.heap.size ≤ k from .inr h))
  clear hrc hf3' o0 o1 o2 o3 o4 c0 c1 c2 c3 c4 c5 f0 f1 f2 f3 f4 f5
  have b3 := b3.fr (fr_b hb3 fun _ => False) (fun _ => False.elim)
  obtain ⟨c0, c1, c2, c3, c4, c5, f0, f1, f2, f3, f4, f5⟩ := c6_of b3.r0
  obtain ⟨b4, hF4⟩ := b3.set M' fa' fc'
  go_upto_region 33 with fail
  have hs12 : w1.heap.size ≤ w2.heap.size := hF.size
  have hs23 : w2.heap.size ≤ w3.heap.size := hb3.size
  have hlx := bs_lt hbs
  have hns : ∀ k, fp b D' k → k ≠ w.heap.size ∧ k ≠ w.heap.size + 1 + 1 ∧ k ≠ g := fun k hk => by
    rcases hG k hk with h1 | h1
    · have := hfl k h1; omega
    · omega
  generalize (((((w3.setCell ⟨w.heap.size, 0, none⟩ (.int .i64 M'.quota)).setCell ⟨w.heap.size, 1, none⟩ (.int .i64 M'.steps)).setCell ⟨w.heap.size, 2, none⟩ (.int .i64 M'.left)).setCell ⟨w.heap.size, 3, none⟩ (.bool M'.armed)).setCell ⟨w.heap.size, 4, none⟩ (.bool M'.gone)).setCell ⟨w.heap.size, 5, none⟩ (.slice fa' M'.fs.length fc') = w4 at b4 hF4 ⊢
  have hkp4 := (hkp.fr (fr_b hb3 fun _ => False) id).fr hF4 (by omega)
  have hbs4 := (hbs2.later hb3).fr hF4 (fun x ex hl e => by have := hlx x ex hl; omega)
  have hD4 := (hD.later hb3).fr hF4 (fun k hk e => (hns k hk).1 e)
  have hf4 := hf3.fr hF4 (fun k hk e => by
    rcases hk with hk | hk
    · have := (hX k hk).1; omega
    · omega)
  have hF40 : Fr (fp b D) w w4 := (hF2.trans (fr_b hb3 _) fun _ _ e => e).trans hF4 fun k hk e => by omega
  have hs34 : w3.heap.size ≤ w4.heap.size := hF4.size
  clear hkp hbs2 hD hf3 hF4 hF2 hb3 hF hf2 c0 c1 c2 c3 c4 c5 f0 f1 f2 f3 f4 f5
  obtain ⟨o0, o1, o2, o3, o4⟩ := b4.ops
  go_wp2_with fail
  refine (kept_d g lb cg ab cb zs _ hkp4 hbs4).mono ?_
  rintro e w4 ⟨rfl, rfl⟩
  go_wp2_with fail
  refine (over_d (cap := cg) (hkp4.2.2.2.2.1.less (by omega)) (by omega)).mono ?_
  rintro e w5 ⟨rfl, hF5⟩
  have b5 := b4.fr hF5 (fun k e => .inr (by omega))
  have hs45 : w4.heap.size ≤ w5.heap.size := hF5.size
  have hD5 := hD4.fr hF5 (fun k hk e => (hns k hk).2.2 e)
  have hf5 := hf4.fr hF5 (fun k hk e => by
    rcases hk with hk | hk
    · have := (hX k hk).1; omega
    · omega)
  have hF50 : Fr (fp b D) w w5 := hF40.trans hF5 fun k hk e => by omega
  clear o0 o1 o2 o3 o4 hkp4 hbs4 hD4 hf4 hF40 b4 hF5
  obtain ⟨c0, c1, c2, c3, c4, c5, f0, f1, f2, f3, f4, f5⟩ := c6_of b5.r0
  obtain ⟨d0, d1, d2, d3, d4, d5, g0, g1, g2, g3, g4, g5⟩ := c6_of b5.r2
  obtain ⟨e1, e3⟩ := b5.fin
  go_wp2_with fail
  go_region_with (go_at_call 31; refine (num_0 _).mono ?_; rintro e w6 ⟨rfl, rfl⟩)
  all_goals
    clear c0 c1 c2 c3 c4 c5 f0 f1 f2 f3 f4 f5 d0 d1 d2 d3 d4 d5 g0 g1 g2 g3 g4 g5
    go_wp2
    generalize ((((((w5.setCell ⟨w.heap.size + 1 + 1, 0, none⟩ (.int .i64 M'.quota)).setCell ⟨w.heap.size + 1 + 1, 1, none⟩ (.int .i64 M'.steps)).setCell ⟨w.heap.size + 1 + 1, 2, none⟩ (.int .i64 M'.left)).setCell ⟨w.heap.size + 1 + 1, 3, none⟩ (.bool M'.armed)).setCell ⟨w.heap.size + 1 + 1, 4, none⟩ (.bool M'.gone)).setCell ⟨w.heap.size + 1 + 1, 5, none⟩ (.slice fa' M'.fs.length fc')) = w6 at e1 e3 ⊢
    refine bodyPost_ret (v := .tuple #[rval M' fa' fc', .int .i64 0, .int .i64 0, .bool true]) ((results_c4 (g := w.heap.size + 1 + 1) (M := M') (fa := fa') (fc := fc') Try.results13 _ ?_ ?_).trans ?_) ?_ ?_
    · kernel_rfl
    · exact e1
    · kernel_rfl
    · kernel_rfl
    · first
        | exact dout_end (n1 := 0) (n2 := 0) ⟨hR, rfl⟩ ⟨hR2.out, rfl⟩ rfl hD5 hf5 hF50 hG (by omega) (by omega) hDl hX hfl e3
        | exact dout_end (n1 := 0) (n2 := 0) ⟨hR, rfl⟩ ⟨hR2.out, rfl⟩ rfl hD5 hf5 hF50 hG (by omega) (by omega) hDl hX hfl (fr_dr e3 1)
        | exact dout_end (n1 := 0) (n2 := 0) ⟨hR, rfl⟩ ⟨hR2.out, rfl⟩ rfl hD5 hf5 hF50 hG (by omega) (by omega) hDl hX hfl (fr_dr e3 2)
        | exact dout_end (n1 := 0) (n2 := 0) ⟨hR, rfl⟩ ⟨hR2.out, rfl⟩ rfl hD5 hf5 hF50 hG (by omega) (by omega) hDl hX hfl (fr_dr e3 3)
end Go.Proofs.Ytcmgpllnficmdaa

namespace Go.Proofs.Ytcmgpllnficmdaa
open Go.RowKit Go.Maps

variable {w : World} {base b : Nat} {D : Dsk} {X : Nat → Prop} {M : Rd} {fa : Option Addr} {fc : Nat} {nm tn : List UInt8} {n : Int} {ab : Option Addr} {lb cb : Nat} {zs : List Int}

set_option maxHeartbeats 4000000 in
set_option maxRecDepth 100000 in
theorem do_armP (h : DkAt w base b D) (hf : Fs w X fa M.fs) (hX : ∀ k, X k → k < w.heap.size ∧ ¬ fp b D k) (hbs : Bs w ab lb zs) (hab : ∀ x, ab = some x → 0 < lb → ¬ fp b D x.block) (hm : lb ≤ 1000000) (hn : 0 ≤ n ∧ n < 9223372036854775808) :
    Calls Try.prog 13 #[pD b, rval M fa fc, .agg (opc 7 nm tn n ab lb cb)] w (DOut w base b D (fun D' k => D' = armD D n ∧ k = 0) (fun M' k => M' = { M with armed := true, left := n } ∧ k = 0)) := by
  have b3 := B3.start w M fa fc (opc 7 nm tn n ab lb cb)
  have hb0 := w3_below w M fa fc (opc 7 nm tn n ab lb cb)
  have hbs0 := hbs.later hb0
  have hfl := fp_lt h
  have hcp := copy_d ab lb cb zs _ hbs0 hm
  obtain ⟨o0, o1, o2, o3, o4⟩ := b3.ops
  go_enter Try.func13, Try.ntmps13
  go_wp2_with fail
  refine hcp.mono ?_
  rintro e w1 ⟨g, cg, rfl, hg, hkp, hb1⟩
  clear hcp
  have b3 := b3.fr (fr_b hb1 fun _ => False) (fun _ => False.elim)
  have hbw1 : Below w.heap.size w w1 := hb0.trans (hb1.mono hb0.size)
  have hbs1 := hbs.later hbw1
  have h1 := h.later hbw1
  have hf1 := hf.later hbw1
  have hgw : w.heap.size + 3 ≤ g := by simp at hg; omega
  have hglt : g < w1.heap.size := by
    obtain ⟨cur, hc, _⟩ := hkp.2.2.2.2.1
    exact (Array.getElem?_eq_some_iff.1 hc).1
  clear hb0 hbs0 hb1 hg o0 o1 o2 o3 o4
  obtain ⟨o0, o1, o2, o3, o4⟩ := b3.ops
  have hpc := arm_ok h1 n hn.1 hn.2
  go_wp2_with fail
  refine hpc.mono ?_
  rintro e w2 ⟨rfl, hD, hF⟩
  have hG : Grow w1 b D (armD D n) := fun k hk => .inl hk
  clear hpc o0 o1 o2 o3 o4
  have b3 := b3.fr hF (fun k hk => .inl (hfl k hk))
  have hkp := hkp.fr hF (fun e => by have := hfl _ e; omega)
  have hbs2 := hbs1.fr hF hab
  have hf2 := hf1.fr hF (fun k hk e => (hX k hk).2 e)
  have hF2 : Fr (fp b D) w w2 := (fr_b hbw1 _).trans hF fun _ _ e => e
  have hDl := fp_lt hD
  clear hbs1 hf1 h1 hbw1
  obtain ⟨o0, o1, o2, o3, o4⟩ := b3.ops
  obtain ⟨c0, c1, c2, c3, c4, c5, f0, f1, f2, f3, f4, f5⟩ := c6_of b3.r0
  have hge : ¬ n < 0 := by omega
  go_wp2_with fail
  go_region
  obtain ⟨M', hM'⟩ : ∃ M' : Rd, Hid (M' = { M with armed := true, left := n }) := ⟨_, hide1 rfl⟩
  have hw := (((Wt.refl b3.r0).cell 3 (.bool true)).cell 2 (.int .i64 n)).drew
  have e4 : ((rcells M fa fc).setIfInBounds 3 (.bool true)).setIfInBounds 2 (.int .i64 n) = rcells M' fa fc := by rw [hM'.out]; simp
  rw [e4] at hw
  have b4 : B3 w ((w2.setCell ⟨w.heap.size, 3, none⟩ (.bool true)).setCell ⟨w.heap.size, 2, none⟩ (.int .i64 n)).drew M' fa fc (opc 7 nm tn n ab lb cb) := ⟨hw.row, (hw.block _ (by omega)).trans b3.r1, (hw.block _ (by omega)).trans b3.r2⟩
  have hF4 := hw.fr
  clear hw e4 o0 o1 o2 o3 o4 c0 c1 c2 c3 c4 c5 f0 f1 f2 f3 f4 f5 b3
  generalize ((w2.setCell ⟨w.heap.size, 3, none⟩ (.bool true)).setCell ⟨w.heap.size, 2, none⟩ (.int .i64 n)).drew = w4 at b4 hF4 ⊢
  have hs12 : w1.heap.size ≤ w2.heap.size := hF.size
  have hs34 : w2.heap.size ≤ w4.heap.size := hF4.size
  have hlx := bs_lt hbs
  have hns : ∀ k, fp b (armD D n) k → k ≠ w.heap.size ∧ k ≠ w.heap.size + 1 + 1 ∧ k ≠ g := fun k hk => by
    rcases hG k hk with h1 | h1
    · have := hfl k h1; omega
    · omega
  have hkp4 := hkp.fr hF4 (by omega)
  have hbs4 := hbs2.fr hF4 (fun x ex hl e => by have := hlx x ex hl; omega)
  have hD4 := hD.fr hF4 (fun k hk e => (hns k hk).1 e)
  have efs : M'.fs = M.fs := by rw [hM'.out]
  have hf4 : Fs w4 (fun k => X k ∨ w2.heap.size ≤ k) fa M'.fs := by
    rw [efs]
    exact (hf2.fr hF4 (fun k hk e => by have := (hX k hk).1; omega)).mono fun k hk => .inl hk
  have hF40 : Fr (fp b D) w w4 := hF2.trans hF4 fun k hk e => by omega
  clear hkp hbs2 hD hf2 hF4 hF2 hF efs
  obtain ⟨o0, o1, o2, o3, o4⟩ := b4.ops
  go_wp2_with fail
  refine (kept_d g lb cg ab cb zs _ hkp4 hbs4).mono ?_
  rintro e w4 ⟨rfl, rfl⟩
  go_wp2_with fail
  refine (over_d (cap := cg) (hkp4.2.2.2.2.1.less (by omega)) (by omega)).mono ?_
  rintro e w5 ⟨rfl, hF5⟩
  have b5 := b4.fr hF5 (fun k e => .inr (by omega))
  have hs45 : w4.heap.size ≤ w5.heap.size := hF5.size
  have hD5 := hD4.fr hF5 (fun k hk e => (hns k hk).2.2 e)
  have hf5 := hf4.fr hF5 (fun k hk e => by
    rcases hk with hk | hk
    · have := (hX k hk).1; omega
    · omega)
  have hF50 : Fr (fp b D) w w5 := hF40.trans hF5 fun k hk e => by omega
  clear o0 o1 o2 o3 o4 hkp4 hbs4 hD4 hf4 hF40 b4 hF5
  obtain ⟨c0, c1, c2, c3, c4, c5, f0, f1, f2, f3, f4, f5⟩ := c6_of b5.r0
  obtain ⟨d0, d1, d2, d3, d4, d5, g0, g1, g2, g3, g4, g5⟩ := c6_of b5.r2
  obtain ⟨e1, e3⟩ := b5.fin
  go_wp2_with fail
  go_region_with (go_at_call 31; refine (num_0 _).mono ?_; rintro e w6 ⟨rfl, rfl⟩)
  all_goals
    clear c0 c1 c2 c3 c4 c5 f0 f1 f2 f3 f4 f5 d0 d1 d2 d3 d4 d5 g0 g1 g2 g3 g4 g5
    go_wp2
    generalize ((((((w5.setCell ⟨w.heap.size + 1 + 1, 0, none⟩ (.int .i64 M'.quota)).setCell ⟨w.heap.size + 1 + 1, 1, none⟩ (.int .i64 M'.steps)).setCell ⟨w.heap.size + 1 + 1, 2, none⟩ (.int .i64 M'.left)).setCell ⟨w.heap.size + 1 + 1, 3, none⟩ (.bool M'.armed)).setCell ⟨w.heap.size + 1 + 1, 4, none⟩ (.bool M'.gone)).setCell ⟨w.heap.size + 1 + 1, 5, none⟩ (.slice fa M'.fs.length fc)) = w6 at e1 e3 ⊢
    refine bodyPost_ret (v := .tuple #[rval M' fa fc, .int .i64 0, .int .i64 0, .bool true]) ((results_c4 (g := w.heap.size + 1 + 1) (M := M') (fa := fa) (fc := fc) Try.results13 _ ?_ ?_).trans ?_) ?_ ?_
    · kernel_rfl
    · exact e1
    · kernel_rfl
    · kernel_rfl
    · first
        | exact dout_end (D' := armD D n) (n1 := 0) (n2 := 0) ⟨rfl, rfl⟩ ⟨hM'.out, rfl⟩ rfl hD5 hf5 hF50 hG (by omega) (by omega) hDl hX hfl e3
        | exact dout_end (D' := armD D n) (n1 := 0) (n2 := 0) ⟨rfl, rfl⟩ ⟨hM'.out, rfl⟩ rfl hD5 hf5 hF50 hG (by omega) (by omega) hDl hX hfl (fr_dr e3 1)
        | exact dout_end (D' := armD D n) (n1 := 0) (n2 := 0) ⟨rfl, rfl⟩ ⟨hM'.out, rfl⟩ rfl hD5 hf5 hF50 hG (by omega) (by omega) hDl hX hfl (fr_dr e3 2)
        | exact dout_end (D' := armD D n) (n1 := 0) (n2 := 0) ⟨rfl, rfl⟩ ⟨hM'.out, rfl⟩ rfl hD5 hf5 hF50 hG (by omega) (by omega) hDl hX hfl (fr_dr e3 3)
set_option maxHeartbeats 4000000 in
set_option maxRecDepth 100000 in
theorem do_armN (h : DkAt w base b D) (hf : Fs w X fa M.fs) (hX : ∀ k, X k → k < w.heap.size ∧ ¬ fp b D k) (hbs : Bs w ab lb zs) (_hab : ∀ x, ab = some x → 0 < lb → ¬ fp b D x.block) (hm : lb ≤ 1000000) (hn : n < 0) :
    Calls Try.prog 13 #[pD b, rval M fa fc, .agg (opc 7 nm tn n ab lb cb)] w (DOut w base b D (fun D' k => D' = D ∧ k = 2) (fun M' k => M' = M ∧ k = 2)) := by
  have b3 := B3.start w M fa fc (opc 7 nm tn n ab lb cb)
  have hb0 := w3_below w M fa fc (opc 7 nm tn n ab lb cb)
  have hbs0 := hbs.later hb0
  have hfl := fp_lt h
  have hcp := copy_d ab lb cb zs _ hbs0 hm
  obtain ⟨o0, o1, o2, o3, o4⟩ := b3.ops
  go_enter Try.func13, Try.ntmps13
  go_wp2_with fail
  refine hcp.mono ?_
  rintro e w1 ⟨g, cg, rfl, hg, hkp, hb1⟩
  clear hcp
  have b3 := b3.fr (fr_b hb1 fun _ => False) (fun _ => False.elim)
  have hbw1 : Below w.heap.size w w1 := hb0.trans (hb1.mono hb0.size)
  have hbs1 := hbs.later hbw1
  have h1 := h.later hbw1
  have hf1 := hf.later hbw1
  have hgw : w.heap.size + 3 ≤ g := by simp at hg; omega
  have hglt : g < w1.heap.size := by
    obtain ⟨cur, hc, _⟩ := hkp.2.2.2.2.1
    exact (Array.getElem?_eq_some_iff.1 hc).1
  clear hb0 hbs0 hb1 hg o0 o1 o2 o3 o4
  obtain ⟨o0, o1, o2, o3, o4⟩ := b3.ops
  have hpc := arm_rng (w := w1) (b := b) n hn
  go_wp2_with fail
  refine hpc.mono ?_
  rintro e w1 ⟨rfl, rfl⟩
  clear hpc
  have hD := h1
  have hD4 := h1
  have hkp4 := hkp
  have hbs4 := hbs1
  have hF40 : Fr (fp b D) w w1 := fr_b hbw1 _
  have b4 := b3
  have hG : Grow w1 b D D := grow_self
  have hf4 : Fs w1 (fun k => X k ∨ w1.heap.size ≤ k) fa M.fs := hf1.mono fun k hk => .inl hk
  have hDl := fp_lt h1
  have hlx := bs_lt hbs
  have hns : ∀ k, fp b D k → k ≠ w.heap.size ∧ k ≠ w.heap.size + 1 + 1 ∧ k ≠ g := fun k hk => by have := hfl k hk; omega
  clear hkp hbs1 hf1 h1 hbw1 b3 o0 o1 o2 o3 o4
  obtain ⟨o0, o1, o2, o3, o4⟩ := b4.ops
  go_wp2_with fail
  refine (kept_d g lb cg ab cb zs _ hkp4 hbs4).mono ?_
  rintro e w1 ⟨rfl, rfl⟩
  go_wp2_with fail
  refine (over_d (cap := cg) (hkp4.2.2.2.2.1.less (by omega)) (by omega)).mono ?_
  rintro e w5 ⟨rfl, hF5⟩
  have b5 := b4.fr hF5 (fun k e => .inr (by omega))
  have hs45 : w1.heap.size ≤ w5.heap.size := hF5.size
  have hD5 := hD4.fr hF5 (fun k hk e => (hns k hk).2.2 e)
  have hf5 := hf4.fr hF5 (fun k hk e => by
    rcases hk with hk | hk
    · have := (hX k hk).1; omega
    · omega)
  have hF50 : Fr (fp b D) w w5 := hF40.trans hF5 fun k hk e => by omega
  clear o0 o1 o2 o3 o4 hkp4 hbs4 hD4 hf4 hF40 b4 hF5
  obtain ⟨c0, c1, c2, c3, c4, c5, f0, f1, f2, f3, f4, f5⟩ := c6_of b5.r0
  obtain ⟨d0, d1, d2, d3, d4, d5, g0, g1, g2, g3, g4, g5⟩ := c6_of b5.r2
  obtain ⟨e1, e3⟩ := b5.fin
  go_wp2_with fail
  go_region_with (go_at_call 31; refine (num_e 2 (by decide) _).mono ?_; rintro e w6 ⟨rfl, rfl⟩)
  all_goals
    clear c0 c1 c2 c3 c4 c5 f0 f1 f2 f3 f4 f5 d0 d1 d2 d3 d4 d5 g0 g1 g2 g3 g4 g5
    go_wp2
    generalize ((((((w5.setCell ⟨w.heap.size + 1 + 1, 0, none⟩ (.int .i64 M.quota)).setCell ⟨w.heap.size + 1 + 1, 1, none⟩ (.int .i64 M.steps)).setCell ⟨w.heap.size + 1 + 1, 2, none⟩ (.int .i64 M.left)).setCell ⟨w.heap.size + 1 + 1, 3, none⟩ (.bool M.armed)).setCell ⟨w.heap.size + 1 + 1, 4, none⟩ (.bool M.gone)).setCell ⟨w.heap.size + 1 + 1, 5, none⟩ (.slice fa M.fs.length fc)) = w6 at e1 e3 ⊢
    refine bodyPost_ret (v := .tuple #[rval M fa fc, .int .i64 2, .int .i64 2, .bool true]) ((results_c4 (g := w.heap.size + 1 + 1) (M := M) (fa := fa) (fc := fc) Try.results13 _ ?_ ?_).trans ?_) ?_ ?_
    · kernel_rfl
    · exact e1
    · kernel_rfl
    · kernel_rfl
    · first
        | exact dout_end (D' := D) (n1 := 2) (n2 := 2) ⟨rfl, rfl⟩ ⟨rfl, rfl⟩ rfl hD5 hf5 hF50 hG (by omega) (by omega) hDl hX hfl e3
        | exact dout_end (D' := D) (n1 := 2) (n2 := 2) ⟨rfl, rfl⟩ ⟨rfl, rfl⟩ rfl hD5 hf5 hF50 hG (by omega) (by omega) hDl hX hfl (fr_dr e3 1)
        | exact dout_end (D' := D) (n1 := 2) (n2 := 2) ⟨rfl, rfl⟩ ⟨rfl, rfl⟩ rfl hD5 hf5 hF50 hG (by omega) (by omega) hDl hX hfl (fr_dr e3 2)
        | exact dout_end (D' := D) (n1 := 2) (n2 := 2) ⟨rfl, rfl⟩ ⟨rfl, rfl⟩ rfl hD5 hf5 hF50 hG (by omega) (by omega) hDl hX hfl (fr_dr e3 3)
end Go.Proofs.Ytcmgpllnficmdaa

namespace Go.Proofs.Ytcmgpllnficmdaa
open Go.RowKit Go.Maps Go.Sort Go.Shelf

def keysL_ren : Go.Shelf.Ren := ⟨fun | 7 => 48 | 10 => 69 | n => n, fun | 23 => 60 | 26 => 9 | 3 => 80 | 28 => 85 | 0 => 0 | 27 => 84 | 33 => 91 | 4 => 4 | n => n, fun | n => n⟩
theorem keysL : Go.Proofs.SlLaysZ.n7 Try.prog keysL_ren := {
  mixed := by kernel_rfl
  f7 := ⟨Try.f48.name, by decide, Try.func48.trans (congrArg some (by kernel_rfl))⟩
  f10 := ⟨Try.f69.name, by decide, Try.func69.trans (congrArg some (by kernel_rfl))⟩
  t0 := Try.underlying0
  a0 := Try.isAgg0
  z0 := Try.sizeOf0
  v0 := Try.zeroValue0
  t4 := Try.underlying4
  a4 := Try.isAgg4
  z4 := Try.sizeOf4
  v4 := Try.zeroValue4
  t23 := Try.underlying60
  a23 := Try.isAgg60
  z23 := Try.sizeOf60
  v23 := Try.zeroValue60
  t26 := Try.underlying9
  a26 := Try.isAgg9
  z26 := Try.sizeOf9
  v26 := Try.zeroValue9
  t27 := Try.underlying84
  a27 := Try.isAgg84
  z27 := Try.sizeOf84
  v27 := Try.zeroValue84
  t28 := Try.underlying85
  a28 := Try.isAgg85
  z28 := Try.sizeOf85
  v28 := Try.zeroValue85
  t33 := Try.underlying91
  a33 := Try.isAgg91
  z33 := Try.sizeOf91
  v33 := Try.zeroValue91 }
def sortedL_ren : Go.Shelf.Ren := ⟨fun | 6 => 47 | 8 => 67 | 9 => 68 | 11 => 72 | 13 => 74 | 12 => 73 | 23 => 85 | 24 => 86 | 14 => 76 | 15 => 77 | 16 => 78 | 17 => 79 | 18 => 80 | 19 => 81 | 20 => 82 | 21 => 83 | 22 => 84 | 25 => 87 | 26 => 88 | 27 => 89 | 28 => 90 | 29 => 91 | 30 => 92 | 31 => 93 | n => n, fun | 26 => 9 | 28 => 85 | 24 => 46 | 0 => 0 | 3 => 3 | 37 => 108 | 48 => 119 | 50 => 121 | 4 => 4 | 40 => 111 | 39 => 110 | 45 => 116 | 5 => 5 | 9 => 9 | 51 => 123 | 55 => 127 | 57 => 129 | 58 => 130 | 33 => 91 | n => n, fun | n => n⟩
theorem sortedL : Go.Proofs.SlLaysZ.n6 Try.prog sortedL_ren := {
  mixed := by kernel_rfl
  f6 := ⟨Try.f47.name, by decide, Try.func47.trans (congrArg some (by kernel_rfl))⟩
  f8 := ⟨Try.f67.name, by decide, Try.func67.trans (congrArg some (by kernel_rfl))⟩
  f11 := ⟨Try.f72.name, by decide, Try.func72.trans (congrArg some (by kernel_rfl))⟩
  t0 := Try.underlying0
  a0 := Try.isAgg0
  z0 := Try.sizeOf0
  v0 := Try.zeroValue0
  t24 := Try.underlying46
  a24 := Try.isAgg46
  z24 := Try.sizeOf46
  v24 := Try.zeroValue46
  t26 := Try.underlying9
  a26 := Try.isAgg9
  z26 := Try.sizeOf9
  v26 := Try.zeroValue9
  t28 := Try.underlying85
  a28 := Try.isAgg85
  z28 := Try.sizeOf85
  v28 := Try.zeroValue85
  i26 := by kernel_rfl }
def sortL_ren : Go.Shelf.Ren := ⟨fun | 6 => 68 | 8 => 74 | 9 => 73 | 19 => 85 | 20 => 86 | 21 => 76 | 22 => 77 | 23 => 78 | 24 => 79 | 25 => 80 | 26 => 81 | 27 => 82 | 28 => 83 | 29 => 84 | 36 => 87 | 31 => 88 | 32 => 89 | 37 => 90 | 38 => 91 | 39 => 92 | 41 => 93 | n => n, fun | 27 => 46 | 29 => 9 | 3 => 3 | 32 => 108 | 26 => 46 | 0 => 0 | 44 => 119 | 46 => 121 | 4 => 4 | 36 => 111 | 35 => 110 | 41 => 116 | 5 => 5 | 9 => 9 | 53 => 123 | 57 => 127 | 63 => 129 | 64 => 130 | n => n, fun | n => n⟩
theorem sortL : Go.Proofs.SlLaysM.n6 Try.prog sortL_ren := {
  mixed := by kernel_rfl
  f6 := ⟨Try.f68.name, by decide, Try.func68.trans (congrArg some (by kernel_rfl))⟩
  f8 := Try.func74.trans (congrArg some (by kernel_rfl))
  f9 := ⟨Try.f73.name, by decide, Try.func73.trans (congrArg some (by kernel_rfl))⟩
  f19 := Try.func85.trans (congrArg some (by kernel_rfl))
  f20 := Try.func86.trans (congrArg some (by kernel_rfl))
  f21 := ⟨Try.f76.name, by decide, Try.func76.trans (congrArg some (by kernel_rfl))⟩
  f22 := ⟨Try.f77.name, by decide, Try.func77.trans (congrArg some (by kernel_rfl))⟩
  f23 := ⟨Try.f78.name, by decide, Try.func78.trans (congrArg some (by kernel_rfl))⟩
  f24 := ⟨Try.f79.name, by decide, Try.func79.trans (congrArg some (by kernel_rfl))⟩
  f25 := ⟨Try.f80.name, by decide, Try.func80.trans (congrArg some (by kernel_rfl))⟩
  f26 := ⟨Try.f81.name, by decide, Try.func81.trans (congrArg some (by kernel_rfl))⟩
  f27 := ⟨Try.f82.name, by decide, Try.func82.trans (congrArg some (by kernel_rfl))⟩
  f28 := ⟨Try.f83.name, by decide, Try.func83.trans (congrArg some (by kernel_rfl))⟩
  f29 := ⟨Try.f84.name, by decide, Try.func84.trans (congrArg some (by kernel_rfl))⟩
  f31 := Try.func88.trans (congrArg some (by kernel_rfl))
  f32 := Try.func89.trans (congrArg some (by kernel_rfl))
  f36 := ⟨Try.f87.name, by decide, Try.func87.trans (congrArg some (by kernel_rfl))⟩
  f37 := ⟨Try.f90.name, by decide, Try.func90.trans (congrArg some (by kernel_rfl))⟩
  f38 := ⟨Try.f91.name, by decide, Try.func91.trans (congrArg some (by kernel_rfl))⟩
  f39 := ⟨Try.f92.name, by decide, Try.func92.trans (congrArg some (by kernel_rfl))⟩
  f41 := ⟨Try.f93.name, by decide, Try.func93.trans (congrArg some (by kernel_rfl))⟩
  t0 := Try.underlying0
  a0 := Try.isAgg0
  z0 := Try.sizeOf0
  v0 := Try.zeroValue0
  t3 := Try.underlying3
  a3 := Try.isAgg3
  z3 := Try.sizeOf3
  v3 := Try.zeroValue3
  t4 := Try.underlying4
  a4 := Try.isAgg4
  z4 := Try.sizeOf4
  v4 := Try.zeroValue4
  t5 := Try.underlying5
  a5 := Try.isAgg5
  z5 := Try.sizeOf5
  v5 := Try.zeroValue5
  t9 := Try.underlying9
  a9 := Try.isAgg9
  z9 := Try.sizeOf9
  v9 := Try.zeroValue9
  t26 := Try.underlying46
  a26 := Try.isAgg46
  z26 := Try.sizeOf46
  v26 := Try.zeroValue46
  t27 := Try.underlying46
  a27 := Try.isAgg46
  z27 := Try.sizeOf46
  v27 := Try.zeroValue46
  t29 := Try.underlying9
  a29 := Try.isAgg9
  z29 := Try.sizeOf9
  v29 := Try.zeroValue9
  t32 := Try.underlying108
  a32 := Try.isAgg108
  z32 := Try.sizeOf108
  v32 := Try.zeroValue108
  t35 := Try.underlying110
  a35 := Try.isAgg110
  z35 := Try.sizeOf110
  v35 := Try.zeroValue110
  t36 := Try.underlying111
  a36 := Try.isAgg111
  z36 := Try.sizeOf111
  v36 := Try.zeroValue111
  t41 := Try.underlying116
  a41 := Try.isAgg116
  z41 := Try.sizeOf116
  v41 := Try.zeroValue116
  t44 := Try.underlying119
  a44 := Try.isAgg119
  z44 := Try.sizeOf119
  v44 := Try.zeroValue119
  t46 := Try.underlying121
  a46 := Try.isAgg121
  z46 := Try.sizeOf121
  v46 := Try.zeroValue121
  t53 := Try.underlying123
  a53 := Try.isAgg123
  z53 := Try.sizeOf123
  v53 := Try.zeroValue123
  t57 := Try.underlying127
  a57 := Try.isAgg127
  z57 := Try.sizeOf127
  v57 := Try.zeroValue127
  t63 := Try.underlying129
  a63 := Try.isAgg129
  z63 := Try.sizeOf129
  v63 := Try.zeroValue129
  t64 := Try.underlying130
  a64 := Try.isAgg130
  z64 := Try.sizeOf130
  v64 := Try.zeroValue130 }

theorem sortsL (m : Nat) : AnyZ.SortsIn Try.prog sortedL_ren Fence.wide m :=
  ⟨fun blk off cap ss W hH hblk hsz => callsIn_wide.2 (AnyM.slices_Sort_string sortL blk off cap ss W hH hblk hsz),
   fun p cap W => callsIn_wide.2 (AnyM.slices_Sort_string_none sortL p cap W)⟩
theorem keys_l (mb : Option Nat) (W : World) : CallsIn Fence.wide 5 Try.prog 48 #[.map mb] W fun e w' => e = .returned (.func (.func 69) #[] #[.pointer (some ⟨W.heap.size, 0, none⟩)]) ∧ w' = W.alloc (.cells #[.map mb] 60) :=
  AnyZ.keys_in keysL Fence.wide 5 trivial rfl mb W
set_option maxHeartbeats 1000000 in
theorem sorted_l (b nn : Nat) (D0 : DataW Unit) (R : Value → Option (DataW Unit × List MemPlace)) (w : World) (hown : w.ownsMap Try.prog 9 R b nn D0) (hmax : Maps.size D0 ≤ maxLen) (hbytes : Maps.size D0 * 16 ≤ 140737488355328) :
    CallsIn Fence.wide 5 Try.prog 47 #[.func (.func 69) #[] #[.pointer (some ⟨w.heap.size, 0, none⟩)]] (w.alloc (.cells #[.map (some b)] 60)) fun e w' => ∃ (v : Value) (ss : List (List UInt8)), e = .returned v ∧ ss.Perm (strKeys D0) ∧
      w'.ownsRow (w.alloc (.cells #[.map (some b)] 60)).heap.size 9 1 v ss.length ((ss.mergeSort (fun x y => decide (x ≤ y))).map encStr) ∧ (v = .slice none 0 0 ↔ ss = []) ∧ Below (w.alloc (.cells #[.map (some b)] 60)).heap.size (w.alloc (.cells #[.map (some b)] 60)) w' := by
  have hbl := hown.lt
  have hseq : SeqGives Fence.wide 2 Try.prog 69 #[.pointer (some ⟨w.heap.size, 0, none⟩)] encStr (fun ss => ss.Perm (strKeys D0)) (Maps.size D0) (w.alloc (.cells #[.map (some b)] 60)) :=
    AnyZ.keys_gives (ρ := keysL_ren) { keysL with } Fence.wide _ trivial rfl (by omega) w.heap.size b nn D0 _ (by simp) (by simp) (by
      obtain ⟨es, clock, hb, Ft, hs, hD⟩ := hown
      exact ⟨es, clock, (Below.heap_alloc _ _ b hbl).trans hb, Ft, hs, hD⟩)
  exact AnyZ.sorted_in sortedL Fence.wide 5 trivial trivial trivial trivial rfl (by omega) (sortsL _) (enters_of Try.func68 (by kernel_rfl) rfl) 69 #[.pointer (some ⟨w.heap.size, 0, none⟩)] trivial (enters_of Try.func69 (by kernel_rfl) rfl) _ _ hmax hbytes _ hseq
end Go.Proofs.Ytcmgpllnficmdaa

namespace Go.Proofs.Ytcmgpllnficmdaa
open Go.RowKit Go.Maps

theorem less_before : ∀ (a b : List UInt8), Op.bytesLess a b = bytesBefore a b
  | [], [] => rfl
  | [], _ :: _ => rfl
  | _ :: _, [] => rfl
  | x :: a, y :: b => by
    simp only [Op.bytesLess, bytesBefore, less_before a b]
theorem lt_before (a b : List UInt8) : decide (a < b) = bytesBefore a b := by rw [← less_before, bytesLess_eq]
theorem before_ne {a b : List UInt8} (h : bytesBefore a b = true) : a ≠ b := fun e => by
  rw [e, WideAt.bytes_irrefl] at h; cases h
theorem before_asymm {a b : List UInt8} (h : bytesBefore a b = true) : bytesBefore b a = false := by
  cases h2 : bytesBefore b a with
  | false => rfl
  | true =>
    have := WideShapes.bytes_trans _ _ _ h h2
    rw [WideAt.bytes_irrefl] at this; cases this

/-- A file of the program's as the document tells it; all files of a disk. -/
def fileR (ct : Nat → Fc) (p : Fn) : Rf := ⟨p.1, (ct p.2).dat, (ct p.2).sure⟩
def viewF (fs : List Fn) (ct : Nat → Fc) : List Rf := fs.map (fileR ct)
/-- The names rise. -/
def Rise (fs : List Fn) : Prop := fs.Pairwise fun p q => bytesBefore p.1 q.1 = true
theorem Rise.del {fs : List Fn} (h : Rise fs) (nm : List UInt8) : Rise (delF nm fs) := List.Pairwise.filter _ h
theorem del_mem {nm : List UInt8} {fs : List Fn} {p : Fn} (h : p ∈ delF nm fs) : p ∈ fs ∧ p.1 ≠ nm := by
  unfold delF at h
  rw [List.mem_filter] at h
  exact ⟨h.1, by simpa using h.2⟩
theorem ins_rise {x : Fn} : ∀ {l : List Fn}, Rise l → (∀ p ∈ l, p.1 ≠ x.1) → Rise (insF x l)
  | [], _, _ => List.pairwise_singleton _ _
  | y :: r, h, hn => by
    obtain ⟨h1, h2⟩ := List.pairwise_cons.1 h
    unfold insF
    have e : (Lit.string x.1).before (Lit.string y.1) = bytesBefore x.1 y.1 := rfl
    rw [e]
    cases hb : bytesBefore x.1 y.1 with
    | true =>
      rw [if_pos rfl]
      refine List.pairwise_cons.2 ⟨fun p hp => ?_, h⟩
      rcases List.mem_cons.1 hp with rfl | hp
      · exact hb
      · exact WideShapes.bytes_trans _ _ _ hb (h1 p hp)
    | false =>
      rw [if_neg (by simp)]
      refine List.pairwise_cons.2 ⟨fun p hp => ?_, ins_rise h2 fun p hp => hn p (by simp [hp])⟩
      rcases List.mem_cons.1 ((insF_perm x r).mem_iff.1 hp) with rfl | hp
      · rcases WideAt.bytes_total _ _ (hn y (by simp)) with h3 | h3
        · exact h3
        · rw [hb] at h3; cases h3
      · exact h1 p hp
theorem Rise.put {fs : List Fn} (h : Rise fs) (nm : List UInt8) (q : Nat) : Rise (putF nm q fs) :=
  ins_rise (h.del nm) fun _ hp => (del_mem hp).2

/-- put, said plainly. -/
def insR (r : Rf) : List Rf → List Rf
  | [] => [r]
  | x :: t => bif bytesBefore x.nm r.nm then x :: insR r t else r :: delR r.nm (x :: t)
theorem putP_done (r : Rf) : ∀ (R acc : List Rf), R.foldl (putSt r) (acc, true) = (acc ++ delR r.nm R, true)
  | [], acc => by simp [delR]
  | x :: t, acc => by
    rw [List.foldl_cons]
    have e : putSt r (acc, true) x = (bif x.nm == r.nm then acc else acc ++ [x], true) := by simp [putSt]
    rw [e, putP_done r t]
    unfold delR
    rw [List.filter_cons]
    cases x.nm == r.nm <;> simp
theorem putP_on (r : Rf) : ∀ (R acc : List Rf), (bif (R.foldl (putSt r) (acc, false)).2 then (R.foldl (putSt r) (acc, false)).1 else (R.foldl (putSt r) (acc, false)).1 ++ [r]) = acc ++ insR r R
  | [], acc => by simp [insR]
  | x :: t, acc => by
    rw [List.foldl_cons]
    unfold insR
    cases hb : bytesBefore x.nm r.nm with
    | true =>
      have hne : (x.nm == r.nm) = false := by simpa using before_ne hb
      have e : putSt r (acc, false) x = (acc ++ [x], false) := by simp [putSt, less_before, hb, hne]
      rw [e, putP_on r t]
      simp
    | false =>
      have e : putSt r (acc, false) x = (acc ++ [r] ++ (bif x.nm == r.nm then [] else [x]), true) := by
        cases hx : x.nm == r.nm <;> simp [putSt, less_before, hb, hx]
      rw [e, putP_done]
      unfold delR
      rw [List.filter_cons]
      cases x.nm == r.nm <;> simp
theorem putR_ins (r : Rf) (R : List Rf) : putR r R = insR r R := by
  have h := putP_on r R []
  simpa [putR, putP] using h

theorem view_del (nm : List UInt8) (fs : List Fn) (ct : Nat → Fc) : viewF (delF nm fs) ct = delR nm (viewF fs ct) := by
  unfold viewF delF delR
  rw [List.filter_map]; rfl
theorem view_cong {fs : List Fn} {ct ct' : Nat → Fc} (h : ∀ p ∈ fs, ct' p.2 = ct p.2) : viewF fs ct' = viewF fs ct :=
  List.map_congr_left fun p hp => by simp [fileR, h p hp]
theorem ins_all {x : Fn} : ∀ {l : List Fn}, (∀ p ∈ l, bytesBefore x.1 p.1 = true) → insF x l = x :: l
  | [], _ => rfl
  | y :: r, h => by
    unfold insF
    exact if_pos (h y (by simp))
theorem del_all {nm : List UInt8} {l : List Fn} (h : ∀ p ∈ l, p.1 ≠ nm) : delF nm l = l := by
  unfold delF
  exact List.filter_eq_self.2 fun p hp => by simpa using h p hp
theorem view_ins {nm : List UInt8} {q : Nat} {ct : Nat → Fc} : ∀ {fs : List Fn}, Rise fs → viewF (putF nm q fs) ct = insR (fileR ct (nm, q)) (viewF fs ct)
  | [], _ => rfl
  | y :: t, h => by
    obtain ⟨h1, h2⟩ := List.pairwise_cons.1 h
    have ih := view_ins (nm := nm) (q := q) (ct := ct) h2
    show viewF (putF nm q (y :: t)) ct = bif bytesBefore y.1 nm then fileR ct y :: insR (fileR ct (nm, q)) (viewF t ct) else fileR ct (nm, q) :: delR nm (viewF (y :: t) ct)
    rw [← view_del, ← ih]
    unfold putF
    by_cases e : y.1 = nm
    · subst e
      have hd : delF y.1 (y :: t) = t := by
        unfold delF
        rw [List.filter_cons]
        simp only [BEq.rfl, Bool.not_true, if_false, Bool.false_eq_true]
        exact del_all fun p hp => (before_ne (h1 p hp)).symm
      rw [hd, WideAt.bytes_irrefl, ins_all (x := (y.1, q)) h1]
      rfl
    · have hd : delF nm (y :: t) = y :: delF nm t := by
        unfold delF
        rw [List.filter_cons]
        simp [e]
      rw [hd]
      have e2 : insF (nm, q) (y :: delF nm t) = bif bytesBefore nm y.1 then (nm, q) :: y :: delF nm t else y :: insF (nm, q) (delF nm t) := by
        show (if (Lit.string nm).before (Lit.string y.1) then _ else _) = _
        show (if bytesBefore nm y.1 = true then _ else _) = _
        cases bytesBefore nm y.1 <;> rfl
      rw [e2]
      rcases WideAt.bytes_total _ _ e with h3 | h3
      · rw [before_asymm h3, h3]; rfl
      · rw [before_asymm h3, h3]; rfl
theorem insR_cong {r : Rf} {f g : Fn → Rf} (hn : ∀ p, (f p).nm = p.1 ∧ (g p).nm = p.1) : ∀ {fs : List Fn}, (∀ p ∈ fs, p.1 ≠ r.nm → f p = g p) → insR r (fs.map f) = insR r (fs.map g)
  | [], _ => rfl
  | y :: t, h => by
    have ih := insR_cong hn (fs := t) fun p hp => h p (by simp [hp])
    have hd : ∀ l : List Fn, (∀ p ∈ l, p.1 ≠ r.nm → f p = g p) → delR r.nm (l.map f) = delR r.nm (l.map g) := by
      intro l
      induction l with
      | nil => intro _; rfl
      | cons z s ihs =>
        intro hz
        unfold delR at *
        rw [List.map_cons, List.map_cons, List.filter_cons, List.filter_cons, (hn z).1, (hn z).2, ihs fun p hp => hz p (by simp [hp])]
        by_cases e : z.1 = r.nm
        · simp [e]
        · rw [hz z (by simp) e]
    rw [List.map_cons, List.map_cons]
    unfold insR
    rw [(hn y).1, (hn y).2, ih, ← List.map_cons, ← List.map_cons, hd _ h]
    cases hb : bytesBefore y.1 r.nm with
    | true => rw [h y (by simp) (before_ne hb)]
    | false => rfl
/-- A file more, or another one of that name. -/
theorem view_put {nm : List UInt8} {q : Nat} {ct : Nat → Fc} {c : Fc} {fs : List Fn} (h : Rise fs) (hq : ∀ p ∈ fs, p.1 ≠ nm → p.2 ≠ q) : viewF (putF nm q fs) (updC ct q c) = putR ⟨nm, c.dat, c.sure⟩ (viewF fs ct) := by
  rw [view_ins h, putR_ins]
  have e : fileR (updC ct q c) (nm, q) = ⟨nm, c.dat, c.sure⟩ := by simp [fileR, updC]
  rw [e]
  exact insR_cong (fun p => ⟨rfl, rfl⟩) fun p hp hn => by simp [fileR, updC, hq p hp hn]
theorem put_same : ∀ {fs : List Fn}, Rise fs → ∀ {p : Fn}, p ∈ fs → putF p.1 p.2 fs = fs
  | y :: t, h, p, hp => by
    obtain ⟨h1, h2⟩ := List.pairwise_cons.1 h
    unfold putF
    rcases List.mem_cons.1 hp with rfl | hp
    · have hd : delF p.1 (p :: t) = t := by
        unfold delF
        rw [List.filter_cons]
        simp only [BEq.rfl, Bool.not_true, if_false, Bool.false_eq_true]
        exact del_all fun x hx => (before_ne (h1 x hx)).symm
      rw [hd, ins_all h1]
    · have hb := h1 p hp
      have hd : delF p.1 (y :: t) = y :: delF p.1 t := by
        unfold delF
        rw [List.filter_cons]
        simp [before_ne hb]
      rw [hd]
      have e2 : insF (p.1, p.2) (y :: delF p.1 t) = y :: insF (p.1, p.2) (delF p.1 t) := by
        show (if bytesBefore p.1 y.1 = true then _ else _) = _
        rw [before_asymm hb]; rfl
      rw [e2]
      exact congrArg _ (put_same h2 hp)
/-- One file is turned. -/
theorem view_upd {ct : Nat → Fc} {c : Fc} {fs : List Fn} (h : Rise fs) {p : Fn} (hp : p ∈ fs) (inj : ∀ x ∈ fs, x.2 = p.2 → x = p) : viewF fs (updC ct p.2 c) = putR ⟨p.1, c.dat, c.sure⟩ (viewF fs ct) := by
  have e := view_put (nm := p.1) (q := p.2) (ct := ct) (c := c) h fun x hx hn e => hn (by rw [inj x hx e])
  rwa [put_same h hp] at e

theorem at_view_none {nm : List UInt8} {ct : Nat → Fc} : ∀ {fs : List Fn} (i : Nat), findF nm fs = none → atR nm (viewF fs ct) i = -1 := fun {fs} i h => by
  refine atR_none _ _ fun r hr => ?_
  unfold viewF at hr
  obtain ⟨p, hp, rfl⟩ := List.mem_map.1 hr
  unfold findF at h
  rw [List.find?_eq_none] at h
  simpa [fileR] using h p hp
theorem at_view_some {nm : List UInt8} {ct : Nat → Fc} {p : Fn} : ∀ {fs : List Fn} (i : Nat), findF nm fs = some p → ∃ (k : Nat) (h : k < (viewF fs ct).length), atR nm (viewF fs ct) i = ((i + k : Nat) : Int) ∧ (viewF fs ct)[k] = fileR ct p
  | [], i, h => by cases h
  | y :: t, i, h => by
    unfold findF at h
    rw [List.find?_cons] at h
    show ∃ (k : Nat) (h : k < (fileR ct y :: viewF t ct).length), atR nm (fileR ct y :: viewF t ct) i = _ ∧ (fileR ct y :: viewF t ct)[k] = _
    by_cases e : y.1 = nm
    · have e2 : (y.1 == nm) = true := by simpa using e
      rw [e2] at h
      cases h
      refine ⟨0, by simp, ?_, rfl⟩
      unfold atR
      rw [if_pos (by exact e)]; rfl
    · have e2 : (y.1 == nm) = false := by simpa using e
      rw [e2] at h
      obtain ⟨k, hk, h1, h2⟩ := at_view_some (fs := t) (ct := ct) (i + 1) h
      refine ⟨k + 1, by simpa using hk, ?_, by simpa using h2⟩
      unfold atR
      rw [if_neg (by exact e), h1]
      omega
theorem used_view (fs : List Fn) (ct : Nat → Fc) : usedR (viewF fs ct) = lens fs ct := by
  unfold usedR viewF lens
  rw [List.map_map]; rfl
end Go.Proofs.Ytcmgpllnficmdaa

namespace Go.Proofs.Ytcmgpllnficmdaa
open Go.RowKit Go.Maps Go.Sort

variable {w w' : World} {base b : Nat} {D : Dsk}

theorem DkAt.rise (h : DkAt w base b D) : Rise D.fs := by
  obtain ⟨es, clock, _, F, _, e⟩ := h.map
  have hs := Maps.sorted_sorted law9.one _ (Maps.fit_keys F) (Maps.fit_apart law9 F)
  unfold dm at e
  injection e with e
  rw [← e, List.pairwise_map] at hs
  exact hs
theorem le_iff (a b : List UInt8) : leB a b = !bytesBefore b a := by
  show decide (a ≤ b) = _
  rw [← lt_before]
  have : (a ≤ b) = ¬ (b < a) := rfl
  simp only [this, decide_not]
theorem keys_dm (fs : List Fn) : strKeys (dm fs) = fs.map (·.1) := by
  unfold dm strKeys
  simp only [List.map_map]
  rfl
theorem sort_rise {fs : List Fn} (h : Rise fs) {ss : List (List UInt8)} (hp : ss.Perm (strKeys (dm fs))) : ss.mergeSort leB = fs.map (·.1) := by
  rw [mergeSort_of_perm hp, keys_dm]
  refine List.mergeSort_of_pairwise ?_
  rw [List.pairwise_map]
  exact h.imp fun {p q} hb => by rw [le_iff, before_asymm hb]; rfl
theorem size_dm (fs : List Fn) : Maps.size (dm fs) = fs.length := by simp [Maps.size, dm]

/-- A row of texts of the call's own. -/
def TxAt (w : World) (base : Nat) (v : Value) (l : List (List UInt8)) : Prop := w.ownsRow base 9 1 v l.length (l.map fun x => Value.string (bstr x))
set_option maxHeartbeats 1000000 in
theorem names_d (h : DkAt w base b D) (hlen : D.fs.length ≤ 1000000) : Calls Try.prog 20 #[pD b] w fun e w' => ∃ v, e = .returned v ∧ TxAt w' w.heap.size v (D.fs.map (·.1)) ∧ Below w.heap.size w w' := by
  have c6 : w.cell? ⟨b, 6, none⟩ = some (.map (some D.bm)) := cell_row h.row 6
  have hr := h.rise
  have hsz := size_dm D.fs
  have cS := sorted_l D.bm D.fs.length (dm D.fs) fElem w h.map (by rw [hsz]; unfold maxLen; omega) (by rw [hsz]; omega)
  clear h hsz
  refine (callsIn_wide (n := 6)).1 ?_
  have hfK : Fence.wide.fn 48 := trivial
  have hfS : Fence.wide.fn 47 := trivial
  refine callsIn_of_wp Try.func20 rfl trivial ?_ rfl
  simp only [Try.ntmps20, List.size_toArray, List.length_cons, List.length_nil, Nat.reduceAdd, Nat.reduceSub, Array.replicate_succ, Array.replicate_zero, List.push_toArray, List.append_toArray, List.nil_append, List.cons_append]
  gi_wp2_with (first
    | (gi_at_call 48; refine (keys_l _ _).mono ?_; rintro e w' ⟨rfl, rfl⟩)
    | (gi_at_call 47; refine cS.mono ?_; rintro e w' ⟨v, ss, rfl, hS, hrow, hnil, hb⟩))
  go_ret
  have hl : ss.length = (D.fs.map (·.1)).length := by rw [hS.length_eq, keys_dm]
  refine ⟨v, rfl, ?_, ((Below.refl _ w).alloc (Nat.le_refl _) _).trans (hb.mono (by simp))⟩
  have hrow := ownsRow_base_a hrow (base' := w.heap.size) (by simp)
  unfold TxAt
  rw [← hl, ← sort_rise hr hS]
  exact hrow
end Go.Proofs.Ytcmgpllnficmdaa

namespace Go.Proofs.Ytcmgpllnficmdaa
open Go.RowKit Go.Maps

variable {w w' : World} {base b : Nat} {D D' : Dsk} {M M' : Rd} {nm tn : List UInt8} {n n' : Int}

/-- A disk of the program's stands as one of the document's. -/
structure Eqv (D : Dsk) (M : Rd) : Prop where
  fs : M.fs = viewF D.fs D.ct
  q : M.quota = D.quota
  s : M.steps = D.steps
  a : M.armed = D.armed
  l : D.armed = true → M.left = D.left
  g : M.gone = D.gone

theorem Eqv.can (h : Eqv D M) (hl : D.armed = true → 0 ≤ D.left) : canM M = true ↔ canD D := by
  unfold canM canD
  rw [h.g, h.a]
  cases hg : D.gone <;> cases ha : D.armed
  · simp
  · have := hl ha
    have := h.l ha
    simp only [Bool.not_false, Bool.true_and, Bool.not_eq_true', beq_eq_false_iff_ne, true_and, true_implies]
    omega
  · simp
  · simp
theorem eq_step {no noM : Int} {ok : Dsk → Prop} {okM : Rd → Prop} (h : Eqv D M) (hl : D.armed = true → 0 ≤ D.left) (hp : Oo D no ok D' n) (hm : Om M noM okM M' n') (he : noM = no) (hok : canD D → ok D' → okM M' → Eqv D' M') : n' = n ∧ Eqv D' M' := by
  subst he
  rcases hp with ⟨p1, rfl, rfl⟩ | ⟨p1, p2, rfl, rfl⟩ | ⟨p1, p2, p3, rfl⟩
  · rcases hm with ⟨_, rfl, rfl⟩ | ⟨m1, _⟩ | ⟨m1, _⟩
    · exact ⟨rfl, h⟩
    · exact absurd m1 p1
    · exact absurd m1 p1
  · rcases hm with ⟨m1, _⟩ | ⟨_, _, rfl, rfl⟩ | ⟨_, m2, _⟩
    · exact absurd p1 m1
    · exact ⟨rfl, h.fs, h.q, h.s, h.a, h.l, rfl⟩
    · obtain ⟨c1, c2⟩ := (h.can hl).1 m2
      rcases p2 with p2 | ⟨p2, p3⟩
      · rw [c1] at p2; cases p2
      · have := c2 p2; omega
  · rcases hm with ⟨m1, _⟩ | ⟨_, m2, _⟩ | ⟨_, _, m3, rfl⟩
    · exact absurd p1 m1
    · rw [(h.can hl).2 p2] at m2; cases m2
    · exact ⟨rfl, hok p2 p3 m3⟩
/-- Behind a step, with these files. -/
theorem Eqv.with (h : Eqv D M) {D1 : Dsk} {fs : List Rf} (e1 : D1.quota = D.quota) (e2 : D1.steps = D.steps + 1) (e3 : D1.armed = D.armed) (e4 : D1.left = if D.armed then D.left - 1 else D.left) (e5 : D1.gone = D.gone) (hf : fs = viewF D1.fs D1.ct) : Eqv D1 { stpM M with fs := fs } := by
  refine ⟨hf, by rw [e1]; exact h.q, by rw [e2, ← h.s]; rfl, by rw [e3]; exact h.a, fun ha => ?_, by rw [e5]; exact h.g⟩
  rw [e3] at ha
  have h1 := h.l ha
  have h2 := h.a
  rw [e4]
  simp only [stpM, h2, ha, if_true, h1]
theorem eq_at (h : Eqv D M) : (findF nm D.fs = none → atR nm M.fs 0 = -1) ∧ ∀ p, findF nm D.fs = some p → ∃ (k : Nat) (hk : k < M.fs.length), atR nm M.fs 0 = (k : Int) ∧ M.fs[k] = fileR D.ct p := by
  refine ⟨fun hn => by rw [h.fs]; exact at_view_none 0 hn, fun p hp => ?_⟩
  obtain ⟨k, hk, h1, h2⟩ := at_view_some (ct := D.ct) 0 hp
  have hfs := h.fs
  cases M
  simp only at hfs
  subst hfs
  exact ⟨k, hk, by rw [h1, Nat.zero_add], h2⟩
theorem eq_used (h : Eqv D M) (hd : DkAt w base b D) : usedR M.fs = D.used := by rw [h.fs, used_view, hd.usd]
theorem eq_noApp (h : Eqv D M) (hd : DkAt w base b D) (len : Nat) : noAppM M nm len = noApp D nm len := by
  unfold noAppM noApp
  rw [eq_used h hd, h.q]
theorem eq_noNm (h : Eqv D M) : noNmM M nm = noNm D nm := by
  unfold noNmM noNm
  cases hf : findF nm D.fs with
  | none => rw [(eq_at h).1 hf]; rfl
  | some p =>
    obtain ⟨k, hk, h1, _⟩ := (eq_at h).2 p hf
    rw [h1, if_neg (by omega)]; rfl
theorem eq_noRen (h : Eqv D M) : noRenM M nm tn = noRen D nm tn := by
  unfold noRenM noRen
  cases hf : findF nm D.fs with
  | none => rw [(eq_at h).1 hf]; rfl
  | some p =>
    obtain ⟨k, hk, h1, _⟩ := (eq_at h).2 p hf
    rw [h1, if_neg (by omega)]; rfl
theorem eq_noCut (h : Eqv D M) (x : Int) : noCutM M nm x = noCut D nm x := by
  unfold noCut
  cases hf : findF nm D.fs with
  | none =>
    rw [noCutM, dif_neg (by rw [(eq_at h).1 hf]; omega)]
  | some p =>
    obtain ⟨k, hk, h1, h2⟩ := (eq_at h).2 p hf
    rw [no_cut h1 hk, h2]; rfl

theorem k_eq {k k' : Nat} {x : Int} (h : x = (k : Int)) (h' : x = (k' : Int)) : k = k' := by omega
theorem eq_app (h : Eqv D M) (hd : DkAt w base b D) (hd' : DkAt w' base b D') {zs : List Int} (hp : AppR D D' nm zs) (hm : okAppM M nm zs M') : Eqv D' M' := by
  rcases hp with ⟨p, v, hf, rfl⟩ | ⟨hf, q, v, rfl⟩
  · obtain ⟨k, hk, h1, h2⟩ := (eq_at h).2 p hf
    rcases hm with ⟨k', hk', h3, rfl⟩ | ⟨h3, _⟩
    · obtain rfl := k_eq h3 h1
      refine h.with rfl rfl rfl rfl rfl ?_
      rw [h2, h.fs]
      exact (view_upd (ct := D.ct) (c := ⟨(D.ct p.2).dat ++ zs, (D.ct p.2).sure, v⟩) hd.rise (find_mem hf).1 fun x hx e => hd.inj x hx p (find_mem hf).1 e).symm
    · omega
  · have h1 := (eq_at h).1 hf
    rcases hm with ⟨k', hk', h3, rfl⟩ | ⟨h3, rfl⟩
    · omega
    · refine h.with rfl rfl rfl rfl rfl ?_
      rw [h.fs]
      refine (view_put (nm := nm) (q := q) (ct := D.ct) (c := ⟨zs, 0, v⟩) hd.rise fun x hx hn e => hn ?_).symm
      have hi := hd'.inj x ((insF_perm _ _).mem_iff.2 (List.mem_cons_of_mem _ (by unfold delF; rw [List.mem_filter]; exact ⟨hx, by simpa using hn⟩))) (nm, q) ((insF_perm _ _).mem_iff.2 List.mem_cons_self) e
      rw [hi]
theorem eq_sync (h : Eqv D M) (hd : DkAt w base b D) (hp : ∃ p, findF nm D.fs = some p ∧ D' = syncd D p.2) (hm : ∃ (k : Nat) (h : k < M.fs.length), atR nm M.fs 0 = (k : Int) ∧ M' = { stpM M with fs := putR (syR M.fs[k]) M.fs }) : Eqv D' M' := by
  obtain ⟨p, hf, rfl⟩ := hp
  obtain ⟨k, hk, h1, h2⟩ := (eq_at h).2 p hf
  obtain ⟨k', hk', h3, rfl⟩ := hm
  obtain rfl := k_eq h3 h1
  refine h.with rfl rfl rfl rfl rfl ?_
  rw [h2, h.fs]
  exact (view_upd (ct := D.ct) (c := { D.ct p.2 with sure := (D.ct p.2).dat.length }) hd.rise (find_mem hf).1 fun x hx e => hd.inj x hx p (find_mem hf).1 e).symm
theorem eq_cut (h : Eqv D M) (hd : DkAt w base b D) {x : Int} (hp : ∃ p v, findF nm D.fs = some p ∧ D' = cutD (stepd D) p.2 x.toNat v) (hm : ∃ (k : Nat) (h : k < M.fs.length), atR nm M.fs 0 = (k : Int) ∧ M' = { stpM M with fs := putR (cutR M.fs[k] x.toNat) M.fs }) : Eqv D' M' := by
  obtain ⟨p, v, hf, rfl⟩ := hp
  obtain ⟨k, hk, h1, h2⟩ := (eq_at h).2 p hf
  obtain ⟨k', hk', h3, rfl⟩ := hm
  obtain rfl := k_eq h3 h1
  refine h.with rfl rfl rfl rfl rfl ?_
  rw [h2, h.fs]
  exact (view_upd (ct := D.ct) (c := cutC (D.ct p.2) x.toNat v) hd.rise (find_mem hf).1 fun x hx e => hd.inj x hx p (find_mem hf).1 e).symm
theorem eq_drop (h : Eqv D M) (hp : ∃ p, findF nm D.fs = some p ∧ D' = dropD D nm p.2) (hm : M' = { stpM M with fs := delR nm M.fs }) : Eqv D' M' := by
  obtain ⟨p, hf, rfl⟩ := hp
  subst hm
  refine h.with rfl rfl rfl rfl rfl ?_
  rw [h.fs]
  exact (view_del nm D.fs D.ct).symm
theorem eq_ren (h : Eqv D M) (hd : DkAt w base b D) (hp : ∃ p, findF nm D.fs = some p ∧ D' = renD (stepd D) nm tn p.2) (hm : ∃ (k : Nat) (h : k < M.fs.length), atR nm M.fs 0 = (k : Int) ∧ M' = { stpM M with fs := putR (renR M.fs[k] tn) (delR nm M.fs) }) : Eqv D' M' := by
  obtain ⟨p, hf, rfl⟩ := hp
  obtain ⟨k, hk, h1, h2⟩ := (eq_at h).2 p hf
  obtain ⟨k', hk', h3, rfl⟩ := hm
  obtain rfl := k_eq h3 h1
  refine h.with rfl rfl rfl rfl rfl ?_
  rw [h2, h.fs, ← view_del]
  refine (view_put (nm := tn) (q := p.2) (ct := D.ct) (c := syC (D.ct p.2)) (hd.rise.del nm) fun x hx _ e => (del_mem hx).2 ?_).symm
  rw [hd.inj x (del_mem hx).1 p (find_mem hf).1 e, (find_mem hf).2]
theorem eq_read (h : Eqv D M) {ys ys' : List Int} (hp : RdO D nm ys n) (hm : RdM M nm ys' n') : n' = n ∧ ys' = ys := by
  have hg := h.g
  rcases hp with ⟨p1, rfl, rfl⟩ | ⟨p1, p2, rfl, rfl⟩ | ⟨p1, p, p2, rfl, rfl⟩
  · rcases hm with ⟨_, rfl, rfl⟩ | ⟨m1, _⟩ | ⟨m1, _⟩
    · exact ⟨rfl, rfl⟩
    · rw [hg, p1] at m1; cases m1
    · rw [hg, p1] at m1; cases m1
  · have h1 := (eq_at h).1 p2
    rcases hm with ⟨m1, _⟩ | ⟨_, _, rfl, rfl⟩ | ⟨_, k, hk, m2, _⟩
    · rw [hg, p1] at m1; cases m1
    · exact ⟨rfl, rfl⟩
    · omega
  · obtain ⟨k, hk, h1, h2⟩ := (eq_at h).2 p p2
    rcases hm with ⟨m1, _⟩ | ⟨_, m2, _⟩ | ⟨_, k', hk', m2, rfl, rfl⟩
    · rw [hg, p1] at m1; cases m1
    · omega
    · obtain rfl := k_eq m2 h1
      exact ⟨rfl, by rw [h2]; rfl⟩
theorem eq_arm (h : Eqv D M) (x : Int) : Eqv (armD D x) { M with armed := true, left := x } := ⟨h.fs, h.q, h.s, rfl, fun _ => rfl, h.g⟩
theorem kp_keep {c : Fc} {k : Int} (_h0 : 0 ≤ k) (_hs : c.sure ≤ c.dat.length) (nm : List UInt8) : kpR ⟨nm, c.dat, c.sure⟩ k = keepN c k := by
  unfold kpR keepN
  simp only
  split <;> split <;> omega
theorem eq_crash (h : Eqv D M) (hd : DkAt w base b D) {keep : Int} {D1 : Dsk} (hc : CrR D D1 keep) : Eqv (litD D1) { M with fs := M.fs.map (crR · (mx keep)), gone := false, armed := false } := by
  obtain ⟨e, hc⟩ := hc
  have ef : D1.fs = D.fs := by rw [e]
  refine ⟨?_, ?_, ?_, rfl, (fun hx => by cases hx), rfl⟩
  · show M.fs.map (crR · (mx keep)) = viewF D1.fs D1.ct
    rw [h.fs, ef]
    unfold viewF
    rw [List.map_map]
    refine List.map_congr_left fun p hp => ?_
    have h1 := hc p hp
    have hk := kp_keep (nm := p.1) (mx_nn keep) (hd.fil p hp).sur
    show crR (fileR D.ct p) (mx keep) = fileR D1.ct p
    unfold crR fileR
    simp only
    rw [hk, h1.1, h1.2]
  · show M.quota = D1.quota
    rw [e]; exact h.q
  · show M.steps = D1.steps
    rw [e]; exact h.s
theorem Eqv.ok (h : Eqv D M) (hd : DkAt w base b D) (hn : D.fs.length ≤ 400000) (hs : D.steps < 1000000000) : MOk M := by
  have hu := eq_used h hd
  have hnn := usedR_nn M.fs
  have hq := hd.qt
  refine ⟨by rw [h.fs]; simpa [viewF] using hn, by rw [h.s]; exact ⟨hd.st, hs⟩, fun ha => ?_, by rw [h.q]; omega, by omega, fun r hr => ?_⟩
  · rw [h.a] at ha
    rw [h.l ha]
    exact hd.lf ha
  · rw [h.fs] at hr
    obtain ⟨p, hp, rfl⟩ := List.mem_map.1 hr
    have := len_le hd hp
    show (D.ct p.2).dat.length ≤ 100000000
    omega
end Go.Proofs.Ytcmgpllnficmdaa

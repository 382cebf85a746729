/- F14, L1, L2, L3, L4, L5, L6, L7, L8, L9, L10, L11, L12: laid together. -/
import Derived.WalkKit
import Derived.ProofKit
import Derived.OpenShut
import Derived.ShutString
import Derived.ChangeOld
import Derived.Below
import Derived.Deep.Slices
import Derived.Test.YtcmgpllnficmdaaG2
namespace Go.Proofs.Ytcmgpllnficmdaa
open Go.RowKit Go.Maps

variable {w : World} {X : Nat → Prop} {M : Rd} {fa : Option Addr} {fc : Nat} {nm tn : List UInt8}

theorem atR_cases (nm : List UInt8) : ∀ (R : List Rf) (i : Nat), atR nm R i = -1 ∨ ∃ k : Nat, atR nm R i = ((i + k : Nat) : Int) ∧ k < R.length
  | [], i => .inl rfl
  | r :: R, i => by
    unfold atR
    split
    · exact .inr ⟨0, by simp, by simp⟩
    · rcases atR_cases nm R (i + 1) with h | ⟨k, h, hk⟩
      · exact .inl h
      · exact .inr ⟨k + 1, by rw [h]; congr 1; omega, by simp; omega⟩
theorem at_or (nm : List UInt8) (R : List Rf) : atR nm R 0 = -1 ∨ ∃ k : Nat, atR nm R 0 = (k : Int) ∧ k < R.length := by
  rcases atR_cases nm R 0 with h | ⟨k, h, hk⟩
  · exact .inl h
  · exact .inr ⟨k, by rw [h, Nat.zero_add], hk⟩
/-- What the document's call does: it refuses (no), the power goes, or it is done (ok). -/
def Om (M : Rd) (no : Int) (ok : Rd → Prop) (M' : Rd) (n : Int) : Prop :=
  (no ≠ 0 ∧ M' = M ∧ n = no) ∨ (no = 0 ∧ canM M = false ∧ M' = gonM M ∧ n = 4) ∨ (no = 0 ∧ canM M = true ∧ ok M' ∧ n = 0)
def RAll (w : World) (X : Nat → Prop) (R : Rd → Int → Prop) (e : Ending) (w' : World) : Prop := ∃ M' n, R M' n ∧ ROut w X M' n e w'
/-- A disk on paper within its bounds. -/
structure MOk (M : Rd) : Prop where
  n : M.fs.length ≤ 400000
  s : 0 ≤ M.steps ∧ M.steps < 1000000000
  l : M.armed = true → 0 ≤ M.left ∧ M.left < 9223372036854775808
  q : 0 ≤ M.quota ∧ M.quota ≤ 16777216
  u : usedR M.fs ≤ 16777216
  d : ∀ r ∈ M.fs, r.dat.length ≤ 100000000

def noAppM (M : Rd) (nm : List UInt8) (len : Nat) : Int := if isName nm then (if M.quota - usedR M.fs < len then 3 else 0) else 5
def okAppM (M : Rd) (nm : List UInt8) (zs : List Int) (M' : Rd) : Prop :=
  (∃ (k : Nat) (h : k < M.fs.length), atR nm M.fs 0 = (k : Int) ∧ M' = { stpM M with fs := putR (appR M.fs[k] zs) M.fs }) ∨
  (atR nm M.fs 0 = -1 ∧ M' = { stpM M with fs := putR (appR (Rf.mk nm [] 0) zs) M.fs })
theorem append_ra (hf : Fs w X fa M.fs) (hX : ∀ k, X k → k < w.heap.size) (hM : MOk M) {ab : Option Addr} {lb cb : Nat} {zs : List Int} (hbs : Bs w ab lb zs) :
    Calls Try.prog 33 #[rval M fa fc, .string (bstr nm), .slice ab lb cb] w (RAll w X (Om M (noAppM M nm lb) (okAppM M nm zs))) := by
  cases hn : isName nm with
  | false =>
    refine (append_r_name hf hn).mono ?_
    intro e w1 h
    exact ⟨M, 5, .inl ⟨by simp [noAppM, hn], rfl, by simp [noAppM, hn]⟩, h⟩
  | true =>
    by_cases hr : M.quota - usedR M.fs < (lb : Int)
    · refine (append_r_full hf hM.n hM.q hM.u hn hr).mono ?_
      intro e w1 h
      exact ⟨M, 3, .inl ⟨by simp [noAppM, hn, hr], rfl, by simp [noAppM, hn, hr]⟩, h⟩
    · have e0 : noAppM M nm lb = 0 := by simp [noAppM, hn, hr]
      cases hc : canM M with
      | false =>
        refine (append_r_down hf hM.n hM.s hM.l hM.q hM.u hn (by omega) hc).mono ?_
        intro e w1 h
        exact ⟨_, 4, .inr (.inl ⟨e0, hc, rfl, rfl⟩), h⟩
      | true =>
        rcases at_or nm M.fs with hk | ⟨k, hk, hkl⟩
        · refine (append_r_new hf hX hM.n hM.s hM.l hM.q hM.u hbs hn (by omega) hk hc).mono ?_
          intro e w1 h
          exact ⟨_, 0, .inr (.inr ⟨e0, hc, .inr ⟨hk, rfl⟩, rfl⟩), h⟩
        · refine (append_r_old hf hX hM.n hM.s hM.l hM.q hM.u hbs hn (by omega) hk hkl (hM.d _ (List.getElem_mem hkl)) hc).mono ?_
          intro e w1 h
          exact ⟨_, 0, .inr (.inr ⟨e0, hc, .inl ⟨k, hkl, hk, rfl⟩, rfl⟩), h⟩
def noNmM (M : Rd) (nm : List UInt8) : Int := if atR nm M.fs 0 = -1 then 5 else 0
theorem no_nm {k : Nat} (hk : atR nm M.fs 0 = (k : Int)) : noNmM M nm = 0 := by rw [noNmM, hk, if_neg (by omega)]
theorem sync_ra (hf : Fs w X fa M.fs) (hX : ∀ k, X k → k < w.heap.size) (hM : MOk M) :
    Calls Try.prog 34 #[rval M fa fc, .string (bstr nm)] w (RAll w X (Om M (noNmM M nm) fun M' => ∃ (k : Nat) (h : k < M.fs.length), atR nm M.fs 0 = (k : Int) ∧ M' = { stpM M with fs := putR (syR M.fs[k]) M.fs })) := by
  rcases at_or nm M.fs with hk | ⟨k, hk, hkl⟩
  · refine (sync_r_n hf hM.n hk).mono ?_
    rintro e w1 ⟨he, hb⟩
    exact ⟨M, 5, .inl ⟨by simp [noNmM, hk], rfl, by simp [noNmM, hk]⟩, ROut.of he hf hb⟩
  · cases hc : canM M with
    | false =>
      refine (sync_r_down hf hM.n hM.s hM.l hk hc).mono ?_
      rintro e w1 ⟨he, hb⟩
      exact ⟨_, 4, .inr (.inl ⟨no_nm hk, hc, rfl, rfl⟩), ROut.of he hf hb⟩
    | true =>
      refine (sync_r_ok hf hX hM.n hM.s hM.l hk hkl hc).mono ?_
      intro e w1 h
      exact ⟨_, 0, .inr (.inr ⟨no_nm hk, hc, ⟨k, hkl, hk, rfl⟩, rfl⟩), h⟩
theorem drop_ra (hf : Fs w X fa M.fs) (hX : ∀ k, X k → k < w.heap.size) (hM : MOk M) :
    Calls Try.prog 37 #[rval M fa fc, .string (bstr nm)] w (RAll w X (Om M (noNmM M nm) fun M' => M' = { stpM M with fs := delR nm M.fs })) := by
  rcases at_or nm M.fs with hk | ⟨k, hk, hkl⟩
  · refine (drop_r_n hf hM.n hk).mono ?_
    intro e w1 h
    exact ⟨M, 5, .inl ⟨by simp [noNmM, hk], rfl, by simp [noNmM, hk]⟩, h⟩
  · cases hc : canM M with
    | false =>
      refine (drop_r_down hf hM.n hM.s hM.l hk hc).mono ?_
      intro e w1 h
      exact ⟨_, 4, .inr (.inl ⟨no_nm hk, hc, rfl, rfl⟩), h⟩
    | true =>
      refine (drop_r_ok hf hX hM.n hM.s hM.l hk hc).mono ?_
      intro e w1 h
      exact ⟨_, 0, .inr (.inr ⟨no_nm hk, hc, rfl, rfl⟩), h⟩
def noCutM (M : Rd) (nm : List UInt8) (n : Int) : Int := if h : 0 ≤ atR nm M.fs 0 ∧ (atR nm M.fs 0).toNat < M.fs.length then (if n < 0 ∨ ((M.fs[(atR nm M.fs 0).toNat]'h.2).dat.length : Int) < n then 2 else 0) else 5
theorem no_cut {k : Nat} (hk : atR nm M.fs 0 = (k : Int)) (hkl : k < M.fs.length) (n : Int) : noCutM M nm n = if n < 0 ∨ (M.fs[k].dat.length : Int) < n then 2 else 0 := by
  have hz : (atR nm M.fs 0).toNat = k := by omega
  have h : 0 ≤ atR nm M.fs 0 ∧ (atR nm M.fs 0).toNat < M.fs.length := by omega
  rw [noCutM, dif_pos h]
  simp only [hz]
theorem cut_ra (hf : Fs w X fa M.fs) (hX : ∀ k, X k → k < w.heap.size) (hM : MOk M) (n : Int) :
    Calls Try.prog 35 #[rval M fa fc, .string (bstr nm), .int .i64 n] w (RAll w X (Om M (noCutM M nm n) fun M' => ∃ (k : Nat) (h : k < M.fs.length), atR nm M.fs 0 = (k : Int) ∧ M' = { stpM M with fs := putR (cutR M.fs[k] n.toNat) M.fs })) := by
  rcases at_or nm M.fs with hk | ⟨k, hk, hkl⟩
  · refine (cut_r_n hf hM.n n hk).mono ?_
    intro e w1 h
    have e5 : noCutM M nm n = 5 := by rw [noCutM, dif_neg (by omega)]
    exact ⟨M, 5, .inl ⟨by omega, rfl, e5.symm⟩, h⟩
  · by_cases h1 : n < 0
    · refine (cut_r_neg hf hM.n hk hkl h1).mono ?_
      intro e w1 h
      have e5 : noCutM M nm n = 2 := by rw [no_cut hk hkl, if_pos (.inl h1)]
      exact ⟨M, 2, .inl ⟨by omega, rfl, e5.symm⟩, h⟩
    · by_cases h2 : (M.fs[k].dat.length : Int) < n
      · refine (cut_r_big hf hM.n hk hkl h1 h2).mono ?_
        intro e w1 h
        have e5 : noCutM M nm n = 2 := by rw [no_cut hk hkl, if_pos (.inr h2)]
        exact ⟨M, 2, .inl ⟨by omega, rfl, e5.symm⟩, h⟩
      · have e0 : noCutM M nm n = 0 := by rw [no_cut hk hkl, if_neg (by omega)]
        cases hc : canM M with
        | false =>
          refine (cut_r_down hf hM.n hM.s hM.l hk hkl h1 (by omega) hc).mono ?_
          intro e w1 h
          exact ⟨_, 4, .inr (.inl ⟨e0, hc, rfl, rfl⟩), h⟩
        | true =>
          obtain ⟨m, rfl⟩ : ∃ m : Nat, n = (m : Int) := ⟨n.toNat, by omega⟩
          have hd := hM.d _ (List.getElem_mem hkl)
          by_cases hgt : (m : Int) < M.fs[k].sure
          · refine (cut_r_gt hf hX hM.n hM.s hM.l hk hkl (by omega) hd hgt hc).mono ?_
            intro e w1 h
            exact ⟨_, 0, .inr (.inr ⟨e0, hc, ⟨k, hkl, hk, rfl⟩, rfl⟩), h⟩
          · refine (cut_r_le hf hX hM.n hM.s hM.l hk hkl (by omega) hd (by omega) hc).mono ?_
            intro e w1 h
            exact ⟨_, 0, .inr (.inr ⟨e0, hc, ⟨k, hkl, hk, rfl⟩, rfl⟩), h⟩
def noRenM (M : Rd) (nm tn : List UInt8) : Int := if atR nm M.fs 0 = -1 then 5 else if isName tn then 0 else 5
theorem ren_ra (hf : Fs w X fa M.fs) (hX : ∀ k, X k → k < w.heap.size) (hM : MOk M) :
    Calls Try.prog 36 #[rval M fa fc, .string (bstr nm), .string (bstr tn)] w (RAll w X (Om M (noRenM M nm tn) fun M' => ∃ (k : Nat) (h : k < M.fs.length), atR nm M.fs 0 = (k : Int) ∧ M' = { stpM M with fs := putR (renR M.fs[k] tn) (delR nm M.fs) })) := by
  rcases at_or nm M.fs with hk | ⟨k, hk, hkl⟩
  · refine (ren_r_n hf hM.n hk).mono ?_
    intro e w1 h
    exact ⟨M, 5, .inl ⟨by simp [noRenM, hk], rfl, by simp [noRenM, hk]⟩, h⟩
  · have hne : ¬ ((k : Int) = -1) := by omega
    cases ht : isName tn with
    | false =>
      refine (ren_r_name hf hM.n hk ht).mono ?_
      intro e w1 h
      exact ⟨M, 5, .inl ⟨by simp [noRenM, ht], rfl, by simp [noRenM, ht]⟩, h⟩
    | true =>
      have e0 : noRenM M nm tn = 0 := by rw [noRenM, hk, if_neg hne, if_pos ht]
      cases hc : canM M with
      | false =>
        refine (ren_r_down hf hM.n hM.s hM.l ht hk hc).mono ?_
        intro e w1 h
        exact ⟨_, 4, .inr (.inl ⟨e0, hc, rfl, rfl⟩), h⟩
      | true =>
        refine (ren_r_ok hf hX hM.n hM.s hM.l ht hk hkl hc).mono ?_
        intro e w1 h
        exact ⟨_, 0, .inr (.inr ⟨e0, hc, ⟨k, hkl, hk, rfl⟩, rfl⟩), h⟩
end Go.Proofs.Ytcmgpllnficmdaa

namespace Go.Proofs.Ytcmgpllnficmdaa
open Go.RowKit Go.Maps

/-- An operation in memory. -/
abbrev opc (kd : Int) (nm tn : List UInt8) (n : Int) (ab : Option Addr) (lb cb : Nat) : Array Value := #[.int .i64 kd, .string (bstr nm), .string (bstr tn), .int .i64 n, .slice ab lb cb]
theorem num_v (n : Int) (w : World) : Calls Try.prog 31 #[eV n] w fun e w' => e = .returned (.int .i64 n) ∧ w' = w := by
  unfold eV
  split
  · rename_i h; subst h; exact num_0 w
  · exact num_e n (by simpa using ‹¬ n = 0›) w
theorem results_c4 {fn : Func} {t u1 u2 u3 : Tmp} (h : fn.results = #[.cell t 34, .tmp u1, .tmp u2, .tmp u3]) (tmps : Array Value) {w : World} {g : Nat} {M : Rd} {fa : Option Addr} {fc : Nat} (ht : tmps.getD t undef = pD g) (hg : w.heap[g]? = some (.cells (rcells M fa fc) 34 (0, 0))) :
    (results fn tmps).run Try.prog w = .ok (.tuple #[rval M fa fc, tmps.getD u1 undef, tmps.getD u2 undef, tmps.getD u3 undef]) w := by
  have hl := run_loadVar_row (P := Try.prog) w g 34 34 (rcells M fa fc) (0, 0) _ hg Try.underlying34 (by rfl) (by kernel_rfl)
  have ht2 : tmps[t]?.getD undef = pD g := by simpa using ht
  simp [results, h, ht2, asAddr, hl, Result.andThen]

/-- In a call of do: the document's disk, the operation and the result, in the first three new blocks. -/
structure B3 (w wr : World) (M : Rd) (fa : Option Addr) (fc : Nat) (o : Array Value) : Prop where
  r0 : wr.heap[w.heap.size]? = some (.cells (rcells M fa fc) 34 (0, 0))
  r1 : wr.heap[w.heap.size + 1]? = some (.cells o 37 (0, 0))
  r2 : wr.heap[w.heap.size + 1 + 1]? = some (.cells zrow 34 (0, 0))
abbrev w3of (w : World) (M : Rd) (fa : Option Addr) (fc : Nat) (o : Array Value) : World := ((w.alloc (.cells (rcells M fa fc) 34)).alloc (.cells o 37)).alloc (.cells zrow 34)
theorem w3_below (w : World) (M : Rd) (fa : Option Addr) (fc : Nat) (o : Array Value) : Below w.heap.size w (w3of w M fa fc o) := (((Below.refl _ w).alloc (Nat.le_refl _) _).alloc (by simp) _).alloc (by simp; omega) _
theorem B3.start (w : World) (M : Rd) (fa : Option Addr) (fc : Nat) (o : Array Value) : B3 w (w3of w M fa fc o) M fa fc o := by
  refine ⟨?_, ?_, ?_⟩
  · rw [Below.heap_alloc _ _ _ (by simp; omega), Below.heap_alloc _ _ _ (by simp)]; exact (MapKept.heap_alloc w _).1
  · rw [Below.heap_alloc _ _ _ (by simp)]; exact alloc2_at _ _ _
  · have := (MapKept.heap_alloc ((w.alloc (.cells (rcells M fa fc) 34)).alloc (.cells o 37)) (.cells zrow 34)).1
    simpa using this
section
variable {w wr w2 : World} {M : Rd} {fa : Option Addr} {fc : Nat} {o : Array Value}
theorem B3.lt (h : B3 w wr M fa fc o) : w.heap.size + 2 < wr.heap.size := (Array.getElem?_eq_some_iff.1 h.r2).1
theorem B3.fr {S : Nat → Prop} (h : B3 w wr M fa fc o) (f : Fr S wr w2) (hS : ∀ k, S k → k < w.heap.size ∨ w.heap.size + 3 ≤ k) : B3 w w2 M fa fc o := by
  have hl := h.lt
  exact ⟨(f.block _ (by omega) fun e => by have := hS _ e; omega).trans h.r0, (f.block _ (by omega) fun e => by have := hS _ e; omega).trans h.r1, (f.block _ (by omega) fun e => by have := hS _ e; omega).trans h.r2⟩
theorem B3.set (h : B3 w wr M fa fc o) (M' : Rd) (fa' : Option Addr) (fc' : Nat) : B3 w ((((((wr.setCell ⟨w.heap.size, 0, none⟩ (.int .i64 M'.quota)).setCell ⟨w.heap.size, 1, none⟩ (.int .i64 M'.steps)).setCell ⟨w.heap.size, 2, none⟩ (.int .i64 M'.left)).setCell ⟨w.heap.size, 3, none⟩ (.bool M'.armed)).setCell ⟨w.heap.size, 4, none⟩ (.bool M'.gone)).setCell ⟨w.heap.size, 5, none⟩ (.slice fa' M'.fs.length fc')) M' fa' fc' o ∧ Fr (· = w.heap.size) wr ((((((wr.setCell ⟨w.heap.size, 0, none⟩ (.int .i64 M'.quota)).setCell ⟨w.heap.size, 1, none⟩ (.int .i64 M'.steps)).setCell ⟨w.heap.size, 2, none⟩ (.int .i64 M'.left)).setCell ⟨w.heap.size, 3, none⟩ (.bool M'.armed)).setCell ⟨w.heap.size, 4, none⟩ (.bool M'.gone)).setCell ⟨w.heap.size, 5, none⟩ (.slice fa' M'.fs.length fc')) := by
  have hw := set6_wt (a := .int .i64 M'.quota) (b := .int .i64 M'.steps) (c := .int .i64 M'.left) (d := .bool M'.armed) (e := .bool M'.gone) (f := .slice fa' M'.fs.length fc') h.r0
  exact ⟨⟨hw.row, (hw.block _ (by omega)).trans h.r1, (hw.block _ (by omega)).trans h.r2⟩, hw.fr⟩
theorem B3.fin (h : B3 w wr M fa fc o) : ((((((wr.setCell ⟨w.heap.size + 1 + 1, 0, none⟩ (.int .i64 M.quota)).setCell ⟨w.heap.size + 1 + 1, 1, none⟩ (.int .i64 M.steps)).setCell ⟨w.heap.size + 1 + 1, 2, none⟩ (.int .i64 M.left)).setCell ⟨w.heap.size + 1 + 1, 3, none⟩ (.bool M.armed)).setCell ⟨w.heap.size + 1 + 1, 4, none⟩ (.bool M.gone)).setCell ⟨w.heap.size + 1 + 1, 5, none⟩ (.slice fa M.fs.length fc)).heap[w.heap.size + 1 + 1]? = some (.cells (rcells M fa fc) 34 (0, 0)) ∧ Fr (· = w.heap.size + 1 + 1) wr ((((((wr.setCell ⟨w.heap.size + 1 + 1, 0, none⟩ (.int .i64 M.quota)).setCell ⟨w.heap.size + 1 + 1, 1, none⟩ (.int .i64 M.steps)).setCell ⟨w.heap.size + 1 + 1, 2, none⟩ (.int .i64 M.left)).setCell ⟨w.heap.size + 1 + 1, 3, none⟩ (.bool M.armed)).setCell ⟨w.heap.size + 1 + 1, 4, none⟩ (.bool M.gone)).setCell ⟨w.heap.size + 1 + 1, 5, none⟩ (.slice fa M.fs.length fc)) := by
  have hw := set6_wt (a := .int .i64 M.quota) (b := .int .i64 M.steps) (c := .int .i64 M.left) (d := .bool M.armed) (e := .bool M.gone) (f := .slice fa M.fs.length fc) h.r2
  exact ⟨hw.row, hw.fr⟩
theorem B3.ops {kd : Int} {nm tn : List UInt8} {n : Int} {ab : Option Addr} {lb cb : Nat} (h : B3 w wr M fa fc (opc kd nm tn n ab lb cb)) :
    wr.cell? ⟨w.heap.size + 1, 0, none⟩ = some (.int .i64 kd) ∧ wr.cell? ⟨w.heap.size + 1, 1, none⟩ = some (.string (bstr nm)) ∧ wr.cell? ⟨w.heap.size + 1, 2, none⟩ = some (.string (bstr tn)) ∧ wr.cell? ⟨w.heap.size + 1, 3, none⟩ = some (.int .i64 n) ∧ wr.cell? ⟨w.heap.size + 1, 4, none⟩ = some (.slice ab lb cb) :=
  ⟨cell_row h.r1 0, cell_row h.r1 1, cell_row h.r1 2, cell_row h.r1 3, cell_row h.r1 4⟩
end
/-- What do answers. -/
def DOut (w : World) (base b : Nat) (D : Dsk) (R : Dsk → Int → Prop) (R' : Rd → Int → Prop) (e : Ending) (w' : World) : Prop :=
  ∃ D' n M' n' fa' fc' X', R D' n ∧ R' M' n' ∧ e = .returned (.tuple #[rval M' fa' fc', .int .i64 n, .int .i64 n', .bool true]) ∧ DkAt w' base b D' ∧ Fs w' X' fa' M'.fs ∧ (∀ k, X' k → k < w'.heap.size ∧ ¬ fp b D' k) ∧ Fr (fp b D) w w' ∧ Grow w b D D'
theorem bs_lt {w : World} {a : Option Addr} {len : Nat} {zs : List Int} (h : Bs w a len zs) : ∀ x, a = some x → 0 < len → x.block < w.heap.size := by
  rintro x rfl hl
  obtain ⟨b, off, e, hc⟩ := h.2.2 hl
  cases e
  exact cell_lt (hc 0 hl)
theorem Fs.lt {w : World} {X : Nat → Prop} {fa : Option Addr} {R : List Rf} (h : Fs w X fa R) : Fs w (fun k => X k ∧ k < w.heap.size) fa R := fun hp => by
  obtain ⟨fb, e, hx, hc⟩ := h hp
  refine ⟨fb, e, ⟨hx, ?_⟩, fun i hi => ?_⟩
  · obtain ⟨_, _, h1, _⟩ := hc 0 hp
    exact cell_lt h1
  · obtain ⟨ad, cap, h1, h2, h3, h4, h5, h6⟩ := hc i hi
    exact ⟨ad, cap, h1, h2, h3, h4, h5, fun x ex hl => ⟨h6 x ex hl, bs_lt h4 x ex hl⟩⟩
theorem dout_end {w w5 w6 : World} {base b s1 s2 : Nat} {D D' : Dsk} {M' : Rd} {X : Nat → Prop} {R : Dsk → Int → Prop} {R' : Rd → Int → Prop} {n1 n2 : Int} {fa' : Option Addr} {fc' : Nat} {e : Ending} (hR : R D' n1) (hR2 : R' M' n2) (he : e = .returned (.tuple #[rval M' fa' fc', .int .i64 n1, .int .i64 n2, .bool true]))
    (hD5 : DkAt w5 base b D') (hf5 : Fs w5 (fun k => X k ∨ s2 ≤ k) fa' M'.fs) (hF50 : Fr (fp b D) w w5) (hG : ∀ k, fp b D' k → fp b D k ∨ s1 ≤ k) (hs1 : w.heap.size + 3 ≤ s1) (hs2 : s1 ≤ s2) (hDl : ∀ k, fp b D' k → k < s2) (hX : ∀ k, X k → k < w.heap.size ∧ ¬ fp b D k) (hfl : ∀ k, fp b D k → k < w.heap.size) (e3 : Fr (· = w.heap.size + 1 + 1) w5 w6) : DOut w base b D R R' e w6 := by
  have hns : ∀ k, fp b D' k → k ≠ w.heap.size + 1 + 1 := fun k hk => by
    rcases hG k hk with h1 | h1
    · have := hfl k h1; omega
    · omega
  have hf6 := (hf5.fr e3 (fun k hk e => by
    rcases hk with hk | hk
    · have := (hX k hk).1; omega
    · omega)).lt
  refine ⟨D', n1, M', n2, fa', fc', _, hR, hR2, he, hD5.fr e3 hns, hf6, fun k hk => ⟨hk.2, fun hd => ?_⟩, hF50.trans e3 fun k hk e => by omega, fun k hk => ?_⟩
  · rcases hk.1 with h1 | h1
    · rcases hG k hd with h2 | h2
      · exact (hX k h1).2 h2
      · have := (hX k h1).1; omega
    · have := hDl k hd; omega
  · rcases hG k hk with h1 | h1
    · exact .inl h1
    · exact .inr (by omega)
theorem fr_dr {S : Nat → Prop} {w w' : World} (h : Fr S w w') (n : Nat) : Fr S w (w'.drewN n) := h.trans (fr_b (below_drewN w' n) _) fun _ _ e => e
theorem Wr8.less {w : World} {g n m : Nat} (h : Wr8 w g n) (hm : m ≤ n) : Wr8 w g m := by
  obtain ⟨cur, h1, h2⟩ := h
  exact ⟨cur, h1, fun j hj => h2 j (by omega)⟩
end Go.Proofs.Ytcmgpllnficmdaa

namespace Go.Proofs.Ytcmgpllnficmdaa
open Go.RowKit Go.Maps

variable {w : World} {base b : Nat} {D : Dsk} {X : Nat → Prop} {M : Rd} {fa : Option Addr} {fc : Nat} {nm tn : List UInt8} {n : Int} {ab : Option Addr} {lb cb : Nat} {zs : List Int}

set_option maxHeartbeats 4000000 in
set_option maxRecDepth 100000 in
theorem do_append (h : DkAt w base b D) (hf : Fs w X fa M.fs) (hX : ∀ k, X k → k < w.heap.size ∧ ¬ fp b D k) (hM : MOk M) (hst : D.steps < 1000000000) (hlen : D.fs.length < 1000000) (hbase : base ≤ w.heap.size) (hbs : Bs w ab lb zs) (hab : ∀ x, ab = some x → 0 < lb → ¬ fp b D x.block) (hm : lb ≤ 1000000) (hnm : nm.length ≤ 1000000) (htn : tn.length ≤ 1000000) :
    Calls Try.prog 13 #[pD b, rval M fa fc, .agg (opc 1 nm tn n ab lb cb)] w (DOut w base b D (Oo D (noApp D nm lb) fun D' => AppR D D' nm zs) (Om M (noAppM M nm lb) (okAppM M nm zs))) := by
  have b3 := B3.start w M fa fc (opc 1 nm tn n ab lb cb)
  have hb0 := w3_below w M fa fc (opc 1 nm tn n ab lb cb)
  have hbs0 := hbs.later hb0
  have hsz : (bstr nm).size ≤ 1000000 := hnm
  have hsz2 : (bstr nm).size ≤ maxLen := by unfold maxLen; omega
  have hszt : (bstr tn).size ≤ 1000000 := htn
  have hfl := fp_lt h
  have hcp := copy_d ab lb cb zs _ hbs0 hm
  obtain ⟨o0, o1, o2, o3, o4⟩ := b3.ops
  go_enter Try.func13, Try.ntmps13
  go_wp2_with fail
  refine hcp.mono ?_
  rintro e w1 ⟨g, cg, rfl, hg, hkp, hb1⟩
  clear hcp
  have b3 := b3.fr (fr_b hb1 fun _ => False) (fun _ => False.elim)
  have hbw1 : Below w.heap.size w w1 := hb0.trans (hb1.mono hb0.size)
  have hbs1 := hbs.later hbw1
  have h1 := h.later hbw1
  have hf1 := hf.later hbw1
  have hgw : w.heap.size + 3 ≤ g := by simp at hg; omega
  have hglt : g < w1.heap.size := by
    obtain ⟨cur, hc, _⟩ := hkp.2.2.2.2.1
    exact (Array.getElem?_eq_some_iff.1 hc).1
  have hbase1 : base ≤ w1.heap.size := Nat.le_trans hbase hbw1.size
  clear hb0 hbs0 hb1 hg o0 o1 o2 o3 o4
  obtain ⟨o0, o1, o2, o3, o4⟩ := b3.ops
  have hpc := append_all (cap := cg) h1 hsz hkp.bs (fun x e _ => by (cases e; intro e; have e2 : g = b := e; have := hfl b (.inl rfl); omega)) hst hlen hbase1
  go_wp2_with fail
  refine hpc.mono ?_
  rintro e w2 ⟨D', n1, hR, rfl, hD, hF, hG⟩
  clear hpc o0 o1 o2 o3 o4
  have b3 := b3.fr hF (fun k hk => .inl (hfl k hk))
  have hkp := hkp.fr hF (fun e => by have := hfl _ e; omega)
  have hbs2 := hbs1.fr hF hab
  have hf2 := hf1.fr hF (fun k hk e => (hX k hk).2 e)
  have hF2 : Fr (fp b D) w w2 := (fr_b hbw1 _).trans hF fun _ _ e => e
  have hX2 : ∀ k, X k → k < w2.heap.size := fun k hk => Nat.lt_of_lt_of_le (hX k hk).1 hF2.size
  have hDl := fp_lt hD
  clear hbs1 hf1 h1 hbw1
  obtain ⟨o0, o1, o2, o3, o4⟩ := b3.ops
  obtain ⟨c0, c1, c2, c3, c4, c5, f0, f1, f2, f3, f4, f5⟩ := c6_of b3.r0
  have hrc := append_ra (fc := fc) (nm := nm) (cb := cb) hf2 hX2 hM hbs2
  go_wp2_with fail
  refine hrc.mono ?_
  rintro e w3 ⟨M', n2, hR2, fa', fc', rfl, hf3, hb3⟩
  clear hrc o0 o1 o2 o3 o4 c0 c1 c2 c3 c4 c5 f0 f1 f2 f3 f4 f5
  have b3 := b3.fr (fr_b hb3 fun _ => False) (fun _ => False.elim)
  obtain ⟨c0, c1, c2, c3, c4, c5, f0, f1, f2, f3, f4, f5⟩ := c6_of b3.r0
  obtain ⟨b4, hF4⟩ := b3.set M' fa' fc'
  go_upto_region 33 with fail
  have hs12 : w1.heap.size ≤ w2.heap.size := hF.size
  have hs23 : w2.heap.size ≤ w3.heap.size := hb3.size
  have hlx := bs_lt hbs
  have hns : ∀ k, fp b D' k → k ≠ w.heap.size ∧ k ≠ w.heap.size + 1 + 1 ∧ k ≠ g := fun k hk => by
    rcases hG k hk with h1 | h1
    · have := hfl k h1; omega
    · omega
  generalize (((((w3.setCell ⟨w.heap.size, 0, none⟩ (.int .i64 M'.quota)).setCell ⟨w.heap.size, 1, none⟩ (.int .i64 M'.steps)).setCell ⟨w.heap.size, 2, none⟩ (.int .i64 M'.left)).setCell ⟨w.heap.size, 3, none⟩ (.bool M'.armed)).setCell ⟨w.heap.size, 4, none⟩ (.bool M'.gone)).setCell ⟨w.heap.size, 5, none⟩ (.slice fa' M'.fs.length fc') = w4 at b4 hF4 ⊢
  have hkp4 := (hkp.fr (fr_b hb3 fun _ => False) id).fr hF4 (by omega)
  have hbs4 := (hbs2.later hb3).fr hF4 (fun x ex hl e => by have := hlx x ex hl; omega)
  have hD4 := (hD.later hb3).fr hF4 (fun k hk e => (hns k hk).1 e)
  have hf4 := hf3.fr hF4 (fun k hk e => by
    rcases hk with hk | hk
    · have := (hX k hk).1; omega
    · omega)
  have hF40 : Fr (fp b D) w w4 := (hF2.trans (fr_b hb3 _) fun _ _ e => e).trans hF4 fun k hk e => by omega
  have hs34 : w3.heap.size ≤ w4.heap.size := hF4.size
  clear hkp hbs2 hD hf3 hF4 hF2 hb3 hF hf2 c0 c1 c2 c3 c4 c5 f0 f1 f2 f3 f4 f5
  obtain ⟨o0, o1, o2, o3, o4⟩ := b4.ops
  go_wp2_with fail
  refine (kept_d g lb cg ab cb zs _ hkp4 hbs4).mono ?_
  rintro e w4 ⟨rfl, rfl⟩
  go_wp2_with fail
  refine (over_d (cap := cg) (hkp4.2.2.2.2.1.less (by omega)) (by omega)).mono ?_
  rintro e w5 ⟨rfl, hF5⟩
  have b5 := b4.fr hF5 (fun k e => .inr (by omega))
  have hs45 : w4.heap.size ≤ w5.heap.size := hF5.size
  have hD5 := hD4.fr hF5 (fun k hk e => (hns k hk).2.2 e)
  have hf5 := hf4.fr hF5 (fun k hk e => by
    rcases hk with hk | hk
    · have := (hX k hk).1; omega
    · omega)
  have hF50 : Fr (fp b D) w w5 := hF40.trans hF5 fun k hk e => by omega
  clear o0 o1 o2 o3 o4 hkp4 hbs4 hD4 hf4 hF40 b4 hF5
  obtain ⟨c0, c1, c2, c3, c4, c5, f0, f1, f2, f3, f4, f5⟩ := c6_of b5.r0
  obtain ⟨d0, d1, d2, d3, d4, d5, g0, g1, g2, g3, g4, g5⟩ := c6_of b5.r2
  obtain ⟨e1, e3⟩ := b5.fin
  go_wp2_with fail
  go_region_with (go_at_call 31; refine (num_v n1 _).mono ?_; rintro e w6 ⟨rfl, rfl⟩)
  all_goals
    clear c0 c1 c2 c3 c4 c5 f0 f1 f2 f3 f4 f5 d0 d1 d2 d3 d4 d5 g0 g1 g2 g3 g4 g5
    go_wp2
    generalize ((((((w5.setCell ⟨w.heap.size + 1 + 1, 0, none⟩ (.int .i64 M'.quota)).setCell ⟨w.heap.size + 1 + 1, 1, none⟩ (.int .i64 M'.steps)).setCell ⟨w.heap.size + 1 + 1, 2, none⟩ (.int .i64 M'.left)).setCell ⟨w.heap.size + 1 + 1, 3, none⟩ (.bool M'.armed)).setCell ⟨w.heap.size + 1 + 1, 4, none⟩ (.bool M'.gone)).setCell ⟨w.heap.size + 1 + 1, 5, none⟩ (.slice fa' M'.fs.length fc')) = w6 at e1 e3 ⊢
    refine bodyPost_ret (v := .tuple #[rval M' fa' fc', .int .i64 n1, .int .i64 n2, .bool true]) ((results_c4 (g := w.heap.size + 1 + 1) (M := M') (fa := fa') (fc := fc') Try.results13 _ ?_ ?_).trans ?_) ?_ ?_
    · kernel_rfl
    · exact e1
    · kernel_rfl
    · kernel_rfl
    · first
        | exact dout_end hR hR2 rfl hD5 hf5 hF50 hG (by omega) (by omega) hDl hX hfl e3
        | exact dout_end hR hR2 rfl hD5 hf5 hF50 hG (by omega) (by omega) hDl hX hfl (fr_dr e3 1)
        | exact dout_end hR hR2 rfl hD5 hf5 hF50 hG (by omega) (by omega) hDl hX hfl (fr_dr e3 2)
        | exact dout_end hR hR2 rfl hD5 hf5 hF50 hG (by omega) (by omega) hDl hX hfl (fr_dr e3 3)
end Go.Proofs.Ytcmgpllnficmdaa

namespace Go.Proofs.Ytcmgpllnficmdaa
open Go.RowKit Go.Maps

variable {w : World} {base b : Nat} {D : Dsk} {X : Nat → Prop} {M : Rd} {fa : Option Addr} {fc : Nat} {nm tn : List UInt8} {n : Int} {ab : Option Addr} {lb cb : Nat} {zs : List Int}

set_option maxHeartbeats 4000000 in
set_option maxRecDepth 100000 in
theorem do_sync (h : DkAt w base b D) (hf : Fs w X fa M.fs) (hX : ∀ k, X k → k < w.heap.size ∧ ¬ fp b D k) (hM : MOk M) (hst : D.steps < 1000000000) (_hlen : D.fs.length < 1000000) (hbase : base ≤ w.heap.size) (hbs : Bs w ab lb zs) (hab : ∀ x, ab = some x → 0 < lb → ¬ fp b D x.block) (hm : lb ≤ 1000000) (hnm : nm.length ≤ 1000000) (htn : tn.length ≤ 1000000) :
    Calls Try.prog 13 #[pD b, rval M fa fc, .agg (opc 2 nm tn n ab lb cb)] w (DOut w base b D (Oo D (noNm D nm) fun D' => ∃ p, findF nm D.fs = some p ∧ D' = syncd D p.2) (Om M (noNmM M nm) fun M' => ∃ (k : Nat) (h : k < M.fs.length), atR nm M.fs 0 = (k : Int) ∧ M' = { stpM M with fs := putR (syR M.fs[k]) M.fs })) := by
  have b3 := B3.start w M fa fc (opc 2 nm tn n ab lb cb)
  have hb0 := w3_below w M fa fc (opc 2 nm tn n ab lb cb)
  have hbs0 := hbs.later hb0
  have hsz : (bstr nm).size ≤ 1000000 := hnm
  have hsz2 : (bstr nm).size ≤ maxLen := by unfold maxLen; omega
  have hszt : (bstr tn).size ≤ 1000000 := htn
  have hfl := fp_lt h
  have hcp := copy_d ab lb cb zs _ hbs0 hm
  obtain ⟨o0, o1, o2, o3, o4⟩ := b3.ops
  go_enter Try.func13, Try.ntmps13
  go_wp2_with fail
  refine hcp.mono ?_
  rintro e w1 ⟨g, cg, rfl, hg, hkp, hb1⟩
  clear hcp
  have b3 := b3.fr (fr_b hb1 fun _ => False) (fun _ => False.elim)
  have hbw1 : Below w.heap.size w w1 := hb0.trans (hb1.mono hb0.size)
  have hbs1 := hbs.later hbw1
  have h1 := h.later hbw1
  have hf1 := hf.later hbw1
  have hgw : w.heap.size + 3 ≤ g := by simp at hg; omega
  have hglt : g < w1.heap.size := by
    obtain ⟨cur, hc, _⟩ := hkp.2.2.2.2.1
    exact (Array.getElem?_eq_some_iff.1 hc).1
  have hbase1 : base ≤ w1.heap.size := Nat.le_trans hbase hbw1.size
  clear hb0 hbs0 hb1 hg o0 o1 o2 o3 o4
  obtain ⟨o0, o1, o2, o3, o4⟩ := b3.ops
  have hpc := sync_all h1 hsz2 hst
  go_wp2_with fail
  refine hpc.mono ?_
  rintro e w2 ⟨D', n1, hR, rfl, hD, hF, hG⟩
  clear hpc o0 o1 o2 o3 o4
  have b3 := b3.fr hF (fun k hk => .inl (hfl k hk))
  have hkp := hkp.fr hF (fun e => by have := hfl _ e; omega)
  have hbs2 := hbs1.fr hF hab
  have hf2 := hf1.fr hF (fun k hk e => (hX k hk).2 e)
  have hF2 : Fr (fp b D) w w2 := (fr_b hbw1 _).trans hF fun _ _ e => e
  have hX2 : ∀ k, X k → k < w2.heap.size := fun k hk => Nat.lt_of_lt_of_le (hX k hk).1 hF2.size
  have hDl := fp_lt hD
  clear hbs1 hf1 h1 hbw1
  obtain ⟨o0, o1, o2, o3, o4⟩ := b3.ops
  obtain ⟨c0, c1, c2, c3, c4, c5, f0, f1, f2, f3, f4, f5⟩ := c6_of b3.r0
  have hrc := sync_ra (fc := fc) (nm := nm) hf2 hX2 hM
  go_wp2_with fail
  refine hrc.mono ?_
  rintro e w3 ⟨M', n2, hR2, fa', fc', rfl, hf3, hb3⟩
  clear hrc o0 o1 o2 o3 o4 c0 c1 c2 c3 c4 c5 f0 f1 f2 f3 f4 f5
  have b3 := b3.fr (fr_b hb3 fun _ => False) (fun _ => False.elim)
  obtain ⟨c0, c1, c2, c3, c4, c5, f0, f1, f2, f3, f4, f5⟩ := c6_of b3.r0
  obtain ⟨b4, hF4⟩ := b3.set M' fa' fc'
  go_upto_region 33 with fail
  have hs12 : w1.heap.size ≤ w2.heap.size := hF.size
  have hs23 : w2.heap.size ≤ w3.heap.size := hb3.size
  have hlx := bs_lt hbs
  have hns : ∀ k, fp b D' k → k ≠ w.heap.size ∧ k ≠ w.heap.size + 1 + 1 ∧ k ≠ g := fun k hk => by
    rcases hG k hk with h1 | h1
    · have := hfl k h1; omega
    · omega
  generalize (((((w3.setCell ⟨w.heap.size, 0, none⟩ (.int .i64 M'.quota)).setCell ⟨w.heap.size, 1, none⟩ (.int .i64 M'.steps)).setCell ⟨w.heap.size, 2, none⟩ (.int .i64 M'.left)).setCell ⟨w.heap.size, 3, none⟩ (.bool M'.armed)).setCell ⟨w.heap.size, 4, none⟩ (.bool M'.gone)).setCell ⟨w.heap.size, 5, none⟩ (.slice fa' M'.fs.length fc') = w4 at b4 hF4 ⊢
  have hkp4 := (hkp.fr (fr_b hb3 fun _ => False) id).fr hF4 (by omega)
  have hbs4 := (hbs2.later hb3).fr hF4 (fun x ex hl e => by have := hlx x ex hl; omega)
  have hD4 := (hD.later hb3).fr hF4 (fun k hk e => (hns k hk).1 e)
  have hf4 := hf3.fr hF4 (fun k hk e => by
    rcases hk with hk | hk
    · have := (hX k hk).1; omega
    · omega)
  have hF40 : Fr (fp b D) w w4 := (hF2.trans (fr_b hb3 _) fun _ _ e => e).trans hF4 fun k hk e => by omega
  have hs34 : w3.heap.size ≤ w4.heap.size := hF4.size
  clear hkp hbs2 hD hf3 hF4 hF2 hb3 hF hf2 c0 c1 c2 c3 c4 c5 f0 f1 f2 f3 f4 f5
  obtain ⟨o0, o1, o2, o3, o4⟩ := b4.ops
  go_wp2_with fail
  refine (kept_d g lb cg ab cb zs _ hkp4 hbs4).mono ?_
  rintro e w4 ⟨rfl, rfl⟩
  go_wp2_with fail
  refine (over_d (cap := cg) (hkp4.2.2.2.2.1.less (by omega)) (by omega)).mono ?_
  rintro e w5 ⟨rfl, hF5⟩
  have b5 := b4.fr hF5 (fun k e => .inr (by omega))
  have hs45 : w4.heap.size ≤ w5.heap.size := hF5.size
  have hD5 := hD4.fr hF5 (fun k hk e => (hns k hk).2.2 e)
  have hf5 := hf4.fr hF5 (fun k hk e => by
    rcases hk with hk | hk
    · have := (hX k hk).1; omega
    · omega)
  have hF50 : Fr (fp b D) w w5 := hF40.trans hF5 fun k hk e => by omega
  clear o0 o1 o2 o3 o4 hkp4 hbs4 hD4 hf4 hF40 b4 hF5
  obtain ⟨c0, c1, c2, c3, c4, c5, f0, f1, f2, f3, f4, f5⟩ := c6_of b5.r0
  obtain ⟨d0, d1, d2, d3, d4, d5, g0, g1, g2, g3, g4, g5⟩ := c6_of b5.r2
  obtain ⟨e1, e3⟩ := b5.fin
  go_wp2_with fail
  go_region_with (go_at_call 31; refine (num_v n1 _).mono ?_; rintro e w6 ⟨rfl, rfl⟩)
  all_goals
    clear c0 c1 c2 c3 c4 c5 f0 f1 f2 f3 f4 f5 d0 d1 d2 d3 d4 d5 g0 g1 g2 g3 g4 g5
    go_wp2
    generalize ((((((w5.setCell ⟨w.heap.size + 1 + 1, 0, none⟩ (.int .i64 M'.quota)).setCell ⟨w.heap.size + 1 + 1, 1, none⟩ (.int .i64 M'.steps)).setCell ⟨w.heap.size + 1 + 1, 2, none⟩ (.int .i64 M'.left)).setCell ⟨w.heap.size + 1 + 1, 3, none⟩ (.bool M'.armed)).setCell ⟨w.heap.size + 1 + 1, 4, none⟩ (.bool M'.gone)).setCell ⟨w.heap.size + 1 + 1, 5, none⟩ (.slice fa' M'.fs.length fc')) = w6 at e1 e3 ⊢
    refine bodyPost_ret (v := .tuple #[rval M' fa' fc', .int .i64 n1, .int .i64 n2, .bool true]) ((results_c4 (g := w.heap.size + 1 + 1) (M := M') (fa := fa') (fc := fc') Try.results13 _ ?_ ?_).trans ?_) ?_ ?_
    · kernel_rfl
    · exact e1
    · kernel_rfl
    · kernel_rfl
    · first
        | exact dout_end hR hR2 rfl hD5 hf5 hF50 hG (by omega) (by omega) hDl hX hfl e3
        | exact dout_end hR hR2 rfl hD5 hf5 hF50 hG (by omega) (by omega) hDl hX hfl (fr_dr e3 1)
        | exact dout_end hR hR2 rfl hD5 hf5 hF50 hG (by omega) (by omega) hDl hX hfl (fr_dr e3 2)
        | exact dout_end hR hR2 rfl hD5 hf5 hF50 hG (by omega) (by omega) hDl hX hfl (fr_dr e3 3)
end Go.Proofs.Ytcmgpllnficmdaa

namespace Go.Proofs.Ytcmgpllnficmdaa
open Go.RowKit Go.Maps

variable {w : World} {base b : Nat} {D : Dsk} {X : Nat → Prop} {M : Rd} {fa : Option Addr} {fc : Nat} {nm tn : List UInt8} {n : Int} {ab : Option Addr} {lb cb : Nat} {zs : List Int}

set_option maxHeartbeats 4000000 in
set_option maxRecDepth 100000 in
theorem do_cut (h : DkAt w base b D) (hf : Fs w X fa M.fs) (hX : ∀ k, X k → k < w.heap.size ∧ ¬ fp b D k) (hM : MOk M) (hst : D.steps < 1000000000) (_hlen : D.fs.length < 1000000) (hbase : base ≤ w.heap.size) (hbs : Bs w ab lb zs) (hab : ∀ x, ab = some x → 0 < lb → ¬ fp b D x.block) (hm : lb ≤ 1000000) (hnm : nm.length ≤ 1000000) (htn : tn.length ≤ 1000000) :
    Calls Try.prog 13 #[pD b, rval M fa fc, .agg (opc 3 nm tn n ab lb cb)] w (DOut w base b D (Oo D (noCut D nm n) fun D' => ∃ p v, findF nm D.fs = some p ∧ D' = cutD (stepd D) p.2 n.toNat v) (Om M (noCutM M nm n) fun M' => ∃ (k : Nat) (h : k < M.fs.length), atR nm M.fs 0 = (k : Int) ∧ M' = { stpM M with fs := putR (cutR M.fs[k] n.toNat) M.fs })) := by
  have b3 := B3.start w M fa fc (opc 3 nm tn n ab lb cb)
  have hb0 := w3_below w M fa fc (opc 3 nm tn n ab lb cb)
  have hbs0 := hbs.later hb0
  have hsz : (bstr nm).size ≤ 1000000 := hnm
  have hsz2 : (bstr nm).size ≤ maxLen := by unfold maxLen; omega
  have hszt : (bstr tn).size ≤ 1000000 := htn
  have hfl := fp_lt h
  have hcp := copy_d ab lb cb zs _ hbs0 hm
  obtain ⟨o0, o1, o2, o3, o4⟩ := b3.ops
  go_enter Try.func13, Try.ntmps13
  go_wp2_with fail
  refine hcp.mono ?_
  rintro e w1 ⟨g, cg, rfl, hg, hkp, hb1⟩
  clear hcp
  have b3 := b3.fr (fr_b hb1 fun _ => False) (fun _ => False.elim)
  have hbw1 : Below w.heap.size w w1 := hb0.trans (hb1.mono hb0.size)
  have hbs1 := hbs.later hbw1
  have h1 := h.later hbw1
  have hf1 := hf.later hbw1
  have hgw : w.heap.size + 3 ≤ g := by simp at hg; omega
  have hglt : g < w1.heap.size := by
    obtain ⟨cur, hc, _⟩ := hkp.2.2.2.2.1
    exact (Array.getElem?_eq_some_iff.1 hc).1
  have hbase1 : base ≤ w1.heap.size := Nat.le_trans hbase hbw1.size
  clear hb0 hbs0 hb1 hg o0 o1 o2 o3 o4
  obtain ⟨o0, o1, o2, o3, o4⟩ := b3.ops
  have hpc := cut_all h1 hsz2 n hst
  go_wp2_with fail
  refine hpc.mono ?_
  rintro e w2 ⟨D', n1, hR, rfl, hD, hF, hG⟩
  clear hpc o0 o1 o2 o3 o4
  have b3 := b3.fr hF (fun k hk => .inl (hfl k hk))
  have hkp := hkp.fr hF (fun e => by have := hfl _ e; omega)
  have hbs2 := hbs1.fr hF hab
  have hf2 := hf1.fr hF (fun k hk e => (hX k hk).2 e)
  have hF2 : Fr (fp b D) w w2 := (fr_b hbw1 _).trans hF fun _ _ e => e
  have hX2 : ∀ k, X k → k < w2.heap.size := fun k hk => Nat.lt_of_lt_of_le (hX k hk).1 hF2.size
  have hDl := fp_lt hD
  clear hbs1 hf1 h1 hbw1
  obtain ⟨o0, o1, o2, o3, o4⟩ := b3.ops
  obtain ⟨c0, c1, c2, c3, c4, c5, f0, f1, f2, f3, f4, f5⟩ := c6_of b3.r0
  have hrc := cut_ra (fc := fc) (nm := nm) hf2 hX2 hM n
  go_wp2_with fail
  refine hrc.mono ?_
  rintro e w3 ⟨M', n2, hR2, fa', fc', rfl, hf3, hb3⟩
  clear hrc o0 o1 o2 o3 o4 c0 c1 c2 c3 c4 c5 f0 f1 f2 f3 f4 f5
  have b3 := b3.fr (fr_b hb3 fun _ => False) (fun _ => False.elim)
  obtain ⟨c0, c1, c2, c3, c4, c5, f0, f1, f2, f3, f4, f5⟩ := c6_of b3.r0
  obtain ⟨b4, hF4⟩ := b3.set M' fa' fc'
  go_upto_region 33 with fail
  have hs12 : w1.heap.size ≤ w2.heap.size := hF.size
  have hs23 : w2.heap.size ≤ w3.heap.size := hb3.size
  have hlx := bs_lt hbs
  have hns : ∀ k, fp b D' k → k ≠ w.heap.size ∧ k ≠ w.heap.size + 1 + 1 ∧ k ≠ g := fun k hk => by
    rcases hG k hk with h1 | h1
    · have := hfl k h1; omega
    · omega
  generalize (((((w3.setCell ⟨w.heap.size, 0, none⟩ (.int .i64 M'.quota)).setCell ⟨w.heap.size, 1, none⟩ (.int .i64 M'.steps)).setCell ⟨w.heap.size, 2, none⟩ (.int .i64 M'.left)).setCell ⟨w.heap.size, 3, none⟩ (.bool M'.armed)).setCell ⟨w.heap.size, 4, none⟩ (.bool M'.gone)).setCell ⟨w.heap.size, 5, none⟩ (.slice fa' M'.fs.length fc') = w4 at b4 hF4 ⊢
  have hkp4 := (hkp.fr (fr_b hb3 fun _ => False) id).fr hF4 (by omega)
  have hbs4 := (hbs2.later hb3).fr hF4 (fun x ex hl e => by have := hlx x ex hl; omega)
  have hD4 := (hD.later hb3).fr hF4 (fun k hk e => (hns k hk).1 e)
  have hf4 := hf3.fr hF4 (fun k hk e => by
    rcases hk with hk | hk
    · have := (hX k hk).1; omega
    · omega)
  have hF40 : Fr (fp b D) w w4 := (hF2.trans (fr_b hb3 _) fun _ _ e => e).trans hF4 fun k hk e => by omega
  have hs34 : w3.heap.size ≤ w4.heap.size := hF4.size
  clear hkp hbs2 hD hf3 hF4 hF2 hb3 hF hf2 c0 c1 c2 c3 c4 c5 f0 f1 f2 f3 f4 f5
  obtain ⟨o0, o1, o2, o3, o4⟩ := b4.ops
  go_wp2_with fail
  refine (kept_d g lb cg ab cb zs _ hkp4 hbs4).mono ?_
  rintro e w4 ⟨rfl, rfl⟩
  go_wp2_with fail
  refine (over_d (cap := cg) (hkp4.2.2.2.2.1.less (by omega)) (by omega)).mono ?_
  rintro e w5 ⟨rfl, hF5⟩
  have b5 := b4.fr hF5 (fun k e => .inr (by omega))
  have hs45 : w4.heap.size ≤ w5.heap.size := hF5.size
  have hD5 := hD4.fr hF5 (fun k hk e => (hns k hk).2.2 e)
  have hf5 := hf4.fr hF5 (fun k hk e => by
    rcases hk with hk | hk
    · have := (hX k hk).1; omega
    · omega)
  have hF50 : Fr (fp b D) w w5 := hF40.trans hF5 fun k hk e => by omega
  clear o0 o1 o2 o3 o4 hkp4 hbs4 hD4 hf4 hF40 b4 hF5
  obtain ⟨c0, c1, c2, c3, c4, c5, f0, f1, f2, f3, f4, f5⟩ := c6_of b5.r0
  obtain ⟨d0, d1, d2, d3, d4, d5, g0, g1, g2, g3, g4, g5⟩ := c6_of b5.r2
  obtain ⟨e1, e3⟩ := b5.fin
  go_wp2_with fail
  go_region_with (go_at_call 31; refine (num_v n1 _).mono ?_; rintro e w6 ⟨rfl, rfl⟩)
  all_goals
    clear c0 c1 c2 c3 c4 c5 f0 f1 f2 f3 f4 f5 d0 d1 d2 d3 d4 d5 g0 g1 g2 g3 g4 g5
    go_wp2
    generalize ((((((w5.setCell ⟨w.heap.size + 1 + 1, 0, none⟩ (.int .i64 M'.quota)).setCell ⟨w.heap.size + 1 + 1, 1, none⟩ (.int .i64 M'.steps)).setCell ⟨w.heap.size + 1 + 1, 2, none⟩ (.int .i64 M'.left)).setCell ⟨w.heap.size + 1 + 1, 3, none⟩ (.bool M'.armed)).setCell ⟨w.heap.size + 1 + 1, 4, none⟩ (.bool M'.gone)).setCell ⟨w.heap.size + 1 + 1, 5, none⟩ (.slice fa' M'.fs.length fc')) = w6 at e1 e3 ⊢
    refine bodyPost_ret (v := .tuple #[rval M' fa' fc', .int .i64 n1, .int .i64 n2, .bool true]) ((results_c4 (g := w.heap.size + 1 + 1) (M := M') (fa := fa') (fc := fc') Try.results13 _ ?_ ?_).trans ?_) ?_ ?_
    · kernel_rfl
    · exact e1
    · kernel_rfl
    · kernel_rfl
    · first
        | exact dout_end hR hR2 rfl hD5 hf5 hF50 hG (by omega) (by omega) hDl hX hfl e3
        | exact dout_end hR hR2 rfl hD5 hf5 hF50 hG (by omega) (by omega) hDl hX hfl (fr_dr e3 1)
        | exact dout_end hR hR2 rfl hD5 hf5 hF50 hG (by omega) (by omega) hDl hX hfl (fr_dr e3 2)
        | exact dout_end hR hR2 rfl hD5 hf5 hF50 hG (by omega) (by omega) hDl hX hfl (fr_dr e3 3)
end Go.Proofs.Ytcmgpllnficmdaa

namespace Go.Proofs.Ytcmgpllnficmdaa
open Go.RowKit Go.Maps

variable {w : World} {base b : Nat} {D : Dsk} {X : Nat → Prop} {M : Rd} {fa : Option Addr} {fc : Nat} {nm tn : List UInt8} {n : Int} {ab : Option Addr} {lb cb : Nat} {zs : List Int}

set_option maxHeartbeats 4000000 in
set_option maxRecDepth 100000 in
theorem do_rename (h : DkAt w base b D) (hf : Fs w X fa M.fs) (hX : ∀ k, X k → k < w.heap.size ∧ ¬ fp b D k) (hM : MOk M) (hst : D.steps < 1000000000) (hlen : D.fs.length < 1000000) (hbase : base ≤ w.heap.size) (hbs : Bs w ab lb zs) (hab : ∀ x, ab = some x → 0 < lb → ¬ fp b D x.block) (hm : lb ≤ 1000000) (hnm : nm.length ≤ 1000000) (htn : tn.length ≤ 1000000) :
    Calls Try.prog 13 #[pD b, rval M fa fc, .agg (opc 4 nm tn n ab lb cb)] w (DOut w base b D (Oo D (noRen D nm tn) fun D' => ∃ p, findF nm D.fs = some p ∧ D' = renD (stepd D) nm tn p.2) (Om M (noRenM M nm tn) fun M' => ∃ (k : Nat) (h : k < M.fs.length), atR nm M.fs 0 = (k : Int) ∧ M' = { stpM M with fs := putR (renR M.fs[k] tn) (delR nm M.fs) })) := by
  have b3 := B3.start w M fa fc (opc 4 nm tn n ab lb cb)
  have hb0 := w3_below w M fa fc (opc 4 nm tn n ab lb cb)
  have hbs0 := hbs.later hb0
  have hsz : (bstr nm).size ≤ 1000000 := hnm
  have hsz2 : (bstr nm).size ≤ maxLen := by unfold maxLen; omega
  have hszt : (bstr tn).size ≤ 1000000 := htn
  have hfl := fp_lt h
  have hcp := copy_d ab lb cb zs _ hbs0 hm
  obtain ⟨o0, o1, o2, o3, o4⟩ := b3.ops
  go_enter Try.func13, Try.ntmps13
  go_wp2_with fail
  refine hcp.mono ?_
  rintro e w1 ⟨g, cg, rfl, hg, hkp, hb1⟩
  clear hcp
  have b3 := b3.fr (fr_b hb1 fun _ => False) (fun _ => False.elim)
  have hbw1 : Below w.heap.size w w1 := hb0.trans (hb1.mono hb0.size)
  have hbs1 := hbs.later hbw1
  have h1 := h.later hbw1
  have hf1 := hf.later hbw1
  have hgw : w.heap.size + 3 ≤ g := by simp at hg; omega
  have hglt : g < w1.heap.size := by
    obtain ⟨cur, hc, _⟩ := hkp.2.2.2.2.1
    exact (Array.getElem?_eq_some_iff.1 hc).1
  have hbase1 : base ≤ w1.heap.size := Nat.le_trans hbase hbw1.size
  clear hb0 hbs0 hb1 hg o0 o1 o2 o3 o4
  obtain ⟨o0, o1, o2, o3, o4⟩ := b3.ops
  have hpc := ren_all h1 hsz hszt hst hlen
  go_wp2_with fail
  refine hpc.mono ?_
  rintro e w2 ⟨D', n1, hR, rfl, hD, hF, hG⟩
  clear hpc o0 o1 o2 o3 o4
  have b3 := b3.fr hF (fun k hk => .inl (hfl k hk))
  have hkp := hkp.fr hF (fun e => by have := hfl _ e; omega)
  have hbs2 := hbs1.fr hF hab
  have hf2 := hf1.fr hF (fun k hk e => (hX k hk).2 e)
  have hF2 : Fr (fp b D) w w2 := (fr_b hbw1 _).trans hF fun _ _ e => e
  have hX2 : ∀ k, X k → k < w2.heap.size := fun k hk => Nat.lt_of_lt_of_le (hX k hk).1 hF2.size
  have hDl := fp_lt hD
  clear hbs1 hf1 h1 hbw1
  obtain ⟨o0, o1, o2, o3, o4⟩ := b3.ops
  obtain ⟨c0, c1, c2, c3, c4, c5, f0, f1, f2, f3, f4, f5⟩ := c6_of b3.r0
  have hrc := ren_ra (fc := fc) (nm := nm) (tn := tn) hf2 hX2 hM
  go_wp2_with fail
  refine hrc.mono ?_
  rintro e w3 ⟨M', n2, hR2, fa', fc', rfl, hf3, hb3⟩
  clear hrc o0 o1 o2 o3 o4 c0 c1 c2 c3 c4 c5 f0 f1 f2 f3 f4 f5
  have b3 := b3.fr (fr_b hb3 fun _ => False) (fun _ => False.elim)
  obtain ⟨c0, c1, c2, c3, c4, c5, f0, f1, f2, f3, f4, f5⟩ := c6_of b3.r0
  obtain ⟨b4, hF4⟩ := b3.set M' fa' fc'
  go_upto_region 33 with fail
  have hs12 : w1.heap.size ≤ w2.heap.size := hF.size
  have hs23 : w2.heap.size ≤ w3.heap.size := hb3.size
  have hlx := bs_lt hbs
  have hns : ∀ k, fp b D' k → k ≠ w.heap.size ∧ k ≠ w.heap.size + 1 + 1 ∧ k ≠ g := fun k hk => by
    rcases hG k hk with h1 | h1
    · have := hfl k h1; omega
    · omega
  generalize (((((w3.setCell ⟨w.heap.size, 0, none⟩ (.int .i64 M'.quota)).setCell ⟨w.heap.size, 1, none⟩ (.int .i64 M'.steps)).setCell ⟨w.heap.size, 2, none⟩ (.int .i64 M'.left)).setCell ⟨w.heap.size, 3, none⟩ (.bool M'.armed)).setCell ⟨w.heap.size, 4, none⟩ (.bool M'.gone)).setCell ⟨w.heap.size, 5, none⟩ (.slice fa' M'.fs.length fc') = w4 at b4 hF4 ⊢
  have hkp4 := (hkp.fr (fr_b hb3 fun _ => False) id).fr hF4 (by omega)
  have hbs4 := (hbs2.later hb3).fr hF4 (fun x ex hl e => by have := hlx x ex hl; omega)
  have hD4 := (hD.later hb3).fr hF4 (fun k hk e => (hns k hk).1 e)
  have hf4 := hf3.fr hF4 (fun k hk e => by
    rcases hk with hk | hk
    · have := (hX k hk).1; omega
    · omega)
  have hF40 : Fr (fp b D) w w4 := (hF2.trans (fr_b hb3 _) fun _ _ e => e).trans hF4 fun k hk e => by omega
  have hs34 : w3.heap.size ≤ w4.heap.size := hF4.size
  clear hkp hbs2 hD hf3 hF4 hF2 hb3 hF hf2 c0 c1 c2 c3 c4 c5 f0 f1 f2 f3 f4 f5
  obtain ⟨o0, o1, o2, o3, o4⟩ := b4.ops
  go_wp2_with fail
  refine (kept_d g lb cg ab cb zs _ hkp4 hbs4).mono ?_
  rintro e w4 ⟨rfl, rfl⟩
  go_wp2_with fail
  refine (over_d (cap := cg) (hkp4.2.2.2.2.1.less (by omega)) (by omega)).mono ?_
  rintro e w5 ⟨rfl, hF5⟩
  have b5 := b4.fr hF5 (fun k e => .inr (by omega))
  have hs45 : w4.heap.size ≤ w5.heap.size := hF5.size
  have hD5 := hD4.fr hF5 (fun k hk e => (hns k hk).2.2 e)
  have hf5 := hf4.fr hF5 (fun k hk e => by
    rcases hk with hk | hk
    · have := (hX k hk).1; omega
    · omega)
  have hF50 : Fr (fp b D) w w5 := hF40.trans hF5 fun k hk e => by omega
  clear o0 o1 o2 o3 o4 hkp4 hbs4 hD4 hf4 hF40 b4 hF5
  obtain ⟨c0, c1, c2, c3, c4, c5, f0, f1, f2, f3, f4, f5⟩ := c6_of b5.r0
  obtain ⟨d0, d1, d2, d3, d4, d5, g0, g1, g2, g3, g4, g5⟩ := c6_of b5.r2
  obtain ⟨e1, e3⟩ := b5.fin
  go_wp2_with fail
  go_region_with (go_at_call 31; refine (num_v n1 _).mono ?_; rintro e w6 ⟨rfl, rfl⟩)
  all_goals
    clear c0 c1 c2 c3 c4 c5 f0 f1 f2 f3 f4 f5 d0 d1 d2 d3 d4 d5 g0 g1 g2 g3 g4 g5
    go_wp2
    generalize ((((((w5.setCell ⟨w.heap.size + 1 + 1, 0, none⟩ (.int .i64 M'.quota)).setCell ⟨w.heap.size + 1 + 1, 1, none⟩ (.int .i64 M'.steps)).setCell ⟨w.heap.size + 1 + 1, 2, none⟩ (.int .i64 M'.left)).setCell ⟨w.heap.size + 1 + 1, 3, none⟩ (.bool M'.armed)).setCell ⟨w.heap.size + 1 + 1, 4, none⟩ (.bool M'.gone)).setCell ⟨w.heap.size + 1 + 1, 5, none⟩ (.slice fa' M'.fs.length fc')) = w6 at e1 e3 ⊢
    refine bodyPost_ret (v := .tuple #[rval M' fa' fc', .int .i64 n1, .int .i64 n2, .bool true]) ((results_c4 (g := w.heap.size + 1 + 1) (M := M') (fa := fa') (fc := fc') Try.results13 _ ?_ ?_).trans ?_) ?_ ?_
    · kernel_rfl
    · exact e1
    · kernel_rfl
    · kernel_rfl
    · first
        | exact dout_end hR hR2 rfl hD5 hf5 hF50 hG (by omega) (by omega) hDl hX hfl e3
        | exact dout_end hR hR2 rfl hD5 hf5 hF50 hG (by omega) (by omega) hDl hX hfl (fr_dr e3 1)
        | exact dout_end hR hR2 rfl hD5 hf5 hF50 hG (by omega) (by omega) hDl hX hfl (fr_dr e3 2)
        | exact dout_end hR hR2 rfl hD5 hf5 hF50 hG (by omega) (by omega) hDl hX hfl (fr_dr e3 3)
end Go.Proofs.Ytcmgpllnficmdaa

namespace Go.Proofs.Ytcmgpllnficmdaa
open Go.RowKit Go.Maps

variable {w : World} {base b : Nat} {D : Dsk} {X : Nat → Prop} {M : Rd} {fa : Option Addr} {fc : Nat} {nm tn : List UInt8} {n : Int} {ab : Option Addr} {lb cb : Nat} {zs : List Int}

set_option maxHeartbeats 4000000 in
set_option maxRecDepth 100000 in
theorem do_drop (h : DkAt w base b D) (hf : Fs w X fa M.fs) (hX : ∀ k, X k → k < w.heap.size ∧ ¬ fp b D k) (hM : MOk M) (hst : D.steps < 1000000000) (_hlen : D.fs.length < 1000000) (hbase : base ≤ w.heap.size) (hbs : Bs w ab lb zs) (hab : ∀ x, ab = some x → 0 < lb → ¬ fp b D x.block) (hm : lb ≤ 1000000) (hnm : nm.length ≤ 1000000) (htn : tn.length ≤ 1000000) :
    Calls Try.prog 13 #[pD b, rval M fa fc, .agg (opc 5 nm tn n ab lb cb)] w (DOut w base b D (Oo D (noNm D nm) fun D' => ∃ p, findF nm D.fs = some p ∧ D' = dropD D nm p.2) (Om M (noNmM M nm) fun M' => M' = { stpM M with fs := delR nm M.fs })) := by
  have b3 := B3.start w M fa fc (opc 5 nm tn n ab lb cb)
  have hb0 := w3_below w M fa fc (opc 5 nm tn n ab lb cb)
  have hbs0 := hbs.later hb0
  have hsz : (bstr nm).size ≤ 1000000 := hnm
  have hsz2 : (bstr nm).size ≤ maxLen := by unfold maxLen; omega
  have hszt : (bstr tn).size ≤ 1000000 := htn
  have hfl := fp_lt h
  have hcp := copy_d ab lb cb zs _ hbs0 hm
  obtain ⟨o0, o1, o2, o3, o4⟩ := b3.ops
  go_enter Try.func13, Try.ntmps13
  go_wp2_with fail
  refine hcp.mono ?_
  rintro e w1 ⟨g, cg, rfl, hg, hkp, hb1⟩
  clear hcp
  have b3 := b3.fr (fr_b hb1 fun _ => False) (fun _ => False.elim)
  have hbw1 : Below w.heap.size w w1 := hb0.trans (hb1.mono hb0.size)
  have hbs1 := hbs.later hbw1
  have h1 := h.later hbw1
  have hf1 := hf.later hbw1
  have hgw : w.heap.size + 3 ≤ g := by simp at hg; omega
  have hglt : g < w1.heap.size := by
    obtain ⟨cur, hc, _⟩ := hkp.2.2.2.2.1
    exact (Array.getElem?_eq_some_iff.1 hc).1
  have hbase1 : base ≤ w1.heap.size := Nat.le_trans hbase hbw1.size
  clear hb0 hbs0 hb1 hg o0 o1 o2 o3 o4
  obtain ⟨o0, o1, o2, o3, o4⟩ := b3.ops
  have hpc := drop_all h1 hsz2 hst
  go_wp2_with fail
  refine hpc.mono ?_
  rintro e w2 ⟨D', n1, hR, rfl, hD, hF, hG⟩
  clear hpc o0 o1 o2 o3 o4
  have b3 := b3.fr hF (fun k hk => .inl (hfl k hk))
  have hkp := hkp.fr hF (fun e => by have := hfl _ e; omega)
  have hbs2 := hbs1.fr hF hab
  have hf2 := hf1.fr hF (fun k hk e => (hX k hk).2 e)
  have hF2 : Fr (fp b D) w w2 := (fr_b hbw1 _).trans hF fun _ _ e => e
  have hX2 : ∀ k, X k → k < w2.heap.size := fun k hk => Nat.lt_of_lt_of_le (hX k hk).1 hF2.size
  have hDl := fp_lt hD
  clear hbs1 hf1 h1 hbw1
  obtain ⟨o0, o1, o2, o3, o4⟩ := b3.ops
  obtain ⟨c0, c1, c2, c3, c4, c5, f0, f1, f2, f3, f4, f5⟩ := c6_of b3.r0
  have hrc := drop_ra (fc := fc) (nm := nm) hf2 hX2 hM
  go_wp2_with fail
  refine hrc.mono ?_
  rintro e w3 ⟨M', n2, hR2, fa', fc', rfl, hf3, hb3⟩
  clear hrc o0 o1 o2 o3 o4 c0 c1 c2 c3 c4 c5 f0 f1 f2 f3 f4 f5
  have b3 := b3.fr (fr_b hb3 fun _ => False) (fun _ => False.elim)
  obtain ⟨c0, c1, c2, c3, c4, c5, f0, f1, f2, f3, f4, f5⟩ := c6_of b3.r0
  obtain ⟨b4, hF4⟩ := b3.set M' fa' fc'
  go_upto_region 33 with fail
  have hs12 : w1.heap.size ≤ w2.heap.size := hF.size
  have hs23 : w2.heap.size ≤ w3.heap.size := hb3.size
  have hlx := bs_lt hbs
  have hns : ∀ k, fp b D' k → k ≠ w.heap.size ∧ k ≠ w.heap.size + 1 + 1 ∧ k ≠ g := fun k hk => by
    rcases hG k hk with h1 | h1
    · have := hfl k h1; omega
    · omega
  generalize (((((w3.setCell ⟨w.heap.size, 0, none⟩ (.int .i64 M'.quota)).setCell ⟨w.heap.size, 1, none⟩ (.int .i64 M'.steps)).setCell ⟨w.heap.size, 2, none⟩ (.int .i64 M'.left)).setCell ⟨w.heap.size, 3, none⟩ (.bool M'.armed)).setCell ⟨w.heap.size, 4, none⟩ (.bool M'.gone)).setCell ⟨w.heap.size, 5, none⟩ (.slice fa' M'.fs.length fc') = w4 at b4 hF4 ⊢
  have hkp4 := (hkp.fr (fr_b hb3 fun _ => False) id).fr hF4 (by omega)
  have hbs4 := (hbs2.later hb3).fr hF4 (fun x ex hl e => by have := hlx x ex hl; omega)
  have hD4 := (hD.later hb3).fr hF4 (fun k hk e => (hns k hk).1 e)
  have hf4 := hf3.fr hF4 (fun k hk e => by
    rcases hk with hk | hk
    · have := (hX k hk).1; omega
    · omega)
  have hF40 : Fr (fp b D) w w4 := (hF2.trans (fr_b hb3 _) fun _ _ e => e).trans hF4 fun k hk e => by omega
  have hs34 : w3.heap.size ≤ w4.heap.size := hF4.size
  clear hkp hbs2 hD hf3 hF4 hF2 hb3 hF hf2 c0 c1 c2 c3 c4 c5 f0 f1 f2 f3 f4 f5
  obtain ⟨o0, o1, o2, o3, o4⟩ := b4.ops
  go_wp2_with fail
  refine (kept_d g lb cg ab cb zs _ hkp4 hbs4).mono ?_
  rintro e w4 ⟨rfl, rfl⟩
  go_wp2_with fail
  refine (over_d (cap := cg) (hkp4.2.2.2.2.1.less (by omega)) (by omega)).mono ?_
  rintro e w5 ⟨rfl, hF5⟩
  have b5 := b4.fr hF5 (fun k e => .inr (by omega))
  have hs45 : w4.heap.size ≤ w5.heap.size := hF5.size
  have hD5 := hD4.fr hF5 (fun k hk e => (hns k hk).2.2 e)
  have hf5 := hf4.fr hF5 (fun k hk e => by
    rcases hk with hk | hk
    · have := (hX k hk).1; omega
    · omega)
  have hF50 : Fr (fp b D) w w5 := hF40.trans hF5 fun k hk e => by omega
  clear o0 o1 o2 o3 o4 hkp4 hbs4 hD4 hf4 hF40 b4 hF5
  obtain ⟨c0, c1, c2, c3, c4, c5, f0, f1, f2, f3, f4, f5⟩ := c6_of b5.r0
  obtain ⟨d0, d1, d2, d3, d4, d5, g0, g1, g2, g3, g4, g5⟩ := c6_of b5.r2
  obtain ⟨e1, e3⟩ := b5.fin
  go_wp2_with fail
  go_region_with (go_at_call 31; refine (num_v n1 _).mono ?_; rintro e w6 ⟨rfl, rfl⟩)
  all_goals
    clear c0 c1 c2 c3 c4 c5 f0 f1 f2 f3 f4 f5 d0 d1 d2 d3 d4 d5 g0 g1 g2 g3 g4 g5
    go_wp2
    generalize ((((((w5.setCell ⟨w.heap.size + 1 + 1, 0, none⟩ (.int .i64 M'.quota)).setCell ⟨w.heap.size + 1 + 1, 1, none⟩ (.int .i64 M'.steps)).setCell ⟨w.heap.size + 1 + 1, 2, none⟩ (.int .i64 M'.left)).setCell ⟨w.heap.size + 1 + 1, 3, none⟩ (.bool M'.armed)).setCell ⟨w.heap.size + 1 + 1, 4, none⟩ (.bool M'.gone)).setCell ⟨w.heap.size + 1 + 1, 5, none⟩ (.slice fa' M'.fs.length fc')) = w6 at e1 e3 ⊢
    refine bodyPost_ret (v := .tuple #[rval M' fa' fc', .int .i64 n1, .int .i64 n2, .bool true]) ((results_c4 (g := w.heap.size + 1 + 1) (M := M') (fa := fa') (fc := fc') Try.results13 _ ?_ ?_).trans ?_) ?_ ?_
    · kernel_rfl
    · exact e1
    · kernel_rfl
    · kernel_rfl
    · first
        | exact dout_end hR hR2 rfl hD5 hf5 hF50 hG (by omega) (by omega) hDl hX hfl e3
        | exact dout_end hR hR2 rfl hD5 hf5 hF50 hG (by omega) (by omega) hDl hX hfl (fr_dr e3 1)
        | exact dout_end hR hR2 rfl hD5 hf5 hF50 hG (by omega) (by omega) hDl hX hfl (fr_dr e3 2)
        | exact dout_end hR hR2 rfl hD5 hf5 hF50 hG (by omega) (by omega) hDl hX hfl (fr_dr e3 3)
end Go.Proofs.Ytcmgpllnficmdaa

namespace Go.Proofs.Ytcmgpllnficmdaa
open Go.RowKit Go.Maps

/-- What a disk's Read answers: the bytes, the error's number. -/
def RdO (D : Dsk) (nm : List UInt8) (zs : List Int) (n : Int) : Prop :=
  (D.gone = true ∧ zs = [] ∧ n = 4) ∨ (D.gone = false ∧ findF nm D.fs = none ∧ zs = [] ∧ n = 5) ∨ (D.gone = false ∧ ∃ p, findF nm D.fs = some p ∧ zs = (D.ct p.2).dat ∧ n = 0)
def RdM (M : Rd) (nm : List UInt8) (zs : List Int) (n : Int) : Prop :=
  (M.gone = true ∧ zs = [] ∧ n = 4) ∨ (M.gone = false ∧ atR nm M.fs 0 = -1 ∧ zs = [] ∧ n = 5) ∨ (M.gone = false ∧ ∃ (k : Nat) (h : k < M.fs.length), atR nm M.fs 0 = (k : Int) ∧ zs = M.fs[k].dat ∧ n = 0)
/-- A row of bytes of the call's own, and a number behind it. -/
def RdOut (w : World) (f : Int → Value) (R : List Int → Int → Prop) (e : Ending) (w' : World) : Prop :=
  ∃ v zs n, R zs n ∧ e = .returned (.tuple #[v, f n]) ∧ w'.ownsRow w.heap.size 5 1 v zs.length (byteVals zs) ∧ (∀ z ∈ zs, 0 ≤ z ∧ z < 256) ∧ Below w.heap.size w w'
theorem own_nil (w : World) (base : Nat) : w.ownsRow base 5 1 (.slice none 0 0) ([] : List Int).length (byteVals []) := World.ownsRow_nil _ _ _ _
theorem read_all {w : World} {base b : Nat} {D : Dsk} (h : DkAt w base b D) {s : ByteArray} (hs : s.size ≤ maxLen) :
    Calls Try.prog 21 #[pD b, .string s] w (RdOut w eV (RdO D s.data.toList)) := by
  cases hg : D.gone with
  | true =>
    refine (read_down h hg s).mono ?_
    rintro e w1 ⟨rfl, rfl⟩
    exact ⟨_, [], 4, .inl ⟨hg, rfl, rfl⟩, rfl, own_nil _ _, by simp, Below.refl _ _⟩
  | false =>
    cases hp : findF s.data.toList D.fs with
    | none =>
      refine (read_n h hg hs hp).mono ?_
      rintro e w1 ⟨rfl, rfl⟩
      exact ⟨_, [], 5, .inr (.inl ⟨hg, hp, rfl, rfl⟩), rfl, own_nil _ _, by simp, Below.refl _ _⟩
    | some p =>
      have hm := (find_mem hp).1
      have hl := len_le h hm
      have hq := h.qt
      refine (read_ok h hg hs hp (by omega)).mono ?_
      rintro e w1 ⟨v, rfl, ho, hb⟩
      exact ⟨v, _, 0, .inr (.inr ⟨hg, p, hp, rfl, rfl⟩), rfl, ho, (h.fil p hm).byt, hb⟩
theorem read_ra {w : World} {X : Nat → Prop} {M : Rd} {fa : Option Addr} {fc : Nat} {nm : List UInt8} (hf : Fs w X fa M.fs) (hM : MOk M) :
    Calls Try.prog 39 #[rval M fa fc, .string (bstr nm)] w (RdOut w (fun n => .int .i64 n) (RdM M nm)) := by
  cases hg : M.gone with
  | true =>
    refine (read_r_down hg).mono ?_
    rintro e w1 ⟨rfl, hb⟩
    exact ⟨_, [], 4, .inl ⟨hg, rfl, rfl⟩, rfl, own_nil _ _, by simp, hb⟩
  | false =>
    rcases at_or nm M.fs with hk | ⟨k, hk, hkl⟩
    · refine (read_r_n hf hM.n hg hk).mono ?_
      rintro e w1 ⟨rfl, hb⟩
      exact ⟨_, [], 5, .inr (.inl ⟨hg, hk, rfl, rfl⟩), rfl, own_nil _ _, by simp, hb⟩
    · refine (read_r_ok hf hM.n hg hk hkl (hM.d _ (List.getElem_mem hkl))).mono ?_
      rintro e w1 ⟨v, rfl, ho, hb⟩
      obtain ⟨_, _, hc⟩ := (hf (by omega)).choose_spec
      obtain ⟨_, _, _, _, _, h4, _⟩ := hc k hkl
      exact ⟨v, _, 0, .inr (.inr ⟨hg, k, hkl, hk, rfl, rfl⟩), rfl, ho, h4.2.1, hb⟩
/-- Over, of any row of the call's own. -/
theorem over_any {w : World} {base : Nat} {v : Value} {zs : List Int} (h : w.ownsRow base 5 1 v zs.length (byteVals zs)) (hz : ∀ z ∈ zs, 0 ≤ z ∧ z < 256) (hn : zs.length ≤ 100000000) :
    Calls Try.prog 41 #[v] w fun e w' => e = .returned (.tuple #[]) ∧ Fr (fun k => base ≤ k ∧ v.ownBlock = some k) w w' := by
  rcases wr_own h hz with ⟨rfl, e⟩ | ⟨g, cap, rfl, hb, hw⟩
  · refine over_0.mono ?_
    rintro e w1 ⟨rfl, rfl⟩
    exact ⟨rfl, Fr.refl _ _⟩
  · refine (over_d hw hn).mono ?_
    rintro e w1 ⟨rfl, hf⟩
    exact ⟨rfl, hf.mono fun k _ e => ⟨by omega, by rw [e]; rfl⟩⟩
end Go.Proofs.Ytcmgpllnficmdaa

namespace Go.Proofs.Ytcmgpllnficmdaa
open Go.RowKit Go.Maps

variable {w : World} {base b : Nat} {D : Dsk} {X : Nat → Prop} {M : Rd} {fa : Option Addr} {fc : Nat} {nm tn : List UInt8} {n : Int} {ab : Option Addr} {lb cb : Nat} {zs : List Int}

/-- What do answers of a read. -/
def DRd (w : World) (D : Dsk) (M : Rd) (nm : List UInt8) (fa : Option Addr) (fc : Nat) (e : Ending) (w' : World) : Prop :=
  ∃ ys n ys' n', RdO D nm ys n ∧ RdM M nm ys' n' ∧ e = .returned (.tuple #[rval M fa fc, .int .i64 n, .int .i64 n', .bool (decide (ys = ys'))]) ∧ Below w.heap.size w w'
theorem rd_len {w : World} {base b : Nat} {D : Dsk} {nm : List UInt8} {ys : List Int} {n : Int} (h : DkAt w base b D) (hR : RdO D nm ys n) : ys.length ≤ 100000000 := by
  rcases hR with ⟨_, rfl, _⟩ | ⟨_, _, rfl, _⟩ | ⟨_, p, hp, rfl, _⟩
  · simp
  · simp
  · have := len_le h (find_mem hp).1
    have := h.qt
    omega
set_option maxHeartbeats 4000000 in
set_option maxRecDepth 100000 in
theorem do_read (h : DkAt w base b D) (hf : Fs w X fa M.fs) (hM : MOk M) (hbs : Bs w ab lb zs) (hm : lb ≤ 1000000) (hnm : nm.length ≤ 1000000) {kd : Int} (k1 : ¬ kd = 1) (k2 : ¬ kd = 2) (k3 : ¬ kd = 3) (k4 : ¬ kd = 4) (k5 : ¬ kd = 5) (k7 : ¬ kd = 7) (k8 : ¬ kd = 8) :
    Calls Try.prog 13 #[pD b, rval M fa fc, .agg (opc kd nm tn n ab lb cb)] w (DRd w D M nm fa fc) := by
  have b3 := B3.start w M fa fc (opc kd nm tn n ab lb cb)
  have hb0 := w3_below w M fa fc (opc kd nm tn n ab lb cb)
  have hbs0 := hbs.later hb0
  have hsz2 : (bstr nm).size ≤ maxLen := by have : (bstr nm).size ≤ 1000000 := hnm; unfold maxLen; omega
  have hcp := copy_d ab lb cb zs _ hbs0 hm
  have hlx := bs_lt hbs
  obtain ⟨o0, o1, o2, o3, o4⟩ := b3.ops
  go_enter Try.func13, Try.ntmps13
  go_wp2_with fail
  refine hcp.mono ?_
  rintro e w1 ⟨g, cg, rfl, hg, hkp, hb1⟩
  clear hcp
  have b3 := b3.fr (fr_b hb1 fun _ => False) (fun _ => False.elim)
  have hbw1 : Below w.heap.size w w1 := hb0.trans (hb1.mono hb0.size)
  have h1 := h.later hbw1
  have hgw : w.heap.size + 3 ≤ g := by simp at hg; omega
  have hglt : g < w1.heap.size := by
    obtain ⟨cur, hc, _⟩ := hkp.2.2.2.2.1
    exact (Array.getElem?_eq_some_iff.1 hc).1
  clear hb0 hbs0 hb1 hg o0 o1 o2 o3 o4
  obtain ⟨o0, o1, o2, o3, o4⟩ := b3.ops
  have hpc := read_all h1 hsz2
  go_wp2_with fail
  refine hpc.mono ?_
  rintro e w2 ⟨v, ys, n1, hR, rfl, hov, hyb, hb2⟩
  have hyl := rd_len h1 hR
  obtain ⟨va, vc, hvb, rfl⟩ := bs_own2 hov hyb
  clear hpc o0 o1 o2 o3 o4 h1
  have b3 := b3.fr (fr_b hb2 fun _ => False) (fun _ => False.elim)
  have hkp := hkp.fr (fr_b hb2 fun _ => False) id
  have hbw2 : Below w.heap.size w w2 := hbw1.trans (hb2.mono hbw1.size)
  have hs01 := hbw1.size
  have hs12 := hb2.size
  obtain ⟨o0, o1, o2, o3, o4⟩ := b3.ops
  obtain ⟨c0, c1, c2, c3, c4, c5, f0, f1, f2, f3, f4, f5⟩ := c6_of b3.r0
  have hrc := read_ra (fc := fc) (nm := nm) (hf.later hbw2) hM
  clear hbw1 hb2
  go_wp2_with fail
  refine hrc.mono ?_
  rintro e w3 ⟨u, ys2, n2, hR2, rfl, hou, hub, hb3⟩
  obtain ⟨ua, uc, hub2, rfl⟩ := bs_own2 hou hub
  clear hrc o0 o1 o2 o3 o4 c0 c1 c2 c3 c4 c5 f0 f1 f2 f3 f4 f5 hou
  have b3 := b3.fr (fr_b hb3 fun _ => False) (fun _ => False.elim)
  have hkp := hkp.fr (fr_b hb3 fun _ => False) id
  have hbw3 : Below w.heap.size w w3 := hbw2.trans (hb3.mono hbw2.size)
  have hvb := hvb.later hb3
  have hov := row_fr hov (fr_b hb3 fun _ => False) fun _ _ => id
  have hs23 := hb3.size
  clear hbw2 hb3
  go_wp2_with fail
  refine (same_d (ca := vc) (cb := uc) hvb hub2).mono ?_
  rintro e w3 ⟨rfl, rfl⟩
  generalize hsb : decide (ys = ys2) = sb
  replace hsb := hide1 hsb
  go_wp2_with fail
  refine (over_any hov hyb hyl).mono ?_
  rintro e w4 ⟨rfl, hF4⟩
  have b4 := b3.fr hF4 (fun k hk => .inr (by omega))
  have hkp4 := hkp.fr hF4 (fun e => by omega)
  have hbs4 := (hbs.later hbw3).fr hF4 (fun x ex hl e => by have := hlx x ex hl; omega)
  have hB4 : Below w.heap.size w w4 := hbw3.trans (hF4.below _ hbw3.size fun i e => by omega)
  clear hkp hvb hub2 hov hF4 hbw3 b3
  obtain ⟨o0, o1, o2, o3, o4⟩ := b4.ops
  cases sb with
  | true =>
    go_wp2_with fail
    refine (kept_d g lb cg ab cb zs _ hkp4 hbs4).mono ?_
    rintro e w4 ⟨rfl, rfl⟩
    go_wp2_with fail
    refine (over_d (cap := cg) (hkp4.2.2.2.2.1.less (by omega)) (by omega)).mono ?_
    rintro e w5 ⟨rfl, hF5⟩
    have b5 := b4.fr hF5 (fun k e => .inr (by omega))
    have hB5 : Below w.heap.size w w5 := hB4.trans (hF5.below _ hB4.size fun i e => by omega)
    clear o0 o1 o2 o3 o4 hkp4 hbs4 b4 hF5 hB4
    obtain ⟨c0, c1, c2, c3, c4, c5, f0, f1, f2, f3, f4, f5⟩ := c6_of b5.r0
    obtain ⟨d0, d1, d2, d3, d4, d5, g0, g1, g2, g3, g4, g5⟩ := c6_of b5.r2
    obtain ⟨e1, e3⟩ := b5.fin
    go_wp2_with fail
    go_region_with (go_at_call 31; refine (num_v n1 _).mono ?_; rintro e w6 ⟨rfl, rfl⟩)
    all_goals
      clear c0 c1 c2 c3 c4 c5 f0 f1 f2 f3 f4 f5 d0 d1 d2 d3 d4 d5 g0 g1 g2 g3 g4 g5
      go_wp2
      generalize ((((((w5.setCell ⟨w.heap.size + 1 + 1, 0, none⟩ (.int .i64 M.quota)).setCell ⟨w.heap.size + 1 + 1, 1, none⟩ (.int .i64 M.steps)).setCell ⟨w.heap.size + 1 + 1, 2, none⟩ (.int .i64 M.left)).setCell ⟨w.heap.size + 1 + 1, 3, none⟩ (.bool M.armed)).setCell ⟨w.heap.size + 1 + 1, 4, none⟩ (.bool M.gone)).setCell ⟨w.heap.size + 1 + 1, 5, none⟩ (.slice fa M.fs.length fc)) = w6 at e1 e3 ⊢
      have hB6 : Below w.heap.size w w6 := hB5.trans (e3.below _ hB5.size fun i e => by omega)
      refine bodyPost_ret (v := .tuple #[rval M fa fc, .int .i64 n1, .int .i64 n2, .bool true]) ((results_c4 (g := w.heap.size + 1 + 1) (M := M) (fa := fa) (fc := fc) Try.results13 _ ?_ ?_).trans ?_) ?_ ?_
      · kernel_rfl
      · exact e1
      · kernel_rfl
      · kernel_rfl
      · refine ⟨ys, n1, ys2, n2, hR, hR2, by rw [hsb.out], ?_⟩
        first
          | exact hB6
          | exact hB6.trans ((below_drewN w6 1).mono hB6.size)
          | exact hB6.trans ((below_drewN w6 2).mono hB6.size)
          | exact hB6.trans ((below_drewN w6 3).mono hB6.size)
  | false =>
    go_wp2_with fail
    refine (over_d (cap := cg) (hkp4.2.2.2.2.1.less (by omega)) (by omega)).mono ?_
    rintro e w5 ⟨rfl, hF5⟩
    have b5 := b4.fr hF5 (fun k e => .inr (by omega))
    have hB5 : Below w.heap.size w w5 := hB4.trans (hF5.below _ hB4.size fun i e => by omega)
    clear o0 o1 o2 o3 o4 hkp4 hbs4 b4 hF5 hB4
    obtain ⟨c0, c1, c2, c3, c4, c5, f0, f1, f2, f3, f4, f5⟩ := c6_of b5.r0
    obtain ⟨d0, d1, d2, d3, d4, d5, g0, g1, g2, g3, g4, g5⟩ := c6_of b5.r2
    obtain ⟨e1, e3⟩ := b5.fin
    go_wp2_with fail
    go_region_with (go_at_call 31; refine (num_v n1 _).mono ?_; rintro e w6 ⟨rfl, rfl⟩)
    all_goals
      clear c0 c1 c2 c3 c4 c5 f0 f1 f2 f3 f4 f5 d0 d1 d2 d3 d4 d5 g0 g1 g2 g3 g4 g5
      go_wp2
      generalize ((((((w5.setCell ⟨w.heap.size + 1 + 1, 0, none⟩ (.int .i64 M.quota)).setCell ⟨w.heap.size + 1 + 1, 1, none⟩ (.int .i64 M.steps)).setCell ⟨w.heap.size + 1 + 1, 2, none⟩ (.int .i64 M.left)).setCell ⟨w.heap.size + 1 + 1, 3, none⟩ (.bool M.armed)).setCell ⟨w.heap.size + 1 + 1, 4, none⟩ (.bool M.gone)).setCell ⟨w.heap.size + 1 + 1, 5, none⟩ (.slice fa M.fs.length fc)) = w6 at e1 e3 ⊢
      have hB6 : Below w.heap.size w w6 := hB5.trans (e3.below _ hB5.size fun i e => by omega)
      refine bodyPost_ret (v := .tuple #[rval M fa fc, .int .i64 n1, .int .i64 n2, .bool false]) ((results_c4 (g := w.heap.size + 1 + 1) (M := M) (fa := fa) (fc := fc) Try.results13 _ ?_ ?_).trans ?_) ?_ ?_
      · kernel_rfl
      · exact e1
      · kernel_rfl
      · kernel_rfl
      · refine ⟨ys, n1, ys2, n2, hR, hR2, by rw [hsb.out], ?_⟩
        first
          | exact hB6
          | exact hB6.trans ((below_drewN w6 1).mono hB6.size)
          | exact hB6.trans ((below_drewN w6 2).mono hB6.size)
          | exact hB6.trans ((below_drewN w6 3).mono hB6.size)
end Go.Proofs.Ytcmgpllnficmdaa

namespace Go.Proofs.Ytcmgpllnficmdaa
open Go.RowKit Go.Maps

/-- An operation on paper. -/
structure OpD where
  kd : Int
  nm : List UInt8
  tn : List UInt8
  n : Int
  dat : List Int
/-- An operation in a script's memory. -/
def OpC (w : World) (sb p : Nat) (o : OpD) : Prop := ∃ ab cb, w.cell? ⟨sb, p, none⟩ = some (.int .i64 o.kd) ∧ w.cell? ⟨sb, p + 1, none⟩ = some (.string (bstr o.nm)) ∧ w.cell? ⟨sb, p + 2, none⟩ = some (.string (bstr o.tn)) ∧ w.cell? ⟨sb, p + 3, none⟩ = some (.int .i64 o.n) ∧ w.cell? ⟨sb, p + 4, none⟩ = some (.slice ab o.dat.length cb) ∧ Bs w ab o.dat.length o.dat
def OpsAt (w : World) (sa : Option Addr) (os : List OpD) : Prop := 0 < os.length → ∃ sb off, sa = some ⟨sb, off, none⟩ ∧ ∀ i (h : i < os.length), OpC w sb (off + i * 5) os[i]
theorem OpC.fr {S : Nat → Prop} {w w' : World} {sb p : Nat} {o : OpD} (h : OpC w sb p o) (f : Fr S w w') (hS : ∀ k, k < w.heap.size → ¬ S k) : OpC w' sb p o := by
  obtain ⟨ab, cb, h0, h1, h2, h3, h4, h5⟩ := h
  have hl := hS sb (cell_lt h0)
  exact ⟨ab, cb, cell_fr f hl h0, cell_fr f hl h1, cell_fr f hl h2, cell_fr f hl h3, cell_fr f hl h4, h5.fr f fun x ex hl' => hS _ (bs_lt h5 x ex hl')⟩
theorem OpsAt.later {w w' : World} {sa : Option Addr} {os : List OpD} (h : OpsAt w sa os) (hb : Below w.heap.size w w') : OpsAt w' sa os := fun hp => by
  obtain ⟨sb, off, e, hc⟩ := h hp
  exact ⟨sb, off, e, fun i hi => (hc i hi).fr (fr_b hb fun _ => False) fun _ _ => id⟩
/-- An operation that is not large. -/
def Sml (o : OpD) : Prop := o.dat.length ≤ 300 ∧ o.nm.length ≤ 200 ∧ o.tn.length ≤ 200
def LOut (w : World) (os : List OpD) (e : Ending) (w' : World) : Prop := ∃ bl, e = .returned (.bool bl) ∧ (bl = false → os.length ≤ 81 ∧ ∀ o ∈ os, Sml o) ∧ Below w.heap.size w w'

set_option maxHeartbeats 4000000 in
theorem large_d {w : World} {sa : Option Addr} {os : List OpD} {sc : Nat} (h : OpsAt w sa os) (hn : os.length ≤ maxLen) :
    Calls Try.prog 10 #[.slice sa os.length sc] w (LOut w os) := by
  unfold maxLen at hn
  go_enter Try.func10, Try.ntmps10
  go_wp2
  go_loopw [7] (fun i wr => ∃ k : Nat, k ≤ os.length ∧ k ≤ 81 ∧ i = .int .i64 k ∧ (∀ j (hj : j < os.length), j < k → Sml os[j]) ∧ Below w.heap.size w wr) (fun i _ => os.length - (intOf i).toNat)
  case atStart => exact ⟨0, by omega, by omega, rfl, fun j _ hj => by omega, Below.refl _ _⟩
  case round =>
    obtain ⟨k, hk, hk81, rfl, hS, hb⟩ := hrel
    by_cases hlt : k < os.length
    · obtain ⟨sb, off, rfl, hc⟩ := h (by omega)
      obtain ⟨ab, cb, h0, h1, h2, h3, h4, h5⟩ := (hc k hlt).fr (fr_b hb fun _ => False) fun _ _ => id
      have hb1 : Below w.heap.size w (wr.alloc (.cells (opc os[k].kd os[k].nm os[k].tn os[k].n ab os[k].dat.length cb) 37)) := hb.alloc hb.size _
      have kx := (MapKept.heap_alloc wr (.cells (opc os[k].kd os[k].nm os[k].tn os[k].n ab os[k].dat.length cb) 37)).1
      clear hc h5
      go_upto_region 4 with fail
      generalize wr.alloc (.cells (opc os[k].kd os[k].nm os[k].tn os[k].n ab os[k].dat.length cb) 37) = wb at hb1 kx ⊢
      have x1 : wb.cell? ⟨wr.heap.size, 1, none⟩ = some (.string (bstr os[k].nm)) := cell_row kx 1
      have x2 : wb.cell? ⟨wr.heap.size, 2, none⟩ = some (.string (bstr os[k].tn)) := cell_row kx 2
      have x4 : wb.cell? ⟨wr.heap.size, 4, none⟩ = some (.slice ab os[k].dat.length cb) := cell_row kx 4
      have z1 : (bstr os[k].nm).size = os[k].nm.length := rfl
      have z2 : (bstr os[k].tn).size = os[k].tn.length := rfl
      clear h0 h1 h2 h3 h4 kx
      have hyes : LOut w os (.returned (.bool true)) wb := ⟨true, rfl, (nomatch ·), hb1⟩
      by_cases t0 : (80 : Int) < (k : Int)
      · go_wp2
        go_ret
        exact hyes
      · by_cases t1 : (300 : Int) < (os[k].dat.length : Int)
        · go_wp2
          go_ret
          exact hyes
        · by_cases t2 : (200 : Int) < (os[k].nm.length : Int)
          · go_wp2
            go_ret
            exact hyes
          · by_cases t3 : (200 : Int) < (os[k].tn.length : Int)
            · go_wp2
              go_ret
              exact hyes
            · have hS2 : ∀ j (hj : j < os.length), j < k + 1 → Sml os[j] := fun j hj hj2 => by
                by_cases e : j = k
                · subst e; exact ⟨by omega, by omega, by omega⟩
                · exact hS j hj (by omega)
              clear hS
              go_wp2
              exact ⟨⟨k + 1, by omega, by omega, by go_num, hS2, hb1⟩, by simp [intOf]; omega⟩
    · obtain rfl : k = os.length := by omega
      go_wp2
      go_ret
      exact ⟨false, rfl, fun _ => ⟨hk81, fun o ho => by
        obtain ⟨j, hj, rfl⟩ := List.getElem_of_mem ho
        exact hS j hj hj⟩, hb⟩
end Go.Proofs.Ytcmgpllnficmdaa

namespace Go.Proofs.Ytcmgpllnficmdaa
open Go.RowKit Go.Maps

/-- What becomes of the power. -/
def Am (D D' : Dsk) (n : Int) : Prop := D'.quota = D.quota ∧ D'.fs.length ≤ D.fs.length + 1 ∧
  ((D' = D ∧ (D.gone = true → n ≠ 0)) ∨ (D' = goned D ∧ n ≠ 0 ∧ (D.gone = true ∨ (D.armed = true ∧ D.left = 0))) ∨
   (n = 0 ∧ canD D ∧ D'.steps = D.steps + 1 ∧ D'.left = (if D.armed then D.left - 1 else D.left) ∧ D'.armed = D.armed ∧ D'.gone = D.gone))
def AOut (w : World) (base b : Nat) (D : Dsk) (e : Ending) (w' : World) : Prop :=
  ∃ D' n M' fa' fc' n' sm, Am D D' n ∧ e = .returned (.tuple #[rval M' fa' fc', .int .i64 n, .int .i64 n', .bool sm]) ∧ DkAt w' base b D' ∧ Fr (fp b D) w w' ∧ Grow w b D D'
theorem putF_len (nm : List UInt8) (q : Nat) (fs : List Fn) : (putF nm q fs).length ≤ fs.length + 1 := by
  rw [putF, insF_len]
  exact Nat.succ_le_succ (List.length_filter_le _ _)
theorem am_of {D D' : Dsk} {no n : Int} {ok : Dsk → Prop} (h : Oo D no ok D' n) (hok : ok D' → D'.quota = D.quota ∧ D'.fs.length ≤ D.fs.length + 1 ∧ D'.steps = D.steps + 1 ∧ D'.left = (if D.armed then D.left - 1 else D.left) ∧ D'.armed = D.armed ∧ D'.gone = D.gone) : Am D D' n := by
  rcases h with ⟨h1, rfl, rfl⟩ | ⟨_, h2, rfl, rfl⟩ | ⟨_, hc, ho, rfl⟩
  · exact ⟨rfl, by omega, .inl ⟨rfl, fun _ => h1⟩⟩
  · exact ⟨rfl, by simp [goned], .inr (.inl ⟨rfl, by decide, h2⟩)⟩
  · obtain ⟨h1, h2, h3⟩ := hok ho
    exact ⟨h1, h2, .inr (.inr ⟨rfl, hc, h3⟩)⟩
theorem aout_of {w : World} {base b : Nat} {D : Dsk} {no : Int} {ok : Dsk → Prop} {R' : Rd → Int → Prop} (hok : ∀ D', ok D' → D'.quota = D.quota ∧ D'.fs.length ≤ D.fs.length + 1 ∧ D'.steps = D.steps + 1 ∧ D'.left = (if D.armed then D.left - 1 else D.left) ∧ D'.armed = D.armed ∧ D'.gone = D.gone) (e : Ending) (w' : World) (h : DOut w base b D (Oo D no ok) R' e w') : AOut w base b D e w' := by
  obtain ⟨D', n, M', n', fa', fc', X', hR, _, he, hD, _, _, hF, hG⟩ := h
  exact ⟨D', n, M', fa', fc', n', true, am_of hR (hok D'), he, hD, hF, hG⟩
abbrev M0 : Rd := ⟨1000, 0, 0, false, false, []⟩
theorem m0_ok : MOk M0 := ⟨by decide, by decide, by decide, by decide, by simp [usedR], by simp⟩
theorem do_arm {w : World} {base b : Nat} {D : Dsk} {nm tn : List UInt8} {n : Int} {ab : Option Addr} {lb cb : Nat} {zs : List Int} (h : DkAt w base b D) (hst : D.steps < 1000000000) (hlen : D.fs.length < 1000000) (hbase : base ≤ w.heap.size) (hbs : Bs w ab lb zs) (hab : ∀ x, ab = some x → 0 < lb → ¬ fp b D x.block) (hm : lb ≤ 1000000) (hnm : nm.length ≤ 1000000) (htn : tn.length ≤ 1000000) {kd : Int} (k7 : ¬ kd = 7) (k8 : ¬ kd = 8) :
    Calls Try.prog 13 #[pD b, rval M0 none 0, .agg (opc kd nm tn n ab lb cb)] w (AOut w base b D) := by
  have hf : Fs w (fun _ => False) none M0.fs := fun h => absurd h (by simp)
  have hX : ∀ k, (fun _ : Nat => False) k → k < w.heap.size ∧ ¬ fp b D k := fun _ => False.elim
  by_cases k1 : kd = 1
  · subst k1
    refine (do_append h hf hX m0_ok hst hlen hbase hbs hab hm hnm htn).mono (aout_of fun D' ho => ?_)
    rcases ho with ⟨p, v, _, rfl⟩ | ⟨_, q, v, rfl⟩
    · exact ⟨rfl, by simp [stepd], rfl, rfl, rfl, rfl⟩
    · exact ⟨rfl, putF_len _ _ _, rfl, rfl, rfl, rfl⟩
  by_cases k2 : kd = 2
  · subst k2
    refine (do_sync h hf hX m0_ok hst hlen hbase hbs hab hm hnm htn).mono (aout_of fun D' ho => ?_)
    obtain ⟨p, _, rfl⟩ := ho
    exact ⟨rfl, by simp [syncd, stepd], rfl, rfl, rfl, rfl⟩
  by_cases k3 : kd = 3
  · subst k3
    refine (do_cut h hf hX m0_ok hst hlen hbase hbs hab hm hnm htn).mono (aout_of fun D' ho => ?_)
    obtain ⟨p, v, _, rfl⟩ := ho
    exact ⟨rfl, by simp [cutD, stepd], rfl, rfl, rfl, rfl⟩
  by_cases k4 : kd = 4
  · subst k4
    refine (do_rename h hf hX m0_ok hst hlen hbase hbs hab hm hnm htn).mono (aout_of fun D' ho => ?_)
    obtain ⟨p, _, rfl⟩ := ho
    exact ⟨rfl, Nat.le_trans (putF_len _ _ _) (Nat.succ_le_succ (List.length_filter_le _ _)), rfl, rfl, rfl, rfl⟩
  by_cases k5 : kd = 5
  · subst k5
    refine (do_drop h hf hX m0_ok hst hlen hbase hbs hab hm hnm htn).mono (aout_of fun D' ho => ?_)
    obtain ⟨p, _, rfl⟩ := ho
    exact ⟨rfl, Nat.le_succ_of_le (List.length_filter_le _ _), rfl, rfl, rfl, rfl⟩
  refine (do_read h hf m0_ok hbs hm hnm k1 k2 k3 k4 k5 k7 k8).mono ?_
  rintro e w1 ⟨ys, n1, ys', n', hR, _, he, hb⟩
  refine ⟨D, n1, M0, none, 0, n', _, ⟨rfl, by omega, .inl ⟨rfl, fun hg => ?_⟩⟩, he, h.later hb, fr_b hb _, grow_self⟩
  rcases hR with ⟨_, _, rfl⟩ | ⟨h1, _⟩ | ⟨h1, _⟩
  · decide
  · rw [hg] at h1; cases h1
  · rw [hg] at h1; cases h1
end Go.Proofs.Ytcmgpllnficmdaa

namespace Go.Proofs.Ytcmgpllnficmdaa
open Go.RowKit Go.Maps

/-- A disk that was armed for so many steps. -/
structure Arm (st : Int) (k : Nat) (D : Dsk) : Prop where
  q : D.quota = 1000
  l : D.fs.length ≤ k
  a : D.armed = true
  g : D.gone = true → D.steps = st
  s : D.steps + D.left = st
  m : D.steps ≤ k
theorem arm_next {st : Int} {k : Nat} {D D' : Dsk} {n : Int} (h : Arm st k D) (h' : Am D D' n) : Arm st (k + 1) D' := by
  obtain ⟨hq, hl, h1 | ⟨h1, _, h2⟩ | ⟨_, hc, h1, h2, h3, h4⟩⟩ := h'
  · obtain ⟨rfl, _⟩ := h1
    exact ⟨h.q, by have := h.l; omega, h.a, h.g, h.s, by have := h.m; omega⟩
  · subst h1
    refine ⟨h.q, by have := h.l; simp only [goned] at *; omega, h.a, fun _ => ?_, h.s, by have := h.m; simp only [goned]; omega⟩
    rcases h2 with h2 | h2
    · exact h.g h2
    · have := h.s
      simp only [goned]
      omega
  · have ha := h.a
    rw [ha, if_pos rfl] at h2
    refine ⟨hq.trans h.q, by have := h.l; omega, h3.trans ha, fun hg => ?_, by have := h.s; omega, by have := h.m; omega⟩
    rw [h4, hc.1] at hg
    cases hg
theorem arm_gone {D D' : Dsk} {n : Int} (h' : Am D D' n) (hg : D.gone = true) : (n == 0) = false ∧ D'.used = D.used := by
  obtain ⟨_, _, ⟨rfl, h1⟩ | ⟨rfl, h1, _⟩ | ⟨_, hc, _⟩⟩ := h'
  · exact ⟨by simpa using h1 hg, rfl⟩
  · exact ⟨by simpa using h1, rfl⟩
  · rw [hc.1] at hg; cases hg
set_option maxHeartbeats 4000000 in
set_option maxRecDepth 100000 in
theorem armed_walk {w : World} {sa : Option Addr} {os : List OpD} {sc : Nat} (h : OpsAt w sa os) (hn : os.length ≤ maxLen) (st : Int) (hst : st < 9223372036854775808) :
    Calls Try.prog 5 #[.int .i64 st, .slice sa os.length sc] w fun e w' => e = .returned (.bool true) ∧ Below w.heap.size w w' := by
  go_enter Try.func5, Try.ntmps5
  go_wp2_with fail
  refine (alive_t w).mono ?_
  rintro e w1 ⟨rfl, hb1⟩
  go_wp2_with fail
  refine (large_d (h.later hb1) hn).mono ?_
  rintro e w2 ⟨bl, rfl, hbl, hb2⟩
  have hb2 : Below w.heap.size w w2 := hb1.trans (hb2.mono hb1.size)
  clear hb1
  cases bl with
  | true =>
    clear hbl
    go_wp2
    go_ret
    exact ⟨rfl, hb2⟩
  | false =>
    obtain ⟨h81, hsm⟩ := hbl rfl
    clear hbl
    by_cases hneg : st < 0
    · go_wp2
      go_ret
      exact ⟨rfl, hb2⟩
    · go_wp2_with fail
      refine (new_ok w2 1000 (by decide) (by decide)).mono ?_
      rintro e w3 ⟨rfl, hD, hb3⟩
      go_wp2_with fail
      refine (arm_ok hD st (by omega) hst).mono ?_
      rintro e w4 ⟨rfl, hD4, hF4⟩
      have hf3 := fp_ge hD
      have hb4 : Below w.heap.size w w4 := (hb2.trans (hb3.mono hb2.size)).trans (hF4.below _ (by have := hb2.size; have := hb3.size; omega) fun i e => by have := hf3 i e; have := hb2.size; omega)
      have hA0 : Arm st 0 (armD (newD 1000 w2.heap.size) st) := ⟨rfl, Nat.le_refl _, rfl, (nomatch ·), by simp [armD, newD], by simp [armD, newD]⟩
      have hw2 := hb2.size
      clear hb2 hb3 hF4 hf3 hD
      go_wp2
      go_loopw [37] (fun i wr => ∃ (k : Nat) (D : Dsk), k ≤ os.length ∧ i = .int .i64 k ∧ DkAt wr w2.heap.size (w2.heap.size + 1) D ∧ Arm st k D ∧ Below w.heap.size w wr) (fun i _ => os.length - (intOf i).toNat)
      case atStart => exact ⟨0, _, by omega, rfl, hD4, hA0, hb4⟩
      case round =>
        clear hD4 hA0 hb4
        obtain ⟨k, D, hk, rfl, hD, hA, hb⟩ := hrel
        have hblt := fp_lt hD (w2.heap.size + 1) (.inl rfl)
        by_cases hlt : k < os.length
        · obtain ⟨sb, off, rfl, hc⟩ := h (by omega)
          obtain ⟨z1, z2, z3⟩ := hsm os[k] (List.getElem_mem hlt)
          obtain ⟨ab, cb, h0, h1, h2, h3, h4, q5⟩ := hc k hlt
          have hbw : Below w.heap.size w wr := hb
          replace h0 := cell_later hbw h0
          replace h1 := cell_later hbw h1
          replace h2 := cell_later hbw h2
          replace h3 := cell_later hbw h3
          replace h4 := cell_later hbw h4
          have h5 := q5.later hbw
          have hlx := bs_lt q5
          clear hbw q5
          have hb1 : Below w.heap.size w (wr.alloc (.cells (opc os[k].kd os[k].nm os[k].tn os[k].n ab os[k].dat.length cb) 37)) := hb.alloc hb.size _
          have hal : Below wr.heap.size wr (wr.alloc (.cells (opc os[k].kd os[k].nm os[k].tn os[k].n ab os[k].dat.length cb) 37)) := (Below.refl _ _).alloc (Nat.le_refl _) _
          have kx := (MapKept.heap_alloc wr (.cells (opc os[k].kd os[k].nm os[k].tn os[k].n ab os[k].dat.length cb) 37)).1
          clear hc
          go_upto_region 11 with fail
          have hD1 := hD.later hal
          have h51 := h5.later hal
          generalize wr.alloc (.cells (opc os[k].kd os[k].nm os[k].tn os[k].n ab os[k].dat.length cb) 37) = wb at hb1 hal kx hD1 h51 ⊢
          have x0 : wb.cell? ⟨wr.heap.size, 0, none⟩ = some (.int .i64 os[k].kd) := cell_row kx 0
          have x1 : wb.cell? ⟨wr.heap.size, 1, none⟩ = some (.string (bstr os[k].nm)) := cell_row kx 1
          have x2 : wb.cell? ⟨wr.heap.size, 2, none⟩ = some (.string (bstr os[k].tn)) := cell_row kx 2
          have x3 : wb.cell? ⟨wr.heap.size, 3, none⟩ = some (.int .i64 os[k].n) := cell_row kx 3
          have x4 : wb.cell? ⟨wr.heap.size, 4, none⟩ = some (.slice ab os[k].dat.length cb) := cell_row kx 4
          clear h0 h1 h2 h3 h4 kx hD h5
          have hA' : Arm st (k + 1) D := arm_next hA ⟨rfl, by omega, .inl ⟨rfl, fun _ => Int.one_ne_zero⟩⟩
          by_cases k7 : os[k].kd = 7
          · go_wp2
            exact ⟨⟨k + 1, D, by omega, by go_num, hD1, hA', hb1⟩, by simp [intOf]; omega⟩
          by_cases k8 : os[k].kd = 8
          · go_wp2
            exact ⟨⟨k + 1, D, by omega, by go_num, hD1, hA', hb1⟩, by simp [intOf]; omega⟩
          clear hA'
          have k7b : (os[k].kd == 7) = false := by simpa using k7
          have k8b : (os[k].kd == 8) = false := by simpa using k8
          have k7c : decide (os[k].kd = 7) = false := by simpa using k7
          have k8c : decide (os[k].kd = 8) = false := by simpa using k8
          have hsw := hal.size
          have hfg := fp_ge hD1
          have hfl1 := fp_lt hD1
          have hm1 := hA.m
          have hl1 := hA.l
          have hdo := do_arm (n := os[k].n) (cb := cb) hD1 (by omega) (by omega) (by omega) h51 (fun x ex hl e => by have := hlx x ex hl; have := hfg _ e; omega) (by omega) (show os[k].nm.length ≤ 1000000 by omega) (show os[k].tn.length ≤ 1000000 by omega) k7 k8
          have hbd : ∀ w : World, (Instr.build 34 #[(0, .int .i64 1000)]).run Try.prog w = .ok (rval M0 none 0) w := fun _ => by kernel_rfl
          go_wp2_with fail
          refine (down_d hD1).mono ?_
          rintro e wb ⟨rfl, rfl⟩
          go_wp2_with fail
          refine (used_d hD1).mono ?_
          rintro e wb ⟨rfl, rfl⟩
          go_wp2_with fail
          refine hdo.mono ?_
          rintro e w5 ⟨D', n, M', fa', fc', n', sm, hAm, rfl, hD5, hF5, hG⟩
          have hb5 : Below w.heap.size w w5 := hb1.trans (hF5.below _ hb1.size fun i e => by have := hfg i e; omega)
          have hA1 := arm_next hA hAm
          clear hdo x0 x1 x2 x3 x4 hbd hF5
          have hal5 : Below w5.heap.size w5 (w5.alloc (.cells (rcells M' fa' fc') 34)) := (Below.refl _ _).alloc (Nat.le_refl _) _
          have hD6 := hD5.later hal5
          have hb6 : Below w.heap.size w (w5.alloc (.cells (rcells M' fa' fc') 34)) := hb5.alloc hb5.size _
          go_upto_region 15 with fail
          generalize w5.alloc (.cells (rcells M' fa' fc') 34) = w6 at hD6 hb6 hal5 ⊢
          have hle : ¬ st < D'.steps := by have := hA1.s; have := (hD6.lf hA1.a).1; omega
          have hgo := arm_gone hAm
          have hgs := hA1.g
          rcases Bool.eq_false_or_eq_true D.gone with hg | hg <;> rcases Bool.eq_false_or_eq_true D'.gone with hg' | hg'
          · obtain ⟨hn0, hu⟩ := hgo hg
            have hs := hgs hg'
            clear hgo hgs
            go_wp2_with fail
            refine (steps_d hD6).mono ?_
            rintro e w6 ⟨rfl, rfl⟩
            go_wp2_with fail
            refine (used_d hD6).mono ?_
            rintro e w6 ⟨rfl, rfl⟩
            go_wp2_with fail
            refine (down_d hD6).mono ?_
            rintro e w6 ⟨rfl, rfl⟩
            go_wp2_with fail
            refine (steps_d hD6).mono ?_
            rintro e w6 ⟨rfl, rfl⟩
            go_wp2
            exact ⟨⟨k + 1, D', by omega, by go_num, hD6, hA1, hb6⟩, by simp [intOf]; omega⟩
          · obtain ⟨hn0, hu⟩ := hgo hg
            clear hgo hgs
            go_wp2_with fail
            refine (steps_d hD6).mono ?_
            rintro e w6 ⟨rfl, rfl⟩
            go_wp2_with fail
            refine (used_d hD6).mono ?_
            rintro e w6 ⟨rfl, rfl⟩
            go_wp2_with fail
            refine (down_d hD6).mono ?_
            rintro e w6 ⟨rfl, rfl⟩
            go_wp2
            exact ⟨⟨k + 1, D', by omega, by go_num, hD6, hA1, hb6⟩, by simp [intOf]; omega⟩
          · have hs := hgs hg'
            clear hgo hgs
            go_wp2_with fail
            refine (steps_d hD6).mono ?_
            rintro e w6 ⟨rfl, rfl⟩
            go_wp2_with fail
            refine (down_d hD6).mono ?_
            rintro e w6 ⟨rfl, rfl⟩
            go_wp2_with fail
            refine (steps_d hD6).mono ?_
            rintro e w6 ⟨rfl, rfl⟩
            go_wp2
            exact ⟨⟨k + 1, D', by omega, by go_num, hD6, hA1, hb6⟩, by simp [intOf]; omega⟩
          · clear hgo hgs
            go_wp2_with fail
            refine (steps_d hD6).mono ?_
            rintro e w6 ⟨rfl, rfl⟩
            go_wp2_with fail
            refine (down_d hD6).mono ?_
            rintro e w6 ⟨rfl, rfl⟩
            go_wp2
            exact ⟨⟨k + 1, D', by omega, by go_num, hD6, hA1, hb6⟩, by simp [intOf]; omega⟩
        · obtain rfl : k = os.length := by omega
          have hfg := fp_ge hD
          have hcr := crash_d hD 0
          go_wp2_with fail
          refine hcr.mono ?_
          rintro e w5 ⟨rfl, D1, hC, hD5, hF5, hG5⟩
          have hb5 : Below w.heap.size w w5 := hb.trans (hF5.below _ hb.size fun i e => by have := hfg i e; omega)
          have hfg5 := fp_ge hD5
          have hlt5 := fp_lt hD5 (w2.heap.size + 1) (.inl rfl)
          have hm1 := hA.m
          have hl1 := hA.l
          have e1 : (litD D1).steps = D.steps := by rw [hC.1]; rfl
          have e2 : (litD D1).fs = D.fs := by rw [hC.1]; rfl
          have hqt := hD5.qt
          have happ := append_all (cap := 0) (s := ⟨#[109, 111, 114, 101]⟩) (ad := none) (len := 0) (zs := []) hD5 (by decide) ⟨rfl, by simp, fun h => absurd h (by decide)⟩ (by simp) (by omega) (by rw [e2]; omega) (by omega)
          clear hcr hF5 hG5 hD hC
          go_wp2_with fail
          refine (down_d hD5).mono ?_
          rintro e w5 ⟨rfl, rfl⟩
          have hgn : (litD D1).gone = false := rfl
          go_wp2_with fail
          refine happ.mono ?_
          rintro e w7 ⟨D2, n, hR, he, hD2, hF2, hG2⟩
          have hno : noApp (litD D1) [109, 111, 114, 101] 0 = 0 := by
            rw [noApp, if_pos (by decide), if_neg (by omega)]
          obtain rfl : n = 0 := by
            rcases hR with ⟨h1, _⟩ | ⟨_, h1, _⟩ | ⟨_, _, _, h1⟩
            · exact absurd hno h1
            · rcases h1 with h1 | h1
              · cases h1
              · cases h1.1
            · exact h1
          obtain rfl : e = .returned .nilIface := he
          have hb7 : Below w.heap.size w w7 := hb5.trans (hF2.below _ hb5.size fun i e => by have := hfg5 i e; omega)
          clear happ hR hF2
          go_wp2
          go_ret
          exact ⟨rfl, hb7⟩
end Go.Proofs.Ytcmgpllnficmdaa

namespace Go.Proofs.Ytcmgpllnficmdaa
open Go.ChangeShapes Go.WideShapes Go.ChangeAt Go.RowKit

section
variable {H : Type} {enc : TypeId × Value → H} {W : World} {held : Bool}
theorem five {α : Type} : ∀ {l : List α}, l.length = 5 → ∃ a b c d e, l = [a, b, c, d, e]
  | [a, b, c, d, e], _ => ⟨a, b, c, d, e, rfl⟩
/-- Bytes that came in. -/
theorem bs_in {n : Nat} {v : Value} {x : DataW H × List MemPlace} (h : DataW.trod enc Try.prog W 0 (fun _ => true) held n 35 [v] = some x) : ∃ ab lb cb zs, v = .slice ab lb cb ∧ Bs W ab lb zs := by
  rcases open_ints Try.underlying35 Try.underlying5 (by kernel_rfl) h with ⟨hcs, _⟩ | ⟨a, len, cap, zs, hcs, _, hl, hm, hz, _, hc, hw⟩
  · cases hcs
    exact ⟨none, 0, 0, [], rfl, rfl, fun z hz => by simp at hz, fun h => absurd h (by omega)⟩
  · cases hcs
    rw [if_pos rfl] at hz
    refine ⟨some a, len, cap, zs.take len, rfl, by simp; omega, fun z hz' => ?_, fun hp => ?_⟩
    · have := hw z (List.mem_of_mem_take hz')
      simp only [Lit.wf, Bool.and_eq_true, decide_eq_true_eq] at this
      have e1 : IntKind.u8.min = 0 := rfl
      have e2 : IntKind.u8.max = 255 := rfl
      omega
    · obtain ⟨b, off, spot⟩ := a
      obtain rfl : spot = none := by simpa [Addr.add] using World.cell?_spot (hc 0 (by omega))
      refine ⟨b, off, rfl, fun i hi => ?_⟩
      have h1 := hc i (by omega)
      rw [Addr.add_lit] at h1
      rw [h1]
      simp [List.getD_eq_getElem?_getD, hi]
theorem op_in {n p sb : Nat} {cs : List Value} {x : DataW H × List MemPlace} (h1 : W.cells? 0 ⟨sb, p, none⟩ 5 = some cs) (h2 : DataW.trod enc Try.prog W 0 (fun _ => true) held n 37 cs = some x) : ∃ o : OpD, OpC W sb p o := by
  obtain ⟨_, hl, hc⟩ := World.cells?_some h1
  obtain ⟨xs, m, _, _, _, hxl, hf⟩ := DataW.trod_struct Try.underlying37 h2
  obtain ⟨v0, v1, v2, v3, v4, rfl⟩ := five hl
  obtain ⟨y0, y1, y2, y3, y4, rfl⟩ := five hxl
  have c1 : Try.prog.cellsOf 3 = 1 := by kernel_rfl
  have c2 : Try.prog.cellsOf 9 = 1 := by kernel_rfl
  have c3 : Try.prog.cellsOf 35 = 1 := by kernel_rfl
  have g0 : DataW.trod enc Try.prog W 0 (fun _ => true) held m 3 (([v0, v1, v2, v3, v4].drop 0).take (Try.prog.cellsOf 3)) = some y0 := hf 0 _ rfl
  rw [c1] at g0
  replace g0 : DataW.trod enc Try.prog W 0 (fun _ => true) held m 3 [v0] = some y0 := g0
  have g1 : DataW.trod enc Try.prog W 0 (fun _ => true) held m 9 (([v0, v1, v2, v3, v4].drop 1).take (Try.prog.cellsOf 9)) = some y1 := hf 1 _ rfl
  rw [c2] at g1
  replace g1 : DataW.trod enc Try.prog W 0 (fun _ => true) held m 9 [v1] = some y1 := g1
  have g2 : DataW.trod enc Try.prog W 0 (fun _ => true) held m 9 (([v0, v1, v2, v3, v4].drop 2).take (Try.prog.cellsOf 9)) = some y2 := hf 2 _ rfl
  rw [c2] at g2
  replace g2 : DataW.trod enc Try.prog W 0 (fun _ => true) held m 9 [v2] = some y2 := g2
  have g3 : DataW.trod enc Try.prog W 0 (fun _ => true) held m 3 (([v0, v1, v2, v3, v4].drop 3).take (Try.prog.cellsOf 3)) = some y3 := hf 3 _ rfl
  rw [c1] at g3
  replace g3 : DataW.trod enc Try.prog W 0 (fun _ => true) held m 3 [v3] = some y3 := g3
  have g4 : DataW.trod enc Try.prog W 0 (fun _ => true) held m 35 (([v0, v1, v2, v3, v4].drop 4).take (Try.prog.cellsOf 35)) = some y4 := hf 4 _ rfl
  rw [c3] at g4
  replace g4 : DataW.trod enc Try.prog W 0 (fun _ => true) held m 35 [v4] = some y4 := g4
  obtain ⟨kd, e0, _, _⟩ := DataW.trod_int Try.underlying3 g0
  obtain ⟨s1, e1, _, _⟩ := DataW.trod_string Try.underlying9 g1
  obtain ⟨s2, e2, _, _⟩ := DataW.trod_string Try.underlying9 g2
  obtain ⟨nn, e3, _, _⟩ := DataW.trod_int Try.underlying3 g3
  obtain ⟨ab, lb, cb, zs, e4, hb⟩ := bs_in g4
  cases e0; cases e1; cases e2; cases e3; subst e4
  have hz := hb.1
  subst hz
  have k0 := hc 0 (by omega)
  have k1 := hc 1 (by omega)
  have k2 := hc 2 (by omega)
  have k3 := hc 3 (by omega)
  have k4 := hc 4 (by omega)
  rw [Addr.add_lit] at k0 k1 k2 k3 k4
  exact ⟨⟨kd, s1.data.toList, s2.data.toList, nn, zs⟩, ab, cb, by simpa using k0, by simpa using k1, by simpa using k2, by simpa using k3, by simpa using k4, hb⟩
theorem ops_in {n : Nat} {a0 : Option Addr} {len0 cap0 : Nat} {x : DataW H × List MemPlace} (h : DataW.trod enc Try.prog W 0 (fun _ => true) held n 22 (Value.slice a0 len0 cap0).cells.toList = some x) : ∃ os : List OpD, OpsAt W a0 os ∧ os.length = len0 ∧ len0 ≤ maxLen := by
  have c5 : Try.prog.cellsOf 37 = 5 := by kernel_rfl
  rcases Deep.open_slice Try.underlying22 h with ⟨hcs, _⟩ | ⟨a, len, cap, m, k, D, Pl, hcs, _, hl, hm, hmm, _, hx⟩
  · simp [Value.cells] at hcs
    obtain ⟨rfl, rfl, rfl⟩ := hcs
    exact ⟨[], fun h => absurd h (by simp), rfl, Nat.zero_le _⟩
  · simp [Value.cells] at hcs
    obtain ⟨rfl, rfl, rfl⟩ := hcs
    rw [if_pos rfl] at hmm
    subst hmm
    rw [c5] at hx
    obtain ⟨b, off, spot⟩ := a
    by_cases hp : 0 < len0
    · obtain rfl : spot = none := by
        obtain ⟨cs', h1, _⟩ := hx 0 (by omega)
        obtain ⟨_, hl1, hc1⟩ := World.cells?_some h1
        have h2 := hc1 0 (by omega)
        rw [List.getElem?_eq_getElem (by omega)] at h2
        simpa [Addr.add] using World.cell?_spot h2
      have hex : ∀ i, i < len0 → ∃ o : OpD, OpC W b (off + i * 5) o := fun i hi => by
        obtain ⟨cs', h1, h2⟩ := hx i (by omega)
        rw [Addr.add_lit] at h1
        exact op_in h1 h2
      haveI : Inhabited OpD := ⟨⟨0, [], [], 0, []⟩⟩
      obtain ⟨f, hf⟩ := Deep.choose_lt hex
      refine ⟨(List.range len0).map f, fun _ => ⟨b, off, rfl, fun i hi => ?_⟩, by simp, by omega⟩
      simp only [List.length_map, List.length_range] at hi
      simpa using hf i hi
    · obtain rfl : len0 = 0 := by omega
      exact ⟨[], fun h => absurd h (by simp), rfl, Nat.zero_le _⟩
end
end Go.Proofs.Ytcmgpllnficmdaa

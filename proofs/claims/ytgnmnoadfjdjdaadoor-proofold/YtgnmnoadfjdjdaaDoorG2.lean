/- W3, X6, Q1, N0, O1, O2, Som1, O3, Som2, Som3, Som4, Som5, Sum5: laid together. -/
import Derived.WalkKit
import Derived.ChangeKeysEq
import Derived.Deep.OwnRows
import Derived.Laws.CopyOwn
import Derived.Laws.Bits64b
import Derived.Laws.BitsAllLaws
import Derived.Laws.CopyRow
import Derived.Maps.AppendAt
import Derived.OwnWalk
import Derived.Deep.RegionLaw
import Derived.Deep.Cut
import Derived.Deep.CutRange
import Derived.Deep.RegionWith
import Derived.Deep.QuietTactic
import Derived.BigQuiet
import Derived.BigRegion
import Derived.Test.YtgnmnoadfjdjdaaDoorG1
namespace Go.Proofs.YtgnmnoadfjdjdaaDoor
open Go.RowKit

theorem run_items {P : Program} (e : TypeId) (k k' : IntKind) (hag : ∀ w, (isAgg e).run P w = .ok false w) (he : P.underlying e = some (.int k')) (X Y : Array Value) (x y : Nat → Int) (d : Nat) (w : World) :
    ∀ is : List Nat, (∀ i ∈ is, X[i]? = some (.int k (x i))) → (∀ i ∈ is, Y[i]? = some (.int k (y i))) →
      (Op.eqItems (d + 1) e 1 X Y is).run P w = .ok (decide (∀ i ∈ is, x i = y i)) w := by
  intro is
  induction is with
  | nil => intro _ _; simp [Op.eqItems]
  | cons i is ih =>
    intro hx hy
    have h1 := hx i (by simp); have h2 := hy i (by simp)
    have ih' := ih (fun j hj => hx j (by simp [hj])) (fun j hj => hy j (by simp [hj]))
    simp only [Op.eqItems, part, Sem.run_bind, hag, Result.andThen_ok, Nat.mul_one, h1, h2, Bool.false_eq_true, if_false, Sem.run_pure, run_equalIn_int w d e k k' _ _ he]
    by_cases hxy : x i = y i
    · simp only [hxy, beq_self_eq_true, Bool.not_true, Bool.false_eq_true, if_false, ih']
      simp [hxy]
    · have : (x i == y i) = false := by simp [hxy]
      simp only [this, Bool.not_false, if_true, Sem.run_pure]
      simp [hxy]

theorem eq_ints {P : Program} {t e n : Nat} {k k' : IntKind} {inf : TypeInfo} (hu : P.underlying t = some (.array n e)) (hi : P.info? e = some inf) (hc : P.cellsOf e = 1) (he : P.underlying e = some (.int k')) (hag : ∀ w, (isAgg e).run P w = .ok false w)
    (X Y : Array Value) (x y : Nat → Int) (hx : ∀ i, i < n → X[i]? = some (.int k (x i))) (hy : ∀ i, i < n → Y[i]? = some (.int k (y i))) (w : World) :
    (Op.equalIn 10000 t (.agg X) (.agg Y)).run P w = .ok (decide (∀ i, i < n → x i = y i)) w := by
  have h := run_equalIn_array w 9999 X Y hu hi
  rw [show (10000 : Nat) = 9999 + 1 from rfl, h, hc, run_items e k k' hag he X Y x y 9998 w (List.range n) (fun i hi => hx i (by simpa using hi)) (fun i hi => hy i (by simpa using hi))]
  congr 1
  simp
end Go.Proofs.YtgnmnoadfjdjdaaDoor

namespace Go.Proofs.YtgnmnoadfjdjdaaDoor
open Go.RowKit

section
variable {x u : Operand}
theorem cv_iu {n : Nat} (h : n < 9223372036854775808) (w : World) : (convert 3 44 (.int .i64 ((n : Nat) : Int))).run Tryd.prog w = .ok (.int .u64 ((n : Nat) : Int)) w := by
  have h1 : IntKind.u64.wrap (n : Int) = (n : Int) := by rw [IntKind.wrap_u64]; omega
  simp [convert, go_sem, h1]
theorem cv_bi {n : Nat} (h : n < 256) (w : World) : (convert 5 3 (.int .u8 ((n : Nat) : Int))).run Tryd.prog w = .ok (.int .i64 ((n : Nat) : Int)) w := by
  have h1 := wrapI (n : Int) (by omega) (by omega)
  simp [convert, go_sem, h1]
theorem sr_b {m r : Nat} (hr : r < 8) (w : World) : (do eqGuard .shr 5 x u (.int .u8 ((m : Nat) : Int)) (.int .u64 ((r : Nat) : Int)); binOp .shr 5 (.int .u8 ((m : Nat) : Int)) (.int .u64 ((r : Nat) : Int))).run Tryd.prog w = .ok (.int .u8 ((m / 2 ^ r : Nat) : Int)) w := by
  simp [eqGuard, binOp, go_sem]
theorem sr_i {m r : Nat} (hr : r < 64) (w : World) : (do eqGuard .shr 3 x u (.int .i64 ((m : Nat) : Int)) (.int .u64 ((r : Nat) : Int)); binOp .shr 3 (.int .i64 ((m : Nat) : Int)) (.int .u64 ((r : Nat) : Int))).run Tryd.prog w = .ok (.int .i64 ((m / 2 ^ r : Nat) : Int)) w := by
  simp [eqGuard, binOp, go_sem]
theorem sl_b {r : Nat} (hr : r < 8) (w : World) : (do eqGuard .shl 5 x u (.int .u8 ((1 : Nat) : Int)) (.int .u64 ((r : Nat) : Int)); binOp .shl 5 (.int .u8 ((1 : Nat) : Int)) (.int .u64 ((r : Nat) : Int))).run Tryd.prog w = .ok (.int .u8 ((2 ^ r : Nat) : Int)) w := by
  have h1 : IntKind.u8.wrap (2 ^ r) = 2 ^ r := by
    obtain rfl | rfl | rfl | rfl | rfl | rfl | rfl | rfl : r = 0 ∨ r = 1 ∨ r = 2 ∨ r = 3 ∨ r = 4 ∨ r = 5 ∨ r = 6 ∨ r = 7 := by omega
    all_goals rfl
  simp [eqGuard, binOp, go_sem, h1]
theorem ad_b {m n : Nat} (h : m + n < 256) (w : World) : (do eqGuard .add 5 x u (.int .u8 ((m : Nat) : Int)) (.int .u8 ((n : Nat) : Int)); binOp .add 5 (.int .u8 ((m : Nat) : Int)) (.int .u8 ((n : Nat) : Int))).run Tryd.prog w = .ok (.int .u8 ((m + n : Nat) : Int)) w := by
  have h1 : IntKind.u8.wrap ((m : Int) + (n : Int)) = ((m + n : Nat) : Int) := by rw [IntKind.wrap_u8]; omega
  simp [eqGuard, binOp, go_sem, h1]
end
theorem ld_k {t0 : TypeId} {i : Nat} {F : Nat → Nat} (hi : i < 32) (w : World) (q : Nat) (h : w.heap[q]? = some (.cells (ck F) t0 (0, 0))) : (Instr.loadAt 5 (.pointer (some ⟨q, i, none⟩))).run Tryd.prog w = .ok (.int .u8 ((F i : Nat) : Int)) w := by
  have h1 : w.cell? ⟨q, i, none⟩ = some (.int .u8 ((F i : Nat) : Int)) := by
    rw [cell_of_row _ _ _ _ _ _ h]; exact arr_get _ _ _ hi
  simp [Instr.loadAt, Instr.sureAddr, go_sem, h1]
theorem ck_set (F : Nat → Nat) (i v : Nat) : (ck F).setIfInBounds i (.int .u8 ((v : Nat) : Int)) = ck (updN F i v) := by
  unfold ck
  rw [arr_set]
  refine arr_congr fun j _ => ?_
  unfold upd updN
  by_cases h : j = i <;> simp [h]
theorem ck_congr {F G : Nat → Nat} (h : ∀ i, i < 32 → F i = G i) : ck F = ck G := arr_congr fun i hi => by rw [h i hi]
theorem st_k {t0 : TypeId} {i v : Nat} {F : Nat → Nat} (hi : i < 32) (w : World) (q : Nat) (h : w.heap[q]? = some (.cells (ck F) t0 (0, 0))) : (Instr.storeAt 5 (.pointer (some ⟨q, i, none⟩)) (.int .u8 ((v : Nat) : Int))).run Tryd.prog w = .ok () (w.setRow q (ck (updN F i v))) := by
  have h1 : w.cell? ⟨q, i, none⟩ = some (.int .u8 ((F i : Nat) : Int)) := by
    rw [cell_of_row _ _ _ _ _ _ h]; exact arr_get _ _ _ hi
  have h2 : w.setCell ⟨q, i, none⟩ (.int .u8 ((v : Nat) : Int)) = w.setRow q (ck (updN F i v)) := by rw [set_row h, ck_set]
  have h3 : w.frozen? ⟨q, i, none⟩ = false := by
    simp [World.frozen?, h]
  simp [Instr.storeAt, Instr.sureAddr, go_sem, h1, h2, h3]
theorem ck_one (F : Nat → Nat) : (ck F).all (·.oneCell') = true := by
  rw [Array.all_eq_true_iff_forall_mem]
  intro v hv
  obtain ⟨i, hi⟩ := Array.getElem?_of_mem hv
  have hl : i < 32 := by have := (Array.getElem?_eq_some_iff.1 hi).1; rwa [ck_size] at this
  rw [ck, arr_get _ _ _ hl] at hi
  cases hi; rfl
theorem ck_zero : ck (fun _ => 0) = ⟨List.replicate 32 (.int .u8 0)⟩ := arr_rep (fun _ _ => rfl)
end Go.Proofs.YtgnmnoadfjdjdaaDoor

namespace Go.Proofs.YtgnmnoadfjdjdaaDoor
open Go.RowKit

/-- A slice of bytes that reads so. -/
def Bs (w : World) (a : Option Addr) (len : Nat) (f : Nat → Nat) : Prop :=
  (∀ i, f i < 256) ∧ (0 < len → ∃ b off, a = some ⟨b, off, none⟩ ∧ ∀ i, i < len → w.cell? ⟨b, off + i, none⟩ = some (.int .u8 ((f i : Nat) : Int)))
theorem cell_lt {w : World} {p : Addr} {v : Value} (h : w.cell? p = some v) : p.block < w.heap.size := by
  unfold World.cell? at h
  rcases Nat.lt_or_ge p.block w.heap.size with h1 | h1
  · exact h1
  · rw [Array.getElem?_eq_none h1] at h; cases h
theorem cell_later {w w' : World} {p : Addr} {v : Value} (hb : Below w.heap.size w w') (h : w.cell? p = some v) : w'.cell? p = some v := (hb.cell (cell_lt h)).trans h
theorem Bs.later {w w' : World} {a : Option Addr} {len : Nat} {f : Nat → Nat} (h : Bs w a len f) (hb : Below w.heap.size w w') : Bs w' a len f :=
  ⟨h.1, fun hl => by
    obtain ⟨b, off, e, hc⟩ := h.2 hl
    exact ⟨b, off, e, fun i hi => cell_later hb (hc i hi)⟩⟩
theorem bs_key {w : World} {q : Nat} {f : Nat → Nat} {t : TypeId} {fr : Nat × Nat} (hf : ∀ i, f i < 256) (h : w.heap[q]? = some (.cells (ck f) t fr)) : Bs w (some ⟨q, 0, none⟩) 32 f :=
  ⟨hf, fun _ => ⟨q, 0, rfl, fun i hi => by rw [Nat.zero_add, cell_of_row _ _ _ _ _ _ h]; exact arr_get _ _ _ hi⟩⟩

theorem info_u8 : (Tryd.prog.info? 5).map (fun i => (i.zero, i.size, i.bytes)) = some (some (.int .u8 0), 1, 1) := by kernel_rfl

/-- The cells that are copied. -/
def bvs (len : Nat) (f : Nat → Nat) : List Value := (List.range len).map fun i => .int .u8 ((f i : Nat) : Int)
theorem bvs_len (len : Nat) (f : Nat → Nat) : (bvs len f).length = len := by simp [bvs]
theorem bvs_get {len i : Nat} (f : Nat → Nat) (h : i < len) : (bvs len f)[i]? = some (.int .u8 ((f i : Nat) : Int)) := by simp [bvs, h]
theorem bvs_one (len : Nat) (f : Nat → Nat) : ∀ v ∈ bvs len f, v.oneCell' = true := by
  intro v hv
  simp only [bvs, List.mem_map] at hv
  obtain ⟨i, _, rfl⟩ := hv
  rfl

end Go.Proofs.YtgnmnoadfjdjdaaDoor

namespace Go.Proofs.YtgnmnoadfjdjdaaDoor
open Go.RowKit Go.Maps

section
variable {P : Program} {W0 : World} {s : List SV} {m : List Blk} {β : Nat → Nat} {a : Act} {w : World} {q : Nat}
theorem s_ip {f : FuncId} {fn : Func} {c : Code} {args : Array Value} {R : Ending → World → Prop} {n : Nat} {cc : Array Value} {t0 : TypeId} (hf : P.funcs[f]? = some fn) (hn : fn.ntmps = n) (hb : fn.body = some c) (hq : W0.heap[q]? = some (.cells cc t0 (0, 0))) (s : List SV) (h : ∀ β a, St (wdx W0 q) (ov (s ++ List.replicate (n - s.length) uu) []) [(cc, t0)] β a W0 → c.wp P (bodyPost P fn R) a W0)
    (hs : (args ++ Array.replicate (n - args.size) undef) = ((s ++ List.replicate (n - s.length) uu).map (den fun _ => q)).toArray := by kernel_rfl) (hl : liveB (s ++ List.replicate (n - s.length) uu) 1 = true := by kernel_rfl) : Calls P f args W0 R := by
  refine calls_of_wp hf hb ?_
  rw [hn, hs]
  refine h (fun _ => q) _ (St.o0 ⟨rfl, ⟨rfl, rfl, rfl, Nat.le_refl _, fun _ _ => rfl⟩, fun b c hc => ?_, fun b _ hS => hS.2 rfl, fun b c hb hc _ => ?_, live_of hl, fun b r hb => ?_⟩)
  · match b, hc with
    | 0, hc => cases hc; exact hq
    | b + 1, hc => simp at hc
  · simp at hb hc; omega
  · match b, hb with
    | 0, hb => cases hb; exact ⟨by simp, rfl⟩
    | b + 1, hb => cases hb
theorem St.wrote {cc : Array Value} {t0 : TypeId} {r : List Blk} (h : St (wdx W0 q) s ((cc, t0) :: r) β a w) : Wrt W0 w q cc t0 := by
  have hq := (h.pin 0 q rfl).2
  exact ⟨h.bel.os, h.bel.tape, h.bel.output, h.bel.size, fun k hk hne => h.bel.block k ⟨hk, hne⟩, by rw [← hq]; exact h.row 0 _ rfl⟩
theorem wrt_same {w w' : World} {g : Nat} {c : Array Value} {t : TypeId} (h : Wrt w w' g c t) (hg : w.heap[g]? = some (.cells c t (0, 0))) : Below w.heap.size w w' :=
  ⟨h.os, h.tape, h.output, h.size, fun k hk => by
    by_cases e : k = g
    · subst e; rw [h.row, hg]
    · exact h.block k hk e⟩
/-- Leaving with what a slot holds, the block as it was. -/
theorem s_rq {fn : Func} {R : Ending → World → Prop} {t : Tmp} {v : Value} {cc : Array Value} {t0 : TypeId} {r : List Blk} (h : St (wdx W0 q) s ((cc, t0) :: r) β a w) (hq : W0.heap[q]? = some (.cells cc t0 (0, 0))) (hr : fn.results = #[.tmp t]) (hR : Below W0.heap.size W0 w → R (.returned v) w) (ht : Nat.blt t s.length = true := by kernel_rfl) (hs : slot s t = .inl v := by kernel_rfl) : bodyPost P fn R .ret a w := by
  have hb := wrt_same h.wrote hq
  have h1 := h.eval ht hs
  refine bodyPost_ret (v := v) ?_ ?_ (hR hb)
  · simp only [results, hr]
    have h2 : a.tmps[t]?.getD undef = v := by
      have := h1; simp only [Act.eval] at this
      rw [← this, h.tm]; simp [Array.getD_eq_getD_getElem?]
    simp [h2]
  · rw [h.tm]
end
section
variable {P : Program} {W0 : World} {s : List SV} {m : List Blk} {β : Nat → Nat} {a : Act} {w : World} {q : Nat}
theorem s_rqc {fn : Func} {R : Ending → World → Prop} {t b : Nat} {ty t0 t1 : TypeId} {cc c1 : Array Value} {d : TypeDesc} {r : List Blk} (h : St (wdx W0 q) s ((cc, t0) :: r) β a w) (hq : W0.heap[q]? = some (.cells cc t0 (0, 0))) (hr : fn.results = #[.cell t ty]) (hu : P.underlying ty = some d) (hR : Below W0.heap.size W0 w → R (.returned (.agg c1)) w) (hi : (P.info? ty).map (·.size) = some c1.size := by kernel_rfl)
    (ht : Nat.blt t s.length = true := by kernel_rfl) (hs : slot s t = .inr (b, pt 0) := by kernel_rfl) (hm : ((cc, t0) :: r)[b]? = some (c1, t1) := by kernel_rfl) (hd : (match d with | .struct _ | .array _ _ => true | _ => false) = true := by rfl) : bodyPost P fn R .ret a w := by
  have hb := wrt_same h.wrote hq
  have ht := Nat.le_of_ble_eq_true ht
  have h1 := h.row b _ hm
  have hl := run_loadVar_row (P := P) w (β b) t1 ty c1 (0, 0) _ h1 hu hd hi
  refine bodyPost_ret (v := .agg c1) ?_ ?_ (hR hb)
  · have h2 : a.tmps[t]?.getD undef = .pointer (some ⟨β b, 0, none⟩) := by
      rw [h.tm]
      unfold slot at hs
      have ht' : t < s.length := ht
      simp [ht'] at hs ⊢
      rw [hs]; rfl
    simp only [results, hr]
    simp [h2, asAddr, hl]
  · rw [h.tm]
theorem s_rn {fn : Func} {R : Ending → World → Prop} {cc : Array Value} {t0 : TypeId} {r : List Blk} (h : St (wdx W0 q) s ((cc, t0) :: r) β a w) (hr : fn.results = #[]) (hR : Wrt W0 w q cc t0 → R (.returned (.tuple #[])) w) : bodyPost P fn R .ret a w := by
  refine bodyPost_ret (v := .tuple #[]) ?_ ?_ (hR h.wrote)
  · simp [results, hr]
  · rw [h.tm]
theorem s_re {fn : Func} {R : Ending → World → Prop} {cc : Array Value} {t0 : TypeId} {r : List Blk} (h : St (wdx W0 q) s ((cc, t0) :: r) β a w) (hr : fn.results = #[]) (hR : Wrt W0 w q cc t0 → R (.returned (.tuple #[])) w) : bodyPost P fn R .normal a w :=
  show bodyPost P fn R .ret a w from s_rn h hr hR
end
theorem w64 (z : Int) : IntKind.u64.wrap z = z % 18446744073709551616 := by simp [IntKind.wrap, IntKind.bits, IntKind.signed]
def B64 : Nat := 18446744073709551616
theorem B64_i : ((B64 : Nat) : Int) = 18446744073709551616 := rfl
def i3 (a b c : Nat) : Array Value := #[.int .i64 ((a : Nat) : Int), .int .i64 ((b : Nat) : Int), .int .i64 ((c : Nat) : Int)]
theorem i3_size (a b c : Nat) : (i3 a b c).size = 3 := rfl
theorem bx3 {a b c : Nat} (w : World) : (Instr.box 116 (.agg (i3 a b c))).run Tryd.prog w = .ok (.pointer (some ⟨w.heap.size, 0, none⟩)) (w.alloc (.cells (i3 a b c) 116)) := bx_agg w
theorem ld3 {a b c i v : Nat} (t0 : TypeId) (hi : (i3 a b c)[i]? = some (.int .i64 ((v : Nat) : Int))) (w : World) (q : Nat) (h : w.heap[q]? = some (.cells (i3 a b c) t0 (0, 0))) : (Instr.loadAt 3 (.pointer (some ⟨q, i, none⟩))).run Tryd.prog w = .ok (.int .i64 ((v : Nat) : Int)) w := by
  have h1 : w.cell? ⟨q, i, none⟩ = some (.int .i64 ((v : Nat) : Int)) := by rw [cell_of_row _ _ _ _ _ _ h]; exact hi
  simp [Instr.loadAt, Instr.sureAddr, go_sem, h1]
theorem ix3 {i : Nat} (hi : i < 3) (w : World) (q : Nat) : (Instr.indexAt 116 (.pointer (some ⟨q, 0, none⟩)) (.int .i64 ((i : Nat) : Int))).run Tryd.prog w = .ok (.pointer (some ⟨q, i, none⟩)) w := by
  simp [Instr.indexAt, go_sem, hi, addr_add]
def au (n : Nat) (F : Nat → Nat) : Array Value := arr n fun i => .int .u64 ((F i : Nat) : Int)
theorem au_size (n : Nat) (F : Nat → Nat) : (au n F).size = n := arr_size _ _
theorem au_set (n : Nat) (F : Nat → Nat) (i v : Nat) : (au n F).setIfInBounds i (.int .u64 ((v : Nat) : Int)) = au n (updN F i v) := by
  unfold au
  rw [arr_set]
  refine arr_congr fun j _ => ?_
  unfold upd updN
  split <;> rfl
theorem au_one (n : Nat) (F : Nat → Nat) : (au n F).all (·.oneCell') = true := arr_one
theorem ld_au {t0 : TypeId} {n i : Nat} {F : Nat → Nat} (hi : i < n) (w : World) (q : Nat) (h : w.heap[q]? = some (.cells (au n F) t0 (0, 0))) : (Instr.loadAt 102 (.pointer (some ⟨q, i, none⟩))).run Tryd.prog w = .ok (.int .u64 ((F i : Nat) : Int)) w := by
  have h1 : w.cell? ⟨q, i, none⟩ = some (.int .u64 ((F i : Nat) : Int)) := by
    rw [cell_of_row _ _ _ _ _ _ h]; exact arr_get _ _ _ hi
  simp [Instr.loadAt, Instr.sureAddr, go_sem, h1]
theorem st_cell {t0 : TypeId} {c c' : Array Value} {i v : Nat} {x : Value} (hi : c[i]? = some x) (hc : c.setIfInBounds i (.int .u64 ((v : Nat) : Int)) = c') (w : World) (q : Nat) (h : w.heap[q]? = some (.cells c t0 (0, 0))) : (Instr.storeAt 102 (.pointer (some ⟨q, i, none⟩)) (.int .u64 ((v : Nat) : Int))).run Tryd.prog w = .ok () (w.setRow q c') := by
  have h1 : w.cell? ⟨q, i, none⟩ = some x := by rw [cell_of_row _ _ _ _ _ _ h]; exact hi
  have h2 : w.setCell ⟨q, i, none⟩ (.int .u64 ((v : Nat) : Int)) = w.setRow q c' := by rw [set_row h, hc]
  have h3 : w.frozen? ⟨q, i, none⟩ = false := by
    simp [World.frozen?, h]
  simp [Instr.storeAt, Instr.sureAddr, go_sem, h1, h2, h3]
theorem st_au {t0 : TypeId} {n i v : Nat} {F : Nat → Nat} (hi : i < n) (w : World) (q : Nat) (h : w.heap[q]? = some (.cells (au n F) t0 (0, 0))) : (Instr.storeAt 102 (.pointer (some ⟨q, i, none⟩)) (.int .u64 ((v : Nat) : Int))).run Tryd.prog w = .ok () (w.setRow q (au n (updN F i v))) :=
  st_cell (arr_get _ _ _ hi) (au_set _ _ _ _) w q h
theorem alPl (w : World) : (Instr.alloc 118 true (.tuple #[])).run Tryd.prog w = .ok (.pointer (some ⟨w.heap.size, 0, none⟩)) (w.alloc (.cells (ai 14 fun _ => 0) 118)) := by
  rw [ai_zero]
  simp [Instr.alloc, go_sem]
section
variable {P : Program} {W : Wd} {ops : Array Oper} {s0 s1 : List SV} {z : List Blk} {y : List (Array Value)} {o : Oper}
theorem k_s2 {t : TypeId} {p d : Nat} {x u : Operand} (b off : Nat) (fm : Fm) (x1 u1 : Value) (ho : o.op = .slice t (.tmp p) (some x) (some u) none) (hd : o.dst = some d) (hf : ∀ (w : World) (q : Nat), (Instr.sliceAt t (.pointer (some ⟨q, off, none⟩)) (some x1) (some u1) none).run P w = .ok (fv fm q) w)
    (hw : wantF ops s1 o = true := by kernel_rfl) (hpx : plainB s1 x = true := by kernel_rfl) (hx1 : evS s1 x = x1 := by kernel_rfl) (hpu : plainB s1 u = true := by kernel_rfl) (hu1 : evS s1 u = u1 := by kernel_rfl) (hp : slot s1 p = .inr (b, pt off) := by kernel_rfl) (hs : slot s1 d = .inr (b, fm) := by kernel_rfl) : Ok1 P W ops s0 s1 z y o ⟨none, none, none, false⟩ := by
  have hm : p ∈ tmpsOf o := mem_tmps (by rw [ho]; simp [Op.operands])
  refine Or.inl ⟨hw, ⟨?_, fun b h => by simp at h, fun b _ h => by simp at h, ?_⟩⟩
  · rintro b' (h | h | ⟨_, d', off', h1, h2⟩)
    · simp at h
    · simp at h
    · rw [hd] at h1; cases h1; rw [hs] at h2; cases h2; exact ⟨p, hm, _, hp⟩
  · intro β a w ha hb hr hns K Q hK
    have h3 : a.eval (.tmp p) = .pointer (some ⟨β b, off, none⟩) := by rw [ha p hm, hp]; rfl
    have h1 : a.eval x = x1 := by rw [← hx1]; exact ev_plain ha (by rw [ho]; simp [Op.operands]) hpx
    have h2 : a.eval u = u1 := by rw [← hu1]; exact ev_plain ha (by rw [ho]; simp [Op.operands]) hpu
    unfold Oper.wp
    simp only [execOp, ho, h3, h1, h2, Option.map_none, Option.map_some, Sem.run_bind, hf w (β b), Result.andThen_ok, Sem.run_pure, Oper.upon_value]
    exact hK _ _ ⟨fun d' h => by rw [hd] at h; cases h; rw [hs]; rfl, Below.refl _ _⟩
theorem k_lb {p : Nat} {tys : Array TypeId} {d : Tmp} (b off n c : Nat) (ho : o.op = .call { callee := .builtin .len, args := #[.tmp p], argTypes := tys }) (hd : o.dst = some d) (hr : ∀ (w : World) (ad : Option Addr), (Builtin.len_ tys o.type #[.slice ad n c]).run P w = .ok (.int .i64 ((n : Nat) : Int)) w)
    (hw : wantF ops s1 o = true := by kernel_rfl) (hp : slot s1 p = .inr (b, sl off n c) := by kernel_rfl) (hs : slot s1 d = .inl (.int .i64 ((n : Nat) : Int)) := by kernel_rfl) : Ok1 P W ops s0 s1 z y o ⟨none, none, none, false⟩ := by
  have hm : p ∈ tmpsOf o := mem_tmps (by rw [ho]; simp [Op.operands, Call.operands])
  refine ok_val hw hd hs (fun β a w ha => ?_)
  have h1 : a.eval (.tmp p) = .slice (some ⟨β b, off, none⟩) n c := by rw [ha p hm, hp]; rfl
  simp [execOp, ho, resolve, invoke, builtin, h1, hr]
end
theorem len_b {ad : Option Addr} {n c : Nat} (ty : TypeId) (w : World) : (Builtin.len_ #[97] ty #[.slice ad n c]).run Tryd.prog w = .ok (.int .i64 ((n : Nat) : Int)) w := by
  simp [Builtin.len_, go_sem]
theorem sl_pc {lo hi n c : Nat} (h1 : lo + n = hi) (h2 : lo + c = 128) (h3 : hi ≤ 128) (h0 : 0 < n) (w : World) (q : Nat) : (Instr.sliceAt 119 (.pointer (some ⟨q, 22, none⟩)) (some (.int .i64 ((lo : Nat) : Int))) (some (.int .i64 ((hi : Nat) : Int))) none).run Tryd.prog w = .ok (fv (sl (22 + lo) n c) q) w := by
  have e1 : n = hi - lo := by omega
  have e2 : c = 128 - lo := by omega
  subst e1 e2
  have h4 : lo ≤ hi := by omega
  have h5 : (hi : Int) ≤ 128 := by omega
  have h6 : ¬ 128 = lo := by omega
  simp [fv, Instr.sliceAt, go_sem, h4, h5, h6]
theorem ix_pc {off n c i : Nat} (hi : i < n) (w : World) (q : Nat) : (Instr.indexAt 97 (fv (sl off n c) q) (.int .i64 ((i : Nat) : Int))).run Tryd.prog w = .ok (.pointer (some ⟨q, off + i, none⟩)) w := by
  simp [fv, Instr.indexAt, go_sem, hi]
theorem Wrt.trans {w w1 w2 : World} {g : Nat} {c c1 : Array Value} {t t1 : TypeId} (h : Wrt w w1 g c t) (k : Wrt w1 w2 g c1 t1) : Wrt w w2 g c1 t1 :=
  ⟨k.os.trans h.os, k.tape.trans h.tape, k.output.trans h.output, Nat.le_trans h.size k.size, fun i hi hn => (k.block i (Nat.lt_of_lt_of_le hi h.size) hn).trans (h.block i hi hn), k.row⟩
theorem Wrt.later {w w1 w2 : World} {g : Nat} {c : Array Value} {t : TypeId} (h : Wrt w w1 g c t) (hg : g < w1.heap.size) (k : Below w1.heap.size w1 w2) : Wrt w w2 g c t :=
  ⟨k.os.trans h.os, k.tape.trans h.tape, k.output.trans h.output, Nat.le_trans h.size k.size, fun i hi hn => (k.block i (Nat.lt_of_lt_of_le hi h.size)).trans (h.block i hi hn), (k.block g hg).trans h.row⟩
theorem Wrt.start {w : World} {g : Nat} {c : Array Value} {t : TypeId} (h : w.heap[g]? = some (.cells c t (0, 0))) : Wrt w w g c t := ⟨rfl, rfl, rfl, Nat.le_refl _, fun _ _ _ => rfl, h⟩
theorem wrt_cell {w : World} {g : Nat} {c : Array Value} {t : TypeId} (h : w.heap[g]? = some (.cells c t (0, 0))) (i : Nat) (v : Value) : Wrt w (w.setCell ⟨g, i, none⟩ v) g (c.setIfInBounds i v) t := by
  refine ⟨rfl, rfl, rfl, by simp, fun k _ hk => Below.heap_setCell _ _ _ _ (by simpa using hk), ?_⟩
  simp [World.setCell, h, Array.getElem?_modify]
theorem below_dN (w : World) (n : Nat) : Below w.heap.size w (w.drewN n) := ⟨rfl, rfl, rfl, Nat.le_refl _, fun _ _ => rfl⟩
theorem froz_dg {w : World} {q : Nat} {c : Array Value} {t : TypeId} (h : w.heap[q]? = some (.cells c t (0, 0))) (i : Nat) : w.frozen? ⟨q, i, none⟩ = false := by simp [World.frozen?, h]
/-- What is left of a slice of bytes. -/
theorem from_bs {w : World} {a : Option Addr} {m n cap : Nat} {f : Nat → Nat} (h : Bs w a m f) (hm : 0 < m) (hn : n ≤ m) (hc : m ≤ cap) : ∃ a', (∀ u : World, (Instr.sliceAt 97 (.slice a m cap) (some (.int .i64 ((n : Nat) : Int))) none none).run Tryd.prog u = .ok (.slice a' (m - n) (cap - n)) u) ∧ Bs w a' (m - n) (fun i => f (n + i)) ∧ ∀ x y, a = some x → a' = some y → y.block = x.block := by
  obtain ⟨b, off, rfl, hcl⟩ := h.2 hm
  refine ⟨if cap = n then some ⟨b, off, none⟩ else some ⟨b, off + n, none⟩, fun u => ?_, ⟨fun i => h.1 _, fun hl => ?_⟩, fun x y e1 e2 => ?_⟩
  · have h1 : (n : Int) ≤ (m : Int) := by omega
    by_cases e : cap = n
    · subst e
      simp [Instr.sliceAt, go_sem, h1]
    · simp [Instr.sliceAt, go_sem, h1, e]
  · refine ⟨b, off + n, if_neg (by omega), fun i hi => ?_⟩
    have := hcl (n + i) (by omega)
    rwa [← Nat.add_assoc] at this
  · cases e1
    split at e2 <;> cases e2 <;> rfl

theorem Bs.wrt {w w' : World} {q : Nat} {cc : Array Value} {t : TypeId} {a : Option Addr} {len : Nat} {f : Nat → Nat} (h : Bs w a len f) (k : Wrt w w' q cc t) (hne : ∀ x, a = some x → x.block ≠ q) : Bs w' a len f :=
  ⟨h.1, fun hl => by
    obtain ⟨b, off, e, hc⟩ := h.2 hl
    refine ⟨b, off, e, fun i hi => ?_⟩
    have h1 := hc i hi
    rw [← h1]
    exact World.cell?_of_block (w := w) (k.block b (cell_lt h1) (hne _ e))⟩
def ab (N : Nat) (F : Nat → Nat) : Array Value := arr N fun i => .int .u8 ((F i : Nat) : Int)
theorem ab_set (N : Nat) (F : Nat → Nat) (i v : Nat) : (ab N F).setIfInBounds i (.int .u8 ((v : Nat) : Int)) = ab N (updN F i v) := by
  unfold ab
  rw [arr_set]
  refine arr_congr fun j _ => ?_
  unfold upd updN
  split <;> rfl
theorem st_ab {t0 : TypeId} {N i v : Nat} {F : Nat → Nat} (hi : i < N) (w : World) (q : Nat) (h : w.heap[q]? = some (.cells (ab N F) t0 (0, 0))) : (Instr.storeAt 5 (.pointer (some ⟨q, i, none⟩)) (.int .u8 ((v : Nat) : Int))).run Tryd.prog w = .ok () (w.setRow q (ab N (updN F i v))) := by
  have h1 : w.cell? ⟨q, i, none⟩ = some (.int .u8 ((F i : Nat) : Int)) := by rw [cell_of_row _ _ _ _ _ _ h]; exact arr_get _ _ _ hi
  have h2 : w.setCell ⟨q, i, none⟩ (.int .u8 ((v : Nat) : Int)) = w.setRow q (ab N (updN F i v)) := by rw [set_row h, ab_set]
  have h3 : w.frozen? ⟨q, i, none⟩ = false := by simp [World.frozen?, h]
  simp [Instr.storeAt, Instr.sureAddr, go_sem, h1, h2, h3]
/-- A word's bytes, from the last one on; put into a row. -/
def wF (x : Nat) : Nat → Nat
  | 0 => x
  | k + 1 => wF x k / 2 ^ 8
def ptF (F : Nat → Nat) (off x : Nat) : Nat → Nat → Nat
  | 0 => F
  | k + 1 => updN (ptF F off x k) (off + (7 - k)) (wF x k % 256)
/-- The program's tables. -/
def cuL : List Nat := [4794697086780616226, 8158064640168781261, 13096744586834688815, 16840607885511220156, 4131703408338449720, 6480981068601479193, 10538285296894168987, 12329834152419229976, 15566598209576043074, 1334009975649890238, 2608012711638119052, 6128411473006802146, 8268148722764581231, 9286055187155687089, 11230858885718282805, 13951009754708518548, 16472876342353939154, 17275323862435702243, 1135362057144423861, 2597628984639134821, 3308224258029322869, 5365058923640841347, 6679025012923562964, 8573033837759648693, 10970295158949994411, 12119686244451234320, 12683024718118986047, 13788192230050041572, 14330467153632333762, 15395433587784984357, 489312712824947311, 1452737877330783856, 2861767655752347644, 3322285676063803686, 5560940570517711597, 5996557281743188959, 7280758554555802590, 8532644243296465576, 9350256976987008742, 10552545826968843579, 11727347734174303076, 12113106623233404929, 14000437183269869457, 14369950271660146224, 15101387698204529176, 15463397548674623760, 17586052441742319658, 1182934255886127544, 1847814050463011016, 2177327727835720531, 2830643537854262169, 3796741975233480872, 4115178125766777443, 5681478168544905931, 6601373596472566643, 7507060721942968483, 8399075790359081724, 8693463985226723168, 9568029438360202098, 10144078919501101548, 10430055236837252648, 11840083180663258601, 13761210420658862357, 14299343276471374635, 14566680578165727644, 15097957966210449927, 16922976911328602910, 17689382322260857208, 500013540394364858, 748580250866718886, 1242879168328830382, 1977374033974150939, 2944078676154940804, 3659926193048069267, 4368137639120453308, 4836135668995329356, 5532061633213252278, 6448918945643986474, 6902733635092675308, 7801388544844847127]
def sqL : List Nat := [7640891576956012808, 13503953896175478587, 4354685564936845355, 11912009170470909681, 5840696475078001361, 11170449401992604703, 2270897969802886507, 6620516959819538809]
def cu (i : Nat) : Nat := cuL.getD i 0
def sq (i : Nat) : Nat := sqL.getD i 0
theorem cu_lt (j : Nat) : cu j < 18446744073709551616 := by
  have h : ∀ l : List Nat, l.all (fun x => Nat.blt x 18446744073709551616) = true → ∀ j, l.getD j 0 < 18446744073709551616 := by
    intro l hl j
    rw [List.getD_eq_getElem?_getD]
    rcases Nat.lt_or_ge j l.length with h | h
    · rw [List.getElem?_eq_getElem h, Option.getD_some]
      exact Nat.le_of_ble_eq_true (List.all_eq_true.1 hl _ (List.getElem_mem h))
    · rw [List.getElem?_eq_none h]
      show 0 < 18446744073709551616; decide
  exact h cuL (by kernel_rfl) j
/-- They lie where they were laid. -/
def Gl (w : World) : Prop := (∀ i, i < 8 → w.cell? ⟨2, i, none⟩ = some (.int .u64 ((sq i : Nat) : Int))) ∧ ∀ i, i < 80 → w.cell? ⟨3, i, none⟩ = some (.int .u64 ((cu i : Nat) : Int))
theorem ix8g {i : Nat} (hi : i < 8) (w : World) (q : Nat) : (Instr.indexAt 127 (.pointer (some ⟨q, 0, none⟩)) (.int .i64 ((i : Nat) : Int))).run Tryd.prog w = .ok (.pointer (some ⟨q, i, none⟩)) w := by
  simp [Instr.indexAt, go_sem, hi, addr_add]
theorem gl_sq {k : Nat} {W0 : World} (hg : Gl W0) (hk : k < 8) (w : World) (hw : KW (wd W0) w) : (Instr.loadAt 102 (.pointer (some ⟨2, k, none⟩))).run Tryd.prog w = .ok (.int .u64 ((sq k : Nat) : Int)) w := by
  have h0 := hg.1 k hk
  have hlt : 2 < W0.heap.size := by
    rcases Nat.lt_or_ge 2 W0.heap.size with h | h
    · exact h
    · unfold World.cell? at h0; rw [Array.getElem?_eq_none h] at h0; cases h0
  have hb := hw.block 2 hlt
  have h1 : w.cell? ⟨2, k, none⟩ = some (.int .u64 ((sq k : Nat) : Int)) := by
    rw [← h0]; exact World.cell?_of_block (w := W0) hb
  simp [Instr.loadAt, Instr.sureAddr, go_sem, h1]
theorem sq_lt : ∀ j, sq j < 18446744073709551616 := by
  intro j
  unfold sq
  rcases Nat.lt_or_ge j 8 with h | h
  · have h : j = 0 ∨ j = 1 ∨ j = 2 ∨ j = 3 ∨ j = 4 ∨ j = 5 ∨ j = 6 ∨ j = 7 := by omega
    rcases h with rfl | rfl | rfl | rfl | rfl | rfl | rfl | rfl <;> (simp [sqL])
  · rw [List.getD_eq_getElem?_getD, List.getElem?_eq_none (by simp [sqL]; omega)]
    show 0 < 18446744073709551616; decide
theorem bs_one (w : World) (x : Nat) (hx : x < 256) : Bs (w.alloc (.cells #[.int .u8 ((x : Nat) : Int)] 5)) (some ⟨w.heap.size, 0, none⟩) 1 (fun _ => x) :=
  ⟨fun _ => hx, fun _ => ⟨_, 0, rfl, fun i hi => by
    obtain rfl : i = 0 := by omega
    have h := (MapKept.heap_alloc w (.cells #[.int .u8 ((x : Nat) : Int)] 5)).1
    rw [cell_of_row _ _ _ _ _ _ h]; rfl⟩⟩
theorem bs_ab {w : World} {g N off n : Nat} {F : Nat → Nat} {t : TypeId} (hF : ∀ i, F i < 256) (h : w.heap[g]? = some (.cells (ab N F) t (0, 0))) (hN : off + n ≤ N) : Bs w (some ⟨g, off, none⟩) n (fun i => F (off + i)) :=
  ⟨fun i => hF _, fun _ => ⟨g, off, rfl, fun i hi => by rw [cell_of_row _ _ _ _ _ _ h]; exact arr_get _ _ _ (by omega)⟩⟩
theorem zero16 : ab 16 (fun _ => 0) = #[.int .u8 0, .int .u8 0, .int .u8 0, .int .u8 0, .int .u8 0, .int .u8 0, .int .u8 0, .int .u8 0, .int .u8 0, .int .u8 0, .int .u8 0, .int .u8 0, .int .u8 0, .int .u8 0, .int .u8 0, .int .u8 0] := by kernel_rfl
/-- A new block is written, and the digest is as it was. -/
theorem Wrt.other {w w1 w2 : World} {q g : Nat} {c c' : Array Value} {t t' : TypeId} (h : Wrt w w1 q c t) (k : Wrt w1 w2 g c' t') (hg : w.heap.size ≤ g) (hn : q ≠ g) (hq : q < w1.heap.size) : Wrt w w2 q c t :=
  ⟨k.os.trans h.os, k.tape.trans h.tape, k.output.trans h.output, Nat.le_trans h.size k.size, fun i hi hne => (k.block i (Nat.lt_of_lt_of_le hi h.size) (by omega)).trans (h.block i hi hne), (k.block q hq hn).trans h.row⟩
theorem eta3 (x : (Nat → Nat) × (Nat → Nat) × Nat) : (x.1, x.2.1, x.2.2) = x := rfl
/-- The count of bits, in sixteen bytes. -/
def cntF (ln : Nat) : Nat → Nat := ptF (ptF (fun _ => 0) 0 (ln * 8 / 18446744073709551616) 8) 8 (ln * 8 % 18446744073709551616) 8
theorem ptF_lt {F : Nat → Nat} {off x : Nat} (h : ∀ i, F i < 256) : ∀ k i, ptF F off x k i < 256
  | 0, i => h i
  | k + 1, i => by
    show updN (ptF F off x k) (off + (7 - k)) (wF x k % 256) i < 256
    unfold updN
    split
    · exact Nat.mod_lt _ (by decide)
    · exact ptF_lt h k i
theorem cnt_lt (ln i : Nat) : cntF ln i < 256 := ptF_lt (ptF_lt (fun _ => by decide) 8) 8 i
theorem wF_e (x : Nat) : ∀ k, wF x k = x / 256 ^ k
  | 0 => by show x = _; simp
  | k + 1 => by
    show wF x k / 2 ^ 8 = _
    rw [wF_e x k, Nat.div_div_eq_div_mul, show (2 : Nat) ^ 8 = 256 from rfl, Nat.pow_succ 256 k]
theorem ptF_out {F : Nat → Nat} {off x i : Nat} (h : i < off ∨ off + 8 ≤ i) : ∀ k, ptF F off x k i = F i
  | 0 => rfl
  | k + 1 => by
    show updN (ptF F off x k) (off + (7 - k)) (wF x k % 256) i = _
    unfold updN
    rw [if_neg (by omega)]
    exact ptF_out h k
theorem ptF_in {F : Nat → Nat} {off x j : Nat} (h : j < 8) : ∀ k, k ≤ 8 → 7 - j < k → ptF F off x k (off + j) = x / 256 ^ (7 - j) % 256
  | 0, _, h0 => by omega
  | k + 1, hk, h1 => by
    show updN (ptF F off x k) (off + (7 - k)) (wF x k % 256) (off + j) = _
    unfold updN
    by_cases e : j = 7 - k
    · rw [if_pos (by omega), wF_e, show 7 - j = k by omega]
    · rw [if_neg (by omega)]
      exact ptF_in h k (by omega) (by omega)
theorem cntF_e (n : Nat) {i : Nat} (hi : i < 16) : cntF n i = n * 8 / 256 ^ (15 - i) % 256 := by
  unfold cntF
  rcases Nat.lt_or_ge i 8 with h | h
  · rw [ptF_out (Or.inl h) 8, show i = 0 + i by omega, ptF_in h 8 (by omega) (by omega), show 15 - (0 + i) = 8 + (7 - i) by omega, Nat.pow_add, ← Nat.div_div_eq_div_mul]
  · obtain ⟨j, rfl⟩ : ∃ j, i = 8 + j := ⟨i - 8, by omega⟩
    rw [ptF_in (by omega) 8 (by omega) (by omega), show 15 - (8 + j) = 7 - j by omega]
    have hj : j < 8 := by omega
    have h : j = 0 ∨ j = 1 ∨ j = 2 ∨ j = 3 ∨ j = 4 ∨ j = 5 ∨ j = 6 ∨ j = 7 := by omega
    rcases h with rfl | rfl | rfl | rfl | rfl | rfl | rfl | rfl <;> (simp only [Nat.reduceSub, Nat.reducePow]; omega)
/-- The reference's count, byte by byte. -/
theorem cnt_last (n : Nat) : cntF n 15 = n % 32 * 8 := by
  rw [cntF_e n (by decide)]
  show n * 8 / 256 ^ 0 % 256 = _
  omega
theorem cnt_ref (n : Nat) {i : Nat} (hi : i < 15) : cntF n i = n / 32 / 256 ^ (14 - i) % 256 := by
  rw [cntF_e n (by omega), show 15 - i = 1 + (14 - i) by omega, Nat.pow_add, ← Nat.div_div_eq_div_mul, show n * 8 / 256 ^ 1 = n / 32 by omega]
theorem shl_or {a b k : Nat} (hb : b < 2 ^ k) : a * 2 ^ k ||| b = a * 2 ^ k + b := by
  have h := Nat.shiftLeft_add_eq_or_of_lt hb a
  rw [Nat.shiftLeft_eq] at h
  exact h.symm
/-- Two blocks are written. -/
structure Wr2 (w w' : World) (q g : Nat) : Prop where
  os : w'.os = w.os
  tape : w'.tape = w.tape
  output : w'.output = w.output
  size : w.heap.size ≤ w'.heap.size
  block : ∀ k, k < w.heap.size → k ≠ q → k ≠ g → w'.heap[k]? = w.heap[k]?
theorem Wr2.one {w w' : World} {q g : Nat} {c : Array Value} {t : TypeId} (h : Wrt w w' q c t) : Wr2 w w' q g := ⟨h.os, h.tape, h.output, h.size, fun k hk h1 _ => h.block k hk h1⟩
theorem Wr2.next {w w1 w2 : World} {q g : Nat} {c : Array Value} {t : TypeId} (h : Wr2 w w1 q g) (k : Wrt w1 w2 g c t) : Wr2 w w2 q g :=
  ⟨k.os.trans h.os, k.tape.trans h.tape, k.output.trans h.output, Nat.le_trans h.size k.size, fun i hi h1 h2 => (k.block i (Nat.lt_of_lt_of_le hi h.size) h2).trans (h.block i hi h1 h2)⟩
/-- A part: how many bytes, and which. -/
abbrev Pt := Nat × (Nat → Nat)
/-- Parts in memory. -/
def PsAt (w : World) (pa : Option Addr) (L : List Pt) : Prop := 0 < L.length → ∃ b off, pa = some ⟨b, off, none⟩ ∧ ∀ i (h : i < L.length), ∃ a cap, w.cell? ⟨b, off + i, none⟩ = some (.slice a L[i].1 cap) ∧ Bs w a L[i].1 L[i].2 ∧ L[i].1 ≤ cap ∧ ∀ x, a = some x → x.block < w.heap.size
def lenS (L : List Pt) : Nat := (L.map (·.1)).sum
theorem lenS_take {L : List Pt} {k : Nat} (h : k < L.length) : lenS (L.take (k + 1)) = lenS (L.take k) + L[k].1 := by
  unfold lenS
  rw [List.take_succ_eq_append_getElem h, List.map_append, List.sum_append]; simp
theorem lenS_le (L : List Pt) (k : Nat) : lenS (L.take k) ≤ lenS L := by
  have h : lenS L = lenS (L.take k) + lenS (L.drop k) := by
    unfold lenS
    rw [← List.sum_append, ← List.map_append, List.take_append_drop]
  omega
theorem below_wrt {B : Nat} {w w1 w2 : World} {q : Nat} {c : Array Value} {t : TypeId} (h : Below B w w1) (k : Wrt w1 w2 q c t) (hq : B ≤ q) (hb : B ≤ w1.heap.size) : Below B w w2 :=
  ⟨k.os.trans h.os, k.tape.trans h.tape, k.output.trans h.output, Nat.le_trans h.size k.size, fun i hi => (k.block i (by omega) (by omega)).trans (h.block i hi)⟩
theorem ab_size (N : Nat) (F : Nat → Nat) : (ab N F).size = N := arr_size _ _
theorem ab_one (N : Nat) (F : Nat → Nat) : (ab N F).all (·.oneCell') = true := arr_one
theorem gl_b {w w' : World} (h : Gl w) (hb : Below w.heap.size w w') : Gl w' := ⟨fun i hi => cell_later hb (h.1 i hi), fun i hi => cell_later hb (h.2 i hi)⟩
/-- The parts' bytes, joined. -/
def joinF : List Pt → Nat → Nat
  | [], _ => 0
  | x :: r, i => if i < x.1 then x.2 i else joinF r (i - x.1)
theorem joinF_lt : ∀ {L : List Pt}, (∀ x ∈ L, ∀ i, x.2 i < 256) → ∀ i, joinF L i < 256
  | [], _, _ => by show 0 < 256; decide
  | x :: r, h, i => by
    show (if i < x.1 then x.2 i else joinF r (i - x.1)) < 256
    split
    · exact h x (by simp) i
    · exact joinF_lt (fun y hy => h y (by simp [hy])) _
theorem bvs_cong {n : Nat} {f g : Nat → Nat} (h : ∀ i, i < n → f i = g i) : bvs n f = bvs n g := by
  unfold bvs
  apply List.map_congr_left
  intro i hi
  rw [h i (List.mem_range.1 hi)]
theorem bvs_app {n m : Nat} {P g : Nat → Nat} (h : ∀ i, i < m → g i = P (n + i)) : bvs n P ++ bvs m g = bvs (n + m) P := by
  unfold bvs
  rw [List.range_add, List.map_append, List.map_map]
  congr 1
  apply List.map_congr_left
  intro i hi
  rw [h i (List.mem_range.1 hi)]; rfl
/-- An owned row of bytes reads as a slice. -/
theorem bs_own {w : World} {base : Nat} {v : Value} {n : Nat} {f : Nat → Nat} (h : w.ownsRow base 5 1 v n (bvs n f)) (hf : ∀ i, f i < 256) :
    ∃ a cap, v = .slice a n cap ∧ Bs w a n f ∧ n ≤ cap := by
  rcases h.2 with ⟨rfl, rfl⟩ | ⟨g, cap, cur, rfl, hb, hg, hnc, hcm, hcs, ht⟩
  · exact ⟨none, 0, rfl, ⟨hf, fun h => absurd h (by omega)⟩, Nat.le_refl _⟩
  · refine ⟨_, cap, rfl, ⟨hf, fun _ => ⟨g, 0, rfl, fun i hi => ?_⟩⟩, hnc⟩
    have := h.cellAt i (by omega)
    rw [Nat.zero_add, this, bvs_get f hi]
/-- Bytes are put behind a row of the call's own. -/
theorem run_append_f (w : World) (base ty : Nat) (v : Value) (n : Nat) (xs : List Value) (hown : w.ownsRow base 5 1 v n xs) (a : Option Addr) (m c : Nat) (f : Nat → Nat) (hb : Bs w a m f)
    (hbytes : n + m ≤ 140737488355328) (hbase : base ≤ w.heap.size) :
    ∃ v' w', (Builtin.append_ #[97, 97] ty #[v, .slice a m c]).run Tryd.prog w = .ok v' w' ∧ w'.ownsRow base 5 1 v' (n + m) (xs ++ bvs m f) ∧ w.grownBy w' v.ownBlock ∧ (v'.ownBlock = v.ownBlock ∨ ∀ k, v'.ownBlock = some k → w.heap.size ≤ k) := by
  obtain ⟨i0, hi, hz0, hz1, hz2⟩ := info_parts info_u8
  obtain ⟨h2, h3⟩ := hb
  cases a with
  | none =>
    obtain rfl : m = 0 := by
      rcases Nat.eq_zero_or_pos m with h | h
      · exact h
      · obtain ⟨_, _, e, _⟩ := h3 h; cases e
    refine ⟨v, w, ?_, by simpa [bvs] using hown, ⟨rfl, rfl, rfl, Nat.le_refl _, fun _ _ _ => rfl⟩, .inl rfl⟩
    rcases hown.2 with ⟨rfl, rfl⟩ | ⟨g, cap, cur, rfl, _, _, hnc, _⟩
    · simp [Builtin.append_, run_underlying Tryd.underlying97, sizeOf, typeInfo, hi, Builtin.lenOf, Builtin.firstCells]
    · simp [Builtin.append_, run_underlying Tryd.underlying97, sizeOf, typeInfo, hi, Builtin.lenOf, Builtin.firstCells, hnc, storeCells]
  | some ad =>
    have hnews : ∀ j u, (bvs m f)[j]? = some u → w.cell? (ad.add j) = some u := by
      intro j u hj
      have hjl : j < m := by have := (List.getElem?_eq_some_iff.1 hj).1; rwa [bvs_len] at this
      obtain ⟨b, off, e, hc⟩ := h3 (by omega)
      cases e
      have := hc j hjl
      rw [bvs_get f hjl] at hj
      rw [Addr.add_lit, this, hj]
    obtain ⟨v', w', hr, h4, h5, _, h6⟩ := run_append_own_at (P := Tryd.prog) w base 97 ty 5 i0 (.int .u8 0) 1 1 Tryd.underlying97 hi hz0 hz1 hz2 rfl (by decide) v n xs hown ad m c (bvs m f) (by simp [bvs_len]) hnews
      (bvs_one m f) (by unfold maxLen; omega) (by omega) hbase
    exact ⟨v', w', hr, h4, h5, h6.imp id fun e k hk => by rw [e] at hk; cases hk; exact Nat.le_refl _⟩
theorem wpList_append_f {w : World} {ops : Array Oper} {rest : List Oper} {o : Oper} {a : Act} {Q : Exit → Act → World → Prop} (hgd : o.guard = none) (s x : Operand)
    (ho : o.op = .call { callee := .builtin .append, args := #[s, x], argTypes := #[97, 97] }) (base : Nat)
    (v : Value) (n : Nat) (xs : List Value) (hs : a.eval s = v) (hown : w.ownsRow base 5 1 v n xs) (ad : Option Addr) (m c : Nat) (f : Nat → Nat) (hx : a.eval x = .slice ad m c) (hb : Bs w ad m f)
    (hbytes : n + m ≤ 140737488355328) (hbase : base ≤ w.heap.size)
    (h : ∀ v' w', w'.ownsRow base 5 1 v' (n + m) (xs ++ bvs m f) → w.grownBy w' v.ownBlock → (v'.ownBlock = v.ownBlock ∨ ∀ k, v'.ownBlock = some k → w.heap.size ≤ k) → wpList Tryd.prog ops Q rest (a.put o.dst v') w') : wpList Tryd.prog ops Q (o :: rest) a w := by
  refine wpList_plain hgd fun K hK => ?_
  obtain ⟨v', w', hr, h2, h3, h4⟩ := run_append_f w base o.type v n xs hown ad m c f hb hbytes hbase
  unfold Oper.wp execOp
  simp only [ho, resolve, invoke, builtin, Sem.run_bind, Sem.run_pure, Result.andThen_ok, List.map_toArray, List.map_cons, List.map_nil, hs, hx, hr]
  exact hK _ _ (h v' w' h2 h3 h4)
/-- .. behind which all below the base is as it was. -/
theorem below_app {B : Nat} {w wr w' : World} {v : Value} {n : Nat} {xs : List Value} {u : Nat} (hb : Below B w wr) (hB : B ≤ wr.heap.size) (hown : wr.ownsRow B u 1 v n xs) (hg : wr.grownBy w' v.ownBlock) : Below B w w' :=
  hb.grown hg hB (fun k e => (hown.lt k e).1)
def slN : Value → Nat
  | .slice _ n _ => n
  | _ => 0
/-- A row of the call's own is kept where another block is written. -/
theorem own_wrt {w w' : World} {B u g : Nat} {v : Value} {n : Nat} {xs : List Value} {c : Array Value} {t : TypeId} (h : w.ownsRow B u 1 v n xs) (k : Wrt w w' g c t) (hne : ∀ q, v.ownBlock = some q → q ≠ g) : w'.ownsRow B u 1 v n xs := by
  refine ⟨h.1, ?_⟩
  rcases h.2 with e | ⟨q, cap, cur, rfl, hb, hg, r⟩
  · exact .inl e
  · exact .inr ⟨q, cap, cur, rfl, hb, (k.block q (Array.getElem?_eq_some_iff.1 hg).1 (hne q rfl)).trans hg, r⟩
theorem own_slN {w : World} {B u : Nat} {v : Value} {n : Nat} {xs : List Value} (h : w.ownsRow B u 1 v n xs) : slN v = n := by
  rcases h.2 with ⟨rfl, rfl⟩ | ⟨g, cap, cur, rfl, _⟩ <;> rfl
theorem lt_heap {w : World} {q : Nat} {o : Obj} (h : w.heap[q]? = some o) : q < w.heap.size := (Array.getElem?_eq_some_iff.1 h).1
theorem au_cell {w : World} {q n i : Nat} {F : Nat → Nat} {t : TypeId} (h : w.heap[q]? = some (.cells (au n F) t (0, 0))) (hi : i < n) : w.cell? ⟨q, i, none⟩ = some (.int .u64 ((F i : Nat) : Int)) := by
  rw [cell_of_row _ _ _ _ _ _ h]; exact arr_get _ _ _ hi
end Go.Proofs.YtgnmnoadfjdjdaaDoor

namespace Go.Proofs.YtgnmnoadfjdjdaaDoor.Sh
open Go.RowKit

theorem w32 (z : Int) : IntKind.u32.wrap z = z % 4294967296 := by simp [IntKind.wrap, IntKind.bits, IntKind.signed]
def B32 : Nat := 4294967296
theorem B32_i : ((B32 : Nat) : Int) = 4294967296 := rfl
section
variable {x u : Operand}
theorem sr_q {m r : Nat} (w : World) (hr : r ≤ 64) : (do eqGuard .shr 102 x u (.int .u64 ((m : Nat) : Int)) (.int .i64 ((r : Nat) : Int)); binOp .shr 102 (.int .u64 ((m : Nat) : Int)) (.int .i64 ((r : Nat) : Int))).run Tryd.prog w = .ok (.int .u64 ((m / 2 ^ r : Nat) : Int)) w := by
  simp [eqGuard, binOp, go_sem]
end
theorem cv_q {n : Nat} (h : n < 4294967296) (w : World) : (convert 102 98 (.int .u64 ((n : Nat) : Int))).run Tryd.prog w = .ok (.int .u32 ((n : Nat) : Int)) w := by
  have h1 : IntKind.u32.wrap (n : Int) = ((n : Nat) : Int) := by rw [w32]; omega
  simp [convert, go_sem, h1]
def tu (x n : Nat) : Nat := x / 2 ^ n ||| x * 2 ^ (32 - n) % B32
section
variable {x u : Operand}
theorem sr_w {m r : Nat} (w : World) (hr : r ≤ 32) : (do eqGuard .shr 98 x u (.int .u32 ((m : Nat) : Int)) (.int .i64 ((r : Nat) : Int)); binOp .shr 98 (.int .u32 ((m : Nat) : Int)) (.int .i64 ((r : Nat) : Int))).run Tryd.prog w = .ok (.int .u32 ((m / 2 ^ r : Nat) : Int)) w := by
  simp [eqGuard, binOp, go_sem]
theorem sl_w {m r : Nat} (w : World) (hr : r ≤ 32) : (do eqGuard .shl 98 x u (.int .u32 ((m : Nat) : Int)) (.int .i64 ((r : Nat) : Int)); binOp .shl 98 (.int .u32 ((m : Nat) : Int)) (.int .i64 ((r : Nat) : Int))).run Tryd.prog w = .ok (.int .u32 ((m * 2 ^ r % B32 : Nat) : Int)) w := by
  simp [eqGuard, binOp, go_sem, w32, B32_i]
theorem or_w {m n : Nat} (hm : m < B32) (hn : n < B32) (w : World) : (do eqGuard .or 98 x u (.int .u32 ((m : Nat) : Int)) (.int .u32 ((n : Nat) : Int)); binOp .or 98 (.int .u32 ((m : Nat) : Int)) (.int .u32 ((n : Nat) : Int))).run Tryd.prog w = .ok (.int .u32 ((m ||| n : Nat) : Int)) w := by
  simp [eqGuard, binOp, go_sem, u32_or_nat m n hm hn]
theorem and_w {m n : Nat} (hm : m < B32) (hn : n < B32) (w : World) : (do eqGuard .and 98 x u (.int .u32 ((m : Nat) : Int)) (.int .u32 ((n : Nat) : Int)); binOp .and 98 (.int .u32 ((m : Nat) : Int)) (.int .u32 ((n : Nat) : Int))).run Tryd.prog w = .ok (.int .u32 ((m &&& n : Nat) : Int)) w := by
  simp [eqGuard, binOp, go_sem, u32_and_nat m n hm hn]
theorem xor_w {m n : Nat} (hm : m < B32) (hn : n < B32) (w : World) : (do eqGuard .xor 98 x u (.int .u32 ((m : Nat) : Int)) (.int .u32 ((n : Nat) : Int)); binOp .xor 98 (.int .u32 ((m : Nat) : Int)) (.int .u32 ((n : Nat) : Int))).run Tryd.prog w = .ok (.int .u32 ((m ^^^ n : Nat) : Int)) w := by
  simp [eqGuard, binOp, go_sem, u32_xor_nat m n hm hn]
theorem ad_w {m n : Nat} (w : World) : (do eqGuard .add 98 x u (.int .u32 ((m : Nat) : Int)) (.int .u32 ((n : Nat) : Int)); binOp .add 98 (.int .u32 ((m : Nat) : Int)) (.int .u32 ((n : Nat) : Int))).run Tryd.prog w = .ok (.int .u32 (((m + n) % B32 : Nat) : Int)) w := by
  simp [eqGuard, binOp, go_sem, w32, B32_i]
theorem no_w {m : Nat} (hm : m < B32) (w : World) : (Op.unary .xor (.int .u32 ((m : Nat) : Int))).run Tryd.prog w = .ok (.int .u32 ((4294967295 ^^^ m : Nat) : Int)) w := by
  have h1 : (if IntKind.u32.signed = true then -1 else IntKind.u32.max) = ((4294967295 : Nat) : Int) := rfl
  simp only [Op.unary, go_sem, h1, u32_xor_nat 4294967295 m (by decide) hm]
  rfl
end
/-! The cells of a digest on its way. -/
def plL : List Nat := [32, 64, 17, 19, 10, 7, 18, 3, 2, 13, 22, 6, 11, 25]
def dgv (H p : Nat → Nat) (fl ln i : Nat) : Value :=
  if i < 14 then .int .i64 ((plL.getD i 0 : Nat) : Int) else if i < 22 then .int .u32 ((H (i - 14) : Nat) : Int) else if i < 150 then .int .u8 ((p (i - 22) : Nat) : Int) else if i < 151 then .int .i64 ((fl : Nat) : Int) else .int .u64 ((ln : Nat) : Int)
def dgc (H p : Nat → Nat) (fl ln : Nat) : Array Value := arr 152 (dgv H p fl ln)
section
variable {H p : Nat → Nat} {fl ln : Nat} {t0 : TypeId} {w : World} {q : Nat}
theorem dg_cell {i : Nat} (hi : i < 152) (h : w.heap[q]? = some (.cells (dgc H p fl ln) t0 (0, 0))) : w.cell? ⟨q, i, none⟩ = some (dgv H p fl ln i) := by
  rw [cell_of_row _ _ _ _ _ _ h]; exact arr_get _ _ _ hi
theorem ld_dgI {i v : Nat} (hi : i < 152) (hv : dgv H p fl ln i = .int .i64 ((v : Nat) : Int)) (w : World) (q : Nat) (h : w.heap[q]? = some (.cells (dgc H p fl ln) t0 (0, 0))) : (Instr.loadAt 3 (.pointer (some ⟨q, i, none⟩))).run Tryd.prog w = .ok (.int .i64 ((v : Nat) : Int)) w := by
  have h1 := dg_cell hi h
  rw [hv] at h1
  simp [Instr.loadAt, Instr.sureAddr, go_sem, h1]
theorem ld_dgU {i v : Nat} (hi : i < 152) (hv : dgv H p fl ln i = .int .u32 ((v : Nat) : Int)) (w : World) (q : Nat) (h : w.heap[q]? = some (.cells (dgc H p fl ln) t0 (0, 0))) : (Instr.loadAt 98 (.pointer (some ⟨q, i, none⟩))).run Tryd.prog w = .ok (.int .u32 ((v : Nat) : Int)) w := by
  have h1 := dg_cell hi h
  rw [hv] at h1
  simp [Instr.loadAt, Instr.sureAddr, go_sem, h1]
end
end Go.Proofs.YtgnmnoadfjdjdaaDoor.Sh

namespace Go.Proofs.YtgnmnoadfjdjdaaDoor.Sh
open Go.RowKit

def pl14 : Array Value := arr 14 fun i => .int .i64 ((plL.getD i 0 : Nat) : Int)
theorem pl14_size : pl14.size = 14 := arr_size _ _
theorem ldpI {i v : Nat} (t0 : TypeId) (hi : i < 14) (hv : plL.getD i 0 = v) (w : World) (q : Nat) (h : w.heap[q]? = some (.cells pl14 t0 (0, 0))) : (Instr.loadAt 3 (.pointer (some ⟨q, i, none⟩))).run Tryd.prog w = .ok (.int .i64 ((v : Nat) : Int)) w := by
  have h1 : w.cell? ⟨q, i, none⟩ = some (.int .i64 ((v : Nat) : Int)) := by rw [cell_of_row _ _ _ _ _ _ h, ← hv]; exact arr_get _ _ _ hi
  simp [Instr.loadAt, Instr.sureAddr, go_sem, h1]
theorem ldp3 {i a b c : Nat} (t0 : TypeId) (hi : i + 2 < 14) (ha : plL.getD i 0 = a) (hb : plL.getD (i + 1) 0 = b) (hc : plL.getD (i + 2) 0 = c) (w : World) (q : Nat) (h : w.heap[q]? = some (.cells pl14 t0 (0, 0))) : (Instr.loadAt 116 (.pointer (some ⟨q, i, none⟩))).run Tryd.prog w = .ok (.agg (i3 a b c)) w := by
  have h0 : w.cell? ⟨q, i, none⟩ = some (.int .i64 ((a : Nat) : Int)) := by rw [cell_of_row _ _ _ _ _ _ h, ← ha]; exact arr_get _ _ _ (by omega)
  have h1 : w.cell? ⟨q, i + 1, none⟩ = some (.int .i64 ((b : Nat) : Int)) := by rw [cell_of_row _ _ _ _ _ _ h, ← hb]; exact arr_get _ _ _ (by omega)
  have h2 : w.cell? ⟨q, i + 2, none⟩ = some (.int .i64 ((c : Nat) : Int)) := by rw [cell_of_row _ _ _ _ _ _ h, ← hc]; exact arr_get _ _ _ hi
  simp [Instr.loadAt, Instr.sureAddr, go_sem, h0, h1, h2, i3]
theorem tu_lt {x n : Nat} (hx : x < B32) : tu x n < B32 := by
  unfold tu
  have h1 : x / 2 ^ n < 2 ^ 32 := Nat.lt_of_le_of_lt (Nat.div_le_self _ _) hx
  have h2 : x * 2 ^ (32 - n) % B32 < 2 ^ 32 := Nat.mod_lt _ (by decide)
  exact Nat.or_lt_two_pow h1 h2
def hiW (x a b c : Nat) : Nat := tu x a ^^^ tu x b ^^^ tu x c
def loW (x a b c : Nat) : Nat := tu x a ^^^ tu x b ^^^ x / 2 ^ c
theorem xor_lt {x y : Nat} (hx : x < B32) (hy : y < B32) : x ^^^ y < B32 := Nat.xor_lt_two_pow (n := 32) hx hy
theorem or_lt {x y : Nat} (hx : x < B32) (hy : y < B32) : x ||| y < B32 := Nat.or_lt_two_pow (n := 32) hx hy
theorem and_lt {x y : Nat} (hy : y < B32) : x &&& y < B32 := Nat.and_lt_two_pow (n := 32) _ hy
theorem div_lt {x n : Nat} (hx : x < B32) : x / n < B32 := Nat.lt_of_le_of_lt (Nat.div_le_self _ _) hx
theorem mod_B (x : Nat) : x % B32 < B32 := Nat.mod_lt _ (by decide)
theorem hi_lt {x a b c : Nat} (hx : x < B32) : hiW x a b c < B32 := xor_lt (xor_lt (tu_lt hx) (tu_lt hx)) (tu_lt hx)
theorem lo_lt {x a b c : Nat} (hx : x < B32) : loW x a b c < B32 := xor_lt (xor_lt (tu_lt hx) (tu_lt hx)) (div_lt hx)
end Go.Proofs.YtgnmnoadfjdjdaaDoor.Sh

namespace Go.Proofs.YtgnmnoadfjdjdaaDoor.Sh
open Go.RowKit
section
variable {H p : Nat → Nat} {fl ln q : Nat} {W0 : World}

set_option maxHeartbeats 4000000 in
theorem turn_d {x n : Nat} (hx : x < B32) (hn : n ≤ 32) (hq : W0.heap[q]? = some (.cells (dgc H p fl ln) 121 (0, 0))) : Calls Tryd.prog 93 #[.pointer (some ⟨q, 0, none⟩), .int .u32 ((x : Nat) : Int), .int .i64 ((n : Nat) : Int)] W0 fun e w' => e = .returned (.int .u32 ((tu x n : Nat) : Int)) ∧ Below W0.heap.size W0 w' := by
  refine s_ip Tryd.func93 Tryd.ntmps93 rfl hq [.inr (0, pt 0), .inl (.int .u32 ((x : Nat) : Int)), .inl (.int .i64 ((n : Nat) : Int))] ?_
  intro β a h
  refine sym_seq ?_
  refine St.r0 h [(6, .inl (.int .u32 ((0 : Nat) : Int)))] [] ?_ ?_
  · exact oz (k_mv (.inr rfl) rfl) <|
    ok_nil
  clear h; intro β a w h
  refine sym_then ?_
  refine sym_seq ?_
  refine St.r0 h [(7, .inl (.int .u32 ((x : Nat) : Int))), (8, .inl (.int .i64 ((n : Nat) : Int))), (9, .inl (.int .u32 (((x / 2 ^ n) : Nat) : Int))), (10, .inl (.int .u32 ((x : Nat) : Int))), (11, .inr (0, pt 0)), (12, .inr (0, pt 0)), (13, .inr (0, pt 0)), (14, .inr (0, pt 0)), (15, .inl (.int .i64 ((32 : Nat) : Int))), (16, .inl (.int .i64 ((n : Nat) : Int))), (17, .inl (.int .i64 (((32 - n) : Nat) : Int))), (18, .inl (.int .u32 (((x * 2 ^ (32 - n) % B32) : Nat) : Int))), (19, .inl (.int .u32 ((((x / 2 ^ n) ||| (x * 2 ^ (32 - n) % B32)) : Nat) : Int))), (6, .inl (.int .u32 ((((x / 2 ^ n) ||| (x * 2 ^ (32 - n) % B32)) : Nat) : Int)))] [nn, nn, nn, nn, nn, nn, nn, nn, eR 0] ?_ ?_
  · exact oc (k_mv (.inl rfl) rfl) <|
    oc (k_mv (.inl rfl) rfl) <|
    oc (k_bi (.int .u32 ((x : Nat) : Int)) (.int .i64 ((n : Nat) : Int)) (.int .u32 (((x / 2 ^ n) : Nat) : Int)) (fun w => sr_w (m := x) (r := n) w (by omega)) rfl rfl) <|
    oc (k_mv (.inl rfl) rfl) <|
    oc (k_mp 0 (pt 0) (.inl rfl) rfl) <|
    oc (k_nc 0 0 rfl rfl) <|
    oc (k_fa 0 0 0 rfl rfl) <|
    oc (k_fa 0 0 0 rfl rfl) <|
    oc (k_ld 0 0 (.int .i64 ((32 : Nat) : Int)) (c := dgc H p fl ln) (ld_dgI (H := H) (p := p) (fl := fl) (ln := ln) (t0 := 121) (i := 0) (v := 32) (by decide) rfl) rfl rfl) <|
    oz (k_mv (.inl rfl) rfl) <|
    oz (k_bi (.int .i64 ((32 : Nat) : Int)) (.int .i64 ((n : Nat) : Int)) (.int .i64 (((32 - n) : Nat) : Int)) (sb_zn (m := ((32 : Nat) : Int)) (n := ((n : Nat) : Int)) (k := (32 - n)) (by omega) (by omega)) rfl rfl) <|
    oz (k_bi (.int .u32 ((x : Nat) : Int)) (.int .i64 (((32 - n) : Nat) : Int)) (.int .u32 (((x * 2 ^ (32 - n) % B32) : Nat) : Int)) (fun w => sl_w (m := x) (r := (32 - n)) w (by omega)) rfl rfl) <|
    oz (k_bi (.int .u32 (((x / 2 ^ n) : Nat) : Int)) (.int .u32 (((x * 2 ^ (32 - n) % B32) : Nat) : Int)) (.int .u32 ((((x / 2 ^ n) ||| (x * 2 ^ (32 - n) % B32)) : Nat) : Int)) (or_w (m := (x / 2 ^ n)) (n := (x * 2 ^ (32 - n) % B32)) (div_lt hx) (mod_B _)) rfl rfl) <|
    oz (k_mv (.inr rfl) rfl) <|
    ok_nil
  clear h; intro β a w h
  refine sym_then ?_
  refine wp_ret ?_
  exact s_rq h hq Tryd.results93 (fun hb => ⟨rfl, hb⟩)

set_option maxHeartbeats 4000000 in
theorem lead_d {x : Nat} (hx : x < 18446744073709551616) (hq : W0.heap[q]? = some (.cells (dgc H p fl ln) 121 (0, 0))) : Calls Tryd.prog 83 #[.pointer (some ⟨q, 0, none⟩), .int .u64 ((x : Nat) : Int)] W0 fun e w' => e = .returned (.int .u32 ((x / 2 ^ 32 : Nat) : Int)) ∧ Below W0.heap.size W0 w' := by
  refine s_ip Tryd.func83 Tryd.ntmps83 rfl hq [.inr (0, pt 0), .inl (.int .u64 ((x : Nat) : Int))] ?_
  intro β a h
  refine sym_seq ?_
  refine St.r0 h [(4, .inl (.int .u32 ((0 : Nat) : Int)))] [] ?_ ?_
  · exact oz (k_mv (.inr rfl) rfl) <|
    ok_nil
  clear h; intro β a w h
  refine sym_then ?_
  refine sym_seq ?_
  refine St.r0 h [(5, .inl (.int .u64 ((x : Nat) : Int))), (6, .inr (0, pt 0)), (7, .inr (0, pt 0)), (8, .inr (0, pt 0)), (9, .inr (0, pt 0)), (10, .inl (.int .i64 ((32 : Nat) : Int))), (11, .inl (.int .i64 ((32 : Nat) : Int))), (12, .inl (.int .u64 (((x / 2 ^ 32) : Nat) : Int))), (13, .inl (.int .u32 (((x / 2 ^ 32) : Nat) : Int))), (4, .inl (.int .u32 (((x / 2 ^ 32) : Nat) : Int)))] [nn, nn, nn, nn, nn, eR 0] ?_ ?_
  · exact oc (k_mv (.inl rfl) rfl) <|
    oc (k_mp 0 (pt 0) (.inl rfl) rfl) <|
    oc (k_nc 0 0 rfl rfl) <|
    oc (k_fa 0 0 0 rfl rfl) <|
    oc (k_fa 0 0 0 rfl rfl) <|
    oc (k_ld 0 0 (.int .i64 ((32 : Nat) : Int)) (c := dgc H p fl ln) (ld_dgI (H := H) (p := p) (fl := fl) (ln := ln) (t0 := 121) (i := 0) (v := 32) (by decide) rfl) rfl rfl) <|
    oz (k_bi (.int .i64 ((64 : Nat) : Int)) (.int .i64 ((32 : Nat) : Int)) (.int .i64 ((32 : Nat) : Int)) (sb_zn (m := ((64 : Nat) : Int)) (n := ((32 : Nat) : Int)) (k := 32) (by omega) (by omega)) rfl rfl) <|
    oz (k_bi (.int .u64 ((x : Nat) : Int)) (.int .i64 ((32 : Nat) : Int)) (.int .u64 (((x / 2 ^ 32) : Nat) : Int)) (fun w => sr_q (m := x) (r := 32) w (by omega)) rfl rfl) <|
    oz (k_co (.int .u64 (((x / 2 ^ 32) : Nat) : Int)) (.int .u32 (((x / 2 ^ 32) : Nat) : Int)) (cv_q (n := (x / 2 ^ 32)) (by omega)) rfl rfl) <|
    oz (k_mv (.inr rfl) rfl) <|
    ok_nil
  clear h; intro β a w h
  refine sym_then ?_
  refine wp_ret ?_
  exact s_rq h hq Tryd.results83 (fun hb => ⟨rfl, hb⟩)

set_option maxHeartbeats 4000000 in
theorem size_d  (hq : W0.heap[q]? = some (.cells (dgc H p fl ln) 121 (0, 0))) : Calls Tryd.prog 84 #[.pointer (some ⟨q, 0, none⟩)] W0 fun e w' => e = .returned (.int .i64 ((64 : Nat) : Int)) ∧ Below W0.heap.size W0 w' := by
  refine s_ip Tryd.func84 Tryd.ntmps84 rfl hq [.inr (0, pt 0)] ?_
  intro β a h
  refine sym_seq ?_
  refine St.r0 h [(2, .inl (.int .i64 ((0 : Nat) : Int)))] [] ?_ ?_
  · exact oz (k_mv (.inr rfl) rfl) <|
    ok_nil
  clear h; intro β a w h
  refine sym_then ?_
  refine sym_seq ?_
  refine St.r0 h [(3, .inr (0, pt 0)), (4, .inr (0, pt 0)), (5, .inr (0, pt 0)), (6, .inr (0, pt 0)), (7, .inl (.int .i64 ((32 : Nat) : Int))), (8, .inl (.int .i64 (((32 * 2) : Nat) : Int))), (2, .inl (.int .i64 (((32 * 2) : Nat) : Int)))] [nn, nn, nn, nn, eR 0] ?_ ?_
  · exact oc (k_mp 0 (pt 0) (.inl rfl) rfl) <|
    oc (k_nc 0 0 rfl rfl) <|
    oc (k_fa 0 0 0 rfl rfl) <|
    oc (k_fa 0 0 0 rfl rfl) <|
    oc (k_ld 0 0 (.int .i64 ((32 : Nat) : Int)) (c := dgc H p fl ln) (ld_dgI (H := H) (p := p) (fl := fl) (ln := ln) (t0 := 121) (i := 0) (v := 32) (by decide) rfl) rfl rfl) <|
    oz (k_bi (.int .i64 ((32 : Nat) : Int)) (.int .i64 ((2 : Nat) : Int)) (.int .i64 (((32 * 2) : Nat) : Int)) (mu_i (m := 32) (n := 2) (by omega)) rfl rfl) <|
    oz (k_mv (.inr rfl) rfl) <|
    ok_nil
  clear h; intro β a w h
  refine sym_then ?_
  refine wp_ret ?_
  exact s_rq h hq Tryd.results84 (fun hb => ⟨rfl, hb⟩)

set_option maxHeartbeats 4000000 in
theorem high_d {x r0 r1 r2 : Nat} (hx : x < B32) (h0 : r0 ≤ 32) (h1 : r1 ≤ 32) (h2 : r2 ≤ 32) (hq : W0.heap[q]? = some (.cells (dgc H p fl ln) 121 (0, 0))) : Calls Tryd.prog 89 #[.pointer (some ⟨q, 0, none⟩), .int .u32 ((x : Nat) : Int), .agg (i3 r0 r1 r2)] W0 fun e w' => e = .returned (.int .u32 ((hiW x r0 r1 r2 : Nat) : Int)) ∧ Below W0.heap.size W0 w' := by
  refine s_ip Tryd.func89 Tryd.ntmps89 rfl hq [.inr (0, pt 0), .inl (.int .u32 ((x : Nat) : Int)), .inl (.agg (i3 r0 r1 r2))] ?_
  intro β a h
  refine sym_seq ?_
  refine St.rg h [(5, .inr (1, pt 0)), (6, .inl (.int .u32 ((0 : Nat) : Int)))] [(i3 r0 r1 r2, 116)] [] [eN 1] ?_ ?_
  · exact oc (k_bx 1 (.agg (i3 r0 r1 r2)) (bx3 (a := r0) (b := r1) (c := r2)) rfl rfl) <|
    oz (k_mv (.inr rfl) rfl) <|
    ok_nil
  clear h; intro β a w h
  refine sym_then ?_
  refine sym_seq ?_
  refine St.r0 h [(7, .inr (0, pt 0)), (8, .inl (.int .u32 ((x : Nat) : Int))), (9, .inr (1, pt 0)), (10, .inl (.int .i64 ((r0 : Nat) : Int))), (11, .inl (.int .u32 (((tu x r0) : Nat) : Int))), (12, .inr (0, pt 0)), (13, .inl (.int .u32 ((x : Nat) : Int))), (14, .inr (1, pt 1)), (15, .inl (.int .i64 ((r1 : Nat) : Int))), (16, .inl (.int .u32 (((tu x r1) : Nat) : Int))), (17, .inl (.int .u32 ((((tu x r0) ^^^ (tu x r1)) : Nat) : Int))), (18, .inr (0, pt 0)), (19, .inl (.int .u32 ((x : Nat) : Int))), (20, .inr (1, pt 2)), (21, .inl (.int .i64 ((r2 : Nat) : Int))), (22, .inl (.int .u32 (((tu x r2) : Nat) : Int))), (23, .inl (.int .u32 (((((tu x r0) ^^^ (tu x r1)) ^^^ (tu x r2)) : Nat) : Int))), (6, .inl (.int .u32 (((((tu x r0) ^^^ (tu x r1)) ^^^ (tu x r2)) : Nat) : Int)))] [nn, nn, nn, eR 1, eR 0, nn, nn, nn, eR 1, eR 0, nn, nn, nn, nn, eR 1, eR 0] ?_ ?_
  · exact oc (k_mp 0 (pt 0) (.inl rfl) rfl) <|
    oc (k_mv (.inl rfl) rfl) <|
    oc (k_ia 1 0 0 (.int .i64 ((0 : Nat) : Int)) (ix3 (i := 0) (by decide)) rfl rfl) <|
    oc (k_ld 1 0 (.int .i64 ((r0 : Nat) : Int)) (c := i3 r0 r1 r2) (ld3 (a := r0) (b := r1) (c := r2) (i := 0) (v := r0) 116 rfl) rfl rfl) <|
    oc (k_cb 93 (fun q => #[.pointer (some ⟨q, 0, none⟩), .int .u32 ((x : Nat) : Int), .int .i64 ((r0 : Nat) : Int)]) (.int .u32 (((tu x r0) : Nat) : Int)) 0 7 (fun w q _ hq => turn_d hx (by omega) hq) rfl rfl (by simp) (fm := pt 0) (t0 := 121) (c := dgc H p fl ln)) <|
    oc (k_mp 0 (pt 0) (.inl rfl) rfl) <|
    oc (k_mv (.inl rfl) rfl) <|
    oc (k_ia 1 0 1 (.int .i64 ((1 : Nat) : Int)) (ix3 (i := 1) (by decide)) rfl rfl) <|
    oc (k_ld 1 1 (.int .i64 ((r1 : Nat) : Int)) (c := i3 r0 r1 r2) (ld3 (a := r0) (b := r1) (c := r2) (i := 1) (v := r1) 116 rfl) rfl rfl) <|
    oc (k_cb 93 (fun q => #[.pointer (some ⟨q, 0, none⟩), .int .u32 ((x : Nat) : Int), .int .i64 ((r1 : Nat) : Int)]) (.int .u32 (((tu x r1) : Nat) : Int)) 0 12 (fun w q _ hq => turn_d hx (by omega) hq) rfl rfl (by simp) (fm := pt 0) (t0 := 121) (c := dgc H p fl ln)) <|
    oc (k_bi (.int .u32 (((tu x r0) : Nat) : Int)) (.int .u32 (((tu x r1) : Nat) : Int)) (.int .u32 ((((tu x r0) ^^^ (tu x r1)) : Nat) : Int)) (xor_w (m := (tu x r0)) (n := (tu x r1)) (tu_lt hx) (tu_lt hx)) rfl rfl) <|
    oc (k_mp 0 (pt 0) (.inl rfl) rfl) <|
    oc (k_mv (.inl rfl) rfl) <|
    oc (k_ia 1 0 2 (.int .i64 ((2 : Nat) : Int)) (ix3 (i := 2) (by decide)) rfl rfl) <|
    oc (k_ld 1 2 (.int .i64 ((r2 : Nat) : Int)) (c := i3 r0 r1 r2) (ld3 (a := r0) (b := r1) (c := r2) (i := 2) (v := r2) 116 rfl) rfl rfl) <|
    oc (k_cb 93 (fun q => #[.pointer (some ⟨q, 0, none⟩), .int .u32 ((x : Nat) : Int), .int .i64 ((r2 : Nat) : Int)]) (.int .u32 (((tu x r2) : Nat) : Int)) 0 18 (fun w q _ hq => turn_d hx (by omega) hq) rfl rfl (by simp) (fm := pt 0) (t0 := 121) (c := dgc H p fl ln)) <|
    oz (k_bi (.int .u32 ((((tu x r0) ^^^ (tu x r1)) : Nat) : Int)) (.int .u32 (((tu x r2) : Nat) : Int)) (.int .u32 (((((tu x r0) ^^^ (tu x r1)) ^^^ (tu x r2)) : Nat) : Int)) (xor_w (m := ((tu x r0) ^^^ (tu x r1))) (n := (tu x r2)) (xor_lt (tu_lt hx) (tu_lt hx)) (tu_lt hx)) rfl rfl) <|
    oz (k_mv (.inr rfl) rfl) <|
    ok_nil
  clear h; intro β a w h
  refine sym_then ?_
  refine wp_ret ?_
  exact s_rq h hq Tryd.results89 (fun hb => ⟨rfl, hb⟩)

set_option maxHeartbeats 4000000 in
theorem low_d {x r0 r1 r2 : Nat} (hx : x < B32) (h0 : r0 ≤ 32) (h1 : r1 ≤ 32) (h2 : r2 ≤ 32) (hq : W0.heap[q]? = some (.cells (dgc H p fl ln) 121 (0, 0))) : Calls Tryd.prog 92 #[.pointer (some ⟨q, 0, none⟩), .int .u32 ((x : Nat) : Int), .agg (i3 r0 r1 r2)] W0 fun e w' => e = .returned (.int .u32 ((loW x r0 r1 r2 : Nat) : Int)) ∧ Below W0.heap.size W0 w' := by
  refine s_ip Tryd.func92 Tryd.ntmps92 rfl hq [.inr (0, pt 0), .inl (.int .u32 ((x : Nat) : Int)), .inl (.agg (i3 r0 r1 r2))] ?_
  intro β a h
  refine sym_seq ?_
  refine St.rg h [(5, .inr (1, pt 0)), (6, .inl (.int .u32 ((0 : Nat) : Int)))] [(i3 r0 r1 r2, 116)] [] [eN 1] ?_ ?_
  · exact oc (k_bx 1 (.agg (i3 r0 r1 r2)) (bx3 (a := r0) (b := r1) (c := r2)) rfl rfl) <|
    oz (k_mv (.inr rfl) rfl) <|
    ok_nil
  clear h; intro β a w h
  refine sym_then ?_
  refine sym_seq ?_
  refine St.r0 h [(7, .inr (0, pt 0)), (8, .inl (.int .u32 ((x : Nat) : Int))), (9, .inr (1, pt 0)), (10, .inl (.int .i64 ((r0 : Nat) : Int))), (11, .inl (.int .u32 (((tu x r0) : Nat) : Int))), (12, .inr (0, pt 0)), (13, .inl (.int .u32 ((x : Nat) : Int))), (14, .inr (1, pt 1)), (15, .inl (.int .i64 ((r1 : Nat) : Int))), (16, .inl (.int .u32 (((tu x r1) : Nat) : Int))), (17, .inl (.int .u32 ((((tu x r0) ^^^ (tu x r1)) : Nat) : Int))), (18, .inl (.int .u32 ((x : Nat) : Int))), (19, .inr (1, pt 2)), (20, .inl (.int .i64 ((r2 : Nat) : Int))), (21, .inl (.int .u32 (((x / 2 ^ r2) : Nat) : Int))), (22, .inl (.int .u32 (((((tu x r0) ^^^ (tu x r1)) ^^^ (x / 2 ^ r2)) : Nat) : Int))), (6, .inl (.int .u32 (((((tu x r0) ^^^ (tu x r1)) ^^^ (x / 2 ^ r2)) : Nat) : Int)))] [nn, nn, nn, eR 1, eR 0, nn, nn, nn, eR 1, eR 0, nn, nn, nn, eR 1] ?_ ?_
  · exact oc (k_mp 0 (pt 0) (.inl rfl) rfl) <|
    oc (k_mv (.inl rfl) rfl) <|
    oc (k_ia 1 0 0 (.int .i64 ((0 : Nat) : Int)) (ix3 (i := 0) (by decide)) rfl rfl) <|
    oc (k_ld 1 0 (.int .i64 ((r0 : Nat) : Int)) (c := i3 r0 r1 r2) (ld3 (a := r0) (b := r1) (c := r2) (i := 0) (v := r0) 116 rfl) rfl rfl) <|
    oc (k_cb 93 (fun q => #[.pointer (some ⟨q, 0, none⟩), .int .u32 ((x : Nat) : Int), .int .i64 ((r0 : Nat) : Int)]) (.int .u32 (((tu x r0) : Nat) : Int)) 0 7 (fun w q _ hq => turn_d hx (by omega) hq) rfl rfl (by simp) (fm := pt 0) (t0 := 121) (c := dgc H p fl ln)) <|
    oc (k_mp 0 (pt 0) (.inl rfl) rfl) <|
    oc (k_mv (.inl rfl) rfl) <|
    oc (k_ia 1 0 1 (.int .i64 ((1 : Nat) : Int)) (ix3 (i := 1) (by decide)) rfl rfl) <|
    oc (k_ld 1 1 (.int .i64 ((r1 : Nat) : Int)) (c := i3 r0 r1 r2) (ld3 (a := r0) (b := r1) (c := r2) (i := 1) (v := r1) 116 rfl) rfl rfl) <|
    oc (k_cb 93 (fun q => #[.pointer (some ⟨q, 0, none⟩), .int .u32 ((x : Nat) : Int), .int .i64 ((r1 : Nat) : Int)]) (.int .u32 (((tu x r1) : Nat) : Int)) 0 12 (fun w q _ hq => turn_d hx (by omega) hq) rfl rfl (by simp) (fm := pt 0) (t0 := 121) (c := dgc H p fl ln)) <|
    oc (k_bi (.int .u32 (((tu x r0) : Nat) : Int)) (.int .u32 (((tu x r1) : Nat) : Int)) (.int .u32 ((((tu x r0) ^^^ (tu x r1)) : Nat) : Int)) (xor_w (m := (tu x r0)) (n := (tu x r1)) (tu_lt hx) (tu_lt hx)) rfl rfl) <|
    oc (k_mv (.inl rfl) rfl) <|
    oc (k_ia 1 0 2 (.int .i64 ((2 : Nat) : Int)) (ix3 (i := 2) (by decide)) rfl rfl) <|
    oc (k_ld 1 2 (.int .i64 ((r2 : Nat) : Int)) (c := i3 r0 r1 r2) (ld3 (a := r0) (b := r1) (c := r2) (i := 2) (v := r2) 116 rfl) rfl rfl) <|
    oz (k_bi (.int .u32 ((x : Nat) : Int)) (.int .i64 ((r2 : Nat) : Int)) (.int .u32 (((x / 2 ^ r2) : Nat) : Int)) (fun w => sr_w (m := x) (r := r2) w (by omega)) rfl rfl) <|
    oz (k_bi (.int .u32 ((((tu x r0) ^^^ (tu x r1)) : Nat) : Int)) (.int .u32 (((x / 2 ^ r2) : Nat) : Int)) (.int .u32 (((((tu x r0) ^^^ (tu x r1)) ^^^ (x / 2 ^ r2)) : Nat) : Int)) (xor_w (m := ((tu x r0) ^^^ (tu x r1))) (n := (x / 2 ^ r2)) (xor_lt (tu_lt hx) (tu_lt hx)) (div_lt hx)) rfl rfl) <|
    oz (k_mv (.inr rfl) rfl) <|
    ok_nil
  clear h; intro β a w h
  refine sym_then ?_
  refine wp_ret ?_
  exact s_rq h hq Tryd.results92 (fun hb => ⟨rfl, hb⟩)

end
end Go.Proofs.YtgnmnoadfjdjdaaDoor.Sh

namespace Go.Proofs.YtgnmnoadfjdjdaaDoor.Sh
open Go.RowKit

def aw (n : Nat) (F : Nat → Nat) : Array Value := arr n fun i => .int .u32 ((F i : Nat) : Int)
theorem aw_size (n : Nat) (F : Nat → Nat) : (aw n F).size = n := arr_size _ _
theorem aw_set (n : Nat) (F : Nat → Nat) (i v : Nat) : (aw n F).setIfInBounds i (.int .u32 ((v : Nat) : Int)) = aw n (updN F i v) := by
  unfold aw
  rw [arr_set]
  refine arr_congr fun j _ => ?_
  unfold upd updN
  split <;> rfl
theorem aw_one (n : Nat) (F : Nat → Nat) : (aw n F).all (·.oneCell') = true := arr_one
theorem ld_aw {t0 : TypeId} {n i : Nat} {F : Nat → Nat} (hi : i < n) (w : World) (q : Nat) (h : w.heap[q]? = some (.cells (aw n F) t0 (0, 0))) : (Instr.loadAt 98 (.pointer (some ⟨q, i, none⟩))).run Tryd.prog w = .ok (.int .u32 ((F i : Nat) : Int)) w := by
  have h1 : w.cell? ⟨q, i, none⟩ = some (.int .u32 ((F i : Nat) : Int)) := by
    rw [cell_of_row _ _ _ _ _ _ h]; exact arr_get _ _ _ hi
  simp [Instr.loadAt, Instr.sureAddr, go_sem, h1]
theorem st_cell {t0 : TypeId} {c c' : Array Value} {i v : Nat} {x : Value} (hi : c[i]? = some x) (hc : c.setIfInBounds i (.int .u32 ((v : Nat) : Int)) = c') (w : World) (q : Nat) (h : w.heap[q]? = some (.cells c t0 (0, 0))) : (Instr.storeAt 98 (.pointer (some ⟨q, i, none⟩)) (.int .u32 ((v : Nat) : Int))).run Tryd.prog w = .ok () (w.setRow q c') := by
  have h1 : w.cell? ⟨q, i, none⟩ = some x := by rw [cell_of_row _ _ _ _ _ _ h]; exact hi
  have h2 : w.setCell ⟨q, i, none⟩ (.int .u32 ((v : Nat) : Int)) = w.setRow q c' := by rw [set_row h, hc]
  have h3 : w.frozen? ⟨q, i, none⟩ = false := by
    simp [World.frozen?, h]
  simp [Instr.storeAt, Instr.sureAddr, go_sem, h1, h2, h3]
theorem st_aw {t0 : TypeId} {n i v : Nat} {F : Nat → Nat} (hi : i < n) (w : World) (q : Nat) (h : w.heap[q]? = some (.cells (aw n F) t0 (0, 0))) : (Instr.storeAt 98 (.pointer (some ⟨q, i, none⟩)) (.int .u32 ((v : Nat) : Int))).run Tryd.prog w = .ok () (w.setRow q (aw n (updN F i v))) :=
  st_cell (arr_get _ _ _ hi) (aw_set _ _ _ _) w q h
theorem al80 (w : World) : (Instr.alloc 130 true (.tuple #[])).run Tryd.prog w = .ok (.pointer (some ⟨w.heap.size, 0, none⟩)) (w.alloc (.cells (aw 80 fun _ => 0) 130)) := by
  have e : (zeroValue 130).run Tryd.prog w = .ok (.agg (aw 80 fun _ => 0)) w := by kernel_rfl
  simp [Instr.alloc, go_sem, e]
theorem ld80 {F : Nat → Nat} (t0 : TypeId) (w : World) (q : Nat) (h : w.heap[q]? = some (.cells (aw 80 F) t0 (0, 0))) : (Instr.loadAt 130 (.pointer (some ⟨q, 0, none⟩))).run Tryd.prog w = .ok (.agg (aw 80 F)) w :=
  ld_row (c := aw 80 F) Tryd.underlying130 rfl (by rw [aw_size]; kernel_rfl) w q h
theorem st80 {F : Nat → Nat} {c : Array Value} (t0 : TypeId) (hc : c.size = 80) (w : World) (q : Nat) (h : w.heap[q]? = some (.cells c t0 (0, 0))) : (Instr.storeAt 130 (.pointer (some ⟨q, 0, none⟩)) (.agg (aw 80 F))).run Tryd.prog w = .ok () (w.setRow q (aw 80 F)) :=
  st_row (n := aw 80 F) (by rw [aw_size]; kernel_rfl) (by rw [hc, aw_size]) (aw_one _ _) w q h
theorem ix80 {i : Nat} (hi : i < 80) (w : World) (q : Nat) : (Instr.indexAt 130 (.pointer (some ⟨q, 0, none⟩)) (.int .i64 ((i : Nat) : Int))).run Tryd.prog w = .ok (.pointer (some ⟨q, i, none⟩)) w := by
  simp [Instr.indexAt, go_sem, hi, addr_add]
/-! The plan in a block of its own. -/
theorem stPl {c : Array Value} (t0 : TypeId) (hc : c.size = 14) (w : World) (q : Nat) (h : w.heap[q]? = some (.cells c t0 (0, 0))) : (Instr.storeAt 118 (.pointer (some ⟨q, 0, none⟩)) (.agg pl14)).run Tryd.prog w = .ok () (w.setRow q pl14) :=
  st_row (n := pl14) (by rw [pl14_size]; kernel_rfl) (by rw [hc, pl14_size]) arr_one w q h
section
variable {H p : Nat → Nat} {fl ln : Nat} {t0 : TypeId}
theorem dgv_pl {i : Nat} (h : i < 14) : dgv H p fl ln i = .int .i64 ((plL.getD i 0 : Nat) : Int) := if_pos h
theorem dgv_w {i : Nat} (h : i < 8) : dgv H p fl ln (14 + i) = .int .u32 ((H i : Nat) : Int) := by
  unfold dgv
  rw [if_neg (by omega), if_pos (by omega), show 14 + i - 14 = i by omega]
theorem dgv_p {i : Nat} (h : i < 128) : dgv H p fl ln (22 + i) = .int .u8 ((p i : Nat) : Int) := by
  unfold dgv
  rw [if_neg (by omega), if_neg (by omega), if_pos (by omega), show 22 + i - 22 = i by omega]
theorem ld_dgP (w : World) (q : Nat) (h : w.heap[q]? = some (.cells (dgc H p fl ln) t0 (0, 0))) : (Instr.loadAt 118 (.pointer (some ⟨q, 0, none⟩))).run Tryd.prog w = .ok (.agg pl14) w := by
  have hc : ∀ i, i < 14 → w.cell? ⟨q, i, none⟩ = some (.int .i64 ((plL.getD i 0 : Nat) : Int)) := fun i hi => by rw [dg_cell (by omega) h, dgv_pl hi]
  have c0 := hc 0 (by decide); have c1 := hc 1 (by decide); have c2 := hc 2 (by decide); have c3 := hc 3 (by decide); have c4 := hc 4 (by decide); have c5 := hc 5 (by decide); have c6 := hc 6 (by decide)
  have c7 := hc 7 (by decide); have c8 := hc 8 (by decide); have c9 := hc 9 (by decide); have c10 := hc 10 (by decide); have c11 := hc 11 (by decide); have c12 := hc 12 (by decide); have c13 := hc 13 (by decide)
  clear hc h
  have e : pl14 = #[.int .i64 ((plL.getD 0 0 : Nat) : Int), .int .i64 ((plL.getD 1 0 : Nat) : Int), .int .i64 ((plL.getD 2 0 : Nat) : Int), .int .i64 ((plL.getD 3 0 : Nat) : Int), .int .i64 ((plL.getD 4 0 : Nat) : Int), .int .i64 ((plL.getD 5 0 : Nat) : Int), .int .i64 ((plL.getD 6 0 : Nat) : Int), .int .i64 ((plL.getD 7 0 : Nat) : Int), .int .i64 ((plL.getD 8 0 : Nat) : Int), .int .i64 ((plL.getD 9 0 : Nat) : Int), .int .i64 ((plL.getD 10 0 : Nat) : Int), .int .i64 ((plL.getD 11 0 : Nat) : Int), .int .i64 ((plL.getD 12 0 : Nat) : Int), .int .i64 ((plL.getD 13 0 : Nat) : Int)] := by kernel_rfl
  rw [e]
  simp [Instr.loadAt, Instr.sureAddr, go_sem, c0, c1, c2, c3, c4, c5, c6, c7, c8, c9, c10, c11, c12, c13]
theorem ld_dg8 {i : Nat} (hi : i < 128) (w : World) (q : Nat) (h : w.heap[q]? = some (.cells (dgc H p fl ln) t0 (0, 0))) : (Instr.loadAt 5 (.pointer (some ⟨q, 22 + i, none⟩))).run Tryd.prog w = .ok (.int .u8 ((p i : Nat) : Int)) w := by
  have h1 := dg_cell (i := 22 + i) (by omega) h
  rw [dgv_p hi] at h1
  simp [Instr.loadAt, Instr.sureAddr, go_sem, h1]
theorem ld_dgW {i : Nat} (hi : i < 8) (w : World) (q : Nat) (h : w.heap[q]? = some (.cells (dgc H p fl ln) t0 (0, 0))) : (Instr.loadAt 98 (.pointer (some ⟨q, 14 + i, none⟩))).run Tryd.prog w = .ok (.int .u32 ((H i : Nat) : Int)) w := ld_dgU (by omega) (dgv_w hi) w q h
theorem st_dgW {i v : Nat} (hi : i < 8) (w : World) (q : Nat) (h : w.heap[q]? = some (.cells (dgc H p fl ln) t0 (0, 0))) : (Instr.storeAt 98 (.pointer (some ⟨q, 14 + i, none⟩)) (.int .u32 ((v : Nat) : Int))).run Tryd.prog w = .ok () (w.setRow q (dgc (updN H i v) p fl ln)) := by
  refine st_cell (arr_get _ _ _ (by omega)) ?_ w q h
  unfold dgc
  rw [arr_set]
  refine arr_congr fun j _ => ?_
  unfold upd
  by_cases e : j = 14 + i
  · subst e; rw [if_pos rfl, dgv_w hi]; unfold updN; rw [if_pos rfl]
  · rw [if_neg e]
    unfold dgv updN
    by_cases h1 : j < 14
    · rw [if_pos h1, if_pos h1]
    · rw [if_neg h1, if_neg h1]
      by_cases h2 : j < 22
      · rw [if_pos h2, if_pos h2, if_neg (by omega)]
      · rw [if_neg h2, if_neg h2]
theorem ix8w {i : Nat} (hi : i < 8) (w : World) (q : Nat) : (Instr.indexAt 99 (.pointer (some ⟨q, 14, none⟩)) (.int .i64 ((i : Nat) : Int))).run Tryd.prog w = .ok (.pointer (some ⟨q, 14 + i, none⟩)) w := by
  simp [Instr.indexAt, go_sem, hi]
end
theorem in8 {F : Nat → Nat} {i : Nat} (hi : i < 8) (w : World) : (Instr.index 99 (.agg (aw 8 F)) (.int .i64 ((i : Nat) : Int))).run Tryd.prog w = .ok (.int .u32 ((F i : Nat) : Int)) w := by
  have h1 : (aw 8 F)[i]? = some (.int .u32 ((F i : Nat) : Int)) := arr_get _ _ _ hi
  simp [Instr.index, go_sem, hi, h1]
/-! Pieces of a block. -/
section
variable {P : Program} {W : Wd} {ops : Array Oper} {s0 s1 : List SV} {z : List Blk} {y : List (Array Value)} {o : Oper}
end
section
variable {x u : Operand}
theorem sl_8 {m : Nat} (w : World) : (do eqGuard .shl 98 x u (.int .u32 ((m : Nat) : Int)) (.int .u64 ((8 : Nat) : Int)); binOp .shl 98 (.int .u32 ((m : Nat) : Int)) (.int .u64 ((8 : Nat) : Int))).run Tryd.prog w = .ok (.int .u32 ((m * 2 ^ 8 % B32 : Nat) : Int)) w := by
  simp [eqGuard, binOp, go_sem, w32, B32_i]
end
theorem cv_bw {n : Nat} (h : n < 256) (w : World) : (convert 5 98 (.int .u8 ((n : Nat) : Int))).run Tryd.prog w = .ok (.int .u32 ((n : Nat) : Int)) w := by
  have h1 : IntKind.u32.wrap (n : Int) = ((n : Nat) : Int) := by rw [w32]; omega
  simp [convert, go_sem, h1]
/-! On paper. -/
def bwF (p F : Nat → Nat) (t : Nat) : Nat → Nat → Nat
  | 0 => F
  | j + 1 => updN (bwF p F t j) t (bwF p F t j t * 2 ^ 8 % B32 ||| p (t * 4 + j))
def r16 (p : Nat → Nat) : Nat → Nat → Nat
  | 0 => fun _ => 0
  | t + 1 => bwF p (r16 p t) t 4
def r80 (p : Nat → Nat) : Nat → Nat → Nat
  | 0 => r16 p 16
  | k + 1 => updN (r80 p k) (16 + k) ((((loW (r80 p k (16 + k - 2)) 17 19 10 + r80 p k (16 + k - 7)) % B32 + loW (r80 p k (16 + k - 15)) 7 18 3) % B32 + r80 p k (16 + k - 16)) % B32)
theorem upd_lt {F : Nat → Nat} {i v : Nat} (hF : ∀ j, F j < B32) (hv : v < B32) (j : Nat) : updN F i v j < B32 := by unfold updN; split <;> simp_all
theorem b256 {n : Nat} (h : n < 256) : n < B32 := Nat.lt_trans h (by decide)
theorem bwF_lt {p F : Nat → Nat} {t : Nat} (hp : ∀ i, p i < 256) (hF : ∀ j, F j < B32) : ∀ k j, bwF p F t k j < B32
  | 0, j => hF j
  | k + 1, j => upd_lt (bwF_lt hp hF k) (or_lt (mod_B _) (b256 (hp _))) j
theorem r16_lt {p : Nat → Nat} (hp : ∀ i, p i < 256) : ∀ t j, r16 p t j < B32
  | 0, _ => (by decide : 0 < B32)
  | t + 1, j => bwF_lt hp (r16_lt hp t) 4 j
theorem r80_lt {p : Nat → Nat} (hp : ∀ i, p i < 256) : ∀ k j, r80 p k j < B32
  | 0, j => r16_lt hp 16 j
  | k + 1, j => upd_lt (r80_lt hp k) (mod_B _) j
/-! Leaving with what a block holds, the block that came in as it was; leaving with nothing. -/
section
variable {P : Program} {W0 : World} {s : List SV} {m : List Blk} {β : Nat → Nat} {a : Act} {w : World} {q : Nat}
end
end Go.Proofs.YtgnmnoadfjdjdaaDoor.Sh

namespace Go.Proofs.YtgnmnoadfjdjdaaDoor.Sh
open Go.RowKit
theorem ld_dg8' {H p : Nat → Nat} {fl ln i j : Nat} {t0 : TypeId} (hi : i < 128) (hj : j = 22 + i) (w : World) (q : Nat) (h : w.heap[q]? = some (.cells (dgc H p fl ln) t0 (0, 0))) : (Instr.loadAt 5 (.pointer (some ⟨q, j, none⟩))).run Tryd.prog w = .ok (.int .u8 ((p i : Nat) : Int)) w := by
  subst hj; exact ld_dg8 hi w q h
set_option maxHeartbeats 8000000 in
theorem row_d {H p : Nat → Nat} {fl ln q : Nat} {W0 : World} (hp : ∀ i, p i < 256) (hq : W0.heap[q]? = some (.cells (dgc H p fl ln) 121 (0, 0))) : Calls Tryd.prog 88 #[.pointer (some ⟨q, 0, none⟩)] W0 fun e w' => e = .returned (.agg (aw 80 (r80 p 48))) ∧ Below W0.heap.size W0 w' := by
  refine s_ip Tryd.func88 Tryd.ntmps88 rfl hq [.inr (0, pt 0)] ?_
  intro β a h
  refine sym_seq ?_
  refine St.rg h [(2, .inr (1, pt 0))] [(aw 80 (fun _ => 0), 130)] [] [eN 1] ?_ ?_
  · exact oc (k_al 1 al80 rfl rfl) <|
    ok_nil
  clear h; intro β a w h
  refine sym_then ?_
  refine sym_seq ?_
  refine St.rg h [(10, .inr (0, pt 0)), (11, .inr (0, pt 0)), (12, .inr (0, pt 0)), (13, .inl (.agg pl14)), (3, .inr (2, pt 0))] [(ai 14 (fun _ => 0), 118)] [(2, pl14)] [nn, nn, nn, eR 0, eN 2, eS 2] ?_ ?_
  · exact oc (k_mp 0 (pt 0) (.inl rfl) rfl) <|
    oc (k_nc 0 0 rfl rfl) <|
    oc (k_fa 0 0 0 rfl rfl) <|
    oc (k_ld 0 0 (.agg pl14) (c := dgc H p fl ln) (ld_dgP (H := H) (p := p) (fl := fl) (ln := ln) (t0 := 121)) rfl rfl) <|
    oc (k_al 2 alPl rfl rfl) <|
    oc (k_st 2 0 (.agg pl14) (c := ai 14 (fun _ => 0)) (n := pl14) (stPl (c := ai 14 (fun _ => 0)) 118 (ai_size _ _)) rfl rfl) <|
    ok_nil
  clear h; intro β a w h
  refine sym_then ?_
  refine sym_seq ?_
  refine St.r0 h [(14, .inr (2, pt 0)), (15, .inl (.int .i64 ((32 : Nat) : Int))), (16, .inl (.int .i64 ((4 : Nat) : Int))), (4, .inl (.int .i64 ((4 : Nat) : Int)))] [nn, eR 2] ?_ ?_
  · exact oc (k_fa 2 0 0 rfl rfl) <|
    oc (k_ld 2 0 (.int .i64 ((32 : Nat) : Int)) (c := pl14) (ldpI (i := 0) (v := 32) 118 (by decide) rfl) rfl rfl) <|
    oz (k_bi (.int .i64 ((32 : Nat) : Int)) (.int .i64 ((8 : Nat) : Int)) (.int .i64 ((4 : Nat) : Int)) (qu_i (m := 32) (n := 8) (by decide) (by decide)) rfl rfl) <|
    oz (k_mv (.inr rfl) rfl) <|
    ok_nil
  clear h; intro β a w h
  refine sym_then ?_
  refine sym_seq ?_
  refine St.rg h [(5, .inr (3, pt 0))] [(aw 80 (fun _ => 0), 130)] [] [eN 3] ?_ ?_
  · exact oc (k_al 3 al80 rfl rfl) <|
    ok_nil
  clear h; intro β a w h
  refine sym_then ?_
  refine sym_seq ?_
  refine sym_seq ?_
  refine St.r0 h [(17, .inl (.int .i64 ((0 : Nat) : Int)))] [] ?_ ?_
  · exact oz (k_mv (.inl rfl) rfl) <|
    ok_nil
  clear h; intro β a w h
  refine sym_then ?_
  refine blk_in ?_
  replace h := St.sm h 3 (aw 80 (r16 p 0)) (c := aw 80 (fun _ => 0)) (t := 130) rfl
  obtain ⟨x, h⟩ := St.jn (n := 83) h [0, 2, 3, 4, 5, 10, 11, 12, 13, 14, 15, 16, 17] [.inr (0, pt 0), .inr (1, pt 0), .inr (2, pt 0), .inl (.int .i64 ((4 : Nat) : Int)), .inr (3, pt 0), .inr (0, pt 0), .inr (0, pt 0), .inr (0, pt 0), .inl (.agg pl14), .inr (2, pt 0), .inl (.int .i64 ((32 : Nat) : Int)), .inl (.int .i64 ((4 : Nat) : Int)), .inl (.int .i64 ((0 : Nat) : Int))] [(dgc H p fl ln, 121), (aw 80 (fun _ => 0), 130), (pl14, 118), (aw 80 (r16 p 0), 130)] (by kernel_rfl) (by kernel_rfl) (by kernel_rfl)
  refine loop_up 16 (fun t a w => ∃ (x : Nat → SV) (β : Nat → Nat), St (wdx W0 q) (ov (jk 83 x) ([0, 2, 3, 4, 5, 10, 11, 12, 13, 14, 15, 16, 17].zip [.inr (0, pt 0), .inr (1, pt 0), .inr (2, pt 0), .inl (.int .i64 ((4 : Nat) : Int)), .inr (3, pt 0), .inr (0, pt 0), .inr (0, pt 0), .inr (0, pt 0), .inl (.agg pl14), .inr (2, pt 0), .inl (.int .i64 ((32 : Nat) : Int)), .inl (.int .i64 ((4 : Nat) : Int)), .inl (.int .i64 ((t : Nat) : Int))])) [(dgc H p fl ln, 121), (aw 80 (fun _ => 0), 130), (pl14, 118), (aw 80 (r16 p t), 130)] β a w) ⟨x, _, h⟩ ?_
  clear h; rintro t a w hkt ⟨x, β, h⟩
  rcases Nat.lt_or_ge t 16 with hltt | hget
  · refine sym_seq ?_
    refine St.r0 h [(18, .inl (.bool true))] [] ?_ ?_
    · exact oz (k_bi (.int .i64 ((t : Nat) : Int)) (.int .i64 ((16 : Nat) : Int)) (.bool true) (lt_i (m := ((t : Nat) : Int)) (n := ((16 : Nat) : Int)) (decide_eq_true (by omega))) rfl rfl) <|
      ok_nil
    clear h; intro β a w h
    refine sym_then ?_
    refine sym_seq ?_
    refine s_ct h ?_
    refine wp_skip ?_
    refine sym_then ?_
    refine sym_seq ?_
    refine blk_in ?_
    refine sym_seq ?_
    refine St.r0 h [(19, .inl (.int .i64 ((t : Nat) : Int))), (6, .inl (.int .i64 ((t : Nat) : Int)))] [] ?_ ?_
    · exact oz (k_mv (.inl rfl) rfl) <|
      oz (k_mv (.inr rfl) rfl) <|
      ok_nil
    clear h; intro β a w h
    refine sym_then ?_
    refine sym_seq ?_
    refine St.r0 h [(20, .inr (0, pt 0)), (21, .inr (0, pt 0)), (22, .inr (0, pt 22)), (23, .inl (.int .i64 ((t : Nat) : Int))), (24, .inl (.int .i64 ((4 : Nat) : Int))), (25, .inl (.int .i64 (((t * 4) : Nat) : Int))), (26, .inl (.int .i64 ((t : Nat) : Int))), (27, .inl (.int .i64 (((t + 1) : Nat) : Int))), (28, .inl (.int .i64 ((4 : Nat) : Int))), (29, .inl (.int .i64 ((((t + 1) * 4) : Nat) : Int))), (30, .inr (0, sl (22 + (t * 4)) 4 (128 - (t * 4)))), (31, .inl (.int .i64 ((4 : Nat) : Int))), (32, .inl (.int .i64 ((0 : Nat) : Int)))] [] ?_ ?_
    · exact oz (k_mp 0 (pt 0) (.inl rfl) rfl) <|
      oz (k_nc 0 0 rfl rfl) <|
      oz (k_fa 0 0 22 rfl rfl) <|
      oz (k_mv (.inl rfl) rfl) <|
      oz (k_mv (.inl rfl) rfl) <|
      oz (k_bi (.int .i64 ((t : Nat) : Int)) (.int .i64 ((4 : Nat) : Int)) (.int .i64 (((t * 4) : Nat) : Int)) (mu_i (m := t) (n := 4) (by omega)) rfl rfl) <|
      oz (k_mv (.inl rfl) rfl) <|
      oz (k_bi (.int .i64 ((t : Nat) : Int)) (.int .i64 ((1 : Nat) : Int)) (.int .i64 (((t + 1) : Nat) : Int)) (ad_i (m := t) (n := 1) (by omega)) rfl rfl) <|
      oz (k_mv (.inl rfl) rfl) <|
      oz (k_bi (.int .i64 (((t + 1) : Nat) : Int)) (.int .i64 ((4 : Nat) : Int)) (.int .i64 ((((t + 1) * 4) : Nat) : Int)) (mu_i (m := (t + 1)) (n := 4) (by omega)) rfl rfl) <|
      oz (k_s2 0 22 (sl (22 + (t * 4)) 4 (128 - (t * 4))) (.int .i64 (((t * 4) : Nat) : Int)) (.int .i64 ((((t + 1) * 4) : Nat) : Int)) rfl rfl (sl_pc (lo := (t * 4)) (hi := ((t + 1) * 4)) (by omega) (by omega) (by omega) (by omega))) <|
      oz (k_lb 0 (22 + (t * 4)) 4 (128 - (t * 4)) rfl rfl (fun w ad => len_b _ w)) <|
      oz (k_mv (.inl rfl) rfl) <|
      ok_nil
    clear h; intro β a w h
    refine sym_then ?_
    refine blk_in ?_
    replace h := St.sm h 3 (aw 80 (bwF p (r16 p t) t 0)) (c := aw 80 (r16 p t)) (t := 130) rfl
    obtain ⟨x, h⟩ := St.jn (n := 83) h [0, 2, 3, 4, 5, 6, 10, 11, 12, 13, 14, 15, 16, 17, 18, 19, 20, 21, 22, 23, 24, 25, 26, 27, 28, 29, 30, 31, 32] [.inr (0, pt 0), .inr (1, pt 0), .inr (2, pt 0), .inl (.int .i64 ((4 : Nat) : Int)), .inr (3, pt 0), .inl (.int .i64 ((t : Nat) : Int)), .inr (0, pt 0), .inr (0, pt 0), .inr (0, pt 0), .inl (.agg pl14), .inr (2, pt 0), .inl (.int .i64 ((32 : Nat) : Int)), .inl (.int .i64 ((4 : Nat) : Int)), .inl (.int .i64 ((t : Nat) : Int)), .inl (.bool true), .inl (.int .i64 ((t : Nat) : Int)), .inr (0, pt 0), .inr (0, pt 0), .inr (0, pt 22), .inl (.int .i64 ((t : Nat) : Int)), .inl (.int .i64 ((4 : Nat) : Int)), .inl (.int .i64 (((t * 4) : Nat) : Int)), .inl (.int .i64 ((t : Nat) : Int)), .inl (.int .i64 (((t + 1) : Nat) : Int)), .inl (.int .i64 ((4 : Nat) : Int)), .inl (.int .i64 ((((t + 1) * 4) : Nat) : Int)), .inr (0, sl (22 + (t * 4)) 4 (128 - (t * 4))), .inl (.int .i64 ((4 : Nat) : Int)), .inl (.int .i64 ((0 : Nat) : Int))] [(dgc H p fl ln, 121), (aw 80 (fun _ => 0), 130), (pl14, 118), (aw 80 (bwF p (r16 p t) t 0), 130)] (by kernel_rfl) (by kernel_rfl) (by kernel_rfl)
    refine loop_up 4 (fun j a w => ∃ (x : Nat → SV) (β : Nat → Nat), St (wdx W0 q) (ov (jk 83 x) ([0, 2, 3, 4, 5, 6, 10, 11, 12, 13, 14, 15, 16, 17, 18, 19, 20, 21, 22, 23, 24, 25, 26, 27, 28, 29, 30, 31, 32].zip [.inr (0, pt 0), .inr (1, pt 0), .inr (2, pt 0), .inl (.int .i64 ((4 : Nat) : Int)), .inr (3, pt 0), .inl (.int .i64 ((t : Nat) : Int)), .inr (0, pt 0), .inr (0, pt 0), .inr (0, pt 0), .inl (.agg pl14), .inr (2, pt 0), .inl (.int .i64 ((32 : Nat) : Int)), .inl (.int .i64 ((4 : Nat) : Int)), .inl (.int .i64 ((t : Nat) : Int)), .inl (.bool true), .inl (.int .i64 ((t : Nat) : Int)), .inr (0, pt 0), .inr (0, pt 0), .inr (0, pt 22), .inl (.int .i64 ((t : Nat) : Int)), .inl (.int .i64 ((4 : Nat) : Int)), .inl (.int .i64 (((t * 4) : Nat) : Int)), .inl (.int .i64 ((t : Nat) : Int)), .inl (.int .i64 (((t + 1) : Nat) : Int)), .inl (.int .i64 ((4 : Nat) : Int)), .inl (.int .i64 ((((t + 1) * 4) : Nat) : Int)), .inr (0, sl (22 + (t * 4)) 4 (128 - (t * 4))), .inl (.int .i64 ((4 : Nat) : Int)), .inl (.int .i64 ((j : Nat) : Int))])) [(dgc H p fl ln, 121), (aw 80 (fun _ => 0), 130), (pl14, 118), (aw 80 (bwF p (r16 p t) t j), 130)] β a w) ⟨x, _, h⟩ ?_
    clear h; rintro j a w hkj ⟨x, β, h⟩
    rcases Nat.lt_or_ge j 4 with hltj | hgej
    · refine sym_seq ?_
      refine St.r0 h [(33, .inl (.bool true))] [] ?_ ?_
      · exact oz (k_bi (.int .i64 ((j : Nat) : Int)) (.int .i64 ((4 : Nat) : Int)) (.bool true) (lt_i (m := ((j : Nat) : Int)) (n := ((4 : Nat) : Int)) (decide_eq_true (by omega))) rfl rfl) <|
        ok_nil
      clear h; intro β a w h
      refine sym_then ?_
      refine sym_seq ?_
      refine s_ct h ?_
      refine wp_skip ?_
      refine sym_then ?_
      refine sym_seq ?_
      refine blk_in ?_
      refine sym_seq ?_
      refine St.r0 h [(34, .inr (0, pt ((22 + (t * 4)) + j))), (35, .inl (.int .u8 (((p (t * 4 + j)) : Nat) : Int))), (8, .inl (.int .u8 (((p (t * 4 + j)) : Nat) : Int)))] [nn, eR 0] ?_ ?_
      · exact oc (k_ib 0 (((22 + (t * 4)) + j)) (sl (22 + (t * 4)) 4 (128 - (t * 4))) (.int .i64 ((j : Nat) : Int)) (ix_pc (i := j) (by omega)) rfl rfl) <|
        oc (k_ld 0 (((22 + (t * 4)) + j)) (.int .u8 (((p (t * 4 + j)) : Nat) : Int)) (c := dgc H p fl ln) (ld_dg8' (H := H) (p := p) (fl := fl) (ln := ln) (t0 := 121) (i := t * 4 + j) (by omega) (by omega)) rfl rfl) <|
        oz (k_mv (.inr rfl) rfl) <|
        ok_nil
      clear h; intro β a w h
      refine sym_then ?_
      refine St.rg h [(36, .inl (.int .i64 ((t : Nat) : Int))), (37, .inl (.int .i64 ((t : Nat) : Int))), (38, .inr (3, pt t)), (39, .inl (.int .u32 (((bwF p (r16 p t) t j t) : Nat) : Int))), (40, .inl (.int .u32 ((((bwF p (r16 p t) t j t) * 2 ^ 8 % B32) : Nat) : Int))), (41, .inl (.int .u8 (((p (t * 4 + j)) : Nat) : Int))), (42, .inl (.int .u32 (((p (t * 4 + j)) : Nat) : Int))), (43, .inl (.int .u32 (((((bwF p (r16 p t) t j t) * 2 ^ 8 % B32) ||| (p (t * 4 + j))) : Nat) : Int))), (44, .inr (3, pt t))] [] [(3, aw 80 (updN (bwF p (r16 p t) t j) t (((bwF p (r16 p t) t j t) * 2 ^ 8 % B32) ||| (p (t * 4 + j)))))] [nn, nn, nn, eR 3, nn, nn, nn, nn, nn, eS 3] ?_ ?_
      · exact oc (k_mv (.inl rfl) rfl) <|
        oc (k_mv (.inl rfl) rfl) <|
        oc (k_ia 3 0 t (.int .i64 ((t : Nat) : Int)) (ix80 (i := t) (by omega)) rfl rfl) <|
        oc (k_ld 3 t (.int .u32 (((bwF p (r16 p t) t j t) : Nat) : Int)) (c := aw 80 (bwF p (r16 p t) t j)) (ld_aw (n := 80) (F := (bwF p (r16 p t) t j)) (i := t) (t0 := 130) (by omega)) rfl rfl) <|
        oc (k_bi (.int .u32 (((bwF p (r16 p t) t j t) : Nat) : Int)) (.int .u64 ((8 : Nat) : Int)) (.int .u32 ((((bwF p (r16 p t) t j t) * 2 ^ 8 % B32) : Nat) : Int)) (sl_8 (m := (bwF p (r16 p t) t j t))) rfl rfl) <|
        oc (k_mv (.inl rfl) rfl) <|
        oc (k_co (.int .u8 (((p (t * 4 + j)) : Nat) : Int)) (.int .u32 (((p (t * 4 + j)) : Nat) : Int)) (cv_bw (n := (p (t * 4 + j))) (hp _)) rfl rfl) <|
        oc (k_bi (.int .u32 ((((bwF p (r16 p t) t j t) * 2 ^ 8 % B32) : Nat) : Int)) (.int .u32 (((p (t * 4 + j)) : Nat) : Int)) (.int .u32 (((((bwF p (r16 p t) t j t) * 2 ^ 8 % B32) ||| (p (t * 4 + j))) : Nat) : Int)) (or_w (m := ((bwF p (r16 p t) t j t) * 2 ^ 8 % B32)) (n := (p (t * 4 + j))) (mod_B _) (b256 (hp _))) rfl rfl) <|
        oc (k_ia 3 0 t (.int .i64 ((t : Nat) : Int)) (ix80 (i := t) (by omega)) rfl rfl) <|
        oc (k_st 3 t (.int .u32 (((((bwF p (r16 p t) t j t) * 2 ^ 8 % B32) ||| (p (t * 4 + j))) : Nat) : Int)) (c := aw 80 (bwF p (r16 p t) t j)) (n := aw 80 (updN (bwF p (r16 p t) t j) t (((bwF p (r16 p t) t j t) * 2 ^ 8 % B32) ||| (p (t * 4 + j))))) (st_aw (n := 80) (F := (bwF p (r16 p t) t j)) (i := t) (v := (((bwF p (r16 p t) t j t) * 2 ^ 8 % B32) ||| (p (t * 4 + j)))) (t0 := 130) (by omega)) rfl rfl) <|
        ok_nil
      clear h; intro β a w h
      refine blk_norm ?_
      refine sym_then ?_
      refine St.r0 h [(45, .inl (.int .i64 (((j + 1) : Nat) : Int))), (32, .inl (.int .i64 (((j + 1) : Nat) : Int)))] [eO] ?_ ?_
      · exact oc (k_b0 (.int .i64 ((j : Nat) : Int)) (.int .i64 ((1 : Nat) : Int)) (.int .i64 (((j + 1) : Nat) : Int)) (ad_i (m := j) (n := 1) (by omega)) rfl rfl) <|
        oz (k_mv (.inl rfl) rfl) <|
        ok_nil
      clear h; intro β a w h
      replace h := St.sm h 3 (aw 80 (bwF p (r16 p t) t (j + 1))) (c := aw 80 (updN (bwF p (r16 p t) t j) t (((bwF p (r16 p t) t j t) * 2 ^ 8 % B32) ||| (p (t * 4 + j))))) (t := 130) rfl
      obtain ⟨x, h⟩ := St.jn (n := 83) h [0, 2, 3, 4, 5, 6, 10, 11, 12, 13, 14, 15, 16, 17, 18, 19, 20, 21, 22, 23, 24, 25, 26, 27, 28, 29, 30, 31, 32] [.inr (0, pt 0), .inr (1, pt 0), .inr (2, pt 0), .inl (.int .i64 ((4 : Nat) : Int)), .inr (3, pt 0), .inl (.int .i64 ((t : Nat) : Int)), .inr (0, pt 0), .inr (0, pt 0), .inr (0, pt 0), .inl (.agg pl14), .inr (2, pt 0), .inl (.int .i64 ((32 : Nat) : Int)), .inl (.int .i64 ((4 : Nat) : Int)), .inl (.int .i64 ((t : Nat) : Int)), .inl (.bool true), .inl (.int .i64 ((t : Nat) : Int)), .inr (0, pt 0), .inr (0, pt 0), .inr (0, pt 22), .inl (.int .i64 ((t : Nat) : Int)), .inl (.int .i64 ((4 : Nat) : Int)), .inl (.int .i64 (((t * 4) : Nat) : Int)), .inl (.int .i64 ((t : Nat) : Int)), .inl (.int .i64 (((t + 1) : Nat) : Int)), .inl (.int .i64 ((4 : Nat) : Int)), .inl (.int .i64 ((((t + 1) * 4) : Nat) : Int)), .inr (0, sl (22 + (t * 4)) 4 (128 - (t * 4))), .inl (.int .i64 ((4 : Nat) : Int)), .inl (.int .i64 (((j + 1) : Nat) : Int))] [(dgc H p fl ln, 121), (aw 80 (fun _ => 0), 130), (pl14, 118), (aw 80 (bwF p (r16 p t) t (j + 1)), 130)] (by kernel_rfl) (by kernel_rfl) (by kernel_rfl)
      exact ⟨hltj, x, _, h⟩
    · obtain rfl : 4 = j := by omega
      refine sym_seq ?_
      refine St.r0 h [(33, .inl (.bool false))] [] ?_ ?_
      · exact oz (k_bi (.int .i64 ((4 : Nat) : Int)) (.int .i64 ((4 : Nat) : Int)) (.bool false) (lt_i (m := ((4 : Nat) : Int)) (n := ((4 : Nat) : Int)) (decide_eq_false (by omega))) rfl rfl) <|
        ok_nil
      clear h; intro β a w h
      refine sym_then ?_
      refine sym_seq ?_
      refine s_cf h ?_
      refine wp_exit ?_
      refine then_exit ?_
      refine then_exit ?_
      refine blk_exit ?_
      refine blk_norm ?_
      refine sym_then ?_
      refine St.r0 h [(46, .inl (.int .i64 (((t + 1) : Nat) : Int))), (17, .inl (.int .i64 (((t + 1) : Nat) : Int)))] [eO] ?_ ?_
      · exact oc (k_b0 (.int .i64 ((t : Nat) : Int)) (.int .i64 ((1 : Nat) : Int)) (.int .i64 (((t + 1) : Nat) : Int)) (ad_i (m := t) (n := 1) (by omega)) rfl rfl) <|
        oz (k_mv (.inl rfl) rfl) <|
        ok_nil
      clear h; intro β a w h
      replace h := St.sm h 3 (aw 80 (r16 p (t + 1))) (c := aw 80 (bwF p (r16 p t) t 4)) (t := 130) rfl
      obtain ⟨x, h⟩ := St.jn (n := 83) h [0, 2, 3, 4, 5, 10, 11, 12, 13, 14, 15, 16, 17] [.inr (0, pt 0), .inr (1, pt 0), .inr (2, pt 0), .inl (.int .i64 ((4 : Nat) : Int)), .inr (3, pt 0), .inr (0, pt 0), .inr (0, pt 0), .inr (0, pt 0), .inl (.agg pl14), .inr (2, pt 0), .inl (.int .i64 ((32 : Nat) : Int)), .inl (.int .i64 ((4 : Nat) : Int)), .inl (.int .i64 (((t + 1) : Nat) : Int))] [(dgc H p fl ln, 121), (aw 80 (fun _ => 0), 130), (pl14, 118), (aw 80 (r16 p (t + 1)), 130)] (by kernel_rfl) (by kernel_rfl) (by kernel_rfl)
      exact ⟨hltt, x, _, h⟩
  · obtain rfl : 16 = t := by omega
    refine sym_seq ?_
    refine St.r0 h [(18, .inl (.bool false))] [] ?_ ?_
    · exact oz (k_bi (.int .i64 ((16 : Nat) : Int)) (.int .i64 ((16 : Nat) : Int)) (.bool false) (lt_i (m := ((16 : Nat) : Int)) (n := ((16 : Nat) : Int)) (decide_eq_false (by omega))) rfl rfl) <|
      ok_nil
    clear h; intro β a w h
    refine sym_then ?_
    refine sym_seq ?_
    refine s_cf h ?_
    refine wp_exit ?_
    refine then_exit ?_
    refine then_exit ?_
    refine blk_exit ?_
    refine sym_then ?_
    refine sym_seq ?_
    refine sym_seq ?_
    refine St.r0 h [(9, .inl (.int .i64 ((16 : Nat) : Int)))] [] ?_ ?_
    · exact oz (k_mv (.inr rfl) rfl) <|
      ok_nil
    clear h; intro β a w h
    refine sym_then ?_
    refine blk_in ?_
    replace h := St.sm h 3 (aw 80 (r80 p 0)) (c := aw 80 (r16 p 16)) (t := 130) rfl
    replace h := St.ss h 9 (.int .i64 (((16 + 0) : Nat) : Int)) (v := .int .i64 ((16 : Nat) : Int)) rfl
    obtain ⟨x, h⟩ := St.jn (n := 83) h [0, 2, 3, 4, 5, 9, 10, 11, 12, 13, 14, 15, 16, 17, 18] [.inr (0, pt 0), .inr (1, pt 0), .inr (2, pt 0), .inl (.int .i64 ((4 : Nat) : Int)), .inr (3, pt 0), .inl (.int .i64 (((16 + 0) : Nat) : Int)), .inr (0, pt 0), .inr (0, pt 0), .inr (0, pt 0), .inl (.agg pl14), .inr (2, pt 0), .inl (.int .i64 ((32 : Nat) : Int)), .inl (.int .i64 ((4 : Nat) : Int)), .inl (.int .i64 ((16 : Nat) : Int)), .inl (.bool false)] [(dgc H p fl ln, 121), (aw 80 (fun _ => 0), 130), (pl14, 118), (aw 80 (r80 p 0), 130)] (by kernel_rfl) (by kernel_rfl) (by kernel_rfl)
    refine loop_up 48 (fun k a w => ∃ (x : Nat → SV) (β : Nat → Nat), St (wdx W0 q) (ov (jk 83 x) ([0, 2, 3, 4, 5, 9, 10, 11, 12, 13, 14, 15, 16, 17, 18].zip [.inr (0, pt 0), .inr (1, pt 0), .inr (2, pt 0), .inl (.int .i64 ((4 : Nat) : Int)), .inr (3, pt 0), .inl (.int .i64 (((16 + k) : Nat) : Int)), .inr (0, pt 0), .inr (0, pt 0), .inr (0, pt 0), .inl (.agg pl14), .inr (2, pt 0), .inl (.int .i64 ((32 : Nat) : Int)), .inl (.int .i64 ((4 : Nat) : Int)), .inl (.int .i64 ((16 : Nat) : Int)), .inl (.bool false)])) [(dgc H p fl ln, 121), (aw 80 (fun _ => 0), 130), (pl14, 118), (aw 80 (r80 p k), 130)] β a w) ⟨x, _, h⟩ ?_
    clear h; rintro k a w hkk ⟨x, β, h⟩
    rcases Nat.lt_or_ge k 48 with hltk | hgek
    · refine sym_seq ?_
      refine sym_seq ?_
      refine St.r0 h [(47, .inl (.int .i64 (((16 + k) : Nat) : Int))), (48, .inr (2, pt 1)), (49, .inl (.int .i64 ((64 : Nat) : Int))), (50, .inl (.bool true))] [nn, nn, eR 2] ?_ ?_
      · exact oc (k_mv (.inl rfl) rfl) <|
        oc (k_fa 2 0 1 rfl rfl) <|
        oc (k_ld 2 1 (.int .i64 ((64 : Nat) : Int)) (c := pl14) (ldpI (i := 1) (v := 64) 118 (by decide) rfl) rfl rfl) <|
        oz (k_bi (.int .i64 (((16 + k) : Nat) : Int)) (.int .i64 ((64 : Nat) : Int)) (.bool true) (lt_i (m := (((16 + k) : Nat) : Int)) (n := ((64 : Nat) : Int)) (decide_eq_true (by omega))) rfl rfl) <|
        ok_nil
      clear h; intro β a w h
      refine sym_then ?_
      refine s_ct h ?_
      refine wp_skip ?_
      refine sym_then ?_
      refine sym_seq ?_
      refine blk_in ?_
      refine St.rg h [(53, .inl (.int .i64 (((16 + k) : Nat) : Int))), (54, .inr (0, pt 0)), (55, .inl (.int .i64 (((16 + k) : Nat) : Int))), (56, .inl (.int .i64 ((((16 + k) - 2) : Nat) : Int))), (57, .inr (3, pt ((16 + k) - 2))), (58, .inl (.int .u32 (((r80 p k ((16 + k) - 2)) : Nat) : Int))), (59, .inr (2, pt 2)), (60, .inl (.agg (i3 17 19 10))), (61, .inl (.int .u32 (((loW (r80 p k ((16 + k) - 2)) 17 19 10) : Nat) : Int))), (62, .inl (.int .i64 (((16 + k) : Nat) : Int))), (63, .inl (.int .i64 ((((16 + k) - 7) : Nat) : Int))), (64, .inr (3, pt ((16 + k) - 7))), (65, .inl (.int .u32 (((r80 p k ((16 + k) - 7)) : Nat) : Int))), (66, .inl (.int .u32 (((((loW (r80 p k ((16 + k) - 2)) 17 19 10) + (r80 p k ((16 + k) - 7))) % B32) : Nat) : Int))), (67, .inr (0, pt 0)), (68, .inl (.int .i64 (((16 + k) : Nat) : Int))), (69, .inl (.int .i64 ((((16 + k) - 15) : Nat) : Int))), (70, .inr (3, pt ((16 + k) - 15))), (71, .inl (.int .u32 (((r80 p k ((16 + k) - 15)) : Nat) : Int))), (72, .inr (2, pt 5)), (73, .inl (.agg (i3 7 18 3))), (74, .inl (.int .u32 (((loW (r80 p k ((16 + k) - 15)) 7 18 3) : Nat) : Int))), (75, .inl (.int .u32 (((((((loW (r80 p k ((16 + k) - 2)) 17 19 10) + (r80 p k ((16 + k) - 7))) % B32) + (loW (r80 p k ((16 + k) - 15)) 7 18 3)) % B32) : Nat) : Int))), (76, .inl (.int .i64 (((16 + k) : Nat) : Int))), (77, .inl (.int .i64 ((((16 + k) - 16) : Nat) : Int))), (78, .inr (3, pt ((16 + k) - 16))), (79, .inl (.int .u32 (((r80 p k ((16 + k) - 16)) : Nat) : Int))), (80, .inl (.int .u32 (((((((((loW (r80 p k ((16 + k) - 2)) 17 19 10) + (r80 p k ((16 + k) - 7))) % B32) + (loW (r80 p k ((16 + k) - 15)) 7 18 3)) % B32) + (r80 p k ((16 + k) - 16))) % B32) : Nat) : Int))), (81, .inr (3, pt (16 + k)))] [] [(3, aw 80 (updN (r80 p k) (16 + k) (((((((loW (r80 p k ((16 + k) - 2)) 17 19 10) + (r80 p k ((16 + k) - 7))) % B32) + (loW (r80 p k ((16 + k) - 15)) 7 18 3)) % B32) + (r80 p k ((16 + k) - 16))) % B32)))] [nn, nn, nn, nn, nn, eR 3, nn, eR 2, eR 0, nn, nn, nn, eR 3, nn, nn, nn, nn, nn, eR 3, nn, eR 2, eR 0, nn, nn, nn, nn, eR 3, nn, nn, eS 3] ?_ ?_
      · exact oc (k_mv (.inl rfl) rfl) <|
        oc (k_mp 0 (pt 0) (.inl rfl) rfl) <|
        oc (k_mv (.inl rfl) rfl) <|
        oc (k_bi (.int .i64 (((16 + k) : Nat) : Int)) (.int .i64 ((2 : Nat) : Int)) (.int .i64 ((((16 + k) - 2) : Nat) : Int)) (sb_zn (m := (((16 + k) : Nat) : Int)) (n := ((2 : Nat) : Int)) (k := ((16 + k) - 2)) (by omega) (by omega)) rfl rfl) <|
        oc (k_ia 3 0 (((16 + k) - 2)) (.int .i64 ((((16 + k) - 2) : Nat) : Int)) (ix80 (i := ((16 + k) - 2)) (by omega)) rfl rfl) <|
        oc (k_ld 3 (((16 + k) - 2)) (.int .u32 (((r80 p k ((16 + k) - 2)) : Nat) : Int)) (c := aw 80 (r80 p k)) (ld_aw (n := 80) (F := (r80 p k)) (i := ((16 + k) - 2)) (t0 := 130) (by omega)) rfl rfl) <|
        oc (k_fa 2 0 2 rfl rfl) <|
        oc (k_ld 2 2 (.agg (i3 17 19 10)) (c := pl14) (ldp3 (i := 2) (a := 17) (b := 19) (c := 10) 118 (by decide) rfl rfl rfl) rfl rfl) <|
        oc (k_cb 92 (fun q => #[.pointer (some ⟨q, 0, none⟩), .int .u32 (((r80 p k ((16 + k) - 2)) : Nat) : Int), .agg (i3 17 19 10)]) (.int .u32 (((loW (r80 p k ((16 + k) - 2)) 17 19 10) : Nat) : Int)) 0 54 (fun w q _ hq => low_d (r80_lt hp _ _) (by decide) (by decide) (by decide) hq) rfl rfl (by simp) (fm := pt 0) (t0 := 121) (c := dgc H p fl ln)) <|
        oc (k_mv (.inl rfl) rfl) <|
        oc (k_bi (.int .i64 (((16 + k) : Nat) : Int)) (.int .i64 ((7 : Nat) : Int)) (.int .i64 ((((16 + k) - 7) : Nat) : Int)) (sb_zn (m := (((16 + k) : Nat) : Int)) (n := ((7 : Nat) : Int)) (k := ((16 + k) - 7)) (by omega) (by omega)) rfl rfl) <|
        oc (k_ia 3 0 (((16 + k) - 7)) (.int .i64 ((((16 + k) - 7) : Nat) : Int)) (ix80 (i := ((16 + k) - 7)) (by omega)) rfl rfl) <|
        oc (k_ld 3 (((16 + k) - 7)) (.int .u32 (((r80 p k ((16 + k) - 7)) : Nat) : Int)) (c := aw 80 (r80 p k)) (ld_aw (n := 80) (F := (r80 p k)) (i := ((16 + k) - 7)) (t0 := 130) (by omega)) rfl rfl) <|
        oc (k_bi (.int .u32 (((loW (r80 p k ((16 + k) - 2)) 17 19 10) : Nat) : Int)) (.int .u32 (((r80 p k ((16 + k) - 7)) : Nat) : Int)) (.int .u32 (((((loW (r80 p k ((16 + k) - 2)) 17 19 10) + (r80 p k ((16 + k) - 7))) % B32) : Nat) : Int)) (ad_w (m := (loW (r80 p k ((16 + k) - 2)) 17 19 10)) (n := (r80 p k ((16 + k) - 7)))) rfl rfl) <|
        oc (k_mp 0 (pt 0) (.inl rfl) rfl) <|
        oc (k_mv (.inl rfl) rfl) <|
        oc (k_bi (.int .i64 (((16 + k) : Nat) : Int)) (.int .i64 ((15 : Nat) : Int)) (.int .i64 ((((16 + k) - 15) : Nat) : Int)) (sb_zn (m := (((16 + k) : Nat) : Int)) (n := ((15 : Nat) : Int)) (k := ((16 + k) - 15)) (by omega) (by omega)) rfl rfl) <|
        oc (k_ia 3 0 (((16 + k) - 15)) (.int .i64 ((((16 + k) - 15) : Nat) : Int)) (ix80 (i := ((16 + k) - 15)) (by omega)) rfl rfl) <|
        oc (k_ld 3 (((16 + k) - 15)) (.int .u32 (((r80 p k ((16 + k) - 15)) : Nat) : Int)) (c := aw 80 (r80 p k)) (ld_aw (n := 80) (F := (r80 p k)) (i := ((16 + k) - 15)) (t0 := 130) (by omega)) rfl rfl) <|
        oc (k_fa 2 0 5 rfl rfl) <|
        oc (k_ld 2 5 (.agg (i3 7 18 3)) (c := pl14) (ldp3 (i := 5) (a := 7) (b := 18) (c := 3) 118 (by decide) rfl rfl rfl) rfl rfl) <|
        oc (k_cb 92 (fun q => #[.pointer (some ⟨q, 0, none⟩), .int .u32 (((r80 p k ((16 + k) - 15)) : Nat) : Int), .agg (i3 7 18 3)]) (.int .u32 (((loW (r80 p k ((16 + k) - 15)) 7 18 3) : Nat) : Int)) 0 67 (fun w q _ hq => low_d (r80_lt hp _ _) (by decide) (by decide) (by decide) hq) rfl rfl (by simp) (fm := pt 0) (t0 := 121) (c := dgc H p fl ln)) <|
        oc (k_bi (.int .u32 (((((loW (r80 p k ((16 + k) - 2)) 17 19 10) + (r80 p k ((16 + k) - 7))) % B32) : Nat) : Int)) (.int .u32 (((loW (r80 p k ((16 + k) - 15)) 7 18 3) : Nat) : Int)) (.int .u32 (((((((loW (r80 p k ((16 + k) - 2)) 17 19 10) + (r80 p k ((16 + k) - 7))) % B32) + (loW (r80 p k ((16 + k) - 15)) 7 18 3)) % B32) : Nat) : Int)) (ad_w (m := (((loW (r80 p k ((16 + k) - 2)) 17 19 10) + (r80 p k ((16 + k) - 7))) % B32)) (n := (loW (r80 p k ((16 + k) - 15)) 7 18 3))) rfl rfl) <|
        oc (k_mv (.inl rfl) rfl) <|
        oc (k_bi (.int .i64 (((16 + k) : Nat) : Int)) (.int .i64 ((16 : Nat) : Int)) (.int .i64 ((((16 + k) - 16) : Nat) : Int)) (sb_zn (m := (((16 + k) : Nat) : Int)) (n := ((16 : Nat) : Int)) (k := ((16 + k) - 16)) (by omega) (by omega)) rfl rfl) <|
        oc (k_ia 3 0 (((16 + k) - 16)) (.int .i64 ((((16 + k) - 16) : Nat) : Int)) (ix80 (i := ((16 + k) - 16)) (by omega)) rfl rfl) <|
        oc (k_ld 3 (((16 + k) - 16)) (.int .u32 (((r80 p k ((16 + k) - 16)) : Nat) : Int)) (c := aw 80 (r80 p k)) (ld_aw (n := 80) (F := (r80 p k)) (i := ((16 + k) - 16)) (t0 := 130) (by omega)) rfl rfl) <|
        oc (k_bi (.int .u32 (((((((loW (r80 p k ((16 + k) - 2)) 17 19 10) + (r80 p k ((16 + k) - 7))) % B32) + (loW (r80 p k ((16 + k) - 15)) 7 18 3)) % B32) : Nat) : Int)) (.int .u32 (((r80 p k ((16 + k) - 16)) : Nat) : Int)) (.int .u32 (((((((((loW (r80 p k ((16 + k) - 2)) 17 19 10) + (r80 p k ((16 + k) - 7))) % B32) + (loW (r80 p k ((16 + k) - 15)) 7 18 3)) % B32) + (r80 p k ((16 + k) - 16))) % B32) : Nat) : Int)) (ad_w (m := (((((loW (r80 p k ((16 + k) - 2)) 17 19 10) + (r80 p k ((16 + k) - 7))) % B32) + (loW (r80 p k ((16 + k) - 15)) 7 18 3)) % B32)) (n := (r80 p k ((16 + k) - 16)))) rfl rfl) <|
        oc (k_ia 3 0 ((16 + k)) (.int .i64 (((16 + k) : Nat) : Int)) (ix80 (i := (16 + k)) (by omega)) rfl rfl) <|
        oc (k_st 3 ((16 + k)) (.int .u32 (((((((((loW (r80 p k ((16 + k) - 2)) 17 19 10) + (r80 p k ((16 + k) - 7))) % B32) + (loW (r80 p k ((16 + k) - 15)) 7 18 3)) % B32) + (r80 p k ((16 + k) - 16))) % B32) : Nat) : Int)) (c := aw 80 (r80 p k)) (n := aw 80 (updN (r80 p k) (16 + k) (((((((loW (r80 p k ((16 + k) - 2)) 17 19 10) + (r80 p k ((16 + k) - 7))) % B32) + (loW (r80 p k ((16 + k) - 15)) 7 18 3)) % B32) + (r80 p k ((16 + k) - 16))) % B32))) (st_aw (n := 80) (F := (r80 p k)) (i := (16 + k)) (v := (((((((loW (r80 p k ((16 + k) - 2)) 17 19 10) + (r80 p k ((16 + k) - 7))) % B32) + (loW (r80 p k ((16 + k) - 15)) 7 18 3)) % B32) + (r80 p k ((16 + k) - 16))) % B32)) (t0 := 130) (by omega)) rfl rfl) <|
        ok_nil
      clear h; intro β a w h
      refine blk_norm ?_
      refine sym_then ?_
      refine St.r0 h [(51, .inl (.int .i64 (((16 + k) : Nat) : Int))), (52, .inl (.int .i64 ((((16 + k) + 1) : Nat) : Int))), (9, .inl (.int .i64 ((((16 + k) + 1) : Nat) : Int)))] [eO] ?_ ?_
      · exact oc (k_m0 rfl rfl) <|
        oz (k_bi (.int .i64 (((16 + k) : Nat) : Int)) (.int .i64 ((1 : Nat) : Int)) (.int .i64 ((((16 + k) + 1) : Nat) : Int)) (ad_i (m := (16 + k)) (n := 1) (by omega)) rfl rfl) <|
        oz (k_mv (.inr rfl) rfl) <|
        ok_nil
      clear h; intro β a w h
      replace h := St.sm h 3 (aw 80 (r80 p (k + 1))) (c := aw 80 (updN (r80 p k) (16 + k) (((((((loW (r80 p k ((16 + k) - 2)) 17 19 10) + (r80 p k ((16 + k) - 7))) % B32) + (loW (r80 p k ((16 + k) - 15)) 7 18 3)) % B32) + (r80 p k ((16 + k) - 16))) % B32))) (t := 130) rfl
      replace h := St.ss h 9 (.int .i64 (((16 + (k + 1)) : Nat) : Int)) (v := .int .i64 ((((16 + k) + 1) : Nat) : Int)) rfl
      obtain ⟨x, h⟩ := St.jn (n := 83) h [0, 2, 3, 4, 5, 9, 10, 11, 12, 13, 14, 15, 16, 17, 18] [.inr (0, pt 0), .inr (1, pt 0), .inr (2, pt 0), .inl (.int .i64 ((4 : Nat) : Int)), .inr (3, pt 0), .inl (.int .i64 (((16 + (k + 1)) : Nat) : Int)), .inr (0, pt 0), .inr (0, pt 0), .inr (0, pt 0), .inl (.agg pl14), .inr (2, pt 0), .inl (.int .i64 ((32 : Nat) : Int)), .inl (.int .i64 ((4 : Nat) : Int)), .inl (.int .i64 ((16 : Nat) : Int)), .inl (.bool false)] [(dgc H p fl ln, 121), (aw 80 (fun _ => 0), 130), (pl14, 118), (aw 80 (r80 p (k + 1)), 130)] (by kernel_rfl) (by kernel_rfl) (by kernel_rfl)
      exact ⟨hltk, x, _, h⟩
    · obtain rfl : 48 = k := by omega
      refine sym_seq ?_
      refine sym_seq ?_
      refine St.r0 h [(47, .inl (.int .i64 (((16 + 48) : Nat) : Int))), (48, .inr (2, pt 1)), (49, .inl (.int .i64 ((64 : Nat) : Int))), (50, .inl (.bool false))] [nn, nn, eR 2] ?_ ?_
      · exact oc (k_mv (.inl rfl) rfl) <|
        oc (k_fa 2 0 1 rfl rfl) <|
        oc (k_ld 2 1 (.int .i64 ((64 : Nat) : Int)) (c := pl14) (ldpI (i := 1) (v := 64) 118 (by decide) rfl) rfl rfl) <|
        oz (k_bi (.int .i64 (((16 + 48) : Nat) : Int)) (.int .i64 ((64 : Nat) : Int)) (.bool false) (lt_i (m := (((16 + 48) : Nat) : Int)) (n := ((64 : Nat) : Int)) (decide_eq_false (by omega))) rfl rfl) <|
        ok_nil
      clear h; intro β a w h
      refine sym_then ?_
      refine s_cf h ?_
      refine wp_exit ?_
      refine then_exit ?_
      refine then_exit ?_
      refine blk_exit ?_
      refine sym_then ?_
      refine sym_seq ?_
      refine St.rg h [(82, .inl (.agg (aw 80 (r80 p 48))))] [] [(1, aw 80 (r80 p 48))] [eR 3, eS 1] ?_ ?_
      · exact oc (k_ld 3 0 (.agg (aw 80 (r80 p 48))) (c := aw 80 (r80 p 48)) (ld80 (F := (r80 p 48)) 130) rfl rfl) <|
        oc (k_st 1 0 (.agg (aw 80 (r80 p 48))) (c := aw 80 (fun _ => 0)) (n := aw 80 (r80 p 48)) (st80 (F := (r80 p 48)) (c := aw 80 (fun _ => 0)) 130 (aw_size _ _)) rfl rfl) <|
        ok_nil
      clear h; intro β a w h
      refine sym_then ?_
      refine wp_ret ?_
      exact s_rqc (b := 1) (t1 := 130) (c1 := aw 80 (r80 p 48)) h hq Tryd.results88 Tryd.underlying130 (fun hb => ⟨rfl, hb⟩) (by rw [aw_size]; kernel_rfl)
end Go.Proofs.YtgnmnoadfjdjdaaDoor.Sh

namespace Go.Proofs.YtgnmnoadfjdjdaaDoor.Sh
open Go.RowKit
theorem gl_ne {H p : Nat → Nat} {fl ln q : Nat} {w : World} (hg : Gl w) (hq : w.heap[q]? = some (.cells (dgc H p fl ln) 121 (0, 0))) : q ≠ 2 ∧ q ≠ 3 := by
  have h1 := dg_cell (i := 0) (by decide) hq
  rw [dgv_pl (by decide)] at h1
  constructor
  · rintro rfl
    rw [hg.1 0 (by decide)] at h1
    cases h1
  · rintro rfl
    rw [hg.2 0 (by decide)] at h1
    cases h1
theorem gl_cu {H p : Nat → Nat} {fl ln q k : Nat} {W0 : World} (hg : Gl W0) (hq : W0.heap[q]? = some (.cells (dgc H p fl ln) 121 (0, 0))) (hk : k < 80) (w : World) (hw : KW (wdx W0 q) w) : (Instr.loadAt 102 (.pointer (some ⟨3, k, none⟩))).run Tryd.prog w = .ok (.int .u64 ((cu k : Nat) : Int)) w := by
  have h0 := hg.2 k hk
  have hlt : 3 < W0.heap.size := by
    rcases Nat.lt_or_ge 3 W0.heap.size with h | h
    · exact h
    · unfold World.cell? at h0; rw [Array.getElem?_eq_none h] at h0; cases h0
  have hb := hw.block 3 ⟨hlt, fun e => (gl_ne hg hq).2 e.symm⟩
  have h1 : w.cell? ⟨3, k, none⟩ = some (.int .u64 ((cu k : Nat) : Int)) := by
    rw [← h0]; exact World.cell?_of_block (w := W0) hb
  simp [Instr.loadAt, Instr.sureAddr, go_sem, h1]
theorem ix80q {i : Nat} (hi : i < 80) (w : World) (q : Nat) : (Instr.indexAt 133 (.pointer (some ⟨q, 0, none⟩)) (.int .i64 ((i : Nat) : Int))).run Tryd.prog w = .ok (.pointer (some ⟨q, i, none⟩)) w := by
  simp [Instr.indexAt, go_sem, hi, addr_add]
theorem max_B : 4294967295 < B32 := by unfold B32; omega
/-- The rounds. -/
def vS (H R : Nat → Nat) : Nat → Nat → Nat
  | 0 => H
  | t + 1 => fun i => match i with
    | 0 => (((((((vS H R t 7 + hiW (vS H R t 4) 6 11 25) % B32) + ((vS H R t 4 &&& vS H R t 5) ||| ((4294967295 ^^^ vS H R t 4) &&& vS H R t 6))) % B32 + cu t / 2 ^ 32) % B32 + R t) % B32) + ((hiW (vS H R t 0) 2 13 22 + (((vS H R t 0 &&& vS H R t 1) ||| (vS H R t 0 &&& vS H R t 2)) ||| (vS H R t 1 &&& vS H R t 2))) % B32)) % B32
    | 1 => vS H R t 0
    | 2 => vS H R t 1
    | 3 => vS H R t 2
    | 4 => (vS H R t 3 + (((((vS H R t 7 + hiW (vS H R t 4) 6 11 25) % B32) + ((vS H R t 4 &&& vS H R t 5) ||| ((4294967295 ^^^ vS H R t 4) &&& vS H R t 6))) % B32 + cu t / 2 ^ 32) % B32 + R t) % B32) % B32
    | 5 => vS H R t 4
    | 6 => vS H R t 5
    | 7 => vS H R t 6
    | _ => 0
theorem vi {m n : Nat} (h : m = n) : Value.int .u32 ((m : Nat) : Int) = Value.int .u32 ((n : Nat) : Int) := by rw [h]
theorem vS_z (H R : Nat → Nat) (i : Nat) : H i = vS H R 0 i := rfl
theorem vS_s0 (H R : Nat → Nat) (t : Nat) : ((((((vS H R t 7 + hiW (vS H R t 4) 6 11 25) % B32 + ((vS H R t 4 &&& vS H R t 5) ||| ((4294967295 ^^^ vS H R t 4) &&& vS H R t 6))) % B32 + cu t / 2 ^ 32) % B32 + R t) % B32) + ((hiW (vS H R t 0) 2 13 22 + (((vS H R t 0 &&& vS H R t 1) ||| (vS H R t 0 &&& vS H R t 2)) ||| (vS H R t 1 &&& vS H R t 2))) % B32)) % B32 = vS H R (t + 1) 0 := by simp only [vS]
theorem vS_s4 (H R : Nat → Nat) (t : Nat) : (vS H R t 3 + (((((vS H R t 7 + hiW (vS H R t 4) 6 11 25) % B32 + ((vS H R t 4 &&& vS H R t 5) ||| ((4294967295 ^^^ vS H R t 4) &&& vS H R t 6))) % B32 + cu t / 2 ^ 32) % B32 + R t) % B32)) % B32 = vS H R (t + 1) 4 := by simp only [vS]
theorem vS_s1 (H R : Nat → Nat) (t : Nat) : vS H R t 0 = vS H R (t + 1) 1 := by simp only [vS]
theorem vS_s2 (H R : Nat → Nat) (t : Nat) : vS H R t 1 = vS H R (t + 1) 2 := by simp only [vS]
theorem vS_s3 (H R : Nat → Nat) (t : Nat) : vS H R t 2 = vS H R (t + 1) 3 := by simp only [vS]
theorem vS_s5 (H R : Nat → Nat) (t : Nat) : vS H R t 4 = vS H R (t + 1) 5 := by simp only [vS]
theorem vS_s6 (H R : Nat → Nat) (t : Nat) : vS H R t 5 = vS H R (t + 1) 6 := by simp only [vS]
theorem vS_s7 (H R : Nat → Nat) (t : Nat) : vS H R t 6 = vS H R (t + 1) 7 := by simp only [vS]
theorem vS_lt {H R : Nat → Nat} (hH : ∀ i, H i < B32) : ∀ t i, vS H R t i < B32
  | 0, i => hH i
  | t + 1, 0 => mod_B _
  | t + 1, 1 => vS_lt hH t 0
  | t + 1, 2 => vS_lt hH t 1
  | t + 1, 3 => vS_lt hH t 2
  | t + 1, 4 => mod_B _
  | t + 1, 5 => vS_lt hH t 4
  | t + 1, 6 => vS_lt hH t 5
  | t + 1, 7 => vS_lt hH t 6
  | _ + 1, _ + 8 => (by decide : 0 < B32)
def hF (H V : Nat → Nat) : Nat → Nat → Nat
  | 0 => H
  | k + 1 => updN (hF H V k) k ((hF H V k k + V k) % B32)
theorem hF_s (H V p : Nat → Nat) (k fl ln : Nat) : dgc (updN (hF H V k) k ((hF H V k k + V k) % B32)) p fl ln = dgc (hF H V (k + 1)) p fl ln := rfl
/-- The words behind a piece. -/
def mixH (H p : Nat → Nat) : Nat → Nat := hF H (vS H (r80 p 48) 64) 8
theorem hF_lt {H V : Nat → Nat} (hH : ∀ i, H i < B32) : ∀ k i, hF H V k i < B32
  | 0, i => hH i
  | k + 1, i => upd_lt (hF_lt hH k) (mod_B _) i
theorem mixH_lt {H p : Nat → Nat} (hH : ∀ i, H i < B32) (i : Nat) : mixH H p i < B32 := hF_lt hH 8 i
set_option maxHeartbeats 8000000 in
theorem mix_w {H p R : Nat → Nat} {fl ln q n m8 : Nat} {W0 : World} (hn : n = 64) (hm8 : m8 = 8) (cR : ∀ (w : World) (q : Nat), w.heap[q]? = some (.cells (dgc H p fl ln) 121 (0, 0)) → Calls Tryd.prog 88 #[.pointer (some ⟨q, 0, none⟩)] w fun e w' => e = .returned (.agg (aw 80 R)) ∧ Below w.heap.size w w') (hg : Gl W0) (hH : ∀ i, H i < B32) (hq : W0.heap[q]? = some (.cells (dgc H p fl ln) 121 (0, 0))) : Calls Tryd.prog 85 #[.pointer (some ⟨q, 0, none⟩)] W0 fun e w' => e = .returned (.tuple #[]) ∧ Wrt W0 w' q (dgc (hF H (vS H R n) m8) p fl ln) 121 := by
  refine s_ip Tryd.func85 Tryd.ntmps85 rfl hq [.inr (0, pt 0)] ?_
  intro β a h
  refine sym_seq ?_
  refine St.rg h [(19, .inr (0, pt 0)), (20, .inr (0, pt 0)), (21, .inr (0, pt 0)), (22, .inl (.agg pl14)), (2, .inr (1, pt 0))] [(ai 14 (fun _ => 0), 118)] [(1, pl14)] [nn, nn, nn, eR 0, eN 1, eS 1] ?_ ?_
  · exact oc (k_mp 0 (pt 0) (.inl rfl) rfl) <|
    oc (k_nc 0 0 rfl rfl) <|
    oc (k_fa 0 0 0 rfl rfl) <|
    oc (k_ld 0 0 (.agg pl14) (c := dgc H p fl ln) (ld_dgP (H := H) (p := p) (fl := fl) (ln := ln) (t0 := 121)) rfl rfl) <|
    oc (k_al 1 alPl rfl rfl) <|
    oc (k_st 1 0 (.agg pl14) (c := ai 14 (fun _ => 0)) (n := pl14) (stPl (c := ai 14 (fun _ => 0)) 118 (ai_size _ _)) rfl rfl) <|
    ok_nil
  clear h; intro β a w h
  refine sym_then ?_
  refine sym_seq ?_
  refine St.r0 h [(23, .inr (0, pt 0)), (24, .inr (0, pt 0)), (25, .inr (0, pt 14)), (26, .inr (0, pt (14 + 0))), (27, .inl (.int .u32 (((H 0) : Nat) : Int))), (28, .inr (0, pt 0)), (29, .inr (0, pt 0)), (30, .inr (0, pt 14)), (31, .inr (0, pt (14 + 1))), (32, .inl (.int .u32 (((H 1) : Nat) : Int))), (33, .inr (0, pt 0)), (34, .inr (0, pt 0)), (35, .inr (0, pt 14)), (36, .inr (0, pt (14 + 2))), (37, .inl (.int .u32 (((H 2) : Nat) : Int))), (38, .inr (0, pt 0)), (39, .inr (0, pt 0)), (40, .inr (0, pt 14)), (41, .inr (0, pt (14 + 3))), (42, .inl (.int .u32 (((H 3) : Nat) : Int))), (3, .inl (.int .u32 (((H 0) : Nat) : Int))), (4, .inl (.int .u32 (((H 1) : Nat) : Int))), (5, .inl (.int .u32 (((H 2) : Nat) : Int))), (6, .inl (.int .u32 (((H 3) : Nat) : Int)))] [nn, nn, nn, nn, eR 0, nn, nn, nn, nn, eR 0, nn, nn, nn, nn, eR 0, nn, nn, nn, nn, eR 0] ?_ ?_
  · exact oc (k_mp 0 (pt 0) (.inl rfl) rfl) <|
    oc (k_nc 0 0 rfl rfl) <|
    oc (k_fa 0 0 14 rfl rfl) <|
    oc (k_ia 0 14 ((14 + 0)) (.int .i64 ((0 : Nat) : Int)) (ix8w (i := 0) (by omega)) rfl rfl) <|
    oc (k_ld 0 ((14 + 0)) (.int .u32 (((H 0) : Nat) : Int)) (c := dgc H p fl ln) (ld_dgW (H := H) (p := p) (fl := fl) (ln := ln) (t0 := 121) (i := 0) (by decide)) rfl rfl) <|
    oc (k_mp 0 (pt 0) (.inl rfl) rfl) <|
    oc (k_nc 0 0 rfl rfl) <|
    oc (k_fa 0 0 14 rfl rfl) <|
    oc (k_ia 0 14 ((14 + 1)) (.int .i64 ((1 : Nat) : Int)) (ix8w (i := 1) (by omega)) rfl rfl) <|
    oc (k_ld 0 ((14 + 1)) (.int .u32 (((H 1) : Nat) : Int)) (c := dgc H p fl ln) (ld_dgW (H := H) (p := p) (fl := fl) (ln := ln) (t0 := 121) (i := 1) (by decide)) rfl rfl) <|
    oc (k_mp 0 (pt 0) (.inl rfl) rfl) <|
    oc (k_nc 0 0 rfl rfl) <|
    oc (k_fa 0 0 14 rfl rfl) <|
    oc (k_ia 0 14 ((14 + 2)) (.int .i64 ((2 : Nat) : Int)) (ix8w (i := 2) (by omega)) rfl rfl) <|
    oc (k_ld 0 ((14 + 2)) (.int .u32 (((H 2) : Nat) : Int)) (c := dgc H p fl ln) (ld_dgW (H := H) (p := p) (fl := fl) (ln := ln) (t0 := 121) (i := 2) (by decide)) rfl rfl) <|
    oc (k_mp 0 (pt 0) (.inl rfl) rfl) <|
    oc (k_nc 0 0 rfl rfl) <|
    oc (k_fa 0 0 14 rfl rfl) <|
    oc (k_ia 0 14 ((14 + 3)) (.int .i64 ((3 : Nat) : Int)) (ix8w (i := 3) (by omega)) rfl rfl) <|
    oc (k_ld 0 ((14 + 3)) (.int .u32 (((H 3) : Nat) : Int)) (c := dgc H p fl ln) (ld_dgW (H := H) (p := p) (fl := fl) (ln := ln) (t0 := 121) (i := 3) (by decide)) rfl rfl) <|
    oz (k_mv (.inr rfl) rfl) <|
    oz (k_mv (.inr rfl) rfl) <|
    oz (k_mv (.inr rfl) rfl) <|
    oz (k_mv (.inr rfl) rfl) <|
    ok_nil
  clear h; intro β a w h
  refine sym_then ?_
  refine sym_seq ?_
  refine St.r0 h [(43, .inr (0, pt 0)), (44, .inr (0, pt 0)), (45, .inr (0, pt 14)), (46, .inr (0, pt (14 + 4))), (47, .inl (.int .u32 (((H 4) : Nat) : Int))), (48, .inr (0, pt 0)), (49, .inr (0, pt 0)), (50, .inr (0, pt 14)), (51, .inr (0, pt (14 + 5))), (52, .inl (.int .u32 (((H 5) : Nat) : Int))), (53, .inr (0, pt 0)), (54, .inr (0, pt 0)), (55, .inr (0, pt 14)), (56, .inr (0, pt (14 + 6))), (57, .inl (.int .u32 (((H 6) : Nat) : Int))), (58, .inr (0, pt 0)), (59, .inr (0, pt 0)), (60, .inr (0, pt 14)), (61, .inr (0, pt (14 + 7))), (62, .inl (.int .u32 (((H 7) : Nat) : Int))), (7, .inl (.int .u32 (((H 4) : Nat) : Int))), (8, .inl (.int .u32 (((H 5) : Nat) : Int))), (9, .inl (.int .u32 (((H 6) : Nat) : Int))), (10, .inl (.int .u32 (((H 7) : Nat) : Int)))] [nn, nn, nn, nn, eR 0, nn, nn, nn, nn, eR 0, nn, nn, nn, nn, eR 0, nn, nn, nn, nn, eR 0] ?_ ?_
  · exact oc (k_mp 0 (pt 0) (.inl rfl) rfl) <|
    oc (k_nc 0 0 rfl rfl) <|
    oc (k_fa 0 0 14 rfl rfl) <|
    oc (k_ia 0 14 ((14 + 4)) (.int .i64 ((4 : Nat) : Int)) (ix8w (i := 4) (by omega)) rfl rfl) <|
    oc (k_ld 0 ((14 + 4)) (.int .u32 (((H 4) : Nat) : Int)) (c := dgc H p fl ln) (ld_dgW (H := H) (p := p) (fl := fl) (ln := ln) (t0 := 121) (i := 4) (by decide)) rfl rfl) <|
    oc (k_mp 0 (pt 0) (.inl rfl) rfl) <|
    oc (k_nc 0 0 rfl rfl) <|
    oc (k_fa 0 0 14 rfl rfl) <|
    oc (k_ia 0 14 ((14 + 5)) (.int .i64 ((5 : Nat) : Int)) (ix8w (i := 5) (by omega)) rfl rfl) <|
    oc (k_ld 0 ((14 + 5)) (.int .u32 (((H 5) : Nat) : Int)) (c := dgc H p fl ln) (ld_dgW (H := H) (p := p) (fl := fl) (ln := ln) (t0 := 121) (i := 5) (by decide)) rfl rfl) <|
    oc (k_mp 0 (pt 0) (.inl rfl) rfl) <|
    oc (k_nc 0 0 rfl rfl) <|
    oc (k_fa 0 0 14 rfl rfl) <|
    oc (k_ia 0 14 ((14 + 6)) (.int .i64 ((6 : Nat) : Int)) (ix8w (i := 6) (by omega)) rfl rfl) <|
    oc (k_ld 0 ((14 + 6)) (.int .u32 (((H 6) : Nat) : Int)) (c := dgc H p fl ln) (ld_dgW (H := H) (p := p) (fl := fl) (ln := ln) (t0 := 121) (i := 6) (by decide)) rfl rfl) <|
    oc (k_mp 0 (pt 0) (.inl rfl) rfl) <|
    oc (k_nc 0 0 rfl rfl) <|
    oc (k_fa 0 0 14 rfl rfl) <|
    oc (k_ia 0 14 ((14 + 7)) (.int .i64 ((7 : Nat) : Int)) (ix8w (i := 7) (by omega)) rfl rfl) <|
    oc (k_ld 0 ((14 + 7)) (.int .u32 (((H 7) : Nat) : Int)) (c := dgc H p fl ln) (ld_dgW (H := H) (p := p) (fl := fl) (ln := ln) (t0 := 121) (i := 7) (by decide)) rfl rfl) <|
    oz (k_mv (.inr rfl) rfl) <|
    oz (k_mv (.inr rfl) rfl) <|
    oz (k_mv (.inr rfl) rfl) <|
    oz (k_mv (.inr rfl) rfl) <|
    ok_nil
  clear h; intro β a w h
  refine sym_then ?_
  refine sym_seq ?_
  refine St.rg h [(63, .inr (0, pt 0)), (64, .inl (.agg (aw 80 R))), (11, .inr (2, pt 0))] [(aw 80 (fun _ => 0), 130)] [(2, aw 80 R)] [nn, eR 0, eN 2, eS 2] ?_ ?_
  · exact oc (k_mp 0 (pt 0) (.inl rfl) rfl) <|
    oc (k_cb 88 (fun q => #[.pointer (some ⟨q, 0, none⟩)]) (.agg (aw 80 R)) 0 63 (fun w q _ hq => cR w q hq) rfl rfl (by simp) (fm := pt 0) (t0 := 121) (c := dgc H p fl ln)) <|
    oc (k_al 2 al80 rfl rfl) <|
    oc (k_st 2 0 (.agg (aw 80 R)) (c := aw 80 (fun _ => 0)) (n := aw 80 R) (st80 (F := R) (c := aw 80 (fun _ => 0)) 130 (aw_size _ _)) rfl rfl) <|
    ok_nil
  clear h; intro β a w h
  refine sym_then ?_
  refine sym_seq ?_
  refine sym_seq ?_
  refine St.r0 h [(65, .inr (1, pt 1)), (66, .inl (.int .i64 ((64 : Nat) : Int))), (67, .inl (.int .i64 ((0 : Nat) : Int)))] [nn, eR 1] ?_ ?_
  · exact oc (k_fa 1 0 1 rfl rfl) <|
    oc (k_ld 1 1 (.int .i64 ((64 : Nat) : Int)) (c := pl14) (ldpI (i := 1) (v := 64) 118 (by decide) rfl) rfl rfl) <|
    oz (k_mv (.inl rfl) rfl) <|
    ok_nil
  clear h; intro β a w h
  refine sym_then ?_
  refine blk_in ?_
  replace h := St.ss h 3 (.int .u32 (((vS H R 0 0) : Nat) : Int)) (v := .int .u32 (((H 0) : Nat) : Int)) (vi (vS_z H R 0))
  replace h := St.ss h 4 (.int .u32 (((vS H R 0 1) : Nat) : Int)) (v := .int .u32 (((H 1) : Nat) : Int)) (vi (vS_z H R 1))
  replace h := St.ss h 5 (.int .u32 (((vS H R 0 2) : Nat) : Int)) (v := .int .u32 (((H 2) : Nat) : Int)) (vi (vS_z H R 2))
  replace h := St.ss h 6 (.int .u32 (((vS H R 0 3) : Nat) : Int)) (v := .int .u32 (((H 3) : Nat) : Int)) (vi (vS_z H R 3))
  replace h := St.ss h 7 (.int .u32 (((vS H R 0 4) : Nat) : Int)) (v := .int .u32 (((H 4) : Nat) : Int)) (vi (vS_z H R 4))
  replace h := St.ss h 8 (.int .u32 (((vS H R 0 5) : Nat) : Int)) (v := .int .u32 (((H 5) : Nat) : Int)) (vi (vS_z H R 5))
  replace h := St.ss h 9 (.int .u32 (((vS H R 0 6) : Nat) : Int)) (v := .int .u32 (((H 6) : Nat) : Int)) (vi (vS_z H R 6))
  replace h := St.ss h 10 (.int .u32 (((vS H R 0 7) : Nat) : Int)) (v := .int .u32 (((H 7) : Nat) : Int)) (vi (vS_z H R 7))
  obtain ⟨x, h⟩ := St.jn (n := 153) h [0, 2, 3, 4, 5, 6, 7, 8, 9, 10, 11, 66, 67] [.inr (0, pt 0), .inr (1, pt 0), .inl (.int .u32 (((vS H R 0 0) : Nat) : Int)), .inl (.int .u32 (((vS H R 0 1) : Nat) : Int)), .inl (.int .u32 (((vS H R 0 2) : Nat) : Int)), .inl (.int .u32 (((vS H R 0 3) : Nat) : Int)), .inl (.int .u32 (((vS H R 0 4) : Nat) : Int)), .inl (.int .u32 (((vS H R 0 5) : Nat) : Int)), .inl (.int .u32 (((vS H R 0 6) : Nat) : Int)), .inl (.int .u32 (((vS H R 0 7) : Nat) : Int)), .inr (2, pt 0), .inl (.int .i64 ((64 : Nat) : Int)), .inl (.int .i64 ((0 : Nat) : Int))] [(dgc H p fl ln, 121), (pl14, 118), (aw 80 R, 130)] (by kernel_rfl) (by kernel_rfl) (by kernel_rfl)
  refine loop_up n (fun k a w => ∃ (x : Nat → SV) (β : Nat → Nat), St (wdx W0 q) (ov (jk 153 x) ([0, 2, 3, 4, 5, 6, 7, 8, 9, 10, 11, 66, 67].zip [.inr (0, pt 0), .inr (1, pt 0), .inl (.int .u32 (((vS H R k 0) : Nat) : Int)), .inl (.int .u32 (((vS H R k 1) : Nat) : Int)), .inl (.int .u32 (((vS H R k 2) : Nat) : Int)), .inl (.int .u32 (((vS H R k 3) : Nat) : Int)), .inl (.int .u32 (((vS H R k 4) : Nat) : Int)), .inl (.int .u32 (((vS H R k 5) : Nat) : Int)), .inl (.int .u32 (((vS H R k 6) : Nat) : Int)), .inl (.int .u32 (((vS H R k 7) : Nat) : Int)), .inr (2, pt 0), .inl (.int .i64 ((64 : Nat) : Int)), .inl (.int .i64 ((k : Nat) : Int))])) [(dgc H p fl ln, 121), (pl14, 118), (aw 80 R, 130)] β a w) ⟨x, _, h⟩ ?_
  clear h; rintro k a w hkk ⟨x, β, h⟩
  rcases Nat.lt_or_ge k n with hltk | hgek
  · refine sym_seq ?_
    refine St.r0 h [(68, .inl (.bool true))] [] ?_ ?_
    · exact oz (k_bi (.int .i64 ((k : Nat) : Int)) (.int .i64 ((64 : Nat) : Int)) (.bool true) (lt_i (m := ((k : Nat) : Int)) (n := ((64 : Nat) : Int)) (decide_eq_true (by omega))) rfl rfl) <|
      ok_nil
    clear h; intro β a w h
    refine sym_then ?_
    refine sym_seq ?_
    refine s_ct h ?_
    refine wp_skip ?_
    refine sym_then ?_
    refine sym_seq ?_
    refine blk_in ?_
    refine sym_seq ?_
    refine St.r0 h [(69, .inl (.int .i64 ((k : Nat) : Int))), (12, .inl (.int .i64 ((k : Nat) : Int)))] [] ?_ ?_
    · exact oz (k_mv (.inl rfl) rfl) <|
      oz (k_mv (.inr rfl) rfl) <|
      ok_nil
    clear h; intro β a w h
    refine sym_then ?_
    refine sym_seq ?_
    refine St.r0 h [(70, .inl (.int .u32 (((vS H R k 4) : Nat) : Int))), (71, .inl (.int .u32 (((vS H R k 5) : Nat) : Int))), (72, .inl (.int .u32 ((((vS H R k 4) &&& (vS H R k 5)) : Nat) : Int))), (73, .inl (.int .u32 (((vS H R k 4) : Nat) : Int))), (74, .inl (.int .u32 (((4294967295 ^^^ (vS H R k 4)) : Nat) : Int))), (75, .inl (.int .u32 (((vS H R k 6) : Nat) : Int))), (76, .inl (.int .u32 ((((4294967295 ^^^ (vS H R k 4)) &&& (vS H R k 6)) : Nat) : Int))), (77, .inl (.int .u32 (((((vS H R k 4) &&& (vS H R k 5)) ||| ((4294967295 ^^^ (vS H R k 4)) &&& (vS H R k 6))) : Nat) : Int))), (13, .inl (.int .u32 (((((vS H R k 4) &&& (vS H R k 5)) ||| ((4294967295 ^^^ (vS H R k 4)) &&& (vS H R k 6))) : Nat) : Int)))] [] ?_ ?_
    · exact oz (k_mv (.inl rfl) rfl) <|
      oz (k_mv (.inl rfl) rfl) <|
      oz (k_bi (.int .u32 (((vS H R k 4) : Nat) : Int)) (.int .u32 (((vS H R k 5) : Nat) : Int)) (.int .u32 ((((vS H R k 4) &&& (vS H R k 5)) : Nat) : Int)) (and_w (m := (vS H R k 4)) (n := (vS H R k 5)) (vS_lt hH _ _) (vS_lt hH _ _)) rfl rfl) <|
      oz (k_mv (.inl rfl) rfl) <|
      oz (ok_un (x1 := .int .u32 (((vS H R k 4) : Nat) : Int)) (v := .int .u32 (((4294967295 ^^^ (vS H R k 4)) : Nat) : Int)) (no_w (m := (vS H R k 4)) (vS_lt hH _ _)) rfl (by kernel_rfl) rfl (by kernel_rfl) (by kernel_rfl) (by kernel_rfl)) <|
      oz (k_mv (.inl rfl) rfl) <|
      oz (k_bi (.int .u32 (((4294967295 ^^^ (vS H R k 4)) : Nat) : Int)) (.int .u32 (((vS H R k 6) : Nat) : Int)) (.int .u32 ((((4294967295 ^^^ (vS H R k 4)) &&& (vS H R k 6)) : Nat) : Int)) (and_w (m := (4294967295 ^^^ (vS H R k 4))) (n := (vS H R k 6)) (xor_lt max_B (vS_lt hH _ _)) (vS_lt hH _ _)) rfl rfl) <|
      oz (k_bi (.int .u32 ((((vS H R k 4) &&& (vS H R k 5)) : Nat) : Int)) (.int .u32 ((((4294967295 ^^^ (vS H R k 4)) &&& (vS H R k 6)) : Nat) : Int)) (.int .u32 (((((vS H R k 4) &&& (vS H R k 5)) ||| ((4294967295 ^^^ (vS H R k 4)) &&& (vS H R k 6))) : Nat) : Int)) (or_w (m := ((vS H R k 4) &&& (vS H R k 5))) (n := ((4294967295 ^^^ (vS H R k 4)) &&& (vS H R k 6))) (and_lt (vS_lt hH _ _)) (and_lt (vS_lt hH _ _))) rfl rfl) <|
      oz (k_mv (.inr rfl) rfl) <|
      ok_nil
    clear h; intro β a w h
    refine sym_then ?_
    refine sym_seq ?_
    refine St.r0 h [(78, .inl (.int .u32 (((vS H R k 0) : Nat) : Int))), (79, .inl (.int .u32 (((vS H R k 1) : Nat) : Int))), (80, .inl (.int .u32 ((((vS H R k 0) &&& (vS H R k 1)) : Nat) : Int))), (81, .inl (.int .u32 (((vS H R k 0) : Nat) : Int))), (82, .inl (.int .u32 (((vS H R k 2) : Nat) : Int))), (83, .inl (.int .u32 ((((vS H R k 0) &&& (vS H R k 2)) : Nat) : Int))), (84, .inl (.int .u32 (((((vS H R k 0) &&& (vS H R k 1)) ||| ((vS H R k 0) &&& (vS H R k 2))) : Nat) : Int))), (85, .inl (.int .u32 (((vS H R k 1) : Nat) : Int))), (86, .inl (.int .u32 (((vS H R k 2) : Nat) : Int))), (87, .inl (.int .u32 ((((vS H R k 1) &&& (vS H R k 2)) : Nat) : Int))), (88, .inl (.int .u32 ((((((vS H R k 0) &&& (vS H R k 1)) ||| ((vS H R k 0) &&& (vS H R k 2))) ||| ((vS H R k 1) &&& (vS H R k 2))) : Nat) : Int))), (14, .inl (.int .u32 ((((((vS H R k 0) &&& (vS H R k 1)) ||| ((vS H R k 0) &&& (vS H R k 2))) ||| ((vS H R k 1) &&& (vS H R k 2))) : Nat) : Int)))] [] ?_ ?_
    · exact oz (k_mv (.inl rfl) rfl) <|
      oz (k_mv (.inl rfl) rfl) <|
      oz (k_bi (.int .u32 (((vS H R k 0) : Nat) : Int)) (.int .u32 (((vS H R k 1) : Nat) : Int)) (.int .u32 ((((vS H R k 0) &&& (vS H R k 1)) : Nat) : Int)) (and_w (m := (vS H R k 0)) (n := (vS H R k 1)) (vS_lt hH _ _) (vS_lt hH _ _)) rfl rfl) <|
      oz (k_mv (.inl rfl) rfl) <|
      oz (k_mv (.inl rfl) rfl) <|
      oz (k_bi (.int .u32 (((vS H R k 0) : Nat) : Int)) (.int .u32 (((vS H R k 2) : Nat) : Int)) (.int .u32 ((((vS H R k 0) &&& (vS H R k 2)) : Nat) : Int)) (and_w (m := (vS H R k 0)) (n := (vS H R k 2)) (vS_lt hH _ _) (vS_lt hH _ _)) rfl rfl) <|
      oz (k_bi (.int .u32 ((((vS H R k 0) &&& (vS H R k 1)) : Nat) : Int)) (.int .u32 ((((vS H R k 0) &&& (vS H R k 2)) : Nat) : Int)) (.int .u32 (((((vS H R k 0) &&& (vS H R k 1)) ||| ((vS H R k 0) &&& (vS H R k 2))) : Nat) : Int)) (or_w (m := ((vS H R k 0) &&& (vS H R k 1))) (n := ((vS H R k 0) &&& (vS H R k 2))) (and_lt (vS_lt hH _ _)) (and_lt (vS_lt hH _ _))) rfl rfl) <|
      oz (k_mv (.inl rfl) rfl) <|
      oz (k_mv (.inl rfl) rfl) <|
      oz (k_bi (.int .u32 (((vS H R k 1) : Nat) : Int)) (.int .u32 (((vS H R k 2) : Nat) : Int)) (.int .u32 ((((vS H R k 1) &&& (vS H R k 2)) : Nat) : Int)) (and_w (m := (vS H R k 1)) (n := (vS H R k 2)) (vS_lt hH _ _) (vS_lt hH _ _)) rfl rfl) <|
      oz (k_bi (.int .u32 (((((vS H R k 0) &&& (vS H R k 1)) ||| ((vS H R k 0) &&& (vS H R k 2))) : Nat) : Int)) (.int .u32 ((((vS H R k 1) &&& (vS H R k 2)) : Nat) : Int)) (.int .u32 ((((((vS H R k 0) &&& (vS H R k 1)) ||| ((vS H R k 0) &&& (vS H R k 2))) ||| ((vS H R k 1) &&& (vS H R k 2))) : Nat) : Int)) (or_w (m := (((vS H R k 0) &&& (vS H R k 1)) ||| ((vS H R k 0) &&& (vS H R k 2)))) (n := ((vS H R k 1) &&& (vS H R k 2))) (or_lt (and_lt (vS_lt hH _ _)) (and_lt (vS_lt hH _ _))) (and_lt (vS_lt hH _ _))) rfl rfl) <|
      oz (k_mv (.inr rfl) rfl) <|
      ok_nil
    clear h; intro β a w h
    refine sym_then ?_
    refine sym_seq ?_
    refine St.r0 h [(89, .inl (.int .u32 (((vS H R k 7) : Nat) : Int))), (90, .inr (0, pt 0)), (91, .inl (.int .u32 (((vS H R k 4) : Nat) : Int))), (92, .inr (1, pt 11)), (93, .inl (.agg (i3 6 11 25))), (94, .inl (.int .u32 (((hiW (vS H R k 4) 6 11 25) : Nat) : Int))), (95, .inl (.int .u32 (((((vS H R k 7) + (hiW (vS H R k 4) 6 11 25)) % B32) : Nat) : Int))), (96, .inl (.int .u32 (((((vS H R k 4) &&& (vS H R k 5)) ||| ((4294967295 ^^^ (vS H R k 4)) &&& (vS H R k 6))) : Nat) : Int))), (97, .inl (.int .u32 (((((((vS H R k 7) + (hiW (vS H R k 4) 6 11 25)) % B32) + (((vS H R k 4) &&& (vS H R k 5)) ||| ((4294967295 ^^^ (vS H R k 4)) &&& (vS H R k 6)))) % B32) : Nat) : Int))), (98, .inr (0, pt 0)), (99, .inl (.int .i64 ((k : Nat) : Int))), (100, .inl (.pointer (some ⟨3, k, none⟩))), (101, .inl (.int .u64 (((cu k) : Nat) : Int))), (102, .inl (.int .u32 ((((cu k) / 2 ^ 32) : Nat) : Int))), (103, .inl (.int .u32 (((((((((vS H R k 7) + (hiW (vS H R k 4) 6 11 25)) % B32) + (((vS H R k 4) &&& (vS H R k 5)) ||| ((4294967295 ^^^ (vS H R k 4)) &&& (vS H R k 6)))) % B32) + ((cu k) / 2 ^ 32)) % B32) : Nat) : Int))), (104, .inl (.int .i64 ((k : Nat) : Int))), (105, .inr (2, pt k)), (106, .inl (.int .u32 (((R k) : Nat) : Int))), (107, .inl (.int .u32 (((((((((((vS H R k 7) + (hiW (vS H R k 4) 6 11 25)) % B32) + (((vS H R k 4) &&& (vS H R k 5)) ||| ((4294967295 ^^^ (vS H R k 4)) &&& (vS H R k 6)))) % B32) + ((cu k) / 2 ^ 32)) % B32) + (R k)) % B32) : Nat) : Int))), (15, .inl (.int .u32 (((((((((((vS H R k 7) + (hiW (vS H R k 4) 6 11 25)) % B32) + (((vS H R k 4) &&& (vS H R k 5)) ||| ((4294967295 ^^^ (vS H R k 4)) &&& (vS H R k 6)))) % B32) + ((cu k) / 2 ^ 32)) % B32) + (R k)) % B32) : Nat) : Int)))] [nn, nn, nn, nn, eR 1, eR 0, nn, nn, nn, nn, nn, nn, nn, eR 0, nn, nn, nn, eR 2] ?_ ?_
    · exact oc (k_mv (.inl rfl) rfl) <|
      oc (k_mp 0 (pt 0) (.inl rfl) rfl) <|
      oc (k_mv (.inl rfl) rfl) <|
      oc (k_fa 1 0 11 rfl rfl) <|
      oc (k_ld 1 11 (.agg (i3 6 11 25)) (c := pl14) (ldp3 (i := 11) (a := 6) (b := 11) (c := 25) 118 (by decide) rfl rfl rfl) rfl rfl) <|
      oc (k_cb 89 (fun q => #[.pointer (some ⟨q, 0, none⟩), .int .u32 (((vS H R k 4) : Nat) : Int), .agg (i3 6 11 25)]) (.int .u32 (((hiW (vS H R k 4) 6 11 25) : Nat) : Int)) 0 90 (fun w q _ hq => high_d (vS_lt hH _ _) (by decide) (by decide) (by decide) hq) rfl rfl (by simp) (fm := pt 0) (t0 := 121) (c := dgc H p fl ln)) <|
      oc (k_bi (.int .u32 (((vS H R k 7) : Nat) : Int)) (.int .u32 (((hiW (vS H R k 4) 6 11 25) : Nat) : Int)) (.int .u32 (((((vS H R k 7) + (hiW (vS H R k 4) 6 11 25)) % B32) : Nat) : Int)) (ad_w (m := (vS H R k 7)) (n := (hiW (vS H R k 4) 6 11 25))) rfl rfl) <|
      oc (k_mv (.inl rfl) rfl) <|
      oc (k_bi (.int .u32 (((((vS H R k 7) + (hiW (vS H R k 4) 6 11 25)) % B32) : Nat) : Int)) (.int .u32 (((((vS H R k 4) &&& (vS H R k 5)) ||| ((4294967295 ^^^ (vS H R k 4)) &&& (vS H R k 6))) : Nat) : Int)) (.int .u32 (((((((vS H R k 7) + (hiW (vS H R k 4) 6 11 25)) % B32) + (((vS H R k 4) &&& (vS H R k 5)) ||| ((4294967295 ^^^ (vS H R k 4)) &&& (vS H R k 6)))) % B32) : Nat) : Int)) (ad_w (m := (((vS H R k 7) + (hiW (vS H R k 4) 6 11 25)) % B32)) (n := (((vS H R k 4) &&& (vS H R k 5)) ||| ((4294967295 ^^^ (vS H R k 4)) &&& (vS H R k 6))))) rfl rfl) <|
      oc (k_mp 0 (pt 0) (.inl rfl) rfl) <|
      oc (k_mv (.inl rfl) rfl) <|
      oc (k_is (.pointer (some ⟨3, 0, none⟩)) (.int .i64 ((k : Nat) : Int)) (.pointer (some ⟨3, k, none⟩)) (fun w => ix80q (i := k) (by omega) w 3) rfl rfl) <|
      oc (k_lf (.pointer (some ⟨3, k, none⟩)) (.int .u64 (((cu k) : Nat) : Int)) (fun w hw => gl_cu hg hq (by omega) w hw) rfl rfl) <|
      oc (k_cb 83 (fun q => #[.pointer (some ⟨q, 0, none⟩), .int .u64 (((cu k) : Nat) : Int)]) (.int .u32 ((((cu k) / 2 ^ 32) : Nat) : Int)) 0 98 (fun w q _ hq => lead_d (cu_lt _) hq) rfl rfl (by simp) (fm := pt 0) (t0 := 121) (c := dgc H p fl ln)) <|
      oc (k_bi (.int .u32 (((((((vS H R k 7) + (hiW (vS H R k 4) 6 11 25)) % B32) + (((vS H R k 4) &&& (vS H R k 5)) ||| ((4294967295 ^^^ (vS H R k 4)) &&& (vS H R k 6)))) % B32) : Nat) : Int)) (.int .u32 ((((cu k) / 2 ^ 32) : Nat) : Int)) (.int .u32 (((((((((vS H R k 7) + (hiW (vS H R k 4) 6 11 25)) % B32) + (((vS H R k 4) &&& (vS H R k 5)) ||| ((4294967295 ^^^ (vS H R k 4)) &&& (vS H R k 6)))) % B32) + ((cu k) / 2 ^ 32)) % B32) : Nat) : Int)) (ad_w (m := (((((vS H R k 7) + (hiW (vS H R k 4) 6 11 25)) % B32) + (((vS H R k 4) &&& (vS H R k 5)) ||| ((4294967295 ^^^ (vS H R k 4)) &&& (vS H R k 6)))) % B32)) (n := ((cu k) / 2 ^ 32))) rfl rfl) <|
      oc (k_mv (.inl rfl) rfl) <|
      oc (k_ia 2 0 k (.int .i64 ((k : Nat) : Int)) (ix80 (i := k) (by omega)) rfl rfl) <|
      oc (k_ld 2 k (.int .u32 (((R k) : Nat) : Int)) (c := aw 80 R) (ld_aw (n := 80) (F := R) (i := k) (t0 := 130) (by omega)) rfl rfl) <|
      oz (k_bi (.int .u32 (((((((((vS H R k 7) + (hiW (vS H R k 4) 6 11 25)) % B32) + (((vS H R k 4) &&& (vS H R k 5)) ||| ((4294967295 ^^^ (vS H R k 4)) &&& (vS H R k 6)))) % B32) + ((cu k) / 2 ^ 32)) % B32) : Nat) : Int)) (.int .u32 (((R k) : Nat) : Int)) (.int .u32 (((((((((((vS H R k 7) + (hiW (vS H R k 4) 6 11 25)) % B32) + (((vS H R k 4) &&& (vS H R k 5)) ||| ((4294967295 ^^^ (vS H R k 4)) &&& (vS H R k 6)))) % B32) + ((cu k) / 2 ^ 32)) % B32) + (R k)) % B32) : Nat) : Int)) (ad_w (m := (((((((vS H R k 7) + (hiW (vS H R k 4) 6 11 25)) % B32) + (((vS H R k 4) &&& (vS H R k 5)) ||| ((4294967295 ^^^ (vS H R k 4)) &&& (vS H R k 6)))) % B32) + ((cu k) / 2 ^ 32)) % B32)) (n := (R k))) rfl rfl) <|
      oz (k_mv (.inr rfl) rfl) <|
      ok_nil
    clear h; intro β a w h
    refine sym_then ?_
    refine sym_seq ?_
    refine St.r0 h [(108, .inr (0, pt 0)), (109, .inl (.int .u32 (((vS H R k 0) : Nat) : Int))), (110, .inr (1, pt 8)), (111, .inl (.agg (i3 2 13 22))), (112, .inl (.int .u32 (((hiW (vS H R k 0) 2 13 22) : Nat) : Int))), (113, .inl (.int .u32 ((((((vS H R k 0) &&& (vS H R k 1)) ||| ((vS H R k 0) &&& (vS H R k 2))) ||| ((vS H R k 1) &&& (vS H R k 2))) : Nat) : Int))), (114, .inl (.int .u32 (((((hiW (vS H R k 0) 2 13 22) + ((((vS H R k 0) &&& (vS H R k 1)) ||| ((vS H R k 0) &&& (vS H R k 2))) ||| ((vS H R k 1) &&& (vS H R k 2)))) % B32) : Nat) : Int))), (16, .inl (.int .u32 (((((hiW (vS H R k 0) 2 13 22) + ((((vS H R k 0) &&& (vS H R k 1)) ||| ((vS H R k 0) &&& (vS H R k 2))) ||| ((vS H R k 1) &&& (vS H R k 2)))) % B32) : Nat) : Int)))] [nn, nn, nn, eR 1, eR 0] ?_ ?_
    · exact oc (k_mp 0 (pt 0) (.inl rfl) rfl) <|
      oc (k_mv (.inl rfl) rfl) <|
      oc (k_fa 1 0 8 rfl rfl) <|
      oc (k_ld 1 8 (.agg (i3 2 13 22)) (c := pl14) (ldp3 (i := 8) (a := 2) (b := 13) (c := 22) 118 (by decide) rfl rfl rfl) rfl rfl) <|
      oc (k_cb 89 (fun q => #[.pointer (some ⟨q, 0, none⟩), .int .u32 (((vS H R k 0) : Nat) : Int), .agg (i3 2 13 22)]) (.int .u32 (((hiW (vS H R k 0) 2 13 22) : Nat) : Int)) 0 108 (fun w q _ hq => high_d (vS_lt hH _ _) (by decide) (by decide) (by decide) hq) rfl rfl (by simp) (fm := pt 0) (t0 := 121) (c := dgc H p fl ln)) <|
      oz (k_mv (.inl rfl) rfl) <|
      oz (k_bi (.int .u32 (((hiW (vS H R k 0) 2 13 22) : Nat) : Int)) (.int .u32 ((((((vS H R k 0) &&& (vS H R k 1)) ||| ((vS H R k 0) &&& (vS H R k 2))) ||| ((vS H R k 1) &&& (vS H R k 2))) : Nat) : Int)) (.int .u32 (((((hiW (vS H R k 0) 2 13 22) + ((((vS H R k 0) &&& (vS H R k 1)) ||| ((vS H R k 0) &&& (vS H R k 2))) ||| ((vS H R k 1) &&& (vS H R k 2)))) % B32) : Nat) : Int)) (ad_w (m := (hiW (vS H R k 0) 2 13 22)) (n := ((((vS H R k 0) &&& (vS H R k 1)) ||| ((vS H R k 0) &&& (vS H R k 2))) ||| ((vS H R k 1) &&& (vS H R k 2))))) rfl rfl) <|
      oz (k_mv (.inr rfl) rfl) <|
      ok_nil
    clear h; intro β a w h
    refine sym_then ?_
    refine St.r0 h [(115, .inl (.int .u32 (((((((((((vS H R k 7) + (hiW (vS H R k 4) 6 11 25)) % B32) + (((vS H R k 4) &&& (vS H R k 5)) ||| ((4294967295 ^^^ (vS H R k 4)) &&& (vS H R k 6)))) % B32) + ((cu k) / 2 ^ 32)) % B32) + (R k)) % B32) : Nat) : Int))), (116, .inl (.int .u32 (((((hiW (vS H R k 0) 2 13 22) + ((((vS H R k 0) &&& (vS H R k 1)) ||| ((vS H R k 0) &&& (vS H R k 2))) ||| ((vS H R k 1) &&& (vS H R k 2)))) % B32) : Nat) : Int))), (117, .inl (.int .u32 (((((((((((((vS H R k 7) + (hiW (vS H R k 4) 6 11 25)) % B32) + (((vS H R k 4) &&& (vS H R k 5)) ||| ((4294967295 ^^^ (vS H R k 4)) &&& (vS H R k 6)))) % B32) + ((cu k) / 2 ^ 32)) % B32) + (R k)) % B32) + (((hiW (vS H R k 0) 2 13 22) + ((((vS H R k 0) &&& (vS H R k 1)) ||| ((vS H R k 0) &&& (vS H R k 2))) ||| ((vS H R k 1) &&& (vS H R k 2)))) % B32)) % B32) : Nat) : Int))), (118, .inl (.int .u32 (((vS H R k 0) : Nat) : Int))), (119, .inl (.int .u32 (((vS H R k 1) : Nat) : Int))), (120, .inl (.int .u32 (((vS H R k 2) : Nat) : Int))), (121, .inl (.int .u32 (((vS H R k 3) : Nat) : Int))), (122, .inl (.int .u32 (((((((((((vS H R k 7) + (hiW (vS H R k 4) 6 11 25)) % B32) + (((vS H R k 4) &&& (vS H R k 5)) ||| ((4294967295 ^^^ (vS H R k 4)) &&& (vS H R k 6)))) % B32) + ((cu k) / 2 ^ 32)) % B32) + (R k)) % B32) : Nat) : Int))), (123, .inl (.int .u32 (((((vS H R k 3) + (((((((((vS H R k 7) + (hiW (vS H R k 4) 6 11 25)) % B32) + (((vS H R k 4) &&& (vS H R k 5)) ||| ((4294967295 ^^^ (vS H R k 4)) &&& (vS H R k 6)))) % B32) + ((cu k) / 2 ^ 32)) % B32) + (R k)) % B32)) % B32) : Nat) : Int))), (124, .inl (.int .u32 (((vS H R k 4) : Nat) : Int))), (125, .inl (.int .u32 (((vS H R k 5) : Nat) : Int))), (126, .inl (.int .u32 (((vS H R k 6) : Nat) : Int))), (3, .inl (.int .u32 (((((((((((((vS H R k 7) + (hiW (vS H R k 4) 6 11 25)) % B32) + (((vS H R k 4) &&& (vS H R k 5)) ||| ((4294967295 ^^^ (vS H R k 4)) &&& (vS H R k 6)))) % B32) + ((cu k) / 2 ^ 32)) % B32) + (R k)) % B32) + (((hiW (vS H R k 0) 2 13 22) + ((((vS H R k 0) &&& (vS H R k 1)) ||| ((vS H R k 0) &&& (vS H R k 2))) ||| ((vS H R k 1) &&& (vS H R k 2)))) % B32)) % B32) : Nat) : Int))), (4, .inl (.int .u32 (((vS H R k 0) : Nat) : Int))), (5, .inl (.int .u32 (((vS H R k 1) : Nat) : Int))), (6, .inl (.int .u32 (((vS H R k 2) : Nat) : Int))), (7, .inl (.int .u32 (((((vS H R k 3) + (((((((((vS H R k 7) + (hiW (vS H R k 4) 6 11 25)) % B32) + (((vS H R k 4) &&& (vS H R k 5)) ||| ((4294967295 ^^^ (vS H R k 4)) &&& (vS H R k 6)))) % B32) + ((cu k) / 2 ^ 32)) % B32) + (R k)) % B32)) % B32) : Nat) : Int))), (8, .inl (.int .u32 (((vS H R k 4) : Nat) : Int))), (9, .inl (.int .u32 (((vS H R k 5) : Nat) : Int))), (10, .inl (.int .u32 (((vS H R k 6) : Nat) : Int)))] [nn, nn, nn, eO, eO, eO, eO, nn, nn, eO, eO, eO] ?_ ?_
    · exact oc (k_mv (.inl rfl) rfl) <|
      oc (k_mv (.inl rfl) rfl) <|
      oc (k_bi (.int .u32 (((((((((((vS H R k 7) + (hiW (vS H R k 4) 6 11 25)) % B32) + (((vS H R k 4) &&& (vS H R k 5)) ||| ((4294967295 ^^^ (vS H R k 4)) &&& (vS H R k 6)))) % B32) + ((cu k) / 2 ^ 32)) % B32) + (R k)) % B32) : Nat) : Int)) (.int .u32 (((((hiW (vS H R k 0) 2 13 22) + ((((vS H R k 0) &&& (vS H R k 1)) ||| ((vS H R k 0) &&& (vS H R k 2))) ||| ((vS H R k 1) &&& (vS H R k 2)))) % B32) : Nat) : Int)) (.int .u32 (((((((((((((vS H R k 7) + (hiW (vS H R k 4) 6 11 25)) % B32) + (((vS H R k 4) &&& (vS H R k 5)) ||| ((4294967295 ^^^ (vS H R k 4)) &&& (vS H R k 6)))) % B32) + ((cu k) / 2 ^ 32)) % B32) + (R k)) % B32) + (((hiW (vS H R k 0) 2 13 22) + ((((vS H R k 0) &&& (vS H R k 1)) ||| ((vS H R k 0) &&& (vS H R k 2))) ||| ((vS H R k 1) &&& (vS H R k 2)))) % B32)) % B32) : Nat) : Int)) (ad_w (m := (((((((((vS H R k 7) + (hiW (vS H R k 4) 6 11 25)) % B32) + (((vS H R k 4) &&& (vS H R k 5)) ||| ((4294967295 ^^^ (vS H R k 4)) &&& (vS H R k 6)))) % B32) + ((cu k) / 2 ^ 32)) % B32) + (R k)) % B32)) (n := (((hiW (vS H R k 0) 2 13 22) + ((((vS H R k 0) &&& (vS H R k 1)) ||| ((vS H R k 0) &&& (vS H R k 2))) ||| ((vS H R k 1) &&& (vS H R k 2)))) % B32))) rfl rfl) <|
      oc (k_m0 rfl rfl) <|
      oc (k_m0 rfl rfl) <|
      oc (k_m0 rfl rfl) <|
      oc (k_m0 rfl rfl) <|
      oc (k_mv (.inl rfl) rfl) <|
      oc (k_bi (.int .u32 (((vS H R k 3) : Nat) : Int)) (.int .u32 (((((((((((vS H R k 7) + (hiW (vS H R k 4) 6 11 25)) % B32) + (((vS H R k 4) &&& (vS H R k 5)) ||| ((4294967295 ^^^ (vS H R k 4)) &&& (vS H R k 6)))) % B32) + ((cu k) / 2 ^ 32)) % B32) + (R k)) % B32) : Nat) : Int)) (.int .u32 (((((vS H R k 3) + (((((((((vS H R k 7) + (hiW (vS H R k 4) 6 11 25)) % B32) + (((vS H R k 4) &&& (vS H R k 5)) ||| ((4294967295 ^^^ (vS H R k 4)) &&& (vS H R k 6)))) % B32) + ((cu k) / 2 ^ 32)) % B32) + (R k)) % B32)) % B32) : Nat) : Int)) (ad_w (m := (vS H R k 3)) (n := (((((((((vS H R k 7) + (hiW (vS H R k 4) 6 11 25)) % B32) + (((vS H R k 4) &&& (vS H R k 5)) ||| ((4294967295 ^^^ (vS H R k 4)) &&& (vS H R k 6)))) % B32) + ((cu k) / 2 ^ 32)) % B32) + (R k)) % B32))) rfl rfl) <|
      oc (k_m0 rfl rfl) <|
      oc (k_m0 rfl rfl) <|
      oc (k_m0 rfl rfl) <|
      oz (k_mv (.inr rfl) rfl) <|
      oz (k_mv (.inr rfl) rfl) <|
      oz (k_mv (.inr rfl) rfl) <|
      oz (k_mv (.inr rfl) rfl) <|
      oz (k_mv (.inr rfl) rfl) <|
      oz (k_mv (.inr rfl) rfl) <|
      oz (k_mv (.inr rfl) rfl) <|
      oz (k_mv (.inr rfl) rfl) <|
      ok_nil
    clear h; intro β a w h
    refine blk_norm ?_
    refine sym_then ?_
    refine St.r0 h [(127, .inl (.int .i64 (((k + 1) : Nat) : Int))), (67, .inl (.int .i64 (((k + 1) : Nat) : Int)))] [eO] ?_ ?_
    · exact oc (k_b0 (.int .i64 ((k : Nat) : Int)) (.int .i64 ((1 : Nat) : Int)) (.int .i64 (((k + 1) : Nat) : Int)) (ad_i (m := k) (n := 1) (by omega)) rfl rfl) <|
      oz (k_mv (.inl rfl) rfl) <|
      ok_nil
    clear h; intro β a w h
    replace h := St.ss h 3 (.int .u32 (((vS H R (k + 1) 0) : Nat) : Int)) (v := .int .u32 (((((((((((((vS H R k 7) + (hiW (vS H R k 4) 6 11 25)) % B32) + (((vS H R k 4) &&& (vS H R k 5)) ||| ((4294967295 ^^^ (vS H R k 4)) &&& (vS H R k 6)))) % B32) + ((cu k) / 2 ^ 32)) % B32) + (R k)) % B32) + (((hiW (vS H R k 0) 2 13 22) + ((((vS H R k 0) &&& (vS H R k 1)) ||| ((vS H R k 0) &&& (vS H R k 2))) ||| ((vS H R k 1) &&& (vS H R k 2)))) % B32)) % B32) : Nat) : Int)) (vi (vS_s0 H R k))
    replace h := St.ss h 4 (.int .u32 (((vS H R (k + 1) 1) : Nat) : Int)) (v := .int .u32 (((vS H R k 0) : Nat) : Int)) (vi (vS_s1 H R k))
    replace h := St.ss h 5 (.int .u32 (((vS H R (k + 1) 2) : Nat) : Int)) (v := .int .u32 (((vS H R k 1) : Nat) : Int)) (vi (vS_s2 H R k))
    replace h := St.ss h 6 (.int .u32 (((vS H R (k + 1) 3) : Nat) : Int)) (v := .int .u32 (((vS H R k 2) : Nat) : Int)) (vi (vS_s3 H R k))
    replace h := St.ss h 7 (.int .u32 (((vS H R (k + 1) 4) : Nat) : Int)) (v := .int .u32 (((((vS H R k 3) + (((((((((vS H R k 7) + (hiW (vS H R k 4) 6 11 25)) % B32) + (((vS H R k 4) &&& (vS H R k 5)) ||| ((4294967295 ^^^ (vS H R k 4)) &&& (vS H R k 6)))) % B32) + ((cu k) / 2 ^ 32)) % B32) + (R k)) % B32)) % B32) : Nat) : Int)) (vi (vS_s4 H R k))
    replace h := St.ss h 8 (.int .u32 (((vS H R (k + 1) 5) : Nat) : Int)) (v := .int .u32 (((vS H R k 4) : Nat) : Int)) (vi (vS_s5 H R k))
    replace h := St.ss h 9 (.int .u32 (((vS H R (k + 1) 6) : Nat) : Int)) (v := .int .u32 (((vS H R k 5) : Nat) : Int)) (vi (vS_s6 H R k))
    replace h := St.ss h 10 (.int .u32 (((vS H R (k + 1) 7) : Nat) : Int)) (v := .int .u32 (((vS H R k 6) : Nat) : Int)) (vi (vS_s7 H R k))
    obtain ⟨x, h⟩ := St.jn (n := 153) h [0, 2, 3, 4, 5, 6, 7, 8, 9, 10, 11, 66, 67] [.inr (0, pt 0), .inr (1, pt 0), .inl (.int .u32 (((vS H R (k + 1) 0) : Nat) : Int)), .inl (.int .u32 (((vS H R (k + 1) 1) : Nat) : Int)), .inl (.int .u32 (((vS H R (k + 1) 2) : Nat) : Int)), .inl (.int .u32 (((vS H R (k + 1) 3) : Nat) : Int)), .inl (.int .u32 (((vS H R (k + 1) 4) : Nat) : Int)), .inl (.int .u32 (((vS H R (k + 1) 5) : Nat) : Int)), .inl (.int .u32 (((vS H R (k + 1) 6) : Nat) : Int)), .inl (.int .u32 (((vS H R (k + 1) 7) : Nat) : Int)), .inr (2, pt 0), .inl (.int .i64 ((64 : Nat) : Int)), .inl (.int .i64 (((k + 1) : Nat) : Int))] [(dgc H p fl ln, 121), (pl14, 118), (aw 80 R, 130)] (by kernel_rfl) (by kernel_rfl) (by kernel_rfl)
    exact ⟨hltk, x, _, h⟩
  · obtain rfl : n = k := by omega
    refine sym_seq ?_
    refine St.r0 h [(68, .inl (.bool false))] [] ?_ ?_
    · exact oz (k_bi (.int .i64 ((n : Nat) : Int)) (.int .i64 ((64 : Nat) : Int)) (.bool false) (lt_i (m := ((n : Nat) : Int)) (n := ((64 : Nat) : Int)) (decide_eq_false (by omega))) rfl rfl) <|
      ok_nil
    clear h; intro β a w h
    refine sym_then ?_
    refine sym_seq ?_
    refine s_cf h ?_
    refine wp_exit ?_
    refine then_exit ?_
    refine then_exit ?_
    refine blk_exit ?_
    refine sym_then ?_
    refine sym_seq ?_
    refine St.r0 h [(128, .inl (.int .u32 (((vS H R n 0) : Nat) : Int))), (129, .inl (.int .u32 (((vS H R n 1) : Nat) : Int))), (130, .inl (.int .u32 (((vS H R n 2) : Nat) : Int))), (131, .inl (.int .u32 (((vS H R n 3) : Nat) : Int))), (132, .inl (.int .u32 (((vS H R n 4) : Nat) : Int))), (133, .inl (.int .u32 (((vS H R n 5) : Nat) : Int))), (134, .inl (.int .u32 (((vS H R n 6) : Nat) : Int))), (135, .inl (.int .u32 (((vS H R n 7) : Nat) : Int))), (136, .inl (.agg (aw 8 (vS H R n)))), (137, .inl (.int .i64 ((0 : Nat) : Int)))] [] ?_ ?_
    · exact oz (k_mv (.inl rfl) rfl) <|
      oz (k_mv (.inl rfl) rfl) <|
      oz (k_mv (.inl rfl) rfl) <|
      oz (k_mv (.inl rfl) rfl) <|
      oz (k_mv (.inl rfl) rfl) <|
      oz (k_mv (.inl rfl) rfl) <|
      oz (k_mv (.inl rfl) rfl) <|
      oz (k_mv (.inl rfl) rfl) <|
      oz (k_bu #[(0, .int .u32 (((vS H R n 0) : Nat) : Int)), (1, .int .u32 (((vS H R n 1) : Nat) : Int)), (2, .int .u32 (((vS H R n 2) : Nat) : Int)), (3, .int .u32 (((vS H R n 3) : Nat) : Int)), (4, .int .u32 (((vS H R n 4) : Nat) : Int)), (5, .int .u32 (((vS H R n 5) : Nat) : Int)), (6, .int .u32 (((vS H R n 6) : Nat) : Int)), (7, .int .u32 (((vS H R n 7) : Nat) : Int))] (.agg (aw 8 (vS H R n))) (fun w => by kernel_rfl) rfl rfl) <|
      oz (k_mv (.inl rfl) rfl) <|
      ok_nil
    clear h; intro β a w h
    refine sym_then ?_
    refine blk_in ?_
    replace h := St.sm h 0 (dgc (hF H (vS H R n) 0) p fl ln) (c := dgc H p fl ln) (t := 121) rfl
    obtain ⟨x, h⟩ := St.jn (n := 153) h [0, 2, 3, 4, 5, 6, 7, 8, 9, 10, 11, 66, 67, 136, 137] [.inr (0, pt 0), .inr (1, pt 0), .inl (.int .u32 (((vS H R n 0) : Nat) : Int)), .inl (.int .u32 (((vS H R n 1) : Nat) : Int)), .inl (.int .u32 (((vS H R n 2) : Nat) : Int)), .inl (.int .u32 (((vS H R n 3) : Nat) : Int)), .inl (.int .u32 (((vS H R n 4) : Nat) : Int)), .inl (.int .u32 (((vS H R n 5) : Nat) : Int)), .inl (.int .u32 (((vS H R n 6) : Nat) : Int)), .inl (.int .u32 (((vS H R n 7) : Nat) : Int)), .inr (2, pt 0), .inl (.int .i64 ((64 : Nat) : Int)), .inl (.int .i64 ((n : Nat) : Int)), .inl (.agg (aw 8 (vS H R n))), .inl (.int .i64 ((0 : Nat) : Int))] [(dgc (hF H (vS H R n) 0) p fl ln, 121), (pl14, 118), (aw 80 R, 130)] (by kernel_rfl) (by kernel_rfl) (by kernel_rfl)
    refine loop_up m8 (fun i a w => ∃ (x : Nat → SV) (β : Nat → Nat), St (wdx W0 q) (ov (jk 153 x) ([0, 2, 3, 4, 5, 6, 7, 8, 9, 10, 11, 66, 67, 136, 137].zip [.inr (0, pt 0), .inr (1, pt 0), .inl (.int .u32 (((vS H R n 0) : Nat) : Int)), .inl (.int .u32 (((vS H R n 1) : Nat) : Int)), .inl (.int .u32 (((vS H R n 2) : Nat) : Int)), .inl (.int .u32 (((vS H R n 3) : Nat) : Int)), .inl (.int .u32 (((vS H R n 4) : Nat) : Int)), .inl (.int .u32 (((vS H R n 5) : Nat) : Int)), .inl (.int .u32 (((vS H R n 6) : Nat) : Int)), .inl (.int .u32 (((vS H R n 7) : Nat) : Int)), .inr (2, pt 0), .inl (.int .i64 ((64 : Nat) : Int)), .inl (.int .i64 ((n : Nat) : Int)), .inl (.agg (aw 8 (vS H R n))), .inl (.int .i64 ((i : Nat) : Int))])) [(dgc (hF H (vS H R n) i) p fl ln, 121), (pl14, 118), (aw 80 R, 130)] β a w) ⟨x, _, h⟩ ?_
    clear h; rintro i a w hki ⟨x, β, h⟩
    rcases Nat.lt_or_ge i m8 with hlti | hgei
    · refine sym_seq ?_
      refine St.r0 h [(138, .inl (.bool true))] [] ?_ ?_
      · exact oz (k_bi (.int .i64 ((i : Nat) : Int)) (.int .i64 ((8 : Nat) : Int)) (.bool true) (lt_i (m := ((i : Nat) : Int)) (n := ((8 : Nat) : Int)) (decide_eq_true (by omega))) rfl rfl) <|
        ok_nil
      clear h; intro β a w h
      refine sym_then ?_
      refine sym_seq ?_
      refine s_ct h ?_
      refine wp_skip ?_
      refine sym_then ?_
      refine sym_seq ?_
      refine blk_in ?_
      refine sym_seq ?_
      refine St.r0 h [(139, .inl (.int .i64 ((i : Nat) : Int))), (140, .inl (.int .u32 (((vS H R n i) : Nat) : Int))), (17, .inl (.int .i64 ((i : Nat) : Int))), (18, .inl (.int .u32 (((vS H R n i) : Nat) : Int)))] [] ?_ ?_
      · exact oz (k_mv (.inl rfl) rfl) <|
        oz (k_ix (.agg (aw 8 (vS H R n))) (.int .i64 ((i : Nat) : Int)) (.int .u32 (((vS H R n i) : Nat) : Int)) (in8 (F := (vS H R n)) (i := i) (by omega)) rfl rfl) <|
        oz (k_mv (.inr rfl) rfl) <|
        oz (k_mv (.inr rfl) rfl) <|
        ok_nil
      clear h; intro β a w h
      refine sym_then ?_
      refine St.rg h [(141, .inr (0, pt 0)), (142, .inl (.int .i64 ((i : Nat) : Int))), (143, .inr (0, pt 0)), (144, .inr (0, pt 14)), (145, .inr (0, pt (14 + i))), (146, .inl (.int .u32 (((hF H (vS H R n) i i) : Nat) : Int))), (147, .inl (.int .u32 (((vS H R n i) : Nat) : Int))), (148, .inl (.int .u32 (((((hF H (vS H R n) i i) + (vS H R n i)) % B32) : Nat) : Int))), (149, .inr (0, pt 0)), (150, .inr (0, pt 14)), (151, .inr (0, pt (14 + i)))] [] [(0, dgc (updN (hF H (vS H R n) i) i (((hF H (vS H R n) i i) + (vS H R n i)) % B32)) p fl ln)] [nn, nn, nn, nn, nn, eR 0, nn, nn, nn, nn, nn, eS 0] ?_ ?_
      · exact oc (k_mp 0 (pt 0) (.inl rfl) rfl) <|
        oc (k_mv (.inl rfl) rfl) <|
        oc (k_nc 0 0 rfl rfl) <|
        oc (k_fa 0 0 14 rfl rfl) <|
        oc (k_ia 0 14 ((14 + i)) (.int .i64 ((i : Nat) : Int)) (ix8w (i := i) (by omega)) rfl rfl) <|
        oc (k_ld 0 ((14 + i)) (.int .u32 (((hF H (vS H R n) i i) : Nat) : Int)) (c := dgc (hF H (vS H R n) i) p fl ln) (ld_dgW (H := (hF H (vS H R n) i)) (p := p) (fl := fl) (ln := ln) (t0 := 121) (i := i) (by omega)) rfl rfl) <|
        oc (k_mv (.inl rfl) rfl) <|
        oc (k_bi (.int .u32 (((hF H (vS H R n) i i) : Nat) : Int)) (.int .u32 (((vS H R n i) : Nat) : Int)) (.int .u32 (((((hF H (vS H R n) i i) + (vS H R n i)) % B32) : Nat) : Int)) (ad_w (m := (hF H (vS H R n) i i)) (n := (vS H R n i))) rfl rfl) <|
        oc (k_nc 0 0 rfl rfl) <|
        oc (k_fa 0 0 14 rfl rfl) <|
        oc (k_ia 0 14 ((14 + i)) (.int .i64 ((i : Nat) : Int)) (ix8w (i := i) (by omega)) rfl rfl) <|
        oc (k_st 0 ((14 + i)) (.int .u32 (((((hF H (vS H R n) i i) + (vS H R n i)) % B32) : Nat) : Int)) (c := dgc (hF H (vS H R n) i) p fl ln) (n := dgc (updN (hF H (vS H R n) i) i (((hF H (vS H R n) i i) + (vS H R n i)) % B32)) p fl ln) (st_dgW (H := (hF H (vS H R n) i)) (p := p) (fl := fl) (ln := ln) (t0 := 121) (i := i) (v := (((hF H (vS H R n) i i) + (vS H R n i)) % B32)) (by omega)) rfl rfl) <|
        ok_nil
      clear h; intro β a w h
      refine blk_norm ?_
      refine sym_then ?_
      refine St.r0 h [(152, .inl (.int .i64 (((i + 1) : Nat) : Int))), (137, .inl (.int .i64 (((i + 1) : Nat) : Int)))] [eO] ?_ ?_
      · exact oc (k_b0 (.int .i64 ((i : Nat) : Int)) (.int .i64 ((1 : Nat) : Int)) (.int .i64 (((i + 1) : Nat) : Int)) (ad_i (m := i) (n := 1) (by omega)) rfl rfl) <|
        oz (k_mv (.inl rfl) rfl) <|
        ok_nil
      clear h; intro β a w h
      replace h := St.sm h 0 (dgc (hF H (vS H R n) (i + 1)) p fl ln) (c := dgc (updN (hF H (vS H R n) i) i (((hF H (vS H R n) i i) + (vS H R n i)) % B32)) p fl ln) (t := 121) (hF_s _ _ _ _ _ _)
      obtain ⟨x, h⟩ := St.jn (n := 153) h [0, 2, 3, 4, 5, 6, 7, 8, 9, 10, 11, 66, 67, 136, 137] [.inr (0, pt 0), .inr (1, pt 0), .inl (.int .u32 (((vS H R n 0) : Nat) : Int)), .inl (.int .u32 (((vS H R n 1) : Nat) : Int)), .inl (.int .u32 (((vS H R n 2) : Nat) : Int)), .inl (.int .u32 (((vS H R n 3) : Nat) : Int)), .inl (.int .u32 (((vS H R n 4) : Nat) : Int)), .inl (.int .u32 (((vS H R n 5) : Nat) : Int)), .inl (.int .u32 (((vS H R n 6) : Nat) : Int)), .inl (.int .u32 (((vS H R n 7) : Nat) : Int)), .inr (2, pt 0), .inl (.int .i64 ((64 : Nat) : Int)), .inl (.int .i64 ((n : Nat) : Int)), .inl (.agg (aw 8 (vS H R n))), .inl (.int .i64 (((i + 1) : Nat) : Int))] [(dgc (hF H (vS H R n) (i + 1)) p fl ln, 121), (pl14, 118), (aw 80 R, 130)] (by kernel_rfl) (by kernel_rfl) (by kernel_rfl)
      exact ⟨hlti, x, _, h⟩
    · obtain rfl : m8 = i := by omega
      refine sym_seq ?_
      refine St.r0 h [(138, .inl (.bool false))] [] ?_ ?_
      · exact oz (k_bi (.int .i64 ((m8 : Nat) : Int)) (.int .i64 ((8 : Nat) : Int)) (.bool false) (lt_i (m := ((m8 : Nat) : Int)) (n := ((8 : Nat) : Int)) (decide_eq_false (by omega))) rfl rfl) <|
        ok_nil
      clear h; intro β a w h
      refine sym_then ?_
      refine sym_seq ?_
      refine s_cf h ?_
      refine wp_exit ?_
      refine then_exit ?_
      refine then_exit ?_
      refine blk_exit ?_
      exact s_re h Tryd.results85 (fun hb => ⟨rfl, hb⟩)
theorem mix_d {H p : Nat → Nat} {fl ln q : Nat} {W0 : World} (hg : Gl W0) (hH : ∀ i, H i < B32) (hp : ∀ i, p i < 256) (hq : W0.heap[q]? = some (.cells (dgc H p fl ln) 121 (0, 0))) : Calls Tryd.prog 85 #[.pointer (some ⟨q, 0, none⟩)] W0 fun e w' => e = .returned (.tuple #[]) ∧ Wrt W0 w' q (dgc (mixH H p) p fl ln) 121 := mix_w rfl rfl (fun _ _ hq => row_d hp hq) hg hH hq
end Go.Proofs.YtgnmnoadfjdjdaaDoor.Sh

namespace Go.Proofs.YtgnmnoadfjdjdaaDoor.Sh
open Go.RowKit
theorem bxPl (w : World) : (Instr.box 118 (.agg pl14)).run Tryd.prog w = .ok (.pointer (some ⟨w.heap.size, 0, none⟩)) (w.alloc (.cells pl14 118)) := bx_agg w
theorem ldPl (t0 : TypeId) (w : World) (q : Nat) (h : w.heap[q]? = some (.cells pl14 t0 (0, 0))) : (Instr.loadAt 118 (.pointer (some ⟨q, 0, none⟩))).run Tryd.prog w = .ok (.agg pl14) w :=
  ld_row (c := pl14) Tryd.underlying118 rfl (by rw [pl14_size]; kernel_rfl) w q h
theorem dgc_size (H p : Nat → Nat) (fl ln : Nat) : (dgc H p fl ln).size = 152 := arr_size _ _
theorem dgc_one (H p : Nat → Nat) (fl ln : Nat) : (dgc H p fl ln).all (·.oneCell') = true := by
  rw [Array.all_eq_true_iff_forall_mem]
  intro v hv
  obtain ⟨i, rfl⟩ := Array.mem_ofFn.1 hv
  unfold dgv
  repeat' split
  all_goals rfl
/-- A digest of nothing but zeros. -/
def zdv (i : Nat) : Value := if i < 14 then .int .i64 0 else if i < 22 then .int .u32 0 else if i < 150 then .int .u8 0 else if i < 151 then .int .i64 0 else .int .u64 0
def zdc : Array Value := arr 152 zdv
theorem alD (w : World) : (Instr.alloc 121 true (.tuple #[])).run Tryd.prog w = .ok (.pointer (some ⟨w.heap.size, 0, none⟩)) (w.alloc (.cells zdc 121)) := by
  have e : (zeroValue 121).run Tryd.prog w = .ok (.agg zdc) w := by kernel_rfl
  simp [Instr.alloc, go_sem, e]
theorem stD {H p : Nat → Nat} {fl ln : Nat} {c : Array Value} (t0 : TypeId) (hc : c.size = 152) (w : World) (q : Nat) (h : w.heap[q]? = some (.cells c t0 (0, 0))) : (Instr.storeAt 121 (.pointer (some ⟨q, 0, none⟩)) (.agg (dgc H p fl ln))).run Tryd.prog w = .ok () (w.setRow q (dgc H p fl ln)) :=
  st_row (n := dgc H p fl ln) (by rw [dgc_size]; kernel_rfl) (by rw [hc, dgc_size]) (dgc_one _ _ _ _) w q h
theorem ldD {H p : Nat → Nat} {fl ln : Nat} (t0 : TypeId) (w : World) (q : Nat) (h : w.heap[q]? = some (.cells (dgc H p fl ln) t0 (0, 0))) : (Instr.loadAt 121 (.pointer (some ⟨q, 0, none⟩))).run Tryd.prog w = .ok (.agg (dgc H p fl ln)) w :=
  ld_row (c := dgc H p fl ln) Tryd.underlying121 rfl (by rw [dgc_size]; kernel_rfl) w q h
def bgF : Nat → Nat → Nat
  | 0 => fun _ => 0
  | k + 1 => updN (bgF k) k (sq k / 2 ^ 32)
theorem plan_d (W0 : World) : Calls Tryd.prog 80 #[] W0 fun e w' => e = .returned (.agg pl14) ∧ Below W0.heap.size W0 w' := by
  refine s_in Tryd.func80 Tryd.ntmps80 rfl [] ?_
  intro β a h
  refine sym_seq ?_
  refine St.rg h [(0, .inr (0, pt 0))] [(ai 14 (fun _ => 0), 118)] [] [eN 0] ?_ ?_
  · exact oc (k_al 0 alPl rfl rfl) <|
    ok_nil
  clear h; intro β a w h
  refine sym_then ?_
  refine sym_seq ?_
  refine St.rg h [(1, .inl (.agg (i3 17 19 10))), (2, .inl (.agg (i3 7 18 3))), (3, .inl (.agg (i3 2 13 22))), (4, .inl (.agg (i3 6 11 25))), (5, .inl (.agg pl14))] [] [(0, pl14)] [nn, nn, nn, nn, nn, eS 0] ?_ ?_
  · exact oc (k_bu #[(0, .int .i64 ((17 : Nat) : Int)), (1, .int .i64 ((19 : Nat) : Int)), (2, .int .i64 ((10 : Nat) : Int))] (.agg (i3 17 19 10)) (fun w => by kernel_rfl) rfl rfl) <|
    oc (k_bu #[(0, .int .i64 ((7 : Nat) : Int)), (1, .int .i64 ((18 : Nat) : Int)), (2, .int .i64 ((3 : Nat) : Int))] (.agg (i3 7 18 3)) (fun w => by kernel_rfl) rfl rfl) <|
    oc (k_bu #[(0, .int .i64 ((2 : Nat) : Int)), (1, .int .i64 ((13 : Nat) : Int)), (2, .int .i64 ((22 : Nat) : Int))] (.agg (i3 2 13 22)) (fun w => by kernel_rfl) rfl rfl) <|
    oc (k_bu #[(0, .int .i64 ((6 : Nat) : Int)), (1, .int .i64 ((11 : Nat) : Int)), (2, .int .i64 ((25 : Nat) : Int))] (.agg (i3 6 11 25)) (fun w => by kernel_rfl) rfl rfl) <|
    oc (k_bu #[(0, .int .i64 ((32 : Nat) : Int)), (1, .int .i64 ((64 : Nat) : Int)), (2, .agg (i3 17 19 10)), (3, .agg (i3 7 18 3)), (4, .agg (i3 2 13 22)), (5, .agg (i3 6 11 25))] (.agg pl14) (fun w => by kernel_rfl) rfl rfl) <|
    oc (k_st 0 0 (.agg pl14) (c := ai 14 (fun _ => 0)) (n := pl14) (stPl (c := ai 14 (fun _ => 0)) 118 (ai_size _ _)) rfl rfl) <|
    ok_nil
  clear h; intro β a w h
  refine sym_then ?_
  refine wp_ret ?_
  exact s_rc (b := 0) (t0 := 118) (c := pl14) h Tryd.results80 Tryd.underlying118 (fun hb => ⟨rfl, hb⟩) (by rw [pl14_size]; kernel_rfl)
set_option maxHeartbeats 8000000 in
theorem begin_d {W0 : World} (hg : Gl W0) : Calls Tryd.prog 79 #[.agg pl14] W0 fun e w' => e = .returned (.agg (dgc (bgF 8) (fun _ => 0) 0 0)) ∧ Below W0.heap.size W0 w' := by
  refine s_in Tryd.func79 Tryd.ntmps79 rfl [.inl (.agg pl14)] ?_
  intro β a h
  refine sym_seq ?_
  refine St.rg h [(1, .inr (0, pt 0)), (2, .inr (1, pt 0))] [(pl14, 118), (zdc, 121)] [] [eN 0, eN 1] ?_ ?_
  · exact oc (k_bx 0 (.agg pl14) bxPl rfl rfl) <|
    oc (k_al 1 alD rfl rfl) <|
    ok_nil
  clear h; intro β a w h
  refine sym_then ?_
  refine sym_seq ?_
  refine St.rg h [(5, .inl (.agg pl14)), (6, .inl (.agg (dgc (fun _ => 0) (fun _ => 0) 0 0))), (3, .inr (2, pt 0))] [(zdc, 121)] [(2, dgc (fun _ => 0) (fun _ => 0) 0 0)] [eR 0, nn, eN 2, eS 2] ?_ ?_
  · exact oc (k_ld 0 0 (.agg pl14) (c := pl14) (ldPl 118) rfl rfl) <|
    oc (k_bu #[(0, .agg pl14)] (.agg (dgc (fun _ => 0) (fun _ => 0) 0 0)) (fun w => by kernel_rfl) rfl rfl) <|
    oc (k_al 2 alD rfl rfl) <|
    oc (k_st 2 0 (.agg (dgc (fun _ => 0) (fun _ => 0) 0 0)) (c := zdc) (n := dgc (fun _ => 0) (fun _ => 0) 0 0) (stD (H := (fun _ => 0)) (p := (fun _ => 0)) (fl := 0) (ln := 0) (c := zdc) 121 (arr_size _ _)) rfl rfl) <|
    ok_nil
  clear h; intro β a w h
  refine sym_then ?_
  refine sym_seq ?_
  refine sym_seq ?_
  refine St.r0 h [(7, .inl (.int .i64 ((0 : Nat) : Int)))] [] ?_ ?_
  · exact oz (k_mv (.inl rfl) rfl) <|
    ok_nil
  clear h; intro β a w h
  refine sym_then ?_
  refine blk_in ?_
  replace h := St.sm h 2 (dgc (bgF 0) (fun _ => 0) 0 0) (c := dgc (fun _ => 0) (fun _ => 0) 0 0) (t := 121) rfl
  obtain ⟨x, h⟩ := St.jn (n := 19) h [0, 1, 2, 3, 5, 6, 7] [.inl (.agg pl14), .inr (0, pt 0), .inr (1, pt 0), .inr (2, pt 0), .inl (.agg pl14), .inl (.agg (dgc (fun _ => 0) (fun _ => 0) 0 0)), .inl (.int .i64 ((0 : Nat) : Int))] [(pl14, 118), (zdc, 121), (dgc (bgF 0) (fun _ => 0) 0 0, 121)] (by kernel_rfl) (by kernel_rfl) (by kernel_rfl)
  refine loop_up 8 (fun k a w => ∃ (x : Nat → SV) (β : Nat → Nat), St (wd W0) (ov (jk 19 x) ([0, 1, 2, 3, 5, 6, 7].zip [.inl (.agg pl14), .inr (0, pt 0), .inr (1, pt 0), .inr (2, pt 0), .inl (.agg pl14), .inl (.agg (dgc (fun _ => 0) (fun _ => 0) 0 0)), .inl (.int .i64 ((k : Nat) : Int))])) [(pl14, 118), (zdc, 121), (dgc (bgF k) (fun _ => 0) 0 0, 121)] β a w) ⟨x, _, h⟩ ?_
  clear h; rintro k a w hkk ⟨x, β, h⟩
  rcases Nat.lt_or_ge k 8 with hltk | hgek
  · refine sym_seq ?_
    refine St.r0 h [(8, .inl (.bool true))] [] ?_ ?_
    · exact oz (k_bi (.int .i64 ((k : Nat) : Int)) (.int .i64 ((8 : Nat) : Int)) (.bool true) (lt_i (m := ((k : Nat) : Int)) (n := ((8 : Nat) : Int)) (decide_eq_true (by omega))) rfl rfl) <|
      ok_nil
    clear h; intro β a w h
    refine sym_then ?_
    refine sym_seq ?_
    refine s_ct h ?_
    refine wp_skip ?_
    refine sym_then ?_
    refine sym_seq ?_
    refine blk_in ?_
    refine sym_seq ?_
    refine St.r0 h [(9, .inl (.int .i64 ((k : Nat) : Int))), (4, .inl (.int .i64 ((k : Nat) : Int)))] [] ?_ ?_
    · exact oz (k_mv (.inl rfl) rfl) <|
      oz (k_mv (.inr rfl) rfl) <|
      ok_nil
    clear h; intro β a w h
    refine sym_then ?_
    refine St.rg h [(10, .inl (.int .i64 ((k : Nat) : Int))), (11, .inl (.int .i64 ((k : Nat) : Int))), (12, .inl (.pointer (some ⟨2, k, none⟩))), (13, .inl (.int .u64 (((sq k) : Nat) : Int))), (14, .inl (.int .u32 ((((sq k) / 2 ^ 32) : Nat) : Int))), (15, .inr (2, pt 14)), (16, .inr (2, pt (14 + k)))] [] [(2, dgc (updN (bgF k) k ((sq k) / 2 ^ 32)) (fun _ => 0) 0 0)] [nn, nn, nn, nn, eR 2, nn, nn, eS 2] ?_ ?_
    · exact oc (k_mv (.inl rfl) rfl) <|
      oc (k_mv (.inl rfl) rfl) <|
      oc (k_is (.pointer (some ⟨2, 0, none⟩)) (.int .i64 ((k : Nat) : Int)) (.pointer (some ⟨2, k, none⟩)) (fun w => ix8g (i := k) (by omega) w 2) rfl rfl) <|
      oc (k_lf (.pointer (some ⟨2, k, none⟩)) (.int .u64 (((sq k) : Nat) : Int)) (fun w hw => gl_sq hg (by omega) w hw) rfl rfl) <|
      oc (k_cb 83 (fun q => #[.pointer (some ⟨q, 0, none⟩), .int .u64 (((sq k) : Nat) : Int)]) (.int .u32 ((((sq k) / 2 ^ 32) : Nat) : Int)) 2 3 (fun w q _ hq => lead_d (sq_lt _) hq) rfl rfl (by simp) (fm := pt 0) (t0 := 121) (c := dgc (bgF k) (fun _ => 0) 0 0)) <|
      oc (k_fa 2 0 14 rfl rfl) <|
      oc (k_ia 2 14 ((14 + k)) (.int .i64 ((k : Nat) : Int)) (ix8w (i := k) (by omega)) rfl rfl) <|
      oc (k_st 2 ((14 + k)) (.int .u32 ((((sq k) / 2 ^ 32) : Nat) : Int)) (c := dgc (bgF k) (fun _ => 0) 0 0) (n := dgc (updN (bgF k) k ((sq k) / 2 ^ 32)) (fun _ => 0) 0 0) (st_dgW (H := (bgF k)) (p := (fun _ => 0)) (fl := 0) (ln := 0) (t0 := 121) (i := k) (v := ((sq k) / 2 ^ 32)) (by omega)) rfl rfl) <|
      ok_nil
    clear h; intro β a w h
    refine blk_norm ?_
    refine sym_then ?_
    refine St.r0 h [(17, .inl (.int .i64 (((k + 1) : Nat) : Int))), (7, .inl (.int .i64 (((k + 1) : Nat) : Int)))] [eO] ?_ ?_
    · exact oc (k_b0 (.int .i64 ((k : Nat) : Int)) (.int .i64 ((1 : Nat) : Int)) (.int .i64 (((k + 1) : Nat) : Int)) (ad_i (m := k) (n := 1) (by omega)) rfl rfl) <|
      oz (k_mv (.inl rfl) rfl) <|
      ok_nil
    clear h; intro β a w h
    replace h := St.sm h 2 (dgc (bgF (k + 1)) (fun _ => 0) 0 0) (c := dgc (updN (bgF k) k ((sq k) / 2 ^ 32)) (fun _ => 0) 0 0) (t := 121) rfl
    obtain ⟨x, h⟩ := St.jn (n := 19) h [0, 1, 2, 3, 5, 6, 7] [.inl (.agg pl14), .inr (0, pt 0), .inr (1, pt 0), .inr (2, pt 0), .inl (.agg pl14), .inl (.agg (dgc (fun _ => 0) (fun _ => 0) 0 0)), .inl (.int .i64 (((k + 1) : Nat) : Int))] [(pl14, 118), (zdc, 121), (dgc (bgF (k + 1)) (fun _ => 0) 0 0, 121)] (by kernel_rfl) (by kernel_rfl) (by kernel_rfl)
    exact ⟨hltk, x, _, h⟩
  · obtain rfl : 8 = k := by omega
    refine sym_seq ?_
    refine St.r0 h [(8, .inl (.bool false))] [] ?_ ?_
    · exact oz (k_bi (.int .i64 ((8 : Nat) : Int)) (.int .i64 ((8 : Nat) : Int)) (.bool false) (lt_i (m := ((8 : Nat) : Int)) (n := ((8 : Nat) : Int)) (decide_eq_false (by omega))) rfl rfl) <|
      ok_nil
    clear h; intro β a w h
    refine sym_then ?_
    refine sym_seq ?_
    refine s_cf h ?_
    refine wp_exit ?_
    refine then_exit ?_
    refine then_exit ?_
    refine blk_exit ?_
    refine sym_then ?_
    refine sym_seq ?_
    refine St.rg h [(18, .inl (.agg (dgc (bgF 8) (fun _ => 0) 0 0)))] [] [(1, dgc (bgF 8) (fun _ => 0) 0 0)] [eR 2, eS 1] ?_ ?_
    · exact oc (k_ld 2 0 (.agg (dgc (bgF 8) (fun _ => 0) 0 0)) (c := dgc (bgF 8) (fun _ => 0) 0 0) (ldD (H := (bgF 8)) (p := (fun _ => 0)) (fl := 0) (ln := 0) 121) rfl rfl) <|
      oc (k_st 1 0 (.agg (dgc (bgF 8) (fun _ => 0) 0 0)) (c := zdc) (n := dgc (bgF 8) (fun _ => 0) 0 0) (stD (H := (bgF 8)) (p := (fun _ => 0)) (fl := 0) (ln := 0) (c := zdc) 121 (arr_size _ _)) rfl rfl) <|
      ok_nil
    clear h; intro β a w h
    refine sym_then ?_
    refine wp_ret ?_
    exact s_rc (b := 1) (t0 := 121) (c := dgc (bgF 8) (fun _ => 0) 0 0) h Tryd.results79 Tryd.underlying121 (fun hb => ⟨rfl, hb⟩) (by rw [dgc_size]; kernel_rfl)
end Go.Proofs.YtgnmnoadfjdjdaaDoor.Sh

namespace Go.Proofs.YtgnmnoadfjdjdaaDoor.Sh
open Go.RowKit
def dnw (k : Nat) : Int := 3 - (k : Int)
theorem dnw_v {k : Nat} (h : k < 4) : Value.int .i64 (dnw k) = Value.int .i64 (((3 - k : Nat)) : Int) := by unfold dnw; congr 1; omega
section
variable {x u : Operand}
theorem sb_w {k : Nat} (h : k < 4) (w : World) : (do eqGuard .sub 3 x u (.int .i64 (((3 - k : Nat)) : Int)) (.int .i64 ((1 : Nat) : Int)); binOp .sub 3 (.int .i64 (((3 - k : Nat)) : Int)) (.int .i64 ((1 : Nat) : Int))).run Tryd.prog w = .ok (.int .i64 (dnw (k + 1))) w := by
  have := sb_z (x := x) (u := u) (m := (((3 - k : Nat)) : Int)) (n := ((1 : Nat) : Int)) (by omega) (by omega) w
  rwa [show (((3 - k : Nat)) : Int) - ((1 : Nat) : Int) = dnw (k + 1) by unfold dnw; omega] at this
theorem sr_8 {m : Nat} (w : World) : (do eqGuard .shr 98 x u (.int .u32 ((m : Nat) : Int)) (.int .u64 ((8 : Nat) : Int)); binOp .shr 98 (.int .u32 ((m : Nat) : Int)) (.int .u64 ((8 : Nat) : Int))).run Tryd.prog w = .ok (.int .u32 ((m / 2 ^ 8 : Nat) : Int)) w := by
  simp [eqGuard, binOp, go_sem]
end
theorem cv_w8 {n : Nat} (w : World) : (convert 98 5 (.int .u32 ((n : Nat) : Int))).run Tryd.prog w = .ok (.int .u8 ((n % 256 : Nat) : Int)) w := by
  have h1 : IntKind.u8.wrap (n : Int) = ((n % 256 : Nat) : Int) := by rw [IntKind.wrap_u8]; omega
  simp [convert, go_sem, h1]
/-- A word's bytes, put into a row. -/
def ptF (F : Nat → Nat) (off x : Nat) : Nat → Nat → Nat
  | 0 => F
  | k + 1 => updN (ptF F off x k) (off + (3 - k)) (wF x k % 256)
set_option maxHeartbeats 8000000 in
theorem put_d {F : Nat → Nat} {N off cap v0 q : Nat} {t0 : TypeId} {W0 : World} (hN : off + 4 ≤ N) (hq : W0.heap[q]? = some (.cells (ab N F) t0 (0, 0))) : Calls Tryd.prog 87 #[.slice (some ⟨q, off, none⟩) 4 cap, .int .u32 ((v0 : Nat) : Int)] W0 fun e w' => e = .returned (.tuple #[]) ∧ Wrt W0 w' q (ab N (ptF F off v0 4)) t0 := by
  refine s_ip Tryd.func87 Tryd.ntmps87 rfl hq [.inr (0, sl off 4 cap), .inl (.int .u32 ((v0 : Nat) : Int))] ?_
  intro β a h
  refine sym_seq ?_
  refine St.r0 h [(5, .inr (0, sl off 4 cap)), (6, .inl (.int .i64 ((4 : Nat) : Int))), (7, .inl (.int .i64 ((3 : Nat) : Int))), (4, .inl (.int .i64 ((3 : Nat) : Int)))] [] ?_ ?_
  · exact oz (k_mp 0 (sl off 4 cap) (.inl rfl) rfl) <|
    oz (k_lb 0 off 4 cap rfl rfl (fun w ad => len_b _ w)) <|
    oz (k_bi (.int .i64 ((4 : Nat) : Int)) (.int .i64 ((1 : Nat) : Int)) (.int .i64 ((3 : Nat) : Int)) (sb_zn (m := ((4 : Nat) : Int)) (n := ((1 : Nat) : Int)) (k := 3) (by omega) (by omega)) rfl rfl) <|
    oz (k_mv (.inr rfl) rfl) <|
    ok_nil
  clear h; intro β a w h
  refine sym_then ?_
  refine blk_in ?_
  replace h := St.sm h 0 (ab N (ptF F off v0 0)) (c := ab N F) (t := t0) rfl
  replace h := St.ss h 1 (.int .u32 (((wF v0 0) : Nat) : Int)) (v := .int .u32 ((v0 : Nat) : Int)) rfl
  replace h := St.ss h 4 (.int .i64 (dnw 0)) (v := .int .i64 ((3 : Nat) : Int)) rfl
  obtain ⟨x, h⟩ := St.jn (n := 19) h [0, 1, 4, 5, 6, 7] [.inr (0, sl off 4 cap), .inl (.int .u32 (((wF v0 0) : Nat) : Int)), .inl (.int .i64 (dnw 0)), .inr (0, sl off 4 cap), .inl (.int .i64 ((4 : Nat) : Int)), .inl (.int .i64 ((3 : Nat) : Int))] [(ab N (ptF F off v0 0), t0)] (by kernel_rfl) (by kernel_rfl) (by kernel_rfl)
  refine loop_up 4 (fun k a w => ∃ (x : Nat → SV) (β : Nat → Nat), St (wdx W0 q) (ov (jk 19 x) ([0, 1, 4, 5, 6, 7].zip [.inr (0, sl off 4 cap), .inl (.int .u32 (((wF v0 k) : Nat) : Int)), .inl (.int .i64 (dnw k)), .inr (0, sl off 4 cap), .inl (.int .i64 ((4 : Nat) : Int)), .inl (.int .i64 ((3 : Nat) : Int))])) [(ab N (ptF F off v0 k), t0)] β a w) ⟨x, _, h⟩ ?_
  clear h; rintro k a w hkk ⟨x, β, h⟩
  rcases Nat.lt_or_ge k 4 with hltk | hgek
  · replace h := St.ss h 4 (.int .i64 (((3 - k) : Nat) : Int)) (v := .int .i64 (dnw k)) (dnw_v hltk)
    refine sym_seq ?_
    refine sym_seq ?_
    refine St.r0 h [(8, .inl (.int .i64 (((3 - k) : Nat) : Int))), (9, .inl (.bool true))] [] ?_ ?_
    · exact oz (k_mv (.inl rfl) rfl) <|
      oz (k_bi (.int .i64 (((3 - k) : Nat) : Int)) (.int .i64 ((0 : Nat) : Int)) (.bool true) (ge_i (m := (((3 - k) : Nat) : Int)) (n := ((0 : Nat) : Int)) (decide_eq_true (by omega))) rfl rfl) <|
      ok_nil
    clear h; intro β a w h
    refine sym_then ?_
    refine s_ct h ?_
    refine wp_skip ?_
    refine sym_then ?_
    refine sym_seq ?_
    refine blk_in ?_
    refine sym_seq ?_
    refine St.rg h [(12, .inr (0, sl off 4 cap)), (13, .inl (.int .i64 (((3 - k) : Nat) : Int))), (14, .inl (.int .u32 (((wF v0 k) : Nat) : Int))), (15, .inl (.int .u8 ((((wF v0 k) % 256) : Nat) : Int))), (16, .inr (0, pt (off + (3 - k))))] [] [(0, ab N (updN (ptF F off v0 k) (off + (3 - k)) ((wF v0 k) % 256)))] [nn, nn, nn, nn, nn, eS 0] ?_ ?_
    · exact oc (k_mp 0 (sl off 4 cap) (.inl rfl) rfl) <|
      oc (k_mv (.inl rfl) rfl) <|
      oc (k_mv (.inl rfl) rfl) <|
      oc (k_co (.int .u32 (((wF v0 k) : Nat) : Int)) (.int .u8 ((((wF v0 k) % 256) : Nat) : Int)) (cv_w8 (n := (wF v0 k))) rfl rfl) <|
      oc (k_ib 0 ((off + (3 - k))) (sl off 4 cap) (.int .i64 (((3 - k) : Nat) : Int)) (ix_pc (i := (3 - k)) (by omega)) rfl rfl) <|
      oc (k_st 0 ((off + (3 - k))) (.int .u8 ((((wF v0 k) % 256) : Nat) : Int)) (c := ab N (ptF F off v0 k)) (n := ab N (updN (ptF F off v0 k) (off + (3 - k)) ((wF v0 k) % 256))) (st_ab (N := N) (F := (ptF F off v0 k)) (i := (off + (3 - k))) (v := ((wF v0 k) % 256)) (t0 := t0) (by omega)) rfl rfl) <|
      ok_nil
    clear h; intro β a w h
    refine sym_then ?_
    refine St.r0 h [(17, .inl (.int .u32 (((wF v0 k) : Nat) : Int))), (18, .inl (.int .u32 ((((wF v0 k) / 2 ^ 8) : Nat) : Int))), (1, .inl (.int .u32 ((((wF v0 k) / 2 ^ 8) : Nat) : Int)))] [eO] ?_ ?_
    · exact oc (k_m0 rfl rfl) <|
      oz (k_bi (.int .u32 (((wF v0 k) : Nat) : Int)) (.int .u64 ((8 : Nat) : Int)) (.int .u32 ((((wF v0 k) / 2 ^ 8) : Nat) : Int)) (sr_8 (m := (wF v0 k))) rfl rfl) <|
      oz (k_mv (.inr rfl) rfl) <|
      ok_nil
    clear h; intro β a w h
    refine blk_norm ?_
    refine sym_then ?_
    refine St.r0 h [(10, .inl (.int .i64 (((3 - k) : Nat) : Int))), (11, .inl (.int .i64 (dnw (k + 1)))), (4, .inl (.int .i64 (dnw (k + 1))))] [eO] ?_ ?_
    · exact oc (k_m0 rfl rfl) <|
      oz (k_bi (.int .i64 (((3 - k) : Nat) : Int)) (.int .i64 ((1 : Nat) : Int)) (.int .i64 (dnw (k + 1))) (sb_w (k := k) hltk) rfl rfl) <|
      oz (k_mv (.inr rfl) rfl) <|
      ok_nil
    clear h; intro β a w h
    replace h := St.sm h 0 (ab N (ptF F off v0 (k + 1))) (c := ab N (updN (ptF F off v0 k) (off + (3 - k)) ((wF v0 k) % 256))) (t := t0) rfl
    replace h := St.ss h 1 (.int .u32 (((wF v0 (k + 1)) : Nat) : Int)) (v := .int .u32 ((((wF v0 k) / 2 ^ 8) : Nat) : Int)) rfl
    obtain ⟨x, h⟩ := St.jn (n := 19) h [0, 1, 4, 5, 6, 7] [.inr (0, sl off 4 cap), .inl (.int .u32 (((wF v0 (k + 1)) : Nat) : Int)), .inl (.int .i64 (dnw (k + 1))), .inr (0, sl off 4 cap), .inl (.int .i64 ((4 : Nat) : Int)), .inl (.int .i64 ((3 : Nat) : Int))] [(ab N (ptF F off v0 (k + 1)), t0)] (by kernel_rfl) (by kernel_rfl) (by kernel_rfl)
    exact ⟨hltk, x, _, h⟩
  · obtain rfl : 4 = k := by omega
    refine sym_seq ?_
    refine sym_seq ?_
    refine St.r0 h [(8, .inl (.int .i64 (dnw 4))), (9, .inl (.bool false))] [] ?_ ?_
    · exact oz (k_mv (.inl rfl) rfl) <|
      oz (k_bi (.int .i64 (dnw 4)) (.int .i64 ((0 : Nat) : Int)) (.bool false) (ge_i (m := dnw 4) (n := ((0 : Nat) : Int)) (decide_eq_false (by unfold dnw; omega))) rfl rfl) <|
      ok_nil
    clear h; intro β a w h
    refine sym_then ?_
    refine s_cf h ?_
    refine wp_exit ?_
    refine then_exit ?_
    refine then_exit ?_
    refine blk_exit ?_
    exact s_re h Tryd.results87 (fun hb => ⟨rfl, hb⟩)
end Go.Proofs.YtgnmnoadfjdjdaaDoor.Sh

namespace Go.Proofs.YtgnmnoadfjdjdaaDoor
open Go.RowKit
def dnw (k : Nat) : Int := 7 - (k : Int)
theorem dnw_v {k : Nat} (h : k < 8) : Value.int .i64 (dnw k) = Value.int .i64 (((7 - k : Nat)) : Int) := by unfold dnw; congr 1; omega
section
variable {x u : Operand}
theorem sb_w {k : Nat} (h : k < 8) (w : World) : (do eqGuard .sub 3 x u (.int .i64 (((7 - k : Nat)) : Int)) (.int .i64 ((1 : Nat) : Int)); binOp .sub 3 (.int .i64 (((7 - k : Nat)) : Int)) (.int .i64 ((1 : Nat) : Int))).run Tryd.prog w = .ok (.int .i64 (dnw (k + 1))) w := by
  have := sb_z (x := x) (u := u) (m := (((7 - k : Nat)) : Int)) (n := ((1 : Nat) : Int)) (by omega) (by omega) w
  rwa [show (((7 - k : Nat)) : Int) - ((1 : Nat) : Int) = dnw (k + 1) by unfold dnw; omega] at this
theorem sr_8 {m : Nat} (w : World) : (do eqGuard .shr 102 x u (.int .u64 ((m : Nat) : Int)) (.int .u64 ((8 : Nat) : Int)); binOp .shr 102 (.int .u64 ((m : Nat) : Int)) (.int .u64 ((8 : Nat) : Int))).run Tryd.prog w = .ok (.int .u64 ((m / 2 ^ 8 : Nat) : Int)) w := by
  simp [eqGuard, binOp, go_sem]
end
theorem cv_w8 {n : Nat} (w : World) : (convert 102 5 (.int .u64 ((n : Nat) : Int))).run Tryd.prog w = .ok (.int .u8 ((n % 256 : Nat) : Int)) w := by
  have h1 : IntKind.u8.wrap (n : Int) = ((n % 256 : Nat) : Int) := by rw [IntKind.wrap_u8]; omega
  simp [convert, go_sem, h1]
set_option maxHeartbeats 8000000 in
theorem put_d {F : Nat → Nat} {N off cap v0 q : Nat} {t0 : TypeId} {W0 : World} (hN : off + 8 ≤ N) (hq : W0.heap[q]? = some (.cells (ab N F) t0 (0, 0))) : Calls Tryd.prog 91 #[.slice (some ⟨q, off, none⟩) 8 cap, .int .u64 ((v0 : Nat) : Int)] W0 fun e w' => e = .returned (.tuple #[]) ∧ Wrt W0 w' q (ab N (ptF F off v0 8)) t0 := by
  refine s_ip Tryd.func91 Tryd.ntmps91 rfl hq [.inr (0, sl off 8 cap), .inl (.int .u64 ((v0 : Nat) : Int))] ?_
  intro β a h
  refine sym_seq ?_
  refine St.r0 h [(5, .inr (0, sl off 8 cap)), (6, .inl (.int .i64 ((8 : Nat) : Int))), (7, .inl (.int .i64 ((7 : Nat) : Int))), (4, .inl (.int .i64 ((7 : Nat) : Int)))] [] ?_ ?_
  · exact oz (k_mp 0 (sl off 8 cap) (.inl rfl) rfl) <|
    oz (k_lb 0 off 8 cap rfl rfl (fun w ad => len_b _ w)) <|
    oz (k_bi (.int .i64 ((8 : Nat) : Int)) (.int .i64 ((1 : Nat) : Int)) (.int .i64 ((7 : Nat) : Int)) (sb_zn (m := ((8 : Nat) : Int)) (n := ((1 : Nat) : Int)) (k := 7) (by omega) (by omega)) rfl rfl) <|
    oz (k_mv (.inr rfl) rfl) <|
    ok_nil
  clear h; intro β a w h
  refine sym_then ?_
  refine blk_in ?_
  replace h := St.sm h 0 (ab N (ptF F off v0 0)) (c := ab N F) (t := t0) rfl
  replace h := St.ss h 1 (.int .u64 (((wF v0 0) : Nat) : Int)) (v := .int .u64 ((v0 : Nat) : Int)) rfl
  replace h := St.ss h 4 (.int .i64 (dnw 0)) (v := .int .i64 ((7 : Nat) : Int)) rfl
  obtain ⟨x, h⟩ := St.jn (n := 19) h [0, 1, 4, 5, 6, 7] [.inr (0, sl off 8 cap), .inl (.int .u64 (((wF v0 0) : Nat) : Int)), .inl (.int .i64 (dnw 0)), .inr (0, sl off 8 cap), .inl (.int .i64 ((8 : Nat) : Int)), .inl (.int .i64 ((7 : Nat) : Int))] [(ab N (ptF F off v0 0), t0)] (by kernel_rfl) (by kernel_rfl) (by kernel_rfl)
  refine loop_up 8 (fun k a w => ∃ (x : Nat → SV) (β : Nat → Nat), St (wdx W0 q) (ov (jk 19 x) ([0, 1, 4, 5, 6, 7].zip [.inr (0, sl off 8 cap), .inl (.int .u64 (((wF v0 k) : Nat) : Int)), .inl (.int .i64 (dnw k)), .inr (0, sl off 8 cap), .inl (.int .i64 ((8 : Nat) : Int)), .inl (.int .i64 ((7 : Nat) : Int))])) [(ab N (ptF F off v0 k), t0)] β a w) ⟨x, _, h⟩ ?_
  clear h; rintro k a w hkk ⟨x, β, h⟩
  rcases Nat.lt_or_ge k 8 with hltk | hgek
  · replace h := St.ss h 4 (.int .i64 (((7 - k) : Nat) : Int)) (v := .int .i64 (dnw k)) (dnw_v hltk)
    refine sym_seq ?_
    refine sym_seq ?_
    refine St.r0 h [(8, .inl (.int .i64 (((7 - k) : Nat) : Int))), (9, .inl (.bool true))] [] ?_ ?_
    · exact oz (k_mv (.inl rfl) rfl) <|
      oz (k_bi (.int .i64 (((7 - k) : Nat) : Int)) (.int .i64 ((0 : Nat) : Int)) (.bool true) (ge_i (m := (((7 - k) : Nat) : Int)) (n := ((0 : Nat) : Int)) (decide_eq_true (by omega))) rfl rfl) <|
      ok_nil
    clear h; intro β a w h
    refine sym_then ?_
    refine s_ct h ?_
    refine wp_skip ?_
    refine sym_then ?_
    refine sym_seq ?_
    refine blk_in ?_
    refine sym_seq ?_
    refine St.rg h [(12, .inr (0, sl off 8 cap)), (13, .inl (.int .i64 (((7 - k) : Nat) : Int))), (14, .inl (.int .u64 (((wF v0 k) : Nat) : Int))), (15, .inl (.int .u8 ((((wF v0 k) % 256) : Nat) : Int))), (16, .inr (0, pt (off + (7 - k))))] [] [(0, ab N (updN (ptF F off v0 k) (off + (7 - k)) ((wF v0 k) % 256)))] [nn, nn, nn, nn, nn, eS 0] ?_ ?_
    · exact oc (k_mp 0 (sl off 8 cap) (.inl rfl) rfl) <|
      oc (k_mv (.inl rfl) rfl) <|
      oc (k_mv (.inl rfl) rfl) <|
      oc (k_co (.int .u64 (((wF v0 k) : Nat) : Int)) (.int .u8 ((((wF v0 k) % 256) : Nat) : Int)) (cv_w8 (n := (wF v0 k))) rfl rfl) <|
      oc (k_ib 0 ((off + (7 - k))) (sl off 8 cap) (.int .i64 (((7 - k) : Nat) : Int)) (ix_pc (i := (7 - k)) (by omega)) rfl rfl) <|
      oc (k_st 0 ((off + (7 - k))) (.int .u8 ((((wF v0 k) % 256) : Nat) : Int)) (c := ab N (ptF F off v0 k)) (n := ab N (updN (ptF F off v0 k) (off + (7 - k)) ((wF v0 k) % 256))) (st_ab (N := N) (F := (ptF F off v0 k)) (i := (off + (7 - k))) (v := ((wF v0 k) % 256)) (t0 := t0) (by omega)) rfl rfl) <|
      ok_nil
    clear h; intro β a w h
    refine sym_then ?_
    refine St.r0 h [(17, .inl (.int .u64 (((wF v0 k) : Nat) : Int))), (18, .inl (.int .u64 ((((wF v0 k) / 2 ^ 8) : Nat) : Int))), (1, .inl (.int .u64 ((((wF v0 k) / 2 ^ 8) : Nat) : Int)))] [eO] ?_ ?_
    · exact oc (k_m0 rfl rfl) <|
      oz (k_bi (.int .u64 (((wF v0 k) : Nat) : Int)) (.int .u64 ((8 : Nat) : Int)) (.int .u64 ((((wF v0 k) / 2 ^ 8) : Nat) : Int)) (sr_8 (m := (wF v0 k))) rfl rfl) <|
      oz (k_mv (.inr rfl) rfl) <|
      ok_nil
    clear h; intro β a w h
    refine blk_norm ?_
    refine sym_then ?_
    refine St.r0 h [(10, .inl (.int .i64 (((7 - k) : Nat) : Int))), (11, .inl (.int .i64 (dnw (k + 1)))), (4, .inl (.int .i64 (dnw (k + 1))))] [eO] ?_ ?_
    · exact oc (k_m0 rfl rfl) <|
      oz (k_bi (.int .i64 (((7 - k) : Nat) : Int)) (.int .i64 ((1 : Nat) : Int)) (.int .i64 (dnw (k + 1))) (sb_w (k := k) hltk) rfl rfl) <|
      oz (k_mv (.inr rfl) rfl) <|
      ok_nil
    clear h; intro β a w h
    replace h := St.sm h 0 (ab N (ptF F off v0 (k + 1))) (c := ab N (updN (ptF F off v0 k) (off + (7 - k)) ((wF v0 k) % 256))) (t := t0) rfl
    replace h := St.ss h 1 (.int .u64 (((wF v0 (k + 1)) : Nat) : Int)) (v := .int .u64 ((((wF v0 k) / 2 ^ 8) : Nat) : Int)) rfl
    obtain ⟨x, h⟩ := St.jn (n := 19) h [0, 1, 4, 5, 6, 7] [.inr (0, sl off 8 cap), .inl (.int .u64 (((wF v0 (k + 1)) : Nat) : Int)), .inl (.int .i64 (dnw (k + 1))), .inr (0, sl off 8 cap), .inl (.int .i64 ((8 : Nat) : Int)), .inl (.int .i64 ((7 : Nat) : Int))] [(ab N (ptF F off v0 (k + 1)), t0)] (by kernel_rfl) (by kernel_rfl) (by kernel_rfl)
    exact ⟨hltk, x, _, h⟩
  · obtain rfl : 8 = k := by omega
    refine sym_seq ?_
    refine sym_seq ?_
    refine St.r0 h [(8, .inl (.int .i64 (dnw 8))), (9, .inl (.bool false))] [] ?_ ?_
    · exact oz (k_mv (.inl rfl) rfl) <|
      oz (k_bi (.int .i64 (dnw 8)) (.int .i64 ((0 : Nat) : Int)) (.bool false) (ge_i (m := dnw 8) (n := ((0 : Nat) : Int)) (decide_eq_false (by unfold dnw; omega))) rfl rfl) <|
      ok_nil
    clear h; intro β a w h
    refine sym_then ?_
    refine s_cf h ?_
    refine wp_exit ?_
    refine then_exit ?_
    refine then_exit ?_
    refine blk_exit ?_
    exact s_re h Tryd.results91 (fun hb => ⟨rfl, hb⟩)
end Go.Proofs.YtgnmnoadfjdjdaaDoor

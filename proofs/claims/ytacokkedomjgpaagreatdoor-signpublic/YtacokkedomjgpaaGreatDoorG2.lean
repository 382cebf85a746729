/- X5, W3, X6, Q1, N0, SG1, SG4, Sum5, N1, N2, Sum1, N3, Sum2: laid together. -/
import Derived.LoopN
import Derived.WalkKit
import Derived.ChangeKeysEq
import Derived.Deep.OwnRows
import Derived.Laws.CopyOwn
import Derived.Laws.Bits64b
import Derived.Laws.BitsAllLaws
import Derived.Laws.CopyRow
import Derived.Maps.AppendAt
import Derived.OwnWalk
import Derived.Deep.RegionLaw
import Derived.Deep.Cut
import Derived.Deep.CutRange
import Derived.Deep.RegionWith
import Derived.Deep.QuietTactic
import Derived.BigQuiet
import Derived.BigRegion
import Derived.Deep.MidRow
import Derived.Test.YtacokkedomjgpaaGreatDoorG1
import Derived.Test.YtacokkedomjgpaaGreatDoorRows
namespace Go.Proofs.YtacokkedomjgpaaGreatDoor
open Go.RowKit

section
variable {P : Program} {a : Act} {w : World} {Q : Exit → Act → World → Prop}
theorem loop_up {c : Code} (n : Nat) (J : Nat → Act → World → Prop) (h0 : J 0 a w) (round : ∀ k a w, k ≤ n → J k a w → c.wp P (Exit.then (fun a' w' => k < n ∧ J (k + 1) a' w') Q) a w) : (Code.loop c).wp P Q a w := by
  refine wp_loop_rounds (n + 1) ?_
  have key : ∀ d k a w, k + d = n → J k a w → Code.rounds P c Q (d + 1) a w := by
    intro d
    induction d with
    | zero =>
      intro k a w hk hJ
      rw [rounds_succ]
      refine wp_mono (round k a w (by omega) hJ) ?_
      intro e a' w' he
      cases e <;> simp only [Exit.then] at he ⊢
      case normal => exact absurd he.1 (by omega)
      all_goals exact he
    | succ d ih =>
      intro k a w hk hJ
      rw [rounds_succ]
      refine wp_mono (round k a w (by omega) hJ) ?_
      intro e a' w' he
      cases e <;> simp only [Exit.then] at he ⊢
      case normal => exact ih (k + 1) a' w' (by omega) he.2
      all_goals exact he
  exact key n 0 a w (by omega) h0
theorem blk_in {id : Nat} {c : Code} (h : c.wp P (Exit.inBlock id Q) a w) : (Code.block id c).wp P Q a w := wp_block h
theorem blk_exit {id : Nat} (h : Q .normal a w) : Exit.inBlock id Q (.exit id) a w := by simp only [Exit.inBlock, if_true]; exact h
theorem blk_norm {id : Nat} (h : Q .normal a w) : Exit.inBlock id Q .normal a w := h
theorem blk_ret {id : Nat} (h : Q .ret a w) : Exit.inBlock id Q .ret a w := h
theorem then_norm {K : Act → World → Prop} (h : K a w) : Exit.then K Q .normal a w := h
theorem then_exit {K : Act → World → Prop} {id : Nat} (h : Q (.exit id) a w) : Exit.then K Q (.exit id) a w := h
end

def ai (n : Nat) (F : Nat → Nat) : Array Value := arr n fun i => .int .i64 (F i : Nat)
def updN (F : Nat → Nat) (i v : Nat) : Nat → Nat := fun j => if j = i then v else F j
theorem ai_size (n : Nat) (F : Nat → Nat) : (ai n F).size = n := arr_size _ _
theorem ai_congr {n : Nat} {F G : Nat → Nat} (h : ∀ i, i < n → F i = G i) : ai n F = ai n G := arr_congr fun i hi => by rw [h i hi]
theorem ai_set (n : Nat) (F : Nat → Nat) (i v : Nat) : (ai n F).setIfInBounds i (.int .i64 (v : Nat)) = ai n (updN F i v) := by
  unfold ai
  rw [arr_set]
  refine arr_congr fun j _ => ?_
  unfold upd updN
  by_cases h : j = i <;> simp [h]

section
variable {w : World} {x u : Operand}
theorem wrapI (n : Int) (h1 : -9223372036854775808 ≤ n) (h2 : n < 9223372036854775808) : IntKind.i64.wrap n = n := by rw [IntKind.wrap_i64]; omega
theorem ad_i {m n : Nat} (h : m + n < 9223372036854775808) (w : World) : (do eqGuard .add 3 x u (.int .i64 (m : Nat)) (.int .i64 (n : Nat)); binOp .add 3 (.int .i64 (m : Nat)) (.int .i64 (n : Nat))).run Tryz.prog w = .ok (.int .i64 (m + n : Nat)) w := by
  have h1 : IntKind.i64.wrap ((m : Int) + (n : Int)) = ((m + n : Nat) : Int) := by rw [wrapI _ (by omega) (by omega)]; omega
  simp [eqGuard, binOp, go_sem, h1]
theorem mu_i {m n : Nat} (h : m * n < 9223372036854775808) (w : World) : (do eqGuard .mul 3 x u (.int .i64 (m : Nat)) (.int .i64 (n : Nat)); binOp .mul 3 (.int .i64 (m : Nat)) (.int .i64 (n : Nat))).run Tryz.prog w = .ok (.int .i64 (m * n : Nat)) w := by
  have h1 : IntKind.i64.wrap ((m : Int) * (n : Int)) = ((m * n : Nat) : Int) := by
    rw [← Int.natCast_mul, wrapI _ (by omega) (by omega)]
  simp [eqGuard, binOp, go_sem, h1]
theorem qu_i {m n : Nat} (hn : 0 < n) (hm : m < 9223372036854775808) (w : World) : (do eqGuard .quo 3 x u (.int .i64 (m : Nat)) (.int .i64 (n : Nat)); binOp .quo 3 (.int .i64 (m : Nat)) (.int .i64 (n : Nat))).run Tryz.prog w = .ok (.int .i64 (m / n : Nat)) w := by
  have h0 : ¬ n = 0 := by omega
  have h2 : m / n < 9223372036854775808 := Nat.lt_of_le_of_lt (Nat.div_le_self _ _) hm
  have h3 : ((m / n : Nat) : Int) = (m : Int) / (n : Int) := Int.natCast_ediv m n
  have h1 : IntKind.i64.wrap ((m : Int) / (n : Int)) = (m : Int) / (n : Int) := by
    rw [← h3]
    generalize m / n = d at h2
    exact wrapI _ (by omega) (by omega)
  simp [eqGuard, binOp, go_sem, h1, h0]
theorem re_i {m n : Nat} (hn : 0 < n) (w : World) : (do eqGuard .rem 3 x u (.int .i64 (m : Nat)) (.int .i64 (n : Nat)); binOp .rem 3 (.int .i64 (m : Nat)) (.int .i64 (n : Nat))).run Tryz.prog w = .ok (.int .i64 (m % n : Nat)) w := by
  have h0 : ¬ n = 0 := by omega
  have h1 : (m : Int).tmod (n : Int) = (m : Int) % (n : Int) := Int.tmod_eq_emod_of_nonneg (by omega)
  simp [eqGuard, binOp, go_sem, h1, h0]
theorem sb_z {m n : Int} (h1 : -9223372036854775808 ≤ m - n) (h2 : m - n < 9223372036854775808) (w : World) : (do eqGuard .sub 3 x u (.int .i64 m) (.int .i64 n); binOp .sub 3 (.int .i64 m) (.int .i64 n)).run Tryz.prog w = .ok (.int .i64 (m - n)) w := by
  have h3 := wrapI (m - n) h1 h2
  simp [eqGuard, binOp, go_sem, h3]
theorem sb_zn {m n : Int} {k : Nat} (h : m - n = (k : Int)) (hk : k < 9223372036854775808) (w : World) : (do eqGuard .sub 3 x u (.int .i64 m) (.int .i64 n); binOp .sub 3 (.int .i64 m) (.int .i64 n)).run Tryz.prog w = .ok (.int .i64 (k : Int)) w := by
  have := sb_z (x := x) (u := u) (m := m) (n := n) (by omega) (by omega) w
  rwa [h] at this
theorem ad_zn {m n : Int} {k : Nat} (h : m + n = (k : Int)) (hk : k < 9223372036854775808) (w : World) : (do eqGuard .add 3 x u (.int .i64 m) (.int .i64 n); binOp .add 3 (.int .i64 m) (.int .i64 n)).run Tryz.prog w = .ok (.int .i64 (k : Int)) w := by
  have h3 : IntKind.i64.wrap (m + n) = (k : Int) := by rw [wrapI _ (by omega) (by omega)]; exact h
  simp [eqGuard, binOp, go_sem, h3]
theorem lt_i {m n : Int} {b : Bool} (h : decide (m < n) = b) (w : World) : (do eqGuard .lss 3 x u (.int .i64 m) (.int .i64 n); binOp .lss 3 (.int .i64 m) (.int .i64 n)).run Tryz.prog w = .ok (.bool b) w := by
  subst h; simp [eqGuard, binOp, go_sem]
theorem ge_i {m n : Int} {b : Bool} (h : decide (n ≤ m) = b) (w : World) : (do eqGuard .geq 3 x u (.int .i64 m) (.int .i64 n); binOp .geq 3 (.int .i64 m) (.int .i64 n)).run Tryz.prog w = .ok (.bool b) w := by
  subst h; simp [eqGuard, binOp, go_sem]
theorem ne_i {m n : Int} {b : Bool} (h : decide (¬ m = n) = b) (w : World) : (do eqGuard .neq 3 x u (.int .i64 m) (.int .i64 n); binOp .neq 3 (.int .i64 m) (.int .i64 n)).run Tryz.prog w = .ok (.bool b) w := by
  subst h; simp [eqGuard, binOp, go_sem]; rfl
theorem eq_i {m n : Int} {b : Bool} (h : decide (m = n) = b) (w : World) : (do eqGuard .eql 3 x u (.int .i64 m) (.int .i64 n); binOp .eql 3 (.int .i64 m) (.int .i64 n)).run Tryz.prog w = .ok (.bool b) w := by
  subst h; simp [eqGuard, binOp, go_sem]; rfl
end

theorem ix22 {i : Nat} (hi : i < 22) (w : World) (q : Nat) : (Instr.indexAt 36 (.pointer (some ⟨q, 0, none⟩)) (.int .i64 (i : Nat))).run Tryz.prog w = .ok (.pointer (some ⟨q, i, none⟩)) w := by
  simp [Instr.indexAt, go_sem, hi, addr_add]
theorem ix44 {i : Nat} (hi : i < 44) (w : World) (q : Nat) : (Instr.indexAt 106 (.pointer (some ⟨q, 0, none⟩)) (.int .i64 (i : Nat))).run Tryz.prog w = .ok (.pointer (some ⟨q, i, none⟩)) w := by
  simp [Instr.indexAt, go_sem, hi, addr_add]
theorem ixK {i : Nat} (hi : i < 32) (w : World) (q : Nat) : (Instr.indexAt 23 (.pointer (some ⟨q, 0, none⟩)) (.int .i64 (i : Nat))).run Tryz.prog w = .ok (.pointer (some ⟨q, i, none⟩)) w := by
  simp [Instr.indexAt, go_sem, hi, addr_add]
theorem ld_at {t0 : TypeId} {n i : Nat} {F : Nat → Nat} (hi : i < n) (w : World) (q : Nat) (h : w.heap[q]? = some (.cells (ai n F) t0 (0, 0))) : (Instr.loadAt 3 (.pointer (some ⟨q, i, none⟩))).run Tryz.prog w = .ok (.int .i64 (F i : Nat)) w := by
  have h1 : w.cell? ⟨q, i, none⟩ = some (.int .i64 (F i : Nat)) := by
    rw [cell_of_row _ _ _ _ _ _ h]; exact arr_get _ _ _ hi
  simp [Instr.loadAt, Instr.sureAddr, go_sem, h1]
theorem wext : ∀ a c : World, a.heap = c.heap → a.tape = c.tape → a.drawn = c.drawn → a.os = c.os → a.output = c.output → a = c := by
  rintro ⟨⟩ ⟨⟩ h1 h2 h3 h4 h5
  simp_all
theorem set_row {w : World} {q i : Nat} {c : Array Value} {t0 : TypeId} {fr : Nat × Nat} {v : Value} (h : w.heap[q]? = some (.cells c t0 fr)) : w.setCell ⟨q, i, none⟩ v = w.setRow q (c.setIfInBounds i v) := by
  refine wext _ _ ?_ rfl rfl rfl rfl
  apply Array.ext_getElem?
  intro k
  by_cases e : k = q
  · subst e
    rw [setRow_heap _ _ _ _ _ _ h]
    simp [World.setCell, Array.getElem?_modify, h]
  · rw [setRow_other _ _ _ _ e]
    have e' : ¬ q = k := fun x => e x.symm
    simp [World.setCell, Array.getElem?_modify, e']
theorem st_at {t0 : TypeId} {n i v : Nat} {F : Nat → Nat} (hi : i < n) (w : World) (q : Nat) (h : w.heap[q]? = some (.cells (ai n F) t0 (0, 0))) : (Instr.storeAt 3 (.pointer (some ⟨q, i, none⟩)) (.int .i64 (v : Nat))).run Tryz.prog w = .ok () (w.setRow q (ai n (updN F i v))) := by
  have h1 : w.cell? ⟨q, i, none⟩ = some (.int .i64 (F i : Nat)) := by
    rw [cell_of_row _ _ _ _ _ _ h]; exact arr_get _ _ _ hi
  have h2 : w.setCell ⟨q, i, none⟩ (.int .i64 (v : Nat)) = w.setRow q (ai n (updN F i v)) := by rw [set_row h, ai_set]
  have h3 : w.frozen? ⟨q, i, none⟩ = false := by
    simp [World.frozen?, h]
  simp [Instr.storeAt, Instr.sureAddr, go_sem, h1, h2, h3]

theorem ld22 {F : Nat → Nat} (t0 : TypeId) (w : World) (q : Nat) (h : w.heap[q]? = some (.cells (ai 22 F) t0 (0, 0))) : (Instr.loadAt 36 (.pointer (some ⟨q, 0, none⟩))).run Tryz.prog w = .ok (.agg (ai 22 F)) w :=
  ld_row (c := ai 22 F) Tryz.underlying36 rfl (by rw [ai_size]; kernel_rfl) w q h
theorem ai_one (n : Nat) (F : Nat → Nat) : (ai n F).all (·.oneCell') = true := by
  rw [Array.all_eq_true_iff_forall_mem]
  intro v hv
  obtain ⟨i, hi⟩ := Array.getElem?_of_mem hv
  have hl : i < n := by have := (Array.getElem?_eq_some_iff.1 hi).1; rwa [ai_size] at this
  rw [ai, arr_get _ _ _ hl] at hi
  cases hi; rfl
theorem st22 {F : Nat → Nat} {c : Array Value} (t0 : TypeId) (hc : c.size = 22) (w : World) (q : Nat) (h : w.heap[q]? = some (.cells c t0 (0, 0))) : (Instr.storeAt 36 (.pointer (some ⟨q, 0, none⟩)) (.agg (ai 22 F))).run Tryz.prog w = .ok () (w.setRow q (ai 22 F)) :=
  st_row (n := ai 22 F) (by rw [ai_size]; kernel_rfl) (by rw [hc, ai_size]) (ai_one _ _) w q h
theorem bx22 {F : Nat → Nat} (w : World) : (Instr.box 36 (.agg (ai 22 F))).run Tryz.prog w = .ok (.pointer (some ⟨w.heap.size, 0, none⟩)) (w.alloc (.cells (ai 22 F) 36)) := bx_agg w
theorem bx44 {F : Nat → Nat} (w : World) : (Instr.box 106 (.agg (ai 44 F))).run Tryz.prog w = .ok (.pointer (some ⟨w.heap.size, 0, none⟩)) (w.alloc (.cells (ai 44 F) 106)) := bx_agg w
theorem ld44 {F : Nat → Nat} (t0 : TypeId) (w : World) (q : Nat) (h : w.heap[q]? = some (.cells (ai 44 F) t0 (0, 0))) : (Instr.loadAt 106 (.pointer (some ⟨q, 0, none⟩))).run Tryz.prog w = .ok (.agg (ai 44 F)) w :=
  ld_row (c := ai 44 F) Tryz.underlying106 rfl (by rw [ai_size]; kernel_rfl) w q h
theorem ai_zero (n : Nat) : ai n (fun _ => 0) = ⟨List.replicate n (.int .i64 0)⟩ := arr_rep (fun _ _ => rfl)
theorem al22 (w : World) : (Instr.alloc 36 true (.tuple #[])).run Tryz.prog w = .ok (.pointer (some ⟨w.heap.size, 0, none⟩)) (w.alloc (.cells (ai 22 fun _ => 0) 36)) := by
  rw [ai_zero]
  simp [Instr.alloc, go_sem]
theorem al44 (w : World) : (Instr.alloc 106 true (.tuple #[])).run Tryz.prog w = .ok (.pointer (some ⟨w.heap.size, 0, none⟩)) (w.alloc (.cells (ai 44 fun _ => 0) 106)) := by
  rw [ai_zero]
  simp [Instr.alloc, go_sem]
end Go.Proofs.YtacokkedomjgpaaGreatDoor

namespace Go.Proofs.YtacokkedomjgpaaGreatDoor
open Go.RowKit

theorem run_items {P : Program} (e : TypeId) (k k' : IntKind) (hag : ∀ w, (isAgg e).run P w = .ok false w) (he : P.underlying e = some (.int k')) (X Y : Array Value) (x y : Nat → Int) (d : Nat) (w : World) :
    ∀ is : List Nat, (∀ i ∈ is, X[i]? = some (.int k (x i))) → (∀ i ∈ is, Y[i]? = some (.int k (y i))) →
      (Op.eqItems (d + 1) e 1 X Y is).run P w = .ok (decide (∀ i ∈ is, x i = y i)) w := by
  intro is
  induction is with
  | nil => intro _ _; simp [Op.eqItems]
  | cons i is ih =>
    intro hx hy
    have h1 := hx i (by simp); have h2 := hy i (by simp)
    have ih' := ih (fun j hj => hx j (by simp [hj])) (fun j hj => hy j (by simp [hj]))
    simp only [Op.eqItems, part, Sem.run_bind, hag, Result.andThen_ok, Nat.mul_one, h1, h2, Bool.false_eq_true, if_false, Sem.run_pure, run_equalIn_int w d e k k' _ _ he]
    by_cases hxy : x i = y i
    · simp only [hxy, beq_self_eq_true, Bool.not_true, Bool.false_eq_true, if_false, ih']
      simp [hxy]
    · have : (x i == y i) = false := by simp [hxy]
      simp only [this, Bool.not_false, if_true, Sem.run_pure]
      simp [hxy]

theorem eq_ints {P : Program} {t e n : Nat} {k k' : IntKind} {inf : TypeInfo} (hu : P.underlying t = some (.array n e)) (hi : P.info? e = some inf) (hc : P.cellsOf e = 1) (he : P.underlying e = some (.int k')) (hag : ∀ w, (isAgg e).run P w = .ok false w)
    (X Y : Array Value) (x y : Nat → Int) (hx : ∀ i, i < n → X[i]? = some (.int k (x i))) (hy : ∀ i, i < n → Y[i]? = some (.int k (y i))) (w : World) :
    (Op.equalIn 10000 t (.agg X) (.agg Y)).run P w = .ok (decide (∀ i, i < n → x i = y i)) w := by
  have h := run_equalIn_array w 9999 X Y hu hi
  rw [show (10000 : Nat) = 9999 + 1 from rfl, h, hc, run_items e k k' hag he X Y x y 9998 w (List.range n) (fun i hi => hx i (by simpa using hi)) (fun i hi => hy i (by simpa using hi))]
  congr 1
  simp
end Go.Proofs.YtacokkedomjgpaaGreatDoor

namespace Go.Proofs.YtacokkedomjgpaaGreatDoor
open Go.RowKit

section
variable {x u : Operand}
theorem cv_iu {n : Nat} (h : n < 9223372036854775808) (w : World) : (convert 3 64 (.int .i64 (n : Nat))).run Tryz.prog w = .ok (.int .u64 (n : Nat)) w := by
  have h1 : IntKind.u64.wrap (n : Int) = (n : Int) := by rw [IntKind.wrap_u64]; omega
  simp [convert, go_sem, h1]
theorem cv_bi {n : Nat} (h : n < 256) (w : World) : (convert 5 3 (.int .u8 (n : Nat))).run Tryz.prog w = .ok (.int .i64 (n : Nat)) w := by
  have h1 := wrapI (n : Int) (by omega) (by omega)
  simp [convert, go_sem, h1]
theorem sr_b {m r : Nat} (hr : r < 8) (w : World) : (do eqGuard .shr 5 x u (.int .u8 (m : Nat)) (.int .u64 (r : Nat)); binOp .shr 5 (.int .u8 (m : Nat)) (.int .u64 (r : Nat))).run Tryz.prog w = .ok (.int .u8 (m / 2 ^ r : Nat)) w := by
  simp [eqGuard, binOp, go_sem]
theorem sr_i {m r : Nat} (hr : r < 64) (w : World) : (do eqGuard .shr 3 x u (.int .i64 (m : Nat)) (.int .u64 (r : Nat)); binOp .shr 3 (.int .i64 (m : Nat)) (.int .u64 (r : Nat))).run Tryz.prog w = .ok (.int .i64 (m / 2 ^ r : Nat)) w := by
  simp [eqGuard, binOp, go_sem]
theorem sl_b {r : Nat} (hr : r < 8) (w : World) : (do eqGuard .shl 5 x u (.int .u8 (1 : Nat)) (.int .u64 (r : Nat)); binOp .shl 5 (.int .u8 (1 : Nat)) (.int .u64 (r : Nat))).run Tryz.prog w = .ok (.int .u8 (2 ^ r : Nat)) w := by
  have h1 : IntKind.u8.wrap (2 ^ r) = 2 ^ r := by
    obtain rfl | rfl | rfl | rfl | rfl | rfl | rfl | rfl : r = 0 ∨ r = 1 ∨ r = 2 ∨ r = 3 ∨ r = 4 ∨ r = 5 ∨ r = 6 ∨ r = 7 := by omega
    all_goals rfl
  simp [eqGuard, binOp, go_sem, h1]
theorem ad_b {m n : Nat} (h : m + n < 256) (w : World) : (do eqGuard .add 5 x u (.int .u8 (m : Nat)) (.int .u8 (n : Nat)); binOp .add 5 (.int .u8 (m : Nat)) (.int .u8 (n : Nat))).run Tryz.prog w = .ok (.int .u8 (m + n : Nat)) w := by
  have h1 : IntKind.u8.wrap ((m : Int) + (n : Int)) = ((m + n : Nat) : Int) := by rw [IntKind.wrap_u8]; omega
  simp [eqGuard, binOp, go_sem, h1]
end
theorem ld_k {t0 : TypeId} {i : Nat} {F : Nat → Nat} (hi : i < 32) (w : World) (q : Nat) (h : w.heap[q]? = some (.cells (ck F) t0 (0, 0))) : (Instr.loadAt 5 (.pointer (some ⟨q, i, none⟩))).run Tryz.prog w = .ok (.int .u8 (F i : Nat)) w := by
  have h1 : w.cell? ⟨q, i, none⟩ = some (.int .u8 (F i : Nat)) := by
    rw [cell_of_row _ _ _ _ _ _ h]; exact arr_get _ _ _ hi
  simp [Instr.loadAt, Instr.sureAddr, go_sem, h1]
theorem ck_set (F : Nat → Nat) (i v : Nat) : (ck F).setIfInBounds i (.int .u8 (v : Nat)) = ck (updN F i v) := by
  unfold ck
  rw [arr_set]
  refine arr_congr fun j _ => ?_
  unfold upd updN
  by_cases h : j = i <;> simp [h]
theorem ck_congr {F G : Nat → Nat} (h : ∀ i, i < 32 → F i = G i) : ck F = ck G := arr_congr fun i hi => by rw [h i hi]
theorem st_k {t0 : TypeId} {i v : Nat} {F : Nat → Nat} (hi : i < 32) (w : World) (q : Nat) (h : w.heap[q]? = some (.cells (ck F) t0 (0, 0))) : (Instr.storeAt 5 (.pointer (some ⟨q, i, none⟩)) (.int .u8 (v : Nat))).run Tryz.prog w = .ok () (w.setRow q (ck (updN F i v))) := by
  have h1 : w.cell? ⟨q, i, none⟩ = some (.int .u8 (F i : Nat)) := by
    rw [cell_of_row _ _ _ _ _ _ h]; exact arr_get _ _ _ hi
  have h2 : w.setCell ⟨q, i, none⟩ (.int .u8 (v : Nat)) = w.setRow q (ck (updN F i v)) := by rw [set_row h, ck_set]
  have h3 : w.frozen? ⟨q, i, none⟩ = false := by
    simp [World.frozen?, h]
  simp [Instr.storeAt, Instr.sureAddr, go_sem, h1, h2, h3]
theorem ck_one (F : Nat → Nat) : (ck F).all (·.oneCell') = true := by
  rw [Array.all_eq_true_iff_forall_mem]
  intro v hv
  obtain ⟨i, hi⟩ := Array.getElem?_of_mem hv
  have hl : i < 32 := by have := (Array.getElem?_eq_some_iff.1 hi).1; rwa [ck_size] at this
  rw [ck, arr_get _ _ _ hl] at hi
  cases hi; rfl
theorem stK {F : Nat → Nat} {c : Array Value} (t0 : TypeId) (hc : c.size = 32) (w : World) (q : Nat) (h : w.heap[q]? = some (.cells c t0 (0, 0))) : (Instr.storeAt 23 (.pointer (some ⟨q, 0, none⟩)) (.agg (ck F))).run Tryz.prog w = .ok () (w.setRow q (ck F)) :=
  st_row (n := ck F) (by rw [ck_size]; kernel_rfl) (by rw [hc, ck_size]) (ck_one _) w q h
theorem ck_zero : ck (fun _ => 0) = ⟨List.replicate 32 (.int .u8 0)⟩ := arr_rep (fun _ _ => rfl)
theorem alK (w : World) : (Instr.alloc 23 true (.tuple #[])).run Tryz.prog w = .ok (.pointer (some ⟨w.heap.size, 0, none⟩)) (w.alloc (.cells (ck fun _ => 0) 23)) := by
  rw [ck_zero]
  simp [Instr.alloc, go_sem]
set_option maxRecDepth 100000 in
theorem eqK_t {x u : Operand} {F G : Nat → Nat} (h : ∀ i, i < 32 → F i = G i) (w : World) : (do eqGuard .eql 23 x u (.agg (ck F)) (.agg (ck G)); binOp .eql 23 (.agg (ck F)) (.agg (ck G))).run Tryz.prog w = .ok (.bool true) w := by
  have h1 := eq_ints (P := Tryz.prog) (t := 23) (e := 5) (n := 32) (k := .u8) (k' := .u8) Tryz.underlying23 (inf := _) rfl (by kernel_rfl) Tryz.underlying5 (fun _ => by kernel_rfl) (ck F) (ck G) (fun i => (F i : Int)) (fun i => (G i : Int)) (fun i hi => arr_get _ _ _ hi) (fun i hi => arr_get _ _ _ hi) w
  rw [decide_eq_true (fun i hi => by rw [h i hi])] at h1
  simp [eqGuard, binOp, go_sem, Op.equal, Op.maxDepth, h1]
end Go.Proofs.YtacokkedomjgpaaGreatDoor

namespace Go.Proofs.YtacokkedomjgpaaGreatDoor
open Go.RowKit

def Bs (w : World) (a : Option Addr) (len : Nat) (f : Nat → Nat) : Prop :=
  (∀ i, f i < 256) ∧ (0 < len → ∃ b off, a = some ⟨b, off, none⟩ ∧ ∀ i, i < len → w.cell? ⟨b, off + i, none⟩ = some (.int .u8 (f i : Nat)))
theorem cell_lt {w : World} {p : Addr} {v : Value} (h : w.cell? p = some v) : p.block < w.heap.size := by
  unfold World.cell? at h
  rcases Nat.lt_or_ge p.block w.heap.size with h1 | h1
  · exact h1
  · rw [Array.getElem?_eq_none h1] at h; cases h
theorem cell_later {w w' : World} {p : Addr} {v : Value} (hb : Below w.heap.size w w') (h : w.cell? p = some v) : w'.cell? p = some v := (hb.cell (cell_lt h)).trans h
theorem Bs.later {w w' : World} {a : Option Addr} {len : Nat} {f : Nat → Nat} (h : Bs w a len f) (hb : Below w.heap.size w w') : Bs w' a len f :=
  ⟨h.1, fun hl => by
    obtain ⟨b, off, e, hc⟩ := h.2 hl
    exact ⟨b, off, e, fun i hi => cell_later hb (hc i hi)⟩⟩
theorem bs_key {w : World} {q : Nat} {f : Nat → Nat} {t : TypeId} {fr : Nat × Nat} (hf : ∀ i, f i < 256) (h : w.heap[q]? = some (.cells (ck f) t fr)) : Bs w (some ⟨q, 0, none⟩) 32 f :=
  ⟨hf, fun _ => ⟨q, 0, rfl, fun i hi => by rw [Nat.zero_add, cell_of_row _ _ _ _ _ _ h]; exact arr_get _ _ _ hi⟩⟩

theorem info_u8 : (Tryz.prog.info? 5).map (fun i => (i.zero, i.size, i.bytes)) = some (some (.int .u8 0), 1, 1) := by kernel_rfl

def bvs (len : Nat) (f : Nat → Nat) : List Value := (List.range len).map fun i => .int .u8 (f i : Nat)
theorem bvs_len (len : Nat) (f : Nat → Nat) : (bvs len f).length = len := by simp [bvs]
theorem bvs_get {len i : Nat} (f : Nat → Nat) (h : i < len) : (bvs len f)[i]? = some (.int .u8 (f i : Nat)) := by simp [bvs, h]
theorem bvs_one (len : Nat) (f : Nat → Nat) : ∀ v ∈ bvs len f, v.oneCell' = true := by
  intro v hv
  simp only [bvs, List.mem_map] at hv
  obtain ⟨i, _, rfl⟩ := hv
  rfl

set_option maxRecDepth 100000 in
set_option maxHeartbeats 1000000 in
theorem figures_d (a : Option Addr) (len cap : Nat) (f : Nat → Nat) (w : World) (hb : Bs w a len f) (hm : len ≤ 1000) :
    Calls Tryz.prog 84 #[.slice a len cap] w fun e w' => ∃ p g, e = .returned (.func (.func 102) #[] #[.pointer (some ⟨p, 0, none⟩)]) ∧ w.heap.size ≤ p ∧ w.heap.size ≤ g ∧ w'.cell? ⟨p, 0, none⟩ = some (.slice (some ⟨g, 0, none⟩) len len) ∧
      (∃ c, w'.heap[g]? = some c ∧ c.isCells = true) ∧ (∀ i, i < len → w'.cell? ⟨g, i, none⟩ = some (.int .u8 (f i : Nat))) ∧ Below w.heap.size w w' := by
  obtain ⟨cur, hcur⟩ : ∃ cur : List Value, Hid (cur.toArray = madeCells #[.int .u8 0] len ∧ cur.length = len) := ⟨(madeCells #[.int .u8 0] len).toList, hide1 ⟨by simp, by simp [madeCells]⟩⟩
  obtain ⟨cs, hcs⟩ : ∃ cs, Hid (cs = bvs len f) := ⟨_, hide1 rfl⟩
  have hcl : cs.length = len := by rw [hcs.out, bvs_len]
  have hmk := run_make_row' (P := Tryz.prog) 31 5 (.int .u8 0) 1 Tryz.underlying31 info_u8 rfl .i64 .i64 len (by omega) (by omega) w
  rw [← hcur.out.1] at hmk
  obtain ⟨w1, hw1⟩ : ∃ w1, Hid (w1 = (w.alloc (.cells cur.toArray 5)).alloc (.cells #[.slice (some ⟨w.heap.size, 0, none⟩) len len] 31)) := ⟨_, hide1 rfl⟩
  have hg1 : w1.heap[w.heap.size]? = some (.cells cur.toArray 5 (0, 0)) := by rw [hw1.out]; exact (Below.heap_alloc _ _ _ (by simp)).trans (World.alloc_heap_new w _)
  have hbl : Below w.heap.size w w1 := by rw [hw1.out]; exact ((Below.refl _ w).alloc (Nat.le_refl _) _).alloc (by simp) _
  have hcp : (Builtin.copy_ #[31, 31] 3 #[.slice (some ⟨w.heap.size, 0, none⟩) len len, .slice a len cap]).run Tryz.prog w1 = .ok (.int .i64 (len : Int)) (w1.setRow w.heap.size cs.toArray) := by
    rcases Nat.eq_zero_or_pos len with h0 | h0
    · subst h0
      have h1 := run_copy_none (P := Tryz.prog) w1 31 31 3 5 (some ⟨w.heap.size, 0, none⟩) a 0 0 0 cap Tryz.underlying31 (by kernel_rfl) rfl
      obtain rfl : cs = [] := List.eq_nil_of_length_eq_zero hcl
      obtain rfl : cur = [] := List.eq_nil_of_length_eq_zero hcur.out.2
      rw [setRow_self _ _ _ _ _ hg1]
      exact h1
    · obtain ⟨b, off, rfl, hc⟩ := hb.2 h0
      have h1 := run_copy_row (P := Tryz.prog) w1 31 31 3 5 w.heap.size 0 len len ⟨b, off, none⟩ len cap cur.toArray 5 cs Tryz.underlying31 (by kernel_rfl) hg1 (by rw [hcl]; exact (Nat.min_self _).symm) (fun j v hj => by
        rw [hcs.out] at hj
        have hjl : j < len := by have := (List.getElem?_eq_some_iff.1 hj).1; rwa [bvs_len] at this
        rw [bvs_get f hjl] at hj
        cases hj
        have h1 := cell_later hbl (hc j hjl)
        simpa [Addr.add_lit] using h1) (by simp [hcl, hcur.out.2]) (by rw [hcs.out]; exact bvs_one _ _)
      have e1 : (cur.toArray.toList.take 0 ++ cs ++ cur.toArray.toList.drop (0 + cs.length)) = cs := by
        rw [List.take_zero, List.nil_append, Nat.zero_add, List.drop_eq_nil_of_le (by simp [hcur.out.2, hcl]), List.append_nil]
      rw [e1, hcl] at h1
      exact h1
  rw [hw1.out] at hcp
  go_enter Tryz.func84, Tryz.ntmps84
  go_wp2
  go_ret
  rw [← hw1.out]
  have hg3 : (w1.setRow w.heap.size cs.toArray).heap[w.heap.size]? = some (.cells cs.toArray 5 (0, 0)) := setRow_heap _ _ _ _ _ _ hg1
  refine ⟨w.heap.size + 1, w.heap.size, rfl, by omega, Nat.le_refl _, ?_, ⟨_, hg3, rfl⟩, fun i hi => ?_, below_setRow hbl (Nat.le_refl _) _⟩
  · rw [World.cell?_of_block (setRow_other w1 w.heap.size (w.heap.size + 1) cs.toArray (by simp)), hw1.out]
    simp
  · rw [cell_of_row _ _ _ _ _ _ hg3, hcs.out]
    simpa using bvs_get f hi
end Go.Proofs.YtacokkedomjgpaaGreatDoor

namespace Go.Proofs.YtacokkedomjgpaaGreatDoor
open Go.RowKit Go.Maps

section
variable {P : Program} {W0 : World} {s : List SV} {m : List Blk} {β : Nat → Nat} {a : Act} {w : World} {q : Nat}
theorem s_ip {f : FuncId} {fn : Func} {c : Code} {args : Array Value} {R : Ending → World → Prop} {n : Nat} {cc : Array Value} {t0 : TypeId} (hf : P.funcs[f]? = some fn) (hn : fn.ntmps = n) (hb : fn.body = some c) (hq : W0.heap[q]? = some (.cells cc t0 (0, 0))) (s : List SV) (h : ∀ β a, St (wdx W0 q) (ov (s ++ List.replicate (n - s.length) uu) []) [(cc, t0)] β a W0 → c.wp P (bodyPost P fn R) a W0)
    (hs : (args ++ Array.replicate (n - args.size) undef) = ((s ++ List.replicate (n - s.length) uu).map (den fun _ => q)).toArray := by kernel_rfl) (hl : liveB (s ++ List.replicate (n - s.length) uu) 1 = true := by kernel_rfl) : Calls P f args W0 R := by
  refine calls_of_wp hf hb ?_
  rw [hn, hs]
  refine h (fun _ => q) _ (St.o0 ⟨rfl, ⟨rfl, rfl, rfl, Nat.le_refl _, fun _ _ => rfl⟩, fun b c hc => ?_, fun b _ hS => hS.2 rfl, fun b c hb hc _ => ?_, live_of hl, fun b r hb => ?_⟩)
  · match b, hc with
    | 0, hc => cases hc; exact hq
    | b + 1, hc => simp at hc
  · simp at hb hc; omega
  · match b, hb with
    | 0, hb => cases hb; exact ⟨by simp, rfl⟩
    | b + 1, hb => cases hb
theorem St.wrote {cc : Array Value} {t0 : TypeId} {r : List Blk} (h : St (wdx W0 q) s ((cc, t0) :: r) β a w) : Wrt W0 w q cc t0 := by
  have hq := (h.pin 0 q rfl).2
  exact ⟨h.bel.os, h.bel.tape, h.bel.output, h.bel.size, fun k hk hne => h.bel.block k ⟨hk, hne⟩, by rw [← hq]; exact h.row 0 _ rfl⟩
theorem wrt_same {w w' : World} {g : Nat} {c : Array Value} {t : TypeId} (h : Wrt w w' g c t) (hg : w.heap[g]? = some (.cells c t (0, 0))) : Below w.heap.size w w' :=
  ⟨h.os, h.tape, h.output, h.size, fun k hk => by
    by_cases e : k = g
    · subst e; rw [h.row, hg]
    · exact h.block k hk e⟩
theorem s_rq {fn : Func} {R : Ending → World → Prop} {t : Tmp} {v : Value} {cc : Array Value} {t0 : TypeId} {r : List Blk} (h : St (wdx W0 q) s ((cc, t0) :: r) β a w) (hq : W0.heap[q]? = some (.cells cc t0 (0, 0))) (hr : fn.results = #[.tmp t]) (hR : Below W0.heap.size W0 w → R (.returned v) w) (ht : Nat.blt t s.length = true := by kernel_rfl) (hs : slot s t = .inl v := by kernel_rfl) : bodyPost P fn R .ret a w := by
  have hb := wrt_same h.wrote hq
  have h1 := h.eval ht hs
  refine bodyPost_ret (v := v) ?_ ?_ (hR hb)
  · simp only [results, hr]
    have h2 : a.tmps[t]?.getD undef = v := by
      have := h1; simp only [Act.eval] at this
      rw [← this, h.tm]; simp [Array.getD_eq_getD_getElem?]
    simp [h2]
  · rw [h.tm]
end
section
variable {P : Program} {W0 : World} {s : List SV} {m : List Blk} {β : Nat → Nat} {a : Act} {w : World} {q : Nat}
theorem s_rqc {fn : Func} {R : Ending → World → Prop} {t b : Nat} {ty t0 t1 : TypeId} {cc c1 : Array Value} {d : TypeDesc} {r : List Blk} (h : St (wdx W0 q) s ((cc, t0) :: r) β a w) (hq : W0.heap[q]? = some (.cells cc t0 (0, 0))) (hr : fn.results = #[.cell t ty]) (hu : P.underlying ty = some d) (hR : Below W0.heap.size W0 w → R (.returned (.agg c1)) w) (hi : (P.info? ty).map (·.size) = some c1.size := by kernel_rfl)
    (ht : Nat.blt t s.length = true := by kernel_rfl) (hs : slot s t = .inr (b, pt 0) := by kernel_rfl) (hm : ((cc, t0) :: r)[b]? = some (c1, t1) := by kernel_rfl) (hd : (match d with | .struct _ | .array _ _ => true | _ => false) = true := by rfl) : bodyPost P fn R .ret a w := by
  have hb := wrt_same h.wrote hq
  have ht := Nat.le_of_ble_eq_true ht
  have h1 := h.row b _ hm
  have hl := run_loadVar_row (P := P) w (β b) t1 ty c1 (0, 0) _ h1 hu hd hi
  refine bodyPost_ret (v := .agg c1) ?_ ?_ (hR hb)
  · have h2 : a.tmps[t]?.getD undef = .pointer (some ⟨β b, 0, none⟩) := by
      rw [h.tm]
      unfold slot at hs
      have ht' : t < s.length := ht
      simp [ht'] at hs ⊢
      rw [hs]; rfl
    simp only [results, hr]
    simp [h2, asAddr, hl]
  · rw [h.tm]
theorem s_rn {fn : Func} {R : Ending → World → Prop} {cc : Array Value} {t0 : TypeId} {r : List Blk} (h : St (wdx W0 q) s ((cc, t0) :: r) β a w) (hr : fn.results = #[]) (hR : Wrt W0 w q cc t0 → R (.returned (.tuple #[])) w) : bodyPost P fn R .ret a w := by
  refine bodyPost_ret (v := .tuple #[]) ?_ ?_ (hR h.wrote)
  · simp [results, hr]
  · rw [h.tm]
theorem s_re {fn : Func} {R : Ending → World → Prop} {cc : Array Value} {t0 : TypeId} {r : List Blk} (h : St (wdx W0 q) s ((cc, t0) :: r) β a w) (hr : fn.results = #[]) (hR : Wrt W0 w q cc t0 → R (.returned (.tuple #[])) w) : bodyPost P fn R .normal a w :=
  show bodyPost P fn R .ret a w from s_rn h hr hR
end
theorem w64 (z : Int) : IntKind.u64.wrap z = z % 18446744073709551616 := by simp [IntKind.wrap, IntKind.bits, IntKind.signed]
def B64 : Nat := 18446744073709551616
theorem B64_i : ((B64 : Nat) : Int) = 18446744073709551616 := rfl
def i3 (a b c : Nat) : Array Value := #[.int .i64 (a : Nat), .int .i64 (b : Nat), .int .i64 (c : Nat)]
theorem bx3 {a b c : Nat} (w : World) : (Instr.box 90 (.agg (i3 a b c))).run Tryz.prog w = .ok (.pointer (some ⟨w.heap.size, 0, none⟩)) (w.alloc (.cells (i3 a b c) 90)) := bx_agg w
theorem ld3 {a b c i v : Nat} (t0 : TypeId) (hi : (i3 a b c)[i]? = some (.int .i64 (v : Nat))) (w : World) (q : Nat) (h : w.heap[q]? = some (.cells (i3 a b c) t0 (0, 0))) : (Instr.loadAt 3 (.pointer (some ⟨q, i, none⟩))).run Tryz.prog w = .ok (.int .i64 (v : Nat)) w := by
  have h1 : w.cell? ⟨q, i, none⟩ = some (.int .i64 (v : Nat)) := by rw [cell_of_row _ _ _ _ _ _ h]; exact hi
  simp [Instr.loadAt, Instr.sureAddr, go_sem, h1]
theorem ix3 {i : Nat} (hi : i < 3) (w : World) (q : Nat) : (Instr.indexAt 90 (.pointer (some ⟨q, 0, none⟩)) (.int .i64 (i : Nat))).run Tryz.prog w = .ok (.pointer (some ⟨q, i, none⟩)) w := by
  simp [Instr.indexAt, go_sem, hi, addr_add]
def au (n : Nat) (F : Nat → Nat) : Array Value := arr n fun i => .int .u64 (F i : Nat)
theorem au_size (n : Nat) (F : Nat → Nat) : (au n F).size = n := arr_size _ _
theorem au_set (n : Nat) (F : Nat → Nat) (i v : Nat) : (au n F).setIfInBounds i (.int .u64 (v : Nat)) = au n (updN F i v) := by
  unfold au
  rw [arr_set]
  refine arr_congr fun j _ => ?_
  unfold upd updN
  split <;> rfl
theorem au_one (n : Nat) (F : Nat → Nat) : (au n F).all (·.oneCell') = true := arr_one
theorem ld_au {t0 : TypeId} {n i : Nat} {F : Nat → Nat} (hi : i < n) (w : World) (q : Nat) (h : w.heap[q]? = some (.cells (au n F) t0 (0, 0))) : (Instr.loadAt 42 (.pointer (some ⟨q, i, none⟩))).run Tryz.prog w = .ok (.int .u64 (F i : Nat)) w := by
  have h1 : w.cell? ⟨q, i, none⟩ = some (.int .u64 (F i : Nat)) := by
    rw [cell_of_row _ _ _ _ _ _ h]; exact arr_get _ _ _ hi
  simp [Instr.loadAt, Instr.sureAddr, go_sem, h1]
theorem st_cell {t0 : TypeId} {c c' : Array Value} {i v : Nat} {x : Value} (hi : c[i]? = some x) (hc : c.setIfInBounds i (.int .u64 (v : Nat)) = c') (w : World) (q : Nat) (h : w.heap[q]? = some (.cells c t0 (0, 0))) : (Instr.storeAt 42 (.pointer (some ⟨q, i, none⟩)) (.int .u64 (v : Nat))).run Tryz.prog w = .ok () (w.setRow q c') := by
  have h1 : w.cell? ⟨q, i, none⟩ = some x := by rw [cell_of_row _ _ _ _ _ _ h]; exact hi
  have h2 : w.setCell ⟨q, i, none⟩ (.int .u64 (v : Nat)) = w.setRow q c' := by rw [set_row h, hc]
  have h3 : w.frozen? ⟨q, i, none⟩ = false := by
    simp [World.frozen?, h]
  simp [Instr.storeAt, Instr.sureAddr, go_sem, h1, h2, h3]
theorem st_au {t0 : TypeId} {n i v : Nat} {F : Nat → Nat} (hi : i < n) (w : World) (q : Nat) (h : w.heap[q]? = some (.cells (au n F) t0 (0, 0))) : (Instr.storeAt 42 (.pointer (some ⟨q, i, none⟩)) (.int .u64 (v : Nat))).run Tryz.prog w = .ok () (w.setRow q (au n (updN F i v))) :=
  st_cell (arr_get _ _ _ hi) (au_set _ _ _ _) w q h
theorem alPl (w : World) : (Instr.alloc 92 true (.tuple #[])).run Tryz.prog w = .ok (.pointer (some ⟨w.heap.size, 0, none⟩)) (w.alloc (.cells (ai 14 fun _ => 0) 92)) := by
  rw [ai_zero]
  simp [Instr.alloc, go_sem]
section
variable {P : Program} {W : Wd} {ops : Array Oper} {s0 s1 : List SV} {z : List Blk} {y : List (Array Value)} {o : Oper}
theorem k_s2 {t : TypeId} {p d : Nat} {x u : Operand} (b off : Nat) (fm : Fm) (x1 u1 : Value) (ho : o.op = .slice t (.tmp p) (some x) (some u) none) (hd : o.dst = some d) (hf : ∀ (w : World) (q : Nat), (Instr.sliceAt t (.pointer (some ⟨q, off, none⟩)) (some x1) (some u1) none).run P w = .ok (fv fm q) w)
    (hw : wantF ops s1 o = true := by kernel_rfl) (hpx : plainB s1 x = true := by kernel_rfl) (hx1 : evS s1 x = x1 := by kernel_rfl) (hpu : plainB s1 u = true := by kernel_rfl) (hu1 : evS s1 u = u1 := by kernel_rfl) (hp : slot s1 p = .inr (b, pt off) := by kernel_rfl) (hs : slot s1 d = .inr (b, fm) := by kernel_rfl) : Ok1 P W ops s0 s1 z y o ⟨none, none, none, false⟩ := by
  have hm : p ∈ tmpsOf o := mem_tmps (by rw [ho]; simp [Op.operands])
  refine Or.inl ⟨hw, ⟨?_, fun b h => by simp at h, fun b _ h => by simp at h, ?_⟩⟩
  · rintro b' (h | h | ⟨_, d', off', h1, h2⟩)
    · simp at h
    · simp at h
    · rw [hd] at h1; cases h1; rw [hs] at h2; cases h2; exact ⟨p, hm, _, hp⟩
  · intro β a w ha hb hr hns K Q hK
    have h3 : a.eval (.tmp p) = .pointer (some ⟨β b, off, none⟩) := by rw [ha p hm, hp]; rfl
    have h1 : a.eval x = x1 := by rw [← hx1]; exact ev_plain ha (by rw [ho]; simp [Op.operands]) hpx
    have h2 : a.eval u = u1 := by rw [← hu1]; exact ev_plain ha (by rw [ho]; simp [Op.operands]) hpu
    unfold Oper.wp
    simp only [execOp, ho, h3, h1, h2, Option.map_none, Option.map_some, Sem.run_bind, hf w (β b), Result.andThen_ok, Sem.run_pure, Oper.upon_value]
    exact hK _ _ ⟨fun d' h => by rw [hd] at h; cases h; rw [hs]; rfl, Below.refl _ _⟩
theorem k_lb {p : Nat} {tys : Array TypeId} {d : Tmp} (b off n c : Nat) (ho : o.op = .call { callee := .builtin .len, args := #[.tmp p], argTypes := tys }) (hd : o.dst = some d) (hr : ∀ (w : World) (ad : Option Addr), (Builtin.len_ tys o.type #[.slice ad n c]).run P w = .ok (.int .i64 (n : Nat)) w)
    (hw : wantF ops s1 o = true := by kernel_rfl) (hp : slot s1 p = .inr (b, sl off n c) := by kernel_rfl) (hs : slot s1 d = .inl (.int .i64 (n : Nat)) := by kernel_rfl) : Ok1 P W ops s0 s1 z y o ⟨none, none, none, false⟩ := by
  have hm : p ∈ tmpsOf o := mem_tmps (by rw [ho]; simp [Op.operands, Call.operands])
  refine ok_val hw hd hs (fun β a w ha => ?_)
  have h1 : a.eval (.tmp p) = .slice (some ⟨β b, off, none⟩) n c := by rw [ha p hm, hp]; rfl
  simp [execOp, ho, resolve, invoke, builtin, h1, hr]
end
theorem len_b {ad : Option Addr} {n c : Nat} (ty : TypeId) (w : World) : (Builtin.len_ #[31] ty #[.slice ad n c]).run Tryz.prog w = .ok (.int .i64 (n : Nat)) w := by
  simp [Builtin.len_, go_sem]
theorem sl_pc {lo hi n c : Nat} (h1 : lo + n = hi) (h2 : lo + c = 128) (h3 : hi ≤ 128) (h0 : 0 < n) (w : World) (q : Nat) : (Instr.sliceAt 94 (.pointer (some ⟨q, 22, none⟩)) (some (.int .i64 (lo : Nat))) (some (.int .i64 (hi : Nat))) none).run Tryz.prog w = .ok (fv (sl (22 + lo) n c) q) w := by
  have e1 : n = hi - lo := by omega
  have e2 : c = 128 - lo := by omega
  subst e1 e2
  have h4 : lo ≤ hi := by omega
  have h5 : (hi : Int) ≤ 128 := by omega
  have h6 : ¬ 128 = lo := by omega
  simp [fv, Instr.sliceAt, go_sem, h4, h5, h6]
theorem ix_pc {off n c i : Nat} (hi : i < n) (w : World) (q : Nat) : (Instr.indexAt 31 (fv (sl off n c) q) (.int .i64 (i : Nat))).run Tryz.prog w = .ok (.pointer (some ⟨q, off + i, none⟩)) w := by
  simp [fv, Instr.indexAt, go_sem, hi]
theorem Wrt.trans {w w1 w2 : World} {g : Nat} {c c1 : Array Value} {t t1 : TypeId} (h : Wrt w w1 g c t) (k : Wrt w1 w2 g c1 t1) : Wrt w w2 g c1 t1 :=
  ⟨k.os.trans h.os, k.tape.trans h.tape, k.output.trans h.output, Nat.le_trans h.size k.size, fun i hi hn => (k.block i (Nat.lt_of_lt_of_le hi h.size) hn).trans (h.block i hi hn), k.row⟩
theorem Wrt.later {w w1 w2 : World} {g : Nat} {c : Array Value} {t : TypeId} (h : Wrt w w1 g c t) (hg : g < w1.heap.size) (k : Below w1.heap.size w1 w2) : Wrt w w2 g c t :=
  ⟨k.os.trans h.os, k.tape.trans h.tape, k.output.trans h.output, Nat.le_trans h.size k.size, fun i hi hn => (k.block i (Nat.lt_of_lt_of_le hi h.size)).trans (h.block i hi hn), (k.block g hg).trans h.row⟩
theorem Wrt.start {w : World} {g : Nat} {c : Array Value} {t : TypeId} (h : w.heap[g]? = some (.cells c t (0, 0))) : Wrt w w g c t := ⟨rfl, rfl, rfl, Nat.le_refl _, fun _ _ _ => rfl, h⟩
theorem wrt_cell {w : World} {g : Nat} {c : Array Value} {t : TypeId} (h : w.heap[g]? = some (.cells c t (0, 0))) (i : Nat) (v : Value) : Wrt w (w.setCell ⟨g, i, none⟩ v) g (c.setIfInBounds i v) t := by
  refine ⟨rfl, rfl, rfl, by simp, fun k _ hk => Below.heap_setCell _ _ _ _ (by simpa using hk), ?_⟩
  simp [World.setCell, h, Array.getElem?_modify]
theorem below_dN (w : World) (n : Nat) : Below w.heap.size w (w.drewN n) := ⟨rfl, rfl, rfl, Nat.le_refl _, fun _ _ => rfl⟩
theorem froz_dg {w : World} {q : Nat} {c : Array Value} {t : TypeId} (h : w.heap[q]? = some (.cells c t (0, 0))) (i : Nat) : w.frozen? ⟨q, i, none⟩ = false := by simp [World.frozen?, h]
theorem from_bs {w : World} {a : Option Addr} {m n cap : Nat} {f : Nat → Nat} (h : Bs w a m f) (hm : 0 < m) (hn : n ≤ m) (hc : m ≤ cap) : ∃ a', (∀ u : World, (Instr.sliceAt 31 (.slice a m cap) (some (.int .i64 (n : Nat))) none none).run Tryz.prog u = .ok (.slice a' (m - n) (cap - n)) u) ∧ Bs w a' (m - n) (fun i => f (n + i)) ∧ ∀ x y, a = some x → a' = some y → y.block = x.block := by
  obtain ⟨b, off, rfl, hcl⟩ := h.2 hm
  refine ⟨if cap = n then some ⟨b, off, none⟩ else some ⟨b, off + n, none⟩, fun u => ?_, ⟨fun i => h.1 _, fun hl => ?_⟩, fun x y e1 e2 => ?_⟩
  · have h1 : (n : Int) ≤ (m : Int) := by omega
    by_cases e : cap = n
    · subst e
      simp [Instr.sliceAt, go_sem, h1]
    · simp [Instr.sliceAt, go_sem, h1, e]
  · refine ⟨b, off + n, if_neg (by omega), fun i hi => ?_⟩
    have := hcl (n + i) (by omega)
    rwa [← Nat.add_assoc] at this
  · cases e1
    split at e2 <;> cases e2 <;> rfl

theorem Bs.wrt {w w' : World} {q : Nat} {cc : Array Value} {t : TypeId} {a : Option Addr} {len : Nat} {f : Nat → Nat} (h : Bs w a len f) (k : Wrt w w' q cc t) (hne : ∀ x, a = some x → x.block ≠ q) : Bs w' a len f :=
  ⟨h.1, fun hl => by
    obtain ⟨b, off, e, hc⟩ := h.2 hl
    refine ⟨b, off, e, fun i hi => ?_⟩
    have h1 := hc i hi
    rw [← h1]
    exact World.cell?_of_block (w := w) (k.block b (cell_lt h1) (hne _ e))⟩
def ab (N : Nat) (F : Nat → Nat) : Array Value := arr N fun i => .int .u8 (F i : Nat)
theorem ab_set (N : Nat) (F : Nat → Nat) (i v : Nat) : (ab N F).setIfInBounds i (.int .u8 (v : Nat)) = ab N (updN F i v) := by
  unfold ab
  rw [arr_set]
  refine arr_congr fun j _ => ?_
  unfold upd updN
  split <;> rfl
theorem st_ab {t0 : TypeId} {N i v : Nat} {F : Nat → Nat} (hi : i < N) (w : World) (q : Nat) (h : w.heap[q]? = some (.cells (ab N F) t0 (0, 0))) : (Instr.storeAt 5 (.pointer (some ⟨q, i, none⟩)) (.int .u8 (v : Nat))).run Tryz.prog w = .ok () (w.setRow q (ab N (updN F i v))) := by
  have h1 : w.cell? ⟨q, i, none⟩ = some (.int .u8 (F i : Nat)) := by rw [cell_of_row _ _ _ _ _ _ h]; exact arr_get _ _ _ hi
  have h2 : w.setCell ⟨q, i, none⟩ (.int .u8 (v : Nat)) = w.setRow q (ab N (updN F i v)) := by rw [set_row h, ab_set]
  have h3 : w.frozen? ⟨q, i, none⟩ = false := by simp [World.frozen?, h]
  simp [Instr.storeAt, Instr.sureAddr, go_sem, h1, h2, h3]
def wF (x : Nat) : Nat → Nat
  | 0 => x
  | k + 1 => wF x k / 2 ^ 8
def ptF (F : Nat → Nat) (off x : Nat) : Nat → Nat → Nat
  | 0 => F
  | k + 1 => updN (ptF F off x k) (off + (7 - k)) (wF x k % 256)
def cuL : List Nat := [4794697086780616226, 8158064640168781261, 13096744586834688815, 16840607885511220156, 4131703408338449720, 6480981068601479193, 10538285296894168987, 12329834152419229976, 15566598209576043074, 1334009975649890238, 2608012711638119052, 6128411473006802146, 8268148722764581231, 9286055187155687089, 11230858885718282805, 13951009754708518548, 16472876342353939154, 17275323862435702243, 1135362057144423861, 2597628984639134821, 3308224258029322869, 5365058923640841347, 6679025012923562964, 8573033837759648693, 10970295158949994411, 12119686244451234320, 12683024718118986047, 13788192230050041572, 14330467153632333762, 15395433587784984357, 489312712824947311, 1452737877330783856, 2861767655752347644, 3322285676063803686, 5560940570517711597, 5996557281743188959, 7280758554555802590, 8532644243296465576, 9350256976987008742, 10552545826968843579, 11727347734174303076, 12113106623233404929, 14000437183269869457, 14369950271660146224, 15101387698204529176, 15463397548674623760, 17586052441742319658, 1182934255886127544, 1847814050463011016, 2177327727835720531, 2830643537854262169, 3796741975233480872, 4115178125766777443, 5681478168544905931, 6601373596472566643, 7507060721942968483, 8399075790359081724, 8693463985226723168, 9568029438360202098, 10144078919501101548, 10430055236837252648, 11840083180663258601, 13761210420658862357, 14299343276471374635, 14566680578165727644, 15097957966210449927, 16922976911328602910, 17689382322260857208, 500013540394364858, 748580250866718886, 1242879168328830382, 1977374033974150939, 2944078676154940804, 3659926193048069267, 4368137639120453308, 4836135668995329356, 5532061633213252278, 6448918945643986474, 6902733635092675308, 7801388544844847127]
def sqL : List Nat := [7640891576956012808, 13503953896175478587, 4354685564936845355, 11912009170470909681, 5840696475078001361, 11170449401992604703, 2270897969802886507, 6620516959819538809]
def cu (i : Nat) : Nat := cuL.getD i 0
def sq (i : Nat) : Nat := sqL.getD i 0
def Gl (w : World) : Prop := (∀ i, i < 8 → w.cell? ⟨0, i, none⟩ = some (.int .u64 (sq i : Nat))) ∧ ∀ i, i < 80 → w.cell? ⟨1, i, none⟩ = some (.int .u64 (cu i : Nat))
theorem ix8g {i : Nat} (hi : i < 8) (w : World) (q : Nat) : (Instr.indexAt 93 (.pointer (some ⟨q, 0, none⟩)) (.int .i64 (i : Nat))).run Tryz.prog w = .ok (.pointer (some ⟨q, i, none⟩)) w := by
  simp [Instr.indexAt, go_sem, hi, addr_add]
theorem gl_sq {k : Nat} {W0 : World} (hg : Gl W0) (hk : k < 8) (w : World) (hw : KW (wd W0) w) : (Instr.loadAt 42 (.pointer (some ⟨0, k, none⟩))).run Tryz.prog w = .ok (.int .u64 (sq k : Nat)) w := by
  have h0 := hg.1 k hk
  have hlt : 0 < W0.heap.size := by
    rcases Nat.lt_or_ge 0 W0.heap.size with h | h
    · exact h
    · unfold World.cell? at h0; rw [Array.getElem?_eq_none h] at h0; cases h0
  have hb := hw.block 0 hlt
  have h1 : w.cell? ⟨0, k, none⟩ = some (.int .u64 (sq k : Nat)) := by
    rw [← h0]; exact World.cell?_of_block (w := W0) hb
  simp [Instr.loadAt, Instr.sureAddr, go_sem, h1]
theorem sq_lt : ∀ j, sq j < 18446744073709551616 := by
  intro j
  unfold sq
  rcases Nat.lt_or_ge j 8 with h | h
  · have h : j = 0 ∨ j = 1 ∨ j = 2 ∨ j = 3 ∨ j = 4 ∨ j = 5 ∨ j = 6 ∨ j = 7 := by omega
    rcases h with rfl | rfl | rfl | rfl | rfl | rfl | rfl | rfl <;> (simp [sqL])
  · rw [List.getD_eq_getElem?_getD, List.getElem?_eq_none (by simp [sqL]; omega)]
    show 0 < 18446744073709551616; decide
theorem bs_one (w : World) (x : Nat) (hx : x < 256) : Bs (w.alloc (.cells #[.int .u8 (x : Nat)] 5)) (some ⟨w.heap.size, 0, none⟩) 1 (fun _ => x) :=
  ⟨fun _ => hx, fun _ => ⟨_, 0, rfl, fun i hi => by
    obtain rfl : i = 0 := by omega
    have h := (MapKept.heap_alloc w (.cells #[.int .u8 (x : Nat)] 5)).1
    rw [cell_of_row _ _ _ _ _ _ h]; rfl⟩⟩
theorem bs_ab {w : World} {g N off n : Nat} {F : Nat → Nat} {t : TypeId} (hF : ∀ i, F i < 256) (h : w.heap[g]? = some (.cells (ab N F) t (0, 0))) (hN : off + n ≤ N) : Bs w (some ⟨g, off, none⟩) n (fun i => F (off + i)) :=
  ⟨fun i => hF _, fun _ => ⟨g, off, rfl, fun i hi => by rw [cell_of_row _ _ _ _ _ _ h]; exact arr_get _ _ _ (by omega)⟩⟩
theorem zero16 : ab 16 (fun _ => 0) = #[.int .u8 0, .int .u8 0, .int .u8 0, .int .u8 0, .int .u8 0, .int .u8 0, .int .u8 0, .int .u8 0, .int .u8 0, .int .u8 0, .int .u8 0, .int .u8 0, .int .u8 0, .int .u8 0, .int .u8 0, .int .u8 0] := by kernel_rfl
theorem Wrt.other {w w1 w2 : World} {q g : Nat} {c c' : Array Value} {t t' : TypeId} (h : Wrt w w1 q c t) (k : Wrt w1 w2 g c' t') (hg : w.heap.size ≤ g) (hn : q ≠ g) (hq : q < w1.heap.size) : Wrt w w2 q c t :=
  ⟨k.os.trans h.os, k.tape.trans h.tape, k.output.trans h.output, Nat.le_trans h.size k.size, fun i hi hne => (k.block i (Nat.lt_of_lt_of_le hi h.size) (by omega)).trans (h.block i hi hne), (k.block q hq hn).trans h.row⟩
theorem eta3 (x : (Nat → Nat) × (Nat → Nat) × Nat) : (x.1, x.2.1, x.2.2) = x := rfl
def cntF (ln : Nat) : Nat → Nat := ptF (ptF (fun _ => 0) 0 (ln * 8 / 18446744073709551616) 8) 8 (ln * 8 % 18446744073709551616) 8
theorem ptF_lt {F : Nat → Nat} {off x : Nat} (h : ∀ i, F i < 256) : ∀ k i, ptF F off x k i < 256
  | 0, i => h i
  | k + 1, i => by
    show updN (ptF F off x k) (off + (7 - k)) (wF x k % 256) i < 256
    unfold updN
    split
    · exact Nat.mod_lt _ (by decide)
    · exact ptF_lt h k i
theorem cnt_lt (ln i : Nat) : cntF ln i < 256 := ptF_lt (ptF_lt (fun _ => by decide) 8) 8 i
theorem wF_e (x : Nat) : ∀ k, wF x k = x / 256 ^ k
  | 0 => by show x = _; simp
  | k + 1 => by
    show wF x k / 2 ^ 8 = _
    rw [wF_e x k, Nat.div_div_eq_div_mul, show (2 : Nat) ^ 8 = 256 from rfl, Nat.pow_succ 256 k]
theorem ptF_out {F : Nat → Nat} {off x i : Nat} (h : i < off ∨ off + 8 ≤ i) : ∀ k, ptF F off x k i = F i
  | 0 => rfl
  | k + 1 => by
    show updN (ptF F off x k) (off + (7 - k)) (wF x k % 256) i = _
    unfold updN
    rw [if_neg (by omega)]
    exact ptF_out h k
theorem ptF_in {F : Nat → Nat} {off x j : Nat} (h : j < 8) : ∀ k, k ≤ 8 → 7 - j < k → ptF F off x k (off + j) = x / 256 ^ (7 - j) % 256
  | 0, _, h0 => by omega
  | k + 1, hk, h1 => by
    show updN (ptF F off x k) (off + (7 - k)) (wF x k % 256) (off + j) = _
    unfold updN
    by_cases e : j = 7 - k
    · rw [if_pos (by omega), wF_e, show 7 - j = k by omega]
    · rw [if_neg (by omega)]
      exact ptF_in h k (by omega) (by omega)
theorem cntF_e (n : Nat) {i : Nat} (hi : i < 16) : cntF n i = n * 8 / 256 ^ (15 - i) % 256 := by
  unfold cntF
  rcases Nat.lt_or_ge i 8 with h | h
  · rw [ptF_out (Or.inl h) 8, show i = 0 + i by omega, ptF_in h 8 (by omega) (by omega), show 15 - (0 + i) = 8 + (7 - i) by omega, Nat.pow_add, ← Nat.div_div_eq_div_mul]
  · obtain ⟨j, rfl⟩ : ∃ j, i = 8 + j := ⟨i - 8, by omega⟩
    rw [ptF_in (by omega) 8 (by omega) (by omega), show 15 - (8 + j) = 7 - j by omega]
    have hj : j < 8 := by omega
    have h : j = 0 ∨ j = 1 ∨ j = 2 ∨ j = 3 ∨ j = 4 ∨ j = 5 ∨ j = 6 ∨ j = 7 := by omega
    rcases h with rfl | rfl | rfl | rfl | rfl | rfl | rfl | rfl <;> (simp only [Nat.reduceSub, Nat.reducePow]; omega)
theorem cnt_last (n : Nat) : cntF n 15 = n % 32 * 8 := by
  rw [cntF_e n (by decide)]
  show n * 8 / 256 ^ 0 % 256 = _
  omega
theorem cnt_ref (n : Nat) {i : Nat} (hi : i < 15) : cntF n i = n / 32 / 256 ^ (14 - i) % 256 := by
  rw [cntF_e n (by omega), show 15 - i = 1 + (14 - i) by omega, Nat.pow_add, ← Nat.div_div_eq_div_mul, show n * 8 / 256 ^ 1 = n / 32 by omega]
theorem shl_or {a b k : Nat} (hb : b < 2 ^ k) : a * 2 ^ k ||| b = a * 2 ^ k + b := by
  have h := Nat.shiftLeft_add_eq_or_of_lt hb a
  rw [Nat.shiftLeft_eq] at h
  exact h.symm
structure Wr2 (w w' : World) (q g : Nat) : Prop where
  os : w'.os = w.os
  tape : w'.tape = w.tape
  output : w'.output = w.output
  size : w.heap.size ≤ w'.heap.size
  block : ∀ k, k < w.heap.size → k ≠ q → k ≠ g → w'.heap[k]? = w.heap[k]?
theorem Wr2.one {w w' : World} {q g : Nat} {c : Array Value} {t : TypeId} (h : Wrt w w' q c t) : Wr2 w w' q g := ⟨h.os, h.tape, h.output, h.size, fun k hk h1 _ => h.block k hk h1⟩
theorem Wr2.next {w w1 w2 : World} {q g : Nat} {c : Array Value} {t : TypeId} (h : Wr2 w w1 q g) (k : Wrt w1 w2 g c t) : Wr2 w w2 q g :=
  ⟨k.os.trans h.os, k.tape.trans h.tape, k.output.trans h.output, Nat.le_trans h.size k.size, fun i hi h1 h2 => (k.block i (Nat.lt_of_lt_of_le hi h.size) h2).trans (h.block i hi h1 h2)⟩
abbrev Pt := Nat × (Nat → Nat)
def PsAt (w : World) (pa : Option Addr) (L : List Pt) : Prop := 0 < L.length → ∃ b off, pa = some ⟨b, off, none⟩ ∧ ∀ i (h : i < L.length), ∃ a cap, w.cell? ⟨b, off + i, none⟩ = some (.slice a L[i].1 cap) ∧ Bs w a L[i].1 L[i].2 ∧ L[i].1 ≤ cap ∧ ∀ x, a = some x → x.block < w.heap.size
def lenS (L : List Pt) : Nat := (L.map (·.1)).sum
theorem lenS_take {L : List Pt} {k : Nat} (h : k < L.length) : lenS (L.take (k + 1)) = lenS (L.take k) + L[k].1 := by
  unfold lenS
  rw [List.take_succ_eq_append_getElem h, List.map_append, List.sum_append]; simp
theorem lenS_le (L : List Pt) (k : Nat) : lenS (L.take k) ≤ lenS L := by
  have h : lenS L = lenS (L.take k) + lenS (L.drop k) := by
    unfold lenS
    rw [← List.sum_append, ← List.map_append, List.take_append_drop]
  omega
theorem below_wrt {B : Nat} {w w1 w2 : World} {q : Nat} {c : Array Value} {t : TypeId} (h : Below B w w1) (k : Wrt w1 w2 q c t) (hq : B ≤ q) (hb : B ≤ w1.heap.size) : Below B w w2 :=
  ⟨k.os.trans h.os, k.tape.trans h.tape, k.output.trans h.output, Nat.le_trans h.size k.size, fun i hi => (k.block i (by omega) (by omega)).trans (h.block i hi)⟩
theorem ab_size (N : Nat) (F : Nat → Nat) : (ab N F).size = N := arr_size _ _
theorem ab_one (N : Nat) (F : Nat → Nat) : (ab N F).all (·.oneCell') = true := arr_one
theorem gl_b {w w' : World} (h : Gl w) (hb : Below w.heap.size w w') : Gl w' := ⟨fun i hi => cell_later hb (h.1 i hi), fun i hi => cell_later hb (h.2 i hi)⟩
def joinF : List Pt → Nat → Nat
  | [], _ => 0
  | x :: r, i => if i < x.1 then x.2 i else joinF r (i - x.1)
theorem bvs_cong {n : Nat} {f g : Nat → Nat} (h : ∀ i, i < n → f i = g i) : bvs n f = bvs n g := by
  unfold bvs
  apply List.map_congr_left
  intro i hi
  rw [h i (List.mem_range.1 hi)]
theorem bvs_app {n m : Nat} {P g : Nat → Nat} (h : ∀ i, i < m → g i = P (n + i)) : bvs n P ++ bvs m g = bvs (n + m) P := by
  unfold bvs
  rw [List.range_add, List.map_append, List.map_map]
  congr 1
  apply List.map_congr_left
  intro i hi
  rw [h i (List.mem_range.1 hi)]; rfl
theorem bs_own {w : World} {base : Nat} {v : Value} {n : Nat} {f : Nat → Nat} (h : w.ownsRow base 5 1 v n (bvs n f)) (hf : ∀ i, f i < 256) :
    ∃ a cap, v = .slice a n cap ∧ Bs w a n f ∧ n ≤ cap := by
  rcases h.2 with ⟨rfl, rfl⟩ | ⟨g, cap, cur, rfl, hb, hg, hnc, hcm, hcs, ht⟩
  · exact ⟨none, 0, rfl, ⟨hf, fun h => absurd h (by omega)⟩, Nat.le_refl _⟩
  · refine ⟨_, cap, rfl, ⟨hf, fun _ => ⟨g, 0, rfl, fun i hi => ?_⟩⟩, hnc⟩
    have := h.cellAt i (by omega)
    rw [Nat.zero_add, this, bvs_get f hi]
theorem run_append_f (w : World) (base ty : Nat) (v : Value) (n : Nat) (xs : List Value) (hown : w.ownsRow base 5 1 v n xs) (a : Option Addr) (m c : Nat) (f : Nat → Nat) (hb : Bs w a m f)
    (hbytes : n + m ≤ 140737488355328) (hbase : base ≤ w.heap.size) :
    ∃ v' w', (Builtin.append_ #[31, 31] ty #[v, .slice a m c]).run Tryz.prog w = .ok v' w' ∧ w'.ownsRow base 5 1 v' (n + m) (xs ++ bvs m f) ∧ w.grownBy w' v.ownBlock ∧ (v'.ownBlock = v.ownBlock ∨ ∀ k, v'.ownBlock = some k → w.heap.size ≤ k) := by
  obtain ⟨i0, hi, hz0, hz1, hz2⟩ := info_parts info_u8
  obtain ⟨h2, h3⟩ := hb
  cases a with
  | none =>
    obtain rfl : m = 0 := by
      rcases Nat.eq_zero_or_pos m with h | h
      · exact h
      · obtain ⟨_, _, e, _⟩ := h3 h; cases e
    refine ⟨v, w, ?_, by simpa [bvs] using hown, ⟨rfl, rfl, rfl, Nat.le_refl _, fun _ _ _ => rfl⟩, .inl rfl⟩
    rcases hown.2 with ⟨rfl, rfl⟩ | ⟨g, cap, cur, rfl, _, _, hnc, _⟩
    · simp [Builtin.append_, run_underlying Tryz.underlying31, sizeOf, typeInfo, hi, Builtin.lenOf, Builtin.firstCells]
    · simp [Builtin.append_, run_underlying Tryz.underlying31, sizeOf, typeInfo, hi, Builtin.lenOf, Builtin.firstCells, hnc, storeCells]
  | some ad =>
    have hnews : ∀ j u, (bvs m f)[j]? = some u → w.cell? (ad.add j) = some u := by
      intro j u hj
      have hjl : j < m := by have := (List.getElem?_eq_some_iff.1 hj).1; rwa [bvs_len] at this
      obtain ⟨b, off, e, hc⟩ := h3 (by omega)
      cases e
      have := hc j hjl
      rw [bvs_get f hjl] at hj
      rw [Addr.add_lit, this, hj]
    obtain ⟨v', w', hr, h4, h5, _, h6⟩ := run_append_own_at (P := Tryz.prog) w base 31 ty 5 i0 (.int .u8 0) 1 1 Tryz.underlying31 hi hz0 hz1 hz2 rfl (by decide) v n xs hown ad m c (bvs m f) (by simp [bvs_len]) hnews
      (bvs_one m f) (by unfold maxLen; omega) (by omega) hbase
    exact ⟨v', w', hr, h4, h5, h6.imp id fun e k hk => by rw [e] at hk; cases hk; exact Nat.le_refl _⟩
theorem wpList_append_f {w : World} {ops : Array Oper} {rest : List Oper} {o : Oper} {a : Act} {Q : Exit → Act → World → Prop} (hgd : o.guard = none) (s x : Operand)
    (ho : o.op = .call { callee := .builtin .append, args := #[s, x], argTypes := #[31, 31] }) (base : Nat)
    (v : Value) (n : Nat) (xs : List Value) (hs : a.eval s = v) (hown : w.ownsRow base 5 1 v n xs) (ad : Option Addr) (m c : Nat) (f : Nat → Nat) (hx : a.eval x = .slice ad m c) (hb : Bs w ad m f)
    (hbytes : n + m ≤ 140737488355328) (hbase : base ≤ w.heap.size)
    (h : ∀ v' w', w'.ownsRow base 5 1 v' (n + m) (xs ++ bvs m f) → w.grownBy w' v.ownBlock → (v'.ownBlock = v.ownBlock ∨ ∀ k, v'.ownBlock = some k → w.heap.size ≤ k) → wpList Tryz.prog ops Q rest (a.put o.dst v') w') : wpList Tryz.prog ops Q (o :: rest) a w := by
  refine wpList_plain hgd fun K hK => ?_
  obtain ⟨v', w', hr, h2, h3, h4⟩ := run_append_f w base o.type v n xs hown ad m c f hb hbytes hbase
  unfold Oper.wp execOp
  simp only [ho, resolve, invoke, builtin, Sem.run_bind, Sem.run_pure, Result.andThen_ok, List.map_toArray, List.map_cons, List.map_nil, hs, hx, hr]
  exact hK _ _ (h v' w' h2 h3 h4)
theorem below_app {B : Nat} {w wr w' : World} {v : Value} {n : Nat} {xs : List Value} {u : Nat} (hb : Below B w wr) (hB : B ≤ wr.heap.size) (hown : wr.ownsRow B u 1 v n xs) (hg : wr.grownBy w' v.ownBlock) : Below B w w' :=
  hb.grown hg hB (fun k e => (hown.lt k e).1)
def slN : Value → Nat
  | .slice _ n _ => n
  | _ => 0
theorem own_wrt {w w' : World} {B u g : Nat} {v : Value} {n : Nat} {xs : List Value} {c : Array Value} {t : TypeId} (h : w.ownsRow B u 1 v n xs) (k : Wrt w w' g c t) (hne : ∀ q, v.ownBlock = some q → q ≠ g) : w'.ownsRow B u 1 v n xs := by
  refine ⟨h.1, ?_⟩
  rcases h.2 with e | ⟨q, cap, cur, rfl, hb, hg, r⟩
  · exact .inl e
  · exact .inr ⟨q, cap, cur, rfl, hb, (k.block q (Array.getElem?_eq_some_iff.1 hg).1 (hne q rfl)).trans hg, r⟩
theorem own_slN {w : World} {B u : Nat} {v : Value} {n : Nat} {xs : List Value} (h : w.ownsRow B u 1 v n xs) : slN v = n := by
  rcases h.2 with ⟨rfl, rfl⟩ | ⟨g, cap, cur, rfl, _⟩ <;> rfl
end Go.Proofs.YtacokkedomjgpaaGreatDoor

namespace Go.Proofs.YtacokkedomjgpaaGreatDoor
open Go.RowKit
section
variable {P : Program} {W : Wd} {ops : Array Oper} {s0 s1 : List SV} {z : List Blk} {y : List (Array Value)} {o : Oper}
theorem k_s3 {t : TypeId} {p d : Nat} (b off n c : Nat) (lo hi : Option Value) (ho : o.op = .slice t (.tmp p) (lo.map .const) (hi.map .const) none) (hd : o.dst = some d) (hf : ∀ (w : World) (q : Nat), (Instr.sliceAt t (.pointer (some ⟨q, 0, none⟩)) lo hi none).run P w = .ok (.slice (some ⟨q, off, none⟩) n c) w)
    (hw : wantF ops s1 o = true := by kernel_rfl) (hp : slot s1 p = .inr (b, pt 0) := by kernel_rfl) (hs : slot s1 d = .inr (b, sl off n c) := by kernel_rfl) : Ok1 P W ops s0 s1 z y o ⟨none, none, none, false⟩ := by
  have hm : p ∈ tmpsOf o := mem_tmps (by rw [ho]; simp [Op.operands])
  refine Or.inl ⟨hw, ⟨?_, fun b h => by simp at h, fun b _ h => by simp at h, ?_⟩⟩
  · rintro b' (h | h | ⟨_, d', off', h1, h2⟩)
    · simp at h
    · simp at h
    · rw [hd] at h1; cases h1; rw [hs] at h2; cases h2; exact ⟨p, hm, _, hp⟩
  · intro β a w ha hb hr hns K Q hK
    have h3 : a.eval (.tmp p) = .pointer (some ⟨β b, 0, none⟩) := by rw [ha p hm, hp]; rfl
    have h5 : ∀ x : Option Value, (x.map Operand.const).map a.eval = x := fun x => by cases x <;> rfl
    unfold Oper.wp
    simp only [execOp, ho, h3, h5, Option.map_none, Sem.run_bind, hf w (β b), Result.andThen_ok, Sem.run_pure, Oper.upon_value]
    exact hK _ _ ⟨fun d' h => by rw [hd] at h; cases h; rw [hs]; rfl, Below.refl _ _⟩
theorem k_sa {t : TypeId} {p d : Nat} (b off n c : Nat) (ho : o.op = .sliceToArrayPointer t (.tmp p)) (hd : o.dst = some d) (hf : ∀ (w : World) (q : Nat), (Instr.arrayAt t (.slice (some ⟨q, off, none⟩) n c)).run P w = .ok (.pointer (some ⟨q, off, none⟩)) w)
    (hw : wantF ops s1 o = true := by kernel_rfl) (hp : slot s1 p = .inr (b, sl off n c) := by kernel_rfl) (hs : slot s1 d = .inr (b, pt off) := by kernel_rfl) : Ok1 P W ops s0 s1 z y o ⟨none, none, none, false⟩ := by
  have hm : p ∈ tmpsOf o := mem_tmps (by rw [ho]; simp [Op.operands])
  refine Or.inl ⟨hw, ⟨?_, fun b h => by simp at h, fun b _ h => by simp at h, ?_⟩⟩
  · rintro b' (h | h | ⟨_, d', off', h1, h2⟩)
    · simp at h
    · simp at h
    · rw [hd] at h1; cases h1; rw [hs] at h2; cases h2; exact ⟨p, hm, _, hp⟩
  · intro β a w ha hb hr hns K Q hK
    have h3 : a.eval (.tmp p) = .slice (some ⟨β b, off, none⟩) n c := by rw [ha p hm, hp]; rfl
    unfold Oper.wp
    simp only [execOp, ho, h3, Sem.run_bind, hf w (β b), Result.andThen_ok, Sem.run_pure, Oper.upon_value]
    exact hK _ _ ⟨fun d' h => by rw [hd] at h; cases h; rw [hs]; rfl, Below.refl _ _⟩
end
section
variable {P : Program} {W0 : World} {s : List SV} {m : List Blk} {β : Nat → Nat} {a : Act} {w : World}
theorem s_rr {fn : Func} {R : Ending → World → Prop} {t b t' b' : Nat} {ty t0 ty' t0' : TypeId} {c c' : Array Value} {d d' : TypeDesc} (h : St (wd W0) s m β a w) (hr : fn.results = #[.cell t ty, .cell t' ty']) (hu : P.underlying ty = some d) (hu' : P.underlying ty' = some d') (hR : Below W0.heap.size W0 w → R (.returned (.tuple #[.agg c, .agg c'])) w)
    (hi : (P.info? ty).map (·.size) = some c.size) (hi' : (P.info? ty').map (·.size) = some c'.size)
    (ht : Nat.blt t s.length = true := by kernel_rfl) (hs : slot s t = .inr (b, pt 0) := by kernel_rfl) (hm : m[b]? = some (c, t0) := by kernel_rfl) (ht' : Nat.blt t' s.length = true := by kernel_rfl) (hs' : slot s t' = .inr (b', pt 0) := by kernel_rfl) (hm' : m[b']? = some (c', t0') := by kernel_rfl)
    (hd : (match d with | .struct _ | .array _ _ => true | _ => false) = true := by rfl) (hd' : (match d' with | .struct _ | .array _ _ => true | _ => false) = true := by rfl) : bodyPost P fn R .ret a w := by
  have ht := Nat.le_of_ble_eq_true ht
  have ht' := Nat.le_of_ble_eq_true ht'
  refine ⟨by rw [h.tm], .tuple #[.agg c, .agg c'], ?_, hR h.bel.below⟩
  have hrow := h.row b _ hm
  have hrow' := h.row b' _ hm'
  have htm : a.tmps[t]? = some (.pointer (some ⟨β b, 0, none⟩)) := by
    rw [h.tm]
    unfold slot at hs
    simp [show t < s.length from ht] at hs ⊢
    rw [hs]; rfl
  have htm' : a.tmps[t']? = some (.pointer (some ⟨β b', 0, none⟩)) := by
    rw [h.tm]
    unfold slot at hs'
    simp [show t' < s.length from ht'] at hs' ⊢
    rw [hs']; rfl
  have hr2 := run_loadVar_row (P := P) w (β b) t0 ty c (0, 0) _ hrow hu hd hi
  have hr2' := run_loadVar_row (P := P) w (β b') t0' ty' c' (0, 0) _ hrow' hu' hd' hi'
  simp only [results, hr]
  simp [htm, htm', asAddr, hr2, hr2']
end
def cw (F : Nat → Nat) : Array Value := ab 64 F
def hi32 (F : Nat → Nat) (i : Nat) : Nat := F (32 + i)
theorem bxWd {F : Nat → Nat} (w : World) : (Instr.box 29 (.agg (cw F))).run Tryz.prog w = .ok (.pointer (some ⟨w.heap.size, 0, none⟩)) (w.alloc (.cells (cw F) 29)) := bx_agg w
theorem sl_lo (w : World) (q : Nat) : (Instr.sliceAt 29 (.pointer (some ⟨q, 0, none⟩)) none (some (.int .i64 32)) none).run Tryz.prog w = .ok (.slice (some ⟨q, 0, none⟩) 32 64) w := by kernel_rfl
theorem sl_hi (w : World) (q : Nat) : (Instr.sliceAt 29 (.pointer (some ⟨q, 0, none⟩)) (some (.int .i64 32)) none none).run Tryz.prog w = .ok (.slice (some ⟨q, 32, none⟩) 32 32) w := by kernel_rfl
theorem ar_lo (w : World) (q : Nat) : (Instr.arrayAt 23 (.slice (some ⟨q, 0, none⟩) 32 64)).run Tryz.prog w = .ok (.pointer (some ⟨q, 0, none⟩)) w := by kernel_rfl
theorem ar_hi (w : World) (q : Nat) : (Instr.arrayAt 23 (.slice (some ⟨q, 32, none⟩) 32 32)).run Tryz.prog w = .ok (.pointer (some ⟨q, 32, none⟩)) w := by kernel_rfl
theorem ck_list (F : Nat → Nat) : ck F = ((List.range 32).map fun j => Value.int .u8 (F j : Nat)).toArray := by
  apply Array.ext_getElem?
  intro i
  have e : ((List.range 32).map fun j => Value.int .u8 (F j : Nat)).toArray[i]? = ((List.range 32)[i]?).map fun j => Value.int .u8 (F j : Nat) := by simp
  rw [e]
  rcases Nat.lt_or_ge i 32 with h | h
  · rw [List.getElem?_range h]; exact arr_get _ _ _ h
  · rw [List.getElem?_eq_none (by simpa using h), Array.getElem?_eq_none (by rw [ck_size]; exact h)]; rfl
theorem ld_half {F G : Nat → Nat} {off : Nat} (hoff : off ≤ 32) (hG : ∀ i, G i = F (off + i)) (t0 : TypeId) (w : World) (q : Nat) (h : w.heap[q]? = some (.cells (cw F) t0 (0, 0))) : (Instr.loadAt 23 (.pointer (some ⟨q, off, none⟩))).run Tryz.prog w = .ok (.agg (ck G)) w := by
  rw [ck_list]
  refine run_loadAt_mid w q _ 23 _ _ (fun j v hj => ?_) Tryz.underlying23 rfl (by rw [List.length_map, List.length_range]; kernel_rfl)
  rw [List.getElem?_map] at hj
  rcases Nat.lt_or_ge j 32 with h1 | h1
  · rw [List.getElem?_range h1, Option.map_some] at hj
    cases hj
    have e : (cw F)[off + j]? = some (Value.int .u8 (F (off + j) : Nat)) := by
      unfold cw ab
      exact arr_get 64 (fun i => .int .u8 (F i : Nat)) (off + j) (by omega)
    rw [cell_of_row _ _ _ _ _ _ h, hG j]
    exact e
  · rw [List.getElem?_eq_none (by simpa using h1)] at hj; cases hj
end Go.Proofs.YtacokkedomjgpaaGreatDoor

namespace Go.Proofs.YtacokkedomjgpaaGreatDoor
open Go.RowKit
def Wd.fix (W : Wd) (w : World) (q : Nat) (h : KW W w) (hq : q < w.heap.size) : Wd := ⟨w, fun k => W.S k ∨ k = q, fun k hk => by
  rcases hk with hk | rfl
  · exact Nat.lt_of_lt_of_le (W.lt k hk) h.size
  · exact hq, fun _ => none⟩
theorem KW.fixed {W : Wd} {w v : World} {q : Nat} {h : KW W w} {hq : q < w.heap.size} (k : KW (W.fix w q h hq) v) : KW W v :=
  ⟨k.os.trans h.os, k.tape.trans h.tape, k.output.trans h.output, Nat.le_trans h.size k.size, fun b hb => (k.block b (Or.inl hb)).trans (h.block b hb)⟩
theorem KW.at {W : Wd} {w v : World} {q : Nat} {h : KW W w} {hq : q < w.heap.size} (k : KW (W.fix w q h hq) v) : v.heap[q]? = w.heap[q]? := k.block q (Or.inr rfl)
theorem nbeq_f {i b : Nat} (h : i ≠ b) : Nat.beq i b = false := by
  rw [Bool.eq_false_iff]; intro e; exact h (Nat.eq_of_beq_eq_true e)
theorem nblt_t {i b : Nat} (h : i < b) : Nat.blt i b = true := Nat.ble_eq_true_of_le h
theorem nblt_f {i b : Nat} (h : ¬ i < b) : Nat.blt i b = false := by
  rw [Bool.eq_false_iff]; intro e; exact h (Nat.le_of_ble_eq_true e)
def gone (b q : Nat) : SV → SV
  | .inl v => .inl v
  | .inr (c, fm) => bif Nat.beq c b then .inl (fv fm q) else bif Nat.blt c b then .inr (c, fm) else .inr (c - 1, fm)
theorem getD_map_gone (s : List SV) (b q t : Nat) : slot (s.map (gone b q)) t = gone b q (slot s t) := by
  unfold slot
  rw [List.getD_eq_getElem?_getD, List.getD_eq_getElem?_getD, List.getElem?_map]
  cases s[t]? <;> rfl
theorem St.fixd {W : Wd} {s : List SV} {m : List Blk} {β : Nat → Nat} {a : Act} {w : World} (h : St W s m β a w) (b : Nat) {c : Blk} (hb : m[b]? = some c) :
    ∃ (hq : β b < w.heap.size), w.heap[β b]? = some (.cells c.1 c.2 (0, 0)) ∧ St (W.fix w (β b) h.bel hq) (s.map (gone b (β b))) (m.eraseIdx b) (fun i => if i < b then β i else β (i + 1)) a w := by
  have hr := h.row b c hb
  have hq : β b < w.heap.size := (Array.getElem?_eq_some_iff.1 hr).1
  have hbl : b < m.length := (List.getElem?_eq_some_iff.1 hb).1
  have hlen : (m.eraseIdx b).length = m.length - 1 := List.length_eraseIdx_of_lt hbl
  refine ⟨hq, hr, ?_, ⟨rfl, rfl, rfl, Nat.le_refl _, fun _ _ => rfl⟩, ?_, ?_, ?_, ?_, ?_⟩
  · rw [h.tm]
    congr 2
    rw [List.map_map]
    refine List.map_congr_left fun x _ => ?_
    rcases x with v | ⟨i, fm⟩
    · rfl
    · show fv fm (β i) = den _ (bif Nat.beq i b then .inl (fv fm (β b)) else bif Nat.blt i b then .inr (i, fm) else .inr (i - 1, fm))
      rcases Nat.lt_trichotomy i b with e | e | e
      · rw [nbeq_f (show i ≠ b by omega), nblt_t e]
        show _ = fv fm (if i < b then β i else β (i + 1))
        rw [if_pos e]
      · subst e; rw [Nat.beq_refl]; rfl
      · rw [nbeq_f (show i ≠ b by omega), nblt_f (show ¬ i < b by omega)]
        show _ = fv fm (if i - 1 < b then β (i - 1) else β (i - 1 + 1))
        rw [if_neg (by omega), show i - 1 + 1 = i by omega]
  · intro i c' hc
    rw [List.getElem?_eraseIdx] at hc
    split at hc
    · next e => rw [if_pos e]; exact h.row i c' hc
    · next e => rw [if_neg e]; exact h.row (i + 1) c' hc
  · intro i hi
    rw [hlen] at hi
    rintro (h1 | h1)
    · split at h1
      · exact h.old _ (by omega) h1
      · exact h.old _ (by omega) h1
    · split at h1
      · have := h.inj _ _ (by omega) hbl h1; omega
      · have := h.inj _ _ (by omega) hbl h1; omega
  · intro i j hi hj e
    rw [hlen] at hi hj
    split at e <;> split at e <;> (have := h.inj _ _ (by omega) (by omega) e; omega)
  · intro t p ht hs
    rw [List.length_map] at ht
    rw [getD_map_gone] at hs
    rw [hlen]
    rcases hx : slot s t with v | ⟨i, fm⟩
    · rw [hx] at hs; cases hs
    · have hl := h.live t _ ht hx
      rw [hx] at hs
      replace hs : (bif Nat.beq i b then (.inl (fv fm (β b)) : SV) else bif Nat.blt i b then .inr (i, fm) else .inr (i - 1, fm)) = .inr p := hs
      rcases Nat.lt_trichotomy i b with e | e | e
      · rw [nbeq_f (show i ≠ b by omega), nblt_t e] at hs
        cases hs; show i < _; omega
      · subst e; rw [Nat.beq_refl] at hs; cases hs
      · rw [nbeq_f (show i ≠ b by omega), nblt_f (show ¬ i < b by omega)] at hs
        cases hs; show i - 1 < _; omega
  · intro i q hx
    cases hx
theorem St.fixed {W : Wd} {s : List SV} {m : List Blk} {β : Nat → Nat} {a : Act} {w : World} (h : St W s m β a w) (b : Nat) {c : Array Value} {t : TypeId} (hb : m[b]? = some (c, t) := by kernel_rfl) :
    ∃ (V : Wd) (q : Nat) (β' : Nat → Nat), (∀ v, KW V v → KW W v) ∧ (∀ v, KW V v → v.heap[q]? = some (.cells c t (0, 0))) ∧ St V (s.map (gone b q)) (m.eraseIdx b) β' a w := by
  obtain ⟨hq, hr, h'⟩ := h.fixd b hb
  exact ⟨_, _, _, fun v k => KW.fixed (h := h.bel) (hq := hq) k, fun v k => (KW.at (h := h.bel) (hq := hq) k).trans hr, h'⟩
section
variable {P : Program} {W : Wd} {ops : Array Oper} {s0 s1 : List SV} {z : List Blk} {y : List (Array Value)} {o : Oper}
theorem k_sp {t : TypeId} {p d : Nat} (x1 v : Value) (lo hi : Option Value) (ho : o.op = .slice t (.tmp p) (lo.map .const) (hi.map .const) none) (hd : o.dst = some d) (hf : ∀ w, (Instr.sliceAt t x1 lo hi none).run P w = .ok v w)
    (hw : wantF ops s1 o = true := by kernel_rfl) (hp : slot s1 p = .inl x1 := by kernel_rfl) (hs : slot s1 d = .inl v := by kernel_rfl) : Ok1 P W ops s0 s1 z y o ⟨none, none, none, false⟩ := by
  refine Or.inl ⟨hw, ?_⟩
  have hm : p ∈ tmpsOf o := mem_tmps (by rw [ho]; simp [Op.operands])
  refine ⟨?_, fun b h => by simp at h, fun b _ h => by simp at h, ?_⟩
  · rintro b' (h | h | ⟨_, d', off', h1, h2⟩)
    · simp at h
    · simp at h
    · rw [hd] at h1; cases h1; rw [hs] at h2; cases h2
  · intro β a w ha hb hr hns K Q hK
    have h3 : a.eval (.tmp p) = x1 := by rw [ha p hm, hp]; rfl
    have h5 : ∀ x : Option Value, (x.map Operand.const).map a.eval = x := fun x => by cases x <;> rfl
    unfold Oper.wp
    simp only [execOp, ho, h3, h5, Option.map_none, Sem.run_bind, hf w, Result.andThen_ok, Sem.run_pure, Oper.upon_value]
    exact hK _ _ ⟨fun d' h => by rw [hd] at h; cases h; rw [hs]; rfl, Below.refl _ _⟩
theorem k_bs {t : TypeId} {n : Nat} {ps : Array (Nat × Operand)} (vs : Array (Nat × Value)) {d : Tmp} (b : Nat) {c : Array Value} {t0 : TypeId} (hr : ∀ w, (Instr.buildSlice t n vs).run P w = .ok (.slice (some ⟨w.heap.size, 0, none⟩) n n) (w.alloc (.cells c t0))) (ho : o.op = .buildSlice t n ps) (hd : o.dst = some d)
    (hw : wantF ops s1 o = true := by kernel_rfl) (hs : slot s1 d = .inr (b, sl 0 n n) := by kernel_rfl) (hz : zc z b = (c, t0) := by kernel_rfl) (hp : ps.all (fun q => plainB s1 q.2) = true := by kernel_rfl) (hvs : (ps.map fun q => (q.1, evS s1 q.2)) = vs := by kernel_rfl) : Ok1 P W ops s0 s1 z y o ⟨some b, none, none, false⟩ := by
  refine Or.inl ⟨hw, ⟨?_, fun b' h => ?_, fun b _ h => by simp at h, ?_⟩⟩
  · rintro b' (h | h | ⟨h, _⟩) <;> simp at h
  · cases h; exact ⟨d, _, hd, hs⟩
  · intro β a w ha hb hr' hns K Q hK
    have hmap : (ps.map fun q => (q.1, a.eval q.2)) = vs := by
      rw [← hvs]
      apply Array.map_congr_left
      intro x hx
      rw [ev_plain ha (x := x.2) (by rw [ho]; simp [Op.operands]; exact ⟨x.1, by simpa using hx⟩) (Array.all_eq_true_iff_forall_mem.1 hp x hx)]
    unfold Oper.wp execOp
    simp only [ho, Sem.run_bind, hmap, hr w, Result.andThen_ok, Sem.run_pure, Oper.upon_value]
    exact hK _ _ ⟨w.heap.size, Nat.le_refl _, fun d' fm' h1 h2 => by rw [hd] at h1; cases h1; rw [hs] at h2; cases h2; rfl, by rw [hz]; exact (MapKept.heap_alloc w _).1, (Below.refl _ _).alloc (Nat.le_refl _) _⟩
end
section
variable {P : Program} {W : Wd} {s : List SV} {m : List Blk} {β : Nat → Nat} {a : Act} {w : World}
theorem St.cell {t b : Nat} (h : St W s m β a w) (ht : Nat.blt t s.length = true) (hs : slot s t = .inr (b, pt 0)) : a.tmps[t]? = some (.pointer (some ⟨β b, 0, none⟩)) := by
  have ht := Nat.le_of_ble_eq_true ht
  rw [h.tm]
  unfold slot at hs
  simp [show t < s.length from ht] at hs ⊢
  rw [hs]; rfl
theorem s_rcW {fn : Func} {R : Ending → World → Prop} {t b : Nat} {ty t0 : TypeId} {c : Array Value} {d : TypeDesc} (h : St W s m β a w) (hr : fn.results = #[.cell t ty]) (hu : P.underlying ty = some d) (hR : KW W w → R (.returned (.agg c)) w)
    (hi : (P.info? ty).map (·.size) = some c.size)
    (ht : Nat.blt t s.length = true := by kernel_rfl) (hs : slot s t = .inr (b, pt 0) := by kernel_rfl) (hm : m[b]? = some (c, t0) := by kernel_rfl)
    (hd : (match d with | .struct _ | .array _ _ => true | _ => false) = true := by rfl) : bodyPost P fn R .ret a w := by
  refine ⟨by rw [h.tm], .agg c, ?_, hR h.bel⟩
  have htm := h.cell ht hs
  have hr2 := run_loadVar_row (P := P) w (β b) t0 ty c (0, 0) _ (h.row b _ hm) hu hd hi
  simp only [results, hr]
  simp [htm, asAddr, hr2]
theorem s_rrW {fn : Func} {R : Ending → World → Prop} {t b t' b' : Nat} {ty t0 ty' t0' : TypeId} {c c' : Array Value} {d d' : TypeDesc} (h : St W s m β a w) (hr : fn.results = #[.cell t ty, .cell t' ty']) (hu : P.underlying ty = some d) (hu' : P.underlying ty' = some d') (hR : KW W w → R (.returned (.tuple #[.agg c, .agg c'])) w)
    (hi : (P.info? ty).map (·.size) = some c.size) (hi' : (P.info? ty').map (·.size) = some c'.size)
    (ht : Nat.blt t s.length = true := by kernel_rfl) (hs : slot s t = .inr (b, pt 0) := by kernel_rfl) (hm : m[b]? = some (c, t0) := by kernel_rfl) (ht' : Nat.blt t' s.length = true := by kernel_rfl) (hs' : slot s t' = .inr (b', pt 0) := by kernel_rfl) (hm' : m[b']? = some (c', t0') := by kernel_rfl)
    (hd : (match d with | .struct _ | .array _ _ => true | _ => false) = true := by rfl) (hd' : (match d' with | .struct _ | .array _ _ => true | _ => false) = true := by rfl) : bodyPost P fn R .ret a w := by
  refine ⟨by rw [h.tm], .tuple #[.agg c, .agg c'], ?_, hR h.bel⟩
  have htm := h.cell ht hs
  have htm' := h.cell ht' hs'
  have hr2 := run_loadVar_row (P := P) w (β b) t0 ty c (0, 0) _ (h.row b _ hm) hu hd hi
  have hr2' := run_loadVar_row (P := P) w (β b') t0' ty' c' (0, 0) _ (h.row b' _ hm') hu' hd' hi'
  simp only [results, hr]
  simp [htm, htm', asAddr, hr2, hr2']
theorem s_rtW {fn : Func} {R : Ending → World → Prop} {t : Nat} {v : Value} (h : St W s m β a w) (hr : fn.results = #[.tmp t]) (hR : KW W w → R (.returned v) w) (ht : Nat.blt t s.length = true := by kernel_rfl) (hs : slot s t = .inl v := by kernel_rfl) : bodyPost P fn R .ret a w := by
  refine ⟨by rw [h.tm], v, ?_, hR h.bel⟩
  have hv := h.eval ht hs
  have ht : t < s.length := Nat.le_of_ble_eq_true ht
  have htm : a.tmps[t]? = some v := by
    have hsz : t < a.tmps.size := by rw [h.tm]; simpa using ht
    simp only [Act.eval, Array.getD, hsz] at hv
    simp at hv
    simp [hsz, hv]
  simp only [results, hr]
  simp [htm]
end
end Go.Proofs.YtacokkedomjgpaaGreatDoor

namespace Go.Proofs.YtacokkedomjgpaaGreatDoor
open Go.RowKit
def dnw (k : Nat) : Int := 7 - (k : Int)
theorem dnw_v {k : Nat} (h : k < 8) : Value.int .i64 (dnw k) = Value.int .i64 (((7 - k : Nat)) : Int) := by unfold dnw; congr 1; omega
section
variable {x u : Operand}
theorem sb_w {k : Nat} (h : k < 8) (w : World) : (do eqGuard .sub 3 x u (.int .i64 (((7 - k : Nat)) : Int)) (.int .i64 (1 : Nat)); binOp .sub 3 (.int .i64 (((7 - k : Nat)) : Int)) (.int .i64 (1 : Nat))).run Tryz.prog w = .ok (.int .i64 (dnw (k + 1))) w := by
  have := sb_z (x := x) (u := u) (m := (((7 - k : Nat)) : Int)) (n := ((1 : Nat) : Int)) (by omega) (by omega) w
  rwa [show (((7 - k : Nat)) : Int) - ((1 : Nat) : Int) = dnw (k + 1) by unfold dnw; omega] at this
theorem sr_8 {m : Nat} (w : World) : (do eqGuard .shr 42 x u (.int .u64 (m : Nat)) (.int .u64 (8 : Nat)); binOp .shr 42 (.int .u64 (m : Nat)) (.int .u64 (8 : Nat))).run Tryz.prog w = .ok (.int .u64 (m / 2 ^ 8 : Nat)) w := by
  simp [eqGuard, binOp, go_sem]
end
theorem cv_w8 {n : Nat} (w : World) : (convert 42 5 (.int .u64 (n : Nat))).run Tryz.prog w = .ok (.int .u8 (n % 256 : Nat)) w := by
  have h1 : IntKind.u8.wrap (n : Int) = ((n % 256 : Nat) : Int) := by rw [IntKind.wrap_u8]; omega
  simp [convert, go_sem, h1]
set_option maxHeartbeats 8000000 in
theorem put_d {F : Nat → Nat} {N off cap v0 q : Nat} {t0 : TypeId} {W0 : World} (hN : off + 8 ≤ N) (hq : W0.heap[q]? = some (.cells (ab N F) t0 (0, 0))) : Calls Tryz.prog 95 #[.slice (some ⟨q, off, none⟩) 8 cap, .int .u64 (v0 : Nat)] W0 fun e w' => e = .returned (.tuple #[]) ∧ Wrt W0 w' q (ab N (ptF F off v0 8)) t0 := by
  refine s_ip Tryz.func95 Tryz.ntmps95 rfl hq [.inr (0, sl off 8 cap), .inl (.int .u64 (v0 : Nat))] ?_
  intro β a h
  refine sym_seq ?_
  refine St.r0 h [(5, .inr (0, sl off 8 cap)), (6, .inl (.int .i64 (8 : Nat))), (7, .inl (.int .i64 (7 : Nat))), (4, .inl (.int .i64 (7 : Nat)))] [] ?_ ?_
  · exact oz (k_mp 0 (sl off 8 cap) (.inl rfl) rfl) <|
    oz (k_lb 0 off 8 cap rfl rfl (fun w ad => len_b _ w)) <|
    oz (k_bi (.int .i64 (8 : Nat)) (.int .i64 (1 : Nat)) (.int .i64 (7 : Nat)) (sb_zn (m := ((8 : Nat) : Int)) (n := ((1 : Nat) : Int)) (k := 7) (by omega) (by omega)) rfl rfl) <|
    oz (k_mv (.inr rfl) rfl) <|
    ok_nil
  clear h; intro β a w h
  refine sym_then ?_
  refine blk_in ?_
  replace h := St.sm h 0 (ab N (ptF F off v0 0)) (c := ab N F) (t := t0) rfl
  replace h := St.ss h 1 (.int .u64 ((wF v0 0) : Nat)) (v := .int .u64 (v0 : Nat)) rfl
  replace h := St.ss h 4 (.int .i64 (dnw 0)) (v := .int .i64 (7 : Nat)) rfl
  obtain ⟨x, h⟩ := St.jn (n := 19) h [0, 1, 4, 5, 6, 7] [.inr (0, sl off 8 cap), .inl (.int .u64 ((wF v0 0) : Nat)), .inl (.int .i64 (dnw 0)), .inr (0, sl off 8 cap), .inl (.int .i64 (8 : Nat)), .inl (.int .i64 (7 : Nat))] [(ab N (ptF F off v0 0), t0)] (by kernel_rfl) (by kernel_rfl) (by kernel_rfl)
  refine loop_up 8 (fun k a w => ∃ (x : Nat → SV) (β : Nat → Nat), St (wdx W0 q) (ov (jk 19 x) ([0, 1, 4, 5, 6, 7].zip [.inr (0, sl off 8 cap), .inl (.int .u64 ((wF v0 k) : Nat)), .inl (.int .i64 (dnw k)), .inr (0, sl off 8 cap), .inl (.int .i64 (8 : Nat)), .inl (.int .i64 (7 : Nat))])) [(ab N (ptF F off v0 k), t0)] β a w) ⟨x, _, h⟩ ?_
  clear h; rintro k a w hkk ⟨x, β, h⟩
  rcases Nat.lt_or_ge k 8 with hltk | hgek
  · replace h := St.ss h 4 (.int .i64 ((7 - k) : Nat)) (v := .int .i64 (dnw k)) (dnw_v hltk)
    refine sym_seq ?_
    refine sym_seq ?_
    refine St.r0 h [(8, .inl (.int .i64 ((7 - k) : Nat))), (9, .inl (.bool true))] [] ?_ ?_
    · exact oz (k_mv (.inl rfl) rfl) <|
      oz (k_bi (.int .i64 ((7 - k) : Nat)) (.int .i64 (0 : Nat)) (.bool true) (ge_i (m := (((7 - k) : Nat) : Int)) (n := ((0 : Nat) : Int)) (decide_eq_true (by omega))) rfl rfl) <|
      ok_nil
    clear h; intro β a w h
    refine sym_then ?_
    refine s_ct h ?_
    refine wp_skip ?_
    refine sym_then ?_
    refine sym_seq ?_
    refine blk_in ?_
    refine sym_seq ?_
    refine St.rg h [(12, .inr (0, sl off 8 cap)), (13, .inl (.int .i64 ((7 - k) : Nat))), (14, .inl (.int .u64 ((wF v0 k) : Nat))), (15, .inl (.int .u8 (((wF v0 k) % 256) : Nat))), (16, .inr (0, pt (off + (7 - k))))] [] [(0, ab N (updN (ptF F off v0 k) (off + (7 - k)) ((wF v0 k) % 256)))] [nn, nn, nn, nn, nn, eS 0] ?_ ?_
    · exact oc (k_mp 0 (sl off 8 cap) (.inl rfl) rfl) <|
      oc (k_mv (.inl rfl) rfl) <|
      oc (k_mv (.inl rfl) rfl) <|
      oc (k_co (.int .u64 ((wF v0 k) : Nat)) (.int .u8 (((wF v0 k) % 256) : Nat)) (cv_w8 (n := (wF v0 k))) rfl rfl) <|
      oc (k_ib 0 ((off + (7 - k))) (sl off 8 cap) (.int .i64 ((7 - k) : Nat)) (ix_pc (i := (7 - k)) (by omega)) rfl rfl) <|
      oc (k_st 0 ((off + (7 - k))) (.int .u8 (((wF v0 k) % 256) : Nat)) (c := ab N (ptF F off v0 k)) (n := ab N (updN (ptF F off v0 k) (off + (7 - k)) ((wF v0 k) % 256))) (st_ab (N := N) (F := (ptF F off v0 k)) (i := (off + (7 - k))) (v := ((wF v0 k) % 256)) (t0 := t0) (by omega)) rfl rfl) <|
      ok_nil
    clear h; intro β a w h
    refine sym_then ?_
    refine St.r0 h [(17, .inl (.int .u64 ((wF v0 k) : Nat))), (18, .inl (.int .u64 (((wF v0 k) / 2 ^ 8) : Nat))), (1, .inl (.int .u64 (((wF v0 k) / 2 ^ 8) : Nat)))] [eO] ?_ ?_
    · exact oc (k_m0 rfl rfl) <|
      oz (k_bi (.int .u64 ((wF v0 k) : Nat)) (.int .u64 (8 : Nat)) (.int .u64 (((wF v0 k) / 2 ^ 8) : Nat)) (sr_8 (m := (wF v0 k))) rfl rfl) <|
      oz (k_mv (.inr rfl) rfl) <|
      ok_nil
    clear h; intro β a w h
    refine blk_norm ?_
    refine sym_then ?_
    refine St.r0 h [(10, .inl (.int .i64 ((7 - k) : Nat))), (11, .inl (.int .i64 (dnw (k + 1)))), (4, .inl (.int .i64 (dnw (k + 1))))] [eO] ?_ ?_
    · exact oc (k_m0 rfl rfl) <|
      oz (k_bi (.int .i64 ((7 - k) : Nat)) (.int .i64 (1 : Nat)) (.int .i64 (dnw (k + 1))) (sb_w (k := k) hltk) rfl rfl) <|
      oz (k_mv (.inr rfl) rfl) <|
      ok_nil
    clear h; intro β a w h
    replace h := St.sm h 0 (ab N (ptF F off v0 (k + 1))) (c := ab N (updN (ptF F off v0 k) (off + (7 - k)) ((wF v0 k) % 256))) (t := t0) rfl
    replace h := St.ss h 1 (.int .u64 ((wF v0 (k + 1)) : Nat)) (v := .int .u64 (((wF v0 k) / 2 ^ 8) : Nat)) rfl
    obtain ⟨x, h⟩ := St.jn (n := 19) h [0, 1, 4, 5, 6, 7] [.inr (0, sl off 8 cap), .inl (.int .u64 ((wF v0 (k + 1)) : Nat)), .inl (.int .i64 (dnw (k + 1))), .inr (0, sl off 8 cap), .inl (.int .i64 (8 : Nat)), .inl (.int .i64 (7 : Nat))] [(ab N (ptF F off v0 (k + 1)), t0)] (by kernel_rfl) (by kernel_rfl) (by kernel_rfl)
    exact ⟨hltk, x, _, h⟩
  · obtain rfl : 8 = k := by omega
    refine sym_seq ?_
    refine sym_seq ?_
    refine St.r0 h [(8, .inl (.int .i64 (dnw 8))), (9, .inl (.bool false))] [] ?_ ?_
    · exact oz (k_mv (.inl rfl) rfl) <|
      oz (k_bi (.int .i64 (dnw 8)) (.int .i64 (0 : Nat)) (.bool false) (ge_i (m := dnw 8) (n := ((0 : Nat) : Int)) (decide_eq_false (by unfold dnw; omega))) rfl rfl) <|
      ok_nil
    clear h; intro β a w h
    refine sym_then ?_
    refine s_cf h ?_
    refine wp_exit ?_
    refine then_exit ?_
    refine then_exit ?_
    refine blk_exit ?_
    exact s_re h Tryz.results95 (fun hb => ⟨rfl, hb⟩)
end Go.Proofs.YtacokkedomjgpaaGreatDoor

namespace Go.Proofs.YtacokkedomjgpaaGreatDoor.Lo
open Go.RowKit

/-! A function that is handed a block. -/
section
variable {P : Program} {W0 : World} {s : List SV} {m : List Blk} {β : Nat → Nat} {a : Act} {w : World} {q : Nat}
end

/-! Words. -/
def tu (x n : Nat) : Nat := x / 2 ^ n ||| x * 2 ^ (64 - n) % B64
section
variable {x u : Operand}
theorem sr_w {m r : Nat} (w : World) (hr : r ≤ 64) : (do eqGuard .shr 42 x u (.int .u64 (m : Nat)) (.int .i64 (r : Nat)); binOp .shr 42 (.int .u64 (m : Nat)) (.int .i64 (r : Nat))).run Tryz.prog w = .ok (.int .u64 (m / 2 ^ r : Nat)) w := by
  simp [eqGuard, binOp, go_sem]
theorem sl_w {m r : Nat} (w : World) (hr : r ≤ 64) : (do eqGuard .shl 42 x u (.int .u64 (m : Nat)) (.int .i64 (r : Nat)); binOp .shl 42 (.int .u64 (m : Nat)) (.int .i64 (r : Nat))).run Tryz.prog w = .ok (.int .u64 (m * 2 ^ r % B64 : Nat)) w := by
  simp [eqGuard, binOp, go_sem, w64, B64_i]
theorem or_w {m n : Nat} (hm : m < B64) (hn : n < B64) (w : World) : (do eqGuard .or 42 x u (.int .u64 (m : Nat)) (.int .u64 (n : Nat)); binOp .or 42 (.int .u64 (m : Nat)) (.int .u64 (n : Nat))).run Tryz.prog w = .ok (.int .u64 (m ||| n : Nat)) w := by
  simp [eqGuard, binOp, go_sem, bits_or_u64_nat m n hm hn]
theorem and_w {m n : Nat} (hm : m < B64) (hn : n < B64) (w : World) : (do eqGuard .and 42 x u (.int .u64 (m : Nat)) (.int .u64 (n : Nat)); binOp .and 42 (.int .u64 (m : Nat)) (.int .u64 (n : Nat))).run Tryz.prog w = .ok (.int .u64 (m &&& n : Nat)) w := by
  simp [eqGuard, binOp, go_sem, bits_and_u64_nat m n hm hn]
theorem xor_w {m n : Nat} (hm : m < B64) (hn : n < B64) (w : World) : (do eqGuard .xor 42 x u (.int .u64 (m : Nat)) (.int .u64 (n : Nat)); binOp .xor 42 (.int .u64 (m : Nat)) (.int .u64 (n : Nat))).run Tryz.prog w = .ok (.int .u64 (m ^^^ n : Nat)) w := by
  simp [eqGuard, binOp, go_sem, bits_xor_u64_nat m n hm hn]
theorem ad_w {m n : Nat} (w : World) : (do eqGuard .add 42 x u (.int .u64 (m : Nat)) (.int .u64 (n : Nat)); binOp .add 42 (.int .u64 (m : Nat)) (.int .u64 (n : Nat))).run Tryz.prog w = .ok (.int .u64 ((m + n) % B64 : Nat)) w := by
  simp [eqGuard, binOp, go_sem, w64, B64_i]
theorem no_w {m : Nat} (hm : m < B64) (w : World) : (Op.unary .xor (.int .u64 (m : Nat))).run Tryz.prog w = .ok (.int .u64 (18446744073709551615 ^^^ m : Nat)) w := by
  have h1 : (if IntKind.u64.signed = true then -1 else IntKind.u64.max) = ((18446744073709551615 : Nat) : Int) := rfl
  simp only [Op.unary, go_sem, h1, bits_xor_u64_nat 18446744073709551615 m (by decide) hm]
  rfl
end
/-! The cells of a digest on its way. -/
def plL : List Nat := [64, 80, 19, 61, 6, 1, 8, 7, 28, 34, 39, 14, 18, 41]
def dgv (H p : Nat → Nat) (fl ln i : Nat) : Value :=
  if i < 14 then .int .i64 (plL.getD i 0 : Nat) else if i < 22 then .int .u64 (H (i - 14) : Nat) else if i < 150 then .int .u8 (p (i - 22) : Nat) else if i < 151 then .int .i64 (fl : Nat) else .int .u64 (ln : Nat)
def dgc (H p : Nat → Nat) (fl ln : Nat) : Array Value := arr 152 (dgv H p fl ln)
section
variable {H p : Nat → Nat} {fl ln : Nat} {t0 : TypeId} {w : World} {q : Nat}
theorem dg_cell {i : Nat} (hi : i < 152) (h : w.heap[q]? = some (.cells (dgc H p fl ln) t0 (0, 0))) : w.cell? ⟨q, i, none⟩ = some (dgv H p fl ln i) := by
  rw [cell_of_row _ _ _ _ _ _ h]; exact arr_get _ _ _ hi
theorem ld_dgI {i v : Nat} (hi : i < 152) (hv : dgv H p fl ln i = .int .i64 (v : Nat)) (w : World) (q : Nat) (h : w.heap[q]? = some (.cells (dgc H p fl ln) t0 (0, 0))) : (Instr.loadAt 3 (.pointer (some ⟨q, i, none⟩))).run Tryz.prog w = .ok (.int .i64 (v : Nat)) w := by
  have h1 := dg_cell hi h
  rw [hv] at h1
  simp [Instr.loadAt, Instr.sureAddr, go_sem, h1]
theorem ld_dgU {i v : Nat} (hi : i < 152) (hv : dgv H p fl ln i = .int .u64 (v : Nat)) (w : World) (q : Nat) (h : w.heap[q]? = some (.cells (dgc H p fl ln) t0 (0, 0))) : (Instr.loadAt 42 (.pointer (some ⟨q, i, none⟩))).run Tryz.prog w = .ok (.int .u64 (v : Nat)) w := by
  have h1 := dg_cell hi h
  rw [hv] at h1
  simp [Instr.loadAt, Instr.sureAddr, go_sem, h1]
end
end Go.Proofs.YtacokkedomjgpaaGreatDoor.Lo

namespace Go.Proofs.YtacokkedomjgpaaGreatDoor.Lo
open Go.RowKit

def pl14 : Array Value := arr 14 fun i => .int .i64 (plL.getD i 0 : Nat)
theorem pl14_size : pl14.size = 14 := arr_size _ _
theorem ldpI {i v : Nat} (t0 : TypeId) (hi : i < 14) (hv : plL.getD i 0 = v) (w : World) (q : Nat) (h : w.heap[q]? = some (.cells pl14 t0 (0, 0))) : (Instr.loadAt 3 (.pointer (some ⟨q, i, none⟩))).run Tryz.prog w = .ok (.int .i64 (v : Nat)) w := by
  have h1 : w.cell? ⟨q, i, none⟩ = some (.int .i64 (v : Nat)) := by rw [cell_of_row _ _ _ _ _ _ h, ← hv]; exact arr_get _ _ _ hi
  simp [Instr.loadAt, Instr.sureAddr, go_sem, h1]
theorem ldp3 {i a b c : Nat} (t0 : TypeId) (hi : i + 2 < 14) (ha : plL.getD i 0 = a) (hb : plL.getD (i + 1) 0 = b) (hc : plL.getD (i + 2) 0 = c) (w : World) (q : Nat) (h : w.heap[q]? = some (.cells pl14 t0 (0, 0))) : (Instr.loadAt 90 (.pointer (some ⟨q, i, none⟩))).run Tryz.prog w = .ok (.agg (i3 a b c)) w := by
  have h0 : w.cell? ⟨q, i, none⟩ = some (.int .i64 (a : Nat)) := by rw [cell_of_row _ _ _ _ _ _ h, ← ha]; exact arr_get _ _ _ (by omega)
  have h1 : w.cell? ⟨q, i + 1, none⟩ = some (.int .i64 (b : Nat)) := by rw [cell_of_row _ _ _ _ _ _ h, ← hb]; exact arr_get _ _ _ (by omega)
  have h2 : w.cell? ⟨q, i + 2, none⟩ = some (.int .i64 (c : Nat)) := by rw [cell_of_row _ _ _ _ _ _ h, ← hc]; exact arr_get _ _ _ hi
  simp [Instr.loadAt, Instr.sureAddr, go_sem, h0, h1, h2, i3]
theorem tu_lt {x n : Nat} (hx : x < B64) : tu x n < B64 := by
  unfold tu
  have h1 : x / 2 ^ n < 2 ^ 64 := Nat.lt_of_le_of_lt (Nat.div_le_self _ _) hx
  have h2 : x * 2 ^ (64 - n) % B64 < 2 ^ 64 := Nat.mod_lt _ (by decide)
  exact Nat.or_lt_two_pow h1 h2
def hiW (x a b c : Nat) : Nat := tu x a ^^^ tu x b ^^^ tu x c
def loW (x a b c : Nat) : Nat := tu x a ^^^ tu x b ^^^ x / 2 ^ c
theorem xor_lt {x y : Nat} (hx : x < B64) (hy : y < B64) : x ^^^ y < B64 := Nat.xor_lt_two_pow (n := 64) hx hy
theorem or_lt {x y : Nat} (hx : x < B64) (hy : y < B64) : x ||| y < B64 := Nat.or_lt_two_pow (n := 64) hx hy
theorem and_lt {x y : Nat} (hy : y < B64) : x &&& y < B64 := Nat.and_lt_two_pow (n := 64) _ hy
theorem div_lt {x n : Nat} (hx : x < B64) : x / n < B64 := Nat.lt_of_le_of_lt (Nat.div_le_self _ _) hx
theorem mod_B (x : Nat) : x % B64 < B64 := Nat.mod_lt _ (by decide)
end Go.Proofs.YtacokkedomjgpaaGreatDoor.Lo

namespace Go.Proofs.YtacokkedomjgpaaGreatDoor.Lo
open Go.RowKit
section
variable {H p : Nat → Nat} {fl ln q : Nat} {W0 : World}

set_option maxHeartbeats 4000000 in
theorem turn_d {x n : Nat} (hx : x < B64) (hn : n ≤ 64) (hq : W0.heap[q]? = some (.cells (dgc H p fl ln) 96 (0, 0))) : Calls Tryz.prog 109 #[.pointer (some ⟨q, 0, none⟩), .int .u64 (x : Nat), .int .i64 (n : Nat)] W0 fun e w' => e = .returned (.int .u64 (tu x n : Nat)) ∧ Below W0.heap.size W0 w' := by
  refine s_ip Tryz.func109 Tryz.ntmps109 rfl hq [.inr (0, pt 0), .inl (.int .u64 (x : Nat)), .inl (.int .i64 (n : Nat))] ?_
  intro β a h
  refine sym_seq ?_
  refine St.r0 h [(6, .inl (.int .u64 (0 : Nat)))] [] ?_ ?_
  · exact oz (k_mv (.inr rfl) rfl) <|
    ok_nil
  clear h; intro β a w h
  refine sym_then ?_
  refine sym_seq ?_
  refine St.r0 h [(7, .inl (.int .u64 (x : Nat))), (8, .inl (.int .i64 (n : Nat))), (9, .inl (.int .u64 ((x / 2 ^ n) : Nat))), (10, .inl (.int .u64 (x : Nat))), (11, .inr (0, pt 0)), (12, .inr (0, pt 0)), (13, .inr (0, pt 0)), (14, .inr (0, pt 0)), (15, .inl (.int .i64 (64 : Nat))), (16, .inl (.int .i64 (n : Nat))), (17, .inl (.int .i64 ((64 - n) : Nat))), (18, .inl (.int .u64 ((x * 2 ^ (64 - n) % B64) : Nat))), (19, .inl (.int .u64 (((x / 2 ^ n) ||| (x * 2 ^ (64 - n) % B64)) : Nat))), (6, .inl (.int .u64 (((x / 2 ^ n) ||| (x * 2 ^ (64 - n) % B64)) : Nat)))] [nn, nn, nn, nn, nn, nn, nn, nn, eR 0] ?_ ?_
  · exact oc (k_mv (.inl rfl) rfl) <|
    oc (k_mv (.inl rfl) rfl) <|
    oc (k_bi (.int .u64 (x : Nat)) (.int .i64 (n : Nat)) (.int .u64 ((x / 2 ^ n) : Nat)) (fun w => sr_w (m := x) (r := n) w (by omega)) rfl rfl) <|
    oc (k_mv (.inl rfl) rfl) <|
    oc (k_mp 0 (pt 0) (.inl rfl) rfl) <|
    oc (k_nc 0 0 rfl rfl) <|
    oc (k_fa 0 0 0 rfl rfl) <|
    oc (k_fa 0 0 0 rfl rfl) <|
    oc (k_ld 0 0 (.int .i64 (64 : Nat)) (c := dgc H p fl ln) (ld_dgI (H := H) (p := p) (fl := fl) (ln := ln) (t0 := 96) (i := 0) (v := 64) (by decide) rfl) rfl rfl) <|
    oz (k_mv (.inl rfl) rfl) <|
    oz (k_bi (.int .i64 (64 : Nat)) (.int .i64 (n : Nat)) (.int .i64 ((64 - n) : Nat)) (sb_zn (m := ((64 : Nat) : Int)) (n := ((n : Nat) : Int)) (k := (64 - n)) (by omega) (by omega)) rfl rfl) <|
    oz (k_bi (.int .u64 (x : Nat)) (.int .i64 ((64 - n) : Nat)) (.int .u64 ((x * 2 ^ (64 - n) % B64) : Nat)) (fun w => sl_w (m := x) (r := (64 - n)) w (by omega)) rfl rfl) <|
    oz (k_bi (.int .u64 ((x / 2 ^ n) : Nat)) (.int .u64 ((x * 2 ^ (64 - n) % B64) : Nat)) (.int .u64 (((x / 2 ^ n) ||| (x * 2 ^ (64 - n) % B64)) : Nat)) (or_w (m := (x / 2 ^ n)) (n := (x * 2 ^ (64 - n) % B64)) (div_lt hx) (mod_B _)) rfl rfl) <|
    oz (k_mv (.inr rfl) rfl) <|
    ok_nil
  clear h; intro β a w h
  refine sym_then ?_
  refine wp_ret ?_
  exact s_rq h hq Tryz.results109 (fun hb => ⟨rfl, hb⟩)

set_option maxHeartbeats 4000000 in
theorem lead_d {x : Nat} (hq : W0.heap[q]? = some (.cells (dgc H p fl ln) 96 (0, 0))) : Calls Tryz.prog 91 #[.pointer (some ⟨q, 0, none⟩), .int .u64 (x : Nat)] W0 fun e w' => e = .returned (.int .u64 (x / 2 ^ 0 : Nat)) ∧ Below W0.heap.size W0 w' := by
  refine s_ip Tryz.func91 Tryz.ntmps91 rfl hq [.inr (0, pt 0), .inl (.int .u64 (x : Nat))] ?_
  intro β a h
  refine sym_seq ?_
  refine St.r0 h [(4, .inl (.int .u64 (0 : Nat)))] [] ?_ ?_
  · exact oz (k_mv (.inr rfl) rfl) <|
    ok_nil
  clear h; intro β a w h
  refine sym_then ?_
  refine sym_seq ?_
  refine St.r0 h [(5, .inl (.int .u64 (x : Nat))), (6, .inr (0, pt 0)), (7, .inr (0, pt 0)), (8, .inr (0, pt 0)), (9, .inr (0, pt 0)), (10, .inl (.int .i64 (64 : Nat))), (11, .inl (.int .i64 (0 : Nat))), (12, .inl (.int .u64 ((x / 2 ^ 0) : Nat))), (4, .inl (.int .u64 ((x / 2 ^ 0) : Nat)))] [nn, nn, nn, nn, nn, eR 0] ?_ ?_
  · exact oc (k_mv (.inl rfl) rfl) <|
    oc (k_mp 0 (pt 0) (.inl rfl) rfl) <|
    oc (k_nc 0 0 rfl rfl) <|
    oc (k_fa 0 0 0 rfl rfl) <|
    oc (k_fa 0 0 0 rfl rfl) <|
    oc (k_ld 0 0 (.int .i64 (64 : Nat)) (c := dgc H p fl ln) (ld_dgI (H := H) (p := p) (fl := fl) (ln := ln) (t0 := 96) (i := 0) (v := 64) (by decide) rfl) rfl rfl) <|
    oz (k_bi (.int .i64 (64 : Nat)) (.int .i64 (64 : Nat)) (.int .i64 (0 : Nat)) (sb_zn (m := ((64 : Nat) : Int)) (n := ((64 : Nat) : Int)) (k := 0) (by omega) (by omega)) rfl rfl) <|
    oz (k_bi (.int .u64 (x : Nat)) (.int .i64 (0 : Nat)) (.int .u64 ((x / 2 ^ 0) : Nat)) (fun w => sr_w (m := x) (r := 0) w (by omega)) rfl rfl) <|
    oz (k_mv (.inr rfl) rfl) <|
    ok_nil
  clear h; intro β a w h
  refine sym_then ?_
  refine wp_ret ?_
  exact s_rq h hq Tryz.results91 (fun hb => ⟨rfl, hb⟩)

set_option maxHeartbeats 4000000 in
theorem high_d {x r0 r1 r2 : Nat} (hx : x < B64) (h0 : r0 ≤ 64) (h1 : r1 ≤ 64) (h2 : r2 ≤ 64) (hq : W0.heap[q]? = some (.cells (dgc H p fl ln) 96 (0, 0))) : Calls Tryz.prog 104 #[.pointer (some ⟨q, 0, none⟩), .int .u64 (x : Nat), .agg (i3 r0 r1 r2)] W0 fun e w' => e = .returned (.int .u64 (hiW x r0 r1 r2 : Nat)) ∧ Below W0.heap.size W0 w' := by
  refine s_ip Tryz.func104 Tryz.ntmps104 rfl hq [.inr (0, pt 0), .inl (.int .u64 (x : Nat)), .inl (.agg (i3 r0 r1 r2))] ?_
  intro β a h
  refine sym_seq ?_
  refine St.rg h [(5, .inr (1, pt 0)), (6, .inl (.int .u64 (0 : Nat)))] [(i3 r0 r1 r2, 90)] [] [eN 1] ?_ ?_
  · exact oc (k_bx 1 (.agg (i3 r0 r1 r2)) (bx3 (a := r0) (b := r1) (c := r2)) rfl rfl) <|
    oz (k_mv (.inr rfl) rfl) <|
    ok_nil
  clear h; intro β a w h
  refine sym_then ?_
  refine sym_seq ?_
  refine St.r0 h [(7, .inr (0, pt 0)), (8, .inl (.int .u64 (x : Nat))), (9, .inr (1, pt 0)), (10, .inl (.int .i64 (r0 : Nat))), (11, .inl (.int .u64 ((tu x r0) : Nat))), (12, .inr (0, pt 0)), (13, .inl (.int .u64 (x : Nat))), (14, .inr (1, pt 1)), (15, .inl (.int .i64 (r1 : Nat))), (16, .inl (.int .u64 ((tu x r1) : Nat))), (17, .inl (.int .u64 (((tu x r0) ^^^ (tu x r1)) : Nat))), (18, .inr (0, pt 0)), (19, .inl (.int .u64 (x : Nat))), (20, .inr (1, pt 2)), (21, .inl (.int .i64 (r2 : Nat))), (22, .inl (.int .u64 ((tu x r2) : Nat))), (23, .inl (.int .u64 ((((tu x r0) ^^^ (tu x r1)) ^^^ (tu x r2)) : Nat))), (6, .inl (.int .u64 ((((tu x r0) ^^^ (tu x r1)) ^^^ (tu x r2)) : Nat)))] [nn, nn, nn, eR 1, eR 0, nn, nn, nn, eR 1, eR 0, nn, nn, nn, nn, eR 1, eR 0] ?_ ?_
  · exact oc (k_mp 0 (pt 0) (.inl rfl) rfl) <|
    oc (k_mv (.inl rfl) rfl) <|
    oc (k_ia 1 0 0 (.int .i64 (0 : Nat)) (ix3 (i := 0) (by decide)) rfl rfl) <|
    oc (k_ld 1 0 (.int .i64 (r0 : Nat)) (c := i3 r0 r1 r2) (ld3 (a := r0) (b := r1) (c := r2) (i := 0) (v := r0) 90 rfl) rfl rfl) <|
    oc (k_cb 109 (fun q => #[.pointer (some ⟨q, 0, none⟩), .int .u64 (x : Nat), .int .i64 (r0 : Nat)]) (.int .u64 ((tu x r0) : Nat)) 0 7 (fun w q _ hq => turn_d hx (by omega) hq) rfl rfl (by simp) (fm := pt 0) (t0 := 96) (c := dgc H p fl ln)) <|
    oc (k_mp 0 (pt 0) (.inl rfl) rfl) <|
    oc (k_mv (.inl rfl) rfl) <|
    oc (k_ia 1 0 1 (.int .i64 (1 : Nat)) (ix3 (i := 1) (by decide)) rfl rfl) <|
    oc (k_ld 1 1 (.int .i64 (r1 : Nat)) (c := i3 r0 r1 r2) (ld3 (a := r0) (b := r1) (c := r2) (i := 1) (v := r1) 90 rfl) rfl rfl) <|
    oc (k_cb 109 (fun q => #[.pointer (some ⟨q, 0, none⟩), .int .u64 (x : Nat), .int .i64 (r1 : Nat)]) (.int .u64 ((tu x r1) : Nat)) 0 12 (fun w q _ hq => turn_d hx (by omega) hq) rfl rfl (by simp) (fm := pt 0) (t0 := 96) (c := dgc H p fl ln)) <|
    oc (k_bi (.int .u64 ((tu x r0) : Nat)) (.int .u64 ((tu x r1) : Nat)) (.int .u64 (((tu x r0) ^^^ (tu x r1)) : Nat)) (xor_w (m := (tu x r0)) (n := (tu x r1)) (tu_lt hx) (tu_lt hx)) rfl rfl) <|
    oc (k_mp 0 (pt 0) (.inl rfl) rfl) <|
    oc (k_mv (.inl rfl) rfl) <|
    oc (k_ia 1 0 2 (.int .i64 (2 : Nat)) (ix3 (i := 2) (by decide)) rfl rfl) <|
    oc (k_ld 1 2 (.int .i64 (r2 : Nat)) (c := i3 r0 r1 r2) (ld3 (a := r0) (b := r1) (c := r2) (i := 2) (v := r2) 90 rfl) rfl rfl) <|
    oc (k_cb 109 (fun q => #[.pointer (some ⟨q, 0, none⟩), .int .u64 (x : Nat), .int .i64 (r2 : Nat)]) (.int .u64 ((tu x r2) : Nat)) 0 18 (fun w q _ hq => turn_d hx (by omega) hq) rfl rfl (by simp) (fm := pt 0) (t0 := 96) (c := dgc H p fl ln)) <|
    oz (k_bi (.int .u64 (((tu x r0) ^^^ (tu x r1)) : Nat)) (.int .u64 ((tu x r2) : Nat)) (.int .u64 ((((tu x r0) ^^^ (tu x r1)) ^^^ (tu x r2)) : Nat)) (xor_w (m := ((tu x r0) ^^^ (tu x r1))) (n := (tu x r2)) (xor_lt (tu_lt hx) (tu_lt hx)) (tu_lt hx)) rfl rfl) <|
    oz (k_mv (.inr rfl) rfl) <|
    ok_nil
  clear h; intro β a w h
  refine sym_then ?_
  refine wp_ret ?_
  exact s_rq h hq Tryz.results104 (fun hb => ⟨rfl, hb⟩)

set_option maxHeartbeats 4000000 in
theorem low_d {x r0 r1 r2 : Nat} (hx : x < B64) (h0 : r0 ≤ 64) (h1 : r1 ≤ 64) (h2 : r2 ≤ 64) (hq : W0.heap[q]? = some (.cells (dgc H p fl ln) 96 (0, 0))) : Calls Tryz.prog 108 #[.pointer (some ⟨q, 0, none⟩), .int .u64 (x : Nat), .agg (i3 r0 r1 r2)] W0 fun e w' => e = .returned (.int .u64 (loW x r0 r1 r2 : Nat)) ∧ Below W0.heap.size W0 w' := by
  refine s_ip Tryz.func108 Tryz.ntmps108 rfl hq [.inr (0, pt 0), .inl (.int .u64 (x : Nat)), .inl (.agg (i3 r0 r1 r2))] ?_
  intro β a h
  refine sym_seq ?_
  refine St.rg h [(5, .inr (1, pt 0)), (6, .inl (.int .u64 (0 : Nat)))] [(i3 r0 r1 r2, 90)] [] [eN 1] ?_ ?_
  · exact oc (k_bx 1 (.agg (i3 r0 r1 r2)) (bx3 (a := r0) (b := r1) (c := r2)) rfl rfl) <|
    oz (k_mv (.inr rfl) rfl) <|
    ok_nil
  clear h; intro β a w h
  refine sym_then ?_
  refine sym_seq ?_
  refine St.r0 h [(7, .inr (0, pt 0)), (8, .inl (.int .u64 (x : Nat))), (9, .inr (1, pt 0)), (10, .inl (.int .i64 (r0 : Nat))), (11, .inl (.int .u64 ((tu x r0) : Nat))), (12, .inr (0, pt 0)), (13, .inl (.int .u64 (x : Nat))), (14, .inr (1, pt 1)), (15, .inl (.int .i64 (r1 : Nat))), (16, .inl (.int .u64 ((tu x r1) : Nat))), (17, .inl (.int .u64 (((tu x r0) ^^^ (tu x r1)) : Nat))), (18, .inl (.int .u64 (x : Nat))), (19, .inr (1, pt 2)), (20, .inl (.int .i64 (r2 : Nat))), (21, .inl (.int .u64 ((x / 2 ^ r2) : Nat))), (22, .inl (.int .u64 ((((tu x r0) ^^^ (tu x r1)) ^^^ (x / 2 ^ r2)) : Nat))), (6, .inl (.int .u64 ((((tu x r0) ^^^ (tu x r1)) ^^^ (x / 2 ^ r2)) : Nat)))] [nn, nn, nn, eR 1, eR 0, nn, nn, nn, eR 1, eR 0, nn, nn, nn, eR 1] ?_ ?_
  · exact oc (k_mp 0 (pt 0) (.inl rfl) rfl) <|
    oc (k_mv (.inl rfl) rfl) <|
    oc (k_ia 1 0 0 (.int .i64 (0 : Nat)) (ix3 (i := 0) (by decide)) rfl rfl) <|
    oc (k_ld 1 0 (.int .i64 (r0 : Nat)) (c := i3 r0 r1 r2) (ld3 (a := r0) (b := r1) (c := r2) (i := 0) (v := r0) 90 rfl) rfl rfl) <|
    oc (k_cb 109 (fun q => #[.pointer (some ⟨q, 0, none⟩), .int .u64 (x : Nat), .int .i64 (r0 : Nat)]) (.int .u64 ((tu x r0) : Nat)) 0 7 (fun w q _ hq => turn_d hx (by omega) hq) rfl rfl (by simp) (fm := pt 0) (t0 := 96) (c := dgc H p fl ln)) <|
    oc (k_mp 0 (pt 0) (.inl rfl) rfl) <|
    oc (k_mv (.inl rfl) rfl) <|
    oc (k_ia 1 0 1 (.int .i64 (1 : Nat)) (ix3 (i := 1) (by decide)) rfl rfl) <|
    oc (k_ld 1 1 (.int .i64 (r1 : Nat)) (c := i3 r0 r1 r2) (ld3 (a := r0) (b := r1) (c := r2) (i := 1) (v := r1) 90 rfl) rfl rfl) <|
    oc (k_cb 109 (fun q => #[.pointer (some ⟨q, 0, none⟩), .int .u64 (x : Nat), .int .i64 (r1 : Nat)]) (.int .u64 ((tu x r1) : Nat)) 0 12 (fun w q _ hq => turn_d hx (by omega) hq) rfl rfl (by simp) (fm := pt 0) (t0 := 96) (c := dgc H p fl ln)) <|
    oc (k_bi (.int .u64 ((tu x r0) : Nat)) (.int .u64 ((tu x r1) : Nat)) (.int .u64 (((tu x r0) ^^^ (tu x r1)) : Nat)) (xor_w (m := (tu x r0)) (n := (tu x r1)) (tu_lt hx) (tu_lt hx)) rfl rfl) <|
    oc (k_mv (.inl rfl) rfl) <|
    oc (k_ia 1 0 2 (.int .i64 (2 : Nat)) (ix3 (i := 2) (by decide)) rfl rfl) <|
    oc (k_ld 1 2 (.int .i64 (r2 : Nat)) (c := i3 r0 r1 r2) (ld3 (a := r0) (b := r1) (c := r2) (i := 2) (v := r2) 90 rfl) rfl rfl) <|
    oz (k_bi (.int .u64 (x : Nat)) (.int .i64 (r2 : Nat)) (.int .u64 ((x / 2 ^ r2) : Nat)) (fun w => sr_w (m := x) (r := r2) w (by omega)) rfl rfl) <|
    oz (k_bi (.int .u64 (((tu x r0) ^^^ (tu x r1)) : Nat)) (.int .u64 ((x / 2 ^ r2) : Nat)) (.int .u64 ((((tu x r0) ^^^ (tu x r1)) ^^^ (x / 2 ^ r2)) : Nat)) (xor_w (m := ((tu x r0) ^^^ (tu x r1))) (n := (x / 2 ^ r2)) (xor_lt (tu_lt hx) (tu_lt hx)) (div_lt hx)) rfl rfl) <|
    oz (k_mv (.inr rfl) rfl) <|
    ok_nil
  clear h; intro β a w h
  refine sym_then ?_
  refine wp_ret ?_
  exact s_rq h hq Tryz.results108 (fun hb => ⟨rfl, hb⟩)

end
end Go.Proofs.YtacokkedomjgpaaGreatDoor.Lo

namespace Go.Proofs.YtacokkedomjgpaaGreatDoor.Lo
open Go.RowKit

theorem al80 (w : World) : (Instr.alloc 103 true (.tuple #[])).run Tryz.prog w = .ok (.pointer (some ⟨w.heap.size, 0, none⟩)) (w.alloc (.cells (au 80 fun _ => 0) 103)) := by
  have e : (zeroValue 103).run Tryz.prog w = .ok (.agg (au 80 fun _ => 0)) w := by kernel_rfl
  simp [Instr.alloc, go_sem, e]
theorem ld80 {F : Nat → Nat} (t0 : TypeId) (w : World) (q : Nat) (h : w.heap[q]? = some (.cells (au 80 F) t0 (0, 0))) : (Instr.loadAt 103 (.pointer (some ⟨q, 0, none⟩))).run Tryz.prog w = .ok (.agg (au 80 F)) w :=
  ld_row (c := au 80 F) Tryz.underlying103 rfl (by rw [au_size]; kernel_rfl) w q h
theorem st80 {F : Nat → Nat} {c : Array Value} (t0 : TypeId) (hc : c.size = 80) (w : World) (q : Nat) (h : w.heap[q]? = some (.cells c t0 (0, 0))) : (Instr.storeAt 103 (.pointer (some ⟨q, 0, none⟩)) (.agg (au 80 F))).run Tryz.prog w = .ok () (w.setRow q (au 80 F)) :=
  st_row (n := au 80 F) (by rw [au_size]; kernel_rfl) (by rw [hc, au_size]) (au_one _ _) w q h
theorem ix80 {i : Nat} (hi : i < 80) (w : World) (q : Nat) : (Instr.indexAt 103 (.pointer (some ⟨q, 0, none⟩)) (.int .i64 (i : Nat))).run Tryz.prog w = .ok (.pointer (some ⟨q, i, none⟩)) w := by
  simp [Instr.indexAt, go_sem, hi, addr_add]
/-! The plan in a block of its own. -/
theorem stPl {c : Array Value} (t0 : TypeId) (hc : c.size = 14) (w : World) (q : Nat) (h : w.heap[q]? = some (.cells c t0 (0, 0))) : (Instr.storeAt 92 (.pointer (some ⟨q, 0, none⟩)) (.agg pl14)).run Tryz.prog w = .ok () (w.setRow q pl14) :=
  st_row (n := pl14) (by rw [pl14_size]; kernel_rfl) (by rw [hc, pl14_size]) arr_one w q h
section
variable {H p : Nat → Nat} {fl ln : Nat} {t0 : TypeId}
theorem dgv_pl {i : Nat} (h : i < 14) : dgv H p fl ln i = .int .i64 (plL.getD i 0 : Nat) := if_pos h
theorem dgv_w {i : Nat} (h : i < 8) : dgv H p fl ln (14 + i) = .int .u64 (H i : Nat) := by
  unfold dgv
  rw [if_neg (by omega), if_pos (by omega), show 14 + i - 14 = i by omega]
theorem dgv_p {i : Nat} (h : i < 128) : dgv H p fl ln (22 + i) = .int .u8 (p i : Nat) := by
  unfold dgv
  rw [if_neg (by omega), if_neg (by omega), if_pos (by omega), show 22 + i - 22 = i by omega]
theorem ld_dgP (w : World) (q : Nat) (h : w.heap[q]? = some (.cells (dgc H p fl ln) t0 (0, 0))) : (Instr.loadAt 92 (.pointer (some ⟨q, 0, none⟩))).run Tryz.prog w = .ok (.agg pl14) w := by
  have hc : ∀ i, i < 14 → w.cell? ⟨q, i, none⟩ = some (.int .i64 (plL.getD i 0 : Nat)) := fun i hi => by rw [dg_cell (by omega) h, dgv_pl hi]
  have c0 := hc 0 (by decide); have c1 := hc 1 (by decide); have c2 := hc 2 (by decide); have c3 := hc 3 (by decide); have c4 := hc 4 (by decide); have c5 := hc 5 (by decide); have c6 := hc 6 (by decide)
  have c7 := hc 7 (by decide); have c8 := hc 8 (by decide); have c9 := hc 9 (by decide); have c10 := hc 10 (by decide); have c11 := hc 11 (by decide); have c12 := hc 12 (by decide); have c13 := hc 13 (by decide)
  clear hc h
  have e : pl14 = #[.int .i64 (plL.getD 0 0 : Nat), .int .i64 (plL.getD 1 0 : Nat), .int .i64 (plL.getD 2 0 : Nat), .int .i64 (plL.getD 3 0 : Nat), .int .i64 (plL.getD 4 0 : Nat), .int .i64 (plL.getD 5 0 : Nat), .int .i64 (plL.getD 6 0 : Nat), .int .i64 (plL.getD 7 0 : Nat), .int .i64 (plL.getD 8 0 : Nat), .int .i64 (plL.getD 9 0 : Nat), .int .i64 (plL.getD 10 0 : Nat), .int .i64 (plL.getD 11 0 : Nat), .int .i64 (plL.getD 12 0 : Nat), .int .i64 (plL.getD 13 0 : Nat)] := by kernel_rfl
  rw [e]
  simp [Instr.loadAt, Instr.sureAddr, go_sem, c0, c1, c2, c3, c4, c5, c6, c7, c8, c9, c10, c11, c12, c13]
theorem ld_dg8 {i : Nat} (hi : i < 128) (w : World) (q : Nat) (h : w.heap[q]? = some (.cells (dgc H p fl ln) t0 (0, 0))) : (Instr.loadAt 5 (.pointer (some ⟨q, 22 + i, none⟩))).run Tryz.prog w = .ok (.int .u8 (p i : Nat)) w := by
  have h1 := dg_cell (i := 22 + i) (by omega) h
  rw [dgv_p hi] at h1
  simp [Instr.loadAt, Instr.sureAddr, go_sem, h1]
theorem ld_dgW {i : Nat} (hi : i < 8) (w : World) (q : Nat) (h : w.heap[q]? = some (.cells (dgc H p fl ln) t0 (0, 0))) : (Instr.loadAt 42 (.pointer (some ⟨q, 14 + i, none⟩))).run Tryz.prog w = .ok (.int .u64 (H i : Nat)) w := ld_dgU (by omega) (dgv_w hi) w q h
theorem st_dgW {i v : Nat} (hi : i < 8) (w : World) (q : Nat) (h : w.heap[q]? = some (.cells (dgc H p fl ln) t0 (0, 0))) : (Instr.storeAt 42 (.pointer (some ⟨q, 14 + i, none⟩)) (.int .u64 (v : Nat))).run Tryz.prog w = .ok () (w.setRow q (dgc (updN H i v) p fl ln)) := by
  refine st_cell (arr_get _ _ _ (by omega)) ?_ w q h
  unfold dgc
  rw [arr_set]
  refine arr_congr fun j _ => ?_
  unfold upd
  by_cases e : j = 14 + i
  · subst e; rw [if_pos rfl, dgv_w hi]; unfold updN; rw [if_pos rfl]
  · rw [if_neg e]
    unfold dgv updN
    by_cases h1 : j < 14
    · rw [if_pos h1, if_pos h1]
    · rw [if_neg h1, if_neg h1]
      by_cases h2 : j < 22
      · rw [if_pos h2, if_pos h2, if_neg (by omega)]
      · rw [if_neg h2, if_neg h2]
theorem ix8w {i : Nat} (hi : i < 8) (w : World) (q : Nat) : (Instr.indexAt 93 (.pointer (some ⟨q, 14, none⟩)) (.int .i64 (i : Nat))).run Tryz.prog w = .ok (.pointer (some ⟨q, 14 + i, none⟩)) w := by
  simp [Instr.indexAt, go_sem, hi]
end
theorem in8 {F : Nat → Nat} {i : Nat} (hi : i < 8) (w : World) : (Instr.index 93 (.agg (au 8 F)) (.int .i64 (i : Nat))).run Tryz.prog w = .ok (.int .u64 (F i : Nat)) w := by
  have h1 : (au 8 F)[i]? = some (.int .u64 (F i : Nat)) := arr_get _ _ _ hi
  simp [Instr.index, go_sem, hi, h1]
/-! Pieces of a block. -/
section
variable {P : Program} {W : Wd} {ops : Array Oper} {s0 s1 : List SV} {z : List Blk} {y : List (Array Value)} {o : Oper}
end
section
variable {x u : Operand}
theorem sl_8 {m : Nat} (w : World) : (do eqGuard .shl 42 x u (.int .u64 (m : Nat)) (.int .u64 (8 : Nat)); binOp .shl 42 (.int .u64 (m : Nat)) (.int .u64 (8 : Nat))).run Tryz.prog w = .ok (.int .u64 (m * 2 ^ 8 % B64 : Nat)) w := by
  simp [eqGuard, binOp, go_sem, w64, B64_i]
end
theorem cv_bw {n : Nat} (h : n < 256) (w : World) : (convert 5 42 (.int .u8 (n : Nat))).run Tryz.prog w = .ok (.int .u64 (n : Nat)) w := by
  have h1 : IntKind.u64.wrap (n : Int) = ((n : Nat) : Int) := by rw [w64]; omega
  simp [convert, go_sem, h1]
/-! On paper. -/
def bwF (p F : Nat → Nat) (t : Nat) : Nat → Nat → Nat
  | 0 => F
  | j + 1 => updN (bwF p F t j) t (bwF p F t j t * 2 ^ 8 % B64 ||| p (t * 8 + j))
def r16 (p : Nat → Nat) : Nat → Nat → Nat
  | 0 => fun _ => 0
  | t + 1 => bwF p (r16 p t) t 8
def r80 (p : Nat → Nat) : Nat → Nat → Nat
  | 0 => r16 p 16
  | k + 1 => updN (r80 p k) (16 + k) ((((loW (r80 p k (16 + k - 2)) 19 61 6 + r80 p k (16 + k - 7)) % B64 + loW (r80 p k (16 + k - 15)) 1 8 7) % B64 + r80 p k (16 + k - 16)) % B64)
theorem upd_lt {F : Nat → Nat} {i v : Nat} (hF : ∀ j, F j < B64) (hv : v < B64) (j : Nat) : updN F i v j < B64 := by unfold updN; split <;> simp_all
theorem b256 {n : Nat} (h : n < 256) : n < B64 := Nat.lt_trans h (by decide)
theorem bwF_lt {p F : Nat → Nat} {t : Nat} (hp : ∀ i, p i < 256) (hF : ∀ j, F j < B64) : ∀ k j, bwF p F t k j < B64
  | 0, j => hF j
  | k + 1, j => upd_lt (bwF_lt hp hF k) (or_lt (mod_B _) (b256 (hp _))) j
theorem r16_lt {p : Nat → Nat} (hp : ∀ i, p i < 256) : ∀ t j, r16 p t j < B64
  | 0, _ => (by decide : 0 < B64)
  | t + 1, j => bwF_lt hp (r16_lt hp t) 8 j
theorem r80_lt {p : Nat → Nat} (hp : ∀ i, p i < 256) : ∀ k j, r80 p k j < B64
  | 0, j => r16_lt hp 16 j
  | k + 1, j => upd_lt (r80_lt hp k) (mod_B _) j
/-! Leaving with what a block holds, the block that came in as it was; leaving with nothing. -/
section
variable {P : Program} {W0 : World} {s : List SV} {m : List Blk} {β : Nat → Nat} {a : Act} {w : World} {q : Nat}
end
end Go.Proofs.YtacokkedomjgpaaGreatDoor.Lo

namespace Go.Proofs.YtacokkedomjgpaaGreatDoor.Lo
open Go.RowKit
theorem ld_dg8' {H p : Nat → Nat} {fl ln i j : Nat} {t0 : TypeId} (hi : i < 128) (hj : j = 22 + i) (w : World) (q : Nat) (h : w.heap[q]? = some (.cells (dgc H p fl ln) t0 (0, 0))) : (Instr.loadAt 5 (.pointer (some ⟨q, j, none⟩))).run Tryz.prog w = .ok (.int .u8 (p i : Nat)) w := by
  subst hj; exact ld_dg8 hi w q h
set_option maxHeartbeats 8000000 in
theorem row_d {H p : Nat → Nat} {fl ln q : Nat} {W0 : World} (hp : ∀ i, p i < 256) (hq : W0.heap[q]? = some (.cells (dgc H p fl ln) 96 (0, 0))) : Calls Tryz.prog 103 #[.pointer (some ⟨q, 0, none⟩)] W0 fun e w' => e = .returned (.agg (au 80 (r80 p 64))) ∧ Below W0.heap.size W0 w' := by
  refine s_ip Tryz.func103 Tryz.ntmps103 rfl hq [.inr (0, pt 0)] ?_
  intro β a h
  refine sym_seq ?_
  refine St.rg h [(2, .inr (1, pt 0))] [(au 80 (fun _ => 0), 103)] [] [eN 1] ?_ ?_
  · exact oc (k_al 1 al80 rfl rfl) <|
    ok_nil
  clear h; intro β a w h
  refine sym_then ?_
  refine sym_seq ?_
  refine St.rg h [(10, .inr (0, pt 0)), (11, .inr (0, pt 0)), (12, .inr (0, pt 0)), (13, .inl (.agg pl14)), (3, .inr (2, pt 0))] [(ai 14 (fun _ => 0), 92)] [(2, pl14)] [nn, nn, nn, eR 0, eN 2, eS 2] ?_ ?_
  · exact oc (k_mp 0 (pt 0) (.inl rfl) rfl) <|
    oc (k_nc 0 0 rfl rfl) <|
    oc (k_fa 0 0 0 rfl rfl) <|
    oc (k_ld 0 0 (.agg pl14) (c := dgc H p fl ln) (ld_dgP (H := H) (p := p) (fl := fl) (ln := ln) (t0 := 96)) rfl rfl) <|
    oc (k_al 2 alPl rfl rfl) <|
    oc (k_st 2 0 (.agg pl14) (c := ai 14 (fun _ => 0)) (n := pl14) (stPl (c := ai 14 (fun _ => 0)) 92 (ai_size _ _)) rfl rfl) <|
    ok_nil
  clear h; intro β a w h
  refine sym_then ?_
  refine sym_seq ?_
  refine St.r0 h [(14, .inr (2, pt 0)), (15, .inl (.int .i64 (64 : Nat))), (16, .inl (.int .i64 (8 : Nat))), (4, .inl (.int .i64 (8 : Nat)))] [nn, eR 2] ?_ ?_
  · exact oc (k_fa 2 0 0 rfl rfl) <|
    oc (k_ld 2 0 (.int .i64 (64 : Nat)) (c := pl14) (ldpI (i := 0) (v := 64) 92 (by decide) rfl) rfl rfl) <|
    oz (k_bi (.int .i64 (64 : Nat)) (.int .i64 (8 : Nat)) (.int .i64 (8 : Nat)) (qu_i (m := 64) (n := 8) (by decide) (by decide)) rfl rfl) <|
    oz (k_mv (.inr rfl) rfl) <|
    ok_nil
  clear h; intro β a w h
  refine sym_then ?_
  refine sym_seq ?_
  refine St.rg h [(5, .inr (3, pt 0))] [(au 80 (fun _ => 0), 103)] [] [eN 3] ?_ ?_
  · exact oc (k_al 3 al80 rfl rfl) <|
    ok_nil
  clear h; intro β a w h
  refine sym_then ?_
  refine sym_seq ?_
  refine sym_seq ?_
  refine St.r0 h [(17, .inl (.int .i64 (0 : Nat)))] [] ?_ ?_
  · exact oz (k_mv (.inl rfl) rfl) <|
    ok_nil
  clear h; intro β a w h
  refine sym_then ?_
  refine blk_in ?_
  replace h := St.sm h 3 (au 80 (r16 p 0)) (c := au 80 (fun _ => 0)) (t := 103) rfl
  obtain ⟨x, h⟩ := St.jn (n := 83) h [0, 2, 3, 4, 5, 10, 11, 12, 13, 14, 15, 16, 17] [.inr (0, pt 0), .inr (1, pt 0), .inr (2, pt 0), .inl (.int .i64 (8 : Nat)), .inr (3, pt 0), .inr (0, pt 0), .inr (0, pt 0), .inr (0, pt 0), .inl (.agg pl14), .inr (2, pt 0), .inl (.int .i64 (64 : Nat)), .inl (.int .i64 (8 : Nat)), .inl (.int .i64 (0 : Nat))] [(dgc H p fl ln, 96), (au 80 (fun _ => 0), 103), (pl14, 92), (au 80 (r16 p 0), 103)] (by kernel_rfl) (by kernel_rfl) (by kernel_rfl)
  refine loop_up 16 (fun t a w => ∃ (x : Nat → SV) (β : Nat → Nat), St (wdx W0 q) (ov (jk 83 x) ([0, 2, 3, 4, 5, 10, 11, 12, 13, 14, 15, 16, 17].zip [.inr (0, pt 0), .inr (1, pt 0), .inr (2, pt 0), .inl (.int .i64 (8 : Nat)), .inr (3, pt 0), .inr (0, pt 0), .inr (0, pt 0), .inr (0, pt 0), .inl (.agg pl14), .inr (2, pt 0), .inl (.int .i64 (64 : Nat)), .inl (.int .i64 (8 : Nat)), .inl (.int .i64 (t : Nat))])) [(dgc H p fl ln, 96), (au 80 (fun _ => 0), 103), (pl14, 92), (au 80 (r16 p t), 103)] β a w) ⟨x, _, h⟩ ?_
  clear h; rintro t a w hkt ⟨x, β, h⟩
  rcases Nat.lt_or_ge t 16 with hltt | hget
  · refine sym_seq ?_
    refine St.r0 h [(18, .inl (.bool true))] [] ?_ ?_
    · exact oz (k_bi (.int .i64 (t : Nat)) (.int .i64 (16 : Nat)) (.bool true) (lt_i (m := ((t : Nat) : Int)) (n := ((16 : Nat) : Int)) (decide_eq_true (by omega))) rfl rfl) <|
      ok_nil
    clear h; intro β a w h
    refine sym_then ?_
    refine sym_seq ?_
    refine s_ct h ?_
    refine wp_skip ?_
    refine sym_then ?_
    refine sym_seq ?_
    refine blk_in ?_
    refine sym_seq ?_
    refine St.r0 h [(19, .inl (.int .i64 (t : Nat))), (6, .inl (.int .i64 (t : Nat)))] [] ?_ ?_
    · exact oz (k_mv (.inl rfl) rfl) <|
      oz (k_mv (.inr rfl) rfl) <|
      ok_nil
    clear h; intro β a w h
    refine sym_then ?_
    refine sym_seq ?_
    refine St.r0 h [(20, .inr (0, pt 0)), (21, .inr (0, pt 0)), (22, .inr (0, pt 22)), (23, .inl (.int .i64 (t : Nat))), (24, .inl (.int .i64 (8 : Nat))), (25, .inl (.int .i64 ((t * 8) : Nat))), (26, .inl (.int .i64 (t : Nat))), (27, .inl (.int .i64 ((t + 1) : Nat))), (28, .inl (.int .i64 (8 : Nat))), (29, .inl (.int .i64 (((t + 1) * 8) : Nat))), (30, .inr (0, sl (22 + (t * 8)) 8 (128 - (t * 8)))), (31, .inl (.int .i64 (8 : Nat))), (32, .inl (.int .i64 (0 : Nat)))] [] ?_ ?_
    · exact oz (k_mp 0 (pt 0) (.inl rfl) rfl) <|
      oz (k_nc 0 0 rfl rfl) <|
      oz (k_fa 0 0 22 rfl rfl) <|
      oz (k_mv (.inl rfl) rfl) <|
      oz (k_mv (.inl rfl) rfl) <|
      oz (k_bi (.int .i64 (t : Nat)) (.int .i64 (8 : Nat)) (.int .i64 ((t * 8) : Nat)) (mu_i (m := t) (n := 8) (by omega)) rfl rfl) <|
      oz (k_mv (.inl rfl) rfl) <|
      oz (k_bi (.int .i64 (t : Nat)) (.int .i64 (1 : Nat)) (.int .i64 ((t + 1) : Nat)) (ad_i (m := t) (n := 1) (by omega)) rfl rfl) <|
      oz (k_mv (.inl rfl) rfl) <|
      oz (k_bi (.int .i64 ((t + 1) : Nat)) (.int .i64 (8 : Nat)) (.int .i64 (((t + 1) * 8) : Nat)) (mu_i (m := (t + 1)) (n := 8) (by omega)) rfl rfl) <|
      oz (k_s2 0 22 (sl (22 + (t * 8)) 8 (128 - (t * 8))) (.int .i64 ((t * 8) : Nat)) (.int .i64 (((t + 1) * 8) : Nat)) rfl rfl (sl_pc (lo := (t * 8)) (hi := ((t + 1) * 8)) (by omega) (by omega) (by omega) (by omega))) <|
      oz (k_lb 0 (22 + (t * 8)) 8 (128 - (t * 8)) rfl rfl (fun w ad => len_b _ w)) <|
      oz (k_mv (.inl rfl) rfl) <|
      ok_nil
    clear h; intro β a w h
    refine sym_then ?_
    refine blk_in ?_
    replace h := St.sm h 3 (au 80 (bwF p (r16 p t) t 0)) (c := au 80 (r16 p t)) (t := 103) rfl
    obtain ⟨x, h⟩ := St.jn (n := 83) h [0, 2, 3, 4, 5, 6, 10, 11, 12, 13, 14, 15, 16, 17, 18, 19, 20, 21, 22, 23, 24, 25, 26, 27, 28, 29, 30, 31, 32] [.inr (0, pt 0), .inr (1, pt 0), .inr (2, pt 0), .inl (.int .i64 (8 : Nat)), .inr (3, pt 0), .inl (.int .i64 (t : Nat)), .inr (0, pt 0), .inr (0, pt 0), .inr (0, pt 0), .inl (.agg pl14), .inr (2, pt 0), .inl (.int .i64 (64 : Nat)), .inl (.int .i64 (8 : Nat)), .inl (.int .i64 (t : Nat)), .inl (.bool true), .inl (.int .i64 (t : Nat)), .inr (0, pt 0), .inr (0, pt 0), .inr (0, pt 22), .inl (.int .i64 (t : Nat)), .inl (.int .i64 (8 : Nat)), .inl (.int .i64 ((t * 8) : Nat)), .inl (.int .i64 (t : Nat)), .inl (.int .i64 ((t + 1) : Nat)), .inl (.int .i64 (8 : Nat)), .inl (.int .i64 (((t + 1) * 8) : Nat)), .inr (0, sl (22 + (t * 8)) 8 (128 - (t * 8))), .inl (.int .i64 (8 : Nat)), .inl (.int .i64 (0 : Nat))] [(dgc H p fl ln, 96), (au 80 (fun _ => 0), 103), (pl14, 92), (au 80 (bwF p (r16 p t) t 0), 103)] (by kernel_rfl) (by kernel_rfl) (by kernel_rfl)
    refine loop_up 8 (fun j a w => ∃ (x : Nat → SV) (β : Nat → Nat), St (wdx W0 q) (ov (jk 83 x) ([0, 2, 3, 4, 5, 6, 10, 11, 12, 13, 14, 15, 16, 17, 18, 19, 20, 21, 22, 23, 24, 25, 26, 27, 28, 29, 30, 31, 32].zip [.inr (0, pt 0), .inr (1, pt 0), .inr (2, pt 0), .inl (.int .i64 (8 : Nat)), .inr (3, pt 0), .inl (.int .i64 (t : Nat)), .inr (0, pt 0), .inr (0, pt 0), .inr (0, pt 0), .inl (.agg pl14), .inr (2, pt 0), .inl (.int .i64 (64 : Nat)), .inl (.int .i64 (8 : Nat)), .inl (.int .i64 (t : Nat)), .inl (.bool true), .inl (.int .i64 (t : Nat)), .inr (0, pt 0), .inr (0, pt 0), .inr (0, pt 22), .inl (.int .i64 (t : Nat)), .inl (.int .i64 (8 : Nat)), .inl (.int .i64 ((t * 8) : Nat)), .inl (.int .i64 (t : Nat)), .inl (.int .i64 ((t + 1) : Nat)), .inl (.int .i64 (8 : Nat)), .inl (.int .i64 (((t + 1) * 8) : Nat)), .inr (0, sl (22 + (t * 8)) 8 (128 - (t * 8))), .inl (.int .i64 (8 : Nat)), .inl (.int .i64 (j : Nat))])) [(dgc H p fl ln, 96), (au 80 (fun _ => 0), 103), (pl14, 92), (au 80 (bwF p (r16 p t) t j), 103)] β a w) ⟨x, _, h⟩ ?_
    clear h; rintro j a w hkj ⟨x, β, h⟩
    rcases Nat.lt_or_ge j 8 with hltj | hgej
    · refine sym_seq ?_
      refine St.r0 h [(33, .inl (.bool true))] [] ?_ ?_
      · exact oz (k_bi (.int .i64 (j : Nat)) (.int .i64 (8 : Nat)) (.bool true) (lt_i (m := ((j : Nat) : Int)) (n := ((8 : Nat) : Int)) (decide_eq_true (by omega))) rfl rfl) <|
        ok_nil
      clear h; intro β a w h
      refine sym_then ?_
      refine sym_seq ?_
      refine s_ct h ?_
      refine wp_skip ?_
      refine sym_then ?_
      refine sym_seq ?_
      refine blk_in ?_
      refine sym_seq ?_
      refine St.r0 h [(34, .inr (0, pt ((22 + (t * 8)) + j))), (35, .inl (.int .u8 ((p (t * 8 + j)) : Nat))), (8, .inl (.int .u8 ((p (t * 8 + j)) : Nat)))] [nn, eR 0] ?_ ?_
      · exact oc (k_ib 0 (((22 + (t * 8)) + j)) (sl (22 + (t * 8)) 8 (128 - (t * 8))) (.int .i64 (j : Nat)) (ix_pc (i := j) (by omega)) rfl rfl) <|
        oc (k_ld 0 (((22 + (t * 8)) + j)) (.int .u8 ((p (t * 8 + j)) : Nat)) (c := dgc H p fl ln) (ld_dg8' (H := H) (p := p) (fl := fl) (ln := ln) (t0 := 96) (i := t * 8 + j) (by omega) (by omega)) rfl rfl) <|
        oz (k_mv (.inr rfl) rfl) <|
        ok_nil
      clear h; intro β a w h
      refine sym_then ?_
      refine St.rg h [(36, .inl (.int .i64 (t : Nat))), (37, .inl (.int .i64 (t : Nat))), (38, .inr (3, pt t)), (39, .inl (.int .u64 ((bwF p (r16 p t) t j t) : Nat))), (40, .inl (.int .u64 (((bwF p (r16 p t) t j t) * 2 ^ 8 % B64) : Nat))), (41, .inl (.int .u8 ((p (t * 8 + j)) : Nat))), (42, .inl (.int .u64 ((p (t * 8 + j)) : Nat))), (43, .inl (.int .u64 ((((bwF p (r16 p t) t j t) * 2 ^ 8 % B64) ||| (p (t * 8 + j))) : Nat))), (44, .inr (3, pt t))] [] [(3, au 80 (updN (bwF p (r16 p t) t j) t (((bwF p (r16 p t) t j t) * 2 ^ 8 % B64) ||| (p (t * 8 + j)))))] [nn, nn, nn, eR 3, nn, nn, nn, nn, nn, eS 3] ?_ ?_
      · exact oc (k_mv (.inl rfl) rfl) <|
        oc (k_mv (.inl rfl) rfl) <|
        oc (k_ia 3 0 t (.int .i64 (t : Nat)) (ix80 (i := t) (by omega)) rfl rfl) <|
        oc (k_ld 3 t (.int .u64 ((bwF p (r16 p t) t j t) : Nat)) (c := au 80 (bwF p (r16 p t) t j)) (ld_au (n := 80) (F := (bwF p (r16 p t) t j)) (i := t) (t0 := 103) (by omega)) rfl rfl) <|
        oc (k_bi (.int .u64 ((bwF p (r16 p t) t j t) : Nat)) (.int .u64 (8 : Nat)) (.int .u64 (((bwF p (r16 p t) t j t) * 2 ^ 8 % B64) : Nat)) (sl_8 (m := (bwF p (r16 p t) t j t))) rfl rfl) <|
        oc (k_mv (.inl rfl) rfl) <|
        oc (k_co (.int .u8 ((p (t * 8 + j)) : Nat)) (.int .u64 ((p (t * 8 + j)) : Nat)) (cv_bw (n := (p (t * 8 + j))) (hp _)) rfl rfl) <|
        oc (k_bi (.int .u64 (((bwF p (r16 p t) t j t) * 2 ^ 8 % B64) : Nat)) (.int .u64 ((p (t * 8 + j)) : Nat)) (.int .u64 ((((bwF p (r16 p t) t j t) * 2 ^ 8 % B64) ||| (p (t * 8 + j))) : Nat)) (or_w (m := ((bwF p (r16 p t) t j t) * 2 ^ 8 % B64)) (n := (p (t * 8 + j))) (mod_B _) (b256 (hp _))) rfl rfl) <|
        oc (k_ia 3 0 t (.int .i64 (t : Nat)) (ix80 (i := t) (by omega)) rfl rfl) <|
        oc (k_st 3 t (.int .u64 ((((bwF p (r16 p t) t j t) * 2 ^ 8 % B64) ||| (p (t * 8 + j))) : Nat)) (c := au 80 (bwF p (r16 p t) t j)) (n := au 80 (updN (bwF p (r16 p t) t j) t (((bwF p (r16 p t) t j t) * 2 ^ 8 % B64) ||| (p (t * 8 + j))))) (st_au (n := 80) (F := (bwF p (r16 p t) t j)) (i := t) (v := (((bwF p (r16 p t) t j t) * 2 ^ 8 % B64) ||| (p (t * 8 + j)))) (t0 := 103) (by omega)) rfl rfl) <|
        ok_nil
      clear h; intro β a w h
      refine blk_norm ?_
      refine sym_then ?_
      refine St.r0 h [(45, .inl (.int .i64 ((j + 1) : Nat))), (32, .inl (.int .i64 ((j + 1) : Nat)))] [eO] ?_ ?_
      · exact oc (k_b0 (.int .i64 (j : Nat)) (.int .i64 (1 : Nat)) (.int .i64 ((j + 1) : Nat)) (ad_i (m := j) (n := 1) (by omega)) rfl rfl) <|
        oz (k_mv (.inl rfl) rfl) <|
        ok_nil
      clear h; intro β a w h
      replace h := St.sm h 3 (au 80 (bwF p (r16 p t) t (j + 1))) (c := au 80 (updN (bwF p (r16 p t) t j) t (((bwF p (r16 p t) t j t) * 2 ^ 8 % B64) ||| (p (t * 8 + j))))) (t := 103) rfl
      obtain ⟨x, h⟩ := St.jn (n := 83) h [0, 2, 3, 4, 5, 6, 10, 11, 12, 13, 14, 15, 16, 17, 18, 19, 20, 21, 22, 23, 24, 25, 26, 27, 28, 29, 30, 31, 32] [.inr (0, pt 0), .inr (1, pt 0), .inr (2, pt 0), .inl (.int .i64 (8 : Nat)), .inr (3, pt 0), .inl (.int .i64 (t : Nat)), .inr (0, pt 0), .inr (0, pt 0), .inr (0, pt 0), .inl (.agg pl14), .inr (2, pt 0), .inl (.int .i64 (64 : Nat)), .inl (.int .i64 (8 : Nat)), .inl (.int .i64 (t : Nat)), .inl (.bool true), .inl (.int .i64 (t : Nat)), .inr (0, pt 0), .inr (0, pt 0), .inr (0, pt 22), .inl (.int .i64 (t : Nat)), .inl (.int .i64 (8 : Nat)), .inl (.int .i64 ((t * 8) : Nat)), .inl (.int .i64 (t : Nat)), .inl (.int .i64 ((t + 1) : Nat)), .inl (.int .i64 (8 : Nat)), .inl (.int .i64 (((t + 1) * 8) : Nat)), .inr (0, sl (22 + (t * 8)) 8 (128 - (t * 8))), .inl (.int .i64 (8 : Nat)), .inl (.int .i64 ((j + 1) : Nat))] [(dgc H p fl ln, 96), (au 80 (fun _ => 0), 103), (pl14, 92), (au 80 (bwF p (r16 p t) t (j + 1)), 103)] (by kernel_rfl) (by kernel_rfl) (by kernel_rfl)
      exact ⟨hltj, x, _, h⟩
    · obtain rfl : 8 = j := by omega
      refine sym_seq ?_
      refine St.r0 h [(33, .inl (.bool false))] [] ?_ ?_
      · exact oz (k_bi (.int .i64 (8 : Nat)) (.int .i64 (8 : Nat)) (.bool false) (lt_i (m := ((8 : Nat) : Int)) (n := ((8 : Nat) : Int)) (decide_eq_false (by omega))) rfl rfl) <|
        ok_nil
      clear h; intro β a w h
      refine sym_then ?_
      refine sym_seq ?_
      refine s_cf h ?_
      refine wp_exit ?_
      refine then_exit ?_
      refine then_exit ?_
      refine blk_exit ?_
      refine blk_norm ?_
      refine sym_then ?_
      refine St.r0 h [(46, .inl (.int .i64 ((t + 1) : Nat))), (17, .inl (.int .i64 ((t + 1) : Nat)))] [eO] ?_ ?_
      · exact oc (k_b0 (.int .i64 (t : Nat)) (.int .i64 (1 : Nat)) (.int .i64 ((t + 1) : Nat)) (ad_i (m := t) (n := 1) (by omega)) rfl rfl) <|
        oz (k_mv (.inl rfl) rfl) <|
        ok_nil
      clear h; intro β a w h
      replace h := St.sm h 3 (au 80 (r16 p (t + 1))) (c := au 80 (bwF p (r16 p t) t 8)) (t := 103) rfl
      obtain ⟨x, h⟩ := St.jn (n := 83) h [0, 2, 3, 4, 5, 10, 11, 12, 13, 14, 15, 16, 17] [.inr (0, pt 0), .inr (1, pt 0), .inr (2, pt 0), .inl (.int .i64 (8 : Nat)), .inr (3, pt 0), .inr (0, pt 0), .inr (0, pt 0), .inr (0, pt 0), .inl (.agg pl14), .inr (2, pt 0), .inl (.int .i64 (64 : Nat)), .inl (.int .i64 (8 : Nat)), .inl (.int .i64 ((t + 1) : Nat))] [(dgc H p fl ln, 96), (au 80 (fun _ => 0), 103), (pl14, 92), (au 80 (r16 p (t + 1)), 103)] (by kernel_rfl) (by kernel_rfl) (by kernel_rfl)
      exact ⟨hltt, x, _, h⟩
  · obtain rfl : 16 = t := by omega
    refine sym_seq ?_
    refine St.r0 h [(18, .inl (.bool false))] [] ?_ ?_
    · exact oz (k_bi (.int .i64 (16 : Nat)) (.int .i64 (16 : Nat)) (.bool false) (lt_i (m := ((16 : Nat) : Int)) (n := ((16 : Nat) : Int)) (decide_eq_false (by omega))) rfl rfl) <|
      ok_nil
    clear h; intro β a w h
    refine sym_then ?_
    refine sym_seq ?_
    refine s_cf h ?_
    refine wp_exit ?_
    refine then_exit ?_
    refine then_exit ?_
    refine blk_exit ?_
    refine sym_then ?_
    refine sym_seq ?_
    refine sym_seq ?_
    refine St.r0 h [(9, .inl (.int .i64 (16 : Nat)))] [] ?_ ?_
    · exact oz (k_mv (.inr rfl) rfl) <|
      ok_nil
    clear h; intro β a w h
    refine sym_then ?_
    refine blk_in ?_
    replace h := St.sm h 3 (au 80 (r80 p 0)) (c := au 80 (r16 p 16)) (t := 103) rfl
    replace h := St.ss h 9 (.int .i64 ((16 + 0) : Nat)) (v := .int .i64 (16 : Nat)) rfl
    obtain ⟨x, h⟩ := St.jn (n := 83) h [0, 2, 3, 4, 5, 9, 10, 11, 12, 13, 14, 15, 16, 17, 18] [.inr (0, pt 0), .inr (1, pt 0), .inr (2, pt 0), .inl (.int .i64 (8 : Nat)), .inr (3, pt 0), .inl (.int .i64 ((16 + 0) : Nat)), .inr (0, pt 0), .inr (0, pt 0), .inr (0, pt 0), .inl (.agg pl14), .inr (2, pt 0), .inl (.int .i64 (64 : Nat)), .inl (.int .i64 (8 : Nat)), .inl (.int .i64 (16 : Nat)), .inl (.bool false)] [(dgc H p fl ln, 96), (au 80 (fun _ => 0), 103), (pl14, 92), (au 80 (r80 p 0), 103)] (by kernel_rfl) (by kernel_rfl) (by kernel_rfl)
    refine loop_up 64 (fun k a w => ∃ (x : Nat → SV) (β : Nat → Nat), St (wdx W0 q) (ov (jk 83 x) ([0, 2, 3, 4, 5, 9, 10, 11, 12, 13, 14, 15, 16, 17, 18].zip [.inr (0, pt 0), .inr (1, pt 0), .inr (2, pt 0), .inl (.int .i64 (8 : Nat)), .inr (3, pt 0), .inl (.int .i64 ((16 + k) : Nat)), .inr (0, pt 0), .inr (0, pt 0), .inr (0, pt 0), .inl (.agg pl14), .inr (2, pt 0), .inl (.int .i64 (64 : Nat)), .inl (.int .i64 (8 : Nat)), .inl (.int .i64 (16 : Nat)), .inl (.bool false)])) [(dgc H p fl ln, 96), (au 80 (fun _ => 0), 103), (pl14, 92), (au 80 (r80 p k), 103)] β a w) ⟨x, _, h⟩ ?_
    clear h; rintro k a w hkk ⟨x, β, h⟩
    rcases Nat.lt_or_ge k 64 with hltk | hgek
    · refine sym_seq ?_
      refine sym_seq ?_
      refine St.r0 h [(47, .inl (.int .i64 ((16 + k) : Nat))), (48, .inr (2, pt 1)), (49, .inl (.int .i64 (80 : Nat))), (50, .inl (.bool true))] [nn, nn, eR 2] ?_ ?_
      · exact oc (k_mv (.inl rfl) rfl) <|
        oc (k_fa 2 0 1 rfl rfl) <|
        oc (k_ld 2 1 (.int .i64 (80 : Nat)) (c := pl14) (ldpI (i := 1) (v := 80) 92 (by decide) rfl) rfl rfl) <|
        oz (k_bi (.int .i64 ((16 + k) : Nat)) (.int .i64 (80 : Nat)) (.bool true) (lt_i (m := (((16 + k) : Nat) : Int)) (n := ((80 : Nat) : Int)) (decide_eq_true (by omega))) rfl rfl) <|
        ok_nil
      clear h; intro β a w h
      refine sym_then ?_
      refine s_ct h ?_
      refine wp_skip ?_
      refine sym_then ?_
      refine sym_seq ?_
      refine blk_in ?_
      refine St.rg h [(53, .inl (.int .i64 ((16 + k) : Nat))), (54, .inr (0, pt 0)), (55, .inl (.int .i64 ((16 + k) : Nat))), (56, .inl (.int .i64 (((16 + k) - 2) : Nat))), (57, .inr (3, pt ((16 + k) - 2))), (58, .inl (.int .u64 ((r80 p k ((16 + k) - 2)) : Nat))), (59, .inr (2, pt 2)), (60, .inl (.agg (i3 19 61 6))), (61, .inl (.int .u64 ((loW (r80 p k ((16 + k) - 2)) 19 61 6) : Nat))), (62, .inl (.int .i64 ((16 + k) : Nat))), (63, .inl (.int .i64 (((16 + k) - 7) : Nat))), (64, .inr (3, pt ((16 + k) - 7))), (65, .inl (.int .u64 ((r80 p k ((16 + k) - 7)) : Nat))), (66, .inl (.int .u64 (((((loW (r80 p k ((16 + k) - 2)) 19 61 6) + (r80 p k ((16 + k) - 7))) % B64) : Nat) : Int))), (67, .inr (0, pt 0)), (68, .inl (.int .i64 ((16 + k) : Nat))), (69, .inl (.int .i64 (((16 + k) - 15) : Nat))), (70, .inr (3, pt ((16 + k) - 15))), (71, .inl (.int .u64 ((r80 p k ((16 + k) - 15)) : Nat))), (72, .inr (2, pt 5)), (73, .inl (.agg (i3 1 8 7))), (74, .inl (.int .u64 ((loW (r80 p k ((16 + k) - 15)) 1 8 7) : Nat))), (75, .inl (.int .u64 (((((((loW (r80 p k ((16 + k) - 2)) 19 61 6) + (r80 p k ((16 + k) - 7))) % B64) + (loW (r80 p k ((16 + k) - 15)) 1 8 7)) % B64) : Nat) : Int))), (76, .inl (.int .i64 ((16 + k) : Nat))), (77, .inl (.int .i64 (((16 + k) - 16) : Nat))), (78, .inr (3, pt ((16 + k) - 16))), (79, .inl (.int .u64 ((r80 p k ((16 + k) - 16)) : Nat))), (80, .inl (.int .u64 (((((((((loW (r80 p k ((16 + k) - 2)) 19 61 6) + (r80 p k ((16 + k) - 7))) % B64) + (loW (r80 p k ((16 + k) - 15)) 1 8 7)) % B64) + (r80 p k ((16 + k) - 16))) % B64) : Nat) : Int))), (81, .inr (3, pt (16 + k)))] [] [(3, au 80 (updN (r80 p k) (16 + k) (((((((loW (r80 p k ((16 + k) - 2)) 19 61 6) + (r80 p k ((16 + k) - 7))) % B64) + (loW (r80 p k ((16 + k) - 15)) 1 8 7)) % B64) + (r80 p k ((16 + k) - 16))) % B64)))] [nn, nn, nn, nn, nn, eR 3, nn, eR 2, eR 0, nn, nn, nn, eR 3, nn, nn, nn, nn, nn, eR 3, nn, eR 2, eR 0, nn, nn, nn, nn, eR 3, nn, nn, eS 3] ?_ ?_
      · exact oc (k_mv (.inl rfl) rfl) <|
        oc (k_mp 0 (pt 0) (.inl rfl) rfl) <|
        oc (k_mv (.inl rfl) rfl) <|
        oc (k_bi (.int .i64 ((16 + k) : Nat)) (.int .i64 (2 : Nat)) (.int .i64 (((16 + k) - 2) : Nat)) (sb_zn (m := (((16 + k) : Nat) : Int)) (n := ((2 : Nat) : Int)) (k := ((16 + k) - 2)) (by omega) (by omega)) rfl rfl) <|
        oc (k_ia 3 0 (((16 + k) - 2)) (.int .i64 (((16 + k) - 2) : Nat)) (ix80 (i := ((16 + k) - 2)) (by omega)) rfl rfl) <|
        oc (k_ld 3 (((16 + k) - 2)) (.int .u64 ((r80 p k ((16 + k) - 2)) : Nat)) (c := au 80 (r80 p k)) (ld_au (n := 80) (F := (r80 p k)) (i := ((16 + k) - 2)) (t0 := 103) (by omega)) rfl rfl) <|
        oc (k_fa 2 0 2 rfl rfl) <|
        oc (k_ld 2 2 (.agg (i3 19 61 6)) (c := pl14) (ldp3 (i := 2) (a := 19) (b := 61) (c := 6) 92 (by decide) rfl rfl rfl) rfl rfl) <|
        oc (k_cb 108 (fun q => #[.pointer (some ⟨q, 0, none⟩), .int .u64 ((r80 p k ((16 + k) - 2)) : Nat), .agg (i3 19 61 6)]) (.int .u64 ((loW (r80 p k ((16 + k) - 2)) 19 61 6) : Nat)) 0 54 (fun w q _ hq => low_d (r80_lt hp _ _) (by decide) (by decide) (by decide) hq) rfl rfl (by simp) (fm := pt 0) (t0 := 96) (c := dgc H p fl ln)) <|
        oc (k_mv (.inl rfl) rfl) <|
        oc (k_bi (.int .i64 ((16 + k) : Nat)) (.int .i64 (7 : Nat)) (.int .i64 (((16 + k) - 7) : Nat)) (sb_zn (m := (((16 + k) : Nat) : Int)) (n := ((7 : Nat) : Int)) (k := ((16 + k) - 7)) (by omega) (by omega)) rfl rfl) <|
        oc (k_ia 3 0 (((16 + k) - 7)) (.int .i64 (((16 + k) - 7) : Nat)) (ix80 (i := ((16 + k) - 7)) (by omega)) rfl rfl) <|
        oc (k_ld 3 (((16 + k) - 7)) (.int .u64 ((r80 p k ((16 + k) - 7)) : Nat)) (c := au 80 (r80 p k)) (ld_au (n := 80) (F := (r80 p k)) (i := ((16 + k) - 7)) (t0 := 103) (by omega)) rfl rfl) <|
        oc (k_bi (.int .u64 ((loW (r80 p k ((16 + k) - 2)) 19 61 6) : Nat)) (.int .u64 ((r80 p k ((16 + k) - 7)) : Nat)) (.int .u64 (((((loW (r80 p k ((16 + k) - 2)) 19 61 6) + (r80 p k ((16 + k) - 7))) % B64) : Nat) : Int)) (ad_w (m := (loW (r80 p k ((16 + k) - 2)) 19 61 6)) (n := (r80 p k ((16 + k) - 7)))) rfl rfl) <|
        oc (k_mp 0 (pt 0) (.inl rfl) rfl) <|
        oc (k_mv (.inl rfl) rfl) <|
        oc (k_bi (.int .i64 ((16 + k) : Nat)) (.int .i64 (15 : Nat)) (.int .i64 (((16 + k) - 15) : Nat)) (sb_zn (m := (((16 + k) : Nat) : Int)) (n := ((15 : Nat) : Int)) (k := ((16 + k) - 15)) (by omega) (by omega)) rfl rfl) <|
        oc (k_ia 3 0 (((16 + k) - 15)) (.int .i64 (((16 + k) - 15) : Nat)) (ix80 (i := ((16 + k) - 15)) (by omega)) rfl rfl) <|
        oc (k_ld 3 (((16 + k) - 15)) (.int .u64 ((r80 p k ((16 + k) - 15)) : Nat)) (c := au 80 (r80 p k)) (ld_au (n := 80) (F := (r80 p k)) (i := ((16 + k) - 15)) (t0 := 103) (by omega)) rfl rfl) <|
        oc (k_fa 2 0 5 rfl rfl) <|
        oc (k_ld 2 5 (.agg (i3 1 8 7)) (c := pl14) (ldp3 (i := 5) (a := 1) (b := 8) (c := 7) 92 (by decide) rfl rfl rfl) rfl rfl) <|
        oc (k_cb 108 (fun q => #[.pointer (some ⟨q, 0, none⟩), .int .u64 ((r80 p k ((16 + k) - 15)) : Nat), .agg (i3 1 8 7)]) (.int .u64 ((loW (r80 p k ((16 + k) - 15)) 1 8 7) : Nat)) 0 67 (fun w q _ hq => low_d (r80_lt hp _ _) (by decide) (by decide) (by decide) hq) rfl rfl (by simp) (fm := pt 0) (t0 := 96) (c := dgc H p fl ln)) <|
        oc (k_bi (.int .u64 (((((loW (r80 p k ((16 + k) - 2)) 19 61 6) + (r80 p k ((16 + k) - 7))) % B64) : Nat) : Int)) (.int .u64 ((loW (r80 p k ((16 + k) - 15)) 1 8 7) : Nat)) (.int .u64 (((((((loW (r80 p k ((16 + k) - 2)) 19 61 6) + (r80 p k ((16 + k) - 7))) % B64) + (loW (r80 p k ((16 + k) - 15)) 1 8 7)) % B64) : Nat) : Int)) (ad_w (m := (((loW (r80 p k ((16 + k) - 2)) 19 61 6) + (r80 p k ((16 + k) - 7))) % B64)) (n := (loW (r80 p k ((16 + k) - 15)) 1 8 7))) rfl rfl) <|
        oc (k_mv (.inl rfl) rfl) <|
        oc (k_bi (.int .i64 ((16 + k) : Nat)) (.int .i64 (16 : Nat)) (.int .i64 (((16 + k) - 16) : Nat)) (sb_zn (m := (((16 + k) : Nat) : Int)) (n := ((16 : Nat) : Int)) (k := ((16 + k) - 16)) (by omega) (by omega)) rfl rfl) <|
        oc (k_ia 3 0 (((16 + k) - 16)) (.int .i64 (((16 + k) - 16) : Nat)) (ix80 (i := ((16 + k) - 16)) (by omega)) rfl rfl) <|
        oc (k_ld 3 (((16 + k) - 16)) (.int .u64 ((r80 p k ((16 + k) - 16)) : Nat)) (c := au 80 (r80 p k)) (ld_au (n := 80) (F := (r80 p k)) (i := ((16 + k) - 16)) (t0 := 103) (by omega)) rfl rfl) <|
        oc (k_bi (.int .u64 (((((((loW (r80 p k ((16 + k) - 2)) 19 61 6) + (r80 p k ((16 + k) - 7))) % B64) + (loW (r80 p k ((16 + k) - 15)) 1 8 7)) % B64) : Nat) : Int)) (.int .u64 ((r80 p k ((16 + k) - 16)) : Nat)) (.int .u64 (((((((((loW (r80 p k ((16 + k) - 2)) 19 61 6) + (r80 p k ((16 + k) - 7))) % B64) + (loW (r80 p k ((16 + k) - 15)) 1 8 7)) % B64) + (r80 p k ((16 + k) - 16))) % B64) : Nat) : Int)) (ad_w (m := (((((loW (r80 p k ((16 + k) - 2)) 19 61 6) + (r80 p k ((16 + k) - 7))) % B64) + (loW (r80 p k ((16 + k) - 15)) 1 8 7)) % B64)) (n := (r80 p k ((16 + k) - 16)))) rfl rfl) <|
        oc (k_ia 3 0 ((16 + k)) (.int .i64 ((16 + k) : Nat)) (ix80 (i := (16 + k)) (by omega)) rfl rfl) <|
        oc (k_st 3 ((16 + k)) (.int .u64 (((((((((loW (r80 p k ((16 + k) - 2)) 19 61 6) + (r80 p k ((16 + k) - 7))) % B64) + (loW (r80 p k ((16 + k) - 15)) 1 8 7)) % B64) + (r80 p k ((16 + k) - 16))) % B64) : Nat) : Int)) (c := au 80 (r80 p k)) (n := au 80 (updN (r80 p k) (16 + k) (((((((loW (r80 p k ((16 + k) - 2)) 19 61 6) + (r80 p k ((16 + k) - 7))) % B64) + (loW (r80 p k ((16 + k) - 15)) 1 8 7)) % B64) + (r80 p k ((16 + k) - 16))) % B64))) (st_au (n := 80) (F := (r80 p k)) (i := (16 + k)) (v := (((((((loW (r80 p k ((16 + k) - 2)) 19 61 6) + (r80 p k ((16 + k) - 7))) % B64) + (loW (r80 p k ((16 + k) - 15)) 1 8 7)) % B64) + (r80 p k ((16 + k) - 16))) % B64)) (t0 := 103) (by omega)) rfl rfl) <|
        ok_nil
      clear h; intro β a w h
      refine blk_norm ?_
      refine sym_then ?_
      refine St.r0 h [(51, .inl (.int .i64 ((16 + k) : Nat))), (52, .inl (.int .i64 (((16 + k) + 1) : Nat))), (9, .inl (.int .i64 (((16 + k) + 1) : Nat)))] [eO] ?_ ?_
      · exact oc (k_m0 rfl rfl) <|
        oz (k_bi (.int .i64 ((16 + k) : Nat)) (.int .i64 (1 : Nat)) (.int .i64 (((16 + k) + 1) : Nat)) (ad_i (m := (16 + k)) (n := 1) (by omega)) rfl rfl) <|
        oz (k_mv (.inr rfl) rfl) <|
        ok_nil
      clear h; intro β a w h
      replace h := St.sm h 3 (au 80 (r80 p (k + 1))) (c := au 80 (updN (r80 p k) (16 + k) (((((((loW (r80 p k ((16 + k) - 2)) 19 61 6) + (r80 p k ((16 + k) - 7))) % B64) + (loW (r80 p k ((16 + k) - 15)) 1 8 7)) % B64) + (r80 p k ((16 + k) - 16))) % B64))) (t := 103) rfl
      replace h := St.ss h 9 (.int .i64 ((16 + (k + 1)) : Nat)) (v := .int .i64 (((16 + k) + 1) : Nat)) rfl
      obtain ⟨x, h⟩ := St.jn (n := 83) h [0, 2, 3, 4, 5, 9, 10, 11, 12, 13, 14, 15, 16, 17, 18] [.inr (0, pt 0), .inr (1, pt 0), .inr (2, pt 0), .inl (.int .i64 (8 : Nat)), .inr (3, pt 0), .inl (.int .i64 ((16 + (k + 1)) : Nat)), .inr (0, pt 0), .inr (0, pt 0), .inr (0, pt 0), .inl (.agg pl14), .inr (2, pt 0), .inl (.int .i64 (64 : Nat)), .inl (.int .i64 (8 : Nat)), .inl (.int .i64 (16 : Nat)), .inl (.bool false)] [(dgc H p fl ln, 96), (au 80 (fun _ => 0), 103), (pl14, 92), (au 80 (r80 p (k + 1)), 103)] (by kernel_rfl) (by kernel_rfl) (by kernel_rfl)
      exact ⟨hltk, x, _, h⟩
    · obtain rfl : 64 = k := by omega
      refine sym_seq ?_
      refine sym_seq ?_
      refine St.r0 h [(47, .inl (.int .i64 ((16 + 64) : Nat))), (48, .inr (2, pt 1)), (49, .inl (.int .i64 (80 : Nat))), (50, .inl (.bool false))] [nn, nn, eR 2] ?_ ?_
      · exact oc (k_mv (.inl rfl) rfl) <|
        oc (k_fa 2 0 1 rfl rfl) <|
        oc (k_ld 2 1 (.int .i64 (80 : Nat)) (c := pl14) (ldpI (i := 1) (v := 80) 92 (by decide) rfl) rfl rfl) <|
        oz (k_bi (.int .i64 ((16 + 64) : Nat)) (.int .i64 (80 : Nat)) (.bool false) (lt_i (m := (((16 + 64) : Nat) : Int)) (n := ((80 : Nat) : Int)) (decide_eq_false (by omega))) rfl rfl) <|
        ok_nil
      clear h; intro β a w h
      refine sym_then ?_
      refine s_cf h ?_
      refine wp_exit ?_
      refine then_exit ?_
      refine then_exit ?_
      refine blk_exit ?_
      refine sym_then ?_
      refine sym_seq ?_
      refine St.rg h [(82, .inl (.agg (au 80 (r80 p 64))))] [] [(1, au 80 (r80 p 64))] [eR 3, eS 1] ?_ ?_
      · exact oc (k_ld 3 0 (.agg (au 80 (r80 p 64))) (c := au 80 (r80 p 64)) (ld80 (F := (r80 p 64)) 103) rfl rfl) <|
        oc (k_st 1 0 (.agg (au 80 (r80 p 64))) (c := au 80 (fun _ => 0)) (n := au 80 (r80 p 64)) (st80 (F := (r80 p 64)) (c := au 80 (fun _ => 0)) 103 (au_size _ _)) rfl rfl) <|
        ok_nil
      clear h; intro β a w h
      refine sym_then ?_
      refine wp_ret ?_
      exact s_rqc (b := 1) (t1 := 103) (c1 := au 80 (r80 p 64)) h hq Tryz.results103 Tryz.underlying103 (fun hb => ⟨rfl, hb⟩) (by rw [au_size]; kernel_rfl)
end Go.Proofs.YtacokkedomjgpaaGreatDoor.Lo

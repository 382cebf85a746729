/- Loops and blocks, by slots; whole numbers. -/
import Derived.Test.YtchbkkjjbdgdoaaX4
import Derived.Test.YtchbkkjjbdgdoaaY
import Derived.Test.YtchbkkjjbdgdoaaRows
import Derived.LoopN
namespace Go.Proofs.Ytchbkkjjbdgdoaa
open Go.RowKit

section
variable {P : Program} {a : Act} {w : World} {Q : Exit → Act → World → Prop}
theorem loop_up {c : Code} (n : Nat) (J : Nat → Act → World → Prop) (h0 : J 0 a w) (round : ∀ k a w, k ≤ n → J k a w → c.wp P (Exit.then (fun a' w' => k < n ∧ J (k + 1) a' w') Q) a w) : (Code.loop c).wp P Q a w := by
  refine wp_loop_rounds (n + 1) ?_
  have key : ∀ d k a w, k + d = n → J k a w → Code.rounds P c Q (d + 1) a w := by
    intro d
    induction d with
    | zero =>
      intro k a w hk hJ
      rw [rounds_succ]
      refine wp_mono (round k a w (by omega) hJ) ?_
      intro e a' w' he
      cases e <;> simp only [Exit.then] at he ⊢
      case normal => exact absurd he.1 (by omega)
      all_goals exact he
    | succ d ih =>
      intro k a w hk hJ
      rw [rounds_succ]
      refine wp_mono (round k a w (by omega) hJ) ?_
      intro e a' w' he
      cases e <;> simp only [Exit.then] at he ⊢
      case normal => exact ih (k + 1) a' w' (by omega) he.2
      all_goals exact he
  exact key n 0 a w (by omega) h0
theorem blk_in {id : Nat} {c : Code} (h : c.wp P (Exit.inBlock id Q) a w) : (Code.block id c).wp P Q a w := wp_block h
theorem blk_exit {id : Nat} (h : Q .normal a w) : Exit.inBlock id Q (.exit id) a w := by simp only [Exit.inBlock, if_true]; exact h
theorem blk_norm {id : Nat} (h : Q .normal a w) : Exit.inBlock id Q .normal a w := h
theorem blk_ret {id : Nat} (h : Q .ret a w) : Exit.inBlock id Q .ret a w := h
theorem blk_pass {id id' : Nat} (hne : Nat.beq id' id = false) (h : Q (.exit id') a w) : Exit.inBlock id Q (.exit id') a w := by
  simp only [Exit.inBlock]
  rw [if_neg (fun e => by rw [e, Nat.beq_refl] at hne; cases hne)]; exact h
theorem then_norm {K : Act → World → Prop} (h : K a w) : Exit.then K Q .normal a w := h
theorem then_exit {K : Act → World → Prop} {id : Nat} (h : Q (.exit id) a w) : Exit.then K Q (.exit id) a w := h
end

/-- Whole numbers in a row. -/
def ai (n : Nat) (F : Nat → Nat) : Array Value := arr n fun i => .int .i64 ((F i : Nat) : Int)
def updN (F : Nat → Nat) (i v : Nat) : Nat → Nat := fun j => if j = i then v else F j
theorem ai_size (n : Nat) (F : Nat → Nat) : (ai n F).size = n := arr_size _ _
theorem ai_congr {n : Nat} {F G : Nat → Nat} (h : ∀ i, i < n → F i = G i) : ai n F = ai n G := arr_congr fun i hi => by rw [h i hi]
theorem ai_set (n : Nat) (F : Nat → Nat) (i v : Nat) : (ai n F).setIfInBounds i (.int .i64 ((v : Nat) : Int)) = ai n (updN F i v) := by
  unfold ai
  rw [arr_set]
  refine arr_congr fun j _ => ?_
  unfold upd updN
  by_cases h : j = i <;> simp [h]

section
variable {w : World} {x u : Operand}
theorem wrapI (n : Int) (h1 : -9223372036854775808 ≤ n) (h2 : n < 9223372036854775808) : IntKind.i64.wrap n = n := by rw [IntKind.wrap_i64]; omega
theorem ad_i {m n : Nat} (h : m + n < 9223372036854775808) (w : World) : (do eqGuard .add 3 x u (.int .i64 ((m : Nat) : Int)) (.int .i64 ((n : Nat) : Int)); binOp .add 3 (.int .i64 ((m : Nat) : Int)) (.int .i64 ((n : Nat) : Int))).run Try.prog w = .ok (.int .i64 ((m + n : Nat) : Int)) w := by
  have h1 : IntKind.i64.wrap ((m : Int) + (n : Int)) = ((m + n : Nat) : Int) := by rw [wrapI _ (by omega) (by omega)]; omega
  simp [eqGuard, binOp, go_sem, h1]
theorem mu_i {m n : Nat} (h : m * n < 9223372036854775808) (w : World) : (do eqGuard .mul 3 x u (.int .i64 ((m : Nat) : Int)) (.int .i64 ((n : Nat) : Int)); binOp .mul 3 (.int .i64 ((m : Nat) : Int)) (.int .i64 ((n : Nat) : Int))).run Try.prog w = .ok (.int .i64 ((m * n : Nat) : Int)) w := by
  have h1 : IntKind.i64.wrap ((m : Int) * (n : Int)) = ((m * n : Nat) : Int) := by
    rw [← Int.natCast_mul, wrapI _ (by omega) (by omega)]
  simp [eqGuard, binOp, go_sem, h1]
theorem qu_i {m n : Nat} (hn : 0 < n) (hm : m < 9223372036854775808) (w : World) : (do eqGuard .quo 3 x u (.int .i64 ((m : Nat) : Int)) (.int .i64 ((n : Nat) : Int)); binOp .quo 3 (.int .i64 ((m : Nat) : Int)) (.int .i64 ((n : Nat) : Int))).run Try.prog w = .ok (.int .i64 ((m / n : Nat) : Int)) w := by
  have h0 : ¬ n = 0 := by omega
  have h2 : m / n < 9223372036854775808 := Nat.lt_of_le_of_lt (Nat.div_le_self _ _) hm
  have h3 : ((m / n : Nat) : Int) = (m : Int) / (n : Int) := Int.natCast_ediv m n
  have h1 : IntKind.i64.wrap ((m : Int) / (n : Int)) = (m : Int) / (n : Int) := by
    rw [← h3]
    generalize m / n = d at h2
    exact wrapI _ (by omega) (by omega)
  simp [eqGuard, binOp, go_sem, h1, h0]
theorem re_i {m n : Nat} (hn : 0 < n) (w : World) : (do eqGuard .rem 3 x u (.int .i64 ((m : Nat) : Int)) (.int .i64 ((n : Nat) : Int)); binOp .rem 3 (.int .i64 ((m : Nat) : Int)) (.int .i64 ((n : Nat) : Int))).run Try.prog w = .ok (.int .i64 ((m % n : Nat) : Int)) w := by
  have h0 : ¬ n = 0 := by omega
  have h1 : (m : Int).tmod (n : Int) = (m : Int) % (n : Int) := Int.tmod_eq_emod_of_nonneg (by omega)
  simp [eqGuard, binOp, go_sem, h1, h0]
theorem sb_z {m n : Int} (h1 : -9223372036854775808 ≤ m - n) (h2 : m - n < 9223372036854775808) (w : World) : (do eqGuard .sub 3 x u (.int .i64 m) (.int .i64 n); binOp .sub 3 (.int .i64 m) (.int .i64 n)).run Try.prog w = .ok (.int .i64 (m - n)) w := by
  have h3 := wrapI (m - n) h1 h2
  simp [eqGuard, binOp, go_sem, h3]
theorem sb_zn {m n : Int} {k : Nat} (h : m - n = (k : Int)) (hk : k < 9223372036854775808) (w : World) : (do eqGuard .sub 3 x u (.int .i64 m) (.int .i64 n); binOp .sub 3 (.int .i64 m) (.int .i64 n)).run Try.prog w = .ok (.int .i64 (k : Int)) w := by
  have := sb_z (x := x) (u := u) (m := m) (n := n) (by omega) (by omega) w
  rwa [h] at this
theorem ad_zn {m n : Int} {k : Nat} (h : m + n = (k : Int)) (hk : k < 9223372036854775808) (w : World) : (do eqGuard .add 3 x u (.int .i64 m) (.int .i64 n); binOp .add 3 (.int .i64 m) (.int .i64 n)).run Try.prog w = .ok (.int .i64 (k : Int)) w := by
  have h3 : IntKind.i64.wrap (m + n) = (k : Int) := by rw [wrapI _ (by omega) (by omega)]; exact h
  simp [eqGuard, binOp, go_sem, h3]
theorem lt_i {m n : Int} {b : Bool} (h : decide (m < n) = b) (w : World) : (do eqGuard .lss 3 x u (.int .i64 m) (.int .i64 n); binOp .lss 3 (.int .i64 m) (.int .i64 n)).run Try.prog w = .ok (.bool b) w := by
  subst h; simp [eqGuard, binOp, go_sem]
theorem ge_i {m n : Int} {b : Bool} (h : decide (n ≤ m) = b) (w : World) : (do eqGuard .geq 3 x u (.int .i64 m) (.int .i64 n); binOp .geq 3 (.int .i64 m) (.int .i64 n)).run Try.prog w = .ok (.bool b) w := by
  subst h; simp [eqGuard, binOp, go_sem]
theorem ne_i {m n : Int} {b : Bool} (h : decide (¬ m = n) = b) (w : World) : (do eqGuard .neq 3 x u (.int .i64 m) (.int .i64 n); binOp .neq 3 (.int .i64 m) (.int .i64 n)).run Try.prog w = .ok (.bool b) w := by
  subst h; simp [eqGuard, binOp, go_sem]; rfl
theorem eq_i {m n : Int} {b : Bool} (h : decide (m = n) = b) (w : World) : (do eqGuard .eql 3 x u (.int .i64 m) (.int .i64 n); binOp .eql 3 (.int .i64 m) (.int .i64 n)).run Try.prog w = .ok (.bool b) w := by
  subst h; simp [eqGuard, binOp, go_sem]; rfl
end

theorem ix22 {i : Nat} (hi : i < 22) (w : World) (q : Nat) : (Instr.indexAt 25 (.pointer (some ⟨q, 0, none⟩)) (.int .i64 ((i : Nat) : Int))).run Try.prog w = .ok (.pointer (some ⟨q, i, none⟩)) w := by
  simp [Instr.indexAt, go_sem, hi, addr_add]
theorem ix44 {i : Nat} (hi : i < 44) (w : World) (q : Nat) : (Instr.indexAt 48 (.pointer (some ⟨q, 0, none⟩)) (.int .i64 ((i : Nat) : Int))).run Try.prog w = .ok (.pointer (some ⟨q, i, none⟩)) w := by
  simp [Instr.indexAt, go_sem, hi, addr_add]
theorem ixK {i : Nat} (hi : i < 32) (w : World) (q : Nat) : (Instr.indexAt 23 (.pointer (some ⟨q, 0, none⟩)) (.int .i64 ((i : Nat) : Int))).run Try.prog w = .ok (.pointer (some ⟨q, i, none⟩)) w := by
  simp [Instr.indexAt, go_sem, hi, addr_add]
theorem ld_at {t0 : TypeId} {n i : Nat} {F : Nat → Nat} (hi : i < n) (w : World) (q : Nat) (h : w.heap[q]? = some (.cells (ai n F) t0 (0, 0))) : (Instr.loadAt 3 (.pointer (some ⟨q, i, none⟩))).run Try.prog w = .ok (.int .i64 ((F i : Nat) : Int)) w := by
  have h1 : w.cell? ⟨q, i, none⟩ = some (.int .i64 ((F i : Nat) : Int)) := by
    rw [cell_of_row _ _ _ _ _ _ h]; exact arr_get _ _ _ hi
  simp [Instr.loadAt, Instr.sureAddr, go_sem, h1]
theorem set_row {w : World} {q i : Nat} {c : Array Value} {t0 : TypeId} {fr : Nat × Nat} {v : Value} (h : w.heap[q]? = some (.cells c t0 fr)) : w.setCell ⟨q, i, none⟩ v = w.setRow q (c.setIfInBounds i v) := by
  refine world_ext _ _ ?_ rfl rfl rfl rfl
  apply Array.ext_getElem?
  intro k
  by_cases e : k = q
  · subst e
    rw [setRow_heap _ _ _ _ _ _ h]
    simp [World.setCell, Array.getElem?_modify, h]
  · rw [setRow_other _ _ _ _ e]
    have e' : ¬ q = k := fun x => e x.symm
    simp [World.setCell, Array.getElem?_modify, e']
theorem st_at {t0 : TypeId} {n i v : Nat} {F : Nat → Nat} (hi : i < n) (w : World) (q : Nat) (h : w.heap[q]? = some (.cells (ai n F) t0 (0, 0))) : (Instr.storeAt 3 (.pointer (some ⟨q, i, none⟩)) (.int .i64 ((v : Nat) : Int))).run Try.prog w = .ok () (w.setRow q (ai n (updN F i v))) := by
  have h1 : w.cell? ⟨q, i, none⟩ = some (.int .i64 ((F i : Nat) : Int)) := by
    rw [cell_of_row _ _ _ _ _ _ h]; exact arr_get _ _ _ hi
  have h2 : w.setCell ⟨q, i, none⟩ (.int .i64 ((v : Nat) : Int)) = w.setRow q (ai n (updN F i v)) := by rw [set_row h, ai_set]
  have h3 : w.frozen? ⟨q, i, none⟩ = false := by
    simp [World.frozen?, h]
  simp [Instr.storeAt, Instr.sureAddr, go_sem, h1, h2, h3]

/-- Rows of 22 and of 44, whole. -/
theorem ld22 {F : Nat → Nat} (t0 : TypeId) (w : World) (q : Nat) (h : w.heap[q]? = some (.cells (ai 22 F) t0 (0, 0))) : (Instr.loadAt 25 (.pointer (some ⟨q, 0, none⟩))).run Try.prog w = .ok (.agg (ai 22 F)) w :=
  ld_row (c := ai 22 F) Try.underlying25 rfl (by rw [ai_size]; kernel_rfl) w q h
theorem ai_one (n : Nat) (F : Nat → Nat) : (ai n F).all (·.oneCell') = true := by
  rw [Array.all_eq_true_iff_forall_mem]
  intro v hv
  obtain ⟨i, hi⟩ := Array.getElem?_of_mem hv
  have hl : i < n := by have := (Array.getElem?_eq_some_iff.1 hi).1; rwa [ai_size] at this
  rw [ai, arr_get _ _ _ hl] at hi
  cases hi; rfl
theorem st22 {F : Nat → Nat} {c : Array Value} (t0 : TypeId) (hc : c.size = 22) (w : World) (q : Nat) (h : w.heap[q]? = some (.cells c t0 (0, 0))) : (Instr.storeAt 25 (.pointer (some ⟨q, 0, none⟩)) (.agg (ai 22 F))).run Try.prog w = .ok () (w.setRow q (ai 22 F)) :=
  st_row (n := ai 22 F) (by rw [ai_size]; kernel_rfl) (by rw [hc, ai_size]) (ai_one _ _) w q h
theorem bx22 {F : Nat → Nat} (w : World) : (Instr.box 25 (.agg (ai 22 F))).run Try.prog w = .ok (.pointer (some ⟨w.heap.size, 0, none⟩)) (w.alloc (.cells (ai 22 F) 25)) := bx_agg w
theorem bx44 {F : Nat → Nat} (w : World) : (Instr.box 48 (.agg (ai 44 F))).run Try.prog w = .ok (.pointer (some ⟨w.heap.size, 0, none⟩)) (w.alloc (.cells (ai 44 F) 48)) := bx_agg w
theorem ld44 {F : Nat → Nat} (t0 : TypeId) (w : World) (q : Nat) (h : w.heap[q]? = some (.cells (ai 44 F) t0 (0, 0))) : (Instr.loadAt 48 (.pointer (some ⟨q, 0, none⟩))).run Try.prog w = .ok (.agg (ai 44 F)) w :=
  ld_row (c := ai 44 F) Try.underlying48 rfl (by rw [ai_size]; kernel_rfl) w q h
theorem ai_zero (n : Nat) : ai n (fun _ => 0) = ⟨List.replicate n (.int .i64 0)⟩ := arr_rep (fun _ _ => rfl)
theorem al22 (w : World) : (Instr.alloc 25 true (.tuple #[])).run Try.prog w = .ok (.pointer (some ⟨w.heap.size, 0, none⟩)) (w.alloc (.cells (ai 22 fun _ => 0) 25)) := by
  rw [ai_zero]
  simp [Instr.alloc, go_sem]
theorem al44 (w : World) : (Instr.alloc 48 true (.tuple #[])).run Try.prog w = .ok (.pointer (some ⟨w.heap.size, 0, none⟩)) (w.alloc (.cells (ai 44 fun _ => 0) 48)) := by
  rw [ai_zero]
  simp [Instr.alloc, go_sem]
end Go.Proofs.Ytchbkkjjbdgdoaa

/- X5, Ref1, M3, Ref2, M4, M5, laid together. -/
import Derived.LoopN
import Derived.Test.YtgiemldmphbolaaG1
import Derived.Test.YtgiemldmphbolaaRows
namespace Go.Proofs.Ytgiemldmphbolaa
open Go.RowKit

section
variable {P : Program} {a : Act} {w : World} {Q : Exit → Act → World → Prop}
theorem loop_up {c : Code} (n : Nat) (J : Nat → Act → World → Prop) (h0 : J 0 a w) (round : ∀ k a w, k ≤ n → J k a w → c.wp P (Exit.then (fun a' w' => k < n ∧ J (k + 1) a' w') Q) a w) : (Code.loop c).wp P Q a w := by
  refine wp_loop_rounds (n + 1) ?_
  have key : ∀ d k a w, k + d = n → J k a w → Code.rounds P c Q (d + 1) a w := by
    intro d
    induction d with
    | zero =>
      intro k a w hk hJ
      rw [rounds_succ]
      refine wp_mono (round k a w (by omega) hJ) ?_
      intro e a' w' he
      cases e <;> simp only [Exit.then] at he ⊢
      case normal => exact absurd he.1 (by omega)
      all_goals exact he
    | succ d ih =>
      intro k a w hk hJ
      rw [rounds_succ]
      refine wp_mono (round k a w (by omega) hJ) ?_
      intro e a' w' he
      cases e <;> simp only [Exit.then] at he ⊢
      case normal => exact ih (k + 1) a' w' (by omega) he.2
      all_goals exact he
  exact key n 0 a w (by omega) h0
theorem blk_in {id : Nat} {c : Code} (h : c.wp P (Exit.inBlock id Q) a w) : (Code.block id c).wp P Q a w := wp_block h
theorem blk_exit {id : Nat} (h : Q .normal a w) : Exit.inBlock id Q (.exit id) a w := by simp only [Exit.inBlock, if_true]; exact h
theorem blk_norm {id : Nat} (h : Q .normal a w) : Exit.inBlock id Q .normal a w := h
theorem blk_ret {id : Nat} (h : Q .ret a w) : Exit.inBlock id Q .ret a w := h
theorem blk_pass {id id' : Nat} (hne : Nat.beq id' id = false) (h : Q (.exit id') a w) : Exit.inBlock id Q (.exit id') a w := by
  simp only [Exit.inBlock]
  rw [if_neg (fun e => by rw [e, Nat.beq_refl] at hne; cases hne)]; exact h
theorem then_norm {K : Act → World → Prop} (h : K a w) : Exit.then K Q .normal a w := h
theorem then_exit {K : Act → World → Prop} {id : Nat} (h : Q (.exit id) a w) : Exit.then K Q (.exit id) a w := h
end

/-- Whole numbers in a row. -/
def ai (n : Nat) (F : Nat → Nat) : Array Value := arr n fun i => .int .i64 ((F i : Nat) : Int)
def updN (F : Nat → Nat) (i v : Nat) : Nat → Nat := fun j => if j = i then v else F j
theorem ai_size (n : Nat) (F : Nat → Nat) : (ai n F).size = n := arr_size _ _
theorem ai_congr {n : Nat} {F G : Nat → Nat} (h : ∀ i, i < n → F i = G i) : ai n F = ai n G := arr_congr fun i hi => by rw [h i hi]
theorem ai_set (n : Nat) (F : Nat → Nat) (i v : Nat) : (ai n F).setIfInBounds i (.int .i64 ((v : Nat) : Int)) = ai n (updN F i v) := by
  unfold ai
  rw [arr_set]
  refine arr_congr fun j _ => ?_
  unfold upd updN
  by_cases h : j = i <;> simp [h]

section
variable {w : World} {x u : Operand}
theorem wrapI (n : Int) (h1 : -9223372036854775808 ≤ n) (h2 : n < 9223372036854775808) : IntKind.i64.wrap n = n := by rw [IntKind.wrap_i64]; omega
theorem ad_i {m n : Nat} (h : m + n < 9223372036854775808) (w : World) : (do eqGuard .add 3 x u (.int .i64 ((m : Nat) : Int)) (.int .i64 ((n : Nat) : Int)); binOp .add 3 (.int .i64 ((m : Nat) : Int)) (.int .i64 ((n : Nat) : Int))).run Try.prog w = .ok (.int .i64 ((m + n : Nat) : Int)) w := by
  have h1 : IntKind.i64.wrap ((m : Int) + (n : Int)) = ((m + n : Nat) : Int) := by rw [wrapI _ (by omega) (by omega)]; omega
  simp [eqGuard, binOp, go_sem, h1]
theorem mu_i {m n : Nat} (h : m * n < 9223372036854775808) (w : World) : (do eqGuard .mul 3 x u (.int .i64 ((m : Nat) : Int)) (.int .i64 ((n : Nat) : Int)); binOp .mul 3 (.int .i64 ((m : Nat) : Int)) (.int .i64 ((n : Nat) : Int))).run Try.prog w = .ok (.int .i64 ((m * n : Nat) : Int)) w := by
  have h1 : IntKind.i64.wrap ((m : Int) * (n : Int)) = ((m * n : Nat) : Int) := by
    rw [← Int.natCast_mul, wrapI _ (by omega) (by omega)]
  simp [eqGuard, binOp, go_sem, h1]
theorem qu_i {m n : Nat} (hn : 0 < n) (hm : m < 9223372036854775808) (w : World) : (do eqGuard .quo 3 x u (.int .i64 ((m : Nat) : Int)) (.int .i64 ((n : Nat) : Int)); binOp .quo 3 (.int .i64 ((m : Nat) : Int)) (.int .i64 ((n : Nat) : Int))).run Try.prog w = .ok (.int .i64 ((m / n : Nat) : Int)) w := by
  have h0 : ¬ n = 0 := by omega
  have h2 : m / n < 9223372036854775808 := Nat.lt_of_le_of_lt (Nat.div_le_self _ _) hm
  have h3 : ((m / n : Nat) : Int) = (m : Int) / (n : Int) := Int.natCast_ediv m n
  have h1 : IntKind.i64.wrap ((m : Int) / (n : Int)) = (m : Int) / (n : Int) := by
    rw [← h3]
    generalize m / n = d at h2
    exact wrapI _ (by omega) (by omega)
  simp [eqGuard, binOp, go_sem, h1, h0]
theorem re_i {m n : Nat} (hn : 0 < n) (w : World) : (do eqGuard .rem 3 x u (.int .i64 ((m : Nat) : Int)) (.int .i64 ((n : Nat) : Int)); binOp .rem 3 (.int .i64 ((m : Nat) : Int)) (.int .i64 ((n : Nat) : Int))).run Try.prog w = .ok (.int .i64 ((m % n : Nat) : Int)) w := by
  have h0 : ¬ n = 0 := by omega
  have h1 : (m : Int).tmod (n : Int) = (m : Int) % (n : Int) := Int.tmod_eq_emod_of_nonneg (by omega)
  simp [eqGuard, binOp, go_sem, h1, h0]
theorem sb_z {m n : Int} (h1 : -9223372036854775808 ≤ m - n) (h2 : m - n < 9223372036854775808) (w : World) : (do eqGuard .sub 3 x u (.int .i64 m) (.int .i64 n); binOp .sub 3 (.int .i64 m) (.int .i64 n)).run Try.prog w = .ok (.int .i64 (m - n)) w := by
  have h3 := wrapI (m - n) h1 h2
  simp [eqGuard, binOp, go_sem, h3]
theorem sb_zn {m n : Int} {k : Nat} (h : m - n = (k : Int)) (hk : k < 9223372036854775808) (w : World) : (do eqGuard .sub 3 x u (.int .i64 m) (.int .i64 n); binOp .sub 3 (.int .i64 m) (.int .i64 n)).run Try.prog w = .ok (.int .i64 (k : Int)) w := by
  have := sb_z (x := x) (u := u) (m := m) (n := n) (by omega) (by omega) w
  rwa [h] at this
theorem ad_zn {m n : Int} {k : Nat} (h : m + n = (k : Int)) (hk : k < 9223372036854775808) (w : World) : (do eqGuard .add 3 x u (.int .i64 m) (.int .i64 n); binOp .add 3 (.int .i64 m) (.int .i64 n)).run Try.prog w = .ok (.int .i64 (k : Int)) w := by
  have h3 : IntKind.i64.wrap (m + n) = (k : Int) := by rw [wrapI _ (by omega) (by omega)]; exact h
  simp [eqGuard, binOp, go_sem, h3]
theorem lt_i {m n : Int} {b : Bool} (h : decide (m < n) = b) (w : World) : (do eqGuard .lss 3 x u (.int .i64 m) (.int .i64 n); binOp .lss 3 (.int .i64 m) (.int .i64 n)).run Try.prog w = .ok (.bool b) w := by
  subst h; simp [eqGuard, binOp, go_sem]
theorem ge_i {m n : Int} {b : Bool} (h : decide (n ≤ m) = b) (w : World) : (do eqGuard .geq 3 x u (.int .i64 m) (.int .i64 n); binOp .geq 3 (.int .i64 m) (.int .i64 n)).run Try.prog w = .ok (.bool b) w := by
  subst h; simp [eqGuard, binOp, go_sem]
theorem ne_i {m n : Int} {b : Bool} (h : decide (¬ m = n) = b) (w : World) : (do eqGuard .neq 3 x u (.int .i64 m) (.int .i64 n); binOp .neq 3 (.int .i64 m) (.int .i64 n)).run Try.prog w = .ok (.bool b) w := by
  subst h; simp [eqGuard, binOp, go_sem]; rfl
theorem eq_i {m n : Int} {b : Bool} (h : decide (m = n) = b) (w : World) : (do eqGuard .eql 3 x u (.int .i64 m) (.int .i64 n); binOp .eql 3 (.int .i64 m) (.int .i64 n)).run Try.prog w = .ok (.bool b) w := by
  subst h; simp [eqGuard, binOp, go_sem]; rfl
end

theorem ix22 {i : Nat} (hi : i < 22) (w : World) (q : Nat) : (Instr.indexAt 35 (.pointer (some ⟨q, 0, none⟩)) (.int .i64 ((i : Nat) : Int))).run Try.prog w = .ok (.pointer (some ⟨q, i, none⟩)) w := by
  simp [Instr.indexAt, go_sem, hi, addr_add]
theorem ix44 {i : Nat} (hi : i < 44) (w : World) (q : Nat) : (Instr.indexAt 95 (.pointer (some ⟨q, 0, none⟩)) (.int .i64 ((i : Nat) : Int))).run Try.prog w = .ok (.pointer (some ⟨q, i, none⟩)) w := by
  simp [Instr.indexAt, go_sem, hi, addr_add]
theorem ixK {i : Nat} (hi : i < 32) (w : World) (q : Nat) : (Instr.indexAt 23 (.pointer (some ⟨q, 0, none⟩)) (.int .i64 ((i : Nat) : Int))).run Try.prog w = .ok (.pointer (some ⟨q, i, none⟩)) w := by
  simp [Instr.indexAt, go_sem, hi, addr_add]
theorem ld_at {t0 : TypeId} {n i : Nat} {F : Nat → Nat} (hi : i < n) (w : World) (q : Nat) (h : w.heap[q]? = some (.cells (ai n F) t0 (0, 0))) : (Instr.loadAt 3 (.pointer (some ⟨q, i, none⟩))).run Try.prog w = .ok (.int .i64 ((F i : Nat) : Int)) w := by
  have h1 : w.cell? ⟨q, i, none⟩ = some (.int .i64 ((F i : Nat) : Int)) := by
    rw [cell_of_row _ _ _ _ _ _ h]; exact arr_get _ _ _ hi
  simp [Instr.loadAt, Instr.sureAddr, go_sem, h1]
theorem set_row {w : World} {q i : Nat} {c : Array Value} {t0 : TypeId} {fr : Nat × Nat} {v : Value} (h : w.heap[q]? = some (.cells c t0 fr)) : w.setCell ⟨q, i, none⟩ v = w.setRow q (c.setIfInBounds i v) := by
  refine world_ext _ _ ?_ rfl rfl rfl rfl
  apply Array.ext_getElem?
  intro k
  by_cases e : k = q
  · subst e
    rw [setRow_heap _ _ _ _ _ _ h]
    simp [World.setCell, Array.getElem?_modify, h]
  · rw [setRow_other _ _ _ _ e]
    have e' : ¬ q = k := fun x => e x.symm
    simp [World.setCell, Array.getElem?_modify, e']
theorem st_at {t0 : TypeId} {n i v : Nat} {F : Nat → Nat} (hi : i < n) (w : World) (q : Nat) (h : w.heap[q]? = some (.cells (ai n F) t0 (0, 0))) : (Instr.storeAt 3 (.pointer (some ⟨q, i, none⟩)) (.int .i64 ((v : Nat) : Int))).run Try.prog w = .ok () (w.setRow q (ai n (updN F i v))) := by
  have h1 : w.cell? ⟨q, i, none⟩ = some (.int .i64 ((F i : Nat) : Int)) := by
    rw [cell_of_row _ _ _ _ _ _ h]; exact arr_get _ _ _ hi
  have h2 : w.setCell ⟨q, i, none⟩ (.int .i64 ((v : Nat) : Int)) = w.setRow q (ai n (updN F i v)) := by rw [set_row h, ai_set]
  have h3 : w.frozen? ⟨q, i, none⟩ = false := by
    simp [World.frozen?, h]
  simp [Instr.storeAt, Instr.sureAddr, go_sem, h1, h2, h3]

/-- Rows of 22 and of 44, whole. -/
theorem ld22 {F : Nat → Nat} (t0 : TypeId) (w : World) (q : Nat) (h : w.heap[q]? = some (.cells (ai 22 F) t0 (0, 0))) : (Instr.loadAt 35 (.pointer (some ⟨q, 0, none⟩))).run Try.prog w = .ok (.agg (ai 22 F)) w :=
  ld_row (c := ai 22 F) Try.underlying35 rfl (by rw [ai_size]; kernel_rfl) w q h
theorem ai_one (n : Nat) (F : Nat → Nat) : (ai n F).all (·.oneCell') = true := by
  rw [Array.all_eq_true_iff_forall_mem]
  intro v hv
  obtain ⟨i, hi⟩ := Array.getElem?_of_mem hv
  have hl : i < n := by have := (Array.getElem?_eq_some_iff.1 hi).1; rwa [ai_size] at this
  rw [ai, arr_get _ _ _ hl] at hi
  cases hi; rfl
theorem st22 {F : Nat → Nat} {c : Array Value} (t0 : TypeId) (hc : c.size = 22) (w : World) (q : Nat) (h : w.heap[q]? = some (.cells c t0 (0, 0))) : (Instr.storeAt 35 (.pointer (some ⟨q, 0, none⟩)) (.agg (ai 22 F))).run Try.prog w = .ok () (w.setRow q (ai 22 F)) :=
  st_row (n := ai 22 F) (by rw [ai_size]; kernel_rfl) (by rw [hc, ai_size]) (ai_one _ _) w q h
theorem bx22 {F : Nat → Nat} (w : World) : (Instr.box 35 (.agg (ai 22 F))).run Try.prog w = .ok (.pointer (some ⟨w.heap.size, 0, none⟩)) (w.alloc (.cells (ai 22 F) 35)) := bx_agg w
theorem bx44 {F : Nat → Nat} (w : World) : (Instr.box 95 (.agg (ai 44 F))).run Try.prog w = .ok (.pointer (some ⟨w.heap.size, 0, none⟩)) (w.alloc (.cells (ai 44 F) 95)) := bx_agg w
theorem ld44 {F : Nat → Nat} (t0 : TypeId) (w : World) (q : Nat) (h : w.heap[q]? = some (.cells (ai 44 F) t0 (0, 0))) : (Instr.loadAt 95 (.pointer (some ⟨q, 0, none⟩))).run Try.prog w = .ok (.agg (ai 44 F)) w :=
  ld_row (c := ai 44 F) Try.underlying95 rfl (by rw [ai_size]; kernel_rfl) w q h
theorem ai_zero (n : Nat) : ai n (fun _ => 0) = ⟨List.replicate n (.int .i64 0)⟩ := arr_rep (fun _ _ => rfl)
theorem al22 (w : World) : (Instr.alloc 35 true (.tuple #[])).run Try.prog w = .ok (.pointer (some ⟨w.heap.size, 0, none⟩)) (w.alloc (.cells (ai 22 fun _ => 0) 35)) := by
  rw [ai_zero]
  simp [Instr.alloc, go_sem]
theorem al44 (w : World) : (Instr.alloc 95 true (.tuple #[])).run Try.prog w = .ok (.pointer (some ⟨w.heap.size, 0, none⟩)) (w.alloc (.cells (ai 44 fun _ => 0) 95)) := by
  rw [ai_zero]
  simp [Instr.alloc, go_sem]
end Go.Proofs.Ytgiemldmphbolaa

namespace Go.Proofs.Ytgiemldmphbolaa
open Go.RowKit

/-- Figure number i of a number. -/
def dg (n i : Nat) : Nat := n / 4096 ^ i % 4096
theorem dg_lt (n i : Nat) : dg n i < 4096 := Nat.mod_lt _ (by omega)
def prF (k j : Nat) : Nat := if j < k then 4095 else 0
theorem prF_next (k : Nat) : ai 22 (updN (prF k) k 4095) = ai 22 (prF (k + 1)) := ai_congr fun i _ => by
  unfold updN prF
  by_cases h : i = k
  · subst h; simp
  · have : (i < k + 1) = (i < k) := by simp; omega
    simp [h, this]
theorem prF_end : ai 22 (updN (updN (prF 21) 0 4077) 21 7) = ai 22 (dg pp) := ai_congr (by decide +kernel)

set_option maxHeartbeats 1000000 in
theorem prime_r (W0 : World) : Calls Try.prog 68 #[] W0 fun e w' => e = .returned (.agg (ai 22 (dg pp))) ∧ Below W0.heap.size W0 w' := by
  rw [← prF_end]
  refine sym_enter Try.func68 Try.ntmps68 rfl [uu, uu, uu, uu, uu, uu, uu, uu, uu, uu, uu, uu] (by kernel_rfl) (by kernel_rfl) ?_
  intro β a h
  refine sym_seq ?_
  refine St.region h [.inr (0, 0), uu, uu, uu, uu, uu, uu, uu, uu, uu, uu, uu] [(ai 22 (fun _ => 0), 35)] [(ai 22 (fun _ => 0), 35)] [#[]] [⟨some 0, none, none, false⟩] (by kernel_rfl) (by kernel_rfl) (by kernel_rfl) (by kernel_rfl) (by kernel_rfl) (by kernel_rfl) (by kernel_rfl) (by kernel_rfl) ?_ ?_
  · refine ok_cons (ok_alloc (b := 0) al22 rfl (by kernel_rfl) rfl (by kernel_rfl) (by kernel_rfl)) ?_
    exact ok_nil
  clear h; intro β a w h
  refine sym_then ?_
  refine sym_seq ?_
  refine St.region h [.inr (0, 0), .inr (1, 0), uu, uu, uu, uu, uu, uu, uu, uu, uu, uu] [(ai 22 (fun _ => 0), 35), (ai 22 (fun _ => 0), 35)] [(ai 22 (fun _ => 0), 35), (ai 22 (fun _ => 0), 35)] [#[], #[]] [⟨some 1, none, none, false⟩] (by kernel_rfl) (by kernel_rfl) (by kernel_rfl) (by kernel_rfl) (by kernel_rfl) (by kernel_rfl) (by kernel_rfl) (by kernel_rfl) ?_ ?_
  · refine ok_cons (ok_alloc (b := 1) al22 rfl (by kernel_rfl) rfl (by kernel_rfl) (by kernel_rfl)) ?_
    exact ok_nil
  clear h; intro β a w h
  refine sym_then ?_
  refine sym_seq ?_
  refine sym_seq ?_
  refine St.region h [.inr (0, 0), .inr (1, 0), .inl (.int .i64 ((0 : Nat) : Int)), uu, uu, uu, uu, uu, uu, uu, uu, uu] [(ai 22 (fun _ => 0), 35), (ai 22 (fun _ => 0), 35)] [(ai 22 (fun _ => 0), 35), (ai 22 (fun _ => 0), 35)] [#[], #[]] [nn] (by kernel_rfl) (by kernel_rfl) (by kernel_rfl) (by kernel_rfl) (by kernel_rfl) (by kernel_rfl) (by kernel_rfl) (by kernel_rfl) ?_ ?_
  · refine ok_cons (ok_mv (Or.inr rfl) (by kernel_rfl) rfl (by kernel_rfl) (by kernel_rfl)) ?_
    exact ok_nil
  clear h; intro β a w h
  refine sym_then ?_
  refine blk_in ?_
  replace h := St.setm h 1 (c := ai 22 (fun _ => 0)) (c' := ai 22 (prF 0)) (t := 35) (m' := [(ai 22 (fun _ => 0), 35), (ai 22 (prF 0), 35)]) (ai_congr fun i _ => (by simp [prF])) (by kernel_rfl) (by kernel_rfl)
  refine loop_up 21 (fun k a w => ∃ (x3 x4 x5 x6 x7 x8 : SV) (β : Nat → Nat), St W0 [.inr (0, 0), .inr (1, 0), .inl (.int .i64 ((k : Nat) : Int)), x3, x4, x5, x6, x7, x8, uu, uu, uu] [(ai 22 (fun _ => 0), 35), (ai 22 (prF k), 35)] β a w) ⟨_, _, _, _, _, _, β, h⟩ ?_
  clear h; rintro k a w hkk ⟨x3, x4, x5, x6, x7, x8, β, h⟩
  rcases Nat.lt_or_ge k 21 with hltk | hgek
  · refine sym_seq ?_
    refine sym_seq ?_
    refine St.region h [.inr (0, 0), .inr (1, 0), .inl (.int .i64 ((k : Nat) : Int)), .inl (.int .i64 ((k : Nat) : Int)), .inl (.bool true), x5, x6, x7, x8, uu, uu, uu] [(ai 22 (fun _ => 0), 35), (ai 22 (prF k), 35)] [(ai 22 (fun _ => 0), 35), (ai 22 (prF k), 35)] [#[], #[]] [nn, nn] (by kernel_rfl) (by kernel_rfl) (by kernel_rfl) (by kernel_rfl) (by kernel_rfl) (by kernel_rfl) (by kernel_rfl) (by kernel_rfl) ?_ ?_
    · refine ok_cons (ok_mv (Or.inl rfl) (by kernel_rfl) rfl (by kernel_rfl) (by kernel_rfl)) ?_
      refine ok_cons (ok_bin (x1 := .int .i64 ((k : Nat) : Int)) (u1 := .int .i64 ((21 : Nat) : Int)) (v := .bool true) (lt_i (m := ((k : Nat) : Int)) (n := ((21 : Nat) : Int)) (decide_eq_true (by omega))) rfl (by kernel_rfl) rfl (by kernel_rfl) (by kernel_rfl) (by kernel_rfl) (by kernel_rfl) (by kernel_rfl)) ?_
      exact ok_nil
    clear h; intro β a w h
    refine sym_then ?_
    refine sym_cond_t h (by kernel_rfl) (by kernel_rfl) ?_
    refine wp_skip ?_
    refine sym_then ?_
    refine sym_seq ?_
    refine blk_in ?_
    refine St.region h [.inr (0, 0), .inr (1, 0), .inl (.int .i64 ((k : Nat) : Int)), .inl (.int .i64 ((k : Nat) : Int)), .inl (.bool true), x5, x6, .inl (.int .i64 ((k : Nat) : Int)), .inr (1, k), uu, uu, uu] [(ai 22 (fun _ => 0), 35), (ai 22 (updN (prF k) k 4095), 35)] [(ai 22 (fun _ => 0), 35), (ai 22 (prF k), 35)] [#[], ai 22 (updN (prF k) k 4095)] [nn, nn, ⟨none, some 1, none, false⟩] (by kernel_rfl) (by kernel_rfl) (by kernel_rfl) (by kernel_rfl) (by kernel_rfl) (by kernel_rfl) (by kernel_rfl) (by kernel_rfl) ?_ ?_
    · refine ok_cons (ok_mv (Or.inl rfl) (by kernel_rfl) rfl (by kernel_rfl) (by kernel_rfl)) ?_
      refine ok_cons (ok_iaddr (b := 1) (off := 0) (off' := k) (u := .int .i64 ((k : Nat) : Int)) (ix22 (i := k) (by omega)) rfl (by kernel_rfl) rfl (by kernel_rfl) (by kernel_rfl) (by kernel_rfl) (by kernel_rfl)) ?_
      refine ok_cons (ok_store (b := 1) (off := k) (u := .int .i64 ((4095 : Nat) : Int)) (c := ai 22 (prF k)) (n := ai 22 (updN (prF k) k 4095)) (st_at (n := 22) (F := (prF k)) (i := k) (v := 4095) (t0 := 35) (by omega)) rfl (by kernel_rfl) rfl (by kernel_rfl) (by kernel_rfl) (by kernel_rfl) (by kernel_rfl) (by kernel_rfl)) ?_
      exact ok_nil
    clear h; intro β a w h
    refine blk_norm ?_
    refine sym_then ?_
    refine St.region h [.inr (0, 0), .inr (1, 0), .inl (.int .i64 (((k + 1) : Nat) : Int)), .inl (.int .i64 ((k : Nat) : Int)), .inl (.bool true), .inl (.int .i64 ((k : Nat) : Int)), .inl (.int .i64 (((k + 1) : Nat) : Int)), .inl (.int .i64 ((k : Nat) : Int)), .inr (1, k), uu, uu, uu] [(ai 22 (fun _ => 0), 35), (ai 22 (updN (prF k) k 4095), 35)] [(ai 22 (fun _ => 0), 35), (ai 22 (updN (prF k) k 4095), 35)] [#[], #[]] [⟨none, none, none, true⟩, nn, nn] (by kernel_rfl) (by kernel_rfl) (by kernel_rfl) (by kernel_rfl) (by kernel_rfl) (by kernel_rfl) (by kernel_rfl) (by kernel_rfl) ?_ ?_
    · refine ok_cons (ok_mv0 rfl (by kernel_rfl) rfl (by kernel_rfl) (by kernel_rfl)) ?_
      refine ok_cons (ok_bin (x1 := .int .i64 ((k : Nat) : Int)) (u1 := .int .i64 ((1 : Nat) : Int)) (v := .int .i64 (((k + 1) : Nat) : Int)) (ad_i (m := k) (n := 1) (by omega)) rfl (by kernel_rfl) rfl (by kernel_rfl) (by kernel_rfl) (by kernel_rfl) (by kernel_rfl) (by kernel_rfl)) ?_
      refine ok_cons (ok_mv (Or.inr rfl) (by kernel_rfl) rfl (by kernel_rfl) (by kernel_rfl)) ?_
      exact ok_nil
    clear h; intro β a w h
    replace h := St.setm h 1 (c := ai 22 (updN (prF k) k 4095)) (c' := ai 22 (prF (k + 1))) (t := 35) (m' := [(ai 22 (fun _ => 0), 35), (ai 22 (prF (k + 1)), 35)]) (prF_next k) (by kernel_rfl) (by kernel_rfl)
    exact ⟨hltk, _, _, _, _, _, _, _, h⟩
  · obtain rfl : k = 21 := by omega
    refine sym_seq ?_
    refine sym_seq ?_
    refine St.region h [.inr (0, 0), .inr (1, 0), .inl (.int .i64 ((21 : Nat) : Int)), .inl (.int .i64 ((21 : Nat) : Int)), .inl (.bool false), x5, x6, x7, x8, uu, uu, uu] [(ai 22 (fun _ => 0), 35), (ai 22 (prF 21), 35)] [(ai 22 (fun _ => 0), 35), (ai 22 (prF 21), 35)] [#[], #[]] [nn, nn] (by kernel_rfl) (by kernel_rfl) (by kernel_rfl) (by kernel_rfl) (by kernel_rfl) (by kernel_rfl) (by kernel_rfl) (by kernel_rfl) ?_ ?_
    · refine ok_cons (ok_mv (Or.inl rfl) (by kernel_rfl) rfl (by kernel_rfl) (by kernel_rfl)) ?_
      refine ok_cons (ok_bin (x1 := .int .i64 ((21 : Nat) : Int)) (u1 := .int .i64 ((21 : Nat) : Int)) (v := .bool false) (lt_i (m := ((21 : Nat) : Int)) (n := ((21 : Nat) : Int)) (decide_eq_false (by omega))) rfl (by kernel_rfl) rfl (by kernel_rfl) (by kernel_rfl) (by kernel_rfl) (by kernel_rfl) (by kernel_rfl)) ?_
      exact ok_nil
    clear h; intro β a w h
    refine sym_then ?_
    refine sym_cond_f h (by kernel_rfl) (by kernel_rfl) ?_
    refine wp_exit ?_
    refine then_exit ?_
    refine then_exit ?_
    refine blk_exit ?_
    refine sym_then ?_
    refine sym_seq ?_
    refine St.region h [.inr (0, 0), .inr (1, 0), .inl (.int .i64 ((21 : Nat) : Int)), .inl (.int .i64 ((21 : Nat) : Int)), .inl (.bool false), x5, x6, x7, x8, .inr (1, 0), uu, uu] [(ai 22 (fun _ => 0), 35), (ai 22 (updN (prF 21) 0 4077), 35)] [(ai 22 (fun _ => 0), 35), (ai 22 (prF 21), 35)] [#[], ai 22 (updN (prF 21) 0 4077)] [nn, ⟨none, some 1, none, false⟩] (by kernel_rfl) (by kernel_rfl) (by kernel_rfl) (by kernel_rfl) (by kernel_rfl) (by kernel_rfl) (by kernel_rfl) (by kernel_rfl) ?_ ?_
    · refine ok_cons (ok_iaddr (b := 1) (off := 0) (off' := 0) (u := .int .i64 ((0 : Nat) : Int)) (ix22 (i := 0) (by omega)) rfl (by kernel_rfl) rfl (by kernel_rfl) (by kernel_rfl) (by kernel_rfl) (by kernel_rfl)) ?_
      refine ok_cons (ok_store (b := 1) (off := 0) (u := .int .i64 ((4077 : Nat) : Int)) (c := ai 22 (prF 21)) (n := ai 22 (updN (prF 21) 0 4077)) (st_at (n := 22) (F := (prF 21)) (i := 0) (v := 4077) (t0 := 35) (by omega)) rfl (by kernel_rfl) rfl (by kernel_rfl) (by kernel_rfl) (by kernel_rfl) (by kernel_rfl) (by kernel_rfl)) ?_
      exact ok_nil
    clear h; intro β a w h
    refine sym_then ?_
    refine sym_seq ?_
    refine St.region h [.inr (0, 0), .inr (1, 0), .inl (.int .i64 ((21 : Nat) : Int)), .inl (.int .i64 ((21 : Nat) : Int)), .inl (.bool false), x5, x6, x7, x8, .inr (1, 0), .inr (1, 21), uu] [(ai 22 (fun _ => 0), 35), (ai 22 (updN (updN (prF 21) 0 4077) 21 7), 35)] [(ai 22 (fun _ => 0), 35), (ai 22 (updN (prF 21) 0 4077), 35)] [#[], ai 22 (updN (updN (prF 21) 0 4077) 21 7)] [nn, ⟨none, some 1, none, false⟩] (by kernel_rfl) (by kernel_rfl) (by kernel_rfl) (by kernel_rfl) (by kernel_rfl) (by kernel_rfl) (by kernel_rfl) (by kernel_rfl) ?_ ?_
    · refine ok_cons (ok_iaddr (b := 1) (off := 0) (off' := 21) (u := .int .i64 ((21 : Nat) : Int)) (ix22 (i := 21) (by omega)) rfl (by kernel_rfl) rfl (by kernel_rfl) (by kernel_rfl) (by kernel_rfl) (by kernel_rfl)) ?_
      refine ok_cons (ok_store (b := 1) (off := 21) (u := .int .i64 ((7 : Nat) : Int)) (c := ai 22 (updN (prF 21) 0 4077)) (n := ai 22 (updN (updN (prF 21) 0 4077) 21 7)) (st_at (n := 22) (F := (updN (prF 21) 0 4077)) (i := 21) (v := 7) (t0 := 35) (by omega)) rfl (by kernel_rfl) rfl (by kernel_rfl) (by kernel_rfl) (by kernel_rfl) (by kernel_rfl) (by kernel_rfl)) ?_
      exact ok_nil
    clear h; intro β a w h
    refine sym_then ?_
    refine sym_seq ?_
    refine St.region h [.inr (0, 0), .inr (1, 0), .inl (.int .i64 ((21 : Nat) : Int)), .inl (.int .i64 ((21 : Nat) : Int)), .inl (.bool false), x5, x6, x7, x8, .inr (1, 0), .inr (1, 21), .inl (.agg (ai 22 (updN (updN (prF 21) 0 4077) 21 7)))] [(ai 22 (updN (updN (prF 21) 0 4077) 21 7), 35), (ai 22 (updN (updN (prF 21) 0 4077) 21 7), 35)] [(ai 22 (fun _ => 0), 35), (ai 22 (updN (updN (prF 21) 0 4077) 21 7), 35)] [ai 22 (updN (updN (prF 21) 0 4077) 21 7), #[]] [⟨none, none, some 1, false⟩, ⟨none, some 0, none, false⟩] (by kernel_rfl) (by kernel_rfl) (by kernel_rfl) (by kernel_rfl) (by kernel_rfl) (by kernel_rfl) (by kernel_rfl) (by kernel_rfl) ?_ ?_
    · refine ok_cons (ok_load (b := 1) (off := 0) (c := ai 22 (updN (updN (prF 21) 0 4077) 21 7)) (v := .agg (ai 22 (updN (updN (prF 21) 0 4077) 21 7))) (ld22 (F := (updN (updN (prF 21) 0 4077) 21 7)) 35) rfl (by kernel_rfl) rfl (by kernel_rfl) (by kernel_rfl) (by kernel_rfl)) ?_
      refine ok_cons (ok_store (b := 0) (off := 0) (u := .agg (ai 22 (updN (updN (prF 21) 0 4077) 21 7))) (c := ai 22 (fun _ => 0)) (n := ai 22 (updN (updN (prF 21) 0 4077) 21 7)) (st22 (F := (updN (updN (prF 21) 0 4077) 21 7)) (c := ai 22 (fun _ => 0)) 35 (ai_size _ _)) rfl (by kernel_rfl) rfl (by kernel_rfl) (by kernel_rfl) (by kernel_rfl) (by kernel_rfl) (by kernel_rfl)) ?_
      exact ok_nil
    clear h; intro β a w h
    refine sym_then ?_
    refine wp_ret ?_
    exact sym_retc (b := 0) (t0 := 35) (c := ai 22 (updN (updN (prF 21) 0 4077) 21 7)) h Try.results68 (by kernel_rfl) (by kernel_rfl) (by kernel_rfl) Try.underlying35 rfl (by rw [ai_size]; kernel_rfl) (fun hb => ⟨rfl, hb⟩)
end Go.Proofs.Ytgiemldmphbolaa

namespace Go.Proofs.Ytgiemldmphbolaa

/-- The number of the first k figures. -/
def pv (F : Nat → Nat) : Nat → Nat
  | 0 => 0
  | k + 1 => pv F k + F k * 4096 ^ k

theorem p4 (k : Nat) : 0 < 4096 ^ k := Nat.pow_pos (by omega)
theorem div_step (n k : Nat) : n / 4096 ^ k = dg n k + 4096 * (n / 4096 ^ (k + 1)) := by
  unfold dg
  rw [Nat.pow_succ, ← Nat.div_div_eq_div_mul]
  omega
theorem mod_step (n k : Nat) : n % 4096 ^ (k + 1) = n % 4096 ^ k + dg n k * 4096 ^ k := by
  unfold dg
  rw [Nat.pow_succ, Nat.mod_mul, Nat.mul_comm]
theorem pv_dg (n : Nat) : ∀ k, pv (dg n) k = n % 4096 ^ k := by
  intro k
  induction k with
  | zero => simp [pv, Nat.mod_one]
  | succ k ih => rw [pv, ih, mod_step]
theorem pv_congr {F G : Nat → Nat} : ∀ k, (∀ i, i < k → F i = G i) → pv F k = pv G k := by
  intro k
  induction k with
  | zero => intro _; rfl
  | succ k ih => intro h; rw [pv, pv, ih (fun i hi => h i (by omega)), h k (by omega)]
theorem dg_big {n k : Nat} (h : n < 4096 ^ k) (i : Nat) (hi : k ≤ i) : dg n i = 0 := by
  unfold dg
  rw [Nat.div_eq_of_lt (Nat.lt_of_lt_of_le h (Nat.pow_le_pow_right (by omega) hi))]
theorem div_top {n k : Nat} (h : n < 4096 ^ (k + 1)) : dg n k = n / 4096 ^ k := by
  unfold dg
  refine Nat.mod_eq_of_lt (Nat.div_lt_of_lt_mul ?_)
  rw [← Nat.pow_succ]; exact h

/-- Which is below: by the highest figure that differs. -/
theorem top_eq {m n k : Nat} (h : m / 4096 ^ (k + 1) = n / 4096 ^ (k + 1)) (hd : dg m k = dg n k) : m / 4096 ^ k = n / 4096 ^ k := by
  rw [div_step m k, div_step n k, h, hd]
theorem lt_of_div {m n d : Nat} (h : m / d < n / d) : m < n := by
  rcases Nat.lt_or_ge m n with h1 | h1
  · exact h1
  · exact absurd (Nat.div_le_div_right (c := d) h1) (by omega)
theorem top_lt {m n k : Nat} (h : m / 4096 ^ (k + 1) = n / 4096 ^ (k + 1)) (hd : dg m k < dg n k) : m < n := by
  refine lt_of_div (d := 4096 ^ k) ?_
  rw [div_step m k, div_step n k, h]; omega

/-- What is borrowed of figure number k. -/
def bo (m n k : Nat) : Nat := if m % 4096 ^ k < n % 4096 ^ k then 1 else 0
theorem bo_le (m n k : Nat) : bo m n k ≤ 1 := by unfold bo; split <;> omega
theorem bo_zero (m n : Nat) : bo m n 0 = 0 := by simp [bo, Nat.mod_one]
theorem bo_yes {m n k : Nat} (h : dg m k < dg n k + bo m n k) : bo m n (k + 1) = 1 := by
  unfold bo at *
  rw [if_pos]
  rw [mod_step m k, mod_step n k]
  have hm : m % 4096 ^ k < 4096 ^ k := Nat.mod_lt _ (p4 k)
  have hn : n % 4096 ^ k < 4096 ^ k := Nat.mod_lt _ (p4 k)
  split at h
  · have : dg m k * 4096 ^ k ≤ dg n k * 4096 ^ k := Nat.mul_le_mul_right _ (by omega)
    omega
  · have : (dg m k + 1) * 4096 ^ k ≤ dg n k * 4096 ^ k := Nat.mul_le_mul_right _ (by omega)
    rw [Nat.add_mul, Nat.one_mul] at this
    omega
theorem bo_no {m n k : Nat} (h : dg n k + bo m n k ≤ dg m k) : bo m n (k + 1) = 0 := by
  unfold bo at *
  rw [if_neg]
  rw [mod_step m k, mod_step n k]
  have hm : m % 4096 ^ k < 4096 ^ k := Nat.mod_lt _ (p4 k)
  have hn : n % 4096 ^ k < 4096 ^ k := Nat.mod_lt _ (p4 k)
  split at h
  · have : (dg n k + 1) * 4096 ^ k ≤ dg m k * 4096 ^ k := Nat.mul_le_mul_right _ (by omega)
    rw [Nat.add_mul, Nat.one_mul] at this
    omega
  · have : dg n k * 4096 ^ k ≤ dg m k * 4096 ^ k := Nat.mul_le_mul_right _ (by omega)
    omega
/-- A difference's quotients. -/
theorem sub_div {m n : Nat} (h : n ≤ m) : ∀ k, (m - n) / 4096 ^ k + n / 4096 ^ k + bo m n k = m / 4096 ^ k := by
  intro k
  have hp := p4 k
  have e1 : m = m / 4096 ^ k * 4096 ^ k + m % 4096 ^ k := (Nat.div_add_mod' m _).symm
  have e2 : n = n / 4096 ^ k * 4096 ^ k + n % 4096 ^ k := (Nat.div_add_mod' n _).symm
  have hm : m % 4096 ^ k < 4096 ^ k := Nat.mod_lt _ hp
  have hn : n % 4096 ^ k < 4096 ^ k := Nat.mod_lt _ hp
  unfold bo
  generalize 4096 ^ k = d at *
  generalize m / d = a at *
  generalize n / d = b at *
  generalize m % d = r at *
  generalize n % d = s at *
  have hab : b ≤ a := by
    rcases Nat.lt_or_ge a b with hlt | hge
    · exfalso
      have : (a + 1) * d ≤ b * d := Nat.mul_le_mul_right _ hlt
      rw [Nat.add_mul, Nat.one_mul] at this
      omega
    · exact hge
  obtain ⟨c, rfl⟩ : ∃ c, a = b + c := ⟨a - b, by omega⟩
  have e3 : (b + c) * d = b * d + c * d := Nat.add_mul _ _ _
  split
  · rename_i hlt
    have hc : 0 < c := by
      rcases Nat.eq_zero_or_pos c with h0 | h0
      · subst h0; rw [Nat.add_zero] at e1; omega
      · exact h0
    obtain ⟨c', rfl⟩ : ∃ c', c = c' + 1 := ⟨c - 1, by omega⟩
    have e4 : (c' + 1) * d = c' * d + d := by rw [Nat.add_mul, Nat.one_mul]
    have e5 : m - n = c' * d + (d + r - s) := by omega
    rw [e5, Nat.mul_comm, Nat.mul_add_div hp, Nat.div_eq_of_lt (by omega)]
    omega
  · have e5 : m - n = c * d + (r - s) := by omega
    rw [e5, Nat.mul_comm, Nat.mul_add_div hp, Nat.div_eq_of_lt (by omega)]
    omega
theorem sub_yes {m n k : Nat} (h : n ≤ m) (hb : dg m k < dg n k + bo m n k) : dg (m - n) k = dg m k + 4096 - (dg n k + bo m n k) := by
  have h1 := sub_div h k
  have h2 := sub_div h (k + 1)
  rw [bo_yes hb] at h2
  rw [div_step m k, div_step n k, div_step (m - n) k] at h1
  have := dg_lt (m - n) k; have := dg_lt m k; have := dg_lt n k
  omega
theorem sub_no {m n k : Nat} (h : n ≤ m) (hb : dg n k + bo m n k ≤ dg m k) : dg (m - n) k = dg m k - (dg n k + bo m n k) := by
  have h1 := sub_div h k
  have h2 := sub_div h (k + 1)
  rw [bo_no hb] at h2
  rw [div_step m k, div_step n k, div_step (m - n) k] at h1
  have := dg_lt (m - n) k; have := dg_lt m k; have := dg_lt n k
  omega
/-- A difference, so many figures of it done. -/
def suF (m n k j : Nat) : Nat := if j < k then dg (m - n) j else dg m j
theorem suF_at (m n k : Nat) : suF m n k k = dg m k := by simp [suF]
theorem suF_next {m n k v : Nat} (h : v = dg (m - n) k) : ai 22 (updN (suF m n k) k v) = ai 22 (suF m n (k + 1)) := ai_congr fun i _ => by
  unfold updN suF
  by_cases e : i = k
  · subst e; simp [h]
  · have : (i < k + 1) = (i < k) := by simp; omega
    simp [e, this]
theorem suF_zero (m n : Nat) : ai 22 (dg m) = ai 22 (suF m n 0) := ai_congr fun i _ => by simp [suF]
theorem suF_end (m n : Nat) : ai 22 (suF m n 22) = ai 22 (dg (m - n)) := ai_congr fun i hi => by simp [suF, hi]
end Go.Proofs.Ytgiemldmphbolaa

namespace Go.Proofs.Ytgiemldmphbolaa
open Go.RowKit
theorem dgI (m n k : Nat) : ((dg m k : Nat) : Int) < ((dg n k : Nat) : Int) ↔ dg m k < dg n k := by omega

/-- Counting down from 21. -/
def dn (k : Nat) : Int := 21 - (k : Int)
theorem dn_ix {k : Nat} (h : k < 22) : dn k = ((21 - k : Nat) : Int) := by unfold dn; omega

theorem ix_dn {k : Nat} (h : k < 22) (w : World) (q : Nat) : (Instr.indexAt 35 (.pointer (some ⟨q, 0, none⟩)) (.int .i64 (dn k))).run Try.prog w = .ok (.pointer (some ⟨q, 21 - k, none⟩)) w := by
  rw [dn_ix h]; exact ix22 (by omega) w q
theorem sb_dn {x u : Operand} {k : Nat} (h : k < 22) (w : World) : (do eqGuard .sub 3 x u (.int .i64 (dn k)) (.int .i64 ((1 : Nat) : Int)); binOp .sub 3 (.int .i64 (dn k)) (.int .i64 ((1 : Nat) : Int))).run Try.prog w = .ok (.int .i64 (dn (k + 1))) w := by
  have := sb_z (x := x) (u := u) (m := dn k) (n := ((1 : Nat) : Int)) (by unfold dn; omega) (by unfold dn; omega) w
  rwa [show dn k - ((1 : Nat) : Int) = dn (k + 1) by unfold dn; omega] at this
theorem be_zero {m n : Nat} (hm : m < 4096 ^ 22) (hn : n < 4096 ^ 22) : m / 4096 ^ (22 - 0) = n / 4096 ^ (22 - 0) := by
  rw [Nat.div_eq_of_lt hm, Nat.div_eq_of_lt hn]
theorem top_next {m n k : Nat} (h : m / 4096 ^ (22 - k) = n / 4096 ^ (22 - k)) (hk : k < 22) (hd : dg m (21 - k) = dg n (21 - k)) : m / 4096 ^ (22 - (k + 1)) = n / 4096 ^ (22 - (k + 1)) := by
  rw [show 22 - (k + 1) = 21 - k by omega]
  rw [show 22 - k = (21 - k) + 1 by omega] at h
  exact top_eq h hd
theorem be_fin {m n : Nat} (h : m / 4096 ^ (22 - 22) = n / 4096 ^ (22 - 22)) : decide (m < n) = false := by
  simp at h; subst h; simp
theorem be_end {m n k : Nat} (h : m / 4096 ^ (22 - k) = n / 4096 ^ (22 - k)) (hk : k < 22) (hd : ¬ dg m (21 - k) = dg n (21 - k)) : decide (((dg m (21 - k) : Nat) : Int) < ((dg n (21 - k) : Nat) : Int)) = decide (m < n) := by
  rw [show 22 - k = (21 - k) + 1 by omega] at h
  rw [decide_eq_decide]
  constructor
  · intro h1; exact top_lt h (by omega)
  · intro h1
    rcases Nat.lt_or_ge (dg m (21 - k)) (dg n (21 - k)) with h2 | h2
    · omega
    · exact absurd (top_lt h.symm (by omega : dg n (21 - k) < dg m (21 - k))) (by omega)
set_option maxHeartbeats 1000000 in
theorem below_r {m n : Nat} (hm : m < 4096 ^ 22) (hn : n < 4096 ^ 22) (W0 : World) : Calls Try.prog 83 #[.agg (ai 22 (dg m)), .agg (ai 22 (dg n))] W0 fun e w' => e = .returned (.bool (decide (m < n))) ∧ Below W0.heap.size W0 w' := by
  refine sym_enter Try.func83 Try.ntmps83 rfl [.inl (.agg (ai 22 (dg m))), .inl (.agg (ai 22 (dg n))), uu, uu, uu, uu, uu, uu, uu, uu, uu, uu, uu, uu, uu, uu, uu, uu, uu, uu, uu, uu, uu, uu] (by kernel_rfl) (by kernel_rfl) ?_
  intro β a h
  refine sym_seq ?_
  refine St.region h [.inl (.agg (ai 22 (dg m))), .inl (.agg (ai 22 (dg n))), .inr (0, 0), .inr (1, 0), .inl (.bool false), uu, uu, uu, uu, uu, uu, uu, uu, uu, uu, uu, uu, uu, uu, uu, uu, uu, uu, uu] [(ai 22 (dg m), 35), (ai 22 (dg n), 35)] [(ai 22 (dg m), 35), (ai 22 (dg n), 35)] [#[], #[]] [⟨some 0, none, none, false⟩, ⟨some 1, none, none, false⟩, nn] (by kernel_rfl) (by kernel_rfl) (by kernel_rfl) (by kernel_rfl) (by kernel_rfl) (by kernel_rfl) (by kernel_rfl) (by kernel_rfl) ?_ ?_
  · refine ok_cons (ok_box (b := 0) (u := .agg (ai 22 (dg m))) (bx22 (F := (dg m))) rfl (by kernel_rfl) rfl (by kernel_rfl) (by kernel_rfl) (by kernel_rfl) (by kernel_rfl)) ?_
    refine ok_cons (ok_box (b := 1) (u := .agg (ai 22 (dg n))) (bx22 (F := (dg n))) rfl (by kernel_rfl) rfl (by kernel_rfl) (by kernel_rfl) (by kernel_rfl) (by kernel_rfl)) ?_
    refine ok_cons (ok_mv (Or.inr rfl) (by kernel_rfl) rfl (by kernel_rfl) (by kernel_rfl)) ?_
    exact ok_nil
  clear h; intro β a w h
  refine sym_then ?_
  refine sym_seq ?_
  refine sym_seq ?_
  refine St.region h [.inl (.agg (ai 22 (dg m))), .inl (.agg (ai 22 (dg n))), .inr (0, 0), .inr (1, 0), .inl (.bool false), .inl (.int .i64 ((21 : Nat) : Int)), uu, uu, uu, uu, uu, uu, uu, uu, uu, uu, uu, uu, uu, uu, uu, uu, uu, uu] [(ai 22 (dg m), 35), (ai 22 (dg n), 35)] [(ai 22 (dg m), 35), (ai 22 (dg n), 35)] [#[], #[]] [nn] (by kernel_rfl) (by kernel_rfl) (by kernel_rfl) (by kernel_rfl) (by kernel_rfl) (by kernel_rfl) (by kernel_rfl) (by kernel_rfl) ?_ ?_
  · refine ok_cons (ok_mv (Or.inr rfl) (by kernel_rfl) rfl (by kernel_rfl) (by kernel_rfl)) ?_
    exact ok_nil
  clear h; intro β a w h
  refine sym_then ?_
  refine blk_in ?_
  replace h := St.sets h 5 (v := .int .i64 ((21 : Nat) : Int)) (v' := .int .i64 (dn 0)) (s' := [.inl (.agg (ai 22 (dg m))), .inl (.agg (ai 22 (dg n))), .inr (0, 0), .inr (1, 0), .inl (.bool false), .inl (.int .i64 (dn 0)), uu, uu, uu, uu, uu, uu, uu, uu, uu, uu, uu, uu, uu, uu, uu, uu, uu, uu]) rfl (by kernel_rfl) (by kernel_rfl)
  refine loop_up 22 (fun k a w => m / 4096 ^ (22 - k) = n / 4096 ^ (22 - k) ∧ ∃ (x4 x6 x7 x8 x9 x10 x11 x12 x13 x14 x15 x16 x17 x18 x19 x20 x21 x22 x23 : SV) (β : Nat → Nat), St W0 [.inl (.agg (ai 22 (dg m))), .inl (.agg (ai 22 (dg n))), .inr (0, 0), .inr (1, 0), x4, .inl (.int .i64 (dn k)), x6, x7, x8, x9, x10, x11, x12, x13, x14, x15, x16, x17, x18, x19, x20, x21, x22, x23] [(ai 22 (dg m), 35), (ai 22 (dg n), 35)] β a w) ⟨be_zero hm hn, _, _, _, _, _, _, _, _, _, _, _, _, _, _, _, _, _, _, _, β, h⟩ ?_
  clear h; rintro k a w hkk ⟨hinv, x4, x6, x7, x8, x9, x10, x11, x12, x13, x14, x15, x16, x17, x18, x19, x20, x21, x22, x23, β, h⟩
  rcases Nat.lt_or_ge k 22 with hltk | hgek
  · by_cases cd : dg m (21 - k) = dg n (21 - k)
    · have hn1 := top_next hinv hltk cd
      refine sym_seq ?_
      refine sym_seq ?_
      refine St.region h [.inl (.agg (ai 22 (dg m))), .inl (.agg (ai 22 (dg n))), .inr (0, 0), .inr (1, 0), x4, .inl (.int .i64 (dn k)), .inl (.int .i64 (dn k)), .inl (.bool true), x8, x9, x10, x11, x12, x13, x14, x15, x16, x17, x18, x19, x20, x21, x22, x23] [(ai 22 (dg m), 35), (ai 22 (dg n), 35)] [(ai 22 (dg m), 35), (ai 22 (dg n), 35)] [#[], #[]] [nn, nn] (by kernel_rfl) (by kernel_rfl) (by kernel_rfl) (by kernel_rfl) (by kernel_rfl) (by kernel_rfl) (by kernel_rfl) (by kernel_rfl) ?_ ?_
      · refine ok_cons (ok_mv (Or.inl rfl) (by kernel_rfl) rfl (by kernel_rfl) (by kernel_rfl)) ?_
        refine ok_cons (ok_bin (x1 := .int .i64 (dn k)) (u1 := .int .i64 ((0 : Nat) : Int)) (v := .bool true) (ge_i (m := dn k) (n := ((0 : Nat) : Int)) (decide_eq_true (by unfold dn; omega))) rfl (by kernel_rfl) rfl (by kernel_rfl) (by kernel_rfl) (by kernel_rfl) (by kernel_rfl) (by kernel_rfl)) ?_
        exact ok_nil
      clear h; intro β a w h
      refine sym_then ?_
      refine sym_cond_t h (by kernel_rfl) (by kernel_rfl) ?_
      refine wp_skip ?_
      refine sym_then ?_
      refine sym_seq ?_
      refine blk_in ?_
      refine sym_seq ?_
      refine St.region h [.inl (.agg (ai 22 (dg m))), .inl (.agg (ai 22 (dg n))), .inr (0, 0), .inr (1, 0), x4, .inl (.int .i64 (dn k)), .inl (.int .i64 (dn k)), .inl (.bool true), x8, x9, .inl (.int .i64 (dn k)), .inr (0, (21 - k)), .inl (.int .i64 ((((dg m) (21 - k)) : Nat) : Int)), .inl (.int .i64 (dn k)), .inr (1, (21 - k)), .inl (.int .i64 ((((dg n) (21 - k)) : Nat) : Int)), .inl (.bool false), x17, x18, x19, x20, x21, x22, x23] [(ai 22 (dg m), 35), (ai 22 (dg n), 35)] [(ai 22 (dg m), 35), (ai 22 (dg n), 35)] [#[], #[]] [nn, nn, ⟨none, none, some 0, false⟩, nn, nn, ⟨none, none, some 1, false⟩, nn] (by kernel_rfl) (by kernel_rfl) (by kernel_rfl) (by kernel_rfl) (by kernel_rfl) (by kernel_rfl) (by kernel_rfl) (by kernel_rfl) ?_ ?_
      · refine ok_cons (ok_mv (Or.inl rfl) (by kernel_rfl) rfl (by kernel_rfl) (by kernel_rfl)) ?_
        refine ok_cons (ok_iaddr (b := 0) (off := 0) (off' := (21 - k)) (u := .int .i64 (dn k)) (ix_dn (k := k) (by omega)) rfl (by kernel_rfl) rfl (by kernel_rfl) (by kernel_rfl) (by kernel_rfl) (by kernel_rfl)) ?_
        refine ok_cons (ok_load (b := 0) (off := (21 - k)) (c := ai 22 (dg m)) (v := .int .i64 ((((dg m) (21 - k)) : Nat) : Int)) (ld_at (n := 22) (F := (dg m)) (i := (21 - k)) (t0 := 35) (by omega)) rfl (by kernel_rfl) rfl (by kernel_rfl) (by kernel_rfl) (by kernel_rfl)) ?_
        refine ok_cons (ok_mv (Or.inl rfl) (by kernel_rfl) rfl (by kernel_rfl) (by kernel_rfl)) ?_
        refine ok_cons (ok_iaddr (b := 1) (off := 0) (off' := (21 - k)) (u := .int .i64 (dn k)) (ix_dn (k := k) (by omega)) rfl (by kernel_rfl) rfl (by kernel_rfl) (by kernel_rfl) (by kernel_rfl) (by kernel_rfl)) ?_
        refine ok_cons (ok_load (b := 1) (off := (21 - k)) (c := ai 22 (dg n)) (v := .int .i64 ((((dg n) (21 - k)) : Nat) : Int)) (ld_at (n := 22) (F := (dg n)) (i := (21 - k)) (t0 := 35) (by omega)) rfl (by kernel_rfl) rfl (by kernel_rfl) (by kernel_rfl) (by kernel_rfl)) ?_
        refine ok_cons (ok_bin (x1 := .int .i64 ((((dg m) (21 - k)) : Nat) : Int)) (u1 := .int .i64 ((((dg n) (21 - k)) : Nat) : Int)) (v := .bool false) (ne_i (m := ((dg m (21 - k) : Nat) : Int)) (n := ((dg n (21 - k) : Nat) : Int)) (decide_eq_false (by omega))) rfl (by kernel_rfl) rfl (by kernel_rfl) (by kernel_rfl) (by kernel_rfl) (by kernel_rfl) (by kernel_rfl)) ?_
        exact ok_nil
      clear h; intro β a w h
      refine sym_then ?_
      refine sym_cond_f h (by kernel_rfl) (by kernel_rfl) ?_
      refine wp_skip ?_
      refine blk_norm ?_
      refine sym_then ?_
      refine St.region h [.inl (.agg (ai 22 (dg m))), .inl (.agg (ai 22 (dg n))), .inr (0, 0), .inr (1, 0), x4, .inl (.int .i64 (dn (k + 1))), .inl (.int .i64 (dn k)), .inl (.bool true), .inl (.int .i64 (dn k)), .inl (.int .i64 (dn (k + 1))), .inl (.int .i64 (dn k)), .inr (0, (21 - k)), .inl (.int .i64 ((((dg m) (21 - k)) : Nat) : Int)), .inl (.int .i64 (dn k)), .inr (1, (21 - k)), .inl (.int .i64 ((((dg n) (21 - k)) : Nat) : Int)), .inl (.bool false), x17, x18, x19, x20, x21, x22, x23] [(ai 22 (dg m), 35), (ai 22 (dg n), 35)] [(ai 22 (dg m), 35), (ai 22 (dg n), 35)] [#[], #[]] [⟨none, none, none, true⟩, nn, nn] (by kernel_rfl) (by kernel_rfl) (by kernel_rfl) (by kernel_rfl) (by kernel_rfl) (by kernel_rfl) (by kernel_rfl) (by kernel_rfl) ?_ ?_
      · refine ok_cons (ok_mv0 rfl (by kernel_rfl) rfl (by kernel_rfl) (by kernel_rfl)) ?_
        refine ok_cons (ok_bin (x1 := .int .i64 (dn k)) (u1 := .int .i64 ((1 : Nat) : Int)) (v := .int .i64 (dn (k + 1))) (sb_dn (k := k) (by omega)) rfl (by kernel_rfl) rfl (by kernel_rfl) (by kernel_rfl) (by kernel_rfl) (by kernel_rfl) (by kernel_rfl)) ?_
        refine ok_cons (ok_mv (Or.inr rfl) (by kernel_rfl) rfl (by kernel_rfl) (by kernel_rfl)) ?_
        exact ok_nil
      clear h; intro β a w h
      exact ⟨hltk, hn1, _, _, _, _, _, _, _, _, _, _, _, _, _, _, _, _, _, _, _, _, h⟩
    · refine sym_seq ?_
      refine sym_seq ?_
      refine St.region h [.inl (.agg (ai 22 (dg m))), .inl (.agg (ai 22 (dg n))), .inr (0, 0), .inr (1, 0), x4, .inl (.int .i64 (dn k)), .inl (.int .i64 (dn k)), .inl (.bool true), x8, x9, x10, x11, x12, x13, x14, x15, x16, x17, x18, x19, x20, x21, x22, x23] [(ai 22 (dg m), 35), (ai 22 (dg n), 35)] [(ai 22 (dg m), 35), (ai 22 (dg n), 35)] [#[], #[]] [nn, nn] (by kernel_rfl) (by kernel_rfl) (by kernel_rfl) (by kernel_rfl) (by kernel_rfl) (by kernel_rfl) (by kernel_rfl) (by kernel_rfl) ?_ ?_
      · refine ok_cons (ok_mv (Or.inl rfl) (by kernel_rfl) rfl (by kernel_rfl) (by kernel_rfl)) ?_
        refine ok_cons (ok_bin (x1 := .int .i64 (dn k)) (u1 := .int .i64 ((0 : Nat) : Int)) (v := .bool true) (ge_i (m := dn k) (n := ((0 : Nat) : Int)) (decide_eq_true (by unfold dn; omega))) rfl (by kernel_rfl) rfl (by kernel_rfl) (by kernel_rfl) (by kernel_rfl) (by kernel_rfl) (by kernel_rfl)) ?_
        exact ok_nil
      clear h; intro β a w h
      refine sym_then ?_
      refine sym_cond_t h (by kernel_rfl) (by kernel_rfl) ?_
      refine wp_skip ?_
      refine sym_then ?_
      refine sym_seq ?_
      refine blk_in ?_
      refine sym_seq ?_
      refine St.region h [.inl (.agg (ai 22 (dg m))), .inl (.agg (ai 22 (dg n))), .inr (0, 0), .inr (1, 0), x4, .inl (.int .i64 (dn k)), .inl (.int .i64 (dn k)), .inl (.bool true), x8, x9, .inl (.int .i64 (dn k)), .inr (0, (21 - k)), .inl (.int .i64 ((((dg m) (21 - k)) : Nat) : Int)), .inl (.int .i64 (dn k)), .inr (1, (21 - k)), .inl (.int .i64 ((((dg n) (21 - k)) : Nat) : Int)), .inl (.bool true), x17, x18, x19, x20, x21, x22, x23] [(ai 22 (dg m), 35), (ai 22 (dg n), 35)] [(ai 22 (dg m), 35), (ai 22 (dg n), 35)] [#[], #[]] [nn, nn, ⟨none, none, some 0, false⟩, nn, nn, ⟨none, none, some 1, false⟩, nn] (by kernel_rfl) (by kernel_rfl) (by kernel_rfl) (by kernel_rfl) (by kernel_rfl) (by kernel_rfl) (by kernel_rfl) (by kernel_rfl) ?_ ?_
      · refine ok_cons (ok_mv (Or.inl rfl) (by kernel_rfl) rfl (by kernel_rfl) (by kernel_rfl)) ?_
        refine ok_cons (ok_iaddr (b := 0) (off := 0) (off' := (21 - k)) (u := .int .i64 (dn k)) (ix_dn (k := k) (by omega)) rfl (by kernel_rfl) rfl (by kernel_rfl) (by kernel_rfl) (by kernel_rfl) (by kernel_rfl)) ?_
        refine ok_cons (ok_load (b := 0) (off := (21 - k)) (c := ai 22 (dg m)) (v := .int .i64 ((((dg m) (21 - k)) : Nat) : Int)) (ld_at (n := 22) (F := (dg m)) (i := (21 - k)) (t0 := 35) (by omega)) rfl (by kernel_rfl) rfl (by kernel_rfl) (by kernel_rfl) (by kernel_rfl)) ?_
        refine ok_cons (ok_mv (Or.inl rfl) (by kernel_rfl) rfl (by kernel_rfl) (by kernel_rfl)) ?_
        refine ok_cons (ok_iaddr (b := 1) (off := 0) (off' := (21 - k)) (u := .int .i64 (dn k)) (ix_dn (k := k) (by omega)) rfl (by kernel_rfl) rfl (by kernel_rfl) (by kernel_rfl) (by kernel_rfl) (by kernel_rfl)) ?_
        refine ok_cons (ok_load (b := 1) (off := (21 - k)) (c := ai 22 (dg n)) (v := .int .i64 ((((dg n) (21 - k)) : Nat) : Int)) (ld_at (n := 22) (F := (dg n)) (i := (21 - k)) (t0 := 35) (by omega)) rfl (by kernel_rfl) rfl (by kernel_rfl) (by kernel_rfl) (by kernel_rfl)) ?_
        refine ok_cons (ok_bin (x1 := .int .i64 ((((dg m) (21 - k)) : Nat) : Int)) (u1 := .int .i64 ((((dg n) (21 - k)) : Nat) : Int)) (v := .bool true) (ne_i (m := ((dg m (21 - k) : Nat) : Int)) (n := ((dg n (21 - k) : Nat) : Int)) (decide_eq_true (by omega))) rfl (by kernel_rfl) rfl (by kernel_rfl) (by kernel_rfl) (by kernel_rfl) (by kernel_rfl) (by kernel_rfl)) ?_
        exact ok_nil
      clear h; intro β a w h
      refine sym_then ?_
      refine sym_cond_t h (by kernel_rfl) (by kernel_rfl) ?_
      refine sym_seq ?_
      refine St.region h [.inl (.agg (ai 22 (dg m))), .inl (.agg (ai 22 (dg n))), .inr (0, 0), .inr (1, 0), .inl (.bool (decide (m < n))), .inl (.int .i64 (dn k)), .inl (.int .i64 (dn k)), .inl (.bool true), x8, x9, .inl (.int .i64 (dn k)), .inr (0, (21 - k)), .inl (.int .i64 ((((dg m) (21 - k)) : Nat) : Int)), .inl (.int .i64 (dn k)), .inr (1, (21 - k)), .inl (.int .i64 ((((dg n) (21 - k)) : Nat) : Int)), .inl (.bool true), .inl (.int .i64 (dn k)), .inr (0, (21 - k)), .inl (.int .i64 ((((dg m) (21 - k)) : Nat) : Int)), .inl (.int .i64 (dn k)), .inr (1, (21 - k)), .inl (.int .i64 ((((dg n) (21 - k)) : Nat) : Int)), .inl (.bool (decide (m < n)))] [(ai 22 (dg m), 35), (ai 22 (dg n), 35)] [(ai 22 (dg m), 35), (ai 22 (dg n), 35)] [#[], #[]] [nn, nn, ⟨none, none, some 0, false⟩, nn, nn, ⟨none, none, some 1, false⟩, nn, nn] (by kernel_rfl) (by kernel_rfl) (by kernel_rfl) (by kernel_rfl) (by kernel_rfl) (by kernel_rfl) (by kernel_rfl) (by kernel_rfl) ?_ ?_
      · refine ok_cons (ok_mv (Or.inl rfl) (by kernel_rfl) rfl (by kernel_rfl) (by kernel_rfl)) ?_
        refine ok_cons (ok_iaddr (b := 0) (off := 0) (off' := (21 - k)) (u := .int .i64 (dn k)) (ix_dn (k := k) (by omega)) rfl (by kernel_rfl) rfl (by kernel_rfl) (by kernel_rfl) (by kernel_rfl) (by kernel_rfl)) ?_
        refine ok_cons (ok_load (b := 0) (off := (21 - k)) (c := ai 22 (dg m)) (v := .int .i64 ((((dg m) (21 - k)) : Nat) : Int)) (ld_at (n := 22) (F := (dg m)) (i := (21 - k)) (t0 := 35) (by omega)) rfl (by kernel_rfl) rfl (by kernel_rfl) (by kernel_rfl) (by kernel_rfl)) ?_
        refine ok_cons (ok_mv (Or.inl rfl) (by kernel_rfl) rfl (by kernel_rfl) (by kernel_rfl)) ?_
        refine ok_cons (ok_iaddr (b := 1) (off := 0) (off' := (21 - k)) (u := .int .i64 (dn k)) (ix_dn (k := k) (by omega)) rfl (by kernel_rfl) rfl (by kernel_rfl) (by kernel_rfl) (by kernel_rfl) (by kernel_rfl)) ?_
        refine ok_cons (ok_load (b := 1) (off := (21 - k)) (c := ai 22 (dg n)) (v := .int .i64 ((((dg n) (21 - k)) : Nat) : Int)) (ld_at (n := 22) (F := (dg n)) (i := (21 - k)) (t0 := 35) (by omega)) rfl (by kernel_rfl) rfl (by kernel_rfl) (by kernel_rfl) (by kernel_rfl)) ?_
        refine ok_cons (ok_bin (x1 := .int .i64 ((((dg m) (21 - k)) : Nat) : Int)) (u1 := .int .i64 ((((dg n) (21 - k)) : Nat) : Int)) (v := .bool (decide (m < n))) (lt_i (m := ((dg m (21 - k) : Nat) : Int)) (n := ((dg n (21 - k) : Nat) : Int)) (be_end hinv hltk cd)) rfl (by kernel_rfl) rfl (by kernel_rfl) (by kernel_rfl) (by kernel_rfl) (by kernel_rfl) (by kernel_rfl)) ?_
        refine ok_cons (ok_mv (Or.inr rfl) (by kernel_rfl) rfl (by kernel_rfl) (by kernel_rfl)) ?_
        exact ok_nil
      clear h; intro β a w h
      refine sym_then ?_
      refine wp_ret ?_
      refine blk_ret ?_
      refine then_ret ?_
      refine then_ret ?_
      refine blk_ret ?_
      refine then_ret ?_
      exact sym_ret h Try.results83 (by kernel_rfl) (by kernel_rfl) (fun hb => ⟨rfl, hb⟩)
  · obtain rfl : k = 22 := by omega
    rw [be_fin hinv]
    refine sym_seq ?_
    refine sym_seq ?_
    refine St.region h [.inl (.agg (ai 22 (dg m))), .inl (.agg (ai 22 (dg n))), .inr (0, 0), .inr (1, 0), x4, .inl (.int .i64 (dn 22)), .inl (.int .i64 (dn 22)), .inl (.bool false), x8, x9, x10, x11, x12, x13, x14, x15, x16, x17, x18, x19, x20, x21, x22, x23] [(ai 22 (dg m), 35), (ai 22 (dg n), 35)] [(ai 22 (dg m), 35), (ai 22 (dg n), 35)] [#[], #[]] [nn, nn] (by kernel_rfl) (by kernel_rfl) (by kernel_rfl) (by kernel_rfl) (by kernel_rfl) (by kernel_rfl) (by kernel_rfl) (by kernel_rfl) ?_ ?_
    · refine ok_cons (ok_mv (Or.inl rfl) (by kernel_rfl) rfl (by kernel_rfl) (by kernel_rfl)) ?_
      refine ok_cons (ok_bin (x1 := .int .i64 (dn 22)) (u1 := .int .i64 ((0 : Nat) : Int)) (v := .bool false) (ge_i (m := dn 22) (n := ((0 : Nat) : Int)) (decide_eq_false (by unfold dn; omega))) rfl (by kernel_rfl) rfl (by kernel_rfl) (by kernel_rfl) (by kernel_rfl) (by kernel_rfl) (by kernel_rfl)) ?_
      exact ok_nil
    clear h; intro β a w h
    refine sym_then ?_
    refine sym_cond_f h (by kernel_rfl) (by kernel_rfl) ?_
    refine wp_exit ?_
    refine then_exit ?_
    refine then_exit ?_
    refine blk_exit ?_
    refine sym_then ?_
    refine sym_seq ?_
    refine St.region h [.inl (.agg (ai 22 (dg m))), .inl (.agg (ai 22 (dg n))), .inr (0, 0), .inr (1, 0), .inl (.bool false), .inl (.int .i64 (dn 22)), .inl (.int .i64 (dn 22)), .inl (.bool false), x8, x9, x10, x11, x12, x13, x14, x15, x16, x17, x18, x19, x20, x21, x22, x23] [(ai 22 (dg m), 35), (ai 22 (dg n), 35)] [(ai 22 (dg m), 35), (ai 22 (dg n), 35)] [#[], #[]] [nn] (by kernel_rfl) (by kernel_rfl) (by kernel_rfl) (by kernel_rfl) (by kernel_rfl) (by kernel_rfl) (by kernel_rfl) (by kernel_rfl) ?_ ?_
    · refine ok_cons (ok_mv (Or.inr rfl) (by kernel_rfl) rfl (by kernel_rfl) (by kernel_rfl)) ?_
      exact ok_nil
    clear h; intro β a w h
    refine sym_then ?_
    refine wp_ret ?_
    exact sym_ret h Try.results83 (by kernel_rfl) (by kernel_rfl) (fun hb => ⟨rfl, hb⟩)

theorem ld_su {t0 : TypeId} {m n k : Nat} (hi : k < 22) (w : World) (q : Nat) (h : w.heap[q]? = some (.cells (ai 22 (suF m n k)) t0 (0, 0))) : (Instr.loadAt 3 (.pointer (some ⟨q, k, none⟩))).run Try.prog w = .ok (.int .i64 ((dg m k : Nat) : Int)) w := by
  have := ld_at hi w q h
  rwa [suF_at] at this
set_option maxHeartbeats 2000000 in
theorem less_r {m n : Nat} (hle : n ≤ m) (W0 : World) : Calls Try.prog 71 #[.agg (ai 22 (dg m)), .agg (ai 22 (dg n))] W0 fun e w' => e = .returned (.agg (ai 22 (dg (m - n)))) ∧ Below W0.heap.size W0 w' := by
  rw [← suF_end]
  refine sym_enter Try.func71 Try.ntmps71 rfl [.inl (.agg (ai 22 (dg m))), .inl (.agg (ai 22 (dg n))), uu, uu, uu, uu, uu, uu, uu, uu, uu, uu, uu, uu, uu, uu, uu, uu, uu, uu, uu, uu, uu, uu, uu, uu, uu, uu, uu] (by kernel_rfl) (by kernel_rfl) ?_
  intro β a h
  refine sym_seq ?_
  refine St.region h [.inl (.agg (ai 22 (dg m))), .inl (.agg (ai 22 (dg n))), .inr (0, 0), .inr (1, 0), .inr (2, 0), uu, uu, uu, uu, uu, uu, uu, uu, uu, uu, uu, uu, uu, uu, uu, uu, uu, uu, uu, uu, uu, uu, uu, uu] [(ai 22 (dg m), 35), (ai 22 (dg n), 35), (ai 22 (fun _ => 0), 35)] [(ai 22 (dg m), 35), (ai 22 (dg n), 35), (ai 22 (fun _ => 0), 35)] [#[], #[], #[]] [⟨some 0, none, none, false⟩, ⟨some 1, none, none, false⟩, ⟨some 2, none, none, false⟩] (by kernel_rfl) (by kernel_rfl) (by kernel_rfl) (by kernel_rfl) (by kernel_rfl) (by kernel_rfl) (by kernel_rfl) (by kernel_rfl) ?_ ?_
  · refine ok_cons (ok_box (b := 0) (u := .agg (ai 22 (dg m))) (bx22 (F := (dg m))) rfl (by kernel_rfl) rfl (by kernel_rfl) (by kernel_rfl) (by kernel_rfl) (by kernel_rfl)) ?_
    refine ok_cons (ok_box (b := 1) (u := .agg (ai 22 (dg n))) (bx22 (F := (dg n))) rfl (by kernel_rfl) rfl (by kernel_rfl) (by kernel_rfl) (by kernel_rfl) (by kernel_rfl)) ?_
    refine ok_cons (ok_alloc (b := 2) al22 rfl (by kernel_rfl) rfl (by kernel_rfl) (by kernel_rfl)) ?_
    exact ok_nil
  clear h; intro β a w h
  refine sym_then ?_
  refine sym_seq ?_
  refine St.region h [.inl (.agg (ai 22 (dg m))), .inl (.agg (ai 22 (dg n))), .inr (0, 0), .inr (1, 0), .inr (2, 0), .inl (.int .i64 ((0 : Nat) : Int)), uu, uu, uu, uu, uu, uu, uu, uu, uu, uu, uu, uu, uu, uu, uu, uu, uu, uu, uu, uu, uu, uu, uu] [(ai 22 (dg m), 35), (ai 22 (dg n), 35), (ai 22 (fun _ => 0), 35)] [(ai 22 (dg m), 35), (ai 22 (dg n), 35), (ai 22 (fun _ => 0), 35)] [#[], #[], #[]] [nn] (by kernel_rfl) (by kernel_rfl) (by kernel_rfl) (by kernel_rfl) (by kernel_rfl) (by kernel_rfl) (by kernel_rfl) (by kernel_rfl) ?_ ?_
  · refine ok_cons (ok_mv (Or.inr rfl) (by kernel_rfl) rfl (by kernel_rfl) (by kernel_rfl)) ?_
    exact ok_nil
  clear h; intro β a w h
  refine sym_then ?_
  refine sym_seq ?_
  refine sym_seq ?_
  refine St.region h [.inl (.agg (ai 22 (dg m))), .inl (.agg (ai 22 (dg n))), .inr (0, 0), .inr (1, 0), .inr (2, 0), .inl (.int .i64 ((0 : Nat) : Int)), .inl (.int .i64 ((0 : Nat) : Int)), uu, uu, uu, uu, uu, uu, uu, uu, uu, uu, uu, uu, uu, uu, uu, uu, uu, uu, uu, uu, uu, uu] [(ai 22 (dg m), 35), (ai 22 (dg n), 35), (ai 22 (fun _ => 0), 35)] [(ai 22 (dg m), 35), (ai 22 (dg n), 35), (ai 22 (fun _ => 0), 35)] [#[], #[], #[]] [nn] (by kernel_rfl) (by kernel_rfl) (by kernel_rfl) (by kernel_rfl) (by kernel_rfl) (by kernel_rfl) (by kernel_rfl) (by kernel_rfl) ?_ ?_
  · refine ok_cons (ok_mv (Or.inr rfl) (by kernel_rfl) rfl (by kernel_rfl) (by kernel_rfl)) ?_
    exact ok_nil
  clear h; intro β a w h
  refine sym_then ?_
  refine blk_in ?_
  replace h := St.setm h 0 (c := ai 22 (dg m)) (c' := ai 22 (suF m n 0)) (t := 35) (m' := [(ai 22 (suF m n 0), 35), (ai 22 (dg n), 35), (ai 22 (fun _ => 0), 35)]) (suF_zero m n) (by kernel_rfl) (by kernel_rfl)
  replace h := St.sets h 5 (v := .int .i64 ((0 : Nat) : Int)) (v' := .int .i64 (((bo m n 0) : Nat) : Int)) (s' := [.inl (.agg (ai 22 (dg m))), .inl (.agg (ai 22 (dg n))), .inr (0, 0), .inr (1, 0), .inr (2, 0), .inl (.int .i64 (((bo m n 0) : Nat) : Int)), .inl (.int .i64 ((0 : Nat) : Int)), uu, uu, uu, uu, uu, uu, uu, uu, uu, uu, uu, uu, uu, uu, uu, uu, uu, uu, uu, uu, uu, uu]) (by rw [bo_zero]) (by kernel_rfl) (by kernel_rfl)
  refine loop_up 22 (fun k a w => ∃ (x7 x8 x9 x10 x11 x12 x13 x14 x15 x16 x17 x18 x19 x20 x21 x22 x23 x24 x25 x26 x27 : SV) (β : Nat → Nat), St W0 [.inl (.agg (ai 22 (dg m))), .inl (.agg (ai 22 (dg n))), .inr (0, 0), .inr (1, 0), .inr (2, 0), .inl (.int .i64 (((bo m n k) : Nat) : Int)), .inl (.int .i64 ((k : Nat) : Int)), x7, x8, x9, x10, x11, x12, x13, x14, x15, x16, x17, x18, x19, x20, x21, x22, x23, x24, x25, x26, x27, uu] [(ai 22 (suF m n k), 35), (ai 22 (dg n), 35), (ai 22 (fun _ => 0), 35)] β a w) ⟨_, _, _, _, _, _, _, _, _, _, _, _, _, _, _, _, _, _, _, _, _, β, h⟩ ?_
  clear h; rintro k a w hkk ⟨x7, x8, x9, x10, x11, x12, x13, x14, x15, x16, x17, x18, x19, x20, x21, x22, x23, x24, x25, x26, x27, β, h⟩
  rcases Nat.lt_or_ge k 22 with hltk | hgek
  · rcases Nat.lt_or_ge (dg m k) (dg n k + bo m n k) with hb | hb; rotate_left
    · have f1 := dg_lt m k
      have f2 := dg_lt n k
      have f3 := dg_lt (m - n) k
      have f4 := bo_le m n k
      have f5 := sub_no hle hb
      refine sym_seq ?_
      refine sym_seq ?_
      refine St.region h [.inl (.agg (ai 22 (dg m))), .inl (.agg (ai 22 (dg n))), .inr (0, 0), .inr (1, 0), .inr (2, 0), .inl (.int .i64 (((bo m n k) : Nat) : Int)), .inl (.int .i64 ((k : Nat) : Int)), x7, .inl (.int .i64 ((k : Nat) : Int)), .inl (.bool true), x10, x11, x12, x13, x14, x15, x16, x17, x18, x19, x20, x21, x22, x23, x24, x25, x26, x27, uu] [(ai 22 (suF m n k), 35), (ai 22 (dg n), 35), (ai 22 (fun _ => 0), 35)] [(ai 22 (suF m n k), 35), (ai 22 (dg n), 35), (ai 22 (fun _ => 0), 35)] [#[], #[], #[]] [nn, nn] (by kernel_rfl) (by kernel_rfl) (by kernel_rfl) (by kernel_rfl) (by kernel_rfl) (by kernel_rfl) (by kernel_rfl) (by kernel_rfl) ?_ ?_
      · refine ok_cons (ok_mv (Or.inl rfl) (by kernel_rfl) rfl (by kernel_rfl) (by kernel_rfl)) ?_
        refine ok_cons (ok_bin (x1 := .int .i64 ((k : Nat) : Int)) (u1 := .int .i64 ((22 : Nat) : Int)) (v := .bool true) (lt_i (m := ((k : Nat) : Int)) (n := ((22 : Nat) : Int)) (decide_eq_true (by omega))) rfl (by kernel_rfl) rfl (by kernel_rfl) (by kernel_rfl) (by kernel_rfl) (by kernel_rfl) (by kernel_rfl)) ?_
        exact ok_nil
      clear h; intro β a w h
      refine sym_then ?_
      refine sym_cond_t h (by kernel_rfl) (by kernel_rfl) ?_
      refine wp_skip ?_
      refine sym_then ?_
      refine sym_seq ?_
      refine blk_in ?_
      refine sym_seq ?_
      refine St.region h [.inl (.agg (ai 22 (dg m))), .inl (.agg (ai 22 (dg n))), .inr (0, 0), .inr (1, 0), .inr (2, 0), .inl (.int .i64 (((bo m n k) : Nat) : Int)), .inl (.int .i64 ((k : Nat) : Int)), .inl (.int .i64 (((dg (m - n) k) : Nat) : Int)), .inl (.int .i64 ((k : Nat) : Int)), .inl (.bool true), x10, x11, .inl (.int .i64 ((k : Nat) : Int)), .inr (0, k), .inl (.int .i64 (((dg m k) : Nat) : Int)), .inl (.int .i64 ((k : Nat) : Int)), .inr (1, k), .inl (.int .i64 ((((dg n) k) : Nat) : Int)), .inl (.int .i64 (((dg m k : Nat) : Int) - ((dg n k : Nat) : Int))), .inl (.int .i64 (((bo m n k) : Nat) : Int)), .inl (.int .i64 (((dg (m - n) k) : Nat) : Int)), x21, x22, x23, x24, x25, x26, x27, uu] [(ai 22 (suF m n k), 35), (ai 22 (dg n), 35), (ai 22 (fun _ => 0), 35)] [(ai 22 (suF m n k), 35), (ai 22 (dg n), 35), (ai 22 (fun _ => 0), 35)] [#[], #[], #[]] [nn, nn, ⟨none, none, some 0, false⟩, nn, nn, ⟨none, none, some 1, false⟩, nn, nn, nn, nn] (by kernel_rfl) (by kernel_rfl) (by kernel_rfl) (by kernel_rfl) (by kernel_rfl) (by kernel_rfl) (by kernel_rfl) (by kernel_rfl) ?_ ?_
      · refine ok_cons (ok_mv (Or.inl rfl) (by kernel_rfl) rfl (by kernel_rfl) (by kernel_rfl)) ?_
        refine ok_cons (ok_iaddr (b := 0) (off := 0) (off' := k) (u := .int .i64 ((k : Nat) : Int)) (ix22 (i := k) (by omega)) rfl (by kernel_rfl) rfl (by kernel_rfl) (by kernel_rfl) (by kernel_rfl) (by kernel_rfl)) ?_
        refine ok_cons (ok_load (b := 0) (off := k) (c := ai 22 (suF m n k)) (v := .int .i64 (((dg m k) : Nat) : Int)) (ld_su (k := k) (t0 := 35) (by omega)) rfl (by kernel_rfl) rfl (by kernel_rfl) (by kernel_rfl) (by kernel_rfl)) ?_
        refine ok_cons (ok_mv (Or.inl rfl) (by kernel_rfl) rfl (by kernel_rfl) (by kernel_rfl)) ?_
        refine ok_cons (ok_iaddr (b := 1) (off := 0) (off' := k) (u := .int .i64 ((k : Nat) : Int)) (ix22 (i := k) (by omega)) rfl (by kernel_rfl) rfl (by kernel_rfl) (by kernel_rfl) (by kernel_rfl) (by kernel_rfl)) ?_
        refine ok_cons (ok_load (b := 1) (off := k) (c := ai 22 (dg n)) (v := .int .i64 ((((dg n) k) : Nat) : Int)) (ld_at (n := 22) (F := (dg n)) (i := k) (t0 := 35) (by omega)) rfl (by kernel_rfl) rfl (by kernel_rfl) (by kernel_rfl) (by kernel_rfl)) ?_
        refine ok_cons (ok_bin (x1 := .int .i64 (((dg m k) : Nat) : Int)) (u1 := .int .i64 ((((dg n) k) : Nat) : Int)) (v := .int .i64 (((dg m k : Nat) : Int) - ((dg n k : Nat) : Int))) (sb_z (m := ((dg m k : Nat) : Int)) (n := ((dg n k : Nat) : Int)) (by omega) (by omega)) rfl (by kernel_rfl) rfl (by kernel_rfl) (by kernel_rfl) (by kernel_rfl) (by kernel_rfl) (by kernel_rfl)) ?_
        refine ok_cons (ok_mv (Or.inl rfl) (by kernel_rfl) rfl (by kernel_rfl) (by kernel_rfl)) ?_
        refine ok_cons (ok_bin (x1 := .int .i64 (((dg m k : Nat) : Int) - ((dg n k : Nat) : Int))) (u1 := .int .i64 (((bo m n k) : Nat) : Int)) (v := .int .i64 (((dg (m - n) k) : Nat) : Int)) (sb_zn (m := ((dg m k : Nat) : Int) - ((dg n k : Nat) : Int)) (n := ((bo m n k : Nat) : Int)) (k := (dg (m - n) k)) (by omega) (by omega)) rfl (by kernel_rfl) rfl (by kernel_rfl) (by kernel_rfl) (by kernel_rfl) (by kernel_rfl) (by kernel_rfl)) ?_
        refine ok_cons (ok_mv (Or.inr rfl) (by kernel_rfl) rfl (by kernel_rfl) (by kernel_rfl)) ?_
        exact ok_nil
      clear h; intro β a w h
      refine sym_then ?_
      refine sym_seq ?_
      refine St.region h [.inl (.agg (ai 22 (dg m))), .inl (.agg (ai 22 (dg n))), .inr (0, 0), .inr (1, 0), .inr (2, 0), .inl (.int .i64 ((0 : Nat) : Int)), .inl (.int .i64 ((k : Nat) : Int)), .inl (.int .i64 (((dg (m - n) k) : Nat) : Int)), .inl (.int .i64 ((k : Nat) : Int)), .inl (.bool true), x10, x11, .inl (.int .i64 ((k : Nat) : Int)), .inr (0, k), .inl (.int .i64 (((dg m k) : Nat) : Int)), .inl (.int .i64 ((k : Nat) : Int)), .inr (1, k), .inl (.int .i64 ((((dg n) k) : Nat) : Int)), .inl (.int .i64 (((dg m k : Nat) : Int) - ((dg n k : Nat) : Int))), .inl (.int .i64 (((bo m n k) : Nat) : Int)), .inl (.int .i64 (((dg (m - n) k) : Nat) : Int)), x21, x22, x23, x24, x25, x26, x27, uu] [(ai 22 (suF m n k), 35), (ai 22 (dg n), 35), (ai 22 (fun _ => 0), 35)] [(ai 22 (suF m n k), 35), (ai 22 (dg n), 35), (ai 22 (fun _ => 0), 35)] [#[], #[], #[]] [nn] (by kernel_rfl) (by kernel_rfl) (by kernel_rfl) (by kernel_rfl) (by kernel_rfl) (by kernel_rfl) (by kernel_rfl) (by kernel_rfl) ?_ ?_
      · refine ok_cons (ok_mv (Or.inr rfl) (by kernel_rfl) rfl (by kernel_rfl) (by kernel_rfl)) ?_
        exact ok_nil
      clear h; intro β a w h
      refine sym_then ?_
      refine sym_seq ?_
      refine sym_seq ?_
      refine St.region h [.inl (.agg (ai 22 (dg m))), .inl (.agg (ai 22 (dg n))), .inr (0, 0), .inr (1, 0), .inr (2, 0), .inl (.int .i64 ((0 : Nat) : Int)), .inl (.int .i64 ((k : Nat) : Int)), .inl (.int .i64 (((dg (m - n) k) : Nat) : Int)), .inl (.int .i64 ((k : Nat) : Int)), .inl (.bool true), x10, x11, .inl (.int .i64 ((k : Nat) : Int)), .inr (0, k), .inl (.int .i64 (((dg m k) : Nat) : Int)), .inl (.int .i64 ((k : Nat) : Int)), .inr (1, k), .inl (.int .i64 ((((dg n) k) : Nat) : Int)), .inl (.int .i64 (((dg m k : Nat) : Int) - ((dg n k : Nat) : Int))), .inl (.int .i64 (((bo m n k) : Nat) : Int)), .inl (.int .i64 (((dg (m - n) k) : Nat) : Int)), .inl (.int .i64 (((dg (m - n) k) : Nat) : Int)), .inl (.bool false), x23, x24, x25, x26, x27, uu] [(ai 22 (suF m n k), 35), (ai 22 (dg n), 35), (ai 22 (fun _ => 0), 35)] [(ai 22 (suF m n k), 35), (ai 22 (dg n), 35), (ai 22 (fun _ => 0), 35)] [#[], #[], #[]] [nn, nn] (by kernel_rfl) (by kernel_rfl) (by kernel_rfl) (by kernel_rfl) (by kernel_rfl) (by kernel_rfl) (by kernel_rfl) (by kernel_rfl) ?_ ?_
      · refine ok_cons (ok_mv (Or.inl rfl) (by kernel_rfl) rfl (by kernel_rfl) (by kernel_rfl)) ?_
        refine ok_cons (ok_bin (x1 := .int .i64 (((dg (m - n) k) : Nat) : Int)) (u1 := .int .i64 ((0 : Nat) : Int)) (v := .bool false) (lt_i (m := (((dg (m - n) k) : Nat) : Int)) (n := ((0 : Nat) : Int)) (decide_eq_false (by omega))) rfl (by kernel_rfl) rfl (by kernel_rfl) (by kernel_rfl) (by kernel_rfl) (by kernel_rfl) (by kernel_rfl)) ?_
        exact ok_nil
      clear h; intro β a w h
      refine sym_then ?_
      refine sym_cond_f h (by kernel_rfl) (by kernel_rfl) ?_
      refine wp_skip ?_
      refine sym_then ?_
      refine St.region h [.inl (.agg (ai 22 (dg m))), .inl (.agg (ai 22 (dg n))), .inr (0, 0), .inr (1, 0), .inr (2, 0), .inl (.int .i64 ((0 : Nat) : Int)), .inl (.int .i64 ((k : Nat) : Int)), .inl (.int .i64 (((dg (m - n) k) : Nat) : Int)), .inl (.int .i64 ((k : Nat) : Int)), .inl (.bool true), x10, x11, .inl (.int .i64 ((k : Nat) : Int)), .inr (0, k), .inl (.int .i64 (((dg m k) : Nat) : Int)), .inl (.int .i64 ((k : Nat) : Int)), .inr (1, k), .inl (.int .i64 ((((dg n) k) : Nat) : Int)), .inl (.int .i64 (((dg m k : Nat) : Int) - ((dg n k : Nat) : Int))), .inl (.int .i64 (((bo m n k) : Nat) : Int)), .inl (.int .i64 (((dg (m - n) k) : Nat) : Int)), .inl (.int .i64 (((dg (m - n) k) : Nat) : Int)), .inl (.bool false), x23, x24, .inl (.int .i64 ((k : Nat) : Int)), .inl (.int .i64 (((dg (m - n) k) : Nat) : Int)), .inr (0, k), uu] [(ai 22 (updN (suF m n k) k (dg (m - n) k)), 35), (ai 22 (dg n), 35), (ai 22 (fun _ => 0), 35)] [(ai 22 (suF m n k), 35), (ai 22 (dg n), 35), (ai 22 (fun _ => 0), 35)] [ai 22 (updN (suF m n k) k (dg (m - n) k)), #[], #[]] [nn, nn, nn, ⟨none, some 0, none, false⟩] (by kernel_rfl) (by kernel_rfl) (by kernel_rfl) (by kernel_rfl) (by kernel_rfl) (by kernel_rfl) (by kernel_rfl) (by kernel_rfl) ?_ ?_
      · refine ok_cons (ok_mv (Or.inl rfl) (by kernel_rfl) rfl (by kernel_rfl) (by kernel_rfl)) ?_
        refine ok_cons (ok_mv (Or.inl rfl) (by kernel_rfl) rfl (by kernel_rfl) (by kernel_rfl)) ?_
        refine ok_cons (ok_iaddr (b := 0) (off := 0) (off' := k) (u := .int .i64 ((k : Nat) : Int)) (ix22 (i := k) (by omega)) rfl (by kernel_rfl) rfl (by kernel_rfl) (by kernel_rfl) (by kernel_rfl) (by kernel_rfl)) ?_
        refine ok_cons (ok_store (b := 0) (off := k) (u := .int .i64 (((dg (m - n) k) : Nat) : Int)) (c := ai 22 (suF m n k)) (n := ai 22 (updN (suF m n k) k (dg (m - n) k))) (st_at (n := 22) (F := (suF m n k)) (i := k) (v := (dg (m - n) k)) (t0 := 35) (by omega)) rfl (by kernel_rfl) rfl (by kernel_rfl) (by kernel_rfl) (by kernel_rfl) (by kernel_rfl) (by kernel_rfl)) ?_
        exact ok_nil
      clear h; intro β a w h
      refine blk_norm ?_
      refine sym_then ?_
      refine St.region h [.inl (.agg (ai 22 (dg m))), .inl (.agg (ai 22 (dg n))), .inr (0, 0), .inr (1, 0), .inr (2, 0), .inl (.int .i64 ((0 : Nat) : Int)), .inl (.int .i64 (((k + 1) : Nat) : Int)), .inl (.int .i64 (((dg (m - n) k) : Nat) : Int)), .inl (.int .i64 ((k : Nat) : Int)), .inl (.bool true), .inl (.int .i64 ((k : Nat) : Int)), .inl (.int .i64 (((k + 1) : Nat) : Int)), .inl (.int .i64 ((k : Nat) : Int)), .inr (0, k), .inl (.int .i64 (((dg m k) : Nat) : Int)), .inl (.int .i64 ((k : Nat) : Int)), .inr (1, k), .inl (.int .i64 ((((dg n) k) : Nat) : Int)), .inl (.int .i64 (((dg m k : Nat) : Int) - ((dg n k : Nat) : Int))), .inl (.int .i64 (((bo m n k) : Nat) : Int)), .inl (.int .i64 (((dg (m - n) k) : Nat) : Int)), .inl (.int .i64 (((dg (m - n) k) : Nat) : Int)), .inl (.bool false), x23, x24, .inl (.int .i64 ((k : Nat) : Int)), .inl (.int .i64 (((dg (m - n) k) : Nat) : Int)), .inr (0, k), uu] [(ai 22 (updN (suF m n k) k (dg (m - n) k)), 35), (ai 22 (dg n), 35), (ai 22 (fun _ => 0), 35)] [(ai 22 (updN (suF m n k) k (dg (m - n) k)), 35), (ai 22 (dg n), 35), (ai 22 (fun _ => 0), 35)] [#[], #[], #[]] [⟨none, none, none, true⟩, nn, nn] (by kernel_rfl) (by kernel_rfl) (by kernel_rfl) (by kernel_rfl) (by kernel_rfl) (by kernel_rfl) (by kernel_rfl) (by kernel_rfl) ?_ ?_
      · refine ok_cons (ok_mv0 rfl (by kernel_rfl) rfl (by kernel_rfl) (by kernel_rfl)) ?_
        refine ok_cons (ok_bin (x1 := .int .i64 ((k : Nat) : Int)) (u1 := .int .i64 ((1 : Nat) : Int)) (v := .int .i64 (((k + 1) : Nat) : Int)) (ad_i (m := k) (n := 1) (by omega)) rfl (by kernel_rfl) rfl (by kernel_rfl) (by kernel_rfl) (by kernel_rfl) (by kernel_rfl) (by kernel_rfl)) ?_
        refine ok_cons (ok_mv (Or.inr rfl) (by kernel_rfl) rfl (by kernel_rfl) (by kernel_rfl)) ?_
        exact ok_nil
      clear h; intro β a w h
      replace h := St.setm h 0 (c := ai 22 (updN (suF m n k) k (dg (m - n) k))) (c' := ai 22 (suF m n (k + 1))) (t := 35) (m' := [(ai 22 (suF m n (k + 1)), 35), (ai 22 (dg n), 35), (ai 22 (fun _ => 0), 35)]) (suF_next rfl) (by kernel_rfl) (by kernel_rfl)
      replace h := St.sets h 5 (v := .int .i64 ((0 : Nat) : Int)) (v' := .int .i64 (((bo m n (k + 1)) : Nat) : Int)) (s' := [.inl (.agg (ai 22 (dg m))), .inl (.agg (ai 22 (dg n))), .inr (0, 0), .inr (1, 0), .inr (2, 0), .inl (.int .i64 (((bo m n (k + 1)) : Nat) : Int)), .inl (.int .i64 (((k + 1) : Nat) : Int)), .inl (.int .i64 (((dg (m - n) k) : Nat) : Int)), .inl (.int .i64 ((k : Nat) : Int)), .inl (.bool true), .inl (.int .i64 ((k : Nat) : Int)), .inl (.int .i64 (((k + 1) : Nat) : Int)), .inl (.int .i64 ((k : Nat) : Int)), .inr (0, k), .inl (.int .i64 (((dg m k) : Nat) : Int)), .inl (.int .i64 ((k : Nat) : Int)), .inr (1, k), .inl (.int .i64 ((((dg n) k) : Nat) : Int)), .inl (.int .i64 (((dg m k : Nat) : Int) - ((dg n k : Nat) : Int))), .inl (.int .i64 (((bo m n k) : Nat) : Int)), .inl (.int .i64 (((dg (m - n) k) : Nat) : Int)), .inl (.int .i64 (((dg (m - n) k) : Nat) : Int)), .inl (.bool false), x23, x24, .inl (.int .i64 ((k : Nat) : Int)), .inl (.int .i64 (((dg (m - n) k) : Nat) : Int)), .inr (0, k), uu]) (by rw [bo_no hb]) (by kernel_rfl) (by kernel_rfl)
      exact ⟨hltk, _, _, _, _, _, _, _, _, _, _, _, _, _, _, _, _, _, _, _, _, _, _, h⟩
    · have f1 := dg_lt m k
      have f2 := dg_lt n k
      have f3 := dg_lt (m - n) k
      have f4 := bo_le m n k
      have f5 := sub_yes hle hb
      refine sym_seq ?_
      refine sym_seq ?_
      refine St.region h [.inl (.agg (ai 22 (dg m))), .inl (.agg (ai 22 (dg n))), .inr (0, 0), .inr (1, 0), .inr (2, 0), .inl (.int .i64 (((bo m n k) : Nat) : Int)), .inl (.int .i64 ((k : Nat) : Int)), x7, .inl (.int .i64 ((k : Nat) : Int)), .inl (.bool true), x10, x11, x12, x13, x14, x15, x16, x17, x18, x19, x20, x21, x22, x23, x24, x25, x26, x27, uu] [(ai 22 (suF m n k), 35), (ai 22 (dg n), 35), (ai 22 (fun _ => 0), 35)] [(ai 22 (suF m n k), 35), (ai 22 (dg n), 35), (ai 22 (fun _ => 0), 35)] [#[], #[], #[]] [nn, nn] (by kernel_rfl) (by kernel_rfl) (by kernel_rfl) (by kernel_rfl) (by kernel_rfl) (by kernel_rfl) (by kernel_rfl) (by kernel_rfl) ?_ ?_
      · refine ok_cons (ok_mv (Or.inl rfl) (by kernel_rfl) rfl (by kernel_rfl) (by kernel_rfl)) ?_
        refine ok_cons (ok_bin (x1 := .int .i64 ((k : Nat) : Int)) (u1 := .int .i64 ((22 : Nat) : Int)) (v := .bool true) (lt_i (m := ((k : Nat) : Int)) (n := ((22 : Nat) : Int)) (decide_eq_true (by omega))) rfl (by kernel_rfl) rfl (by kernel_rfl) (by kernel_rfl) (by kernel_rfl) (by kernel_rfl) (by kernel_rfl)) ?_
        exact ok_nil
      clear h; intro β a w h
      refine sym_then ?_
      refine sym_cond_t h (by kernel_rfl) (by kernel_rfl) ?_
      refine wp_skip ?_
      refine sym_then ?_
      refine sym_seq ?_
      refine blk_in ?_
      refine sym_seq ?_
      refine St.region h [.inl (.agg (ai 22 (dg m))), .inl (.agg (ai 22 (dg n))), .inr (0, 0), .inr (1, 0), .inr (2, 0), .inl (.int .i64 (((bo m n k) : Nat) : Int)), .inl (.int .i64 ((k : Nat) : Int)), .inl (.int .i64 (((dg m k : Nat) : Int) - ((dg n k : Nat) : Int) - ((bo m n k : Nat) : Int))), .inl (.int .i64 ((k : Nat) : Int)), .inl (.bool true), x10, x11, .inl (.int .i64 ((k : Nat) : Int)), .inr (0, k), .inl (.int .i64 (((dg m k) : Nat) : Int)), .inl (.int .i64 ((k : Nat) : Int)), .inr (1, k), .inl (.int .i64 ((((dg n) k) : Nat) : Int)), .inl (.int .i64 (((dg m k : Nat) : Int) - ((dg n k : Nat) : Int))), .inl (.int .i64 (((bo m n k) : Nat) : Int)), .inl (.int .i64 (((dg m k : Nat) : Int) - ((dg n k : Nat) : Int) - ((bo m n k : Nat) : Int))), x21, x22, x23, x24, x25, x26, x27, uu] [(ai 22 (suF m n k), 35), (ai 22 (dg n), 35), (ai 22 (fun _ => 0), 35)] [(ai 22 (suF m n k), 35), (ai 22 (dg n), 35), (ai 22 (fun _ => 0), 35)] [#[], #[], #[]] [nn, nn, ⟨none, none, some 0, false⟩, nn, nn, ⟨none, none, some 1, false⟩, nn, nn, nn, nn] (by kernel_rfl) (by kernel_rfl) (by kernel_rfl) (by kernel_rfl) (by kernel_rfl) (by kernel_rfl) (by kernel_rfl) (by kernel_rfl) ?_ ?_
      · refine ok_cons (ok_mv (Or.inl rfl) (by kernel_rfl) rfl (by kernel_rfl) (by kernel_rfl)) ?_
        refine ok_cons (ok_iaddr (b := 0) (off := 0) (off' := k) (u := .int .i64 ((k : Nat) : Int)) (ix22 (i := k) (by omega)) rfl (by kernel_rfl) rfl (by kernel_rfl) (by kernel_rfl) (by kernel_rfl) (by kernel_rfl)) ?_
        refine ok_cons (ok_load (b := 0) (off := k) (c := ai 22 (suF m n k)) (v := .int .i64 (((dg m k) : Nat) : Int)) (ld_su (k := k) (t0 := 35) (by omega)) rfl (by kernel_rfl) rfl (by kernel_rfl) (by kernel_rfl) (by kernel_rfl)) ?_
        refine ok_cons (ok_mv (Or.inl rfl) (by kernel_rfl) rfl (by kernel_rfl) (by kernel_rfl)) ?_
        refine ok_cons (ok_iaddr (b := 1) (off := 0) (off' := k) (u := .int .i64 ((k : Nat) : Int)) (ix22 (i := k) (by omega)) rfl (by kernel_rfl) rfl (by kernel_rfl) (by kernel_rfl) (by kernel_rfl) (by kernel_rfl)) ?_
        refine ok_cons (ok_load (b := 1) (off := k) (c := ai 22 (dg n)) (v := .int .i64 ((((dg n) k) : Nat) : Int)) (ld_at (n := 22) (F := (dg n)) (i := k) (t0 := 35) (by omega)) rfl (by kernel_rfl) rfl (by kernel_rfl) (by kernel_rfl) (by kernel_rfl)) ?_
        refine ok_cons (ok_bin (x1 := .int .i64 (((dg m k) : Nat) : Int)) (u1 := .int .i64 ((((dg n) k) : Nat) : Int)) (v := .int .i64 (((dg m k : Nat) : Int) - ((dg n k : Nat) : Int))) (sb_z (m := ((dg m k : Nat) : Int)) (n := ((dg n k : Nat) : Int)) (by omega) (by omega)) rfl (by kernel_rfl) rfl (by kernel_rfl) (by kernel_rfl) (by kernel_rfl) (by kernel_rfl) (by kernel_rfl)) ?_
        refine ok_cons (ok_mv (Or.inl rfl) (by kernel_rfl) rfl (by kernel_rfl) (by kernel_rfl)) ?_
        refine ok_cons (ok_bin (x1 := .int .i64 (((dg m k : Nat) : Int) - ((dg n k : Nat) : Int))) (u1 := .int .i64 (((bo m n k) : Nat) : Int)) (v := .int .i64 (((dg m k : Nat) : Int) - ((dg n k : Nat) : Int) - ((bo m n k : Nat) : Int))) (sb_z (m := ((dg m k : Nat) : Int) - ((dg n k : Nat) : Int)) (n := ((bo m n k : Nat) : Int)) (by omega) (by omega)) rfl (by kernel_rfl) rfl (by kernel_rfl) (by kernel_rfl) (by kernel_rfl) (by kernel_rfl) (by kernel_rfl)) ?_
        refine ok_cons (ok_mv (Or.inr rfl) (by kernel_rfl) rfl (by kernel_rfl) (by kernel_rfl)) ?_
        exact ok_nil
      clear h; intro β a w h
      refine sym_then ?_
      refine sym_seq ?_
      refine St.region h [.inl (.agg (ai 22 (dg m))), .inl (.agg (ai 22 (dg n))), .inr (0, 0), .inr (1, 0), .inr (2, 0), .inl (.int .i64 ((0 : Nat) : Int)), .inl (.int .i64 ((k : Nat) : Int)), .inl (.int .i64 (((dg m k : Nat) : Int) - ((dg n k : Nat) : Int) - ((bo m n k : Nat) : Int))), .inl (.int .i64 ((k : Nat) : Int)), .inl (.bool true), x10, x11, .inl (.int .i64 ((k : Nat) : Int)), .inr (0, k), .inl (.int .i64 (((dg m k) : Nat) : Int)), .inl (.int .i64 ((k : Nat) : Int)), .inr (1, k), .inl (.int .i64 ((((dg n) k) : Nat) : Int)), .inl (.int .i64 (((dg m k : Nat) : Int) - ((dg n k : Nat) : Int))), .inl (.int .i64 (((bo m n k) : Nat) : Int)), .inl (.int .i64 (((dg m k : Nat) : Int) - ((dg n k : Nat) : Int) - ((bo m n k : Nat) : Int))), x21, x22, x23, x24, x25, x26, x27, uu] [(ai 22 (suF m n k), 35), (ai 22 (dg n), 35), (ai 22 (fun _ => 0), 35)] [(ai 22 (suF m n k), 35), (ai 22 (dg n), 35), (ai 22 (fun _ => 0), 35)] [#[], #[], #[]] [nn] (by kernel_rfl) (by kernel_rfl) (by kernel_rfl) (by kernel_rfl) (by kernel_rfl) (by kernel_rfl) (by kernel_rfl) (by kernel_rfl) ?_ ?_
      · refine ok_cons (ok_mv (Or.inr rfl) (by kernel_rfl) rfl (by kernel_rfl) (by kernel_rfl)) ?_
        exact ok_nil
      clear h; intro β a w h
      refine sym_then ?_
      refine sym_seq ?_
      refine sym_seq ?_
      refine St.region h [.inl (.agg (ai 22 (dg m))), .inl (.agg (ai 22 (dg n))), .inr (0, 0), .inr (1, 0), .inr (2, 0), .inl (.int .i64 ((0 : Nat) : Int)), .inl (.int .i64 ((k : Nat) : Int)), .inl (.int .i64 (((dg m k : Nat) : Int) - ((dg n k : Nat) : Int) - ((bo m n k : Nat) : Int))), .inl (.int .i64 ((k : Nat) : Int)), .inl (.bool true), x10, x11, .inl (.int .i64 ((k : Nat) : Int)), .inr (0, k), .inl (.int .i64 (((dg m k) : Nat) : Int)), .inl (.int .i64 ((k : Nat) : Int)), .inr (1, k), .inl (.int .i64 ((((dg n) k) : Nat) : Int)), .inl (.int .i64 (((dg m k : Nat) : Int) - ((dg n k : Nat) : Int))), .inl (.int .i64 (((bo m n k) : Nat) : Int)), .inl (.int .i64 (((dg m k : Nat) : Int) - ((dg n k : Nat) : Int) - ((bo m n k : Nat) : Int))), .inl (.int .i64 (((dg m k : Nat) : Int) - ((dg n k : Nat) : Int) - ((bo m n k : Nat) : Int))), .inl (.bool true), x23, x24, x25, x26, x27, uu] [(ai 22 (suF m n k), 35), (ai 22 (dg n), 35), (ai 22 (fun _ => 0), 35)] [(ai 22 (suF m n k), 35), (ai 22 (dg n), 35), (ai 22 (fun _ => 0), 35)] [#[], #[], #[]] [nn, nn] (by kernel_rfl) (by kernel_rfl) (by kernel_rfl) (by kernel_rfl) (by kernel_rfl) (by kernel_rfl) (by kernel_rfl) (by kernel_rfl) ?_ ?_
      · refine ok_cons (ok_mv (Or.inl rfl) (by kernel_rfl) rfl (by kernel_rfl) (by kernel_rfl)) ?_
        refine ok_cons (ok_bin (x1 := .int .i64 (((dg m k : Nat) : Int) - ((dg n k : Nat) : Int) - ((bo m n k : Nat) : Int))) (u1 := .int .i64 ((0 : Nat) : Int)) (v := .bool true) (lt_i (m := ((dg m k : Nat) : Int) - ((dg n k : Nat) : Int) - ((bo m n k : Nat) : Int)) (n := ((0 : Nat) : Int)) (decide_eq_true (by omega))) rfl (by kernel_rfl) rfl (by kernel_rfl) (by kernel_rfl) (by kernel_rfl) (by kernel_rfl) (by kernel_rfl)) ?_
        exact ok_nil
      clear h; intro β a w h
      refine sym_then ?_
      refine sym_cond_t h (by kernel_rfl) (by kernel_rfl) ?_
      refine sym_seq ?_
      refine St.region h [.inl (.agg (ai 22 (dg m))), .inl (.agg (ai 22 (dg n))), .inr (0, 0), .inr (1, 0), .inr (2, 0), .inl (.int .i64 ((0 : Nat) : Int)), .inl (.int .i64 ((k : Nat) : Int)), .inl (.int .i64 (((dg (m - n) k) : Nat) : Int)), .inl (.int .i64 ((k : Nat) : Int)), .inl (.bool true), x10, x11, .inl (.int .i64 ((k : Nat) : Int)), .inr (0, k), .inl (.int .i64 (((dg m k) : Nat) : Int)), .inl (.int .i64 ((k : Nat) : Int)), .inr (1, k), .inl (.int .i64 ((((dg n) k) : Nat) : Int)), .inl (.int .i64 (((dg m k : Nat) : Int) - ((dg n k : Nat) : Int))), .inl (.int .i64 (((bo m n k) : Nat) : Int)), .inl (.int .i64 (((dg m k : Nat) : Int) - ((dg n k : Nat) : Int) - ((bo m n k : Nat) : Int))), .inl (.int .i64 (((dg m k : Nat) : Int) - ((dg n k : Nat) : Int) - ((bo m n k : Nat) : Int))), .inl (.bool true), .inl (.int .i64 (((dg m k : Nat) : Int) - ((dg n k : Nat) : Int) - ((bo m n k : Nat) : Int))), .inl (.int .i64 (((dg (m - n) k) : Nat) : Int)), x25, x26, x27, uu] [(ai 22 (suF m n k), 35), (ai 22 (dg n), 35), (ai 22 (fun _ => 0), 35)] [(ai 22 (suF m n k), 35), (ai 22 (dg n), 35), (ai 22 (fun _ => 0), 35)] [#[], #[], #[]] [⟨none, none, none, true⟩, nn, nn] (by kernel_rfl) (by kernel_rfl) (by kernel_rfl) (by kernel_rfl) (by kernel_rfl) (by kernel_rfl) (by kernel_rfl) (by kernel_rfl) ?_ ?_
      · refine ok_cons (ok_mv0 rfl (by kernel_rfl) rfl (by kernel_rfl) (by kernel_rfl)) ?_
        refine ok_cons (ok_bin (x1 := .int .i64 (((dg m k : Nat) : Int) - ((dg n k : Nat) : Int) - ((bo m n k : Nat) : Int))) (u1 := .int .i64 ((4096 : Nat) : Int)) (v := .int .i64 (((dg (m - n) k) : Nat) : Int)) (ad_zn (m := ((dg m k : Nat) : Int) - ((dg n k : Nat) : Int) - ((bo m n k : Nat) : Int)) (n := ((4096 : Nat) : Int)) (k := (dg (m - n) k)) (by omega) (by omega)) rfl (by kernel_rfl) rfl (by kernel_rfl) (by kernel_rfl) (by kernel_rfl) (by kernel_rfl) (by kernel_rfl)) ?_
        refine ok_cons (ok_mv (Or.inr rfl) (by kernel_rfl) rfl (by kernel_rfl) (by kernel_rfl)) ?_
        exact ok_nil
      clear h; intro β a w h
      refine sym_then ?_
      refine St.region h [.inl (.agg (ai 22 (dg m))), .inl (.agg (ai 22 (dg n))), .inr (0, 0), .inr (1, 0), .inr (2, 0), .inl (.int .i64 ((1 : Nat) : Int)), .inl (.int .i64 ((k : Nat) : Int)), .inl (.int .i64 (((dg (m - n) k) : Nat) : Int)), .inl (.int .i64 ((k : Nat) : Int)), .inl (.bool true), x10, x11, .inl (.int .i64 ((k : Nat) : Int)), .inr (0, k), .inl (.int .i64 (((dg m k) : Nat) : Int)), .inl (.int .i64 ((k : Nat) : Int)), .inr (1, k), .inl (.int .i64 ((((dg n) k) : Nat) : Int)), .inl (.int .i64 (((dg m k : Nat) : Int) - ((dg n k : Nat) : Int))), .inl (.int .i64 (((bo m n k) : Nat) : Int)), .inl (.int .i64 (((dg m k : Nat) : Int) - ((dg n k : Nat) : Int) - ((bo m n k : Nat) : Int))), .inl (.int .i64 (((dg m k : Nat) : Int) - ((dg n k : Nat) : Int) - ((bo m n k : Nat) : Int))), .inl (.bool true), .inl (.int .i64 (((dg m k : Nat) : Int) - ((dg n k : Nat) : Int) - ((bo m n k : Nat) : Int))), .inl (.int .i64 (((dg (m - n) k) : Nat) : Int)), x25, x26, x27, uu] [(ai 22 (suF m n k), 35), (ai 22 (dg n), 35), (ai 22 (fun _ => 0), 35)] [(ai 22 (suF m n k), 35), (ai 22 (dg n), 35), (ai 22 (fun _ => 0), 35)] [#[], #[], #[]] [nn] (by kernel_rfl) (by kernel_rfl) (by kernel_rfl) (by kernel_rfl) (by kernel_rfl) (by kernel_rfl) (by kernel_rfl) (by kernel_rfl) ?_ ?_
      · refine ok_cons (ok_mv (Or.inr rfl) (by kernel_rfl) rfl (by kernel_rfl) (by kernel_rfl)) ?_
        exact ok_nil
      clear h; intro β a w h
      refine sym_then ?_
      refine St.region h [.inl (.agg (ai 22 (dg m))), .inl (.agg (ai 22 (dg n))), .inr (0, 0), .inr (1, 0), .inr (2, 0), .inl (.int .i64 ((1 : Nat) : Int)), .inl (.int .i64 ((k : Nat) : Int)), .inl (.int .i64 (((dg (m - n) k) : Nat) : Int)), .inl (.int .i64 ((k : Nat) : Int)), .inl (.bool true), x10, x11, .inl (.int .i64 ((k : Nat) : Int)), .inr (0, k), .inl (.int .i64 (((dg m k) : Nat) : Int)), .inl (.int .i64 ((k : Nat) : Int)), .inr (1, k), .inl (.int .i64 ((((dg n) k) : Nat) : Int)), .inl (.int .i64 (((dg m k : Nat) : Int) - ((dg n k : Nat) : Int))), .inl (.int .i64 (((bo m n k) : Nat) : Int)), .inl (.int .i64 (((dg m k : Nat) : Int) - ((dg n k : Nat) : Int) - ((bo m n k : Nat) : Int))), .inl (.int .i64 (((dg m k : Nat) : Int) - ((dg n k : Nat) : Int) - ((bo m n k : Nat) : Int))), .inl (.bool true), .inl (.int .i64 (((dg m k : Nat) : Int) - ((dg n k : Nat) : Int) - ((bo m n k : Nat) : Int))), .inl (.int .i64 (((dg (m - n) k) : Nat) : Int)), .inl (.int .i64 ((k : Nat) : Int)), .inl (.int .i64 (((dg (m - n) k) : Nat) : Int)), .inr (0, k), uu] [(ai 22 (updN (suF m n k) k (dg (m - n) k)), 35), (ai 22 (dg n), 35), (ai 22 (fun _ => 0), 35)] [(ai 22 (suF m n k), 35), (ai 22 (dg n), 35), (ai 22 (fun _ => 0), 35)] [ai 22 (updN (suF m n k) k (dg (m - n) k)), #[], #[]] [nn, nn, nn, ⟨none, some 0, none, false⟩] (by kernel_rfl) (by kernel_rfl) (by kernel_rfl) (by kernel_rfl) (by kernel_rfl) (by kernel_rfl) (by kernel_rfl) (by kernel_rfl) ?_ ?_
      · refine ok_cons (ok_mv (Or.inl rfl) (by kernel_rfl) rfl (by kernel_rfl) (by kernel_rfl)) ?_
        refine ok_cons (ok_mv (Or.inl rfl) (by kernel_rfl) rfl (by kernel_rfl) (by kernel_rfl)) ?_
        refine ok_cons (ok_iaddr (b := 0) (off := 0) (off' := k) (u := .int .i64 ((k : Nat) : Int)) (ix22 (i := k) (by omega)) rfl (by kernel_rfl) rfl (by kernel_rfl) (by kernel_rfl) (by kernel_rfl) (by kernel_rfl)) ?_
        refine ok_cons (ok_store (b := 0) (off := k) (u := .int .i64 (((dg (m - n) k) : Nat) : Int)) (c := ai 22 (suF m n k)) (n := ai 22 (updN (suF m n k) k (dg (m - n) k))) (st_at (n := 22) (F := (suF m n k)) (i := k) (v := (dg (m - n) k)) (t0 := 35) (by omega)) rfl (by kernel_rfl) rfl (by kernel_rfl) (by kernel_rfl) (by kernel_rfl) (by kernel_rfl) (by kernel_rfl)) ?_
        exact ok_nil
      clear h; intro β a w h
      refine blk_norm ?_
      refine sym_then ?_
      refine St.region h [.inl (.agg (ai 22 (dg m))), .inl (.agg (ai 22 (dg n))), .inr (0, 0), .inr (1, 0), .inr (2, 0), .inl (.int .i64 ((1 : Nat) : Int)), .inl (.int .i64 (((k + 1) : Nat) : Int)), .inl (.int .i64 (((dg (m - n) k) : Nat) : Int)), .inl (.int .i64 ((k : Nat) : Int)), .inl (.bool true), .inl (.int .i64 ((k : Nat) : Int)), .inl (.int .i64 (((k + 1) : Nat) : Int)), .inl (.int .i64 ((k : Nat) : Int)), .inr (0, k), .inl (.int .i64 (((dg m k) : Nat) : Int)), .inl (.int .i64 ((k : Nat) : Int)), .inr (1, k), .inl (.int .i64 ((((dg n) k) : Nat) : Int)), .inl (.int .i64 (((dg m k : Nat) : Int) - ((dg n k : Nat) : Int))), .inl (.int .i64 (((bo m n k) : Nat) : Int)), .inl (.int .i64 (((dg m k : Nat) : Int) - ((dg n k : Nat) : Int) - ((bo m n k : Nat) : Int))), .inl (.int .i64 (((dg m k : Nat) : Int) - ((dg n k : Nat) : Int) - ((bo m n k : Nat) : Int))), .inl (.bool true), .inl (.int .i64 (((dg m k : Nat) : Int) - ((dg n k : Nat) : Int) - ((bo m n k : Nat) : Int))), .inl (.int .i64 (((dg (m - n) k) : Nat) : Int)), .inl (.int .i64 ((k : Nat) : Int)), .inl (.int .i64 (((dg (m - n) k) : Nat) : Int)), .inr (0, k), uu] [(ai 22 (updN (suF m n k) k (dg (m - n) k)), 35), (ai 22 (dg n), 35), (ai 22 (fun _ => 0), 35)] [(ai 22 (updN (suF m n k) k (dg (m - n) k)), 35), (ai 22 (dg n), 35), (ai 22 (fun _ => 0), 35)] [#[], #[], #[]] [⟨none, none, none, true⟩, nn, nn] (by kernel_rfl) (by kernel_rfl) (by kernel_rfl) (by kernel_rfl) (by kernel_rfl) (by kernel_rfl) (by kernel_rfl) (by kernel_rfl) ?_ ?_
      · refine ok_cons (ok_mv0 rfl (by kernel_rfl) rfl (by kernel_rfl) (by kernel_rfl)) ?_
        refine ok_cons (ok_bin (x1 := .int .i64 ((k : Nat) : Int)) (u1 := .int .i64 ((1 : Nat) : Int)) (v := .int .i64 (((k + 1) : Nat) : Int)) (ad_i (m := k) (n := 1) (by omega)) rfl (by kernel_rfl) rfl (by kernel_rfl) (by kernel_rfl) (by kernel_rfl) (by kernel_rfl) (by kernel_rfl)) ?_
        refine ok_cons (ok_mv (Or.inr rfl) (by kernel_rfl) rfl (by kernel_rfl) (by kernel_rfl)) ?_
        exact ok_nil
      clear h; intro β a w h
      replace h := St.setm h 0 (c := ai 22 (updN (suF m n k) k (dg (m - n) k))) (c' := ai 22 (suF m n (k + 1))) (t := 35) (m' := [(ai 22 (suF m n (k + 1)), 35), (ai 22 (dg n), 35), (ai 22 (fun _ => 0), 35)]) (suF_next rfl) (by kernel_rfl) (by kernel_rfl)
      replace h := St.sets h 5 (v := .int .i64 ((1 : Nat) : Int)) (v' := .int .i64 (((bo m n (k + 1)) : Nat) : Int)) (s' := [.inl (.agg (ai 22 (dg m))), .inl (.agg (ai 22 (dg n))), .inr (0, 0), .inr (1, 0), .inr (2, 0), .inl (.int .i64 (((bo m n (k + 1)) : Nat) : Int)), .inl (.int .i64 (((k + 1) : Nat) : Int)), .inl (.int .i64 (((dg (m - n) k) : Nat) : Int)), .inl (.int .i64 ((k : Nat) : Int)), .inl (.bool true), .inl (.int .i64 ((k : Nat) : Int)), .inl (.int .i64 (((k + 1) : Nat) : Int)), .inl (.int .i64 ((k : Nat) : Int)), .inr (0, k), .inl (.int .i64 (((dg m k) : Nat) : Int)), .inl (.int .i64 ((k : Nat) : Int)), .inr (1, k), .inl (.int .i64 ((((dg n) k) : Nat) : Int)), .inl (.int .i64 (((dg m k : Nat) : Int) - ((dg n k : Nat) : Int))), .inl (.int .i64 (((bo m n k) : Nat) : Int)), .inl (.int .i64 (((dg m k : Nat) : Int) - ((dg n k : Nat) : Int) - ((bo m n k : Nat) : Int))), .inl (.int .i64 (((dg m k : Nat) : Int) - ((dg n k : Nat) : Int) - ((bo m n k : Nat) : Int))), .inl (.bool true), .inl (.int .i64 (((dg m k : Nat) : Int) - ((dg n k : Nat) : Int) - ((bo m n k : Nat) : Int))), .inl (.int .i64 (((dg (m - n) k) : Nat) : Int)), .inl (.int .i64 ((k : Nat) : Int)), .inl (.int .i64 (((dg (m - n) k) : Nat) : Int)), .inr (0, k), uu]) (by rw [bo_yes hb]) (by kernel_rfl) (by kernel_rfl)
      exact ⟨hltk, _, _, _, _, _, _, _, _, _, _, _, _, _, _, _, _, _, _, _, _, _, _, h⟩
  · obtain rfl : k = 22 := by omega
    refine sym_seq ?_
    refine sym_seq ?_
    refine St.region h [.inl (.agg (ai 22 (dg m))), .inl (.agg (ai 22 (dg n))), .inr (0, 0), .inr (1, 0), .inr (2, 0), .inl (.int .i64 (((bo m n 22) : Nat) : Int)), .inl (.int .i64 ((22 : Nat) : Int)), x7, .inl (.int .i64 ((22 : Nat) : Int)), .inl (.bool false), x10, x11, x12, x13, x14, x15, x16, x17, x18, x19, x20, x21, x22, x23, x24, x25, x26, x27, uu] [(ai 22 (suF m n 22), 35), (ai 22 (dg n), 35), (ai 22 (fun _ => 0), 35)] [(ai 22 (suF m n 22), 35), (ai 22 (dg n), 35), (ai 22 (fun _ => 0), 35)] [#[], #[], #[]] [nn, nn] (by kernel_rfl) (by kernel_rfl) (by kernel_rfl) (by kernel_rfl) (by kernel_rfl) (by kernel_rfl) (by kernel_rfl) (by kernel_rfl) ?_ ?_
    · refine ok_cons (ok_mv (Or.inl rfl) (by kernel_rfl) rfl (by kernel_rfl) (by kernel_rfl)) ?_
      refine ok_cons (ok_bin (x1 := .int .i64 ((22 : Nat) : Int)) (u1 := .int .i64 ((22 : Nat) : Int)) (v := .bool false) (lt_i (m := ((22 : Nat) : Int)) (n := ((22 : Nat) : Int)) (decide_eq_false (by omega))) rfl (by kernel_rfl) rfl (by kernel_rfl) (by kernel_rfl) (by kernel_rfl) (by kernel_rfl) (by kernel_rfl)) ?_
      exact ok_nil
    clear h; intro β a w h
    refine sym_then ?_
    refine sym_cond_f h (by kernel_rfl) (by kernel_rfl) ?_
    refine wp_exit ?_
    refine then_exit ?_
    refine then_exit ?_
    refine blk_exit ?_
    refine sym_then ?_
    refine sym_seq ?_
    refine St.region h [.inl (.agg (ai 22 (dg m))), .inl (.agg (ai 22 (dg n))), .inr (0, 0), .inr (1, 0), .inr (2, 0), .inl (.int .i64 (((bo m n 22) : Nat) : Int)), .inl (.int .i64 ((22 : Nat) : Int)), x7, .inl (.int .i64 ((22 : Nat) : Int)), .inl (.bool false), x10, x11, x12, x13, x14, x15, x16, x17, x18, x19, x20, x21, x22, x23, x24, x25, x26, x27, .inl (.agg (ai 22 (suF m n 22)))] [(ai 22 (suF m n 22), 35), (ai 22 (dg n), 35), (ai 22 (suF m n 22), 35)] [(ai 22 (suF m n 22), 35), (ai 22 (dg n), 35), (ai 22 (fun _ => 0), 35)] [#[], #[], ai 22 (suF m n 22)] [⟨none, none, some 0, false⟩, ⟨none, some 2, none, false⟩] (by kernel_rfl) (by kernel_rfl) (by kernel_rfl) (by kernel_rfl) (by kernel_rfl) (by kernel_rfl) (by kernel_rfl) (by kernel_rfl) ?_ ?_
    · refine ok_cons (ok_load (b := 0) (off := 0) (c := ai 22 (suF m n 22)) (v := .agg (ai 22 (suF m n 22))) (ld22 (F := (suF m n 22)) 35) rfl (by kernel_rfl) rfl (by kernel_rfl) (by kernel_rfl) (by kernel_rfl)) ?_
      refine ok_cons (ok_store (b := 2) (off := 0) (u := .agg (ai 22 (suF m n 22))) (c := ai 22 (fun _ => 0)) (n := ai 22 (suF m n 22)) (st22 (F := (suF m n 22)) (c := ai 22 (fun _ => 0)) 35 (ai_size _ _)) rfl (by kernel_rfl) rfl (by kernel_rfl) (by kernel_rfl) (by kernel_rfl) (by kernel_rfl) (by kernel_rfl)) ?_
      exact ok_nil
    clear h; intro β a w h
    refine sym_then ?_
    refine wp_ret ?_
    exact sym_retc (b := 2) (t0 := 35) (c := ai 22 (suF m n 22)) h Try.results71 (by kernel_rfl) (by kernel_rfl) (by kernel_rfl) Try.underlying35 rfl (by rw [ai_size]; kernel_rfl) (fun hb => ⟨rfl, hb⟩)
end Go.Proofs.Ytgiemldmphbolaa

namespace Go.Proofs.Ytgiemldmphbolaa

theorem ic {a b : Nat} (h : a = b) : Value.int .i64 ((a : Nat) : Int) = Value.int .i64 ((b : Nat) : Int) := by rw [h]
/-- What is carried behind k figures. -/
def cr (F : Nat → Nat) (k : Nat) : Nat := pv F k / 4096 ^ k
theorem cr_zero (F : Nat → Nat) : cr F 0 = 0 := by simp [cr, pv]
theorem cr_sum (F : Nat → Nat) (k : Nat) : F k + cr F k = pv F (k + 1) / 4096 ^ k := by
  unfold cr
  rw [pv, Nat.add_mul_div_right _ _ (p4 k), Nat.add_comm]
theorem cr_dig (F : Nat → Nat) (k : Nat) : (F k + cr F k) % 4096 = dg (pv F (k + 1)) k := by rw [cr_sum]; rfl
theorem cr_next (F : Nat → Nat) (k : Nat) : (F k + cr F k) / 4096 = cr F (k + 1) := by
  rw [cr_sum, Nat.div_div_eq_div_mul, ← Nat.pow_succ]; rfl
theorem pv_low (F : Nat → Nat) {k j : Nat} (h : j < k) : dg (pv F (k + 1)) j = dg (pv F k) j := by
  unfold dg
  obtain ⟨e, rfl⟩ : ∃ e, k = j + 1 + e := ⟨k - (j + 1), by omega⟩
  rw [pv]
  have h1 : F (j + 1 + e) * 4096 ^ (j + 1 + e) = F (j + 1 + e) * 4096 ^ e * 4096 * 4096 ^ j := by
    rw [show j + 1 + e = e + (1 + j) by omega, Nat.pow_add, Nat.pow_add, Nat.pow_one, Nat.mul_assoc, Nat.mul_assoc, ← Nat.mul_assoc (4096 ^ e)]
  rw [h1, Nat.add_mul_div_right _ _ (p4 j), Nat.add_mul_mod_self_right]
theorem pv_lt {F : Nat → Nat} {B : Nat} (h : ∀ i, F i < B) : ∀ k, pv F k < B * 4096 ^ k := by
  intro k
  have hB : 0 < B := Nat.lt_of_le_of_lt (Nat.zero_le _) (h 0)
  induction k with
  | zero => simpa [pv] using hB
  | succ k ih =>
    have h1 : F k * 4096 ^ k ≤ B * 4096 ^ k := Nat.mul_le_mul_right _ (Nat.le_of_lt (h k))
    have h2 : B * 4096 ^ (k + 1) = 4096 * (B * 4096 ^ k) := by rw [Nat.pow_succ, Nat.mul_comm 4096, Nat.mul_assoc]
    rw [pv, h2]; omega
theorem cr_lt {F : Nat → Nat} {B : Nat} (h : ∀ i, F i < B) (k : Nat) : cr F k < B := by
  unfold cr
  rw [Nat.div_lt_iff_lt_mul (p4 k)]
  exact pv_lt h k

/-- The pass that carries, k figures done. -/
def cyF (F : Nat → Nat) (k j : Nat) : Nat := if j < k then dg (pv F k) j else F j
theorem cyF_at (F : Nat → Nat) (k : Nat) : cyF F k k = F k := by simp [cyF]
theorem cyF_zero (F : Nat → Nat) : ai 44 F = ai 44 (cyF F 0) := ai_congr fun i _ => by simp [cyF]
theorem cyF_next (F : Nat → Nat) (k : Nat) : ai 44 (updN (cyF F k) k ((cyF F k k + cr F k) % 4096)) = ai 44 (cyF F (k + 1)) := ai_congr fun i _ => by
  rw [cyF_at, cr_dig]
  unfold updN cyF
  by_cases e : i = k
  · subst e; simp
  · by_cases h : i < k
    · have h1 : i < k + 1 := by omega
      rw [if_neg e, if_pos h, if_pos h1, pv_low F h]
    · have h1 : ¬ i < k + 1 := by omega
      rw [if_neg e, if_neg h, if_neg h1]
theorem cyF_end {F : Nat → Nat} {N : Nat} (h : pv F 44 = N) : ai 44 (cyF F 44) = ai 44 (dg N) := ai_congr fun i hi => by simp [cyF, hi, h]

/-- What stands beyond 264 bits, added below, k figures done. -/
def foF (V k j : Nat) : Nat := if j < k then dg V j + 9728 * dg V (j + 22) else if 22 ≤ j ∧ j < 22 + k then 0 else dg V j
theorem foF_a {V k : Nat} (h : k < 22) : foF V k k = dg V k := by
  unfold foF; rw [if_neg (by omega), if_neg (by omega)]
theorem foF_b (V k : Nat) : foF V k (k + 22) = dg V (k + 22) := by
  unfold foF; rw [if_neg (by omega), if_neg (by omega)]
theorem foF_zero (V : Nat) : ai 44 (dg V) = ai 44 (foF V 0) := ai_congr fun i _ => by
  unfold foF; rw [if_neg (by omega), if_neg (by omega)]
theorem foF_next {V k : Nat} (h : k < 22) : ai 44 (updN (updN (foF V k) k (foF V k k + 9728 * foF V k (k + 22))) (k + 22) 0) = ai 44 (foF V (k + 1)) := ai_congr fun i _ => by
  rw [foF_a h, foF_b V k]
  unfold updN
  by_cases e1 : i = k + 22
  · subst e1; rw [if_pos rfl]; unfold foF; rw [if_neg (by omega), if_pos (by omega)]
  · rw [if_neg e1]
    by_cases e2 : i = k
    · subst e2; rw [if_pos rfl]; unfold foF; rw [if_pos (by omega)]
    · rw [if_neg e2]; unfold foF
      by_cases h1 : i < k
      · rw [if_pos h1, if_pos (by omega)]
      · rw [if_neg h1, if_neg (show ¬ i < k + 1 by omega)]
        by_cases h2 : 22 ≤ i ∧ i < 22 + k
        · rw [if_pos h2, if_pos (by omega)]
        · rw [if_neg h2, if_neg (by omega)]
def FO (V j : Nat) : Nat := if j < 22 then dg V j + 9728 * dg V (j + 22) else 0
theorem FO_lt (V j : Nat) : FO V j < 1099511627776 := by
  unfold FO
  have := dg_lt V j; have := dg_lt V (j + 22)
  split <;> omega
theorem foF_end (V : Nat) : ai 44 (foF V 22) = ai 44 (FO V) := ai_congr fun i hi => by
  unfold foF FO
  by_cases h : i < 22
  · rw [if_pos h, if_pos h]
  · rw [if_neg h, if_neg h, if_pos (by omega)]

theorem dg_shift (V j : Nat) : dg V (j + 22) = dg (V / 4096 ^ 22) j := by
  unfold dg
  rw [Nat.div_div_eq_div_mul, ← Nat.pow_add, Nat.add_comm 22 j]
theorem pv_add (F G : Nat → Nat) (c : Nat) : ∀ k, pv (fun j => F j + c * G j) k = pv F k + c * pv G k := by
  intro k
  induction k with
  | zero => simp [pv]
  | succ k ih =>
    simp only [pv, ih]
    rw [Nat.add_mul, Nat.mul_add, Nat.mul_assoc]; omega
theorem pv_zero {F : Nat → Nat} {a : Nat} : ∀ b, (∀ j, a ≤ j → j < a + b → F j = 0) → pv F (a + b) = pv F a := by
  intro b
  induction b with
  | zero => intro _; rfl
  | succ b ih =>
    intro h
    rw [show a + (b + 1) = a + b + 1 from rfl, pv, h (a + b) (by omega) (by omega), ih (fun j h1 h2 => h j h1 (by omega))]
    simp
/-- What a round leaves. -/
def TT (V : Nat) : Nat := V % 4096 ^ 22 + 9728 * (V / 4096 ^ 22)
theorem pv_FO {V : Nat} (h : V < 4096 ^ 44) : pv (FO V) 44 = TT V := by
  have h1 : pv (FO V) 44 = pv (FO V) 22 := pv_zero (a := 22) 22 (fun j h1 _ => by unfold FO; rw [if_neg (by omega)])
  have h2 : pv (FO V) 22 = pv (fun j => dg V j + 9728 * dg (V / 4096 ^ 22) j) 22 := pv_congr 22 fun i hi => by
    unfold FO; rw [if_pos hi, dg_shift]
  have h3 : V / 4096 ^ 22 % 4096 ^ 22 = V / 4096 ^ 22 := Nat.mod_eq_of_lt (Nat.div_lt_of_lt_mul (by rw [← Nat.pow_add]; exact h))
  rw [h1, h2, pv_add, pv_dg, pv_dg, h3]; rfl
theorem TT_mod (V : Nat) : TT V % pp = V % pp := by
  have h0 : 4096 ^ 22 % pp = 9728 := by decide +kernel
  have h1 : V = V % 4096 ^ 22 + 4096 ^ 22 * (V / 4096 ^ 22) := (Nat.mod_add_div _ _).symm
  have h2 : V % pp = (V % 4096 ^ 22 + 4096 ^ 22 * (V / 4096 ^ 22)) % pp := by rw [← h1]
  have h3 : 9728 % pp = 9728 := Nat.mod_eq_of_lt (by decide +kernel)
  unfold TT
  rw [h2, Nat.add_mod, Nat.mul_mod 9728, Nat.add_mod (V % 4096 ^ 22), Nat.mul_mod (4096 ^ 22), h0, h3]
def tV (N : Nat) : Nat → Nat
  | 0 => N
  | r + 1 => TT (tV N r)
theorem tV_mod (N : Nat) : ∀ r, tV N r % pp = N % pp := by
  intro r
  induction r with
  | zero => rfl
  | succ r ih => rw [tV, TT_mod, ih]
theorem TT_of_lt {V : Nat} (h : V < 4096 ^ 22) : TT V = V := by
  unfold TT; rw [Nat.mod_eq_of_lt h, Nat.div_eq_of_lt h]; omega
theorem tV_three {N : Nat} (h : N < 4096 ^ 44) : tV N 1 < 4096 ^ 44 ∧ tV N 2 < 4096 ^ 44 ∧ tV N 3 < 4096 ^ 22 := by
  have hX : (4096 : Nat) ^ 22 = 29642774844752946028434172162224104410437116074403984394101141506025761187823616 := by decide +kernel
  have hY : (4096 : Nat) ^ 44 = 29642774844752946028434172162224104410437116074403984394101141506025761187823616 * 29642774844752946028434172162224104410437116074403984394101141506025761187823616 := by decide +kernel
  have h1 : N / 4096 ^ 22 < 4096 ^ 22 := Nat.div_lt_of_lt_mul (by rw [← Nat.pow_add]; exact h)
  have g1 : N % 4096 ^ 22 < 4096 ^ 22 := Nat.mod_lt _ (p4 22)
  have b1 : tV N 1 < 9729 * 4096 ^ 22 := by
    show TT N < _
    unfold TT
    omega
  have h2 : tV N 1 / 4096 ^ 22 < 9729 := by rw [Nat.div_lt_iff_lt_mul (p4 22)]; exact b1
  have g2 : tV N 1 % 4096 ^ 22 < 4096 ^ 22 := Nat.mod_lt _ (p4 22)
  have b2 : tV N 2 < 4096 ^ 22 + 94643713 := by
    show TT (tV N 1) < _
    unfold TT
    omega
  refine ⟨by rw [hX] at b1; rw [hY]; omega, by rw [hX] at b2; rw [hY]; omega, ?_⟩
  show TT (tV N 2) < _
  by_cases hlt : tV N 2 < 4096 ^ 22
  · rw [TT_of_lt hlt]; exact hlt
  · have e1 : tV N 2 / 4096 ^ 22 = 1 := by
      refine Nat.div_eq_of_lt_le (by omega) ?_
      rw [hX] at b2 ⊢; omega
    have e2 : tV N 2 % 4096 ^ 22 = tV N 2 - 4096 ^ 22 := by
      have := Nat.mod_add_div (tV N 2) (4096 ^ 22)
      rw [e1] at this; omega
    unfold TT
    rw [e1, e2]
    rw [hX] at *; omega
theorem tV_lt {N : Nat} (h : N < 4096 ^ 44) : ∀ r, tV N r < 4096 ^ 44 ∧ (3 ≤ r → tV N r = tV N 3) := by
  have h3 := tV_three h
  have hXY : (4096 : Nat) ^ 22 < 4096 ^ 44 := by decide +kernel
  have k3 : ∀ d, tV N (3 + d) = tV N 3 := by
    intro d
    induction d with
    | zero => rfl
    | succ d ih => show TT (tV N (3 + d)) = _; rw [ih]; exact TT_of_lt h3.2.2
  intro r
  match r with
  | 0 => exact ⟨h, fun h => by omega⟩
  | 1 => exact ⟨h3.1, fun h => by omega⟩
  | 2 => exact ⟨h3.2.1, fun h => by omega⟩
  | r + 3 => rw [Nat.add_comm r 3, k3 r]; exact ⟨Nat.lt_trans h3.2.2 hXY, fun _ => rfl⟩
/-- The figures at the head of round r. -/
def oF (F : Nat → Nat) (N : Nat) : Nat → Nat → Nat
  | 0 => F
  | r + 1 => FO (tV N r)
theorem oF_lt {F : Nat → Nat} (hF : ∀ i, F i < 1099511627776) (N r i : Nat) : oF F N r i < 1099511627776 := by
  cases r with
  | zero => exact hF i
  | succ r => exact FO_lt _ _
theorem oF_pv {F : Nat → Nat} {N : Nat} (hN : pv F 44 = N) (hb : N < 4096 ^ 44) (r : Nat) : pv (oF F N r) 44 = tV N r := by
  cases r with
  | zero => exact hN
  | succ r => exact pv_FO (tV_lt hb r).1
theorem oF_end (F : Nat → Nat) {N : Nat} (hb : N < 4096 ^ 44) : ai 44 (oF F N 5) = ai 44 (dg (tV N 3)) := ai_congr fun i _ => by
  show FO (tV N 4) i = _
  rw [(tV_lt hb 4).2 (by omega)]
  have h3 := (tV_three hb).2.2
  unfold FO
  by_cases h : i < 22
  · rw [if_pos h, dg_big h3 (i + 22) (by omega)]; omega
  · rw [if_neg h, dg_big h3 i (by omega)]
end Go.Proofs.Ytgiemldmphbolaa

namespace Go.Proofs.Ytgiemldmphbolaa

/-- What one more round leaves: 2^255 counts 19. -/
def SS (U : Nat) : Nat := U % (8 * 4096 ^ 21) + 19 * (U / (8 * 4096 ^ 21))
/-- The figures behind the first three statements of a round. -/
def hF (U j : Nat) : Nat := if j = 0 then dg U 0 + 19 * (dg U 21 / 8) else if j = 21 then dg U 21 % 8 else dg U j
theorem hF_upd (U : Nat) : ∀ i, updN (updN (dg U) 21 (dg U 21 % 8)) 0 (updN (dg U) 21 (dg U 21 % 8) 0 + 19 * (dg U 21 / 8)) i = hF U i := by
  intro i
  unfold updN hF
  by_cases h : i = 0
  · subst h; simp
  · rw [if_neg h, if_neg h]
theorem hF_lt (U i : Nat) : hF U i < 1099511627776 := by
  unfold hF
  have := dg_lt U 0; have := dg_lt U 21; have := dg_lt U i
  split
  · omega
  · split <;> omega
theorem pv_upd (F : Nat → Nat) (i v : Nat) : ∀ k, i < k → pv (updN F i v) k + F i * 4096 ^ i = pv F k + v * 4096 ^ i := by
  intro k
  induction k with
  | zero => intro h; omega
  | succ k ih =>
    intro h
    by_cases e : i = k
    · subst e
      have h1 : pv (updN F i v) i = pv F i := pv_congr i fun j hj => by unfold updN; rw [if_neg (by omega)]
      have h2 : updN F i v i = v := by simp [updN]
      rw [pv, pv, h1, h2]; omega
    · have h1 := ih (by omega)
      have h2 : updN F i v k = F k := by unfold updN; rw [if_neg (by omega)]
      rw [pv, pv, h2]; omega
theorem hF_arith {P S U y z d D over m8 : Nat} (h1 : P + z = y + (z + 19 * over)) (h2 : y + d * D = U + m8 * D) (h5 : S + 8 * D * over = U) (hd : m8 + 8 * over = d) : P = S + 19 * over := by
  have e : (m8 + 8 * over) * D = m8 * D + 8 * D * over := by rw [Nat.add_mul, Nat.mul_assoc, Nat.mul_assoc, Nat.mul_comm over]
  rw [← hd, e] at h2
  omega
theorem pv_hF {U : Nat} (h : U < 4096 ^ 22) : pv (hF U) 22 = SS U := by
  have h0 : pv (hF U) 22 = pv (updN (updN (dg U) 21 (dg U 21 % 8)) 0 (updN (dg U) 21 (dg U 21 % 8) 0 + 19 * (dg U 21 / 8))) 22 := pv_congr 22 fun i _ => (hF_upd U i).symm
  have h1 := pv_upd (updN (dg U) 21 (dg U 21 % 8)) 0 (updN (dg U) 21 (dg U 21 % 8) 0 + 19 * (dg U 21 / 8)) 22 (by omega)
  have h2 := pv_upd (dg U) 21 (dg U 21 % 8) 22 (by omega)
  rw [pv_dg, Nat.mod_eq_of_lt h] at h2
  rw [← h0, Nat.pow_zero, Nat.mul_one, Nat.mul_one] at h1
  have h3 : dg U 21 = U / 4096 ^ 21 := div_top h
  have h4 : dg U 21 / 8 = U / (8 * 4096 ^ 21) := by rw [h3, Nat.div_div_eq_div_mul, Nat.mul_comm]
  have h5 := Nat.mod_add_div U (8 * 4096 ^ 21)
  rw [← h4] at h5
  have h7 := hF_arith h1 h2 h5 (Nat.mod_add_div _ _)
  rw [h7, h4]; rfl

/-- The pass whose carries stand in the row, k figures done. -/
def seF (H : Nat → Nat) (k j : Nat) : Nat := if j < k then dg (pv H k) j else if j = k then H k + cr H k else H j
theorem seF_at (H : Nat → Nat) (k : Nat) : seF H k k = H k + cr H k := by unfold seF; rw [if_neg (by omega), if_pos rfl]
theorem seF_nx (H : Nat → Nat) (k : Nat) : seF H k (k + 1) = H (k + 1) := by unfold seF; rw [if_neg (by omega), if_neg (by omega)]
theorem seF_zero {G H : Nat → Nat} (h : ∀ i, G i = H i) : ai 44 G = ai 44 (seF H 0) := ai_congr fun i _ => by
  unfold seF; rw [if_neg (by omega), h]
  split
  · rename_i e; subst e; rw [cr_zero]; rfl
  · rfl
theorem seF_next {H : Nat → Nat} {k : Nat} : ai 44 (updN (updN (seF H k) (k + 1) (seF H k (k + 1) + seF H k k / 4096)) k (updN (seF H k) (k + 1) (seF H k (k + 1) + seF H k k / 4096) k % 4096)) = ai 44 (seF H (k + 1)) := ai_congr fun i _ => by
  have e0 : updN (seF H k) (k + 1) (seF H k (k + 1) + seF H k k / 4096) k = seF H k k := by unfold updN; rw [if_neg (by omega)]
  rw [e0, seF_nx, seF_at, cr_next, cr_dig]
  unfold updN
  by_cases e1 : i = k
  · subst e1; rw [if_pos rfl]; unfold seF; rw [if_pos (by omega)]
  · rw [if_neg e1]
    by_cases e2 : i = k + 1
    · subst e2; rw [if_pos rfl]; unfold seF; rw [if_neg (by omega), if_pos rfl]
    · rw [if_neg e2]; unfold seF
      by_cases h1 : i < k
      · rw [if_pos h1, if_pos (by omega), pv_low H h1]
      · rw [if_neg h1, if_neg e1, if_neg (show ¬ i < k + 1 by omega), if_neg e2]
theorem SS_lt {U : Nat} (h : U < 4096 ^ 22) : SS U < 8 * 4096 ^ 21 + 9728 := by
  have h1 : U % (8 * 4096 ^ 21) < 8 * 4096 ^ 21 := Nat.mod_lt _ (by have := p4 21; omega)
  have h2 : U / (8 * 4096 ^ 21) < 512 := by
    rw [Nat.div_lt_iff_lt_mul (by have := p4 21; omega)]
    rw [show 512 * (8 * 4096 ^ 21) = 4096 ^ 22 by decide +kernel]; exact h
  unfold SS; omega
theorem SS_lt2 {U : Nat} (h : U < 4096 ^ 22) : SS (SS U) < 8 * 4096 ^ 21 := by
  have h1 := SS_lt h
  have hp : (4096 : Nat) ^ 21 = 7237005577332262213973186563042994240829374041602535252466099000494570602496 := by decide +kernel
  by_cases hlt : SS U < 8 * 4096 ^ 21
  · unfold SS at *
    rw [Nat.mod_eq_of_lt hlt, Nat.div_eq_of_lt hlt]; omega
  · have e1 : SS U / (8 * 4096 ^ 21) = 1 := Nat.div_eq_of_lt_le (by omega) (by rw [hp] at h1 ⊢; omega)
    have e2 : SS U % (8 * 4096 ^ 21) = SS U - 8 * 4096 ^ 21 := by
      have := Nat.mod_add_div (SS U) (8 * 4096 ^ 21)
      rw [e1] at this; omega
    show SS U % _ + 19 * (SS U / _) < _
    rw [e1, e2, hp] at *; omega
theorem SS_big {U : Nat} (h : U < 4096 ^ 22) : SS U < 4096 ^ 22 := Nat.lt_trans (SS_lt h) (by decide +kernel)
theorem SS_mod (V : Nat) : SS V % pp = V % pp := by
  have h0 : (8 * 4096 ^ 21) % pp = 19 := by decide +kernel
  have h1 : V = V % (8 * 4096 ^ 21) + (8 * 4096 ^ 21) * (V / (8 * 4096 ^ 21)) := (Nat.mod_add_div _ _).symm
  have h2 : V % pp = (V % (8 * 4096 ^ 21) + (8 * 4096 ^ 21) * (V / (8 * 4096 ^ 21))) % pp := by rw [← h1]
  have h3 : 19 % pp = 19 := Nat.mod_eq_of_lt (by decide +kernel)
  unfold SS
  rw [h2, Nat.add_mod, Nat.mul_mod 19, Nat.add_mod (V % (8 * 4096 ^ 21)), Nat.mul_mod (8 * 4096 ^ 21), h0, h3]
def uV (U : Nat) : Nat → Nat
  | 0 => U
  | r + 1 => SS (uV U r)
theorem uV_lt {U : Nat} (h : U < 4096 ^ 22) : ∀ r, uV U r < 4096 ^ 22 := by
  intro r
  induction r with
  | zero => exact h
  | succ r ih => exact SS_big ih
theorem seF_end {U : Nat} (h : U < 4096 ^ 22) : ai 44 (seF (hF U) 21) = ai 44 (dg (SS U)) := ai_congr fun i _ => by
  have hp := pv_hF h
  have hb := SS_big h
  unfold seF
  by_cases h1 : i < 21
  · rw [if_pos h1, ← hp, pv_low _ h1]
  · rw [if_neg h1]
    by_cases h2 : i = 21
    · subst h2; rw [if_pos rfl, cr_sum, hp, div_top hb]
    · rw [if_neg h2, dg_big hb i (by omega)]
      unfold hF
      rw [if_neg (by omega), if_neg h2, dg_big h i (by omega)]
/-- A copy, k figures done. -/
def cpF (V k j : Nat) : Nat := if j < k then dg V j else 0
theorem cpF_zero (V : Nat) : ai 22 (fun _ => 0) = ai 22 (cpF V 0) := ai_congr fun i _ => by simp [cpF]
theorem cpF_next (V k : Nat) : ai 22 (updN (cpF V k) k (dg V k)) = ai 22 (cpF V (k + 1)) := ai_congr fun i _ => by
  unfold updN cpF
  by_cases e : i = k
  · subst e; simp
  · have : (i < k + 1) = (i < k) := by simp; omega
    simp [e, this]
theorem cpF_end (V : Nat) : ai 22 (cpF V 22) = ai 22 (dg (V - 0 * pp)) := ai_congr fun i hi => by simp [cpF, hi]
theorem q_lt {V k : Nat} (h : k < V / pp) : pp ≤ V - k * pp := by
  have h1 : (k + 1) * pp ≤ V / pp * pp := Nat.mul_le_mul_right _ h
  have h2 : V / pp * pp ≤ V := Nat.div_mul_le_self V pp
  rw [Nat.add_mul, Nat.one_mul] at h1
  omega
theorem q_end (V : Nat) : V - V / pp * pp = V % pp := by
  have := Nat.mod_add_div V pp
  rw [Nat.mul_comm] at this; omega
theorem q_next (V k : Nat) : V - k * pp - pp = V - (k + 1) * pp := by rw [Nat.add_mul, Nat.one_mul]; omega
theorem sub_big {V k : Nat} (h : V < 4096 ^ 22) : V - k * pp < 4096 ^ 22 := Nat.lt_of_le_of_lt (Nat.sub_le _ _) h
theorem pp_big : pp < 4096 ^ 22 := by decide +kernel
end Go.Proofs.Ytgiemldmphbolaa

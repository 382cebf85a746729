/- Opposites; whether rows of whole numbers are the same; a row of noughts. -/
import Derived.Test.YtchbkkjjbdgdoaaX6
import Derived.Test.YtchbkkjjbdgdoaaM7
namespace Go.Proofs.Ytchbkkjjbdgdoaa
open Go.RowKit

section
variable {P : Program} {W : World} {ops : Array Oper} {s0 s1 : List SV} {z : List Blk} {y : List (Array Value)} {o : Oper}
theorem ok_un {p : UnOp} {t : TypeId} {x : Operand} {d : Tmp} {v x1 : Value} (hr : ∀ w, (Op.unary p x1).run P w = .ok v w) (ho : o.op = .unOp p t x) (hw : wantF ops s1 o = true) (hd : o.dst = some d) (hpx : plainB s1 x = true) (hx1 : evS s1 x = x1) (hs : slot s1 d = .inl v) : Ok1 P W ops s0 s1 z y o ⟨none, none, none, false⟩ := by
  refine ok_val hw hd hs (fun β a w ha => ?_)
  have h1 : a.eval x = x1 := by rw [← hx1]; exact ev_plain ha (by rw [ho]; simp [Op.operands]) hpx
  simp only [execOp, ho, h1, Sem.run_bind, hr w, Result.andThen_ok, Sem.run_pure]
end
theorem ng_z {z : Int} {k : Nat} (h : -z = (k : Int)) (hk : k < 9223372036854775808) (w : World) : (Op.unary .neg (.int .i64 z)).run Try.prog w = .ok (.int .i64 (k : Int)) w := by
  have h1 : IntKind.i64.wrap (-z) = (k : Int) := by rw [h]; exact wrapI _ (by omega) (by omega)
  simp [go_sem, h1]
theorem ad_z {x u : Operand} {m n : Int} (h1 : -9223372036854775808 ≤ m + n) (h2 : m + n < 9223372036854775808) (w : World) : (do eqGuard .add 3 x u (.int .i64 m) (.int .i64 n); binOp .add 3 (.int .i64 m) (.int .i64 n)).run Try.prog w = .ok (.int .i64 (m + n)) w := by
  have h3 := wrapI (m + n) h1 h2
  simp [eqGuard, binOp, go_sem, h3]
theorem bd22 (w : World) : (Instr.build 25 #[]).run Try.prog w = .ok (.agg (ai 22 (dg 0))) w := by
  have h : ai 22 (dg 0) = ⟨List.replicate 22 (.int .i64 0)⟩ := by
    rw [← ai_zero]; exact ai_congr fun i _ => by simp [dg]
  have h2 : (Instr.build 25 #[]).run Try.prog w = .ok (.agg ⟨List.replicate 22 (.int .i64 0)⟩) w := by kernel_rfl
  rw [h, h2]
theorem dg_inj {m n : Nat} (hm : m < 4096 ^ 22) (hn : n < 4096 ^ 22) (h : ∀ i, i < 22 → dg m i = dg n i) : m = n := by
  have := pv_congr (F := dg m) (G := dg n) 22 h
  rwa [pv_dg, pv_dg, Nat.mod_eq_of_lt hm, Nat.mod_eq_of_lt hn] at this
theorem eq22_run (m n : Nat) (w : World) : ∃ b : Bool, (b = true ↔ ∀ i, i < 22 → dg m i = dg n i) ∧ (Op.equalIn 10000 25 (.agg (ai 22 (dg m))) (.agg (ai 22 (dg n)))).run Try.prog w = .ok b w := by
  refine ⟨_, ?_, eq_ints (P := Try.prog) (t := 25) (e := 3) (n := 22) (k := .i64) (k' := .i64) Try.underlying25 (inf := _) rfl (by kernel_rfl) Try.underlying3 (fun _ => by kernel_rfl) (ai 22 (dg m)) (ai 22 (dg n)) (fun i => (dg m i : Int)) (fun i => (dg n i : Int)) (fun i hi => arr_get _ _ _ hi) (fun i hi => arr_get _ _ _ hi) w⟩
  rw [decide_eq_true_eq]
  constructor <;> intro hh i hi <;> have := hh i hi <;> omega
section
variable {x u : Operand}
theorem eq22_t (m : Nat) (w : World) : (do eqGuard .eql 25 x u (.agg (ai 22 (dg m))) (.agg (ai 22 (dg m))); binOp .eql 25 (.agg (ai 22 (dg m))) (.agg (ai 22 (dg m)))).run Try.prog w = .ok (.bool true) w := by
  obtain ⟨b, hb, h1⟩ := eq22_run m m w
  obtain rfl : b = true := hb.2 (fun _ _ => rfl)
  simp [eqGuard, binOp, go_sem, Op.equal, Op.maxDepth, h1]
theorem eq22_f {m n : Nat} (hm : m < 4096 ^ 22) (hn : n < 4096 ^ 22) (h : m ≠ n) (w : World) : (do eqGuard .eql 25 x u (.agg (ai 22 (dg m))) (.agg (ai 22 (dg n))); binOp .eql 25 (.agg (ai 22 (dg m))) (.agg (ai 22 (dg n)))).run Try.prog w = .ok (.bool false) w := by
  obtain ⟨b, hb, h1⟩ := eq22_run m n w
  obtain rfl : b = false := by
    cases b with
    | false => rfl
    | true => exact absurd (dg_inj hm hn (hb.1 rfl)) h
  simp [eqGuard, binOp, go_sem, Op.equal, Op.maxDepth, h1]
theorem ne22_f (m : Nat) (w : World) : (do eqGuard .neq 25 x u (.agg (ai 22 (dg m))) (.agg (ai 22 (dg m))); binOp .neq 25 (.agg (ai 22 (dg m))) (.agg (ai 22 (dg m)))).run Try.prog w = .ok (.bool false) w := by
  obtain ⟨b, hb, h1⟩ := eq22_run m m w
  obtain rfl : b = true := hb.2 (fun _ _ => rfl)
  simp [eqGuard, binOp, go_sem, Op.equal, Op.maxDepth, h1]
theorem ne22_t {m n : Nat} (hm : m < 4096 ^ 22) (hn : n < 4096 ^ 22) (h : m ≠ n) (w : World) : (do eqGuard .neq 25 x u (.agg (ai 22 (dg m))) (.agg (ai 22 (dg n))); binOp .neq 25 (.agg (ai 22 (dg m))) (.agg (ai 22 (dg n)))).run Try.prog w = .ok (.bool true) w := by
  obtain ⟨b, hb, h1⟩ := eq22_run m n w
  obtain rfl : b = false := by
    cases b with
    | false => rfl
    | true => exact absurd (dg_inj hm hn (hb.1 rfl)) h
  simp [eqGuard, binOp, go_sem, Op.equal, Op.maxDepth, h1]
end
theorem lt_big {m : Nat} (h : m < pp) : m < 4096 ^ 22 := Nat.lt_trans h pp_big

/-- A whole number's figures, k of them told. -/
def inF (N k j : Nat) : Nat := if j < k then dg N j else 0
def nq (N k : Nat) : Nat := N / 4096 ^ k
theorem nq_zero (N : Nat) : N = nq N 0 := by simp [nq]
theorem nq_next (N k : Nat) : nq N k / 4096 = nq N (k + 1) := by unfold nq; rw [Nat.div_div_eq_div_mul, ← Nat.pow_succ]
theorem nq_le (N k : Nat) : nq N k ≤ N := Nat.div_le_self _ _
theorem inF_zero (N : Nat) : ai 44 (fun _ => 0) = ai 44 (inF N 0) := ai_congr fun i _ => by simp [inF]
theorem inF_next (N k : Nat) : ai 44 (updN (inF N k) k (nq N k % 4096)) = ai 44 (inF N (k + 1)) := ai_congr fun i _ => by
  unfold updN inF nq
  by_cases e : i = k
  · subst e; simp [dg]
  · have : (i < k + 1) = (i < k) := by simp; omega
    simp [e, this]
theorem inF_lt (N k i : Nat) : inF N k i < 1099511627776 := by
  unfold inF
  have := dg_lt N i
  split <;> omega
theorem inF_pv {N : Nat} (h : N < 9223372036854775808) : pv (inF N 6) 44 = N := by
  have h1 : pv (inF N 6) 44 = pv (inF N 6) 6 := pv_zero (a := 6) 38 (fun j h1 _ => by unfold inF; rw [if_neg (by omega)])
  have h2 : pv (inF N 6) 6 = pv (dg N) 6 := pv_congr 6 fun i hi => by unfold inF; rw [if_pos hi]
  rw [h1, h2, pv_dg, Nat.mod_eq_of_lt (Nat.lt_trans h (by decide))]
end Go.Proofs.Ytchbkkjjbdgdoaa
